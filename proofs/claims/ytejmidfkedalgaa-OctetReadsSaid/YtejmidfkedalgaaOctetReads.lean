/- Walk of the law OctetReads. -/
import Derived.Test.YtejmidfkedalgaaOctAwake
import Derived.Test.YtejmidfkedalgaaOwn
namespace Go.Proofs.Ytejmidfkedalgaa.octetReads
open Go.RowKit Mem
set_option linter.unusedSimpArgs false
set_option linter.unusedVariables false
attribute [local irreducible] Go.Calls

/-- the two readers in step, what was handed in as it was -/
def ReadsAt (w : World) (l : List Int) (br : Nat) (gr : Option Nat) (bw gi : Nat) (vb : Value) (wr : World) : Prop :=
  ∃ p e, (e = 0 ∨ e = 3) ∧ OrAt wr br gr l p e ∧ RdrAt wr bw vb l p e ∧ Rd (intE .u8) wr (.slice (some ⟨gi, 0, none⟩) (l.length + 3) (l.length + 3)) (l ++ [71, 71, 71]) ∧ Below w.heap.size w wr
theorem RdrAt.other {w w' : World} {b d : Nat} {v : Value} {l : List Int} {p : Nat} {e : Int} (h : RdrAt w b v l p e) (k : Only d w w') (h1 : b ≠ d) (h2 : 0 < l.length → v.ownBlock ≠ some d) : RdrAt w' b v l p e :=
  ⟨h.1.only k h1, h.2.1.only0 k h2, h.2.2⟩
theorem gt_e {l : List Int} {p : Nat} {n e : Int} (he : e = 0 ∨ e = 3) : (gt l p e n).2.1 = 0 ∨ (gt l p e n).2.1 = 3 := tk_err he
theorem tx_e {l : List Int} {p : Nat} {e : Int} (he : e = 0 ∨ e = 3) : (tx l p e).2.1 = 0 ∨ (tx l p e).2.1 = 3 := by
  unfold tx
  split
  · exact tk_err (.inl rfl)
  · exact gt_e he
set_option maxHeartbeats 2000000 in
theorem walk (v : Value) (l : List Int) (vs : Value) (sl : List Int) (w : World) (hv : Rd (intE .u8) w v l) (hb : ∀ x ∈ l, 0 ≤ x ∧ x ≤ 255)
    (hs : Rd (intE .i64) w vs sl) (hsb : ∀ x ∈ sl, -9223372036854775808 ≤ x ∧ x ≤ 9223372036854775807) :
    Calls Try.prog 4 #[v, vs] w fun e w' => e = .returned (.bool true) ∧ Below w.heap.size w w' := by
  obtain ⟨a0, c0, rfl, hc1, hc2⟩ := hv.form
  have hc2m : c0 ≤ 9223372036854775807 := hc2
  obtain ⟨asl, gs, os, cs, rfl, hs1, hs2, hsa, hsc⟩ := Mem.Rd.loopI hs
  have hs2m : cs ≤ 9223372036854775807 := hs2
  by_cases h2000 : l.length > 2000
  · have e1 : (l.length : Int) > 2000 := by omega
    clear hsa hsc
    go_enter Try.func4, Try.ntmps4
    go_wp2_with fail
    refine (oawake_any w).mono ?_
    rintro e w1 ⟨rfl, hk1⟩
    go_wp2_with fail
    go_ret
    exact ⟨rfl, hk1⟩
  have e1 : ¬ (l.length : Int) > 2000 := by omega
  have hl2 : l.length ≤ 2000 := by omega
  have hold : ∀ h0 : 0 < l.length, ∀ {j : Nat}, (Value.slice a0 l.length c0).ownBlock = some j → j < w.heap.size := fun h0 {j} e => hv.old h0 e
  have HV := Lib.hid hv
  have HOLD : Hid (∀ h0 : 0 < l.length, ∀ {j : Nat}, (Value.slice a0 l.length c0).ownBlock = some j → j < w.heap.size) := Lib.hid hold
  have HBY : Hid (Byt l) := Lib.hid hb
  have HSA := Lib.hid hsa
  have HSC := Lib.hid hsc
  have HSB := Lib.hid hsb
  clear hv hold hb hsa hsc hsb hs h2000
  go_enter Try.func4, Try.ntmps4
  go_wp2_with fail
  refine (ownb_any _ l 71 w HV.out (by omega)).mono ?_
  rintro e w1 ⟨gi, rfl, hr1, hk1⟩
  have hgi : w.heap.size ≤ gi ∧ gi < w1.heap.size := hr1.block gi rfl
  have HV1 := Lib.hid (HV.out.keep hk1)
  have HR1 := Lib.hid hr1.rd
  have hsz1 := hk1.size
  clear hr1
  go_wp2_with fail
  refine (oread_any _ l w1 (own_rd (m := [71, 71, 71]) HR1.out) (by omega)).mono ?_
  rintro e w2 ⟨br, gr, rfl, ho2, hb2, hg2, hk2⟩
  have HV2 := Lib.hid (HV1.out.keep hk2)
  have HR2 := Lib.hid (HR1.out.keep hk2)
  have hk3 := hk1.trans (hk2.mono hk1.size)
  have hlt2 := ho2.lt
  have hsz2 := hk2.size
  clear hk1 hk2 HV1 HR1
  go_wp2_with fail
  obtain ⟨bw, hbw⟩ : ∃ bw, w2.heap.size = bw := ⟨_, rfl⟩
  have hX : Below w2.heap.size w2 (w2.alloc (Obj.cells #[Value.slice a0 l.length c0, Value.int IntKind.i64 0, Value.int IntKind.i64 0] 50)) := more (Below.refl _ _) _
  have hbk : Blk (w2.alloc (Obj.cells #[Value.slice a0 l.length c0, Value.int IntKind.i64 0, Value.int IntKind.i64 0] 50)) bw 50 #[Value.slice a0 l.length c0, Value.int IntKind.i64 0, Value.int IntKind.i64 0] := hbw ▸ Blk.new w2 _ _
  generalize w2.alloc (Obj.cells #[Value.slice a0 l.length c0, Value.int IntKind.i64 0, Value.int IntKind.i64 0] 50) = w3 at *
  have HV3 := Lib.hid (HV2.out.keep hX)
  have HR3 := Lib.hid (HR2.out.keep hX)
  have HO3 := Lib.hid (ho2.keep hX)
  have hk4 := hk3.trans (hX.mono hk3.size)
  have HG2 := Lib.hid hg2
  have hbwle : w.heap.size ≤ bw := by omega
  have hbrle : w.heap.size ≤ br := by omega
  have hbrbw : br ≠ bw := by omega
  have hgibw : gi ≠ bw := by omega
  have hgibr : gi ≠ br := by omega
  have hgrbw : gr ≠ some bw := fun e => by have := hg2 _ e; omega
  rw [hbw]
  have HBW := Lib.hid hbw
  clear hX ho2 HV2 HR2 hk3 hg2 hlt2 hbw
  refine (oawake_any w3).mono ?_
  rintro e w4 ⟨rfl, hk5⟩
  have hst : ReadsAt w l br gr bw gi (.slice a0 l.length c0) w4 := by
    refine ⟨0, 0, .inl rfl, HO3.out.keep hk5, ⟨hbk.keep hk5, HV3.out.keep hk5, Nat.zero_le _, fun h0 e => ?_⟩, HR3.out.keep hk5, hk4.trans (hk5.mono hk4.size)⟩
    have := HOLD.out h0 e
    omega
  have HST := Lib.hid hst
  clear hst hk5 hk4 HO3 HV3 HR3 hbk hb2 hsz2 hsz1 hgi
  go_wp2_with fail
  go_loopw [8] (fun i wr => ∃ k : Nat, k ≤ 40 ∧ k ≤ sl.length ∧ i = .int .i64 k ∧ ReadsAt w l br gr bw gi (.slice a0 l.length c0) wr) (fun i _ => 40 - (intOf i).toNat)
  case atStart => exact ⟨0, by omega, by omega, rfl, HST.out⟩
  case round =>
    clear HST
    obtain ⟨k, hk40, hksl, rfl, p, e, he, ho, hr, hi, hk⟩ := hrel
    by_cases hlt : k < sl.length ∧ k < 40
    · obtain ⟨hlt1, hlt2⟩ := hlt
      have q1 : (k : Int) < sl.length := by omega
      have q2 : (k : Int) < 40 := by omega
      obtain ⟨rfl, hgs⟩ := HSA.out (by omega)
      have d0 := HSC.out k hlt1
      have d1 := kc hk d0
      have hsb := HSB.out (sl.getD k 0) (by rw [show sl.getD k 0 = sl[k] by simp [List.getD, hlt1]]; exact List.getElem_mem hlt1)
      obtain ⟨sz, hsz⟩ : ∃ sz, sl.getD k 0 = sz := ⟨_, rfl⟩
      rw [hsz] at d0 d1 hsb
      have HSZ := Lib.hid hsz
      clear hsz
      have HO := Lib.hid ho
      have HR := Lib.hid hr
      have HI := Lib.hid hi
      have HK := Lib.hid hk
      clear ho hr hi hk d0
      by_cases hz : sz = 0
      · subst hz
        go_wp2_with fail
        refine (otx_any br gr l p e he wr HO.out (by omega) HBY.out).mono ?_
        rintro e1' z1 ⟨x1, rfl, hx1, ho1, hn1⟩
        have hr1 := RdrAt.other HR.out hn1 (Ne.symm hbrbw) (fun h0 e => by have := HOLD.out h0 e; omega)
        have hi1 := HI.out.only hn1 (fun e => hgibr (by have e : some gi = some br := e; injection e))
        have hk1 := HK.out.trans (hn1.below hbrle HK.out.size)
        have hbwlt : bw < wr.heap.size := HR.out.1.lt
        obtain ⟨a1, c1, rfl, _, _⟩ := hx1.rd.form
        clear HO HR HI HK hn1
        go_wp2_with fail
        refine (rrtext_any bw _ l p e he z1 hr1 (by omega) HBY.out).mono ?_
        rintro e2' z2 ⟨x2, rfl, hx2, hr2, hn2⟩
        have ho2 := ho1.only hn2 hbrbw hgrbw
        have hi2 := hi1.only hn2 (fun e => hgibw (by have e : some gi = some bw := e; injection e))
        have hk2 := hk1.trans (hn2.below hbwle hk1.size)
        have hx3 := hx1.rd.only hn2 (fun e => by have := (hx1.block bw e).1; omega)
        obtain ⟨a2, c2, rfl, _, _⟩ := hx2.rd.form
        have hx4 := hx2.rd
        have he5 := tx_e (l := l) (p := p) he
        clear hr1 hi1 hk1 ho1 hn2 hx1 hx2
        generalize tx l p e = r at *
        obtain ⟨p5, e5, m5⟩ := r
        simp only [] at ho2 hr2 hx3 hx4 he5 ⊢
        go_wp2_with fail
        refine (bytes_yes _ _ m5 z2 hx3 hx4).mono ?_
        rintro e3' z5 ⟨rfl, hb5⟩
        have ho5 := ho2.keep hb5
        have hr5 := hr2.keep hb5
        have hi5 := hi2.keep hb5
        have hk5 := hk2.trans (hb5.mono hk2.size)
        clear ho2 hr2 hi2 hk2 hb5 hx3 hx4
        go_wp2_with fail
        have hz5 : z5.cell? ⟨bw, 2, none⟩ = some (.int .i64 e5) := hr5.1.cell 2
        have HO5 := Lib.hid ho5
        have HR5 := Lib.hid hr5
        have HI5 := Lib.hid hi5
        have HK5 := Lib.hid hk5
        clear ho5 hr5 hi5 hk5
        obtain ⟨lv, hlv⟩ : ∃ lv : Int, lv = if e5 = 0 then (l.length : Int) - p5 else 0 := ⟨_, rfl⟩
        have CL : ∀ z, OrAt z br gr l p5 e5 → Calls Try.prog 19 #[.pointer (some ⟨br, 0, none⟩)] z fun e' w' => e' = .returned (.int .i64 lv) ∧ Below z.heap.size z w' := by
          intro z hz
          rw [hlv]
          exact oleft_any br gr l p5 e5 z hz
        have CR : ∀ z, RdrAt z bw (.slice a0 l.length c0) l p5 e5 → Calls Try.prog 23 #[.pointer (some ⟨bw, 0, none⟩)] z fun e' w' => e' = .returned (.int .i64 lv) ∧ Below z.heap.size z w' := by
          intro z hz
          rw [hlv]
          exact rleft_any bw _ l p5 e5 he5 z hz (by omega)
        have HCL := Lib.hid CL
        have HCR := Lib.hid CR
        clear CL CR hlv
        refine Run.region_walk (S := fun z => z.cell? ⟨bw, 2, none⟩ = some (.int .i64 e5) ∧ Below z5.heap.size z5 z)
          lreads.rows14 lreads.plan14 (l := ?steps1) (by kernel_rfl) (by kernel_rfl) (by kernel_rfl) (by kernel_rfl) ?written1 ⟨hz5, (Below.refl _ _).drew⟩ ?onward1
        case written1 =>
          simp only [lreads.plan14, Run.stepsOf, Run.stepOf, Run.guardOf, List.getElem?_toArray, List.getElem?_cons_zero, List.getElem?_cons_succ, Option.map_some, Option.map_none, Option.bind_some, Option.toList_some, List.map_cons, List.map_nil, List.cons_append, List.nil_append]
          rfl
        repeat ((first
          | (refine Run.takes (v := ?_) ?_ ?_; rotate_left; (· intro w' hS'; go_simp; (try with_reducible rfl)))
          | (refine Run.takesG (v := ?_) ?_ ?_ ?_; rotate_left; (· simp only [List.getElem?_cons_zero, List.getElem?_cons_succ]); (· intro w' hS'; go_simp; (try with_reducible rfl)))
          | (refine Run.skipsT ?_ ?_; (· simp only [List.getElem?_cons_zero, List.getElem?_cons_succ]))
          | (refine Run.skipsF ?_ ?_; (· simp only [List.getElem?_cons_zero, List.getElem?_cons_succ]))
          | (refine Run.skipsU ?_ ?_; (· simp only [List.getElem?_cons_zero, List.getElem?_cons_succ]))
          | (refine Run.passT ?_ ?_; (· simp only [List.getElem?_cons_zero, List.getElem?_cons_succ]))
          | (refine Run.passF ?_ ?_; (· simp only [List.getElem?_cons_zero, List.getElem?_cons_succ]))
          | (refine Run.passU ?_ ?_; (· simp only [List.getElem?_cons_zero, List.getElem?_cons_succ]))
          | (refine Run.runs ?_
             (first
             | (refine Run.callF 18 (by kernel_rfl) (fun hS => oerr_any br gr l p5 e5 _ (HO5.out.keep hS.2)) rfl ?_)
             | (refine Run.callG 18 (by kernel_rfl) ?_ (fun hS => oerr_any br gr l p5 e5 _ (HO5.out.keep hS.2)) rfl ?_; (· simp only [List.getElem?_cons_zero, List.getElem?_cons_succ]))
             | (refine Run.callF 19 (by kernel_rfl) (fun hS => HCL.out _ (HO5.out.keep hS.2)) rfl ?_)
             | (refine Run.callG 19 (by kernel_rfl) ?_ (fun hS => HCL.out _ (HO5.out.keep hS.2)) rfl ?_; (· simp only [List.getElem?_cons_zero, List.getElem?_cons_succ]))
             | (refine Run.callF 23 (by kernel_rfl) (fun hS => HCR.out _ (HR5.out.keep hS.2)) rfl ?_)
             | (refine Run.callG 23 (by kernel_rfl) ?_ (fun hS => HCR.out _ (HR5.out.keep hS.2)) rfl ?_; (· simp only [List.getElem?_cons_zero, List.getElem?_cons_succ]))
             | fail)
             (first
             | (rintro hS e w' ⟨rfl, rfl⟩; refine ⟨_, rfl, hS, ?_⟩)
             | (rintro hS e w' ⟨rfl, hb⟩; refine ⟨_, rfl, ⟨kc hb hS.1, nest hS.2 hb⟩, ?_⟩)
             | fail))
          | fail); simp only [Act.put, List.setIfInBounds_toArray, List.set_cons_zero, List.set_cons_succ])
        refine Run.ends (fun hS => ?_)
        have hzb := hS.2
        have HEND : Hid (ReadsAt w l br gr bw gi (.slice a0 l.length c0) _) := Lib.hid ⟨p5, e5, he5, HO5.out.keep hzb, HR5.out.keep hzb, HI5.out.keep hzb, HK5.out.trans (hzb.mono HK5.out.size)⟩
        clear hS hzb HO5 HR5 HI5 HK5 HCL HCR
        go_wp2_with fail
        exact ⟨⟨k + 1, by omega, by omega, by go_num, HEND.out⟩, by simp [intOf]; omega⟩
      · have hz1 : (sz == 0) = false := by simpa using hz
        go_wp2_with fail
        refine Run.region_walk (S := fun z => z.cell? ⟨gs, os + k, none⟩ = some (.int .i64 sz))
          lreads.rows12 lreads.plan12 (l := ?steps2) (by kernel_rfl) (by kernel_rfl) (by kernel_rfl) (by kernel_rfl) ?written2 d1 ?onward2
        case written2 =>
          simp only [lreads.plan12, Run.stepsOf, Run.stepOf, Run.guardOf, List.getElem?_toArray, List.getElem?_cons_zero, List.getElem?_cons_succ, Option.map_some, Option.map_none, Option.bind_some, Option.toList_some, List.map_cons, List.map_nil, List.cons_append, List.nil_append]
          rfl
        repeat ((first
          | (refine Run.takes (v := ?_) ?_ ?_; rotate_left; (· intro w' hS'; go_simp; (try with_reducible rfl)))
          | (refine Run.takesG (v := ?_) ?_ ?_ ?_; rotate_left; (· simp only [List.getElem?_cons_zero, List.getElem?_cons_succ]); (· intro w' hS'; go_simp; (try with_reducible rfl)))
          | (refine Run.skipsT ?_ ?_; (· simp only [List.getElem?_cons_zero, List.getElem?_cons_succ]))
          | (refine Run.skipsF ?_ ?_; (· simp only [List.getElem?_cons_zero, List.getElem?_cons_succ]))
          | (refine Run.skipsU ?_ ?_; (· simp only [List.getElem?_cons_zero, List.getElem?_cons_succ]))
          | (refine Run.passT ?_ ?_; (· simp only [List.getElem?_cons_zero, List.getElem?_cons_succ]))
          | (refine Run.passF ?_ ?_; (· simp only [List.getElem?_cons_zero, List.getElem?_cons_succ]))
          | (refine Run.passU ?_ ?_; (· simp only [List.getElem?_cons_zero, List.getElem?_cons_succ]))
          | fail); simp only [Act.put, List.setIfInBounds_toArray, List.set_cons_zero, List.set_cons_succ])
        refine Run.runs (Run.callF 17 (by kernel_rfl) (fun hS => oget_any br gr l p sz e he _ (HO.out.keep (Below.refl _ _).drew) (by omega) HBY.out) rfl ?_)
        rintro hS e1' z1 ⟨rfl, ho1, hn1⟩
        have hrd := HR.out.keep (Below.refl _ _).drew
        have hid' := HI.out.keep (Below.refl _ _).drew
        have hkd := HK.out.drew
        have hr1 := RdrAt.other hrd hn1 (Ne.symm hbrbw) (fun h0 e => by have := HOLD.out h0 e; omega)
        have hi1 := hid'.only hn1 (fun e => hgibr (by have e : some gi = some br := e; injection e))
        have hk1 := hkd.trans (hn1.below hbrle hkd.size)
        have d2 : z1.cell? ⟨gs, os + k, none⟩ = some (.int .i64 sz) := (hk1.cell (p := ⟨gs, os + k, none⟩) hgs).trans (HSC.out k hlt1 |>.trans (by rw [HSZ.out]))
        refine ⟨_, rfl, d2, ?_⟩
        simp only [Act.put, List.setIfInBounds_toArray, List.set_cons_zero, List.set_cons_succ]
        clear hS hn1 hrd hid' hkd HO HR HI HK
        refine Run.runs (Run.callF 22 (by kernel_rfl) (fun hS => rget_any bw _ l p sz e he _ hr1 (by omega) HBY.out) rfl ?_)
        rintro hS e2' z5 ⟨rfl, hr5, hn2⟩
        have ho5 := ho1.only hn2 hbrbw hgrbw
        have hi5 := hi1.only hn2 (fun e => hgibw (by have e : some gi = some bw := e; injection e))
        have hk5 := hk1.trans (hn2.below hbwle hk1.size)
        have d3 : z5.cell? ⟨gs, os + k, none⟩ = some (.int .i64 sz) := (hk5.cell (p := ⟨gs, os + k, none⟩) hgs).trans (HSC.out k hlt1 |>.trans (by rw [HSZ.out]))
        refine ⟨_, rfl, d3, ?_⟩
        simp only [Act.put, List.setIfInBounds_toArray, List.set_cons_zero, List.set_cons_succ]
        have he5 := gt_e (l := l) (p := p) (n := sz) he
        clear hS hn2 hr1 hi1 hk1 ho1 d2
        generalize gt l p e sz = r at *
        obtain ⟨p5, e5, m5⟩ := r
        simp only [] at ho5 hr5 he5 ⊢
        generalize num m5 = N at *
        repeat ((first
          | (refine Run.takes (v := ?_) ?_ ?_; rotate_left; (· intro w' hS'; go_simp; (try with_reducible rfl)))
          | (refine Run.takesG (v := ?_) ?_ ?_ ?_; rotate_left; (· simp only [List.getElem?_cons_zero, List.getElem?_cons_succ]); (· intro w' hS'; go_simp; (try with_reducible rfl)))
          | (refine Run.skipsT ?_ ?_; (· simp only [List.getElem?_cons_zero, List.getElem?_cons_succ]))
          | (refine Run.skipsF ?_ ?_; (· simp only [List.getElem?_cons_zero, List.getElem?_cons_succ]))
          | (refine Run.skipsU ?_ ?_; (· simp only [List.getElem?_cons_zero, List.getElem?_cons_succ]))
          | (refine Run.passT ?_ ?_; (· simp only [List.getElem?_cons_zero, List.getElem?_cons_succ]))
          | (refine Run.passF ?_ ?_; (· simp only [List.getElem?_cons_zero, List.getElem?_cons_succ]))
          | (refine Run.passU ?_ ?_; (· simp only [List.getElem?_cons_zero, List.getElem?_cons_succ]))
          | fail); simp only [Act.put, List.setIfInBounds_toArray, List.set_cons_zero, List.set_cons_succ])
        refine Run.ends (fun hS => ?_)
        clear hS d3 d1
        go_wp2_with fail
        have hz5 : z5.cell? ⟨bw, 2, none⟩ = some (.int .i64 e5) := hr5.1.cell 2
        have HO5 := Lib.hid ho5
        have HR5 := Lib.hid hr5
        have HI5 := Lib.hid hi5
        have HK5 := Lib.hid hk5
        clear ho5 hr5 hi5 hk5
        obtain ⟨lv, hlv⟩ : ∃ lv : Int, lv = if e5 = 0 then (l.length : Int) - p5 else 0 := ⟨_, rfl⟩
        have CL : ∀ z, OrAt z br gr l p5 e5 → Calls Try.prog 19 #[.pointer (some ⟨br, 0, none⟩)] z fun e' w' => e' = .returned (.int .i64 lv) ∧ Below z.heap.size z w' := by
          intro z hz
          rw [hlv]
          exact oleft_any br gr l p5 e5 z hz
        have CR : ∀ z, RdrAt z bw (.slice a0 l.length c0) l p5 e5 → Calls Try.prog 23 #[.pointer (some ⟨bw, 0, none⟩)] z fun e' w' => e' = .returned (.int .i64 lv) ∧ Below z.heap.size z w' := by
          intro z hz
          rw [hlv]
          exact rleft_any bw _ l p5 e5 he5 z hz (by omega)
        have HCL := Lib.hid CL
        have HCR := Lib.hid CR
        clear CL CR hlv
        refine Run.region_walk (S := fun z => z.cell? ⟨bw, 2, none⟩ = some (.int .i64 e5) ∧ Below z5.heap.size z5 z)
          lreads.rows14 lreads.plan14 (l := ?steps4) (by kernel_rfl) (by kernel_rfl) (by kernel_rfl) (by kernel_rfl) ?written4 ⟨hz5, (Below.refl _ _).drew⟩ ?onward4
        case written4 =>
          simp only [lreads.plan14, Run.stepsOf, Run.stepOf, Run.guardOf, List.getElem?_toArray, List.getElem?_cons_zero, List.getElem?_cons_succ, Option.map_some, Option.map_none, Option.bind_some, Option.toList_some, List.map_cons, List.map_nil, List.cons_append, List.nil_append]
          rfl
        repeat ((first
          | (refine Run.takes (v := ?_) ?_ ?_; rotate_left; (· intro w' hS'; go_simp; (try with_reducible rfl)))
          | (refine Run.takesG (v := ?_) ?_ ?_ ?_; rotate_left; (· simp only [List.getElem?_cons_zero, List.getElem?_cons_succ]); (· intro w' hS'; go_simp; (try with_reducible rfl)))
          | (refine Run.skipsT ?_ ?_; (· simp only [List.getElem?_cons_zero, List.getElem?_cons_succ]))
          | (refine Run.skipsF ?_ ?_; (· simp only [List.getElem?_cons_zero, List.getElem?_cons_succ]))
          | (refine Run.skipsU ?_ ?_; (· simp only [List.getElem?_cons_zero, List.getElem?_cons_succ]))
          | (refine Run.passT ?_ ?_; (· simp only [List.getElem?_cons_zero, List.getElem?_cons_succ]))
          | (refine Run.passF ?_ ?_; (· simp only [List.getElem?_cons_zero, List.getElem?_cons_succ]))
          | (refine Run.passU ?_ ?_; (· simp only [List.getElem?_cons_zero, List.getElem?_cons_succ]))
          | (refine Run.runs ?_
             (first
             | (refine Run.callF 18 (by kernel_rfl) (fun hS => oerr_any br gr l p5 e5 _ (HO5.out.keep hS.2)) rfl ?_)
             | (refine Run.callG 18 (by kernel_rfl) ?_ (fun hS => oerr_any br gr l p5 e5 _ (HO5.out.keep hS.2)) rfl ?_; (· simp only [List.getElem?_cons_zero, List.getElem?_cons_succ]))
             | (refine Run.callF 19 (by kernel_rfl) (fun hS => HCL.out _ (HO5.out.keep hS.2)) rfl ?_)
             | (refine Run.callG 19 (by kernel_rfl) ?_ (fun hS => HCL.out _ (HO5.out.keep hS.2)) rfl ?_; (· simp only [List.getElem?_cons_zero, List.getElem?_cons_succ]))
             | (refine Run.callF 23 (by kernel_rfl) (fun hS => HCR.out _ (HR5.out.keep hS.2)) rfl ?_)
             | (refine Run.callG 23 (by kernel_rfl) ?_ (fun hS => HCR.out _ (HR5.out.keep hS.2)) rfl ?_; (· simp only [List.getElem?_cons_zero, List.getElem?_cons_succ]))
             | fail)
             (first
             | (rintro hS e w' ⟨rfl, rfl⟩; refine ⟨_, rfl, hS, ?_⟩)
             | (rintro hS e w' ⟨rfl, hb⟩; refine ⟨_, rfl, ⟨kc hb hS.1, nest hS.2 hb⟩, ?_⟩)
             | fail))
          | fail); simp only [Act.put, List.setIfInBounds_toArray, List.set_cons_zero, List.set_cons_succ])
        refine Run.ends (fun hS => ?_)
        have hzb := hS.2
        have HEND : Hid (ReadsAt w l br gr bw gi (.slice a0 l.length c0) _) := Lib.hid ⟨p5, e5, he5, HO5.out.keep hzb, HR5.out.keep hzb, HI5.out.keep hzb, HK5.out.trans (hzb.mono HK5.out.size)⟩
        clear hS hzb HO5 HR5 HI5 HK5 HCL HCR
        go_wp2_with fail
        exact ⟨⟨k + 1, by omega, by omega, by go_num, HEND.out⟩, by simp [intOf]; omega⟩
    · have hout : k = 40 ∨ k = sl.length := by omega
      have HI := Lib.hid hi
      have hv9 := HV.out.keep hk
      have HV9 := Lib.hid hv9
      have HK := Lib.hid hk
      clear ho hr hi hk hv9
      by_cases hk1 : k < sl.length
      · have q1 : (k : Int) < sl.length := by omega
        have q2 : ¬ (k : Int) < 40 := by omega
        go_wp2_with fail
        refine (keptb_yes gi _ l 71 wr HI.out HV9.out (by omega)).mono ?_
        rintro e9 z9 ⟨rfl, hb9⟩
        have HZ := Lib.hid (HK.out.trans (hb9.mono HK.out.size))
        clear hb9
        go_wp2_with fail
        go_ret
        exact ⟨rfl, HZ.out⟩
      · have q1 : ¬ (k : Int) < sl.length := by omega
        go_wp2_with fail
        refine (keptb_yes gi _ l 71 wr HI.out HV9.out (by omega)).mono ?_
        rintro e9 z9 ⟨rfl, hb9⟩
        have HZ := Lib.hid (HK.out.trans (hb9.mono HK.out.size))
        clear hb9
        go_wp2_with fail
        go_ret
        exact ⟨rfl, HZ.out⟩
end Go.Proofs.Ytejmidfkedalgaa.octetReads
