/- Walk of the law LinksPoints. -/
import Derived.Test.YtoifmijbkfohhaaLkLaw
set_option maxRecDepth 4000
namespace Go.Proofs.Ytoifmijbkfohhaa.linksPoints
open Go.RowKit Mem
set_option linter.unusedSimpArgs false
set_option linter.unusedVariables false
attribute [local irreducible] Go.Calls

theorem made_ok {l : List Int} (hb : ∀ x ∈ l, 0 ≤ x ∧ x ≤ 4294967295) : okR (addsR [] (l.take 60)) := by
  have h := (addsR_facts (l.take 60) (fun x hx => hb x (List.mem_of_mem_take hx)) (l.take 60).length (Nat.le_refl _) (by simp; omega)).1
  rwa [List.take_length] at h
/-- the links of a point -/
theorem links_facts {L : List Int} (hL : okR L) (hne : L ≠ []) (p n s : Int) : LkOk L p (linksR L p n s) ∧ (linksR L p n s).length ≤ (min n 6).toNat := by
  unfold linksR
  split
  · exact outS_ok hL hne p s _
  · exact ⟨⟨List.Pairwise.nil, fun x hx => (nomatch hx)⟩, Nat.zero_le _⟩
set_option maxRecDepth 100000 in
set_option maxHeartbeats 8000000 in
theorem walk (v : Value) (l : List Int) (t : Int) (bt : -9223372036854775808 ≤ t ∧ t ≤ 9223372036854775807) (n : Int) (bn : -9223372036854775808 ≤ n ∧ n ≤ 9223372036854775807) (s : Int) (bs : 0 ≤ s ∧ s ≤ 18446744073709551615) (w : World) (h : Rd (intE .u32) w v l) (hb : ∀ x ∈ l, 0 ≤ x ∧ x ≤ 4294967295) :
    Calls Try.prog 4 #[v, .int .i64 t, .int .i64 n, .int .u64 s] w fun e w' => e = .returned (.bool true) ∧ Below w.heap.size w w' := by
  have HMD := Lib.hid (made12_any v l w h hb)
  have HO := Lib.hid (made_ok hb)
  obtain ⟨L, hL⟩ : ∃ x, x = addsR [] (l.take 60) := ⟨_, rfl⟩
  rw [← hL] at HMD HO
  have HBS := Lib.hid bs
  have HBN := Lib.hid bn
  obtain ⟨a, c, rfl, _, _⟩ := h.form
  clear h hb hL bs bn
  go_enter Try.func4, Try.ntmps4
  go_upto_region 2 with (go_at_call 6; refine HMD.out.mono ?_; rintro e w1 ⟨r, rr, rfl, hp, hk⟩)
  have HP := Lib.hid hp
  have HK := Lib.hid hk
  clear hp hk HMD
  go_upto_region 3 with (go_at_call 7; refine (dnew_any s HBS.out w1).mono ?_; rintro e w2 ⟨d, rfl, hd0, hd, hk⟩)
  have HD0 : Hid (w1.heap.size ≤ d ∧ w.heap.size ≤ d) := Lib.hid ⟨hd0, Nat.le_trans HK.out.size hd0⟩
  have HD := Lib.hid hd
  have HP2 := Lib.hid (HP.out.keep hk)
  have HK2 := Lib.hid (nest HK.out hk)
  have HRL : Hid (rr ≠ d ∧ (∀ v g, w2.cell? ⟨rr, 0, none⟩ = some v → v.ownBlock = some g → g ≠ d) ∧ ∀ W R, RgAt w2 r W R L → True) := Lib.hid (by
    have h2 := HP.out.two
    obtain ⟨v0, hv0, _, hg0, _⟩ := id h2
    refine ⟨by have := h2.lt; omega, fun v g hv hg => ?_, fun _ _ _ => trivial⟩
    rw [(hv0.keep hk).cell 0] at hv
    injection hv with hv
    subst hv
    have := (hg0 g hg).2
    omega)
  have HRG : Hid (∃ W R, RgAt w2 r W R L ∧ ¬ R d) := Lib.hid (by
    obtain ⟨W, R, h1, _⟩ := HP.out
    exact ⟨W, R, h1.keep hk, fun h => by have := h1.lt h; omega⟩)
  clear hd hd0 hk HP HK
  obtain ⟨a2, g2, o2, c2, hc0, hq1, hq2, hq3, hq4, hq5⟩ := HP2.out.two.at
  have HC0 := Lib.hid hc0
  have hq2' : c2 ≤ 9223372036854775807 := hq2
  have HQ3 := Lib.hid hq3
  have HQ4 := Lib.hid hq4
  have HQ5 := Lib.hid hq5
  have hl64 : L.length ≤ 64 := HO.out.2.2
  clear hc0 hq2 hq3 hq4 hq5
  by_cases hL0 : L = []
  · have hLz : L.length = 0 := by rw [hL0]; rfl
    have hLz2 : ((L.length : Int) == 0) = true := by rw [hLz]; rfl
    go_upto_region 4 with (go_at_call 8; refine (lkawake_any w2).mono ?_; rintro e w4 ⟨rfl, hk⟩; have d0 := kc hk HC0.out)
    have HK4 := Lib.hid (nest HK2.out hk)
    clear hk d0
    go_wp2_with (go_at_call 8; refine (lkawake_any w4).mono ?_; rintro e w5 ⟨rfl, hk⟩)
    go_ret
    exact ⟨rfl, nest HK4.out hk⟩
  have hLp : 0 < L.length := List.length_pos_iff.2 hL0
  have hLz2 : ((L.length : Int) == 0) = false := beq_eq_false_iff_ne.2 (by omega)
  obtain ⟨rfl, _⟩ := HQ3.out hLp
  have HNE := Lib.hid hL0
  go_upto_region 5 with (go_at_call 8; refine (lkawake_any w2).mono ?_; rintro e w4 ⟨rfl, hk⟩; have d0 := kc hk HC0.out)
  obtain ⟨k, hkS, hkq⟩ : ∃ k : Nat, k < L.length ∧ wrap64 ((IntKind.u64.wrap t).tmod (L.length : Int)) = (k : Int) := by
    have q0 : 0 ≤ IntKind.u64.wrap t := by rw [IntKind.wrap_u64]; omega
    have q1 : 0 ≤ (IntKind.u64.wrap t).tmod (L.length : Int) := Int.tmod_nonneg _ q0
    have q2 := Int.tmod_lt_of_pos (IntKind.u64.wrap t) (show (0 : Int) < (L.length : Int) by omega)
    refine ⟨((IntKind.u64.wrap t).tmod (L.length : Int)).toNat, by omega, ?_⟩
    unfold wrap64
    omega
  have dk := kc hk (HQ4.out k hkS)
  obtain ⟨p, hp⟩ : ∃ x, x = L.getD k 0 := ⟨_, rfl⟩
  rw [← hp] at dk
  have HPM : Hid (p ∈ L) := Lib.hid (by rw [hp, show L.getD k 0 = L[k] by simp [List.getD, hkS]]; exact List.getElem_mem hkS)
  have hkl : (k : Int) < (L.length : Int) := by omega
  have hcl : (L.length : Int) ≤ c2 := by omega
  have HK4 := Lib.hid (nest HK2.out hk)
  have HKW := Lib.hid hk
  clear hp hk
  have hw64 : IntKind.u64.wrap (L.length : Int) = (L.length : Int) := by rw [IntKind.wrap_u64]; omega
  have hlz : ¬ (L.length : Int) = 0 := by omega
  have hkq2 : IntKind.i64.wrap ((IntKind.u64.wrap t).tmod (L.length : Int)) = (k : Int) := by
    have q0 : 0 ≤ IntKind.u64.wrap t := by rw [IntKind.wrap_u64]; omega
    have q1 : 0 ≤ (IntKind.u64.wrap t).tmod (L.length : Int) := Int.tmod_nonneg _ q0
    have q2 := Int.tmod_lt_of_pos (IntKind.u64.wrap t) (show (0 : Int) < (L.length : Int) by omega)
    rw [← hkq, IntWalk.i64_in _ (by omega), IntWalk.wrap64_in _ (by omega)]
  have d1 : w4.drew.cell? ⟨rr, 0, none⟩ = some (.slice (some ⟨g2, o2, none⟩) L.length c2) := d0
  have d2 : w4.drew.cell? ⟨g2, o2 + k, none⟩ = some (.int .u32 p) := dk
  refine Run.region_walk (S := fun z => z.cell? ⟨rr, 0, none⟩ = some (.slice (some ⟨g2, o2, none⟩) L.length c2) ∧ z.cell? ⟨g2, o2 + k, none⟩ = some (.int .u32 p))
    llpoints.rows5 llpoints.plan5 (l := ?steps1) (by kernel_rfl) (by kernel_rfl) (by kernel_rfl) (by kernel_rfl) ?written1 ⟨d1, d2⟩ ?onward1
  case written1 =>
    simp only [llpoints.plan5, Run.stepsOf, Run.stepOf, Run.guardOf, List.getElem?_toArray, List.getElem?_cons_zero, List.getElem?_cons_succ, Option.map_some, Option.map_none, Option.bind_some, Option.toList_some, List.map_cons, List.map_nil, List.cons_append, List.nil_append, List.append_eq]
    rfl
  repeat ((first
    | (refine Run.takes (v := ?_) ?_ ?_; rotate_left; (· intro w' hS'; (first | (have h1 := hS'.1; have h2 := hS'.2; go_simp; done) | (go_simp; (try with_reducible rfl)))))
    | (refine Run.takesG (v := ?_) ?_ ?_ ?_; rotate_left; (· simp only [List.getElem?_cons_zero, List.getElem?_cons_succ]); (· intro w' hS'; (first | (have h1 := hS'.1; have h2 := hS'.2; go_simp; done) | (go_simp; (try with_reducible rfl)))))
    | (refine Run.skipsT ?_ ?_; (· simp only [List.getElem?_cons_zero, List.getElem?_cons_succ]))
    | (refine Run.skipsF ?_ ?_; (· simp only [List.getElem?_cons_zero, List.getElem?_cons_succ]))
    | (refine Run.skipsU ?_ ?_; (· simp only [List.getElem?_cons_zero, List.getElem?_cons_succ]))
    | (refine Run.passT ?_ ?_; (· simp only [List.getElem?_cons_zero, List.getElem?_cons_succ]))
    | (refine Run.passF ?_ ?_; (· simp only [List.getElem?_cons_zero, List.getElem?_cons_succ]))
    | (refine Run.passU ?_ ?_; (· simp only [List.getElem?_cons_zero, List.getElem?_cons_succ]))
    | fail); simp only [Act.put, List.setIfInBounds_toArray, List.set_cons_zero, List.set_cons_succ])
  refine Run.ends (fun _ => ?_)
  clear hw64 hlz hkq hkq2 d1 d2 d0 dk
  obtain ⟨m, hm, hmb⟩ : ∃ m : Int, wrap64 ((IntKind.u64.wrap n).tmod 10) = m ∧ 0 ≤ m ∧ m ≤ 9 := by
    have q0 : 0 ≤ IntKind.u64.wrap n := by rw [IntKind.wrap_u64]; omega
    have q1 : 0 ≤ (IntKind.u64.wrap n).tmod 10 := Int.tmod_nonneg _ q0
    have q2 := Int.tmod_lt_of_pos (IntKind.u64.wrap n) (show (0 : Int) < 10 by omega)
    exact ⟨wrap64 ((IntKind.u64.wrap n).tmod 10), rfl, by unfold wrap64; omega, by unfold wrap64; omega⟩
  have HMB := Lib.hid hmb
  clear hmb
  go_upto_region 7 with fail
  rw [hm]
  clear hm
  have hRR : RrAt w4.drew rr L := (HP2.out.two.keep HKW.out).keep (Below.refl _ _).drew
  go_upto_region 8 with (go_at_call 16; refine (rrnext_any rr L p _ hRR).mono ?_; rintro e w5 ⟨rfl, hk5⟩)
  have HK5 : Hid (Below w2.heap.size w2 w5) := Lib.hid (nest HKW.out.drew hk5)
  clear hRR hk5 hkl hcl
  obtain ⟨nx, hnx⟩ : ∃ x, x = (nextR L p).1 := ⟨_, rfl⟩
  rw [← hnx]
  have HNX := Lib.hid hnx
  generalize (nextR L p).2 = nis
  clear hnx
  have HOF : Hid (Calls Try.prog 9 #[.pointer (some ⟨r, 0, none⟩), .int .u32 p, .int .i64 m, .pointer (some ⟨d, 0, none⟩)] w5 fun e w' => ∃ v, e = .returned v ∧ Rd (intE .u32) w' v (linksR L p m s) ∧ DAt w' d (linksE L p m s) ∧ Turned (fun j => j = d) w5 w') := Lib.hid (by
    obtain ⟨W, R, h1, h2⟩ := HRG.out
    exact lkof_any r d W R L p m s w5 (h1.keep HK5.out) (HD.out.keep HK5.out) h2 HBS.out (HO.out.2.1 p HPM.out) (by have := HMB.out; omega))
  go_upto_region 9 with (go_at_call 9; refine HOF.out.mono ?_; rintro e w6 ⟨vx, rfl, hvx, _, ht6⟩)
  have HLK := Lib.hid (links_facts HO.out HNE.out p m s)
  obtain ⟨S, hS⟩ : ∃ x, x = linksR L p m s := ⟨_, rfl⟩
  rw [← hS] at hvx HLK
  have HT6 : Hid (Turned (fun j => j = d) w2 w6) := Lib.hid ((Turned.of_below HK5.out).trans ht6 (fun _ _ h => h))
  have HK6 : Hid (Below w.heap.size w w6) := Lib.hid (HK2.out.trans (HT6.out.below HK2.out.size (fun j hj => by rw [hj]; exact HD0.out.2)))
  have HVX := Lib.hid hvx
  obtain ⟨ax, gx, ox, cx, rfl, hcx, hmx, hax, hex⟩ := Mem.Rd.loopI hvx
  have hmx' : cx ≤ 9223372036854775807 := hmx
  have HAX := Lib.hid hax
  have HEX := Lib.hid hex
  have HC6 := Lib.hid (HT6.out.cell HC0.out (fun e => HRL.out.1 e))
  have HV6 : Hid (Rd (intE .u32) w6 (.slice (some ⟨g2, o2, none⟩) L.length c2) L) := Lib.hid (HQ5.out.turned HT6.out (fun g hg he => HRL.out.2.1 _ g HC0.out hg he))
  clear hvx ht6 hax hex hmx hS HOF
  go_upto_block 99 with fail
  go_loopw [16] (fun iv wr => ∃ i : Nat, i ≤ S.length ∧ iv = .int .i64 i ∧ Below w6.heap.size w6 wr) (fun iv _ => S.length - (intOf iv).toNat)
  case atStart => exact ⟨0, Nat.zero_le _, rfl, Below.refl _ _⟩
  case round =>
    obtain ⟨i, hi, rfl, hk⟩ := hrel
    have HKI := Lib.hid hk
    have d0 := kc hk HC6.out
    have HIN : Hid (∀ z x, Below w6.heap.size w6 z → Calls Try.prog 17 #[.slice (some ⟨g2, o2, none⟩) L.length c2, .int .u32 x] z fun e w' => e = .returned (.bool (L.contains x)) ∧ Below z.heap.size z w') := Lib.hid (fun z x hz => inU_any _ L x z (HV6.out.keep hz))
    by_cases hlt : i < S.length
    · skip
      as_aux_lemma =>
        obtain ⟨rfl, _⟩ := HAX.out (by omega)
        have e0 := kc hk (HEX.out i hlt)
        have hm : S.getD i 0 ∈ S := by rw [show S.getD i 0 = S[i] by simp [List.getD, hlt]]; exact List.getElem_mem hlt
        have HMX := Lib.hid (HLK.out.1.2 _ hm)
        have HLT : Hid (0 < i → stp p (S.getD (i - 1) 0) < stp p (S.getD i 0)) := Lib.hid (fun h0 => by
          have := List.pairwise_iff_getElem.1 HLK.out.1.1 (i - 1) i (by omega) hlt (by omega)
          rwa [show S.getD (i - 1) 0 = S[i - 1]'(by omega) by simp [List.getD, show i - 1 < S.length by omega], show S.getD i 0 = S[i] by simp [List.getD, hlt]])
        obtain ⟨x, hx⟩ : ∃ x, x = S.getD i 0 := ⟨_, rfl⟩
        rw [← hx] at e0 HMX HLT
        have hc1 : L.contains x = true := by simpa using HMX.out.1
        have hx1 : (x == p) = false := beq_eq_false_iff_ne.2 HMX.out.2.1
        have hx2 : (x == nx) = false := beq_eq_false_iff_ne.2 (by rw [HNX.out]; exact HMX.out.2.2)
        have hil : (i : Int) < (S.length : Int) := by omega
        have hcl : (S.length : Int) ≤ cx := by omega
        have HINX : Hid (∀ z, Below w6.heap.size w6 z → Calls Try.prog 17 #[.slice (some ⟨g2, o2, none⟩) L.length c2, .int .u32 x] z fun e w' => e = .returned (.bool true) ∧ Below z.heap.size z w') := Lib.hid (fun z hz => by have := HIN.out z x hz; rwa [hc1] at this)
        have HIS : Hid (i < S.length ∧ S.length ≤ 6) := Lib.hid ⟨hlt, by have := HLK.out.2; have := HMB.out; omega⟩
        clear hm hx hc1 hi hlt
        by_cases hi0 : i = 0
        · have hi1 : ¬ (i : Int) > 0 := by omega
          have hi2 : ¬ 0 < i := by omega
          clear hi0
          go_upto_region 11 with fail
          have d1 : wr.drew.cell? ⟨rr, 0, none⟩ = some (.slice (some ⟨g2, o2, none⟩) L.length c2) := d0
          have e1 : wr.drew.cell? ⟨gx, ox + i, none⟩ = some (.int .u32 x) := e0
          refine Run.region_walk (S := fun z => z.cell? ⟨rr, 0, none⟩ = some (.slice (some ⟨g2, o2, none⟩) L.length c2) ∧ z.cell? ⟨gx, ox + i, none⟩ = some (.int .u32 x) ∧ Below w6.heap.size w6 z)
            llpoints.rows11 llpoints.plan11 (l := ?steps2) (by kernel_rfl) (by kernel_rfl) (by kernel_rfl) (by kernel_rfl) ?written2 ⟨d1, e1, HKI.out.drew⟩ ?onward2
          case written2 =>
            simp only [llpoints.plan11, Run.stepsOf, Run.stepOf, Run.guardOf, List.getElem?_toArray, List.getElem?_cons_zero, List.getElem?_cons_succ, Option.map_some, Option.map_none, Option.bind_some, Option.toList_some, List.map_cons, List.map_nil, List.cons_append, List.nil_append, List.append_eq]
            rfl
          repeat ((first
            | (refine Run.takes (v := ?_) ?_ ?_; rotate_left; (· intro w' hS'; (first | (have h1 := hS'.1; have h2 := hS'.2.1; go_simp; done) | (go_simp; (try with_reducible rfl)))))
            | (refine Run.takesG (v := ?_) ?_ ?_ ?_; rotate_left; (· simp only [List.getElem?_cons_zero, List.getElem?_cons_succ]); (· intro w' hS'; (first | (have h1 := hS'.1; have h2 := hS'.2.1; go_simp; done) | (go_simp; (try with_reducible rfl)))))
            | (refine Run.skipsT ?_ ?_; (· simp only [List.getElem?_cons_zero, List.getElem?_cons_succ]))
            | (refine Run.skipsF ?_ ?_; (· simp only [List.getElem?_cons_zero, List.getElem?_cons_succ]))
            | (refine Run.skipsU ?_ ?_; (· simp only [List.getElem?_cons_zero, List.getElem?_cons_succ]))
            | (refine Run.passT ?_ ?_; (· simp only [List.getElem?_cons_zero, List.getElem?_cons_succ]))
            | (refine Run.passF ?_ ?_; (· simp only [List.getElem?_cons_zero, List.getElem?_cons_succ]))
            | (refine Run.passU ?_ ?_; (· simp only [List.getElem?_cons_zero, List.getElem?_cons_succ]))
            | (refine Run.runs ?_
               (first
               | (refine Run.callF 17 (by kernel_rfl) (fun hS => HINX.out _ hS.2.2) rfl ?_)
               | (refine Run.callG 17 (by kernel_rfl) ?_ (fun hS => HINX.out _ hS.2.2) rfl ?_; (· simp only [List.getElem?_cons_zero, List.getElem?_cons_succ]))
               | fail)
               (first
               | (rintro hS e w' ⟨rfl, rfl⟩; refine ⟨_, rfl, hS, ?_⟩)
               | (rintro hS e w' ⟨rfl, hb⟩; refine ⟨_, rfl, ⟨kc hb hS.1, kc hb hS.2.1, nest hS.2.2 hb⟩, ?_⟩)
               | fail))
            | fail); simp only [Act.put, List.setIfInBounds_toArray, List.set_cons_zero, List.set_cons_succ])
          refine Run.ends (fun hS => ?_)
          have HKE := Lib.hid hS.2.2
          clear hS d1 e1 d0 e0
          go_wp2_with fail
          exact ⟨⟨i + 1, by have := HIS.out; omega, by have := HIS.out; go_num, HKE.out⟩, by have := HIS.out; simp [intOf]; omega⟩
        · have hi1 : (i : Int) > 0 := by omega
          have hi2 : 0 < i := by omega
          have f0 := kc hk (HEX.out (i - 1) (by have := HIS.out; omega))
          have hlt := HLT.out hi2
          obtain ⟨y, hy⟩ : ∃ y, y = S.getD (i - 1) 0 := ⟨_, rfl⟩
          rw [← hy] at f0 hlt
          unfold stp at hlt
          have hle : ¬ IntKind.u32.wrap (x - p) ≤ IntKind.u32.wrap (y - p) := by
            have q1 : IntKind.u32.wrap (x - p) = (x - p) % 4294967296 := rfl
            have q2 : IntKind.u32.wrap (y - p) = (y - p) % 4294967296 := rfl
            omega
          have hiS : i - 1 < S.length := by have := HIS.out; omega
          have HIW : Hid (IntKind.i64.wrap ((i : Int) - 1) = ((i - 1 : Nat) : Int)) := Lib.hid (by have := HIS.out; rw [IntWalk.i64_in _ (by omega)]; omega)
          obtain ⟨j, hj⟩ : ∃ j, j = i - 1 := ⟨_, rfl⟩
          have hjw : IntKind.i64.wrap ((i : Int) - 1) = (j : Int) := by rw [hj]; exact HIW.out
          have hjl : (j : Int) < (S.length : Int) := by omega
          rw [← hj] at f0
          clear hi0 hy hlt hiS hj
          go_upto_region 11 with fail
          have d1 : wr.drew.cell? ⟨rr, 0, none⟩ = some (.slice (some ⟨g2, o2, none⟩) L.length c2) := d0
          have e1 : wr.drew.cell? ⟨gx, ox + i, none⟩ = some (.int .u32 x) := e0
          have f1 : wr.drew.cell? ⟨gx, ox + j, none⟩ = some (.int .u32 y) := f0
          refine Run.region_walk (S := fun z => z.cell? ⟨rr, 0, none⟩ = some (.slice (some ⟨g2, o2, none⟩) L.length c2) ∧ z.cell? ⟨gx, ox + i, none⟩ = some (.int .u32 x) ∧ z.cell? ⟨gx, ox + j, none⟩ = some (.int .u32 y) ∧ Below w6.heap.size w6 z)
            llpoints.rows11 llpoints.plan11 (l := ?steps3) (by kernel_rfl) (by kernel_rfl) (by kernel_rfl) (by kernel_rfl) ?written3 ⟨d1, e1, f1, HKI.out.drew⟩ ?onward3
          case written3 =>
            simp only [llpoints.plan11, Run.stepsOf, Run.stepOf, Run.guardOf, List.getElem?_toArray, List.getElem?_cons_zero, List.getElem?_cons_succ, Option.map_some, Option.map_none, Option.bind_some, Option.toList_some, List.map_cons, List.map_nil, List.cons_append, List.nil_append, List.append_eq]
            rfl
          repeat ((first
            | (refine Run.takes (v := ?_) ?_ ?_; rotate_left; (· intro w' hS'; (first | (have h1 := hS'.1; have h2 := hS'.2.1; have h3 := hS'.2.2.1; go_simp; done) | (go_simp; (try with_reducible rfl)))))
            | (refine Run.takesG (v := ?_) ?_ ?_ ?_; rotate_left; (· simp only [List.getElem?_cons_zero, List.getElem?_cons_succ]); (· intro w' hS'; (first | (have h1 := hS'.1; have h2 := hS'.2.1; have h3 := hS'.2.2.1; go_simp; done) | (go_simp; (try with_reducible rfl)))))
            | (refine Run.skipsT ?_ ?_; (· simp only [List.getElem?_cons_zero, List.getElem?_cons_succ]))
            | (refine Run.skipsF ?_ ?_; (· simp only [List.getElem?_cons_zero, List.getElem?_cons_succ]))
            | (refine Run.skipsU ?_ ?_; (· simp only [List.getElem?_cons_zero, List.getElem?_cons_succ]))
            | (refine Run.passT ?_ ?_; (· simp only [List.getElem?_cons_zero, List.getElem?_cons_succ]))
            | (refine Run.passF ?_ ?_; (· simp only [List.getElem?_cons_zero, List.getElem?_cons_succ]))
            | (refine Run.passU ?_ ?_; (· simp only [List.getElem?_cons_zero, List.getElem?_cons_succ]))
            | (refine Run.runs ?_
               (first
               | (refine Run.callF 17 (by kernel_rfl) (fun hS => HINX.out _ hS.2.2.2) rfl ?_)
               | (refine Run.callG 17 (by kernel_rfl) ?_ (fun hS => HINX.out _ hS.2.2.2) rfl ?_; (· simp only [List.getElem?_cons_zero, List.getElem?_cons_succ]))
               | fail)
               (first
               | (rintro hS e w' ⟨rfl, rfl⟩; refine ⟨_, rfl, hS, ?_⟩)
               | (rintro hS e w' ⟨rfl, hb⟩; refine ⟨_, rfl, ⟨kc hb hS.1, kc hb hS.2.1, kc hb hS.2.2.1, nest hS.2.2.2 hb⟩, ?_⟩)
               | fail))
            | fail); simp only [Act.put, List.setIfInBounds_toArray, List.set_cons_zero, List.set_cons_succ])
          refine Run.ends (fun hS => ?_)
          have HKE := Lib.hid hS.2.2.2
          clear hS d1 e1 d0 e0 f0 f1
          go_wp2_with fail
          exact ⟨⟨i + 1, by have := HIS.out; omega, by have := HIS.out; go_num, HKE.out⟩, by have := HIS.out; simp [intOf]; omega⟩
    · have hil : ¬ (i : Int) < (S.length : Int) := by omega
      obtain ⟨nm, hnm⟩ : ∃ x, (if 6 < m then 6 else m) = x := ⟨_, rfl⟩
      have hfin : (S.length : Int) ≤ nm := by have := HLK.out.2; have := HMB.out; rw [← hnm]; split <;> omega
      have hmi : min m 6 = nm := by rw [← hnm]; split <;> omega
      have hdec : decide ((S.length : Int) ≤ nm) = true := decide_eq_true hfin
      go_wp2_with fail
      go_ret
      exact ⟨rfl, HK6.out.trans (HKI.out.mono HK6.out.size)⟩
end Go.Proofs.Ytoifmijbkfohhaa.linksPoints
