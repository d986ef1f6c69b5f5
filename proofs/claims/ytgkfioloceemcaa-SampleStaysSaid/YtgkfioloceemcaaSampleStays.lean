/- Walk of the law SampleStays. -/
import Derived.Test.YtgkfioloceemcaaSaLaw
import Derived.Test.YtgkfioloceemcaaFroms
import Derived.Test.YtgkfioloceemcaaRgPair
import Derived.Test.YtgkfioloceemcaaLdPlans
set_option maxRecDepth 4000
namespace Go.Proofs.Ytgkfioloceemcaa.sampleStays
open Go.RowKit Mem
set_option linter.unusedSimpArgs false
set_option linter.unusedVariables false
attribute [local irreducible] Go.Calls

set_option maxRecDepth 100000 in
set_option maxHeartbeats 8000000 in
theorem walk (v : Value) (l : List Int) (u : Value) (F : List (List Int)) (at_ : Int) (ba : -9223372036854775808 ≤ at_ ∧ at_ ≤ 9223372036854775807) (steps : Int) (bn : -9223372036854775808 ≤ steps ∧ steps ≤ 9223372036854775807) (s : Int) (bs : 0 ≤ s ∧ s ≤ 18446744073709551615) (w : World) (h : Rd (intE .u32) w v l) (hb : ∀ x ∈ l, 0 ≤ x ∧ x ≤ 4294967295) (hu : fromsK.rd w [u] F) :
    Calls Try.prog 5 #[v, u, .int .i64 at_, .int .i64 steps, .int .u64 s] w fun e w' => e = .returned (.bool true) ∧ Below w.heap.size w w' := by
  obtain ⟨a, g, o, c, rfl, hc, hm, ha, hcells⟩ := Mem.Rd.loopI h
  have hm' : c ≤ 9223372036854775807 := hm
  have HA := Lib.hid ha
  have HC := Lib.hid hcells
  have HB := Lib.hid hb
  obtain ⟨au, cu, rfl, hcu, hmu, hau⟩ := froms_at hu
  have hmu' : cu ≤ 9223372036854775807 := hmu
  have HAU := Lib.hid hau
  have HBS := Lib.hid bs
  clear h ha hcells hm hb hu hmu hau ba bn bs
  go_enter Try.func5, Try.ntmps5
  go_upto_region 2 with (go_at_call 7; refine (rgnew_any w).mono ?_; rintro e w1 ⟨r, W, R, rfl, hp, hr, hk⟩)
  have hX : Below w1.heap.size w1 (w1.alloc (.cells #[.slice none 0 0] 30)) := more (Below.refl _ _) _
  have hbl : Blk (w1.alloc (.cells #[.slice none 0 0] 30)) w1.heap.size 30 #[.slice none 0 0] := Blk.new _ _ _
  have HP := Lib.hid (Pr.new (B := w.heap.size) (rg_new hp hr (Nat.le_refl _)) hX ⟨_, hbl, Rd.nil _ _ (Nat.zero_le _), fun g hg => (by cases hg), ⟨List.Pairwise.nil, fun x hx => (nomatch hx), Nat.zero_le _⟩⟩ (Nat.le_refl _) (fun v g hv hg => by rw [hbl.cell 0] at hv; injection hv with hv; subst hv; cases hg) hk.size)
  have HK := Lib.hid (nest hk hX)
  clear hp hr hk hX hbl
  generalize w1.alloc (.cells #[.slice none 0 0] 30) = w2 at *
  generalize w1.heap.size = rr at *
  go_upto_block 0 with fail
  go_cut [13] from 24 to 45 (fun iv wx => Pr w.heap.size wx r rr (addsR [] (l.take 30)) (addsR [] (l.take 30)) ∧ Below w.heap.size w wx)
  case first =>
    go_upto_block 99 with fail
    go_loopw [13] (fun iv wr => ∃ i : Nat, i ≤ l.length ∧ i ≤ 30 ∧ iv = .int .i64 i ∧ Pr w.heap.size wr r rr (addsR [] (l.take i)) (addsR [] (l.take i)) ∧ Below w.heap.size w wr) (fun iv _ => 30 - (intOf iv).toNat)
    case atStart => exact ⟨0, Nat.zero_le _, Nat.zero_le _, rfl, HP.out, HK.out⟩
    case round =>
      obtain ⟨i, hi, hi60, rfl, hpr, hbw⟩ := hrel
      have HPR := Lib.hid hpr
      have HKI := Lib.hid hbw
      clear hpr hbw HP HK
      by_cases hlt : i < l.length ∧ i < 30
      · obtain ⟨h1, h2⟩ := hlt
        obtain ⟨rfl, hg⟩ := HA.out (by omega)
        have d0 := kc HKI.out (HC.out i h1)
        have HSL := Lib.hid (addsR_step [] h1)
        have HBX : Hid (0 ≤ l.getD i 0 ∧ l.getD i 0 ≤ 4294967295) := Lib.hid (HB.out _ (by rw [show l.getD i 0 = l[i] by simp [List.getD, h1]]; exact List.getElem_mem h1))
        obtain ⟨x, hx⟩ : ∃ x, x = l.getD i 0 := ⟨_, rfl⟩
        rw [← hx] at d0 HSL HBX
        have HC0 : Hid (w.cell? ⟨g, o + i, none⟩ = some (.int .u32 x)) := Lib.hid (by rw [hx]; exact HC.out i h1)
        have hil : (i : Int) < (l.length : Int) := by omega
        have hcl : (l.length : Int) ≤ c := by omega
        have hi60' : (i : Int) < 30 := by omega
        clear hx hg
        go_upto_region 6 with (go_at_call 8; refine (pr_gadd w.heap.size r rr _ _ x wr HPR.out HKI.out.size HBX.out).mono ?_; rintro e w3 ⟨rfl, hp, hk⟩)
        have HP3 := Lib.hid hp
        have HK3 := Lib.hid (HKI.out.trans hk)
        clear hp hk d0
        have d1 := kc HK3.out HC0.out
        go_wp2_with (go_at_call 9; refine (pr_radd w.heap.size r rr _ _ x w3 HP3.out HK3.out.size HBX.out).mono ?_; rintro e w4 ⟨rfl, hp, hk⟩)
        exact ⟨⟨i + 1, by omega, by omega, by go_num, by rw [HSL.out]; exact hp, HK3.out.trans hk⟩, by simp [intOf]; omega⟩
      have HE : Hid (l.take i = l.take 30) := Lib.hid (by
        by_cases h1 : i < l.length
        · rw [show i = 30 by omega]
        · rw [List.take_of_length_le (by omega), List.take_of_length_le (by omega)])
      rcases (show ¬ (i : Int) < (l.length : Int) ∨ ((i : Int) < (l.length : Int) ∧ ¬ (i : Int) < 30) by omega) with q | ⟨q1, q2⟩
      all_goals
        go_wp2_with fail
        go_meet
        case rel => exact ⟨by rw [← HE.out]; exact HPR.out, HKI.out⟩
  case rest =>
  obtain ⟨hpr, hbw⟩ := hcut
  obtain ⟨w5, hw5⟩ : ∃ z, z = wc := ⟨_, rfl⟩
  subst hw5
  have HPR := Lib.hid hpr
  have HKI := Lib.hid hbw
  have HO : Hid (okR (addsR [] (l.take 30))) := Lib.hid hpr.two.ok
  obtain ⟨L, hL⟩ : ∃ q, q = addsR [] (l.take 30) := ⟨_, rfl⟩
  rw [← hL] at HPR HO
  clear hpr hbw hL HA HC HB HP HK
  obtain ⟨a2, g2, o2, c2, hc0, _⟩ := HPR.out.two.at
  by_cases hL0 : L = []
  · have hLz2 : ((L.length : Int) == 0) = true := by rw [hL0]; rfl
    go_wp2_with (go_at_call 10; refine (saawake_any w5).mono ?_; rintro e w7 ⟨rfl, hk⟩)
    go_ret
    exact ⟨rfl, nest HKI.out hk⟩
  have hLp : 0 < L.length := List.length_pos_iff.2 hL0
  have HLP := Lib.hid hLp
  have hLz2 : ((L.length : Int) == 0) = false := beq_eq_false_iff_ne.2 (by omega)
  have hmk := run_makeMap_none (P := Try.prog) (t := 33) Try.underlying33
  go_upto_region 10 with fail
  clear hmk
  have hX : Below w5.heap.size w5 (w5.alloc (.map #[] 0)) := more (Below.refl _ _) _
  have HLO0 := Lib.hid (LinksOld.made w w5)
  have HX := Lib.hid hX
  clear hX
  have HP5 := Lib.hid HPR.out
  have HK5 := Lib.hid HKI.out
  clear HPR HKI
  clear hc0 hL0 hLp hLz2
  obtain ⟨a2, g2, o2, c2, hc0, hq1, hq2, hq3, hq4, hq5⟩ := HP5.out.two.at
  have HC0 := Lib.hid hc0
  have hq2' : c2 ≤ 9223372036854775807 := hq2
  have HQ3 := Lib.hid hq3
  have HQ4 := Lib.hid hq4
  have HQ5 := Lib.hid hq5
  have hl64 : L.length ≤ 64 := HO.out.2.2
  clear hc0 hq2 hq3 hq4 hq5
  generalize w5.alloc (.map #[] 0) = w6 at *
  obtain ⟨gm, hgm⟩ : ∃ q, q = w5.heap.size := ⟨_, rfl⟩
  rw [← hgm] at HLO0 ⊢
  have HGM := Lib.hid hgm
  clear hgm
  go_upto_block 2 with fail
  go_cut [15] from 54 to 87 (fun iv wx => ∃ K, LinksOld w wx gm K ∧ (∀ o, (K o).length ≤ 20) ∧ Below w5.heap.size w5 wx)
  case first =>
    go_upto_block 99 with fail
    go_loopw [15] (fun iv wr => ∃ i : Nat, i ≤ L.length ∧ i ≤ F.length ∧ iv = .int .i64 i ∧ LinksOld w wr gm (kOf L F i) ∧ (∀ o, (kOf L F i o).length ≤ 20) ∧ Below w5.heap.size w5 wr) (fun iv _ => L.length - (intOf iv).toNat)
    case atStart => exact ⟨0, Nat.zero_le _, Nat.zero_le _, rfl, HLO0.out, fun _ => Nat.zero_le _, HX.out⟩
    case round =>
      obtain ⟨i, hiL, hiF, rfl, hlo, hk20, hk⟩ := hrel
      have HLO := Lib.hid hlo
      have HKI := Lib.hid hk
      have HK20 := Lib.hid hk20
      have d0 := kc hk HC0.out
      clear hlo hk hk20 HLO0 HX
      by_cases hgo : i < L.length ∧ i < F.length
      · skip
        as_aux_lemma =>
          obtain ⟨h1, h2⟩ := hgo
          obtain ⟨gu, ou, rfl, hel⟩ := HAU.out (by omega)
          obtain ⟨rfl, _⟩ := HQ3.out (by omega)
          obtain ⟨uu, hcu0, hru, hbu⟩ := hel i h2
          obtain ⟨ax, cx, rfl, _, _⟩ := hru.form
          have e0 := kc (nest HK5.out HKI.out) hcu0
          have HRU := Lib.hid hru
          have HBU := Lib.hid hbu
          have f0 := kc HKI.out (HQ4.out i h1)
          have HLI : Hid (0 ≤ L.getD i 0 ∧ L.getD i 0 ≤ 4294967295) := Lib.hid (HO.out.2.1 _ (by rw [show L.getD i 0 = L[i] by simp [List.getD, h1]]; exact List.getElem_mem h1))
          have HNEW := Lib.hid (kOf_new HO.out.1 F h1)
          obtain ⟨FS, hFS⟩ : ∃ q, q = F.getD i [] := ⟨_, rfl⟩
          have HFSE := Lib.hid hFS
          rw [← hFS] at HRU HBU HNEW e0
          obtain ⟨li, hli⟩ : ∃ q, q = L.getD i 0 := ⟨_, rfl⟩
          rw [← hli] at HLI HNEW f0
          have h1i : (i : Int) < (L.length : Int) := by omega
          have h2i : (i : Int) < (F.length : Int) := by omega
          have hcl : (L.length : Int) ≤ c2 := by omega
          have hcf : (F.length : Int) ≤ cu := by omega
          have HILT : Hid (i < L.length ∧ i < F.length ∧ L.length ≤ 64) := Lib.hid ⟨h1, h2, hl64⟩
          clear hel hcu0 hru hbu hFS hli h1 h2
          by_cases h20 : 20 < FS.length
          · have h20i : (20 : Int) < (FS.length : Int) := by omega
            go_wp2_with (go_at_call 10; refine (saawake_any wr).mono ?_; rintro e w7 ⟨rfl, hk⟩)
            go_ret
            exact ⟨rfl, nest (nest HK5.out HKI.out) hk⟩
          have h20i : ¬ (20 : Int) < (FS.length : Int) := by omega
          have HF20 : Hid (FS.length ≤ 20) := Lib.hid (by omega)
          clear h20
          go_upto_region 15 with fail
          clear h20i
          have d1 : wr.drew.cell? ⟨rr, 0, none⟩ = some (.slice (some ⟨g2, o2, none⟩) L.length c2) := d0
          have e1 : wr.drew.cell? ⟨gu, ou + i, none⟩ = some (.slice ax FS.length cx) := e0
          have f1 : wr.drew.cell? ⟨g2, o2 + i, none⟩ = some (.int .u32 li) := f0
          have HLO1 := Lib.hid (HLO.out.keep (Below.refl _ _).drew)
          have HKD : Hid (Below w5.heap.size w5 wr.drew) := Lib.hid HKI.out.drew
          refine Run.region_walk (S := fun z => z.cell? ⟨rr, 0, none⟩ = some (.slice (some ⟨g2, o2, none⟩) L.length c2) ∧ z.cell? ⟨gu, ou + i, none⟩ = some (.slice ax FS.length cx) ∧ z.cell? ⟨g2, o2 + i, none⟩ = some (.int .u32 li))
            lsstays.rows14 lsstays.plan14 (l := ?_) (by kernel_rfl) (by kernel_rfl) (by kernel_rfl) (by kernel_rfl) ?_ ⟨d1, e1, f1⟩ ?_
          rotate_left
          (· simp only [lsstays.plan14, Run.stepsOf, Run.stepOf, Run.guardOf, List.getElem?_toArray, List.getElem?_cons_zero, List.getElem?_cons_succ, Option.map_some, Option.map_none, Option.bind_some, Option.toList_some, List.map_cons, List.map_nil, List.cons_append, List.nil_append, List.append_eq]
             rfl)
          repeat ((first
            | (refine Run.takes (v := ?_) ?_ ?_; rotate_left; (· intro w' hS'; (first | (have h1 := hS'.1; have h2 := hS'.2.1; have h3 := hS'.2.2; go_simp; done) | (go_simp; (try with_reducible rfl)))))
            | (refine Run.takesG (v := ?_) ?_ ?_ ?_; rotate_left; (· simp only [List.getElem?_cons_zero, List.getElem?_cons_succ]); (· intro w' hS'; (first | (have h1 := hS'.1; have h2 := hS'.2.1; have h3 := hS'.2.2; go_simp; done) | (go_simp; (try with_reducible rfl)))))
            | (refine Run.skipsT ?_ ?_; (· simp only [List.getElem?_cons_zero, List.getElem?_cons_succ]))
            | (refine Run.skipsF ?_ ?_; (· simp only [List.getElem?_cons_zero, List.getElem?_cons_succ]))
            | (refine Run.skipsU ?_ ?_; (· simp only [List.getElem?_cons_zero, List.getElem?_cons_succ]))
            | (refine Run.passT ?_ ?_; (· simp only [List.getElem?_cons_zero, List.getElem?_cons_succ]))
            | (refine Run.passF ?_ ?_; (· simp only [List.getElem?_cons_zero, List.getElem?_cons_succ]))
            | (refine Run.passU ?_ ?_; (· simp only [List.getElem?_cons_zero, List.getElem?_cons_succ]))
            | fail); simp only [Act.put, List.setIfInBounds_toArray, List.set_cons_zero, List.set_cons_succ])
          obtain ⟨M, hm, hM2, hM3⟩ := HLO1.out
          have HMA := Lib.hid hm
          have HM2 := Lib.hid hM2
          have HM3 := Lib.hid hM3
          clear hm hM2 hM3 HLO HLO1
          refine Run.runs (Run.one (fun hS K1 hK1 => ?_))
          refine wp_store_map rfl u32K Try.underlying33 rfl HMA.out (li, (FS, .slice ax FS.length cx)) rfl rfl (u32key HLI.out) ?_
          intro z3 M3 hm3 hmem3 ho3
          have hcn : ∀ o y, wr.drew.cell? ⟨gm, o, none⟩ ≠ some y := fun o y e => by
            obtain ⟨es, clock, hb, _⟩ := HMA.out
            simp [World.cell?, hb] at e
          have ht3 : Turned (fun j => j = gm) wr.drew z3 := Turned.of_only ho3 rfl
          refine hK1.out _ _ ⟨ht3.cell d1 (fun e => hcn 0 _ (by rw [show rr = gm from e] at d1; exact d1)), ht3.cell e1 (fun e => hcn _ _ (by rw [show gu = gm from e] at e1; exact e1)), ht3.cell f1 (fun e => hcn _ _ (by rw [show g2 = gm from e] at f1; exact f1))⟩ ?_
          have HLN : Hid (LinksOld w z3 gm (kOf L F (i + 1))) := Lib.hid (LinksOld.lay HM2.out HM3.out hm3 hmem3 HLI.out HRU.out HBU.out HNEW.out.1 HNEW.out.2)
          have HLN20 := Lib.hid (kOf_len (L := L) (F := F) (i := i) HK20.out (by rw [← HFSE.out]; exact HF20.out))
          have HK3' : Hid (Below w5.heap.size w5 z3) := Lib.hid (HKD.out.trans (ho3.below (by rw [HGM.out]; exact Nat.le_refl _) HKD.out.size))
          clear hK1 K1 hS hm3 hmem3 ho3 hcn ht3 d1 e1 f1 d0 e0 f0
          try simp only [Act.put, List.setIfInBounds_toArray, List.set_cons_zero, List.set_cons_succ]
          refine Run.ends (fun _ => ?_)
          go_wp2_with fail
          exact ⟨⟨i + 1, by have := HILT.out; omega, by have := HILT.out; omega, by have := HILT.out; go_num, HLN.out, HLN20.out, HK3'.out⟩, by have := HILT.out; simp [intOf]; omega⟩
      · rcases (show ¬ (i : Int) < (L.length : Int) ∨ ((i : Int) < (L.length : Int) ∧ ¬ (i : Int) < (F.length : Int)) by omega) with q1 | ⟨q1, q2⟩
        all_goals
          go_wp2_with fail
          go_meet
          case rel => exact ⟨_, HLO.out, HK20.out, HKI.out⟩
  case rest =>
  obtain ⟨K, hlo, hk20, hk⟩ := hcut
  obtain ⟨w7, hw7⟩ : ∃ z, z = wc := ⟨_, rfl⟩
  subst hw7
  have HLI := Lib.hid (hlo.is (nest HK5.out hk))
  have HK20 := Lib.hid hk20
  have HP7 := Lib.hid (HP5.out.keep hk)
  have HK7 := Lib.hid (nest HK5.out hk)
  have HC7 := Lib.hid (kc hk HC0.out)
  have HQ37 := Lib.hid (fun h => (HQ3.out h).1)
  have HQ47 := Lib.hid (fun i hi => kc hk (HQ4.out i hi))
  have HV7 := Lib.hid (HQ5.out.keep hk)
  clear hlo hk20 hk HLO0 HX HP5 HK5 HQ3 HQ4 HQ5 HC0 HAU HGM
  obtain ⟨k, hkS, hkq⟩ : ∃ k : Nat, k < L.length ∧ wrap64 ((IntKind.u64.wrap at_).tmod (L.length : Int)) = (k : Int) := by
    have q0 : 0 ≤ IntKind.u64.wrap at_ := by rw [IntKind.wrap_u64]; omega
    have hLp := HLP.out
    have q1 : 0 ≤ (IntKind.u64.wrap at_).tmod (L.length : Int) := Int.tmod_nonneg _ q0
    have q2 := Int.tmod_lt_of_pos (IntKind.u64.wrap at_) (show (0 : Int) < (L.length : Int) by omega)
    refine ⟨((IntKind.u64.wrap at_).tmod (L.length : Int)).toNat, by omega, ?_⟩
    unfold wrap64
    omega
  obtain rfl := HQ37.out HLP.out
  have dk := HQ47.out k hkS
  have d0 := HC7.out
  obtain ⟨p, hp⟩ : ∃ x, x = L.getD k 0 := ⟨_, rfl⟩
  rw [← hp] at dk
  have HPM : Hid (p ∈ L) := Lib.hid (by rw [hp, show L.getD k 0 = L[k] by simp [List.getD, hkS]]; exact List.getElem_mem hkS)
  have hkl : (k : Int) < (L.length : Int) := by omega
  have hcl : (L.length : Int) ≤ c2 := by omega
  have hw64 : IntKind.u64.wrap (L.length : Int) = (L.length : Int) := by rw [IntKind.wrap_u64]; omega
  have hlz : ¬ (L.length : Int) = 0 := by omega
  have hLne : ¬ L = [] := fun e => by have := HLP.out; rw [e] at this; simp at this
  have hkq2 : IntKind.i64.wrap ((IntKind.u64.wrap at_).tmod (L.length : Int)) = (k : Int) := by
    have q0 : 0 ≤ IntKind.u64.wrap at_ := by rw [IntKind.wrap_u64]; omega
    have q1 : 0 ≤ (IntKind.u64.wrap at_).tmod (L.length : Int) := Int.tmod_nonneg _ q0
    have q2 := Int.tmod_lt_of_pos (IntKind.u64.wrap at_) (show (0 : Int) < (L.length : Int) by omega)
    rw [← hkq, IntWalk.i64_in _ (by omega), IntWalk.wrap64_in _ (by omega)]
  clear hp HQ37
  go_upto_region 16 with fail
  have d1 : w7.drew.cell? ⟨rr, 0, none⟩ = some (.slice (some ⟨g2, o2, none⟩) L.length c2) := d0
  have d2 : w7.drew.cell? ⟨g2, o2 + k, none⟩ = some (.int .u32 p) := dk
  refine Run.region_walk (S := fun z => z.cell? ⟨rr, 0, none⟩ = some (.slice (some ⟨g2, o2, none⟩) L.length c2) ∧ z.cell? ⟨g2, o2 + k, none⟩ = some (.int .u32 p))
    lsstays.rows16 lsstays.plan16 (l := ?steps2) (by kernel_rfl) (by kernel_rfl) (by kernel_rfl) (by kernel_rfl) ?written2 ⟨d1, d2⟩ ?onward2
  case written2 =>
    simp only [lsstays.plan16, Run.stepsOf, Run.stepOf, Run.guardOf, List.getElem?_toArray, List.getElem?_cons_zero, List.getElem?_cons_succ, Option.map_some, Option.map_none, Option.bind_some, Option.toList_some, List.map_cons, List.map_nil, List.cons_append, List.nil_append, List.append_eq]
    rfl
  repeat ((first
    | (refine Run.takes (v := ?_) ?_ ?_; rotate_left; (· intro w' hS'; (first | (have h1 := hS'.1; have h2 := hS'.2; go_simp; done) | (go_simp; (try with_reducible rfl)))))
    | (refine Run.takesG (v := ?_) ?_ ?_ ?_; rotate_left; (· simp only [List.getElem?_cons_zero, List.getElem?_cons_succ]); (· intro w' hS'; (first | (have h1 := hS'.1; have h2 := hS'.2; go_simp; done) | (go_simp; (try with_reducible rfl)))))
    | (refine Run.skipsT ?_ ?_; (· simp only [List.getElem?_cons_zero, List.getElem?_cons_succ]))
    | (refine Run.skipsF ?_ ?_; (· simp only [List.getElem?_cons_zero, List.getElem?_cons_succ]))
    | (refine Run.skipsU ?_ ?_; (· simp only [List.getElem?_cons_zero, List.getElem?_cons_succ]))
    | (refine Run.passT ?_ ?_; (· simp only [List.getElem?_cons_zero, List.getElem?_cons_succ]))
    | (refine Run.passF ?_ ?_; (· simp only [List.getElem?_cons_zero, List.getElem?_cons_succ]))
    | (refine Run.passU ?_ ?_; (· simp only [List.getElem?_cons_zero, List.getElem?_cons_succ]))
    | fail); simp only [Act.put, List.setIfInBounds_toArray, List.set_cons_zero, List.set_cons_succ])
  refine Run.ends (fun _ => ?_)
  clear hw64 hlz hLne hkq hkq2 d1 d2 d0 dk hkl hcl hkS HQ47
  have HDR : Hid (Below w7.heap.size w7 w7.drew) := Lib.hid (Below.refl _ _).drew
  have HP8 := Lib.hid (HP7.out.keep HDR.out)
  have HK8 := Lib.hid (nest HK7.out HDR.out)
  have HV8 := Lib.hid (HV7.out.keep HDR.out)
  have HC8 := Lib.hid (kc HDR.out HC7.out)
  have HLI8 := Lib.hid (HLI.out.keep HDR.out)
  clear HP7 HK7 HV7 HC7 HLI HDR
  generalize w7.drew = w8 at *
  obtain ⟨m, hm, hmq⟩ : ∃ m : Nat, m ≤ 49 ∧ wrap64 ((IntKind.u64.wrap steps).tmod 50) = (m : Int) := by
    have q0 : 0 ≤ IntKind.u64.wrap steps := by rw [IntKind.wrap_u64]; omega
    have q1 : 0 ≤ (IntKind.u64.wrap steps).tmod 50 := Int.tmod_nonneg _ q0
    have q2 := Int.tmod_lt_of_pos (IntKind.u64.wrap steps) (show (0 : Int) < 50 by omega)
    exact ⟨((IntKind.u64.wrap steps).tmod 50).toNat, by omega, by unfold wrap64; omega⟩
  have HM := Lib.hid hm
  clear hm
  go_upto_region 18 with fail
  rw [hmq]
  clear hmq
  go_wp2_with fail
  refine (dnew_any s HBS.out w8).mono ?_
  rintro e w9 ⟨d, rfl, hd0, hd, hk⟩
  obtain ⟨W, R, hg, _⟩ := id HP8.out
  have HG9 := Lib.hid (hg.keep hk)
  have HND : Hid (¬ R d) := Lib.hid (fun h => by have := hg.lt h; omega)
  have HCP : Hid (L.contains p = true) := Lib.hid (by have := HPM.out; simpa using this)
  have HST : Hid (stepsN (m : Int) = m) := Lib.hid (by have := HM.out; unfold stepsN; omega)
  have HSW := Lib.hid (swalk_any r d W R L K (.map (some gm)) p m s w9 HG9.out (HLI8.out.keep hk) (fun o => by have := HK20.out o; omega) hd HND.out HBS.out (HO.out.2.1 _ HPM.out) (by have := HM.out; omega))
  rw [show walkR L K p (m : Int) s = walkL L K p s m by unfold walkR; rw [HCP.out, if_pos rfl, HST.out]] at HSW
  have HDD : Hid (w8.heap.size ≤ d) := Lib.hid hd0
  have HK9 := Lib.hid hk
  clear hd0 hd hk hg
  go_wp2_with fail
  refine HSW.out.mono ?_
  rintro e w10 ⟨x, rfl, hx, _, _, ht⟩
  have HX10 := Lib.hid hx
  have HB10 := Lib.hid (sa_turn HK9.out ht HDD.out (Nat.le_refl _))
  obtain ⟨aX, gX, oX, cX, rfl, hcX, hmX, haX, hceX⟩ := Mem.Rd.loopI hx
  rw [walkL_len] at hcX haX hceX ⊢
  have HCX : Hid (∀ i : Nat, i ≤ m → w10.cell? ⟨gX, oX + i, none⟩ = some (.int .u32 (hops L K p s i).1)) := Lib.hid (fun i hi => by rw [← walkL_at L K p s hi]; exact hceX i (Nat.lt_succ_of_le hi))
  obtain ⟨rfl, _⟩ := haX (Nat.succ_pos m)
  have hmX' : cX ≤ 9223372036854775807 := hmX
  clear hx ht hceX haX hmX HSW HG9 HND HX10 HK9
  have HK10 := Lib.hid (nest HK8.out HB10.out)
  have hm49 : (m : Int) ≤ 49 := by have := HM.out; omega
  go_wp2_with fail
  refine (saawake_any w10).mono ?_
  rintro e w11 ⟨rfl, hk⟩
  have HB11 := Lib.hid (nest HB10.out hk)
  have HCX11 : Hid (∀ i : Nat, i ≤ m → w11.cell? ⟨gX, oX + i, none⟩ = some (.int .u32 (hops L K p s i).1)) := Lib.hid (fun i hi => kc hk (HCX.out i hi))
  have f0 : w11.cell? ⟨gX, oX, none⟩ = some (.int .u32 p) := by have := HCX11.out 0 (Nat.zero_le _); rwa [Nat.add_zero] at this
  clear hk HCX HB10 HK10
  have hX0 : (0 : Int) < (m : Int) + 1 := by omega
  go_upto_region 21 with fail
  clear f0 hX0
  go_upto_block 99 with fail
  go_loopw [18] (fun iv wr => ∃ i : Nat, 1 ≤ i ∧ i ≤ m + 1 ∧ iv = .int .i64 i ∧ Below w11.heap.size w11 wr) (fun iv _ => m + 1 - (intOf iv).toNat)
  case atStart => exact ⟨1, Nat.le_refl _, by omega, rfl, Below.refl _ _⟩
  case round =>
    obtain ⟨i, hi1, him, rfl, hbw⟩ := hrel
    have HBW := Lib.hid hbw
    clear hbw
    obtain ⟨w12, hw12⟩ : ∃ z, z = wr := ⟨_, rfl⟩
    subst hw12
    by_cases hlt : i < m + 1
    · have hlt' : (i : Int) < (m : Int) + 1 := by omega
      have hi50 : (i : Int) < 50 := by omega
      obtain ⟨k, hk⟩ : ∃ k : Nat, k = i - 1 := ⟨_, rfl⟩
      have hkl : (k : Int) < (m : Int) + 1 := by omega
      have f0 := kc HBW.out (HCX11.out k (by omega))
      have f1 := kc HBW.out (HCX11.out i (by omega))
      have HHM := Lib.hid (hop_mem (L := L) (fun e => by have := HLP.out; rw [e] at this; simp at this) K (hops L K p s k))
      rw [← hops_succ, show k + 1 = i by omega] at HHM
      have HMK := Lib.hid (hops_mem (K := K) (s := s) HPM.out k)
      generalize (hops L K p s k).1 = y at *
      generalize (hops L K p s i).1 = y1 at *
      have HILT : Hid (i < m + 1 ∧ 1 ≤ i ∧ m ≤ 49) := Lib.hid ⟨hlt, hi1, HM.out⟩
      have hbz := nest HB11.out HBW.out
      have HRR := Lib.hid (HP8.out.keep hbz).two
      have HVZ := Lib.hid (HV8.out.keep hbz)
      have HCZ := Lib.hid (kc hbz HC8.out)
      have HYB := Lib.hid (HO.out.2.1 y HMK.out)
      obtain ⟨uK, hlk, huK⟩ := (HLI8.out.keep hbz).lookAll HYB.out
      have HLK := Lib.hid hlk
      have HUK := Lib.hid huK
      obtain ⟨aK, cK, rfl, _, _⟩ := huK.form
      have HNX := Lib.hid (rrnext_any rr L y w12 HRR.out)
      generalize (nextR L y).2 = nb at *
      generalize (nextR L y).1 = nx at *
      have hkw : IntKind.i64.wrap ((i : Int) - 1) = (k : Int) := by rw [IntWalk.i64_in _ (by omega)]; omega
      clear hk hbz hlk huK hlt hi1 him
      go_upto_region 25 with (go_at_call 14; refine HNX.out.mono ?_; rintro e w14 ⟨rfl, hk⟩)
      have HK14 := Lib.hid hk
      have g1 := kc hk f0
      have g2' := kc hk f1
      have g3 := kc hk HCZ.out
      have HIN1 : Hid (∀ z, Below w12.heap.size w12 z → Calls Try.prog 13 #[.slice (some ⟨g2, o2, none⟩) L.length c2, .int .u32 y1] z fun e w' => e = .returned (.bool true) ∧ Below z.heap.size z w') := Lib.hid (fun z hz => by
        have h1 := inU_any _ L y1 z (HVZ.out.keep hz)
        rwa [show L.contains y1 = true by have := HHM.out.1; simpa using this] at h1)
      clear hk HNX f0 f1
      have G1 : w14.drew.cell? ⟨gX, oX + k, none⟩ = some (.int .u32 y) := g1
      have G2 : w14.drew.cell? ⟨gX, oX + i, none⟩ = some (.int .u32 y1) := g2'
      have G3 : w14.drew.cell? ⟨rr, 0, none⟩ = some (.slice (some ⟨g2, o2, none⟩) L.length c2) := g3
      clear g1 g2' g3
      by_cases he : y1 = nx
      · subst he
        refine Run.region_walk (S := fun z => z.cell? ⟨gX, oX + k, none⟩ = some (.int .u32 y) ∧ z.cell? ⟨gX, oX + i, none⟩ = some (.int .u32 y1) ∧ z.cell? ⟨rr, 0, none⟩ = some (.slice (some ⟨g2, o2, none⟩) L.length c2) ∧ Below w14.heap.size w14 z)
          lsstays.rows24 lsstays.plan24b (l := ?steps3) (by kernel_rfl) (by kernel_rfl) (by kernel_rfl) (by kernel_rfl) ?written3 ⟨G1, G2, G3, (Below.refl _ _).drew⟩ ?onward3
        case written3 =>
          simp only [lsstays.plan24b, Run.stepsOf, Run.stepOf, Run.guardOf, List.getElem?_toArray, List.getElem?_cons_zero, List.getElem?_cons_succ, Option.map_some, Option.map_none, Option.bind_some, Option.toList_some, List.map_cons, List.map_nil, List.cons_append, List.nil_append, List.append_eq]
          rfl
        repeat ((first
          | (refine Run.takes (v := ?_) ?_ ?_; rotate_left; (· intro w' hS'; (first | (have h1 := hS'.1; have h2 := hS'.2.1; have h3 := hS'.2.2.1; go_simp; done) | (go_simp; (try with_reducible rfl)))))
          | (refine Run.takesG (v := ?_) ?_ ?_ ?_; rotate_left; (· simp only [List.getElem?_cons_zero, List.getElem?_cons_succ]); (· intro w' hS'; (first | (have h1 := hS'.1; have h2 := hS'.2.1; have h3 := hS'.2.2.1; go_simp; done) | (go_simp; (try with_reducible rfl)))))
          | (refine Run.skipsT ?_ ?_; (· simp only [List.getElem?_cons_zero, List.getElem?_cons_succ]))
          | (refine Run.skipsF ?_ ?_; (· simp only [List.getElem?_cons_zero, List.getElem?_cons_succ]))
          | (refine Run.skipsU ?_ ?_; (· simp only [List.getElem?_cons_zero, List.getElem?_cons_succ]))
          | (refine Run.passT ?_ ?_; (· simp only [List.getElem?_cons_zero, List.getElem?_cons_succ]))
          | (refine Run.passF ?_ ?_; (· simp only [List.getElem?_cons_zero, List.getElem?_cons_succ]))
          | (refine Run.passU ?_ ?_; (· simp only [List.getElem?_cons_zero, List.getElem?_cons_succ]))
          | (refine Run.runs ?_
             (first
             | (refine Run.callF 13 (by kernel_rfl) (fun hS => HIN1.out _ (nest HK14.out hS.2.2.2)) rfl ?_)
             | (refine Run.callG 13 (by kernel_rfl) ?_ (fun hS => HIN1.out _ (nest HK14.out hS.2.2.2)) rfl ?_; (· simp only [List.getElem?_cons_zero, List.getElem?_cons_succ]))
             | fail)
             (first
             | (rintro hS e w' ⟨rfl, rfl⟩; refine ⟨_, rfl, hS, ?_⟩)
             | (rintro hS e w' ⟨rfl, hb⟩; refine ⟨_, rfl, ⟨kc hb hS.1, kc hb hS.2.1, kc hb hS.2.2.1, nest hS.2.2.2 hb⟩, ?_⟩)
             | fail))
          | fail); simp only [Act.put, List.setIfInBounds_toArray, List.set_cons_zero, List.set_cons_succ])
        refine Run.ends (fun hS => ?_)
        have HKZ := Lib.hid (nest HBW.out (nest HK14.out hS.2.2.2))
        clear hS G1 G2 G3 hkw
        go_wp2_with fail
        exact ⟨⟨i + 1, by have := HILT.out; omega, by have := HILT.out; omega, by have := HILT.out; go_num, HKZ.out⟩, by have := HILT.out; simp [intOf]; omega⟩
      · have hne : (y1 == nx) = false := beq_eq_false_iff_ne.2 he
        have hne2 : (y1 != nx) = true := by simp [bne, hne]
        have HIN2 : Hid (∀ z, Below w12.heap.size w12 z → Calls Try.prog 13 #[.slice aK (K y).length cK, .int .u32 y1] z fun e w' => e = .returned (.bool true) ∧ Below z.heap.size z w') := Lib.hid (fun z hz => by
          have h1 := inU_any _ (K y) y1 z (HUK.out.keep hz)
          rwa [show (K y).contains y1 = true by have := (HHM.out.2).resolve_left he; simpa using this] at h1)
        refine Run.region_walk (S := fun z => z.cell? ⟨gX, oX + k, none⟩ = some (.int .u32 y) ∧ z.cell? ⟨gX, oX + i, none⟩ = some (.int .u32 y1) ∧ z.cell? ⟨rr, 0, none⟩ = some (.slice (some ⟨g2, o2, none⟩) L.length c2) ∧ Below w14.heap.size w14 z)
          lsstays.rows24 lsstays.plan24b (l := ?steps4) (by kernel_rfl) (by kernel_rfl) (by kernel_rfl) (by kernel_rfl) ?written4 ⟨G1, G2, G3, (Below.refl _ _).drew⟩ ?onward4
        case written4 =>
          simp only [lsstays.plan24b, Run.stepsOf, Run.stepOf, Run.guardOf, List.getElem?_toArray, List.getElem?_cons_zero, List.getElem?_cons_succ, Option.map_some, Option.map_none, Option.bind_some, Option.toList_some, List.map_cons, List.map_nil, List.cons_append, List.nil_append, List.append_eq]
          rfl
        repeat ((first
          | (refine Run.takes (v := ?_) ?_ ?_; rotate_left; (· intro w' hS'; (first | (refine exec_look1 (m := .tmp 165) (x := .tmp 170) (r := .slice aK (K y).length cK) (u := .map (some gm)) (k := .int .u32 y) (t := 33) ?_ ?_ ?_ (HLK.out _ (nest HK14.out hS'.2.2.2)) <;> rfl) | (have h1 := hS'.1; have h2 := hS'.2.1; have h3 := hS'.2.2.1; go_simp; done) | (go_simp; (try with_reducible rfl)))))
          | (refine Run.takesG (v := ?_) ?_ ?_ ?_; rotate_left; (· simp only [List.getElem?_cons_zero, List.getElem?_cons_succ]); (· intro w' hS'; (first | (refine exec_look1 (m := .tmp 165) (x := .tmp 170) (r := .slice aK (K y).length cK) (u := .map (some gm)) (k := .int .u32 y) (t := 33) ?_ ?_ ?_ (HLK.out _ (nest HK14.out hS'.2.2.2)) <;> rfl) | (have h1 := hS'.1; have h2 := hS'.2.1; have h3 := hS'.2.2.1; go_simp; done) | (go_simp; (try with_reducible rfl)))))
          | (refine Run.skipsT ?_ ?_; (· simp only [List.getElem?_cons_zero, List.getElem?_cons_succ]))
          | (refine Run.skipsF ?_ ?_; (· simp only [List.getElem?_cons_zero, List.getElem?_cons_succ]))
          | (refine Run.skipsU ?_ ?_; (· simp only [List.getElem?_cons_zero, List.getElem?_cons_succ]))
          | (refine Run.passT ?_ ?_; (· simp only [List.getElem?_cons_zero, List.getElem?_cons_succ]))
          | (refine Run.passF ?_ ?_; (· simp only [List.getElem?_cons_zero, List.getElem?_cons_succ]))
          | (refine Run.passU ?_ ?_; (· simp only [List.getElem?_cons_zero, List.getElem?_cons_succ]))
          | (refine Run.runs ?_
             (first
             | (refine Run.callF 13 (by kernel_rfl) (fun hS => HIN1.out _ (nest HK14.out hS.2.2.2)) rfl ?_)
             | (refine Run.callG 13 (by kernel_rfl) ?_ (fun hS => HIN1.out _ (nest HK14.out hS.2.2.2)) rfl ?_; (· simp only [List.getElem?_cons_zero, List.getElem?_cons_succ]))
             | (refine Run.callF 13 (by kernel_rfl) (fun hS => HIN2.out _ (nest HK14.out hS.2.2.2)) rfl ?_)
             | (refine Run.callG 13 (by kernel_rfl) ?_ (fun hS => HIN2.out _ (nest HK14.out hS.2.2.2)) rfl ?_; (· simp only [List.getElem?_cons_zero, List.getElem?_cons_succ]))
             | fail)
             (first
             | (rintro hS e w' ⟨rfl, rfl⟩; refine ⟨_, rfl, hS, ?_⟩)
             | (rintro hS e w' ⟨rfl, hb⟩; refine ⟨_, rfl, ⟨kc hb hS.1, kc hb hS.2.1, kc hb hS.2.2.1, nest hS.2.2.2 hb⟩, ?_⟩)
             | fail))
          | fail); simp only [Act.put, List.setIfInBounds_toArray, List.set_cons_zero, List.set_cons_succ])
        refine Run.ends (fun hS => ?_)
        have HKZ := Lib.hid (nest HBW.out (nest HK14.out hS.2.2.2))
        clear hS G1 G2 G3 hkw hne hne2 he
        go_wp2_with fail
        exact ⟨⟨i + 1, by have := HILT.out; omega, by have := HILT.out; omega, by have := HILT.out; go_num, HKZ.out⟩, by have := HILT.out; simp [intOf]; omega⟩
    · have hlt' : ¬ (i : Int) < (m : Int) + 1 := by omega
      have hbz := nest HB11.out HBW.out
      obtain ⟨W, R, hg, _⟩ := id (HP8.out.keep hbz)
      have HG12 := Lib.hid hg
      have HLI12 := Lib.hid (HLI8.out.keep hbz)
      have HE12 := Lib.hid (nest HK8.out hbz)
      clear hbz hg
      go_wp2_with fail
      refine (dnew_any s HBS.out w12).mono ?_
      rintro e w13 ⟨d2, rfl, hd0, hd, hk⟩
      have HDD2 : Hid (w12.heap.size ≤ d2) := Lib.hid hd0
      have HK13 := Lib.hid hk
      have HSW := Lib.hid (swalk_any r d2 W R L K (.map (some gm)) p (-1) s w13 (HG12.out.keep hk) (HLI12.out.keep hk) (fun o => by have := HK20.out o; omega) hd (fun h => by have := HG12.out.lt h; omega) HBS.out (HO.out.2.1 _ HPM.out) (by omega))
      rw [show walkR L K p (-1) s = [p] by unfold walkR; rw [HCP.out, if_pos rfl, show stepsN (-1) = 0 from by decide]; rfl] at HSW
      clear hd0 hd hk
      go_wp2_with fail
      refine HSW.out.mono ?_
      rintro e w14 ⟨x, rfl, hx, _, _, ht⟩
      obtain ⟨ax, cx, rfl, _, _⟩ := hx.form
      have HE14 := Lib.hid (HE12.out.trans ((sa_turn HK13.out ht HDD2.out (Nat.le_refl _)).mono HE12.out.size))
      clear hx ht HSW
      go_wp2_with fail
      go_ret
      exact ⟨by simp, HE14.out⟩
end Go.Proofs.Ytgkfioloceemcaa.sampleStays
