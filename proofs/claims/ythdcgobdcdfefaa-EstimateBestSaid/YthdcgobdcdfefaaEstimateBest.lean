/- Walk of the law EstimateBest. -/
import Derived.Test.YthdcgobdcdfefaaEsLaw
import Derived.Test.YthdcgobdcdfefaaBoxOpen
set_option maxRecDepth 4000
namespace Go.Proofs.Ythdcgobdcdfefaa.estimateBest
open Go.RowKit Mem Cir
set_option linter.unusedSimpArgs false
set_option linter.unusedVariables false
attribute [local irreducible] Go.Calls

set_option maxRecDepth 100000 in
set_option maxHeartbeats 8000000 in
theorem walk (v1 : Value) (m : List (List Int)) (v2 : Value) (B : List (Int × Int × Int)) (w : World) (h2 : (kSlice (kVec 16 .u32)).rd w [v1] m) (h3 : Rd rngE w v2 B) (h4 : ∀ x ∈ B, (-9223372036854775808 ≤ x.1 ∧ x.1 ≤ 9223372036854775807) ∧ (0 ≤ x.2.1 ∧ x.2.1 ≤ 4294967295) ∧ 0 ≤ x.2.2 ∧ x.2.2 ≤ 4294967295) :
    Calls Try.prog 4 #[v1, v2] w fun e w' => e = .returned (.bool true) ∧ Below w.heap.size w w' := by
  obtain ⟨L, hLm, hL, hLB⟩ := dens_of_kd h2
  have HLR := Lib.hid hL
  have HLB := Lib.hid hLB
  have HBR := Lib.hid h3
  have HBB : Hid (∀ r ∈ B, okRn r) := Lib.hid h4
  obtain ⟨a1, g1, o1, c1, rfl, _, hc1, hga1, hcs1⟩ := den_row hL
  obtain ⟨a2, g2, o2, c2, rfl, _, hc2, hga2, hcs2⟩ := Rd.loop3 h3
  have hc1' : c1 ≤ 9223372036854775807 := hc1
  have hc2' : c2 ≤ 9223372036854775807 := hc2
  have HC1 := Lib.hid hcs1
  have HC2 := Lib.hid hcs2
  have HG1 := Lib.hid hga1
  have HG2 := Lib.hid hga2
  clear h2 hL hLB hLm h3 h4 hcs1 hcs2 hga1 hga2
  go_enter Try.func4, Try.ntmps4
  by_cases h30 : L.length > 30
  · have e30 : (L.length : Int) > 30 := by omega
    go_wp2_with (go_at_call 7; refine (eawake_any w).mono ?_; rintro e w2 ⟨rfl, hk⟩)
    go_ret
    exact ⟨rfl, hk⟩
  have e30 : ¬ (L.length : Int) > 30 := by omega
  by_cases h31 : B.length > 30
  · have e31 : (B.length : Int) > 30 := by omega
    go_wp2_with (go_at_call 7; refine (eawake_any w).mono ?_; rintro e w2 ⟨rfl, hk⟩)
    go_ret
    exact ⟨rfl, hk⟩
  have e31 : ¬ (B.length : Int) > 30 := by omega
  have HL30 : Hid (L.length ≤ 1000000) := Lib.hid (by omega)
  go_upto_region 3 with fail
  clear e30 h30 e31 h31
  have HB1 := Lib.hid (ebest_any _ _ L B w HLR.out HBR.out HLB.out HBB.out HL30.out)
  have HRT := Lib.hid (fun z (hz : Below w.heap.size w z) => rrightb_any (L.length : Int) _ B z (HBR.out.keep hz))
  cases hrt : rightB (L.length : Int) B with
  | false =>
    have e : bestR L B = (0, 8) := by unfold bestR; rw [hrt]; rfl
    rw [e] at HB1
    rw [hrt] at HRT
    dsimp only at HB1
    clear e hrt
    go_upto_region 5 with (first | (go_at_call 10; refine HB1.out.mono ?_; rintro e w1 ⟨rfl, hk1⟩) | (go_at_call 16; refine (HRT.out _ hk1).mono ?_; rintro e w2 ⟨rfl, hk2⟩))
    have HK2 := Lib.hid (nest hk1 hk2)
    clear hk1 hk2
    refine Run.region_seq (S := fun z => Below w2.heap.size w2 z)
      [1, 0, 0, 0, 0, 0, 0, 0, 0, 0] (l := ?_) ?_ (Below.refl _ _) ?_
    rotate_left
    (· simp only [Run.seqOf, List.toList_toArray, Run.stepsOf, Run.stepOf, Run.guardOf, List.getElem?_toArray, List.getElem?_cons_zero, List.getElem?_cons_succ, Option.map_some, Option.map_none, Option.bind_some, Option.toList_some, List.map_cons, List.map_nil, List.cons_append, List.nil_append, List.append_eq]
       rfl)
    repeat ((first
      | (refine Run.takes (v := ?_) ?_ ?_; rotate_left; (· intro w' hS'; go_simp; (try with_reducible rfl)))
      | (refine Run.takesG (v := ?_) ?_ ?_ ?_; rotate_left; (· simp only [List.getElem?_cons_zero, List.getElem?_cons_succ]); (· intro w' hS'; go_simp; (try with_reducible rfl)))
      | (refine Run.skipsT ?_ ?_; (· simp only [List.getElem?_cons_zero, List.getElem?_cons_succ]))
      | (refine Run.skipsF ?_ ?_; (· simp only [List.getElem?_cons_zero, List.getElem?_cons_succ]))
      | (refine Run.skipsU ?_ ?_; (· simp only [List.getElem?_cons_zero, List.getElem?_cons_succ]))
      | (refine Run.passT ?_ ?_; (· simp only [List.getElem?_cons_zero, List.getElem?_cons_succ]))
      | (refine Run.passF ?_ ?_; (· simp only [List.getElem?_cons_zero, List.getElem?_cons_succ]))
      | (refine Run.passU ?_ ?_; (· simp only [List.getElem?_cons_zero, List.getElem?_cons_succ]))
      | (refine Run.runs ?_
         (first
         | (refine Run.callF 7 (by kernel_rfl) (fun hS => eawake_any _) rfl ?_)
         | (refine Run.callG 7 (by kernel_rfl) ?_ (fun hS => eawake_any _) rfl ?_; (· simp only [List.getElem?_cons_zero, List.getElem?_cons_succ]))
         | fail)
         (first
         | (rintro hS e w' ⟨rfl, rfl⟩; refine ⟨_, rfl, hS, ?_⟩)
         | (rintro hS e w' ⟨rfl, hb⟩; refine ⟨_, rfl, nest hS hb, ?_⟩)
         | fail))
      | fail); simp only [Act.put, List.setIfInBounds_toArray, List.set_cons_zero, List.set_cons_succ])
    refine Run.ends (fun hS => ?_)
    have HK7 := Lib.hid (nest HK2.out hS)
    clear hS
    go_wp2_with fail
    go_ret
    exact ⟨rfl, HK7.out⟩
  | true =>
    obtain ⟨hlen, hn1, hn8⟩ := right_len hrt
    have e : bestR L B = (((bestI (hubP L B) (L.length - 1) : Nat) : Int), 0) := by unfold bestR; rw [hrt, if_pos rfl]
    rw [e] at HB1
    rw [hrt] at HRT
    dsimp only at HB1
    obtain ⟨P, hP⟩ : ∃ P, P = hubP L B := ⟨_, rfl⟩
    have HPP := Lib.hid hP
    rw [← hP] at HB1
    have HBI := Lib.hid (bestI_is P (L.length - 1))
    have hjl' := bestI_le P (L.length - 1)
    obtain ⟨j, hj⟩ : ∃ j, j = bestI P (L.length - 1) := ⟨_, rfl⟩
    rw [← hj] at HB1 HBI hjl'
    have hjl : j < L.length := by omega
    have HBQ : Hid (B.length = L.length) := Lib.hid (by omega)
    have HPB : Hid (∀ i, i < L.length → 0 ≤ P i ∧ P i ≤ 65536) := Lib.hid (fun i hi => by
      rw [HPP.out]
      unfold hubP
      rw [den_getD hi, rng_getD (by have := HBQ.out; omega)]
      exact part_le (HLB.out _ (List.getElem_mem hi)) (HBB.out _ (List.getElem_mem _)))
    have HPC : Hid (∀ i (hi : i < L.length) z, Calls Try.prog 12 #[.agg (dcs (L[i]).1).toArray, .agg #[.int .i64 (B.getD i (0, 0, 0)).1, .int .u32 (B.getD i (0, 0, 0)).2.1, .int .u32 (B.getD i (0, 0, 0)).2.2]] z fun e w' => e = .returned (.int .u32 (P i)) ∧ Below z.heap.size z w') := Lib.hid (fun i hi z => by
      have := epart_any (L[i]).1 (B.getD i (0, 0, 0)) (HLB.out _ (List.getElem_mem hi)) (HBB.out _ (by rw [rng_getD (by have := HBQ.out; omega)]; exact List.getElem_mem _)) z
      rw [HPP.out]
      unfold hubP
      rw [den_getD hi]
      exact this)
    clear e hrt hP hlen hn1 hn8 hj hjl'
    have hj0 : ¬ (j : Int) < 0 := by omega
    have hj1 : ¬ (j : Int) ≥ (L.length : Int) := by omega
    have hj2 : (j : Int) < (L.length : Int) := by omega
    have hj4 : decide ((j : Int) < 0) = false := decide_eq_false (by omega)
    have hj5 : decide ((L.length : Int) ≤ (j : Int)) = false := decide_eq_false (by omega)
    have hj6 : decide ((j : Int) ≥ (L.length : Int)) = false := decide_eq_false (by omega)
    go_upto_region 6 with (first | (go_at_call 10; refine HB1.out.mono ?_; rintro e w1 ⟨rfl, hk1⟩) | (go_at_call 16; refine (HRT.out _ hk1).mono ?_; rintro e w2 ⟨rfl, hk2⟩))
    have HK2 := Lib.hid (nest hk1 hk2)
    clear hk1 hk2 HB1 HRT
    refine Run.region_seq (S := fun z => Below w2.heap.size w2 z)
      [1, 0, 0, 0, 0, 0, 0, 0, 0, 0, 0, 0, 0, 0, 0, 0] (l := ?_) ?_ (Below.refl _ _) ?_
    rotate_left
    (· simp only [Run.seqOf, List.toList_toArray, Run.stepsOf, Run.stepOf, Run.guardOf, List.getElem?_toArray, List.getElem?_cons_zero, List.getElem?_cons_succ, Option.map_some, Option.map_none, Option.bind_some, Option.toList_some, List.map_cons, List.map_nil, List.cons_append, List.nil_append, List.append_eq]
       rfl)
    repeat ((first
      | (refine Run.takes (v := ?_) ?_ ?_; rotate_left; (· intro w' hS'; go_simp; (try with_reducible rfl)))
      | (refine Run.takesG (v := ?_) ?_ ?_ ?_; rotate_left; (· simp only [List.getElem?_cons_zero, List.getElem?_cons_succ]); (· intro w' hS'; go_simp; (try with_reducible rfl)))
      | (refine Run.skipsT ?_ ?_; (· simp only [List.getElem?_cons_zero, List.getElem?_cons_succ]))
      | (refine Run.skipsF ?_ ?_; (· simp only [List.getElem?_cons_zero, List.getElem?_cons_succ]))
      | (refine Run.skipsU ?_ ?_; (· simp only [List.getElem?_cons_zero, List.getElem?_cons_succ]))
      | (refine Run.passT ?_ ?_; (· simp only [List.getElem?_cons_zero, List.getElem?_cons_succ]))
      | (refine Run.passF ?_ ?_; (· simp only [List.getElem?_cons_zero, List.getElem?_cons_succ]))
      | (refine Run.passU ?_ ?_; (· simp only [List.getElem?_cons_zero, List.getElem?_cons_succ]))
      | (refine Run.runs ?_
         (first
         | (refine Run.callF 7 (by kernel_rfl) (fun hS => eawake_any _) rfl ?_)
         | (refine Run.callG 7 (by kernel_rfl) ?_ (fun hS => eawake_any _) rfl ?_; (· simp only [List.getElem?_cons_zero, List.getElem?_cons_succ]))
         | fail)
         (first
         | (rintro hS e w' ⟨rfl, rfl⟩; refine ⟨_, rfl, hS, ?_⟩)
         | (rintro hS e w' ⟨rfl, hb⟩; refine ⟨_, rfl, nest hS hb, ?_⟩)
         | fail))
      | fail); simp only [Act.put, List.setIfInBounds_toArray, List.set_cons_zero, List.set_cons_succ])
    refine Run.ends (fun hS => ?_)
    have HK3 := Lib.hid (nest HK2.out hS)
    clear hS HK2
    obtain ⟨w3, hw3⟩ : ∃ z, z = w' := ⟨_, rfl⟩
    rw [← hw3] at HK3 ⊢
    clear hw3
    go_upto_region 8 with fail
    obtain rfl := HG1.out (by omega)
    obtain ⟨rfl, _⟩ := HG2.out (by have := HBQ.out; omega)
    obtain ⟨f1, f2, f3⟩ := HC2.out j (by have := HBQ.out; omega)
    have q2 := Lib.hid (HC1.out j hjl)
    have r2 := Lib.hid (HPC.out j hjl)
    have HX2 := Lib.hid (L[j]).2
    have HPJ := Lib.hid (HPB.out j hjl)
    have hj3 : (j : Int) < (B.length : Int) := by have := HBQ.out; omega
    generalize (L[j]).1 = X2 at *
    obtain ⟨⟨k2, x2, y2⟩, hg2⟩ : ∃ g, g = B.getD j (0, 0, 0) := ⟨_, rfl⟩
    rw [← hg2] at f1 f2 f3 r2
    dsimp only at f1 f2 f3 r2
    clear hg2
    obtain ⟨pj, hpj⟩ : ∃ p, p = P j := ⟨_, rfl⟩
    rw [← hpj] at r2 HPJ HBI
    replace f1 : w3.drew.cell? ⟨g2, o2 + j * 3, none⟩ = some (.int .i64 k2) := (HK3.out.cell (World.block_lt_of_cell? w _ f1)).trans f1
    replace f2 : w3.drew.cell? ⟨g2, o2 + j * 3 + 1, none⟩ = some (.int .u32 x2) := (HK3.out.cell (World.block_lt_of_cell? w _ f2)).trans f2
    replace f3 : w3.drew.cell? ⟨g2, o2 + j * 3 + 2, none⟩ = some (.int .u32 y2) := (HK3.out.cell (World.block_lt_of_cell? w _ f3)).trans f3
    have HE := Lib.hid (And.intro f1 (And.intro f2 f3))
    clear f1 f2 f3 hpj
    refine Run.region_walk (S := fun z => (∀ (t : Nat) (u : Value), (dcs X2)[t]? = some u → z.cell? ⟨g1, o1 + j * 16 + t, none⟩ = some u) ∧ (z.cell? ⟨g2, o2 + j * 3, none⟩ = some (.int .i64 k2) ∧ z.cell? ⟨g2, o2 + j * 3 + 1, none⟩ = some (.int .u32 x2) ∧ z.cell? ⟨g2, o2 + j * 3 + 2, none⟩ = some (.int .u32 y2)) ∧ Below w.heap.size w z)
      lebest.rows8 lebest.plan8 (l := ?steps3) (by kernel_rfl) (by kernel_rfl) (by kernel_rfl) (by kernel_rfl) ?written3 ⟨fun t u hu => (HK3.out.cell (World.block_lt_of_cell? w _ (q2.out t u hu))).trans (q2.out t u hu), HE.out, HK3.out.drew⟩ ?onward3
    case written3 =>
      simp only [lebest.plan8, Run.stepsOf, Run.stepOf, Run.guardOf, List.getElem?_toArray, List.getElem?_cons_zero, List.getElem?_cons_succ, Option.map_some, Option.map_none, Option.bind_some, Option.toList_some, List.map_cons, List.map_nil, List.cons_append, List.nil_append, List.append_eq]
      rfl
    repeat ((first
      | (refine Run.takes (v := ?_) ?_ ?_; rotate_left; (· intro w' hS'; (first | (refine exec_load_part (n := 16) (x := .tmp 57) (l := dcs X2) ?_ Try.underlying24 den_i (by rw [dcs_len]; exact HX2.out) ?_ hS'.1 <;> rfl) | (have h4 := hS'.2.1.1; have h5 := hS'.2.1.2.1; have h6 := hS'.2.1.2.2; go_simp; done) | (go_simp; (try with_reducible rfl)))))
      | (refine Run.takesG (v := ?_) ?_ ?_ ?_; rotate_left; (· simp only [List.getElem?_cons_zero, List.getElem?_cons_succ]); (· intro w' hS'; (first | (refine exec_load_part (n := 16) (x := .tmp 57) (l := dcs X2) ?_ Try.underlying24 den_i (by rw [dcs_len]; exact HX2.out) ?_ hS'.1 <;> rfl) | (have h4 := hS'.2.1.1; have h5 := hS'.2.1.2.1; have h6 := hS'.2.1.2.2; go_simp; done) | (go_simp; (try with_reducible rfl)))))
      | (refine Run.skipsT ?_ ?_; (· simp only [List.getElem?_cons_zero, List.getElem?_cons_succ]))
      | (refine Run.skipsF ?_ ?_; (· simp only [List.getElem?_cons_zero, List.getElem?_cons_succ]))
      | (refine Run.skipsU ?_ ?_; (· simp only [List.getElem?_cons_zero, List.getElem?_cons_succ]))
      | (refine Run.passT ?_ ?_; (· simp only [List.getElem?_cons_zero, List.getElem?_cons_succ]))
      | (refine Run.passF ?_ ?_; (· simp only [List.getElem?_cons_zero, List.getElem?_cons_succ]))
      | (refine Run.passU ?_ ?_; (· simp only [List.getElem?_cons_zero, List.getElem?_cons_succ]))
      | (refine Run.runs ?_
         (first
         | (refine Run.callF 12 (by kernel_rfl) (fun hS => r2.out _) rfl ?_)
         | (refine Run.callG 12 (by kernel_rfl) ?_ (fun hS => r2.out _) rfl ?_; (· simp only [List.getElem?_cons_zero, List.getElem?_cons_succ]))
         | fail)
         (first
         | (rintro hS e w' ⟨rfl, rfl⟩; refine ⟨_, rfl, hS, ?_⟩)
         | (rintro hS e w' ⟨rfl, hb⟩; refine ⟨_, rfl, ⟨fun t u hu => kc hb (hS.1 t u hu), ⟨kc hb hS.2.1.1, kc hb hS.2.1.2.1, kc hb hS.2.1.2.2⟩, nest hS.2.2 hb⟩, ?_⟩)
         | fail))
      | fail); simp only [Act.put, List.setIfInBounds_toArray, List.set_cons_zero, List.set_cons_succ])
    refine Run.ends (fun hS => ?_)
    have HK4 := Lib.hid hS.2.2
    clear hS HE
    obtain ⟨w4, hw4⟩ : ∃ z, z = w' := ⟨_, rfl⟩
    rw [← hw4] at HK4 ⊢
    clear hw4
    clear hj0 hj1 hj4 hj5 hj6 hj3
    go_wp2_with fail
    go_loopw [8] (fun iv wr => ∃ i : Nat, i ≤ L.length ∧ iv = .int .i64 i ∧ Below w.heap.size w wr) (fun iv _ => L.length - (intOf iv).toNat)
    case atStart => exact ⟨0, by omega, rfl, HK4.out⟩
    case round =>
      obtain ⟨i, hi, rfl, hb⟩ := hrel
      have HB := Lib.hid hb
      obtain ⟨wo, hwo⟩ : ∃ z, z = wr := ⟨_, rfl⟩
      rw [← hwo] at HB ⊢
      clear hb hwo
      by_cases hlt : i < L.length
      · have hil : (i : Int) < (L.length : Int) := by omega
        have hil3 : (i : Int) < (B.length : Int) := by have := HBQ.out; omega
        obtain ⟨f1, f2, f3⟩ := HC2.out i (by have := HBQ.out; omega)
        have q1 := Lib.hid (HC1.out i hlt)
        have r1 := Lib.hid (HPC.out i hlt)
        have HX1 := Lib.hid (L[i]).2
        have HPI := Lib.hid (HPB.out i hlt)
        have HBE := Lib.hid (HBI.out i (by omega))
        generalize (L[i]).1 = X1 at *
        obtain ⟨⟨k1, x1, y1⟩, hg1⟩ : ∃ g, g = B.getD i (0, 0, 0) := ⟨_, rfl⟩
        rw [← hg1] at f1 f2 f3 r1
        dsimp only at f1 f2 f3 r1
        clear hg1
        obtain ⟨p, hp⟩ : ∃ p, p = P i := ⟨_, rfl⟩
        rw [← hp] at r1 HPI HBE
        replace f1 : wo.drew.cell? ⟨g2, o2 + i * 3, none⟩ = some (.int .i64 k1) := (HB.out.cell (World.block_lt_of_cell? w _ f1)).trans f1
        replace f2 : wo.drew.cell? ⟨g2, o2 + i * 3 + 1, none⟩ = some (.int .u32 x1) := (HB.out.cell (World.block_lt_of_cell? w _ f2)).trans f2
        replace f3 : wo.drew.cell? ⟨g2, o2 + i * 3 + 2, none⟩ = some (.int .u32 y1) := (HB.out.cell (World.block_lt_of_cell? w _ f3)).trans f3
        have HE := Lib.hid (And.intro f1 (And.intro f2 f3))
        clear f1 f2 f3 hp
        go_upto_region 12 with fail
        refine Run.region_walk (S := fun z => (∀ (t : Nat) (u : Value), (dcs X1)[t]? = some u → z.cell? ⟨g1, o1 + i * 16 + t, none⟩ = some u) ∧ (z.cell? ⟨g2, o2 + i * 3, none⟩ = some (.int .i64 k1) ∧ z.cell? ⟨g2, o2 + i * 3 + 1, none⟩ = some (.int .u32 x1) ∧ z.cell? ⟨g2, o2 + i * 3 + 2, none⟩ = some (.int .u32 y1)) ∧ Below w.heap.size w z)
          lebest.rows11 lebest.plan11 (l := ?steps4) (by kernel_rfl) (by kernel_rfl) (by kernel_rfl) (by kernel_rfl) ?written4 ⟨fun t u hu => (HB.out.cell (World.block_lt_of_cell? w _ (q1.out t u hu))).trans (q1.out t u hu), HE.out, HB.out.drew⟩ ?onward4
        case written4 =>
          simp only [lebest.plan11, Run.stepsOf, Run.stepOf, Run.guardOf, List.getElem?_toArray, List.getElem?_cons_zero, List.getElem?_cons_succ, Option.map_some, Option.map_none, Option.bind_some, Option.toList_some, List.map_cons, List.map_nil, List.cons_append, List.nil_append, List.append_eq]
          rfl
        repeat ((first
          | (refine Run.takes (v := ?_) ?_ ?_; rotate_left; (· intro w' hS'; (first | (refine exec_load_part (n := 16) (x := .tmp 72) (l := dcs X1) ?_ Try.underlying24 den_i (by rw [dcs_len]; exact HX1.out) ?_ hS'.1 <;> rfl) | (have h4 := hS'.2.1.1; have h5 := hS'.2.1.2.1; have h6 := hS'.2.1.2.2; go_simp; done) | (go_simp; (try with_reducible rfl)))))
          | (refine Run.takesG (v := ?_) ?_ ?_ ?_; rotate_left; (· simp only [List.getElem?_cons_zero, List.getElem?_cons_succ]); (· intro w' hS'; (first | (refine exec_load_part (n := 16) (x := .tmp 72) (l := dcs X1) ?_ Try.underlying24 den_i (by rw [dcs_len]; exact HX1.out) ?_ hS'.1 <;> rfl) | (have h4 := hS'.2.1.1; have h5 := hS'.2.1.2.1; have h6 := hS'.2.1.2.2; go_simp; done) | (go_simp; (try with_reducible rfl)))))
          | (refine Run.skipsT ?_ ?_; (· simp only [List.getElem?_cons_zero, List.getElem?_cons_succ]))
          | (refine Run.skipsF ?_ ?_; (· simp only [List.getElem?_cons_zero, List.getElem?_cons_succ]))
          | (refine Run.skipsU ?_ ?_; (· simp only [List.getElem?_cons_zero, List.getElem?_cons_succ]))
          | (refine Run.passT ?_ ?_; (· simp only [List.getElem?_cons_zero, List.getElem?_cons_succ]))
          | (refine Run.passF ?_ ?_; (· simp only [List.getElem?_cons_zero, List.getElem?_cons_succ]))
          | (refine Run.passU ?_ ?_; (· simp only [List.getElem?_cons_zero, List.getElem?_cons_succ]))
          | (refine Run.runs ?_
             (first
             | (refine Run.callF 12 (by kernel_rfl) (fun hS => r1.out _) rfl ?_)
             | (refine Run.callG 12 (by kernel_rfl) ?_ (fun hS => r1.out _) rfl ?_; (· simp only [List.getElem?_cons_zero, List.getElem?_cons_succ]))
             | fail)
             (first
             | (rintro hS e w' ⟨rfl, rfl⟩; refine ⟨_, rfl, hS, ?_⟩)
             | (rintro hS e w' ⟨rfl, hb⟩; refine ⟨_, rfl, ⟨fun t u hu => kc hb (hS.1 t u hu), ⟨kc hb hS.2.1.1, kc hb hS.2.1.2.1, kc hb hS.2.1.2.2⟩, nest hS.2.2 hb⟩, ?_⟩)
             | fail))
          | fail); simp only [Act.put, List.setIfInBounds_toArray, List.set_cons_zero, List.set_cons_succ])
        refine Run.ends (fun hS => ?_)
        have HB5 := Lib.hid hS.2.2
        clear hS HE q1 r1 HX1 hil3
        have hn1 : ¬ p < pj := by have := HBE.out.1; omega
        have hn2 : decide (p < pj) = false := decide_eq_false hn1
        have hn3 : ¬ p > 65536 := by have := HPI.out; omega
        have hn4 : decide (p > 65536) = false := decide_eq_false hn3
        have hn5 : decide (65536 < p) = false := decide_eq_false hn3
        by_cases hij : i < j
        · have hm1 : (i : Int) < (j : Int) := by omega
          have hm2 : decide ((i : Int) < (j : Int)) = true := by simpa using hij
          have hm3 : (p == pj) = false := beq_eq_false_iff_ne.2 (by have := HBE.out.2 hij; omega)
          clear hij
          go_upto_region 13 with fail
          refine Run.region_seq (S := fun z => True)
            [0, 0, 0, 0, 0, 0, 0, 0, 0, 0, 0, 0, 0, 0, 0, 0, 0] (l := ?_) ?_ trivial ?_
          rotate_left
          (· simp only [Run.seqOf, List.toList_toArray, Run.stepsOf, Run.stepOf, Run.guardOf, List.getElem?_toArray, List.getElem?_cons_zero, List.getElem?_cons_succ, Option.map_some, Option.map_none, Option.bind_some, Option.toList_some, List.map_cons, List.map_nil, List.cons_append, List.nil_append, List.append_eq]
             rfl)
          repeat ((first
            | (refine Run.takes (v := ?_) ?_ ?_; rotate_left; (· intro w' hS'; go_simp; (try with_reducible rfl)))
            | (refine Run.takesG (v := ?_) ?_ ?_ ?_; rotate_left; (· simp only [List.getElem?_cons_zero, List.getElem?_cons_succ]); (· intro w' hS'; go_simp; (try with_reducible rfl)))
            | (refine Run.skipsT ?_ ?_; (· simp only [List.getElem?_cons_zero, List.getElem?_cons_succ]))
            | (refine Run.skipsF ?_ ?_; (· simp only [List.getElem?_cons_zero, List.getElem?_cons_succ]))
            | (refine Run.skipsU ?_ ?_; (· simp only [List.getElem?_cons_zero, List.getElem?_cons_succ]))
            | (refine Run.passT ?_ ?_; (· simp only [List.getElem?_cons_zero, List.getElem?_cons_succ]))
            | (refine Run.passF ?_ ?_; (· simp only [List.getElem?_cons_zero, List.getElem?_cons_succ]))
            | (refine Run.passU ?_ ?_; (· simp only [List.getElem?_cons_zero, List.getElem?_cons_succ]))
            | fail); simp only [Act.put, List.setIfInBounds_toArray, List.set_cons_zero, List.set_cons_succ])
          refine Run.ends (fun hS => ?_)
          clear hS
          go_wp2_with fail
          exact ⟨⟨i + 1, by omega, by go_num, HB5.out⟩, by simp [intOf]; omega⟩
        · have hm1 : ¬ (i : Int) < (j : Int) := by omega
          have hm2 : decide ((i : Int) < (j : Int)) = false := decide_eq_false hm1
          clear hij
          go_upto_region 13 with fail
          refine Run.region_seq (S := fun z => True)
            [0, 0, 0, 0, 0, 0, 0, 0, 0, 0, 0, 0, 0, 0, 0, 0, 0] (l := ?_) ?_ trivial ?_
          rotate_left
          (· simp only [Run.seqOf, List.toList_toArray, Run.stepsOf, Run.stepOf, Run.guardOf, List.getElem?_toArray, List.getElem?_cons_zero, List.getElem?_cons_succ, Option.map_some, Option.map_none, Option.bind_some, Option.toList_some, List.map_cons, List.map_nil, List.cons_append, List.nil_append, List.append_eq]
             rfl)
          repeat ((first
            | (refine Run.takes (v := ?_) ?_ ?_; rotate_left; (· intro w' hS'; go_simp; (try with_reducible rfl)))
            | (refine Run.takesG (v := ?_) ?_ ?_ ?_; rotate_left; (· simp only [List.getElem?_cons_zero, List.getElem?_cons_succ]); (· intro w' hS'; go_simp; (try with_reducible rfl)))
            | (refine Run.skipsT ?_ ?_; (· simp only [List.getElem?_cons_zero, List.getElem?_cons_succ]))
            | (refine Run.skipsF ?_ ?_; (· simp only [List.getElem?_cons_zero, List.getElem?_cons_succ]))
            | (refine Run.skipsU ?_ ?_; (· simp only [List.getElem?_cons_zero, List.getElem?_cons_succ]))
            | (refine Run.passT ?_ ?_; (· simp only [List.getElem?_cons_zero, List.getElem?_cons_succ]))
            | (refine Run.passF ?_ ?_; (· simp only [List.getElem?_cons_zero, List.getElem?_cons_succ]))
            | (refine Run.passU ?_ ?_; (· simp only [List.getElem?_cons_zero, List.getElem?_cons_succ]))
            | fail); simp only [Act.put, List.setIfInBounds_toArray, List.set_cons_zero, List.set_cons_succ])
          refine Run.ends (fun hS => ?_)
          clear hS
          go_wp2_with fail
          exact ⟨⟨i + 1, by omega, by go_num, HB5.out⟩, by simp [intOf]; omega⟩
      · have hil : i = L.length := by omega
        subst hil
        go_wp2_with fail
        go_ret
        exact ⟨rfl, HB.out⟩
end Go.Proofs.Ythdcgobdcdfefaa.estimateBest
