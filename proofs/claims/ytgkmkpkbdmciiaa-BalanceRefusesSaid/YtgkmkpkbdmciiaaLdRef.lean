/- The document's answers for packages sample and balance (petasosref17): Mean, May, better, most, Heavy, Light, Plan. -/
import Derived.Test.YtgkmkpkbdmciiaaLoads
import Derived.Test.YtgkmkpkbdmciiaaLdMath
import Derived.Test.YtgkmkpkbdmciiaaLdPlans
import Derived.Test.YtgkmkpkbdmciiaaRun2
import Derived.Deep.DeepCutAuto
import Derived.Deep.CutBlock
import Derived.Deep.Light
set_option maxRecDepth 4000
namespace Go.Proofs.Ytgkmkpkbdmciiaa
open Go.RowKit Mem
set_option linter.unusedSimpArgs false
set_option linter.unusedVariables false
attribute [local irreducible] Go.Calls

set_option maxHeartbeats 1000000 in
theorem rmean_any (v : Value) (l : List Ld) (w : World) (h : Rd ldE w v l) (hl : l.length ≤ 1000000) : Calls Try.prog 17 #[v] w fun e w' => e = .returned (.int .u64 (meanV l)) ∧ Below w.heap.size w w' := by
  obtain ⟨a, g, off, c, rfl, _, hc2, hga, hcs⟩ := h.loop2
  have hc2' : c ≤ 9223372036854775807 := hc2
  have HC := Lib.hid hcs
  have HG := Lib.hid hga
  have HLL := Lib.hid hl
  clear h hcs hga
  by_cases h0 : l = []
  · subst h0
    go_enter Try.func17, Try.ntmps17
    go_wp2_with fail
    go_ret
    exact ⟨rfl, Below.refl _ _⟩
  have hpos : 0 < l.length := List.length_pos_iff.2 h0
  have hne : ((l.length : Int) == 0) = false := beq_eq_false_iff_ne.2 (by omega)
  have HM := Lib.hid (meanV_some hpos)
  have HMB := Lib.hid (meanV_bd l)
  have HSB := Lib.hid (sumP_bd l)
  obtain ⟨rfl, _⟩ := HG.out hpos
  obtain ⟨RES, hRES⟩ : ∃ x, x = meanV l := ⟨_, rfl⟩
  rw [← hRES] at HM HMB ⊢
  clear hRES h0
  go_enter Try.func17, Try.ntmps17
  go_wp2_with fail
  go_loopw [3, 4] (fun s i wr => ∃ k : Nat, k ≤ l.length ∧ s = .int .u64 (sumP (l.take k)) ∧ i = .int .i64 k ∧ Below w.heap.size w wr) (fun _ i _ => l.length - (intOf i).toNat)
  case atStart => exact ⟨0, by omega, rfl, rfl, Below.refl _ _⟩
  case round =>
    obtain ⟨k, hk, rfl, rfl, hb⟩ := hrel
    have HB := Lib.hid hb
    by_cases hlt : k < l.length
    · have hkl : (k : Int) < (l.length : Int) := by omega
      have d1 := kc hb (HC.out k hlt).2
      have HST := Lib.hid (sumP_step hlt)
      have HB2 := Lib.hid (sumP_bd (l.take (k + 1)))
      have HLN : Hid ((l.take (k + 1)).length ≤ 1000000) := Lib.hid (by rw [List.length_take]; omega)
      obtain ⟨e, he⟩ : ∃ e, e = (l.getD k (0, 0)).2 := ⟨_, rfl⟩
      rw [← he] at d1 HST
      clear he hb
      obtain ⟨m, hmin⟩ : ∃ m, (if (2147483647 : Int) < e then 2147483647 else e) = m := ⟨_, rfl⟩
      have hmax : (if 0 < m then m else 0) = posV e := by rw [← hmin]; unfold posV; split <;> split <;> omega
      have HPB := Lib.hid (posV_bd e)
      obtain ⟨p, hp⟩ : ∃ p, p = posV e := ⟨_, rfl⟩
      rw [← hp] at hmax HST HPB
      have hpw : IntKind.u64.wrap p = p := by rw [IntKind.wrap_u64]; have := HPB.out; omega
      have hsw : IntKind.u64.wrap (sumP (l.take k) + p) = sumP (l.take (k + 1)) := by rw [IntKind.wrap_u64, HST.out]; have := HB2.out; have := HST.out; have := HLN.out; omega
      clear hp
      go_wp2_with fail
      exact ⟨⟨k + 1, by omega, by go_num, by go_num, HB.out⟩, by simp [intOf]; omega⟩
    · have hkl : k = l.length := by omega
      subst hkl
      rw [List.take_length]
      generalize sumP l = s at *
      have hm1 : IntKind.u64.wrap (256 * s) = 256 * s := by rw [IntKind.wrap_u64]; have := HSB.out; have := HLL.out; omega
      have hm2 : IntKind.u64.wrap (l.length : Int) = (l.length : Int) := by rw [IntKind.wrap_u64]; have := HLL.out; omega
      have hm3 : (256 * s).tdiv (l.length : Int) = RES := by rw [HM.out, Int.tdiv_eq_ediv_of_nonneg (by have := HSB.out; omega)]
      have hm4 : IntKind.u64.wrap RES = RES := by rw [IntKind.wrap_u64]; have := HMB.out; omega
      have hm5 : ¬ (l.length : Int) = 0 := by omega
      clear hb
      go_wp2_with fail
      go_ret
      exact ⟨rfl, HB.out⟩
set_option maxHeartbeats 2000000 in
theorem rmay_any (v : Value) (l : List Ld) (w : World) (h : Rd ldE w v l) : Calls Try.prog 28 #[v] w fun e w' => e = .returned (.bool (mayB l)) ∧ Below w.heap.size w w' := by
  obtain ⟨a, g, off, c, rfl, _, hc2, hga, hcs⟩ := h.loop2
  have hc2' : c ≤ 9223372036854775807 := hc2
  have HC := Lib.hid hcs
  have HG := Lib.hid hga
  clear h hcs hga
  obtain ⟨RES, hRES⟩ : ∃ x, x = mayB l := ⟨_, rfl⟩
  rw [← hRES]
  have HRES := Lib.hid hRES
  clear hRES
  go_enter Try.func28, Try.ntmps28
  go_wp2_with fail
  go_loopw [3] (fun iv wr => ∃ i : Nat, i ≤ l.length ∧ iv = .int .i64 i ∧ (∀ j, j < i → (0 ≤ (l.getD j (0, 0)).2 ∧ (l.getD j (0, 0)).2 ≤ 2147483647) ∧ ∀ k, k < j → (l.getD k (0, 0)).1 ≠ (l.getD j (0, 0)).1) ∧ Below w.heap.size w wr) (fun iv _ => l.length - (intOf iv).toNat)
  case atStart => exact ⟨0, by omega, rfl, fun j hj => absurd hj (Nat.not_lt_zero _), Below.refl _ _⟩
  case round =>
    obtain ⟨i, hi, rfl, hno, hb⟩ := hrel
    have HNO := Lib.hid hno
    have HB := Lib.hid hb
    obtain ⟨wo, hwo⟩ : ∃ z, z = wr := ⟨_, rfl⟩
    rw [← hwo] at HB ⊢
    clear hno hb hwo
    by_cases hlt : i < l.length
    · have hil : (i : Int) < (l.length : Int) := by omega
      obtain ⟨rfl, _⟩ := HG.out (by omega)
      have d0 := kc HB.out (HC.out i hlt).1
      have d1 := kc HB.out (HC.out i hlt).2
      obtain ⟨⟨p, e⟩, hpe⟩ : ∃ x, x = l.getD i (0, 0) := ⟨_, rfl⟩
      have HPE := Lib.hid hpe
      rw [← hpe] at d0 d1
      dsimp only at d0 d1
      clear hpe
      by_cases hneg : e < 0
      · have hn2 : decide (e < 0) = true := by simpa using hneg
        have HF : Hid (RES = false) := Lib.hid (by
          rw [HRES.out]
          cases hq : mayB l with
          | false => rfl
          | true => have := ((mayB_iff.1 hq).1 i hlt).1; rw [← HPE.out] at this; dsimp only at this; omega)
        go_wp2_with fail
        go_ret
        exact ⟨by rw [HF.out]; rfl, HB.out⟩
      have hn2 : decide (e < 0) = false := by simpa using hneg
      by_cases hbig : e > 2147483647
      · have hn3 : decide (e > 2147483647) = true := by simpa using hbig
        have HF : Hid (RES = false) := Lib.hid (by
          rw [HRES.out]
          cases hq : mayB l with
          | false => rfl
          | true => have := ((mayB_iff.1 hq).1 i hlt).2; rw [← HPE.out] at this; dsimp only at this; omega)
        go_wp2_with fail
        go_ret
        exact ⟨by rw [HF.out]; rfl, HB.out⟩
      have hn3 : decide (e > 2147483647) = false := by simpa using hbig
      go_upto_region 7 with fail
      go_loopw [4] (fun kv wr => ∃ k : Nat, k ≤ i ∧ kv = .int .i64 k ∧ (∀ j, j < k → (l.getD j (0, 0)).1 ≠ p) ∧ Below w.heap.size w wr) (fun kv _ => i - (intOf kv).toNat)
      case atStart => exact ⟨0, by omega, rfl, fun j hj => absurd hj (Nat.not_lt_zero _), HB.out⟩
      case round =>
        obtain ⟨k, hk, rfl, hno2, hb2⟩ := hrel
        have HN2 := Lib.hid hno2
        have HB2 := Lib.hid hb2
        obtain ⟨wi, hwi⟩ : ∃ z, z = wr := ⟨_, rfl⟩
        rw [← hwi] at HB2 ⊢
        clear hno2 hb2 hwi
        by_cases hki : k < i
        · have hki2 : (k : Int) < (i : Int) := by omega
          have hkl : (k : Int) < (l.length : Int) := by omega
          have e0 : wi.drew.cell? ⟨g, off + i * 2, none⟩ = some (.int .u32 p) := by have := (HC.out i hlt).1; rw [← HPE.out] at this; exact (HB2.out.cell (World.block_lt_of_cell? w _ this)).trans this
          have e1 : wi.drew.cell? ⟨g, off + k * 2, none⟩ = some (.int .u32 (l.getD k (0, 0)).1) := by have := (HC.out k (by omega)).1; exact (HB2.out.cell (World.block_lt_of_cell? w _ this)).trans this
          obtain ⟨u, hu⟩ : ∃ u, u = (l.getD k (0, 0)).1 := ⟨_, rfl⟩
          have HU := Lib.hid hu
          rw [← hu] at e1
          clear hu d0 d1
          by_cases hup : u = p
          · have hup2 : (u == p) = true := by simpa using hup
            have HF : Hid (RES = false) := Lib.hid (by
              rw [HRES.out]
              cases hq : mayB l with
              | false => rfl
              | true => exact absurd (by rw [← HU.out, hup, ← HPE.out]) ((mayB_iff.1 hq).2 i k hlt hki))
            clear hup
            go_upto_region 9 with fail
            refine Run.region_walk (S := fun z => z.cell? ⟨g, off + i * 2, none⟩ = some (.int .u32 p) ∧ z.cell? ⟨g, off + k * 2, none⟩ = some (.int .u32 u) ∧ Below w.heap.size w z)
              rmay.rows7 rmay.plan7 (l := ?steps1) (by kernel_rfl) (by kernel_rfl) (by kernel_rfl) (by kernel_rfl) ?written1 ⟨e0, e1, HB2.out.drew⟩ ?onward1
            case written1 =>
              simp only [rmay.plan7, Run.stepsOf, Run.stepOf, Run.guardOf, List.getElem?_toArray, List.getElem?_cons_zero, List.getElem?_cons_succ, Option.map_some, Option.map_none, Option.bind_some, Option.toList_some, List.map_cons, List.map_nil, List.cons_append, List.nil_append, List.append_eq]
              rfl
            repeat ((first
              | (refine Run.takes (v := ?_) ?_ ?_; rotate_left; (· intro w' hS'; (first | (have h1 := hS'.1; have h2 := hS'.2.1; go_simp; done) | (go_simp; (try with_reducible rfl)))))
              | (refine Run.takesG (v := ?_) ?_ ?_ ?_; rotate_left; (· simp only [List.getElem?_cons_zero, List.getElem?_cons_succ]); (· intro w' hS'; (first | (have h1 := hS'.1; have h2 := hS'.2.1; go_simp; done) | (go_simp; (try with_reducible rfl)))))
              | (refine Run.skipsT ?_ ?_; (· simp only [List.getElem?_cons_zero, List.getElem?_cons_succ]))
              | (refine Run.skipsF ?_ ?_; (· simp only [List.getElem?_cons_zero, List.getElem?_cons_succ]))
              | (refine Run.skipsU ?_ ?_; (· simp only [List.getElem?_cons_zero, List.getElem?_cons_succ]))
              | (refine Run.passT ?_ ?_; (· simp only [List.getElem?_cons_zero, List.getElem?_cons_succ]))
              | (refine Run.passF ?_ ?_; (· simp only [List.getElem?_cons_zero, List.getElem?_cons_succ]))
              | (refine Run.passU ?_ ?_; (· simp only [List.getElem?_cons_zero, List.getElem?_cons_succ]))
              | fail); simp only [Act.put, List.setIfInBounds_toArray, List.set_cons_zero, List.set_cons_succ])
            refine Run.ends (fun hS => ?_)
            have HB5 := Lib.hid hS.2.2
            clear hS e0 e1
            go_wp2_with fail
            go_ret
            exact ⟨by rw [HF.out]; rfl, HB5.out⟩
          · have hup2 : (u == p) = false := beq_eq_false_iff_ne.2 hup
            have HUP := Lib.hid hup
            clear hup
            go_upto_region 9 with fail
            refine Run.region_walk (S := fun z => z.cell? ⟨g, off + i * 2, none⟩ = some (.int .u32 p) ∧ z.cell? ⟨g, off + k * 2, none⟩ = some (.int .u32 u) ∧ Below w.heap.size w z)
              rmay.rows7 rmay.plan7 (l := ?steps2) (by kernel_rfl) (by kernel_rfl) (by kernel_rfl) (by kernel_rfl) ?written2 ⟨e0, e1, HB2.out.drew⟩ ?onward2
            case written2 =>
              simp only [rmay.plan7, Run.stepsOf, Run.stepOf, Run.guardOf, List.getElem?_toArray, List.getElem?_cons_zero, List.getElem?_cons_succ, Option.map_some, Option.map_none, Option.bind_some, Option.toList_some, List.map_cons, List.map_nil, List.cons_append, List.nil_append, List.append_eq]
              rfl
            repeat ((first
              | (refine Run.takes (v := ?_) ?_ ?_; rotate_left; (· intro w' hS'; (first | (have h1 := hS'.1; have h2 := hS'.2.1; go_simp; done) | (go_simp; (try with_reducible rfl)))))
              | (refine Run.takesG (v := ?_) ?_ ?_ ?_; rotate_left; (· simp only [List.getElem?_cons_zero, List.getElem?_cons_succ]); (· intro w' hS'; (first | (have h1 := hS'.1; have h2 := hS'.2.1; go_simp; done) | (go_simp; (try with_reducible rfl)))))
              | (refine Run.skipsT ?_ ?_; (· simp only [List.getElem?_cons_zero, List.getElem?_cons_succ]))
              | (refine Run.skipsF ?_ ?_; (· simp only [List.getElem?_cons_zero, List.getElem?_cons_succ]))
              | (refine Run.skipsU ?_ ?_; (· simp only [List.getElem?_cons_zero, List.getElem?_cons_succ]))
              | (refine Run.passT ?_ ?_; (· simp only [List.getElem?_cons_zero, List.getElem?_cons_succ]))
              | (refine Run.passF ?_ ?_; (· simp only [List.getElem?_cons_zero, List.getElem?_cons_succ]))
              | (refine Run.passU ?_ ?_; (· simp only [List.getElem?_cons_zero, List.getElem?_cons_succ]))
              | fail); simp only [Act.put, List.setIfInBounds_toArray, List.set_cons_zero, List.set_cons_succ])
            refine Run.ends (fun hS => ?_)
            have HB5 := Lib.hid hS.2.2
            clear hS e0 e1
            go_wp2_with fail
            exact ⟨⟨k + 1, by omega, by go_num, fun j hj => by rcases Nat.lt_or_ge j k with h | h; exact HN2.out j h; rw [show j = k by omega, ← HU.out]; exact HUP.out, HB5.out⟩, by simp [intOf]; omega⟩
        · have hki2 : k = i := by omega
          subst hki2
          have HE : Hid (0 ≤ e ∧ e ≤ 2147483647) := Lib.hid (by omega)
          clear d0 d1 hneg hn2 hbig hn3
          go_wp2_with fail
          exact ⟨⟨k + 1, by omega, by go_num, fun j hj => by
            rcases Nat.lt_or_ge j k with h | h
            · exact HNO.out j h
            · rw [show j = k by omega, ← HPE.out]
              exact ⟨HE.out, HN2.out⟩, HB2.out⟩, by simp [intOf]; omega⟩
    · have hil : i = l.length := by omega
      subst hil
      have HT : Hid (RES = true) := Lib.hid (by rw [HRES.out]; exact mayB_iff.2 ⟨fun j hj => (HNO.out j hj).1, fun j k hj hk => (HNO.out j hj).2 k hk⟩)
      go_wp2_with fail
      go_ret
      exact ⟨by rw [HT.out]; rfl, HB.out⟩
end Go.Proofs.Ytgkmkpkbdmciiaa
