/- Walks that the laws of balance share: awake, few. -/
import Derived.Test.YtgkmkpkbdmciiaaBalanceC
import Derived.Test.YtgkmkpkbdmciiaaOwnL
set_option maxRecDepth 4000
namespace Go.Proofs.Ytgkmkpkbdmciiaa
open Go.RowKit Mem
set_option linter.unusedSimpArgs false
set_option linter.unusedVariables false
attribute [local irreducible] Go.Calls

def l3 : List Ld := [(10, 100), (20, 0), (30, 1)]
theorem aw_heavy : heavyV l3 = ((10, 100), true) := by decide
theorem aw_plan : planV l3 [1, 2] = ((20, 2), 0) := by decide
/-- entries that have a value alone -/
def plainE (x : Int) : Ent := (x, (0, 0, []), false)
def rawP (x : Int) : Raw 5 := ⟨ecl (plainE x) (.slice none 0 0), rfl, fun u hu => by unfold ecl at hu; simp at hu; rcases hu with rfl | rfl | rfl | rfl | rfl <;> rfl⟩
def plainC (vs : List Int) : List Value := vs.flatMap fun x => [.int .u32 x, .int .u64 0, .int .u64 0, .slice none 0 0, .bool false]
theorem raw_flat : ∀ (vs : List Int), (rawE 5).flat (vs.map rawP) = plainC vs
  | [] => rfl
  | x :: vs => by
    rw [List.map_cons, Enc.flat_cons, raw_flat vs]
    rfl
theorem ents_plain (vs : List Int) (w : World) (g : Nat) (hB : Blk w g 47 (plainC vs).toArray) (n : Nat) (hn : n = vs.length) (hm : n ≤ maxLen) :
    EntsIn (fun j => j = g) w (.slice (some ⟨g, 0, none⟩) n n) (vs.map plainE) := by
  subst hn
  have hl : (vs.map rawP).length = vs.length := List.length_map ..
  refine ⟨vs.map rawP, by rw [hl, List.length_map], ⟨some ⟨g, 0, none⟩, vs.length, by rw [hl], by rw [hl]; exact Nat.le_refl _, hm, fun _ => ⟨g, 0, rfl, fun j u hu => ?_⟩⟩, fun _ j hj => ?_, fun i x y hx hy => ?_⟩
  · rw [Nat.zero_add, hB.cell, List.getElem?_toArray, ← raw_flat]
    exact hu
  · have hj : some g = some j := hj
    injection hj with hj
    exact hj.symm
  · rw [List.getElem?_map] at hx hy
    cases hv : vs[i]? with
    | none => rw [hv] at hx; cases hx
    | some v =>
      rw [hv] at hx hy
      simp only [Option.map_some, Option.some.injEq] at hx hy
      subst hx hy
      exact ⟨.slice none 0 0, rfl, Rd.nil _ _ (Nat.zero_le _), fun h => absurd h (Nat.lt_irrefl _)⟩
set_option maxRecDepth 100000 in
set_option maxHeartbeats 2000000 in
theorem bawake_any (w : World) : Calls Try.prog 8 #[] w fun e w' => e = .returned (.bool true) ∧ Below w.heap.size w w' := by
  have hb3 : ∀ x ∈ l3, okLd x := by intro x hx; simp [l3] at hx; rcases hx with rfl | rfl | rfl <;> (unfold okLd; simp)
  have HR3 : Hid (Rd ldE (w.alloc (.cells #[.int .u32 10, .int .i64 100, .int .u32 20, .int .i64 0, .int .u32 30, .int .i64 1] 29)) (.slice (some ⟨w.heap.size, 0, none⟩) 3 3) l3) := Lib.hid (Row.rd (T := 29) (B := w.heap.size) (Row.lit (E := ldE) (T := 29) w.heap.size w #[.int .u32 10, .int .i64 100, .int .u32 20, .int .i64 0, .int .u32 30, .int .i64 1] l3 3 w.heap.size rfl rfl rfl (Nat.le_refl _) (by decide)))
  have HK1 : Hid (Below w.heap.size w (w.alloc (.cells #[.int .u32 10, .int .i64 100, .int .u32 20, .int .i64 0, .int .u32 30, .int .i64 1] 29))) := Lib.hid (more_one _ _)
  have HB3 := Lib.hid hb3
  clear hb3
  go_enter Try.func8, Try.ntmps8
  go_upto_region 2 with fail
  generalize w.alloc (.cells #[.int .u32 10, .int .i64 100, .int .u32 20, .int .i64 0, .int .u32 30, .int .i64 1] 29) = w1 at *
  obtain ⟨g, hg⟩ : ∃ g, g = w.heap.size := ⟨_, rfl⟩
  rw [← hg] at HR3 ⊢
  clear hg
  have HHV := Lib.hid (bheavy_any _ l3 w1 HR3.out HB3.out (by decide))
  rw [aw_heavy] at HHV
  dsimp only at HHV
  go_upto_region 3 with (go_at_call 10; refine HHV.out.mono ?_; rintro e w2 ⟨rfl, hk⟩)
  have hk3 : Below w1.heap.size w1 (w2.alloc (.cells #[.int .u32 10, .int .i64 100] 29)) := more hk _
  have HX3 : Hid (Blk (w2.alloc (.cells #[.int .u32 10, .int .i64 100] 29)) w2.heap.size 29 #[.int .u32 10, .int .i64 100]) := Lib.hid (Blk.new _ _ _)
  have HK3 := Lib.hid (nest HK1.out hk3)
  have HL3 := Lib.hid (HR3.out.keep hk3)
  clear hk hk3 HHV HR3 HK1
  generalize w2.alloc (.cells #[.int .u32 10, .int .i64 100] 29) = w3 at *
  obtain ⟨x, hx⟩ : ∃ x, x = w2.heap.size := ⟨_, rfl⟩
  rw [← hx] at HX3 ⊢
  clear hx
  have HE4 : Hid (EntsIn (fun j => j = w3.heap.size) (w3.alloc (.cells #[.int .u32 1, .int .u64 0, .int .u64 0, .slice none 0 0, .bool false, .int .u32 2, .int .u64 0, .int .u64 0, .slice none 0 0, .bool false] 47)) (.slice (some ⟨w3.heap.size, 0, none⟩) 2 2) ([1, 2].map plainE)) := Lib.hid (ents_plain [1, 2] _ _ (Blk.new w3 _ _) 2 rfl (by decide))
  have hk4 : Below w3.heap.size w3 (w3.alloc (.cells #[.int .u32 1, .int .u64 0, .int .u64 0, .slice none 0 0, .bool false, .int .u32 2, .int .u64 0, .int .u64 0, .slice none 0 0, .bool false] 47)) := more_one _ _
  have HPL := Lib.hid (bplan_any _ _ l3 ([1, 2].map plainE) _ _ (HL3.out.keep hk4) HB3.out (by decide) HE4.out (by intro y hy; simp at hy; rcases hy with rfl | rfl <;> simp [entB, plainE]) (by decide))
  rw [show valsE ([1, 2].map plainE) = [1, 2] from rfl, aw_plan] at HPL
  dsimp only at HPL
  have HKA := Lib.hid (nest HK3.out hk4)
  have HXA := Lib.hid (HX3.out.keep hk4)
  clear hk4
  go_upto_region 4 with (go_at_call 14; refine HPL.out.mono ?_; rintro e w5 ⟨rfl, hk⟩)
  have HK5 := Lib.hid (nest HKA.out (more hk (.cells #[.int .u32 20, .int .u32 2] 33)))
  have HX5 := Lib.hid (HXA.out.keep (more hk (.cells #[.int .u32 20, .int .u32 2] 33)))
  have HM5 : Hid (Blk (w5.alloc (.cells #[.int .u32 20, .int .u32 2] 33)) w5.heap.size 33 #[.int .u32 20, .int .u32 2]) := Lib.hid (Blk.new _ _ _)
  clear hk HPL HKA HXA HE4
  generalize w5.alloc (.cells #[.int .u32 20, .int .u32 2] 33) = w6 at *
  obtain ⟨y, hy⟩ : ∃ x, x = w5.heap.size := ⟨_, rfl⟩
  rw [← hy] at HM5 ⊢
  clear hy
  have c0 : w6.cell? ⟨x, 0, none⟩ = some (.int .u32 10) := HX5.out.cell 0
  have d0 : w6.cell? ⟨y, 0, none⟩ = some (.int .u32 20) := HM5.out.cell 0
  have d1 : w6.cell? ⟨y, 1, none⟩ = some (.int .u32 2) := HM5.out.cell 1
  refine Run.region_seq (S := fun z => z.cell? ⟨x, 0, none⟩ = some (.int .u32 10) ∧ z.cell? ⟨y, 0, none⟩ = some (.int .u32 20) ∧ z.cell? ⟨y, 1, none⟩ = some (.int .u32 2))
    [0, 0, 0, 0, 0, 0, 0, 0, 0, 0, 0, 0, 0, 0, 0, 0] (l := ?_) ?_ ⟨c0, d0, d1⟩ ?_
  rotate_left
  (· simp only [Run.seqOf, List.toList_toArray, Run.stepsOf, Run.stepOf, Run.guardOf, List.getElem?_toArray, List.getElem?_cons_zero, List.getElem?_cons_succ, Option.map_some, Option.map_none, Option.bind_some, Option.toList_some, List.map_cons, List.map_nil, List.cons_append, List.nil_append, List.append_eq]
     rfl)
  repeat ((first
    | (refine Run.takes (v := ?_) ?_ ?_; rotate_left; (· intro w' hS'; (first | (have h1 := hS'.1; have h2 := hS'.2.1; have h3 := hS'.2.2; go_simp; done) | (go_simp; (try with_reducible rfl)))))
    | (refine Run.takesG (v := ?_) ?_ ?_ ?_; rotate_left; (· simp only [List.getElem?_cons_zero, List.getElem?_cons_succ]); (· intro w' hS'; (first | (have h1 := hS'.1; have h2 := hS'.2.1; have h3 := hS'.2.2; go_simp; done) | (go_simp; (try with_reducible rfl)))))
    | (refine Run.skipsT ?_ ?_; (· simp only [List.getElem?_cons_zero, List.getElem?_cons_succ]))
    | (refine Run.skipsF ?_ ?_; (· simp only [List.getElem?_cons_zero, List.getElem?_cons_succ]))
    | (refine Run.skipsU ?_ ?_; (· simp only [List.getElem?_cons_zero, List.getElem?_cons_succ]))
    | (refine Run.passT ?_ ?_; (· simp only [List.getElem?_cons_zero, List.getElem?_cons_succ]))
    | (refine Run.passF ?_ ?_; (· simp only [List.getElem?_cons_zero, List.getElem?_cons_succ]))
    | (refine Run.passU ?_ ?_; (· simp only [List.getElem?_cons_zero, List.getElem?_cons_succ]))
    | fail); simp only [Act.put, List.setIfInBounds_toArray, List.set_cons_zero, List.set_cons_succ])
  refine Run.ends (fun hS => ?_)
  clear hS c0 d0 d1
  go_wp2_with fail
  go_ret
  exact ⟨rfl, HK5.out⟩
/-- not too much -/
def fewD (l : List Ent) : Bool := decide (l.length ≤ 60) && l.all fun y => decide (y.2.1.2.2.length ≤ 20)
theorem fewd_yes {l : List Ent} : fewD l = true ↔ l.length ≤ 60 ∧ ∀ y ∈ l, y.2.1.2.2.length ≤ 20 := by simp [fewD]
set_option maxRecDepth 100000 in
set_option maxHeartbeats 2000000 in
theorem bfew_any (Q : Nat → Prop) (v : Value) (l : List Ent) (w : World) (h : EntsIn Q w v l) : Calls Try.prog 7 #[v] w fun e w' => e = .returned (.bool (fewD l)) ∧ Below w.heap.size w w' := by
  obtain ⟨RES, hRES⟩ : ∃ r, r = fewD l := ⟨_, rfl⟩
  rw [← hRES]
  have HRES := Lib.hid hRES
  clear hRES
  obtain ⟨a, g, off, c, rfl, hc1, hc2, hc3, hc4⟩ := h.at
  have hc2' : c ≤ 9223372036854775807 := hc2
  have HC3 := Lib.hid hc3
  have HC4 := Lib.hid hc4
  clear h hc3 hc4 hc2
  go_enter Try.func7, Try.ntmps7
  go_upto_block 99 with fail
  go_loopw [3] (fun n wr => ∃ j : Nat, j ≤ l.length ∧ n = .int .i64 j ∧ (∀ t, t < j → (l.getD t e0).2.1.2.2.length ≤ 20) ∧ Below w.heap.size w wr) (fun n _ => l.length - (intOf n).toNat)
  case atStart => exact ⟨0, Nat.zero_le _, rfl, fun t ht => absurd ht (Nat.not_lt_zero _), Below.refl _ _⟩
  case round =>
    obtain ⟨j, hj, rfl, hno, hb⟩ := hrel
    have HNO := Lib.hid hno
    have HBB := Lib.hid hb
    clear hno
    by_cases hlt : j < l.length
    · obtain ⟨rfl, hg1, hg2⟩ := HC3.out (by omega)
      obtain ⟨x, _, _, _, d3, _, hrx, _⟩ := HC4.out j hlt
      obtain ⟨ax, cx, rfl, _, _⟩ := hrx.form
      have d3 := kc hb d3
      have HMEM : Hid (l.getD j e0 ∈ l) := Lib.hid (by rw [show l.getD j e0 = l[j] by simp [List.getD, hlt]]; exact List.getElem_mem _)
      have HJ : Hid ((l.getD j e0).2.1.2.2.length = (l.getD j e0).2.1.2.2.length) := Lib.hid rfl
      obtain ⟨p, hp⟩ : ∃ p, p = (l.getD j e0).2.1.2.2.length := ⟨_, rfl⟩
      rw [← hp] at d3
      have HPP := Lib.hid hp
      clear hp hrx hb hg1 hg2 HJ
      by_cases h20 : p > 20
      · have hr : Hid (RES = false) := Lib.hid (by
          rw [HRES.out]
          cases hf : fewD l with
          | false => rfl
          | true => have := (fewd_yes.1 hf).2 _ HMEM.out; rw [← HPP.out] at this; omega)
        have e20 : (p : Int) > 20 := by omega
        go_wp2_with fail
        go_ret
        exact ⟨by rw [hr.out]; rfl, HBB.out⟩
      · have e20 : ¬ (p : Int) > 20 := by omega
        go_wp2_with fail
        exact ⟨⟨j + 1, by omega, by go_num, fun t ht => by rcases Nat.lt_or_ge t j with h | h; exact HNO.out t h; rw [show t = j by omega, ← HPP.out]; omega, HBB.out⟩, by simp [intOf]; omega⟩
    · have hjl : j = l.length := by omega
      subst hjl
      have hr : Hid (RES = decide ((l.length : Int) ≤ 60)) := Lib.hid (by
        rw [HRES.out]
        unfold fewD
        have : (l.all fun y => decide (y.2.1.2.2.length ≤ 20)) = true := by
          rw [List.all_eq_true]
          intro y hy
          obtain ⟨i, hi, rfl⟩ := List.getElem_of_mem hy
          have := HNO.out i hi
          rw [show l.getD i e0 = l[i] by simp [List.getD, hi]] at this
          simpa using this
        rw [this, Bool.and_true]
        exact decide_eq_decide.2 (by omega))
      go_wp2_with fail
      go_ret
      exact ⟨by rw [hr.out]; rfl, HBB.out⟩
end Go.Proofs.Ytgkmkpkbdmciiaa
