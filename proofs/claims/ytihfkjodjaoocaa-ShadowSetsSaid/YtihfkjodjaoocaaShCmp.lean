/- Walks of package shelf: how two keys are compared, in worlds that a sort passes through. -/
import Derived.Test.YtihfkjodjaoocaaShOps
import Derived.Test.YtihfkjodjaoocaaShoPlans
import Derived.Test.YtihfkjodjaoocaaRun2
import Derived.Test.YtihfkjodjaoocaaSortKey
set_option maxRecDepth 4000
namespace Go.Proofs.Ytihfkjodjaoocaa
open Go.RowKit Mem
open Go.Sort (grow)
set_option linter.unusedSimpArgs false
set_option linter.unusedVariables false
attribute [local irreducible] Go.Calls

theorem nan32_any (x : Int) (w : World) : Calls Try.prog 77 #[.int .u32 x] w fun e w' => e = .returned (.bool false) ∧ w' = w := by
  go_enter Try.func77, Try.ntmps77
  go_wp2_with fail
  go_ret
  exact ⟨rfl, rfl⟩
theorem nan64_any (x : Int) (w : World) : Calls Try.prog 76 #[.int .u64 x] w fun e w' => e = .returned (.bool false) ∧ w' = w := by
  go_enter Try.func76, Try.ntmps76
  go_wp2_with fail
  go_ret
  exact ⟨rfl, rfl⟩
theorem cmp32_any (x y : Int) (w : World) : Calls Try.prog 56 #[.int .u32 x, .int .u32 y] w fun e w' => e = .returned (.int .i64 (Lib.compareInt x y)) ∧ w' = w := by
  rcases Int.lt_trichotomy x y with h | h | h
  · have e : Lib.compareInt x y = -1 := by unfold Lib.compareInt; rw [if_pos h]
    rw [e]
    go_enter Try.func56, Try.ntmps56
    go_wp2_with (go_at_call 77; refine (nan32_any _ _).mono ?_; rintro e w' ⟨rfl, rfl⟩)
    go_ret
    exact ⟨rfl, rfl⟩
  · have e : Lib.compareInt x y = 0 := by unfold Lib.compareInt; rw [if_neg (by omega), if_neg (by omega)]
    have h1 : ¬ x < y := by omega
    have h2 : ¬ x > y := by omega
    rw [e]
    clear h
    go_enter Try.func56, Try.ntmps56
    go_wp2_with (go_at_call 77; refine (nan32_any _ _).mono ?_; rintro e w' ⟨rfl, rfl⟩)
    go_ret
    exact ⟨rfl, rfl⟩
  · have e : Lib.compareInt x y = 1 := by unfold Lib.compareInt; rw [if_neg (by omega), if_pos h]
    have h1 : ¬ x < y := by omega
    have h2 : x > y := h
    rw [e]
    clear h
    go_enter Try.func56, Try.ntmps56
    go_wp2_with (go_at_call 77; refine (nan32_any _ _).mono ?_; rintro e w' ⟨rfl, rfl⟩)
    go_ret
    exact ⟨rfl, rfl⟩
theorem cmp64_any (x y : Int) (w : World) : Calls Try.prog 55 #[.int .u64 x, .int .u64 y] w fun e w' => e = .returned (.int .i64 (Lib.compareInt x y)) ∧ w' = w := by
  rcases Int.lt_trichotomy x y with h | h | h
  · have e : Lib.compareInt x y = -1 := by unfold Lib.compareInt; rw [if_pos h]
    rw [e]
    go_enter Try.func55, Try.ntmps55
    go_wp2_with (go_at_call 76; refine (nan64_any _ _).mono ?_; rintro e w' ⟨rfl, rfl⟩)
    go_ret
    exact ⟨rfl, rfl⟩
  · have e : Lib.compareInt x y = 0 := by unfold Lib.compareInt; rw [if_neg (by omega), if_neg (by omega)]
    have h1 : ¬ x < y := by omega
    have h2 : ¬ x > y := by omega
    rw [e]
    clear h
    go_enter Try.func55, Try.ntmps55
    go_wp2_with (go_at_call 76; refine (nan64_any _ _).mono ?_; rintro e w' ⟨rfl, rfl⟩)
    go_ret
    exact ⟨rfl, rfl⟩
  · have e : Lib.compareInt x y = 1 := by unfold Lib.compareInt; rw [if_neg (by omega), if_pos h]
    have h1 : ¬ x < y := by omega
    have h2 : x > y := h
    rw [e]
    clear h
    go_enter Try.func55, Try.ntmps55
    go_wp2_with (go_at_call 76; refine (nan64_any _ _).mono ?_; rintro e w' ⟨rfl, rfl⟩)
    go_ret
    exact ⟨rfl, rfl⟩
theorem shsteps_exact (f t v : Int) (w : World) :
    Calls Try.prog 57 #[.agg #[.int .u32 f, .int .u32 t], .int .u32 v] w fun e w' => e = .returned (.int .u32 (stepE f v)) ∧ w' = w.alloc (.cells #[.int .u32 f, .int .u32 t] 61) := by
  have he : Cir.far ((f + 1) % 4294967296) v = stepE f v := by unfold Cir.far stepE; omega
  go_enter Try.func57, Try.ntmps57
  go_wp2_with (go_at_call 78; refine (far_any _ _ _).mono ?_; rintro e w' ⟨rfl, rfl⟩)
  go_ret
  exact ⟨rfl, rfl⟩
/-! ### worlds behind others: draws and new blocks alone -/
def Gr (W z : World) : Prop := ∃ q os, z = grow (W.drewN q) os
theorem Gr.refl (W : World) : Gr W W := ⟨0, #[], by rw [Go.Sort.grow_empty]; rfl⟩
theorem Gr.drew {W z : World} (h : Gr W z) : Gr W z.drew := by
  obtain ⟨q, os, rfl⟩ := h
  exact ⟨q + 1, os, rfl⟩
theorem Gr.alloc {W z : World} (h : Gr W z) (o : Obj) : Gr W (z.alloc o) := by
  obtain ⟨q, os, rfl⟩ := h
  exact ⟨q, os ++ #[o], by rw [Go.Sort.alloc_eq_grow, Go.Sort.grow_grow]⟩
theorem Gr.below {W z : World} (h : Gr W z) : Below W.heap.size W z := by
  obtain ⟨q, os, rfl⟩ := h
  refine ⟨rfl, rfl, rfl, by simp [Go.Sort.grow, World.drewN], fun k hk => ?_⟩
  show (W.heap ++ os)[k]? = _
  rw [Array.getElem?_append_left hk]
theorem Gr.trans {W z z' : World} (h : Gr W z) (k : Gr z z') : Gr W z' := by
  obtain ⟨q, os, rfl⟩ := h
  obtain ⟨q', os', rfl⟩ := k
  refine ⟨q + q', os ++ os', ?_⟩
  simp [Go.Sort.grow, World.drewN, Array.append_assoc, Nat.add_assoc]
/-- what the closure tells -/
def cmpV (f va ia vb ib : Int) : Int := if va = vb then Lib.compareInt ia ib else Lib.compareInt (stepE f va) (stepE f vb)
set_option maxHeartbeats 4000000 in
set_option maxRecDepth 100000 in
theorem shcmp_any (gs : Nat) (f t va ia vb ib : Int) (w : World) (h0 : w.cell? ⟨gs, 0, none⟩ = some (.int .u32 f)) (h1 : w.cell? ⟨gs, 1, none⟩ = some (.int .u32 t)) :
    Calls Try.prog 54 #[.agg #[.int .u32 va, .int .u64 ia], .agg #[.int .u32 vb, .int .u64 ib], .pointer (some ⟨gs, 0, none⟩)] w fun e w' => e = .returned (.int .i64 (cmpV f va ia vb ib)) ∧ Gr w w' := by
  have hk : Below w.heap.size w ((w.alloc (.cells #[.int .u32 va, .int .u64 ia] 66)).alloc (.cells #[.int .u32 vb, .int .u64 ib] 66)) := more (more (Below.refl _ _) _) _
  have HA : Hid (Blk ((w.alloc (.cells #[.int .u32 va, .int .u64 ia] 66)).alloc (.cells #[.int .u32 vb, .int .u64 ib] 66)) w.heap.size 66 #[.int .u32 va, .int .u64 ia]) := Lib.hid ((Blk.new w _ _).keep (more (Below.refl _ _) _))
  have HB : Hid (Blk ((w.alloc (.cells #[.int .u32 va, .int .u64 ia] 66)).alloc (.cells #[.int .u32 vb, .int .u64 ib] 66)) (w.heap.size + 1) 66 #[.int .u32 vb, .int .u64 ib]) := Lib.hid (Blk.newAt _ _ _ (size_alloc _ _).symm)
  have HG : Hid (Gr w ((w.alloc (.cells #[.int .u32 va, .int .u64 ia] 66)).alloc (.cells #[.int .u32 vb, .int .u64 ib] 66))) := Lib.hid (((Gr.refl w).alloc _).alloc _)
  have H0 := Lib.hid (kc hk h0)
  have H1 := Lib.hid (kc hk h1)
  clear hk h0 h1
  obtain ⟨CV, hCV⟩ : ∃ r, r = cmpV f va ia vb ib := ⟨_, rfl⟩
  have HCV := Lib.hid hCV
  rw [← hCV]
  clear hCV
  go_enter Try.func54, Try.ntmps54
  go_upto_region 1 with fail
  generalize (w.alloc (.cells #[.int .u32 va, .int .u64 ia] 66)).alloc (.cells #[.int .u32 vb, .int .u64 ib] 66) = w1 at *
  obtain ⟨ga, hga⟩ : ∃ g, g = w.heap.size := ⟨_, rfl⟩
  rw [← hga] at HA HB ⊢
  clear hga
  have a0 : w1.cell? ⟨ga, 0, none⟩ = some (.int .u32 va) := HA.out.cell 0
  have a1 : w1.cell? ⟨ga, 1, none⟩ = some (.int .u64 ia) := HA.out.cell 1
  have b0 : w1.cell? ⟨ga + 1, 0, none⟩ = some (.int .u32 vb) := HB.out.cell 0
  have b1 : w1.cell? ⟨ga + 1, 1, none⟩ = some (.int .u64 ib) := HB.out.cell 1
  by_cases he : va = vb
  · subst he
    have HCE : Hid (CV = Lib.compareInt ia ib) := Lib.hid (by rw [HCV.out]; unfold cmpV; rw [if_pos rfl])
    go_wp2_with (go_at_call 55; refine (cmp64_any _ _ _).mono ?_; rintro e w' ⟨rfl, rfl⟩)
    go_ret
    exact ⟨by rw [HCE.out]; rfl, HG.out⟩
  · have HCE : Hid (CV = Lib.compareInt (stepE f va) (stepE f vb)) := Lib.hid (by rw [HCV.out]; unfold cmpV; rw [if_neg he])
    have hd : (va == vb) = false := by simpa using he
    go_upto_region 3 with fail
    have HD := Lib.hid hd
    have HE := Lib.hid he
    clear hd he
    refine Run.region_walk (S := fun z => z.cell? ⟨gs, 0, none⟩ = some (.int .u32 f) ∧ z.cell? ⟨gs, 1, none⟩ = some (.int .u32 t) ∧ z.cell? ⟨ga, 0, none⟩ = some (.int .u32 va) ∧ z.cell? ⟨ga + 1, 0, none⟩ = some (.int .u32 vb) ∧ Gr w z)
      okeysf.rows3 okeysf.plan3 (l := ?steps1) (by kernel_rfl) (by kernel_rfl) (by kernel_rfl) (by kernel_rfl) ?written1 ⟨H0.out, H1.out, a0, b0, HG.out.drew⟩ ?onward1
    case written1 =>
      simp only [okeysf.plan3, Run.stepsOf, Run.stepOf, Run.guardOf, List.getElem?_toArray, List.getElem?_cons_zero, List.getElem?_cons_succ, Option.map_some, Option.map_none, Option.bind_some, Option.toList_some, List.map_cons, List.map_nil, List.cons_append, List.nil_append, List.append_eq]
      rfl
    repeat ((first
      | (refine Run.takes (v := ?_) ?_ ?_; rotate_left; (· intro w' hS'; go_simp; (try with_reducible rfl)))
      | (refine Run.takesG (v := ?_) ?_ ?_ ?_; rotate_left; (· simp only [List.getElem?_cons_zero, List.getElem?_cons_succ]); (· intro w' hS'; go_simp; (try with_reducible rfl)))
      | (refine Run.skipsT ?_ ?_; (· simp only [List.getElem?_cons_zero, List.getElem?_cons_succ]))
      | (refine Run.skipsF ?_ ?_; (· simp only [List.getElem?_cons_zero, List.getElem?_cons_succ]))
      | (refine Run.skipsU ?_ ?_; (· simp only [List.getElem?_cons_zero, List.getElem?_cons_succ]))
      | (refine Run.passT ?_ ?_; (· simp only [List.getElem?_cons_zero, List.getElem?_cons_succ]))
      | (refine Run.passF ?_ ?_; (· simp only [List.getElem?_cons_zero, List.getElem?_cons_succ]))
      | (refine Run.passU ?_ ?_; (· simp only [List.getElem?_cons_zero, List.getElem?_cons_succ]))
      | (refine Run.runs ?_
         (first
         | (refine Run.callF 57 (by kernel_rfl) (fun hS => shsteps_exact f t _ _) rfl ?_)
         | (refine Run.callG 57 (by kernel_rfl) ?_ (fun hS => shsteps_exact f t _ _) rfl ?_; (· simp only [List.getElem?_cons_zero, List.getElem?_cons_succ]))
         | (refine Run.callF 56 (by kernel_rfl) (fun hS => cmp32_any _ _ _) rfl ?_)
         | (refine Run.callG 56 (by kernel_rfl) ?_ (fun hS => cmp32_any _ _ _) rfl ?_; (· simp only [List.getElem?_cons_zero, List.getElem?_cons_succ]))
         | fail)
         (first
         | (rintro hS e w' ⟨rfl, rfl⟩; first | exact ⟨_, rfl, hS, by assumption⟩ | (refine ⟨_, rfl, ?_, ?_⟩; first | exact hS | exact ⟨kc (more (Below.refl _ _) _) hS.1, kc (more (Below.refl _ _) _) hS.2.1, kc (more (Below.refl _ _) _) hS.2.2.1, kc (more (Below.refl _ _) _) hS.2.2.2.1, hS.2.2.2.2.alloc _⟩))
         | (rintro hS e w' ⟨rfl, rfl⟩; refine ⟨_, rfl, hS, ?_⟩)
         | fail))
      | fail); simp only [Act.put, List.setIfInBounds_toArray, List.set_cons_zero, List.set_cons_succ])
    refine Run.ends (fun hZ => ?_)
    have HZ := Lib.hid hZ.2.2.2.2
    clear hZ
    go_wp2_with fail
    go_ret
    exact ⟨by rw [HCE.out]; rfl, HZ.out⟩
end Go.Proofs.Ytihfkjodjaoocaa
