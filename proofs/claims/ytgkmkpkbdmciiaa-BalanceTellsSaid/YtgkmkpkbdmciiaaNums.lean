/- Small library functions at numbers: slices.Clone, cmp.Compare, cmp.Less; worlds behind others. -/
import Derived.Test.YtgkmkpkbdmciiaaMem
import Derived.Lib.SliceRun
import Derived.Deep.MidRow
import Derived.Sort.Grow
import Derived.WalkKit
import Derived.WalkSpells
import Derived.Lib.Small
set_option maxRecDepth 4000
namespace Go.Proofs.Ytgkmkpkbdmciiaa
open Go.RowKit Mem
open Go.Sort (grow)
set_option linter.unusedSimpArgs false
set_option linter.unusedVariables false
attribute [local irreducible] Go.Calls

theorem u32Elem32 : Elem Try.prog 43 27 1 4 := elem_of (z := .int .u32 0) Try.underlying43 (by kernel_rfl) rfl
theorem nan32_any (x : Int) (w : World) : Calls Try.prog 31 #[.int .u32 x] w fun e w' => e = .returned (.bool false) ∧ w' = w := by
  go_enter Try.func31, Try.ntmps31
  go_wp2_with fail
  go_ret
  exact ⟨rfl, rfl⟩
theorem cmp32_any (x y : Int) (w : World) : Calls Try.prog 24 #[.int .u32 x, .int .u32 y] w fun e w' => e = .returned (.int .i64 (Lib.compareInt x y)) ∧ w' = w := by
  rcases Int.lt_trichotomy x y with h | h | h
  · have e : Lib.compareInt x y = -1 := by unfold Lib.compareInt; rw [if_pos h]
    rw [e]
    go_enter Try.func24, Try.ntmps24
    go_wp2_with (go_at_call 31; refine (nan32_any _ _).mono ?_; rintro e w' ⟨rfl, rfl⟩)
    go_ret
    exact ⟨rfl, rfl⟩
  · have e : Lib.compareInt x y = 0 := by unfold Lib.compareInt; rw [if_neg (by omega), if_neg (by omega)]
    have h1 : ¬ x < y := by omega
    have h2 : ¬ x > y := by omega
    rw [e]
    clear h
    go_enter Try.func24, Try.ntmps24
    go_wp2_with (go_at_call 31; refine (nan32_any _ _).mono ?_; rintro e w' ⟨rfl, rfl⟩)
    go_ret
    exact ⟨rfl, rfl⟩
  · have e : Lib.compareInt x y = 1 := by unfold Lib.compareInt; rw [if_neg (by omega), if_pos h]
    have h1 : ¬ x < y := by omega
    have h2 : x > y := h
    rw [e]
    clear h
    go_enter Try.func24, Try.ntmps24
    go_wp2_with (go_at_call 31; refine (nan32_any _ _).mono ?_; rintro e w' ⟨rfl, rfl⟩)
    go_ret
    exact ⟨rfl, rfl⟩
theorem isnan32_any (x : Int) (w : World) : Calls Try.prog 31 #[.int .u32 x] w fun e w' => e = .returned (.bool false) ∧ w' = w := by
  go_enter Try.func31, Try.ntmps31
  go_wp2_with fail
  go_ret
  exact ⟨by simp, rfl⟩
/-! ### worlds behind others: draws and new blocks alone -/
def Gr (W z : World) : Prop := ∃ q os, z = grow (W.drewN q) os
theorem Gr.refl (W : World) : Gr W W := ⟨0, #[], by rw [Go.Sort.grow_empty]; rfl⟩
theorem Gr.drew {W z : World} (h : Gr W z) : Gr W z.drew := by
  obtain ⟨q, os, rfl⟩ := h
  exact ⟨q + 1, os, rfl⟩
theorem Gr.alloc {W z : World} (h : Gr W z) (o : Obj) : Gr W (z.alloc o) := by
  obtain ⟨q, os, rfl⟩ := h
  exact ⟨q, os ++ #[o], by rw [Go.Sort.alloc_eq_grow, Go.Sort.grow_grow]⟩
theorem Gr.below {W z : World} (h : Gr W z) : Below W.heap.size W z := by
  obtain ⟨q, os, rfl⟩ := h
  refine ⟨rfl, rfl, rfl, by simp [Go.Sort.grow, World.drewN], fun k hk => ?_⟩
  show (W.heap ++ os)[k]? = _
  rw [Array.getElem?_append_left hk]
theorem Gr.trans {W z z' : World} (h : Gr W z) (k : Gr z z') : Gr W z' := by
  obtain ⟨q, os, rfl⟩ := h
  obtain ⟨q', os', rfl⟩ := k
  refine ⟨q + q', os ++ os', ?_⟩
  simp [Go.Sort.grow, World.drewN, Array.append_assoc, Nat.add_assoc]
theorem cmpInt_lt (x y : Int) : Lib.compareInt x y < 0 ↔ x < y := by
  unfold Lib.compareInt
  split
  · simp; omega
  · split <;> simp <;> omega
end Go.Proofs.Ytgkmkpkbdmciiaa
