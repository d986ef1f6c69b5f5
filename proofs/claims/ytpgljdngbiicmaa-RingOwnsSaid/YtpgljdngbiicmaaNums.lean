/- Small library functions at numbers: slices.Clone, cmp.Compare, cmp.Less; worlds behind others. -/
import Derived.Test.YtpgljdngbiicmaaMem
import Derived.Lib.SliceRun
import Derived.Deep.MidRow
import Derived.Sort.Grow
import Derived.WalkKit
import Derived.WalkSpells
import Derived.Lib.Small
set_option maxRecDepth 4000
namespace Go.Proofs.Ytpgljdngbiicmaa
open Go.RowKit Mem
open Go.Sort (grow)
set_option linter.unusedSimpArgs false
set_option linter.unusedVariables false
attribute [local irreducible] Go.Calls

theorem u32Elem32 : Elem Try.prog 22 24 1 4 := elem_of (z := .int .u32 0) Try.underlying22 (by kernel_rfl) rfl
theorem clone32_any (v : Value) (l : List Int) (w : World) (h : Rd (intE .u32) w v l) (hl : l.length ≤ 35184372087808) :
    Calls Try.prog 40 #[v] w fun e w' => ∃ v, e = .returned v ∧ Row (intE .u32) 24 w.heap.size w' v l ∧ Below w.heap.size w w' := by
  obtain ⟨a, c, rfl, h1, h2⟩ := h.form
  rcases a with _ | a
  · have hl0 : l = [] := by
      obtain ⟨a', c', hv, _, _, h3⟩ := h
      rcases Nat.eq_zero_or_pos l.length with h0 | h0
      · exact List.eq_nil_of_length_eq_zero h0
      · obtain ⟨g, off, ha, _⟩ := h3 h0
        rw [ha] at hv
        cases hv
    subst hl0
    have heq := Go.Lib.run_eql_slice_nil w 22 24 none 0 c 0 0 Try.underlying22
    go_enter Try.func40, Try.ntmps40
    go_wp2_with fail
    go_ret
    exact ⟨_, rfl, Row.nil, Below.refl _ _⟩
  · have heq := Go.Lib.run_eql_slice_nil w 22 24 (some a) l.length c 0 0 Try.underlying22
    have hrow : Row (intE .u32) 24 w.heap.size (w.alloc (.cells #[] 24)) (.slice (some ⟨w.heap.size, 0, none⟩) 0 0) [] := Row.lit _ _ #[] [] 0 _ rfl rfl rfl (Nat.le_refl _) (Nat.zero_le _)
    have hk : Below w.heap.size w (w.alloc (.cells #[] 24)) := more (Below.refl _ _) _
    have hr := h.keep hk
    have HK := Lib.hid hk
    clear hk h
    go_enter Try.func40, Try.ntmps40
    go_wp2_with (at_builtin; go_must (refine wpList_append (E := intE .u32) (B := w.heap.size) (l := []) (m := l) (bytes := 4) u32Elem32 Nat.zero_lt_one rfl (.tmp 5) (.tmp 6) rfl rfl hrow rfl hr (by simp [maxLen]; omega) (by simp; omega) HK.out.size ?_); intro v9 z hr9 hk9 hg9 _)
    rw [List.nil_append] at hr9
    have hz := HK.out.trans hk9
    go_ret
    exact ⟨_, rfl, hr9, hz⟩
theorem nan32_any (x : Int) (w : World) : Calls Try.prog 54 #[.int .u32 x] w fun e w' => e = .returned (.bool false) ∧ w' = w := by
  go_enter Try.func54, Try.ntmps54
  go_wp2_with fail
  go_ret
  exact ⟨rfl, rfl⟩
theorem nan64_any (x : Int) (w : World) : Calls Try.prog 49 #[.int .u64 x] w fun e w' => e = .returned (.bool false) ∧ w' = w := by
  go_enter Try.func49, Try.ntmps49
  go_wp2_with fail
  go_ret
  exact ⟨rfl, rfl⟩
theorem cmp64_any (x y : Int) (w : World) : Calls Try.prog 36 #[.int .u64 x, .int .u64 y] w fun e w' => e = .returned (.int .i64 (Lib.compareInt x y)) ∧ w' = w := by
  rcases Int.lt_trichotomy x y with h | h | h
  · have e : Lib.compareInt x y = -1 := by unfold Lib.compareInt; rw [if_pos h]
    rw [e]
    go_enter Try.func36, Try.ntmps36
    go_wp2_with (go_at_call 49; refine (nan64_any _ _).mono ?_; rintro e w' ⟨rfl, rfl⟩)
    go_ret
    exact ⟨rfl, rfl⟩
  · have e : Lib.compareInt x y = 0 := by unfold Lib.compareInt; rw [if_neg (by omega), if_neg (by omega)]
    have h1 : ¬ x < y := by omega
    have h2 : ¬ x > y := by omega
    rw [e]
    clear h
    go_enter Try.func36, Try.ntmps36
    go_wp2_with (go_at_call 49; refine (nan64_any _ _).mono ?_; rintro e w' ⟨rfl, rfl⟩)
    go_ret
    exact ⟨rfl, rfl⟩
  · have e : Lib.compareInt x y = 1 := by unfold Lib.compareInt; rw [if_neg (by omega), if_pos h]
    have h1 : ¬ x < y := by omega
    have h2 : x > y := h
    rw [e]
    clear h
    go_enter Try.func36, Try.ntmps36
    go_wp2_with (go_at_call 49; refine (nan64_any _ _).mono ?_; rintro e w' ⟨rfl, rfl⟩)
    go_ret
    exact ⟨rfl, rfl⟩
theorem isnan32_any (x : Int) (w : World) : Calls Try.prog 54 #[.int .u32 x] w fun e w' => e = .returned (.bool false) ∧ w' = w := by
  go_enter Try.func54, Try.ntmps54
  go_wp2_with fail
  go_ret
  exact ⟨by simp, rfl⟩
theorem less32_any (x y : Int) (w : World) : Calls Try.prog 45 #[.int .u32 x, .int .u32 y] w fun e w' => e = .returned (.bool (decide (x < y))) ∧ w' = w := by
  by_cases hxy : x < y
  · go_enter Try.func45, Try.ntmps45
    go_wp2_with (go_at_call 54; refine (isnan32_any _ _).mono ?_; rintro e w' ⟨rfl, rfl⟩)
    go_ret
    exact ⟨by simp [hxy], rfl⟩
  · go_enter Try.func45, Try.ntmps45
    go_wp2_with (go_at_call 54; refine (isnan32_any _ _).mono ?_; rintro e w' ⟨rfl, rfl⟩)
    go_ret
    exact ⟨by simp [hxy], rfl⟩
/-! ### worlds behind others: draws and new blocks alone -/
def Gr (W z : World) : Prop := ∃ q os, z = grow (W.drewN q) os
theorem Gr.refl (W : World) : Gr W W := ⟨0, #[], by rw [Go.Sort.grow_empty]; rfl⟩
theorem Gr.drew {W z : World} (h : Gr W z) : Gr W z.drew := by
  obtain ⟨q, os, rfl⟩ := h
  exact ⟨q + 1, os, rfl⟩
theorem Gr.alloc {W z : World} (h : Gr W z) (o : Obj) : Gr W (z.alloc o) := by
  obtain ⟨q, os, rfl⟩ := h
  exact ⟨q, os ++ #[o], by rw [Go.Sort.alloc_eq_grow, Go.Sort.grow_grow]⟩
theorem Gr.below {W z : World} (h : Gr W z) : Below W.heap.size W z := by
  obtain ⟨q, os, rfl⟩ := h
  refine ⟨rfl, rfl, rfl, by simp [Go.Sort.grow, World.drewN], fun k hk => ?_⟩
  show (W.heap ++ os)[k]? = _
  rw [Array.getElem?_append_left hk]
theorem Gr.trans {W z z' : World} (h : Gr W z) (k : Gr z z') : Gr W z' := by
  obtain ⟨q, os, rfl⟩ := h
  obtain ⟨q', os', rfl⟩ := k
  refine ⟨q + q', os ++ os', ?_⟩
  simp [Go.Sort.grow, World.drewN, Array.append_assoc, Nat.add_assoc]
theorem cmpInt_lt (x y : Int) : Lib.compareInt x y < 0 ↔ x < y := by
  unfold Lib.compareInt
  split
  · simp; omega
  · split <;> simp <;> omega
end Go.Proofs.Ytpgljdngbiicmaa
