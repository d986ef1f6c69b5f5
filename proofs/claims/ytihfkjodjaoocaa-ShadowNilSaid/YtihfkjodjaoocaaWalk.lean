/- Walks of package circle's small functions: what each call answers. -/
import Derived.Test.YtihfkjodjaoocaaRows
import Derived.Test.YtihfkjodjaoocaaMath
import Derived.WalkKit
import Derived.WalkSpells
import Derived.WalkLawsBesides
import Derived.Deep.RegionHeld3
import Derived.Deep.DeepFit
set_option maxRecDepth 4000
namespace Go.Proofs.Ytihfkjodjaoocaa
open Go.RowKit Cir

theorem behind_any (f v : Int) (w : World) :
    Calls Try.prog 73 #[.int .u32 f, .int .u32 v] w fun e w' => e = .returned (.int .u64 (beh f v)) ∧ w = w' := by
  go_enter Try.func73, Try.ntmps73
  go_wp2
  go_ret
  exact ⟨by unfold beh; rfl, rfl⟩

theorem far_any (f v : Int) (w : World) :
    Calls Try.prog 78 #[.int .u32 f, .int .u32 v] w fun e w' => e = .returned (.int .u32 (far f v)) ∧ w = w' := by
  go_enter Try.func78, Try.ntmps78
  go_wp2
  go_ret
  exact ⟨by unfold far; rfl, rfl⟩

theorem size_any (f t : Int) (w : World) :
    Calls Try.prog 74 #[.agg #[.int .u32 f, .int .u32 t]] w fun e w' => e = .returned (.int .u64 (beh f t)) ∧ Below w.heap.size w w' := by
  go_enter Try.func74, Try.ntmps74
  go_wp2_with (go_at_call 73; refine (behind_any _ _ _).mono ?_; rintro e w' ⟨rfl, rfl⟩)
  go_ret
  exact ⟨rfl, (Below.refl _ _).alloc (Nat.le_refl _) _⟩

theorem nest {a b c : World} (h : Below a.heap.size a b) (k : Below b.heap.size b c) : Below a.heap.size a c := h.trans (k.mono h.size)
theorem more {a b : World} (h : Below a.heap.size a b) (o : Obj) : Below a.heap.size a (b.alloc o) := h.alloc h.size o
/-- two cells of old blocks, kept behind a call that only makes memory -/
theorem kept2 {W a b : World} {p q : Addr} {x y : Value} (h : a.cell? p = some x ∧ a.cell? q = some y ∧ Below W.heap.size W a) (k : Below a.heap.size a b)
    (hp : p.block < W.heap.size) (hq : q.block < W.heap.size) : b.cell? p = some x ∧ b.cell? q = some y ∧ Below W.heap.size W b :=
  ⟨(k.cell (Nat.lt_of_lt_of_le hp h.2.2.size)).trans h.1, (k.cell (Nat.lt_of_lt_of_le hq h.2.2.size)).trans h.2.1, nest h.2.2 k⟩

theorem has_any (f t v : Int) (w : World) :
    Calls Try.prog 52 #[.agg #[.int .u32 f, .int .u32 t], .int .u32 v] w fun e w' => e = .returned (.bool (decide (beh f v ≤ beh f t))) ∧ Below w.heap.size w w' := by
  have b1 := beh_bd f v
  have b2 := beh_bd f t
  go_enter Try.func52, Try.ntmps52
  go_wp2_with fail
  generalize hW : w.alloc (Obj.cells #[Value.int IntKind.u32 f, Value.int IntKind.u32 t] 61) = W
  have hb0 : Below w.heap.size w W := hW ▸ more (Below.refl _ _) _
  have hlt : w.heap.size < W.heap.size := by rw [← hW]; simp
  have hc0 : W.cell? ⟨w.heap.size, 0, none⟩ = some (.int .u32 f) := by rw [← hW]; simp
  have hc1 : W.cell? ⟨w.heap.size, 1, none⟩ = some (.int .u32 t) := by rw [← hW]; simp
  clear hW
  go_region_held3 (fun w' => w'.cell? ⟨w.heap.size, 0, none⟩ = some (.int .u32 f) ∧ w'.cell? ⟨w.heap.size, 1, none⟩ = some (.int .u32 t) ∧ Below W.heap.size W w')
    (first | exact ⟨hc0, hc1, Below.drew (Below.refl _ _)⟩ | assumption | exact kept2 (by assumption) hb hlt hlt)
    (first | (go_at_call 73; refine (behind_any _ _ _).mono ?_; rintro e w' ⟨rfl, rfl⟩) | (go_at_call 74; refine (size_any _ _ _).mono ?_; rintro e w' ⟨rfl, hb⟩))
  go_wp2_with fail
  rename_i hH
  go_ret
  exact ⟨rfl, nest hb0 hH.2.2⟩

theorem has_yes (f t v : Int) (w : World) (h : beh f v ≤ beh f t) :
    Calls Try.prog 52 #[.agg #[.int .u32 f, .int .u32 t], .int .u32 v] w fun e w' => e = .returned (.bool true) ∧ Below w.heap.size w w' :=
  (has_any f t v w).mono fun _ _ ⟨he, hb⟩ => ⟨by rw [he, decide_eq_true h], hb⟩
theorem has_no (f t v : Int) (w : World) (h : beh f t < beh f v) :
    Calls Try.prog 52 #[.agg #[.int .u32 f, .int .u32 t], .int .u32 v] w fun e w' => e = .returned (.bool false) ∧ Below w.heap.size w w' :=
  (has_any f t v w).mono fun _ _ ⟨he, hb⟩ => ⟨by rw [he, decide_eq_false (by omega)], hb⟩

theorem mid_eq (f t : Int) : IntKind.u32.wrap (f + IntKind.u32.wrap (beh f t / 2)) = mid f t := by
  simp only [IntKind.wrap_u32]; unfold mid; omega

end Go.Proofs.Ytihfkjodjaoocaa
