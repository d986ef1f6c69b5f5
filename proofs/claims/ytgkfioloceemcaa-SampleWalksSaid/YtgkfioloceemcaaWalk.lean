/- Walks of package circle's small functions: what each call answers. -/
import Derived.Test.YtgkfioloceemcaaRows
import Derived.Test.YtgkfioloceemcaaMath
import Derived.WalkKit
import Derived.WalkSpells
import Derived.WalkLawsBesides
import Derived.Deep.RegionHeld3
import Derived.Deep.DeepFit
set_option maxRecDepth 4000
namespace Go.Proofs.Ytgkfioloceemcaa
open Go.RowKit Cir

theorem far_any (f v : Int) (w : World) :
    Calls Try.prog 42 #[.int .u32 f, .int .u32 v] w fun e w' => e = .returned (.int .u32 (far f v)) ∧ w = w' := by
  go_enter Try.func42, Try.ntmps42
  go_wp2
  go_ret
  exact ⟨by unfold far; rfl, rfl⟩

theorem nest {a b c : World} (h : Below a.heap.size a b) (k : Below b.heap.size b c) : Below a.heap.size a c := h.trans (k.mono h.size)
theorem more {a b : World} (h : Below a.heap.size a b) (o : Obj) : Below a.heap.size a (b.alloc o) := h.alloc h.size o
/-- two cells of old blocks, kept behind a call that only makes memory -/
theorem kept2 {W a b : World} {p q : Addr} {x y : Value} (h : a.cell? p = some x ∧ a.cell? q = some y ∧ Below W.heap.size W a) (k : Below a.heap.size a b)
    (hp : p.block < W.heap.size) (hq : q.block < W.heap.size) : b.cell? p = some x ∧ b.cell? q = some y ∧ Below W.heap.size W b :=
  ⟨(k.cell (Nat.lt_of_lt_of_le hp h.2.2.size)).trans h.1, (k.cell (Nat.lt_of_lt_of_le hq h.2.2.size)).trans h.2.1, nest h.2.2 k⟩

theorem mid_eq (f t : Int) : IntKind.u32.wrap (f + IntKind.u32.wrap (beh f t / 2)) = mid f t := by
  simp only [IntKind.wrap_u32]; unfold mid; omega

end Go.Proofs.Ytgkfioloceemcaa
