/- Walks of package circle's calls that hand out spans. -/
import Derived.Test.YtpgljdngbiicmaaWalk
import Derived.Test.YtpgljdngbiicmaaRun
import Derived.Test.YtpgljdngbiicmaaCirclePlans
import Derived.Laws.AppendOwn
import Derived.OwnWalk
import Derived.Deep.DeepMust
import Derived.Deep.AppendLies
set_option maxRecDepth 4000
namespace Go.Proofs.Ytpgljdngbiicmaa
open Go.RowKit Cir
set_option linter.unusedSimpArgs false

/-- the cells of a list of spans -/
def flat (l : List (Int × Int)) : List Value := l.flatMap fun s => [.int .u32 s.1, .int .u32 s.2]
/-- the slice v, in blocks from B on, reads as l -/
def SpansAt (B : Nat) (w : World) (v : Value) (l : List (Int × Int)) : Prop := w.ownsRow B 36 2 v l.length (flat l)
theorem kc {a b : World} (k : Below a.heap.size a b) {p : Addr} {x : Value} (h : a.cell? p = some x) : b.cell? p = some x :=
  (k.cell (World.block_lt_of_cell? a p h)).trans h
theorem spanInfo : (Try.prog.info? 36).map (fun i => (i.zero, i.size, i.bytes)) = some (some (.agg #[.int .u32 0, .int .u32 0]), 2, 8) := by kernel_rfl

theorem SpansAt.below {B : Nat} {w w' : World} {v : Value} {l : List (Int × Int)} (h : SpansAt B w v l) (k : Below w.heap.size w w') : SpansAt B w' v l := by
  obtain ⟨h1, h2⟩ := h
  refine ⟨h1, ?_⟩
  rcases h2 with h2 | ⟨g, cap, cur, hv, hg, hc, hr⟩
  · exact .inl h2
  · have hlt : g < w.heap.size := (Array.getElem?_eq_some_iff.1 hc).1
    exact .inr ⟨g, cap, cur, hv, hg, (k.block g hlt).trans hc, hr⟩
theorem SpansAt.nil (B : Nat) (w : World) : SpansAt B w (.slice none 0 0) [] := ⟨rfl, .inl ⟨rfl, rfl⟩⟩
theorem SpansAt.made (B n : Nat) (W : World) (f t : Int) (hB : B ≤ W.heap.size) (hn : n = W.heap.size) : SpansAt B (W.alloc (Obj.cells #[Value.int IntKind.u32 f, Value.int IntKind.u32 t] 36)) (.slice (some ⟨n, 0, none⟩) 1 1) [(f, t)] := by
  subst hn
  exact ⟨rfl, .inr ⟨W.heap.size, 1, #[Value.int IntKind.u32 f, Value.int IntKind.u32 t], rfl, hB, heap_alloc_new W _, Nat.le_refl _, by unfold maxLen; omega, rfl, rfl⟩⟩
theorem SpansAt.mono {B B' : Nat} {w : World} {v : Value} {l : List (Int × Int)} (h : SpansAt B' w v l) (hB : B ≤ B') : SpansAt B w v l := by
  obtain ⟨h1, h2⟩ := h
  refine ⟨h1, ?_⟩
  rcases h2 with h2 | ⟨g, cap, cur, hv, hg, hr⟩
  · exact .inl h2
  · exact .inr ⟨g, cap, cur, hv, Nat.le_trans hB hg, hr⟩
/-- two cells of blocks below B, kept behind a call that writes from B on -/
theorem keptB {B : Nat} {W a b : World} {p q : Addr} {x y : Value} (h : a.cell? p = some x ∧ a.cell? q = some y ∧ Below B W a) (k : Below B a b) (hp : p.block < B) (hq : q.block < B) :
    b.cell? p = some x ∧ b.cell? q = some y ∧ Below B W b := ⟨(k.cell hp).trans h.1, (k.cell hq).trans h.2.1, h.2.2.trans k⟩
theorem SpansAt.form {B : Nat} {w : World} {v : Value} {l : List (Int × Int)} (h : SpansAt B w v l) : ∃ a c, v = .slice a l.length c := by
  rcases h.2 with ⟨hv, hn⟩ | ⟨g, cap, cur, hv, _⟩
  · exact ⟨none, 0, by rw [hn]; exact hv⟩
  · exact ⟨_, cap, hv⟩
theorem flat_snoc (l : List (Int × Int)) (a b : Int) : flat (l ++ [(a, b)]) = flat l ++ [.int .u32 a, .int .u32 b] := by simp [flat]

def CutPost (B : Nat) (w : World) (l : List (Int × Int)) (e : Ending) (w' : World) : Prop := ∃ v, e = .returned v ∧ SpansAt B w' v l ∧ Below B w w'

end Go.Proofs.Ytpgljdngbiicmaa
