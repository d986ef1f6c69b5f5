/- Walk of petasosref01.Parts. -/
import Derived.Test.YthdcgobdcdfefaaRef
import Derived.Lib.Hide
set_option maxRecDepth 4000
namespace Go.Proofs.Ythdcgobdcdfefaa
open Go.RowKit Cir
set_option linter.unusedSimpArgs false
set_option linter.unusedVariables false

def flatP (l : List (Int × Int)) : List Value := l.flatMap fun s => [.int .u64 s.1, .int .u64 s.2]
def PartsAt (B : Nat) (w : World) (v : Value) (l : List (Int × Int)) : Prop := w.ownsRow B 70 2 v l.length (flatP l)
theorem partInfo : (Try.prog.info? 70).map (fun i => (i.zero, i.size, i.bytes)) = some (some (.agg #[.int .u64 0, .int .u64 0]), 2, 16) := by kernel_rfl
theorem PartsAt.below {B : Nat} {w w' : World} {v : Value} {l : List (Int × Int)} (h : PartsAt B w v l) (k : Below w.heap.size w w') : PartsAt B w' v l := by
  obtain ⟨h1, h2⟩ := h
  refine ⟨h1, ?_⟩
  rcases h2 with h2 | ⟨g, cap, cur, hv, hg, hc, hr⟩
  · exact .inl h2
  · have hlt : g < w.heap.size := (Array.getElem?_eq_some_iff.1 hc).1
    exact .inr ⟨g, cap, cur, hv, hg, (k.block g hlt).trans hc, hr⟩
theorem PartsAt.nil (B : Nat) (w : World) : PartsAt B w (.slice none 0 0) [] := ⟨rfl, .inl ⟨rfl, rfl⟩⟩
theorem PartsAt.mono {B B' : Nat} {w : World} {v : Value} {l : List (Int × Int)} (h : PartsAt B' w v l) (hB : B ≤ B') : PartsAt B w v l := by
  obtain ⟨h1, h2⟩ := h
  refine ⟨h1, ?_⟩
  rcases h2 with h2 | ⟨g, cap, cur, hv, hg, hr⟩
  · exact .inl h2
  · exact .inr ⟨g, cap, cur, hv, Nat.le_trans hB hg, hr⟩
theorem flatP_snoc (l : List (Int × Int)) (a b : Int) : flatP (l ++ [(a, b)]) = flatP l ++ [.int .u64 a, .int .u64 b] := by simp [flatP]
theorem PartsAt.form {B : Nat} {w : World} {v : Value} {l : List (Int × Int)} (h : PartsAt B w v l) : ∃ a c, v = .slice a l.length c := by
  rcases h.2 with ⟨hv, hn⟩ | ⟨g, cap, cur, hv, _⟩
  · exact ⟨none, 0, by rw [hn]; exact hv⟩
  · exact ⟨_, cap, hv⟩
theorem flatP_at : ∀ (l : List (Int × Int)) (i : Nat), i < l.length → (flatP l)[i * 2]? = some (.int .u64 (l.getD i (0, 0)).1) ∧ (flatP l)[i * 2 + 1]? = some (.int .u64 (l.getD i (0, 0)).2) := by
  intro l
  induction l with
  | nil => intro i hi; simp at hi
  | cons x l ih =>
    intro i hi
    cases i with
    | zero => simp [flatP]
    | succ i =>
      have := ih i (by simpa using hi)
      have e : flatP (x :: l) = .int .u64 x.1 :: .int .u64 x.2 :: flatP l := by simp [flatP]
      rw [e, show (i + 1) * 2 = i * 2 + 1 + 1 from by omega, show i * 2 + 1 + 1 + 1 = (i * 2 + 1) + 1 + 1 from by omega]
      simpa using this
theorem PartsAt.loop {B : Nat} {w : World} {v : Value} {l : List (Int × Int)} (h : PartsAt B w v l) :
    ∃ a g c, v = .slice a l.length c ∧ (0 < l.length → a = some ⟨g, 0, none⟩ ∧ g < w.heap.size) ∧ ∀ i, i < l.length → w.cell? ⟨g, i * 2, none⟩ = some (.int .u64 (l.getD i (0, 0)).1) ∧ w.cell? ⟨g, i * 2 + 1, none⟩ = some (.int .u64 (l.getD i (0, 0)).2) := by
  by_cases h0 : 0 < l.length
  · rcases h.2 with ⟨_, hn⟩ | ⟨g, cap, cur, hv, hg, hc, hr⟩
    · omega
    · subst hv
      have hlt : g < w.heap.size := (Array.getElem?_eq_some_iff.1 hc).1
      refine ⟨_, g, cap, rfl, fun _ => ⟨rfl, hlt⟩, fun i hi => ?_⟩
      have hfi := flatP_at l i hi
      exact ⟨(World.ownsRow.cellAt h (i * 2) (by omega)).trans hfi.1, (World.ownsRow.cellAt h (i * 2 + 1) (by omega)).trans hfi.2⟩
  · obtain ⟨a, c, hv⟩ := h.form
    exact ⟨a, 0, c, hv, fun h => absurd h h0, fun i hi => absurd hi (by omega)⟩

/-- an append of one part, as a law of the walk -/
theorem append_part {ops : Array Oper} {rest : List Oper} {o : Oper} {a : Act} {Q : Exit → Act → World → Prop} (w : World) (hgd : o.guard = none) (s x : Operand)
    (ho : o.op = .call { callee := .builtin .append, args := #[s, x], argTypes := #[65, 65] })
    (B : Nat) (v : Value) (l : List (Int × Int)) (p q : Int) (n : Nat) (hs : a.eval s = v) (hown : PartsAt B w v l) (hl : l.length ≤ 1000) (hB : B ≤ w.heap.size) (hn : n = w.heap.size)
    (hx : a.eval x = .slice (some ⟨n, 0, none⟩) 1 1)
    (h : ∀ v' w', PartsAt B w' v' (l ++ [(p, q)]) → (w.alloc (Obj.cells #[Value.int IntKind.u64 p, Value.int IntKind.u64 q] 70)).grownBy w' v.ownBlock → Below B w w' → wpList Try.prog ops Q rest (a.put o.dst v') w') :
    wpList Try.prog ops Q (o :: rest) a (w.alloc (Obj.cells #[Value.int IntKind.u64 p, Value.int IntKind.u64 q] 70)) := by
  subst hn
  obtain ⟨i0, hi, hz0, hz1, hz2⟩ := info_parts partInfo
  have hown' : w.ownsRow B 70 2 v l.length (flatP l) := hown
  refine wpList_append_own _ hgd s x 65 ho B 70 i0 (.agg #[.int .u64 0, .int .u64 0]) 2 16 Try.underlying65 hi hz0 hz1 hz2 rfl Nat.zero_lt_two v l.length (flatP l) hs (hown'.alloc _)
    ⟨w.heap.size, 0, none⟩ 1 1 [.int .u64 p, .int .u64 q] hx rfl (World.news_of_block (cs := #[.int .u64 p, .int .u64 q]) (t := 70) (fr := (0, 0)) (heap_alloc_new w _)) (by simp [Value.oneCell'])
    (by unfold maxLen; omega) (by omega) (by simp; omega) ?_
  intro v' w1 hown2 hgrow _
  refine h v' w1 ?_ hgrow (((Below.refl B w).alloc hB _).grown hgrow (by simp; omega) (fun k hk' => (World.ownsRow.lt hown' k hk').1))
  unfold PartsAt
  rw [flatP_snoc, List.length_append]
  exact hown2
end Go.Proofs.Ythdcgobdcdfefaa
