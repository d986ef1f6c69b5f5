/- Each one's links, as a map in memory. -/
import Derived.Test.YtgkmkpkbdmciiaaMaps
import Derived.Test.YtgkmkpkbdmciiaaBytes
set_option maxRecDepth 4000
namespace Go.Proofs.Ytgkmkpkbdmciiaa
open Go.RowKit Mem
open Go.Maps (Keyed)
set_option linter.unusedSimpArgs false
set_option linter.unusedVariables false

theorem u32K : Keyed Try.prog 27 := Go.Maps.int_keyed Try.underlying27
theorem u32key {o : Int} (ho : 0 ≤ o ∧ o ≤ 4294967295) : keyOf Try.prog 27 (.int .u32 o) = some (.int .u32 o) := Go.Maps.keyOf_int_mk Try.underlying27 (by simp [Lit.wf, IntKind.min, IntKind.max, IntKind.signed, IntKind.bits]; omega)
/-- whose, their list, and the slice that bears it -/
abbrev KV := Int × (List Int × Value)
def kvc (p : KV) : Value × Value := (.int .u32 p.1, p.2.2)
/-- the map's value mv; K: each one's links -/
def LinksIs (w : World) (mv : Value) (K : Int → List Int) : Prop := ∃ M : List KV, MapIs Try.prog 27 kvc w mv M ∧ (∀ p ∈ M, (0 ≤ p.1 ∧ p.1 ≤ 4294967295) ∧ Rd (intE .u32) w p.2.2 p.2.1 ∧ (∀ x ∈ p.2.1, 0 ≤ x ∧ x ≤ 4294967295) ∧ K p.1 = p.2.1) ∧ ∀ o, (∀ p ∈ M, p.1 ≠ o) → K o = []
theorem LinksIs.keep {w w' : World} {mv : Value} {K : Int → List Int} (h : LinksIs w mv K) (k : Below w.heap.size w w') : LinksIs w' mv K := by
  obtain ⟨M, h1, h2, h3⟩ := h
  exact ⟨M, h1.keep k, fun p hp => ⟨(h2 p hp).1, (h2 p hp).2.1.keep k, (h2 p hp).2.2⟩, h3⟩
theorem LinksIs.nil (w : World) : LinksIs w (.map none) (fun _ => []) := ⟨[], .inl ⟨rfl, rfl⟩, fun p hp => (nomatch hp), fun _ _ => rfl⟩
theorem zero_slice32 (w : World) : (zeroValue 43).run Try.prog w = .ok (.slice none 0 0) w := by kernel_rfl
/-! ### a map made within a call, of slices that were there -/
def LinksOld (w0 w : World) (g : Nat) (K : Int → List Int) : Prop := ∃ M : List KV, MapAt Try.prog 27 kvc w g M ∧ (∀ p ∈ M, (0 ≤ p.1 ∧ p.1 ≤ 4294967295) ∧ Rd (intE .u32) w0 p.2.2 p.2.1 ∧ (∀ x ∈ p.2.1, 0 ≤ x ∧ x ≤ 4294967295) ∧ K p.1 = p.2.1) ∧ ∀ o, (∀ p ∈ M, p.1 ≠ o) → K o = []
theorem LinksOld.is {w0 w : World} {g : Nat} {K : Int → List Int} (h : LinksOld w0 w g K) (k : Below w0.heap.size w0 w) : LinksIs w (.map (some g)) K := by
  obtain ⟨M, h1, h2, h3⟩ := h
  exact ⟨M, .inr ⟨g, rfl, h1⟩, fun p hp => ⟨(h2 p hp).1, (h2 p hp).2.1.keep k, (h2 p hp).2.2⟩, h3⟩
theorem LinksOld.made (w0 w : World) : LinksOld w0 (w.alloc (.map #[] 0)) w.heap.size (fun _ => []) := ⟨[], MapAt.made w, fun p hp => (nomatch hp), fun _ _ => rfl⟩
theorem LinksOld.keep {w0 w w' : World} {g : Nat} {K : Int → List Int} (h : LinksOld w0 w g K) (k : Below w.heap.size w w') : LinksOld w0 w' g K := by
  obtain ⟨M, h1, h2, h3⟩ := h
  exact ⟨M, h1.keep k, h2, h3⟩
/-- one more is laid -/
theorem LinksOld.lay {w0 w' : World} {g : Nat} {K K' : Int → List Int} {M M' : List KV} {o : Int} {l : List Int} {u : Value} (h2 : ∀ p ∈ M, (0 ≤ p.1 ∧ p.1 ≤ 4294967295) ∧ Rd (intE .u32) w0 p.2.2 p.2.1 ∧ (∀ x ∈ p.2.1, 0 ≤ x ∧ x ≤ 4294967295) ∧ K p.1 = p.2.1) (h3 : ∀ q, (∀ p ∈ M, p.1 ≠ q) → K q = []) (hm : MapAt Try.prog 27 kvc w' g M') (hmem : ∀ q, q ∈ M' ↔ q = (o, (l, u)) ∨ (q ∈ M ∧ (kvc q).1 ≠ (kvc (o, (l, u))).1)) (ho : 0 ≤ o ∧ o ≤ 4294967295) (hu : Rd (intE .u32) w0 u l) (hl : ∀ x ∈ l, 0 ≤ x ∧ x ≤ 4294967295) (hK : K' o = l) (hK' : ∀ q, q ≠ o → K' q = K q) : LinksOld w0 w' g K' := by
  have hne : ∀ q : KV, (kvc q).1 ≠ (kvc (o, (l, u))).1 ↔ q.1 ≠ o := fun q => by simp [kvc]
  refine ⟨M', hm, fun p hp => ?_, fun q hq => ?_⟩
  · rcases (hmem p).1 hp with e | ⟨hp, hn⟩
    · rw [e]; exact ⟨ho, hu, hl, hK⟩
    · obtain ⟨q1, q2, q3, q4⟩ := h2 p hp
      exact ⟨q1, q2, q3, by rw [hK' _ ((hne p).1 hn)]; exact q4⟩
  · by_cases e : q = o
    · exact absurd e.symm (hq (o, (l, u)) ((hmem _).2 (.inl rfl)))
    · rw [hK' q e]
      exact h3 q (fun p hp e2 => hq p ((hmem p).2 (.inr ⟨hp, (hne p).2 (fun e3 => e (e2.symm.trans e3))⟩)) e2)
/-- each one's links, of the first so many -/
def kOf (L : List Int) (F : List (List Int)) : Nat → Int → List Int
  | 0, _ => []
  | i + 1, o => if o = L.getD i 0 then F.getD i [] else kOf L F i o
theorem exec_look1 {P : Program} {w : World} {o : Oper} {a : Act} {m x : Operand} {t : TypeId} {u k r : Value} (hop : o.op = Op.lookup t m x false) (hm : a.eval m = u) (hx : a.eval x = k) (h : (Instr.lookup t u k false).run P w = .ok r w) : (execOp a.eval o).run P w = .ok (.value r) w := by
  simp [execOp, hop, hm, hx, h, Result.andThen]
theorem run_makeMap_none {P : Program} {t k e : TypeId} (ht : P.underlying t = some (.map k e)) (w : World) : (Instr.makeMap t none).run P w = .ok (.map (some w.heap.size)) (w.alloc (.map #[] 0)) := by
  simp [Instr.makeMap, run_underlying ht, Result.andThen]
end Go.Proofs.Ytgkmkpkbdmciiaa
