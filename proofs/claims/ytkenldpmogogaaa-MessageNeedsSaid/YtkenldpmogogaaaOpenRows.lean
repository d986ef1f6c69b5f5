/- Arguments that are slices, opened as lists that are read: of numbers, of api.Span. -/
import Derived.Test.YtkenldpmogogaaaOpen
import Derived.Test.YtkenldpmogogaaaMem
import Derived.Deep.Slices
import Derived.Deep.Fields
import Derived.OpenShut
set_option maxRecDepth 4000
namespace Go.Proofs.Ytkenldpmogogaaa
open Go.ChangeShapes Go.WideShapes Go.ChangeAt Go.RowKit Go.Joins Go.Deep Mem
set_option linter.unusedVariables false

theorem bd64 {a : Int} (h : (Lit.int .i64 a).wf = true) : -9223372036854775808 ≤ a ∧ a ≤ 9223372036854775807 := by
  simpa [Lit.wf, IntKind.min, IntKind.max, IntKind.signed, IntKind.bits] using h
theorem bdu64 {a : Int} (h : (Lit.int .u64 a).wf = true) : 0 ≤ a ∧ a ≤ 18446744073709551615 := by
  simpa [Lit.wf, IntKind.min, IntKind.max, IntKind.signed, IntKind.bits] using h
theorem bd8 {a : Int} (h : (Lit.int .u8 a).wf = true) : 0 ≤ a ∧ a ≤ 255 := by
  simpa [Lit.wf, IntKind.min, IntKind.max, IntKind.signed, IntKind.bits] using h
section
variable {H : Type} {enc : TypeId × Value → H} {P : Program} {W : World} {base : Nat} {held : Bool}
theorem open_rd_ints {t e : TypeId} {k : IntKind} {v : Value} {d : DataW H} {p : List MemPlace} (ht : P.underlying t = some (.slice e)) (he : P.underlying e = some (.int k)) (hc : P.cellsOf e = 1)
    (hv : Value.okWide P W .any base t v) (h : DataW.Trod enc P W 0 (fun _ => true) held t v d p) : ∃ L : List Int, Rd (intE k) W v L ∧ ∀ x ∈ L, (Lit.int k x).wf = true := by
  obtain ⟨a0, len, cap, rfl⟩ := okWide_slice ht hv
  obtain ⟨fuel, hf⟩ := h
  rcases open_ints ht he hc hf with ⟨hcs, _⟩ | ⟨a, len', cap', zs, hcs, _, hl, hm, hz, _, hcell, hwf⟩
  · simp only [Value.cells, List.cons.injEq, and_true, Value.slice.injEq] at hcs
    obtain ⟨rfl, rfl, rfl⟩ := hcs
    exact ⟨[], Rd.nil none 0 (Nat.zero_le _), fun x hx => by cases hx⟩
  · simp only [Value.cells, List.cons.injEq, and_true, Value.slice.injEq] at hcs
    obtain ⟨rfl, rfl, rfl⟩ := hcs
    simp only [if_true] at hz
    have hlen : (zs.take len).length = len := by rw [List.length_take]; omega
    refine ⟨zs.take len, ⟨some a, cap, by rw [hlen], by rw [hlen]; exact hl, hm, fun hp => ?_⟩, fun x hx => hwf x (List.mem_of_mem_take hx)⟩
    rw [hlen] at hp
    obtain ⟨b, off, rfl, hc'⟩ := ints_at hcell (by omega)
    refine ⟨b, off, rfl, fun j u hu => ?_⟩
    have hfl : ∀ l : List Int, (intE k).flat l = l.map (Value.int k) := by
      intro l
      induction l with
      | nil => rfl
      | cons x l ih => rw [Enc.flat_cons, ih]; rfl
    rw [hfl (zs.take len), List.getElem?_map] at hu
    have hj : j < len := by
      rcases Nat.lt_or_ge j len with h | h
      · exact h
      · rw [List.getElem?_eq_none (by rw [hlen]; exact h)] at hu; cases hu
    rw [hc' j (by omega)]
    rw [List.getElem?_take_of_lt hj] at hu
    simp only [List.getD]
    have : zs[j]? = some (zs[j]'(by omega)) := List.getElem?_eq_getElem _
    rw [this] at hu ⊢
    simpa using hu

/-- a struct of two numbers of one kind -/
theorem open_rd_pairs {t e : TypeId} {k : IntKind} {f0 f1 : Field} {v : Value} {d : DataW H} {p : List MemPlace} (ht : P.underlying t = some (.slice e)) (he : P.underlying e = some (.struct #[f0, f1])) (h0 : P.underlying f0.type = some (.int k)) (h1 : P.underlying f1.type = some (.int k))
    (hone : oneCellFields P #[f0, f1] = true) (hC : P.cellsOf e = 2)
    (hv : Value.okWide P W .any base t v) (h : DataW.Trod enc P W 0 (fun _ => true) held t v d p) :
    ∃ L : List (Int × Int), Rd (pairE k) W v L ∧ ∀ x ∈ L, (Lit.int k x.1).wf = true ∧ (Lit.int k x.2).wf = true := by
  obtain ⟨a0, len, cap, rfl⟩ := okWide_slice ht hv
  obtain ⟨fuel, hf⟩ := h
  rcases open_slice ht hf with ⟨hcs, _⟩ | ⟨a, len', cap', m, n, D, Pl, hcs, _, hl, hm, hmm, _, hi⟩
  · simp only [Value.cells, List.cons.injEq, and_true, Value.slice.injEq] at hcs
    obtain ⟨rfl, rfl, rfl⟩ := hcs
    exact ⟨[], Rd.nil none 0 (Nat.zero_le _), fun x hx => by cases hx⟩
  · simp only [Value.cells, List.cons.injEq, and_true, Value.slice.injEq] at hcs
    obtain ⟨rfl, rfl, rfl⟩ := hcs
    simp only [if_true] at hmm
    subst hmm
    have key : ∀ i, i < m → ∃ x y : Int, W.cell? (a.add (i * 2)) = some (.int k x) ∧ W.cell? (a.add (i * 2 + 1)) = some (.int k y) ∧ (Lit.int k x).wf = true ∧ (Lit.int k y).wf = true := by
      intro i hin
      obtain ⟨cs', hc, ht'⟩ := hi i hin
      rw [hC] at hc
      obtain ⟨ys, n', hn', hy, hlen, hyl, hf'⟩ := DataW.trod_struct he ht'
      obtain ⟨_, hcl, hat⟩ := World.cells?_some hc
      obtain ⟨o0, k0⟩ := hone_of hone 0 f0 rfl
      obtain ⟨o1, k1⟩ := hone_of hone 1 f1 rfl
      match cs', hcl with
      | [c0, c1], _ =>
        have g0 := hf' 0 f0 rfl
        have g1 := hf' 1 f1 rfl
        rw [o0, k0] at g0
        rw [o1, k1] at g1
        simp only [List.drop_zero, List.drop_succ_cons, List.take_succ_cons, List.take_zero] at g0 g1
        have a0 := hat 0 (by omega)
        have a1 := hat 1 (by omega)
        rw [Go.Deep.add_add] at a0 a1
        cases hy0 : ys[0]? with
        | none => rw [hy0] at g0; rw [List.getElem?_eq_none_iff] at hy0; simp at hyl; omega
        | some z0 =>
          cases hy1 : ys[1]? with
          | none => rw [List.getElem?_eq_none_iff] at hy1; simp at hyl; omega
          | some z1 =>
            rw [hy0] at g0
            rw [hy1] at g1
            obtain ⟨x, e0, _, w0⟩ := DataW.trod_int h0 g0
            obtain ⟨y, e1, _, w1⟩ := DataW.trod_int h1 g1
            simp only [List.cons.injEq, and_true] at e0 e1
            subst e0 e1
            exact ⟨x, y, by simpa using a0, by simpa using a1, w0, w1⟩
    classical
    let L : List (Int × Int) := (List.range len).map fun i => if h : i < m then ((key i h).choose, (key i h).choose_spec.choose) else (0, 0)
    have hL : L.length = len := by simp [L]
    have hat : ∀ i, i < len → ∃ x y : Int, L[i]? = some (x, y) ∧ W.cell? (a.add (i * 2)) = some (.int k x) ∧ W.cell? (a.add (i * 2 + 1)) = some (.int k y) ∧ (Lit.int k x).wf = true ∧ (Lit.int k y).wf = true := by
      intro i hin
      have him : i < m := by omega
      refine ⟨_, _, ?_, (key i him).choose_spec.choose_spec⟩
      simp [L, hin, him]
    refine ⟨L, ⟨some a, m, by rw [hL], by rw [hL]; exact hl, hm, fun hp => ?_⟩, fun x hx => ?_⟩
    · rw [hL] at hp
      obtain ⟨b, off, spot⟩ := a
      obtain ⟨x0, y0, _, hx0, _⟩ := hat 0 hp
      have hspot : spot = none := by simpa [Addr.add] using World.cell?_spot hx0
      subst hspot
      refine ⟨b, off, rfl, fun j u hu => ?_⟩
      have hj : j < L.length * 2 := by have h9 := (List.getElem?_eq_some_iff.1 hu).1; rw [(pairE k).flat_len] at h9; exact h9
      have hdiv : j / 2 < L.length := by omega
      have hdl : j / 2 < len := by omega
      obtain ⟨x, y, hxy, hx, hy, _⟩ := hat (j / 2) hdl
      have hg : L[j / 2] = (x, y) := by rw [List.getElem?_eq_getElem hdiv] at hxy; simpa using hxy
      have hfa := (pairE k).flat_at hdiv (show j % 2 < 2 by omega)
      have hj2 : j / 2 * (pairE k).size + j % 2 = j := by show j / 2 * 2 + j % 2 = j; omega
      rw [hj2, hu, hg] at hfa
      rw [Go.WideShapes.add_plain] at hx hy
      have hjm : j % 2 = 0 ∨ j % 2 = 1 := by omega
      rcases hjm with h9 | h9
      · rw [h9] at hfa
        have : j = j / 2 * 2 := by omega
        rw [this, hx, hfa]; rfl
      · rw [h9] at hfa
        have : j = j / 2 * 2 + 1 := by omega
        rw [this, hy, hfa]; rfl
    · obtain ⟨i, hi2, rfl⟩ := List.getElem_of_mem hx
      obtain ⟨x, y, hxy, _, _, hw⟩ := hat i (by omega)
      rw [List.getElem?_eq_getElem hi2] at hxy
      injection hxy with hxy
      rw [hxy]; exact hw
end
end Go.Proofs.Ytkenldpmogogaaa
