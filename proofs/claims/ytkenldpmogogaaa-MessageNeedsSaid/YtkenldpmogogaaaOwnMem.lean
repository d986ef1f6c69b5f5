/- Rows of one's own with room behind them: append into the room, one more, a look into the room. -/
import Derived.Test.YtkenldpmogogaaaBytes
import Derived.Laws.OwnMore
set_option maxRecDepth 4000
namespace Go.Proofs.Ytkenldpmogogaaa
open Go.RowKit Mem
set_option linter.unusedSimpArgs false
set_option linter.unusedVariables false
attribute [local irreducible] Go.Calls

namespace Mem
theorem run_append_fits_rd {P : Program} {α : Type} {E : Enc α} {T ts : TypeId} {B bytes g n cap : Nat} {w : World} {x : Value} {l m : List α} (I : Elem P ts T E.size bytes) (ty : TypeId) (hown : Row E T B w (.slice (some ⟨g, 0, none⟩) n cap) l) (hn : n = l.length) (hr : Rd E w x m) (hroom : n + m.length ≤ cap) :
    ∃ w', (Builtin.append_ #[ts, ts] ty #[.slice (some ⟨g, 0, none⟩) n cap, x]).run P w = .ok (.slice (some ⟨g, 0, none⟩) (n + m.length) cap) w' ∧ Row E T B w' (.slice (some ⟨g, 0, none⟩) (n + m.length) cap) (l ++ m) ∧ w.grownBy w' (some g) := by
  obtain ⟨ht, i, z, hi, hz, hs, hby, hzs⟩ := I
  obtain ⟨a, c, rfl, h1, h2, h3⟩ := hr
  subst hn
  have hx : ∀ ad, a = some ad → ∃ w', (Builtin.append_ #[ts, ts] ty #[.slice (some ⟨g, 0, none⟩) l.length cap, .slice (some ad) m.length c]).run P w = .ok (.slice (some ⟨g, 0, none⟩) (l.length + m.length) cap) w' ∧ Row E T B w' (.slice (some ⟨g, 0, none⟩) (l.length + m.length) cap) (l ++ m) ∧ w.grownBy w' (some g) := by
    intro ad ha
    obtain ⟨w', r1, r2, r3⟩ := run_append_fits (P := P) w B ts ty T i E.size ht hi hs g l.length cap (E.flat l) hown ad m.length c (E.flat m) (E.flat_len m)
      (fun j u hu => by
        have hl : 0 < m.length := by
          rcases Nat.eq_zero_or_pos m.length with h0 | h0
          · rw [List.eq_nil_of_length_eq_zero h0] at hu; simp [Enc.flat] at hu
          · exact h0
        obtain ⟨g', off, rfl, hc⟩ := h3 hl
        injection ha with ha
        subst ha
        have := hc j u hu
        unfold Addr.add; split <;> simp_all) (E.flat_one m) hroom
    refine ⟨w', r1, ?_, r3⟩
    unfold Row
    rw [List.length_append, E.flat_append]
    exact r2
  rcases a with _ | ad
  · have hm : m = [] := by
      rcases Nat.eq_zero_or_pos m.length with h0 | h0
      · exact List.eq_nil_of_length_eq_zero h0
      · obtain ⟨g', off, h, _⟩ := h3 h0
        cases h
    subst hm
    refine ⟨w, ?_, by simpa using hown, World.grownBy.refl w _⟩
    have hnc : l.length ≤ cap := by simpa using hroom
    simp [Builtin.append_, run_underlying ht, sizeOf, typeInfo, hi, Builtin.lenOf, Builtin.firstCells, hnc, storeCells]
  · exact hx ad rfl
theorem wpList_append_fits {P : Program} {α : Type} {E : Enc α} {T ts : TypeId} {B bytes g n cap : Nat} {w : World} {x : Value} {l m : List α} {ops : Array Oper} {rest : List Oper} {o : Oper} {a : Act} {Q : Exit → Act → World → Prop} (I : Elem P ts T E.size bytes) (hgd : o.guard = none) (s sx : Operand)
    (ho : o.op = .call { callee := .builtin .append, args := #[s, sx], argTypes := #[ts, ts] }) (hs : a.eval s = .slice (some ⟨g, 0, none⟩) n cap) (hown : Row E T B w (.slice (some ⟨g, 0, none⟩) n cap) l) (hn : n = l.length) (hx : a.eval sx = x) (hr : Rd E w x m) (hroom : n + m.length ≤ cap)
    (h : ∀ w', Row E T B w' (.slice (some ⟨g, 0, none⟩) (n + m.length) cap) (l ++ m) → w.grownBy w' (some g) → wpList P ops Q rest (a.put o.dst (.slice (some ⟨g, 0, none⟩) (n + m.length) cap)) w') : wpList P ops Q (o :: rest) a w := by
  obtain ⟨w', hrun, h2, h3⟩ := run_append_fits_rd (P := P) I o.type hown hn hr hroom
  refine wpList_plain hgd fun K hK => ?_
  unfold Oper.wp execOp
  simp only [ho, resolve, invoke, builtin, Sem.run_bind, Sem.run_pure, Result.andThen_ok, List.map_toArray, List.map_cons, List.map_nil, hs, hx, hrun]
  exact hK _ _ (h w' h2 h3)
/-- one more, in the room behind -/
theorem Row.more {k : IntKind} {T : TypeId} {B : Nat} {w : World} {g n c : Nat} {l : List Int} (h : Row (intE k) T B w (.slice (some ⟨g, 0, none⟩) n c) l) (hn : n = l.length) (hc : n < c) (y : Int) :
    Row (intE k) T B (w.setCell ⟨g, n, none⟩ (.int k y)) (.slice (some ⟨g, 0, none⟩) (n + 1) c) (l ++ [y]) ∧ w.grownBy (w.setCell ⟨g, n, none⟩ (.int k y)) (some g) := by
  subst hn
  rcases h.2 with ⟨h', _⟩ | ⟨g', cap', cur, h', hb, hg, hnc, hcm, hcs, htake⟩
  · simp at h'
  · simp only [Value.slice.injEq, Option.some.injEq, Addr.mk.injEq, and_true, true_and] at h'
    obtain ⟨rfl, rfl⟩ := h'
    have hsz : (intE k).size = 1 := rfl
    rw [hsz, Nat.mul_one] at hcs htake
    refine ⟨⟨by rw [List.length_append, Enc.flat_len, hsz]; simp, .inr ⟨g, c, cur.setIfInBounds l.length (.int k y), by simp, hb, heap_setCell_same w g l.length cur T _ hg, by simp; omega, hcm, by simp [hsz]; exact hcs, ?_⟩⟩,
      ⟨rfl, rfl, rfl, by simp, fun j _ hj => heap_setCell_other w ⟨g, l.length, none⟩ j _ (fun e => hj (by simp [e]))⟩⟩
    rw [Array.toList_setIfInBounds, hsz, Nat.mul_one, List.length_append, Enc.flat_append, ← htake]
    simp only [List.length_cons, List.length_nil, Nat.zero_add]
    have hlt : l.length < (cur.toList.set l.length (.int k y)).length := by simp; omega
    rw [List.take_add_one, List.getElem?_eq_getElem hlt, List.take_set_of_le (Nat.le_refl _)]
    simp [Enc.flat, intE]
theorem Row.room {k : IntKind} {T : TypeId} {B : Nat} {w : World} {g n c : Nat} {l : List Int} (h : Row (intE k) T B w (.slice (some ⟨g, 0, none⟩) n c) l) (hn : n = l.length) {j : Nat} (hj : j < c) :
    (∃ u, w.cell? ⟨g, j, none⟩ = some u) ∧ w.frozen? ⟨g, j, none⟩ = false := by
  subst hn
  refine ⟨?_, World.ownsRow.frozenAt h j⟩
  rcases h.2 with ⟨h', _⟩ | ⟨g', cap', cur, h', hb, hg, hnc, hcm, hcs, htake⟩
  · simp at h'
  · simp only [Value.slice.injEq, Option.some.injEq, Addr.mk.injEq, and_true, true_and] at h'
    obtain ⟨rfl, rfl⟩ := h'
    have hsz : (intE k).size = 1 := rfl
    rw [hsz, Nat.mul_one] at hcs
    exact ⟨cur[j], by rw [cell_of_row w g j cur T (0, 0) hg]; simp [hcs, hj]⟩
end Mem

theorem own_rd {k : IntKind} {w : World} {g : Nat} {l m : List Int} {c : Nat} (h : Rd (intE k) w (.slice (some ⟨g, 0, none⟩) (l.length + m.length) c) (l ++ m)) : Rd (intE k) w (.slice (some ⟨g, 0, none⟩) l.length c) l := by
  obtain ⟨a0, c0, hv, h1, h2, _⟩ := id h
  injection hv with _ _ e3
  have := h.cut rfl (Nat.zero_le l.length) (by simp) (a' := some ⟨g, 0, none⟩) (n' := l.length) (c' := c) (by simp) (by simp at h1; omega) (by omega) (fun _ g' off e => by injection e with e; injection e with e1 e2; subst e1 e2; simp)
  simpa using this
end Go.Proofs.Ytkenldpmogogaaa
