/- Lists of structs of three numbers in memory (an int and two uint32 among them). -/
import Derived.Test.YtkenldpmogogaaaBytes
import Derived.Test.YtkenldpmogogaaaOwnMem
import Derived.Test.YtkenldpmogogaaaKinds
set_option maxRecDepth 4000
namespace Go.Proofs.Ytkenldpmogogaaa.Mem
open Go Go.RowKit
set_option linter.unusedVariables false

def tripE (k1 k2 k3 : IntKind) : Enc (Int × Int × Int) where
  cells p := [.int k1 p.1, .int k2 p.2.1, .int k3 p.2.2]
  size := 3
  len _ := rfl
  one p u hu := by simp at hu; rcases hu with rfl | rfl | rfl <;> rfl
/-- what is read, for a loop -/
theorem Rd.loop3 {k1 k2 k3 : IntKind} {w : World} {v : Value} {l : List (Int × Int × Int)} (h : Rd (tripE k1 k2 k3) w v l) :
    ∃ a g off c, v = .slice a l.length c ∧ l.length ≤ c ∧ c ≤ maxLen ∧ (0 < l.length → a = some ⟨g, off, none⟩ ∧ g < w.heap.size) ∧
      ∀ i, i < l.length → w.cell? ⟨g, off + i * 3, none⟩ = some (.int k1 (l.getD i (0, 0, 0)).1) ∧ w.cell? ⟨g, off + i * 3 + 1, none⟩ = some (.int k2 (l.getD i (0, 0, 0)).2.1) ∧ w.cell? ⟨g, off + i * 3 + 2, none⟩ = some (.int k3 (l.getD i (0, 0, 0)).2.2) := by
  by_cases hl : 0 < l.length
  · obtain ⟨g, off, c, hv, h1, h2, hc⟩ := h.cells hl
    have hcell : ∀ i, i < l.length → w.cell? ⟨g, off + i * 3, none⟩ = some (.int k1 (l.getD i (0, 0, 0)).1) ∧ w.cell? ⟨g, off + i * 3 + 1, none⟩ = some (.int k2 (l.getD i (0, 0, 0)).2.1) ∧ w.cell? ⟨g, off + i * 3 + 2, none⟩ = some (.int k3 (l.getD i (0, 0, 0)).2.2) := by
      intro i hi
      have e : l.getD i (0, 0, 0) = l[i] := by simp [List.getD, hi]
      rw [e]
      exact ⟨hc i hi 0 (show 0 < 3 by omega), hc i hi 1 (show 1 < 3 by omega), hc i hi 2 (show 2 < 3 by omega)⟩
    exact ⟨_, g, off, c, hv, h1, h2, fun _ => ⟨rfl, World.block_lt_of_cell? w _ (hcell 0 hl).1⟩, hcell⟩
  · obtain ⟨a, c, hv, h1, h2⟩ := h.form
    exact ⟨a, 0, 0, c, hv, h1, h2, fun h => absurd h hl, fun i hi => absurd hi (by omega)⟩
theorem set3_take (L : List Value) (p : Nat) (x y z : Value) (h : p + 3 ≤ L.length) : (((L.set p x).set (p + 1) y).set (p + 2) z).take (p + 3) = L.take p ++ [x, y, z] := by
  obtain ⟨a, b, c, R, hR⟩ : ∃ a b c R, L.drop p = a :: b :: c :: R := by
    have hl : 3 ≤ (L.drop p).length := by rw [List.length_drop]; omega
    match hd : L.drop p, hl with
    | a :: b :: c :: R, _ => exact ⟨a, b, c, R, rfl⟩
  have hL : L = L.take p ++ a :: b :: c :: R := by rw [← hR, List.take_append_drop]
  have hlen : (L.take p).length = p := by rw [List.length_take]; omega
  generalize L.take p = F at *
  subst hL
  subst hlen
  rw [List.set_append_right _ _ (Nat.le_refl _), Nat.sub_self, List.set_append_right _ _ (by omega), List.set_append_right _ _ (by omega)]
  have e1 : F.length + 1 - F.length = 1 := by omega
  have e2 : F.length + 2 - F.length = 2 := by omega
  rw [e1, e2]
  rw [List.take_append, List.take_of_length_le (by omega)]
  simp
/-- one more, in the room behind -/
theorem Row.more3 {k1 k2 k3 : IntKind} {T : TypeId} {B : Nat} {w : World} {g n c : Nat} {l : List (Int × Int × Int)} (h : Row (tripE k1 k2 k3) T B w (.slice (some ⟨g, 0, none⟩) n c) l) (hn : n = l.length) (hc : n < c) (x y z : Int) :
    Row (tripE k1 k2 k3) T B (((w.setCell ⟨g, n * 3, none⟩ (.int k1 x)).setCell ⟨g, n * 3 + 1, none⟩ (.int k2 y)).setCell ⟨g, n * 3 + 2, none⟩ (.int k3 z)) (.slice (some ⟨g, 0, none⟩) (n + 1) c) (l ++ [(x, y, z)]) ∧
      w.grownBy (((w.setCell ⟨g, n * 3, none⟩ (.int k1 x)).setCell ⟨g, n * 3 + 1, none⟩ (.int k2 y)).setCell ⟨g, n * 3 + 2, none⟩ (.int k3 z)) (some g) := by
  subst hn
  rcases h.2 with ⟨h', _⟩ | ⟨g', cap', cur, h', hb, hg, hnc, hcm, hcs, htake⟩
  · simp at h'
  · simp only [Value.slice.injEq, Option.some.injEq, Addr.mk.injEq, and_true, true_and] at h'
    obtain ⟨rfl, rfl⟩ := h'
    have hsz : (tripE k1 k2 k3).size = 3 := rfl
    rw [hsz] at hcs htake
    have hB : Blk w g T cur := hg
    have hB3 := ((hB.set_ (l.length * 3) (.int k1 x)).set_ (l.length * 3 + 1) (.int k2 y)).set_ (l.length * 3 + 2) (.int k3 z)
    refine ⟨⟨by rw [Enc.flat_len, hsz], .inr ⟨g, c, _, by simp, hb, hB3, by simp; omega, hcm, by simp [hsz]; exact hcs, ?_⟩⟩, ?_⟩
    · rw [Array.toList_setIfInBounds, Array.toList_setIfInBounds, Array.toList_setIfInBounds, hsz, List.length_append, Enc.flat_append, ← htake, Nat.add_mul]
      rw [show ([(x, y, z)] : List (Int × Int × Int)).length * 3 = 3 from rfl]
      have e : cur.toList.length = cur.size := by simp
      have hle : (l.length + 1) * 3 ≤ c * 3 := Nat.mul_le_mul_right 3 hc
      rw [set3_take _ _ _ _ _ (by omega)]
      simp [Enc.flat, tripE]
    · exact (Only.set w _ _).trans ((Only.set _ _ _).trans (Only.set _ _ _))
theorem Row.room3 {k1 k2 k3 : IntKind} {T : TypeId} {B : Nat} {w : World} {g n c : Nat} {l : List (Int × Int × Int)} (h : Row (tripE k1 k2 k3) T B w (.slice (some ⟨g, 0, none⟩) n c) l) (hn : n = l.length) {j : Nat} (hj : j < c * 3) :
    (∃ u, w.cell? ⟨g, j, none⟩ = some u) ∧ w.frozen? ⟨g, j, none⟩ = false := by
  subst hn
  refine ⟨?_, World.ownsRow.frozenAt h j⟩
  rcases h.2 with ⟨h', _⟩ | ⟨g', cap', cur, h', hb, hg, hnc, hcm, hcs, htake⟩
  · simp at h'
  · simp only [Value.slice.injEq, Option.some.injEq, Addr.mk.injEq, and_true, true_and] at h'
    obtain ⟨rfl, rfl⟩ := h'
    have hsz : (tripE k1 k2 k3).size = 3 := rfl
    rw [hsz] at hcs
    exact ⟨cur[j], by rw [cell_of_row w g j cur T (0, 0) hg]; simp [hcs, hj]⟩
/-- the cells of a slice of one's own -/
theorem own_rdE {α : Type} {E : Enc α} {w : World} {g : Nat} {l m : List α} {c : Nat} (h : Rd E w (.slice (some ⟨g, 0, none⟩) (l.length + m.length) c) (l ++ m)) : Rd E w (.slice (some ⟨g, 0, none⟩) l.length c) l := by
  obtain ⟨a0, c0, hv, h1, h2, _⟩ := id h
  injection hv with _ _ e3
  have := h.cut rfl (Nat.zero_le l.length) (by simp) (a' := some ⟨g, 0, none⟩) (n' := l.length) (c' := c) (by simp) (by simp at h1; omega) (by omega) (fun _ g' off e => by injection e with e; injection e with e1 e2; subst e1 e2; simp)
  simpa using this
theorem Rd.old3 {k1 k2 k3 : IntKind} {w : World} {v : Value} {l : List (Int × Int × Int)} (h : Rd (tripE k1 k2 k3) w v l) (hl : 0 < l.length) {j : Nat} (hj : v.ownBlock = some j) : j < w.heap.size := by
  obtain ⟨a, g, off, c, rfl, _, _, ha, hc⟩ := Rd.loop3 h
  obtain ⟨rfl, hg⟩ := ha hl
  have e : some g = some j := hj
  injection e with e
  omega
/-- a slice of such, as an argument -/
theorem kd_trips {k1 k2 k3 : IntKind} {w : World} {v : Value} {l : List (Int × Int × Int)} (h : (kSlice (kPair (kInt k1) (kPair (kInt k2) (kInt k3)))).rd w [v] l) :
    Rd (tripE k1 k2 k3) w v l ∧ ∀ x ∈ l, (Lit.int k1 x.1).wf = true ∧ (Lit.int k2 x.2.1).wf = true ∧ (Lit.int k3 x.2.2).wf = true := by
  obtain ⟨a, c, h1, h2, h3, h4⟩ := h
  injection h1 with h1
  subst h1
  have key : 0 < l.length → ∃ g off, a = some ⟨g, off, none⟩ ∧ ∀ i y, l[i]? = some y → (∀ j, j < 3 → w.cell? ⟨g, off + (i * 3 + j), none⟩ = ((tripE k1 k2 k3).cells y)[j]?) ∧ (Lit.int k1 y.1).wf = true ∧ (Lit.int k2 y.2.1).wf = true ∧ (Lit.int k3 y.2.2).wf = true := by
    intro hl
    obtain ⟨g, off, ha, hi⟩ := h4 hl
    refine ⟨g, off, ha, fun i y hy => ?_⟩
    obtain ⟨es, he, hr⟩ := hi i y hy
    have hlen := (kPair (kInt k1) (kPair (kInt k2) (kInt k3))).len hr
    obtain ⟨⟨r1, w1⟩, ⟨r2, w2⟩, r3, w3⟩ := hr
    match es, hlen with
    | [c0, c1, c2], _ =>
      have e0 : c0 = .int k1 y.1 := by simpa [kInt] using r1
      have e1 : c1 = .int k2 y.2.1 := by simpa [kInt] using r2
      have e2 : c2 = .int k3 y.2.2 := by simpa [kInt] using r3
      subst e0 e1 e2
      exact ⟨fun j hj => he j hj, w1, w2, w3⟩
  refine ⟨⟨a, c, rfl, h2, h3, fun hl => ?_⟩, fun x hx => ?_⟩
  · obtain ⟨g, off, ha, hc⟩ := key hl
    refine ⟨g, off, ha, fun j u hu => ?_⟩
    have hsz : (tripE k1 k2 k3).size = 3 := rfl
    have hj : j < l.length * 3 := by
      have := (List.getElem?_eq_some_iff.1 hu).1
      rw [Enc.flat_len, hsz] at this
      exact this
    have hi : j / 3 < l.length := by omega
    have hf := (tripE k1 k2 k3).flat_at (l := l) (i := j / 3) (j := j % 3) hi (by rw [hsz]; omega)
    rw [hsz, show j / 3 * 3 + j % 3 = j by omega] at hf
    have := (hc (j / 3) _ (List.getElem?_eq_getElem hi)).1 (j % 3) (by omega)
    rw [show j / 3 * 3 + j % 3 = j by omega] at this
    rw [this, ← hf, hu]
  · obtain ⟨i, hi, rfl⟩ := List.getElem_of_mem hx
    obtain ⟨g, off, _, hc⟩ := key (by omega)
    exact (hc i _ (List.getElem?_eq_getElem hi)).2
end Go.Proofs.Ytkenldpmogogaaa.Mem
