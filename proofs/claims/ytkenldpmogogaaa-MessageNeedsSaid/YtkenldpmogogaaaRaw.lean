/- Slices of anything, told by the cells of their elements: what a slice of a kind reads as, as a row of raw elements (to append to, to cut), and back. -/
import Derived.Test.YtkenldpmogogaaaKinds
set_option maxRecDepth 4000
namespace Go.Proofs.Ytkenldpmogogaaa.Mem
open Go Go.RowKit
set_option linter.unusedVariables false

/-- an element, as its cells -/
def Raw (n : Nat) : Type := { cs : List Value // cs.length = n ∧ ∀ u ∈ cs, u.oneCell' = true }
def rawE (n : Nat) : Enc (Raw n) where
  cells x := x.1
  size := n
  len x := x.2.1
  one x := x.2.2
/-- its cells are single cells -/
def KdOne {α : Type} (A : Kd α) : Prop := ∀ (w : World) (es : List Value) (y : α), A.rd w es y → ∀ u ∈ es, u.oneCell' = true
theorem one_int (k : IntKind) : KdOne (kInt k) := by
  intro w es y h u hu
  rw [h.1] at hu
  simp at hu
  subst hu
  rfl
theorem one_bool : KdOne kBool := by
  intro w es y h u hu
  have h : es = [.bool y] := h
  rw [h] at hu
  simp at hu
  subst hu
  rfl
theorem one_slice {α : Type} (A : Kd α) : KdOne (kSlice A) := by
  intro w es y h u hu
  obtain ⟨a, c, h, _⟩ := h
  rw [h] at hu
  simp at hu
  subst hu
  rfl
theorem one_pair {α β : Type} {A : Kd α} {B : Kd β} (hA : KdOne A) (hB : KdOne B) : KdOne (kPair A B) := by
  intro w es y h u hu
  obtain ⟨h1, h2⟩ := h
  rw [← List.take_append_drop A.size es, List.mem_append] at hu
  rcases hu with hu | hu
  · exact hA w _ _ h1 u hu
  · exact hB w _ _ h2 u hu
/-- a slice as a row of raw elements -/
theorem kd_raw {α : Type} {A : Kd α} (h1 : KdOne A) (hpos : 0 < A.size) {w : World} {v : Value} {l : List α} (h : (kSlice A).rd w [v] l) :
    ∃ hs : List (Raw A.size), hs.length = l.length ∧ Rd (rawE A.size) w v hs ∧ ∀ (i : Nat) (x : Raw A.size) (y : α), hs[i]? = some x → l[i]? = some y → A.rd w x.1 y := by
  obtain ⟨a, c, e, hc1, hc2, hc⟩ := h
  injection e with e
  subst e
  by_cases hl : 0 < l.length
  · obtain ⟨g, off, ha, hi⟩ := hc hl
    obtain ⟨hs, hn, hq⟩ := list_choose (Q := fun i (x : Raw A.size) => (∀ j, j < A.size → w.cell? ⟨g, off + (i * A.size + j), none⟩ = x.1[j]?) ∧ ∀ y, l[i]? = some y → A.rd w x.1 y) l.length (fun i hi' => by
      have hy : l[i]? = some l[i] := List.getElem?_eq_getElem hi'
      obtain ⟨es, he, hr⟩ := hi i _ hy
      refine ⟨⟨es, A.len hr, h1 w es _ hr⟩, he, fun y hy' => ?_⟩
      rw [hy] at hy'
      cases hy'
      exact hr)
    refine ⟨hs, hn, ⟨a, c, by rw [hn], by omega, hc2, fun _ => ⟨g, off, ha, fun j u hu => ?_⟩⟩, fun i x y hx hy => (hq i x hx).2 y hy⟩
    have hsz : (rawE A.size).size = A.size := rfl
    have hj : j < hs.length * A.size := by
      have := (List.getElem?_eq_some_iff.1 hu).1
      rwa [Enc.flat_len, hsz] at this
    have hdiv : j / A.size < hs.length := (Nat.div_lt_iff_lt_mul hpos).2 hj
    have hmod : j % A.size < A.size := Nat.mod_lt _ hpos
    have hf := (rawE A.size).flat_at (l := hs) (i := j / A.size) (j := j % A.size) hdiv hmod
    rw [hsz, Nat.div_add_mod' j A.size] at hf
    have := (hq (j / A.size) _ (List.getElem?_eq_getElem hdiv)).1 (j % A.size) hmod
    rw [Nat.div_add_mod' j A.size] at this
    rw [this]
    rw [hf] at hu
    exact hu
  · have h0 : l = [] := List.eq_nil_of_length_eq_zero (by omega)
    subst h0
    exact ⟨[], rfl, ⟨a, c, rfl, hc1, hc2, fun h => absurd h (by simp)⟩, fun i x y hx _ => by simp at hx⟩
/-- .. and back -/
theorem raw_kd {α : Type} {A : Kd α} {w : World} {v : Value} {l : List α} {hs : List (Raw A.size)} (hn : hs.length = l.length) (hr : Rd (rawE A.size) w v hs) (he : ∀ (i : Nat) (x : Raw A.size) (y : α), hs[i]? = some x → l[i]? = some y → A.rd w x.1 y) : (kSlice A).rd w [v] l := by
  obtain ⟨a, c, hv, hc1, hc2, hc⟩ := hr
  subst hv
  refine ⟨a, c, by rw [hn], by omega, hc2, fun hl => ?_⟩
  obtain ⟨g, off, ha, hcell⟩ := hc (by omega)
  refine ⟨g, off, ha, fun i y hy => ?_⟩
  have hi : i < hs.length := by have := (List.getElem?_eq_some_iff.1 hy).1; omega
  refine ⟨hs[i].1, fun j hj => ?_, he i _ y (List.getElem?_eq_getElem hi) hy⟩
  have hf := (rawE A.size).flat_at (l := hs) (i := i) (j := j) hi hj
  have hsz : (rawE A.size).size = A.size := rfl
  have hlen := hs[i].2.1
  have hu : hs[i].1[j]? = some (hs[i].1[j]'(by omega)) := List.getElem?_eq_getElem _
  rw [hu]
  refine hcell _ _ ?_
  rw [hsz] at hf
  rw [hf]
  exact hu
end Go.Proofs.Ytkenldpmogogaaa.Mem
