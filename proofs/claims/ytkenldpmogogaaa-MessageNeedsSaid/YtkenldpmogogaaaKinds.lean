/- What an argument of any plain type reads as, by its type: numbers, bools, structs, slices of any of these. -/
import Derived.Test.YtkenldpmogogaaaOpen
import Derived.Test.YtkenldpmogogaaaMem
import Derived.Deep.Slices
import Derived.Deep.Fields
import Derived.OpenShut
set_option maxRecDepth 4000
namespace Go.Proofs.Ytkenldpmogogaaa.Mem
open Go Go.ChangeShapes Go.WideShapes Go.ChangeAt Go.RowKit Go.Joins Go.Deep
set_option linter.unusedVariables false

/-- a kind of data: how many cells one has, and what cells read as -/
structure Kd (α : Type) where
  size : Nat
  rd : World → List Value → α → Prop
  len : ∀ {w : World} {cs : List Value} {x : α}, rd w cs x → cs.length = size
  keep : ∀ {w w' : World} {cs : List Value} {x : α}, rd w cs x → Below w.heap.size w w' → rd w' cs x
def kInt (k : IntKind) : Kd Int where
  size := 1
  rd _ cs x := cs = [.int k x] ∧ (Lit.int k x).wf = true
  len h := by rw [h.1]; rfl
  keep h _ := h
def kBool : Kd Bool where
  size := 1
  rd _ cs x := cs = [.bool x]
  len h := by rw [h]; rfl
  keep h _ := h
def kPair {α β : Type} (A : Kd α) (B : Kd β) : Kd (α × β) where
  size := A.size + B.size
  rd w cs x := A.rd w (cs.take A.size) x.1 ∧ B.rd w (cs.drop A.size) x.2
  len h := by
    have h1 := A.len h.1
    have h2 := B.len h.2
    rw [List.length_take] at h1
    rw [List.length_drop] at h2
    omega
  keep h k := ⟨A.keep h.1 k, B.keep h.2 k⟩
def kSlice {α : Type} (A : Kd α) : Kd (List α) where
  size := 1
  rd w cs l := ∃ a c, cs = [.slice a l.length c] ∧ l.length ≤ c ∧ c ≤ maxLen ∧ (0 < l.length → ∃ g off, a = some ⟨g, off, none⟩ ∧
    ∀ i y, l[i]? = some y → ∃ es, (∀ j, j < A.size → w.cell? ⟨g, off + (i * A.size + j), none⟩ = es[j]?) ∧ A.rd w es y)
  len h := by obtain ⟨a, c, h, _⟩ := h; rw [h]; rfl
  keep h k := by
    obtain ⟨a, c, h1, h2, h3, h4⟩ := h
    refine ⟨a, c, h1, h2, h3, fun hl => ?_⟩
    obtain ⟨g, off, ha, hi⟩ := h4 hl
    refine ⟨g, off, ha, fun i y hy => ?_⟩
    obtain ⟨es, he, hr⟩ := hi i y hy
    refine ⟨es, fun j hj => ?_, A.keep hr k⟩
    have hlen := A.len hr
    have hs : es[j]? = some (es[j]'(by omega)) := List.getElem?_eq_getElem _
    rw [hs]
    exact kc k ((he j hj).trans hs)

theorem list_choose {α : Type} {Q : Nat → α → Prop} : ∀ (n : Nat), (∀ i, i < n → ∃ y, Q i y) → ∃ L : List α, L.length = n ∧ ∀ i y, L[i]? = some y → Q i y := by
  intro n
  induction n with
  | zero => intro _; exact ⟨[], rfl, fun i y h => by simp at h⟩
  | succ n ih =>
    intro h
    obtain ⟨L, hL, hq⟩ := ih fun i hi => h i (by omega)
    obtain ⟨y, hy⟩ := h n (by omega)
    refine ⟨L ++ [y], by simp [hL], fun i z hz => ?_⟩
    rcases Nat.lt_or_ge i n with hi | hi
    · rw [List.getElem?_append_left (by omega)] at hz
      exact hq i z hz
    · rw [List.getElem?_append_right (by omega)] at hz
      have hi2 : i - L.length = 0 := by
        have := (List.getElem?_eq_some_iff.1 hz).1
        simp at this
        omega
      rw [hi2] at hz
      simp at hz
      have hin : i = n := by omega
      rw [hin, ← hz]
      exact hy

section
variable {H : Type} {enc : TypeId × Value → H} {P : Program}
/-- whatever is read at that type reads so -/
def Opens (enc : TypeId × Value → H) (P : Program) (t : TypeId) {α : Type} (A : Kd α) : Prop :=
  P.cellsOf t = A.size ∧ ∀ (w : World) (base : Nat) (spare : Nat → Bool) (held : Bool) (fuel : Nat) (cs : List Value) (x : DataW H × List MemPlace), DataW.trod enc P w base spare held fuel t cs = some x → ∃ y, A.rd w cs y
theorem opens_int {t : TypeId} {k : IntKind} (h : P.underlying t = some (.int k)) (hc : P.cellsOf t = 1) : Opens enc P t (kInt k) := by
  refine ⟨hc, fun w base spare held fuel cs x hx => ?_⟩
  obtain ⟨a, e, _, hw⟩ := DataW.trod_int h hx
  exact ⟨a, e, hw⟩
theorem opens_bool {t : TypeId} (h : P.underlying t = some .bool) (hc : P.cellsOf t = 1) : Opens enc P t kBool := by
  refine ⟨hc, fun w base spare held fuel cs x hx => ?_⟩
  obtain ⟨a, e, _⟩ := DataW.trod_bool h hx
  exact ⟨a, e⟩
theorem opens_slice {t e : TypeId} {α : Type} {A : Kd α} (h : P.underlying t = some (.slice e)) (hc : P.cellsOf t = 1) (hpos : 0 < A.size) (hA : Opens enc P e A) : Opens enc P t (kSlice A) := by
  refine ⟨hc, fun w base spare held fuel cs x hx => ?_⟩
  rcases open_slice h hx with ⟨rfl, _⟩ | ⟨a, len, cap, m, n, D, Pl, rfl, _, hl, hm, hmm, _, hi⟩
  · exact ⟨[], none, 0, rfl, Nat.le_refl _, Nat.zero_le _, fun h => absurd h (by simp)⟩
  · have hlm : len ≤ m := by rw [hmm]; split <;> omega
    have key : ∀ i, i < len → ∃ y, ∃ es, (∀ j, j < A.size → w.cell? (a.add (i * A.size + j)) = es[j]?) ∧ A.rd w es y := by
      intro i hin
      obtain ⟨cs', h1, h2⟩ := hi i (by omega)
      rw [hA.1] at h1
      obtain ⟨_, hcl, hat⟩ := World.cells?_some h1
      obtain ⟨y, hy⟩ := hA.2 w base spare held n cs' _ h2
      refine ⟨y, cs', fun j hj => ?_, hy⟩
      have := hat j hj
      rwa [Go.Deep.add_add] at this
    obtain ⟨L, hL, hq⟩ := list_choose len key
    refine ⟨L, some a, cap, by rw [hL], by rw [hL]; exact hl, hm, fun hp => ?_⟩
    obtain ⟨b, off, spot⟩ := a
    have hspot : spot = none := by
      have h0 : L[0]? = some (L[0]'hp) := List.getElem?_eq_getElem _
      obtain ⟨es, he, hr⟩ := hq 0 _ h0
      have hlen := A.len hr
      have hs : es[0]? = some (es[0]'(by omega)) := List.getElem?_eq_getElem _
      have := (he 0 hpos).trans hs
      simpa [Addr.add] using World.cell?_spot this
    subst hspot
    refine ⟨b, off, rfl, fun i y hy => ?_⟩
    obtain ⟨es, he, hr⟩ := hq i y hy
    refine ⟨es, fun j hj => ?_, hr⟩
    have := he j hj
    rwa [Go.WideShapes.add_plain] at this
/-- the fields from a place on -/
def Fields (enc : TypeId × Value → H) (P : Program) (off : Nat) (fs : List Field) {α : Type} (A : Kd α) : Prop :=
  ∀ (w : World) (base : Nat) (spare : Nat → Bool) (held : Bool) (fuel : Nat) (cs : List Value),
    (∀ (i : Nat) (f : Field), fs[i]? = some f → ∃ y, DataW.trod enc P w base spare held fuel f.type ((cs.drop f.offset).take (P.cellsOf f.type)) = some y) → cs.length = off + A.size → ∃ y, A.rd w (cs.drop off) y
theorem fields_one {off : Nat} {f : Field} {α : Type} {A : Kd α} (ho : f.offset = off) (hA : Opens enc P f.type A) : Fields enc P off [f] A := by
  intro w base spare held fuel cs h hl
  obtain ⟨y, hy⟩ := h 0 f rfl
  rw [ho, hA.1, List.take_of_length_le (by rw [List.length_drop]; omega)] at hy
  exact hA.2 w base spare held fuel _ _ hy
theorem fields_cons {off : Nat} {f : Field} {fs : List Field} {α β : Type} {A : Kd α} {B : Kd β} (ho : f.offset = off) (hA : Opens enc P f.type A) (hB : Fields enc P (off + A.size) fs B) : Fields enc P off (f :: fs) (kPair A B) := by
  intro w base spare held fuel cs h hl
  have hs : (kPair A B).size = A.size + B.size := rfl
  obtain ⟨y, hy⟩ := h 0 f rfl
  rw [ho, hA.1] at hy
  obtain ⟨x, hx⟩ := hA.2 w base spare held fuel _ _ hy
  obtain ⟨z, hz⟩ := hB w base spare held fuel cs (fun i g hg => h (i + 1) g (by simpa using hg)) (by omega)
  exact ⟨(x, z), hx, by show B.rd w ((cs.drop off).drop A.size) z; rw [List.drop_drop]; exact hz⟩
theorem opens_struct {t : TypeId} {fs : Array Field} {α : Type} {A : Kd α} (h : P.underlying t = some (.struct fs)) (hc : P.cellsOf t = A.size) (hA : Fields enc P 0 fs.toList A) : Opens enc P t A := by
  refine ⟨hc, fun w base spare held fuel cs x hx => ?_⟩
  obtain ⟨xs, n, _, _, hl, hlen, hf⟩ := DataW.trod_struct h hx
  have := hA w base spare held n cs (fun i f hi => ?_) (by omega)
  · simpa using this
  · have hi' : fs[i]? = some f := by simpa using hi
    have hlt : i < xs.length := by rw [hlen]; exact (Array.getElem?_eq_some_iff.1 hi').1
    exact ⟨xs[i], by rw [hf i f hi']; exact List.getElem?_eq_getElem hlt⟩
end
/-- an argument that is a slice -/
theorem open_kd {H : Type} {enc : TypeId × Value → H} {P : Program} {W : World} {base b0 : Nat} {spare : Nat → Bool} {held : Bool} {r : Reach} {t e : TypeId} {v : Value} {d : DataW H} {p : List MemPlace} {α : Type} {A : Kd α} (ht : P.underlying t = some (.slice e)) (O : Opens enc P t (kSlice A))
    (hv : Value.okWide P W r b0 t v) (h : DataW.Trod enc P W base spare held t v d p) : ∃ l, (kSlice A).rd W [v] l := by
  obtain ⟨a0, len, cap, rfl⟩ := okWide_slice ht hv
  obtain ⟨fuel, hf⟩ := h
  exact O.2 W base spare held fuel _ _ hf
/-- an argument that is a struct -/
theorem open_kd_struct {H : Type} {enc : TypeId × Value → H} {P : Program} {W : World} {base b0 : Nat} {spare : Nat → Bool} {held : Bool} {r : Reach} {t : TypeId} {fs : Array Field} {v : Value} {d : DataW H} {p : List MemPlace} {α : Type} {A : Kd α} (ht : P.underlying t = some (.struct fs)) (O : Opens enc P t A)
    (hv : Value.okWide P W r b0 t v) (h : DataW.Trod enc P W base spare held t v d p) : ∃ cs : List Value, v = .agg cs.toArray ∧ ∃ y, A.rd W cs y := by
  obtain ⟨cs, rfl, _⟩ := okWide_struct ht hv
  obtain ⟨fuel, hf⟩ := h
  obtain ⟨y, hy⟩ := O.2 W base spare held fuel _ _ hf
  exact ⟨cs.toList, by simp, y, hy⟩
/-- a slice, for a loop: where its elements lie -/
theorem kd_loop {α : Type} {A : Kd α} {w : World} {v : Value} {l : List α} (h : (kSlice A).rd w [v] l) :
    ∃ a g off c, v = .slice a l.length c ∧ l.length ≤ c ∧ c ≤ maxLen ∧ (0 < l.length → a = some ⟨g, off, none⟩) ∧
      ∀ i y, l[i]? = some y → ∃ es, (∀ j, j < A.size → w.cell? ⟨g, off + (i * A.size + j), none⟩ = es[j]?) ∧ A.rd w es y := by
  obtain ⟨a, c, h1, h2, h3, h4⟩ := h
  injection h1 with h1
  by_cases hl : 0 < l.length
  · obtain ⟨g, off, ha, hi⟩ := h4 hl
    exact ⟨a, g, off, c, h1, h2, h3, fun _ => ha, hi⟩
  · exact ⟨a, 0, 0, c, h1, h2, h3, fun h => absurd h hl, fun i y hy => absurd (List.getElem?_eq_some_iff.1 hy).1 (by omega)⟩
/-- a slice of numbers -/
theorem kd_ints {k : IntKind} {w : World} {v : Value} {l : List Int} (h : (kSlice (kInt k)).rd w [v] l) : Rd (intE k) w v l ∧ ∀ x ∈ l, (Lit.int k x).wf = true := by
  obtain ⟨a, c, h1, h2, h3, h4⟩ := h
  injection h1 with h1
  subst h1
  have hfl : ∀ l : List Int, (intE k).flat l = l.map (Value.int k) := by
    intro l
    induction l with
    | nil => rfl
    | cons x l ih => rw [Enc.flat_cons, ih]; rfl
  refine ⟨⟨a, c, rfl, h2, h3, fun hl => ?_⟩, fun x hx => ?_⟩
  · obtain ⟨g, off, ha, hi⟩ := h4 hl
    refine ⟨g, off, ha, fun j u hu => ?_⟩
    rw [hfl, List.getElem?_map] at hu
    obtain ⟨y, hy, rfl⟩ := Option.map_eq_some_iff.1 hu
    obtain ⟨es, he, rfl, _⟩ := hi j y hy
    have := he 0 (show 0 < 1 by omega)
    have e1 : off + (j * (kInt k).size + 0) = off + j := by show off + (j * 1 + 0) = off + j; omega
    rw [e1] at this
    exact this
  · obtain ⟨i, hi, rfl⟩ := List.getElem_of_mem hx
    obtain ⟨g, off, ha, hc⟩ := h4 (by omega)
    obtain ⟨es, _, _, hw⟩ := hc i _ (List.getElem?_eq_getElem hi)
    exact hw
end Go.Proofs.Ytkenldpmogogaaa.Mem
