/- Arguments whose inner slices are long: what the reach says of their lengths. -/
import Derived.Test.YtihfkjodjaoocaaMem
import Derived.SizedLaws
set_option maxRecDepth 4000
namespace Go.Proofs.Ytihfkjodjaoocaa.Mem
open Go.ChangeShapes Go.WideShapes Go.ChangeAt Go.RowKit Go.Joins Go.Deep
set_option linter.unusedVariables false

section
variable {H : Type} {enc : TypeId × Value → H} {P : Program}
/-- no row of it is beyond the reach -/
def Small (P : Program) (t : TypeId) (d : DataW H) : Prop := ∀ n ∈ d.weights P t, n ≤ reachBytes
theorem small_all {e : TypeId} : ∀ {l : List (DataW H)} {d : DataW H}, d ∈ l → ∀ n ∈ d.weights P e, n ∈ DataW.weightsAll P e l
  | a :: r, d, h, n, hn => by
    unfold DataW.weightsAll
    rw [List.mem_append]
    rcases List.mem_cons.1 h with rfl | h
    · exact .inl hn
    · exact .inr (small_all h n hn)
/-- an argument's datum -/
theorem small_arg {ts : List TypeId} {ds : List (DataW H)} (h : (DataW.weightsEach P ts ds).all (· ≤ reachBytes) = true) {j : Nat} {t : TypeId} {d : DataW H} (ht : ts[j]? = some t) (hd : ds[j]? = some d) : Small P t d := by
  intro n hn
  have := List.all_eq_true.1 h n (DataW.weights_mem_each ht hd n hn)
  simpa using this
/-- whatever is read at that type within the reach reads so -/
def OpensW (enc : TypeId × Value → H) (P : Program) (t : TypeId) {α : Type} (A : Kd α) : Prop :=
  P.cellsOf t = A.size ∧ ∀ (w : World) (base : Nat) (spare : Nat → Bool) (held : Bool) (fuel : Nat) (cs : List Value) (x : DataW H × List MemPlace), DataW.trod enc P w base spare held fuel t cs = some x → Small P t x.1 → ∃ y, A.rd w cs y
theorem Opens.w {t : TypeId} {α : Type} {A : Kd α} (h : Opens enc P t A) : OpensW enc P t A := ⟨h.1, fun w base spare held fuel cs x hx _ => h.2 w base spare held fuel cs x hx⟩
/-- a slice of bytes within the reach -/
def kText : Kd (List Int) where
  size := 1
  rd w cs l := (kSlice (kInt .u8)).rd w cs l ∧ l.length ≤ 140737488351232
  len h := (kSlice (kInt .u8)).len h.1
  keep h k := ⟨(kSlice (kInt .u8)).keep h.1 k, h.2⟩
theorem opensw_text {t e : TypeId} (h : P.underlying t = some (.slice e)) (hc : P.cellsOf t = 1) (he : P.underlying e = some (.int .u8)) (hce : P.cellsOf e = 1) (hb : P.bytesOf e = 1) : OpensW enc P t kText := by
  refine ⟨hc, fun w base spare held fuel cs x hx hs => ?_⟩
  obtain ⟨y, hy⟩ := (opens_slice (A := kInt .u8) h hc (by decide) (opens_int he hce)).2 w base spare held fuel cs x hx
  refine ⟨y, hy, ?_⟩
  obtain ⟨a', c', e', _⟩ := hy
  rcases open_slice h hx with ⟨rfl, _⟩ | ⟨a, len, cap, m, n, D, Pl, rfl, _, hl, hm, hmm, rfl, hi⟩
  · injection e' with e'
    injection e' with _ e2 _
    omega
  · injection e' with e'
    injection e' with _ e2 _
    have := hs ((len + (m - len)) * P.bytesOf e) (by
      unfold DataW.weights
      simp [h])
    rw [hb, Nat.mul_one] at this
    have hr : reachBytes = 140737488351232 := rfl
    omega
theorem opensw_slice {t e : TypeId} {α : Type} {A : Kd α} (h : P.underlying t = some (.slice e)) (hc : P.cellsOf t = 1) (hpos : 0 < A.size) (hA : OpensW enc P e A) : OpensW enc P t (kSlice A) := by
  refine ⟨hc, fun w base spare held fuel cs x hx hs => ?_⟩
  rcases open_slice h hx with ⟨rfl, _⟩ | ⟨a, len, cap, m, n, D, Pl, rfl, _, hl, hm, hmm, rfl, hi⟩
  · exact ⟨[], none, 0, rfl, Nat.le_refl _, Nat.zero_le _, fun h => absurd h (by simp)⟩
  · have hlm : len ≤ m := by rw [hmm]; split <;> omega
    have hsm : ∀ i, i < len → Small P e (D i) := by
      intro i hin k hk
      refine hs k ?_
      unfold DataW.weights
      simp only [h]
      refine List.mem_cons_of_mem _ (List.mem_append_left _ (small_all (d := D i) ?_ k hk))
      exact List.mem_map.2 ⟨i, List.mem_range.2 hin, rfl⟩
    have key : ∀ i, i < len → ∃ y, ∃ es, (∀ j, j < A.size → w.cell? (a.add (i * A.size + j)) = es[j]?) ∧ A.rd w es y := by
      intro i hin
      obtain ⟨cs', h1, h2⟩ := hi i (by omega)
      rw [hA.1] at h1
      obtain ⟨_, hcl, hat⟩ := World.cells?_some h1
      obtain ⟨y, hy⟩ := hA.2 w base spare held n cs' _ h2 (hsm i hin)
      refine ⟨y, cs', fun j hj => ?_, hy⟩
      have := hat j hj
      rwa [Go.Deep.add_add] at this
    obtain ⟨L, hL, hq⟩ := list_choose len key
    refine ⟨L, some a, cap, by rw [hL], by rw [hL]; exact hl, hm, fun hp => ?_⟩
    obtain ⟨b, off, spot⟩ := a
    have hspot : spot = none := by
      have h0 : L[0]? = some (L[0]'hp) := List.getElem?_eq_getElem _
      obtain ⟨es, he, hr⟩ := hq 0 _ h0
      have hlen := A.len hr
      have hs : es[0]? = some (es[0]'(by omega)) := List.getElem?_eq_getElem _
      have := (he 0 hpos).trans hs
      simpa [Addr.add] using World.cell?_spot this
    subst hspot
    refine ⟨b, off, rfl, fun i y hy => ?_⟩
    obtain ⟨es, he, hr⟩ := hq i y hy
    refine ⟨es, fun j hj => ?_, hr⟩
    have := he j hj
    rwa [Go.WideShapes.add_plain] at this
/-- the fields from a place on -/
def FieldsW (enc : TypeId × Value → H) (P : Program) (off : Nat) (fs : List Field) {α : Type} (A : Kd α) : Prop :=
  ∀ (w : World) (base : Nat) (spare : Nat → Bool) (held : Bool) (fuel : Nat) (cs : List Value),
    (∀ (i : Nat) (f : Field), fs[i]? = some f → ∃ y, DataW.trod enc P w base spare held fuel f.type ((cs.drop f.offset).take (P.cellsOf f.type)) = some y ∧ Small P f.type y.1) → cs.length = off + A.size → ∃ y, A.rd w (cs.drop off) y
theorem fieldsw_one {off : Nat} {f : Field} {α : Type} {A : Kd α} (ho : f.offset = off) (hA : OpensW enc P f.type A) : FieldsW enc P off [f] A := by
  intro w base spare held fuel cs h hl
  obtain ⟨y, hy, hs⟩ := h 0 f rfl
  rw [ho, hA.1, List.take_of_length_le (by rw [List.length_drop]; omega)] at hy
  exact hA.2 w base spare held fuel _ _ hy hs
theorem fieldsw_cons {off : Nat} {f : Field} {fs : List Field} {α β : Type} {A : Kd α} {B : Kd β} (ho : f.offset = off) (hA : OpensW enc P f.type A) (hB : FieldsW enc P (off + A.size) fs B) : FieldsW enc P off (f :: fs) (kPair A B) := by
  intro w base spare held fuel cs h hl
  have hs : (kPair A B).size = A.size + B.size := rfl
  obtain ⟨y, hy, hsm⟩ := h 0 f rfl
  rw [ho, hA.1] at hy
  obtain ⟨x, hx⟩ := hA.2 w base spare held fuel _ _ hy hsm
  obtain ⟨z, hz⟩ := hB w base spare held fuel cs (fun i g hg => h (i + 1) g (by simpa using hg)) (by omega)
  exact ⟨(x, z), hx, by show B.rd w ((cs.drop off).drop A.size) z; rw [List.drop_drop]; exact hz⟩
theorem opensw_struct {t : TypeId} {fs : Array Field} {α : Type} {A : Kd α} (h : P.underlying t = some (.struct fs)) (hc : P.cellsOf t = A.size) (hA : FieldsW enc P 0 fs.toList A) : OpensW enc P t A := by
  refine ⟨hc, fun w base spare held fuel cs x hx hs => ?_⟩
  obtain ⟨xs, n, _, rfl, hl, hlen, hf⟩ := DataW.trod_struct h hx
  have := hA w base spare held n cs (fun i f hi => ?_) (by omega)
  · simpa using this
  · have hi' : fs[i]? = some f := by simpa using hi
    have hlt : i < xs.length := by rw [hlen]; exact (Array.getElem?_eq_some_iff.1 hi').1
    refine ⟨xs[i], by rw [hf i f hi']; exact List.getElem?_eq_getElem hlt, fun k hk => hs k ?_⟩
    unfold DataW.weights
    simp only [h]
    refine DataW.weights_mem_each (j := i) (t := f.type) (d := xs[i].1) ?_ ?_ k hk
    · rw [List.getElem?_map, hi]; rfl
    · rw [List.getElem?_map, List.getElem?_eq_getElem hlt]; rfl
end
/-- an argument that is a slice -/
theorem open_kdw {H : Type} {enc : TypeId × Value → H} {P : Program} {W : World} {base b0 : Nat} {spare : Nat → Bool} {held : Bool} {r : Reach} {t e : TypeId} {v : Value} {d : DataW H} {p : List MemPlace} {α : Type} {A : Kd α} (ht : P.underlying t = some (.slice e)) (O : OpensW enc P t (kSlice A))
    (hv : Value.okWide P W r b0 t v) (h : DataW.Trod enc P W base spare held t v d p) (hs : Small P t d) : ∃ l, (kSlice A).rd W [v] l := by
  obtain ⟨a0, len, cap, rfl⟩ := okWide_slice ht hv
  obtain ⟨fuel, hf⟩ := h
  exact O.2 W base spare held fuel _ _ hf hs
end Go.Proofs.Ytihfkjodjaoocaa.Mem
