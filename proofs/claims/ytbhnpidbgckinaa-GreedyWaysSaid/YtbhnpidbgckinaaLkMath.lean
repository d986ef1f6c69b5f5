/- Links as the document makes them, as functions of the rising list of points and of the dice's state. -/
import Derived.Test.YtbhnpidbgckinaaRgMath
import Derived.Test.YtbhnpidbgckinaaRgFar
set_option maxRecDepth 4000
namespace Go.Proofs.Ytbhnpidbgckinaa
set_option linter.unusedSimpArgs false
set_option linter.unusedVariables false
/-- steps from p to x -/
def stp (p x : Int) : Int := (x - p) % 4294967296
/-- q laid among those, by rising steps from p -/
def insS (p : Int) (out : List Int) (q : Int) : List Int := out.filter (fun x => decide (stp p x < stp p q)) ++ q :: out.filter (fun x => decide (stp p q < stp p x))
/-- one more link -/
def putS (L : List Int) (p : Int) (out : List Int) (q : Int) : List Int := if q = p ∨ q = (nextR L p).1 ∨ q ∈ out then out else insS p out q
/-- the dice's state behind so many looks -/
def stS (s : Int) : Nat → Int
  | 0 => s
  | i + 1 => farS (stS s i)
/-- whose link the i-th look finds -/
def lkQ (L : List Int) (p s : Int) (i : Nat) : Int := (ownR L ((p + farV (stS s i)) % 4294967296)).1
/-- the links behind so many looks -/
def outS (L : List Int) (p s : Int) : Nat → List Int
  | 0 => []
  | i + 1 => putS L p (outS L p s i) (lkQ L p s i)
def linksR (L : List Int) (p n s : Int) : List Int := if L.contains p then outS L p s (min n 6).toNat else []
def linksE (L : List Int) (p n s : Int) : Int := if L.contains p then stS s (min n 6).toNat else s
theorem farS_bd (s : Int) : 0 ≤ farS s ∧ farS s ≤ 18446744073709551615 := dnext_bd _
theorem stS_bd {s : Int} (h : 0 ≤ s ∧ s ≤ 18446744073709551615) : ∀ i, 0 ≤ stS s i ∧ stS s i ≤ 18446744073709551615
  | 0 => h
  | i + 1 => farS_bd _
theorem linksE_bd {L : List Int} {p n s : Int} (h : 0 ≤ s ∧ s ≤ 18446744073709551615) : 0 ≤ linksE L p n s ∧ linksE L p n s ≤ 18446744073709551615 := by
  unfold linksE
  split
  · exact stS_bd h _
  · exact h
theorem insS_mem {p q x : Int} {out : List Int} (hb : ∀ y ∈ q :: out, 0 ≤ y ∧ y ≤ 4294967295) : x ∈ insS p out q ↔ x = q ∨ x ∈ out := by
  unfold insS
  rw [List.mem_append, List.mem_cons, List.mem_filter, List.mem_filter]
  constructor
  · rintro (h | h | h)
    · exact .inr h.1
    · exact .inl h
    · exact .inr h.1
  · rintro (h | h)
    · exact .inr (.inl h)
    · have h1 := hb x (List.mem_cons_of_mem _ h)
      have h2 := hb q List.mem_cons_self
      by_cases e : x = q
      · exact .inr (.inl e)
      · unfold stp
        rcases Int.lt_trichotomy ((x - p) % 4294967296) ((q - p) % 4294967296) with h3 | h3 | h3
        · exact .inl ⟨h, by simpa using h3⟩
        · omega
        · exact .inr (.inr ⟨h, by simpa using h3⟩)
/-- what the links are: points, by rising steps, neither p nor the next one -/
def LkOk (L : List Int) (p : Int) (out : List Int) : Prop := out.Pairwise (fun x y => stp p x < stp p y) ∧ ∀ x ∈ out, x ∈ L ∧ x ≠ p ∧ x ≠ (nextR L p).1
theorem LkOk.put {L : List Int} {p q : Int} {out : List Int} (hL : okR L) (h : LkOk L p out) (hq : q ∈ L) : LkOk L p (putS L p out q) ∧ (putS L p out q).length ≤ out.length + 1 := by
  unfold putS
  split
  · exact ⟨h, Nat.le_succ _⟩
  · rename_i hn
    have hb : ∀ y ∈ q :: out, 0 ≤ y ∧ y ≤ 4294967295 := fun y hy => by
      rcases List.mem_cons.1 hy with e | e
      · rw [e]; exact hL.2.1 q hq
      · exact hL.2.1 y (h.2 y e).1
    have h1 : q ≠ p ∧ q ≠ (nextR L p).1 ∧ ¬ q ∈ out := ⟨fun e => hn (.inl e), fun e => hn (.inr (.inl e)), fun e => hn (.inr (.inr e))⟩
    refine ⟨⟨?_, fun x hx => ?_⟩, ?_⟩
    · unfold insS
      rw [List.pairwise_append, List.pairwise_cons]
      refine ⟨h.1.sublist List.filter_sublist, ⟨fun y hy => by simpa using (List.mem_filter.1 hy).2, h.1.sublist List.filter_sublist⟩, fun a ha b hb => ?_⟩
      have ha := of_decide_eq_true (List.mem_filter.1 ha).2
      rcases List.mem_cons.1 hb with e | e
      · rw [e]; exact ha
      · have := of_decide_eq_true (List.mem_filter.1 e).2; omega
    · rcases (insS_mem hb).1 hx with e | e
      · rw [e]; exact ⟨hq, h1.1, h1.2.1⟩
      · exact h.2 x e
    · unfold insS
      rw [List.length_append, List.length_cons]
      have h3 : ∀ l : List Int, (l.filter (fun x => decide (stp p x < stp p q))).length + (l.filter (fun x => decide (stp p q < stp p x))).length ≤ l.length := by
        intro l
        induction l with
        | nil => simp
        | cons y l ih =>
          simp only [List.filter_cons, List.length_cons]
          by_cases e1 : stp p y < stp p q
          · rw [if_pos (by simpa using e1), if_neg (by simp; omega)]
            simp only [List.length_cons]; omega
          · by_cases e2 : stp p q < stp p y
            · rw [if_neg (by simpa using e1), if_pos (by simpa using e2)]
              simp only [List.length_cons]; omega
            · rw [if_neg (by simpa using e1), if_neg (by simpa using e2)]
              omega
      have := h3 out
      omega
theorem lkQ_mem {L : List Int} (p s : Int) (i : Nat) (hne : L ≠ []) : lkQ L p s i ∈ L := (own_head _ hne).2
theorem outS_ok {L : List Int} (hL : okR L) (hne : L ≠ []) (p s : Int) : ∀ i, LkOk L p (outS L p s i) ∧ (outS L p s i).length ≤ i
  | 0 => ⟨⟨List.Pairwise.nil, fun x hx => (nomatch hx)⟩, Nat.le_refl _⟩
  | i + 1 => by
    obtain ⟨h1, h2⟩ := outS_ok hL hne p s i
    obtain ⟨h3, h4⟩ := LkOk.put hL h1 (lkQ_mem p s i hne)
    exact ⟨h3, by show (putS L p (outS L p s i) (lkQ L p s i)).length ≤ _; omega⟩
/-- the place of what is laid, as it is looked for from behind -/
theorem insS_take {p q : Int} {out : List Int} (hs : out.Pairwise (fun x y => stp p x < stp p y)) {k : Nat} (hk : k ≤ out.length) (hi : ∀ i, k ≤ i → i < out.length → stp p q < stp p (out.getD i 0)) (hlo : 0 < k → stp p (out.getD (k - 1) 0) < stp p q) : insS p out q = out.take k ++ q :: out.drop k := by
  have g : ∀ i (hi : i < out.length), out.getD i 0 = out[i] := fun i hi => by simp [List.getD, hi]
  have h1 : ∀ x ∈ out.take k, stp p x < stp p q := by
    intro x hx
    obtain ⟨i, hi', rfl⟩ := List.getElem_of_mem hx
    have hik : i < k := by simp at hi'; omega
    have hiL : i < out.length := by omega
    rw [List.getElem_take]
    have h2 := hlo (by omega)
    rw [g (k - 1) (by omega)] at h2
    rcases Nat.lt_or_ge i (k - 1) with q1 | q1
    · have := List.pairwise_iff_getElem.1 hs i (k - 1) hiL (by omega) q1; omega
    · have : i = k - 1 := by omega
      subst this; exact h2
  have h2 : ∀ x ∈ out.drop k, stp p q < stp p x := by
    intro x hx
    obtain ⟨i, hi', rfl⟩ := List.getElem_of_mem hx
    have hiL : k + i < out.length := by simp at hi'; omega
    rw [List.getElem_drop]
    have := hi (k + i) (by omega) hiL
    rwa [g _ hiL] at this
  unfold insS
  have e := (List.take_append_drop k out).symm
  congr 1
  · conv => lhs; rw [e]
    rw [List.filter_append, List.filter_eq_self.2 (fun x hx => by simpa using h1 x hx), List.filter_eq_nil_iff.2 (fun x hx => by have := h2 x hx; simp; omega), List.append_nil]
  · congr 1
    conv => lhs; rw [e]
    rw [List.filter_append, List.filter_eq_nil_iff.2 (fun x hx => by have := h1 x hx; simp; omega), List.filter_eq_self.2 (fun x hx => by simpa using h2 x hx), List.nil_append]
end Go.Proofs.Ytbhnpidbgckinaa
