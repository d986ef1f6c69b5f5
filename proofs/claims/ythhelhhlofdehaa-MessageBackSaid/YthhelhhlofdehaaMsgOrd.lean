/- Bytes read as numbers, one behind the other: package octet's reader as a place that moves on. -/
import Derived.Test.YthhelhhlofdehaaMsgRd
import Derived.Test.YthhelhhlofdehaaOctR
set_option maxRecDepth 4000
namespace Go.Proofs.Ythhelhhlofdehaa
open Go.RowKit Mem
set_option linter.unusedSimpArgs false
set_option linter.unusedVariables false
attribute [local irreducible] Go.Calls

/-- a reader of l that was asked for q bytes -/
def OrQ (w : World) (b : Nat) (g : Option Nat) (l : List Int) (q : Nat) : Prop := ∃ p e, OrAt w b g l p e ∧ ((q ≤ l.length ∧ p = q ∧ e = 0) ∨ (l.length < q ∧ e = 3))
theorem OrQ.keep {w w' : World} {b : Nat} {g : Option Nat} {l : List Int} {q : Nat} (h : OrQ w b g l q) (k : Below w.heap.size w w') : OrQ w' b g l q := by
  obtain ⟨p, e, h1, h2⟩ := h
  exact ⟨p, e, h1.keep k, h2⟩
theorem OrQ.only {w w' : World} {b d : Nat} {g : Option Nat} {l : List Int} {q : Nat} (h : OrQ w b g l q) (k : Only d w w') (h1 : b ≠ d) (h2 : g ≠ some d) : OrQ w' b g l q := by
  obtain ⟨p, e, h3, h4⟩ := h
  exact ⟨p, e, h3.only k h1 h2, h4⟩
theorem OrQ.lt {w : World} {b : Nat} {g : Option Nat} {l : List Int} {q : Nat} (h : OrQ w b g l q) : b < w.heap.size := by
  obtain ⟨p, e, h1, h2⟩ := h
  exact h1.lt
theorem OrQ.onward {w : World} {b : Nat} {g : Option Nat} {l : List Int} {q q' : Nat} (h : OrQ w b g l q) (hq : l.length < q) (hq' : l.length < q') : OrQ w b g l q' := by
  obtain ⟨p, e, h1, h2⟩ := h
  rcases h2 with ⟨h4, h5, h6⟩ | ⟨h4, h6⟩
  · omega
  · exact ⟨p, e, h1, .inr ⟨hq', h6⟩⟩
def OGetQ (b : Nat) (g : Option Nat) (l : List Int) (q n : Nat) (w : World) (e : Ending) (w' : World) : Prop :=
  e = .returned (.int .u64 (gq l q n)) ∧ OrQ w' b g l (q + n) ∧ Only b w w'
theorem ogetq (b : Nat) (g : Option Nat) (l : List Int) (q n : Nat) (hs : szN (n : Int) = n) (w : World) (h : OrQ w b g l q) (hl : l.length ≤ 1000000) (hb : Byt l) :
    Calls Try.prog 60 #[.pointer (some ⟨b, 0, none⟩), .int .i64 n] w (OGetQ b g l q n w) := by
  obtain ⟨p, e, h1, h2⟩ := h
  have he : e = 0 ∨ e = 3 := by
    rcases h2 with h2 | h2
    · exact .inl h2.2.2
    · exact .inr h2.2
  refine (oget_any b g l p n e he w h1 hl hb).mono ?_
  rintro e' w' ⟨rfl, h3, h4⟩
  unfold gt at h3 ⊢
  rw [hs] at h3 ⊢
  rcases h2 with ⟨hq, rfl, rfl⟩ | ⟨hq, rfl⟩
  · unfold tk at h3 ⊢
    rw [if_pos rfl] at h3 ⊢
    unfold OGetQ gq
    by_cases hn : l.length - p < n
    · rw [if_pos hn] at h3 ⊢
      rw [if_neg (show ¬ p + n ≤ l.length by omega)]
      exact ⟨rfl, ⟨p, 3, h3, .inr ⟨by omega, rfl⟩⟩, h4⟩
    · rw [if_neg hn] at h3 ⊢
      rw [if_pos (show p + n ≤ l.length by omega)]
      exact ⟨rfl, ⟨p + n, 0, h3, .inl ⟨by omega, rfl, rfl⟩⟩, h4⟩
  · unfold tk at h3 ⊢
    rw [if_neg (by decide)] at h3 ⊢
    unfold OGetQ gq
    rw [if_neg (show ¬ q + n ≤ l.length by omega)]
    exact ⟨rfl, ⟨p, 3, h3, .inr ⟨by omega, rfl⟩⟩, h4⟩
/-- what is wrong -/
def errQ (l : List Int) (q : Nat) : Int := if q ≤ l.length then 0 else 3
theorem oerrq (b : Nat) (g : Option Nat) (l : List Int) (q : Nat) (w : World) (h : OrQ w b g l q) :
    Calls Try.prog 62 #[.pointer (some ⟨b, 0, none⟩)] w fun e w' => e = .returned (.int .i64 (errQ l q)) ∧ Below w.heap.size w w' := by
  obtain ⟨p, e, h1, h2⟩ := h
  have he : e = errQ l q := by
    unfold errQ
    rcases h2 with ⟨h3, _, h4⟩ | ⟨h3, h4⟩
    · rw [if_pos h3, h4]
    · rw [if_neg (by omega), h4]
  rw [← he]
  exact oerr_any b g l p e w h1
def OReadQ (w : World) (l : List Int) (e : Ending) (w' : World) : Prop := ∃ b g, e = .returned (.pointer (some ⟨b, 0, none⟩)) ∧ OrQ w' b g l 0 ∧ w.heap.size ≤ b ∧ (∀ k, g = some k → w.heap.size ≤ k ∧ k < w'.heap.size) ∧ Below w.heap.size w w'
theorem oreadq (v : Value) (l : List Int) (w : World) (h : Rd (intE .u8) w v l) (hl : l.length ≤ 1000000) :
    Calls Try.prog 59 #[v] w (OReadQ w l) :=
  (oread_any v l w h hl).mono fun e w' ⟨b, g, h1, h2, h3, h4, h5⟩ => ⟨b, g, h1, ⟨0, 0, h2, .inl ⟨Nat.zero_le _, rfl, rfl⟩⟩, h3, h4, h5⟩
end Go.Proofs.Ythhelhhlofdehaa
