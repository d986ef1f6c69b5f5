/- The ring and the document's ring, side by side. -/
import Derived.Test.YtgkfioloceemcaaRgRef3
set_option maxRecDepth 4000
namespace Go.Proofs.Ytgkfioloceemcaa
open Go.RowKit Mem
set_option linter.unusedSimpArgs false
set_option linter.unusedVariables false
attribute [local irreducible] Go.Calls

/-- the ring and the document's ring, side by side -/
def Pr (B : Nat) (z : World) (b1 b2 : Nat) (L M : List Int) : Prop := ∃ W R, RgAt z b1 W R L ∧ RrAt z b2 M ∧ ¬ R b2 ∧ (∀ v g, z.cell? ⟨b2, 0, none⟩ = some v → v.ownBlock = some g → ¬ W g) ∧ (∀ j, R j → B ≤ j) ∧ B ≤ b2
theorem Pr.one {B : Nat} {z : World} {b1 b2 : Nat} {L M : List Int} (h : Pr B z b1 b2 L M) : Rg B z b1 L := by
  obtain ⟨W, R, h1, h2, h3, h4, h5, h6⟩ := h
  exact ⟨W, R, h1, h5⟩
theorem Pr.two {B : Nat} {z : World} {b1 b2 : Nat} {L M : List Int} (h : Pr B z b1 b2 L M) : RrAt z b2 M := by
  obtain ⟨W, R, h1, h2, h3, h4, h5, h6⟩ := h
  exact h2
theorem back_cell {z z' : World} {b2 : Nat} {M : List Int} {S : Nat → Prop} (h : RrAt z b2 M) (t : Turned S z z') (hb : ¬ S b2) {v : Value} (hv : z'.cell? ⟨b2, 0, none⟩ = some v) : z.cell? ⟨b2, 0, none⟩ = some v := by
  obtain ⟨u, h1, _⟩ := h
  have := t.cell (h1.cell 0) hb
  rw [hv] at this
  rw [h1.cell 0]
  exact this.symm
theorem Pr.keep {B : Nat} {z z' : World} {b1 b2 : Nat} {L M : List Int} (h : Pr B z b1 b2 L M) (k : Below z.heap.size z z') : Pr B z' b1 b2 L M := by
  obtain ⟨W, R, h1, h2, h3, h4, h5, h6⟩ := h
  exact ⟨W, R, h1.keep k, h2.keep k, h3, fun v g hv hg => h4 v g (back_cell h2 (Turned.of_below (S := fun _ => False) k) (fun h => h) hv) hg, h5, h6⟩
theorem Pr.new {B : Nat} {z z' : World} {b1 b2 : Nat} {L M : List Int} (h : Rg B z b1 L) (k : Below z.heap.size z z') (h2 : RrAt z' b2 M) (hb : z.heap.size ≤ b2) (hg : ∀ v g, z'.cell? ⟨b2, 0, none⟩ = some v → v.ownBlock = some g → z.heap.size ≤ g) (hB : B ≤ z.heap.size) : Pr B z' b1 b2 L M := by
  obtain ⟨W, R, h1, h5⟩ := h
  exact ⟨W, R, h1.keep k, h2, fun hr => by have := h1.lt hr; omega, fun v g hv hg' hw => by have := hg v g hv hg'; have := h1.lt (h1.sub hw); omega, h5, by omega⟩
theorem Pr.gstep {B : Nat} {w w' : World} {b1 b2 : Nat} {L L' M : List Int} {W R : Nat → Prop} (h1 : RgAt w b1 W R L) (h2 : RrAt w b2 M) (h3 : ¬ R b2) (h4 : ∀ v g, w.cell? ⟨b2, 0, none⟩ = some v → v.ownBlock = some g → ¬ W g) (h5 : ∀ j, R j → B ≤ j) (h6 : B ≤ b2) (hB : B ≤ w.heap.size) (k : GStep W R w w' b1 L') : Pr B w' b1 b2 L' M ∧ Below B w w' := by
  obtain ⟨W', R', h', t, hw, hr⟩ := k
  have hb : ¬ W b2 := fun hb => h3 (h1.sub hb)
  refine ⟨⟨W', R', h', h2.turned t hb h4, fun hj => ?_, fun v g hv hg hj => ?_, fun j hj => ?_, h6⟩, t.below hB (fun j hj => h5 j (h1.sub hj))⟩
  · rcases hr b2 hj with q | q
    · exact h3 q
    · have := h2.lt; omega
  · have hv := back_cell h2 t hb hv
    rcases hw g hj with q | q
    · exact h4 v g hv hg q
    · have := h2.own hv hg; omega
  · rcases hr j hj with q | q
    · exact h5 j q
    · omega
theorem Pr.rstep {B : Nat} {w w' : World} {b1 b2 : Nat} {L M M' : List Int} (h : Pr B w b1 b2 L M) (hB : B ≤ w.heap.size) (k : RrStep w w' b2 M') : Pr B w' b1 b2 L M' ∧ Below B w w' := by
  obtain ⟨W, R, h1, h2, h3, h4, h5, h6⟩ := h
  obtain ⟨k1, t, k3⟩ := k
  refine ⟨⟨W, R, h1.turned t (fun j hj e => h3 (e ▸ hj)), k1, h3, fun v g hv hg hw => ?_, h5, h6⟩, t.below hB (fun j hj => by rw [hj]; exact h6)⟩
  rcases k3 with q | q
  · rw [q] at hv; exact h4 v g hv hg hw
  · have := q v g hv hg; have := h1.lt (h1.sub hw); omega
section
variable (B b1 b2 : Nat) (L M : List Int) (p : Int) (w : World) (h : Pr B w b1 b2 L M) (hB : B ≤ w.heap.size)
include h hB
theorem pr_gadd (bp : 0 ≤ p ∧ p ≤ 4294967295) : Calls Try.prog 8 #[.pointer (some ⟨b1, 0, none⟩), .int .u32 p] w fun e w' => e = .returned (.int .i64 (addR L p).2) ∧ Pr B w' b1 b2 (addR L p).1 M ∧ Below B w w' := by
  obtain ⟨W, R, h1, h2, h3, h4, h5, h6⟩ := h
  exact (rgadd_any b1 W R L p w h1 bp).mono fun e w' ⟨he, hs⟩ => ⟨he, Pr.gstep h1 h2 h3 h4 h5 h6 hB hs⟩
theorem pr_radd (bp : 0 ≤ p ∧ p ≤ 4294967295) : Calls Try.prog 9 #[.pointer (some ⟨b2, 0, none⟩), .int .u32 p] w fun e w' => e = .returned (.int .i64 (addR M p).2) ∧ Pr B w' b1 b2 L (addR M p).1 ∧ Below B w w' :=
  (rradd_any b2 M p w h.two bp).mono fun e w' ⟨he, hs⟩ => ⟨he, h.rstep hB hs⟩
end
end Go.Proofs.Ytgkfioloceemcaa
