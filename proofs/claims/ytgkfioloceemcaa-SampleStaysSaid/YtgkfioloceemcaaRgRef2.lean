/- The document's answers for package ring: Drop, Heirs. -/
import Derived.Test.YtgkfioloceemcaaRgRef
import Derived.Test.YtgkfioloceemcaaRingHeirs
set_option maxRecDepth 4000
namespace Go.Proofs.Ytgkfioloceemcaa
open Go.RowKit Mem
set_option linter.unusedSimpArgs false
set_option linter.unusedVariables false
attribute [local irreducible] Go.Calls

/-- what a step of the document's ring leaves: block b alone turned -/
def RrStep (w w' : World) (b : Nat) (L : List Int) : Prop := RrAt w' b L ∧ Turned (fun j => j = b) w w' ∧ (w'.cell? ⟨b, 0, none⟩ = w.cell? ⟨b, 0, none⟩ ∨ ∀ v g, w'.cell? ⟨b, 0, none⟩ = some v → v.ownBlock = some g → w.heap.size ≤ g)
theorem RrStep.same {w w' : World} {b : Nat} {L : List Int} (h : RrAt w b L) (k : Below w.heap.size w w') : RrStep w w' b L := by
  refine ⟨h.keep k, Turned.of_below k, .inl ?_⟩
  obtain ⟨v, h1, _⟩ := h
  rw [(h1.keep k).cell 0, h1.cell 0]
theorem RrStep.put {w z : World} {b B : Nat} {L : List Int} {v vv : Value} (hb : b < w.heap.size) (k : Below w.heap.size w z) (hbk : Blk z b 30 #[vv]) (hr : Row (intE .u32) 24 B z v L) (hB : w.heap.size ≤ B) (ho : okR L) : RrStep w (z.setCell ⟨b, 0, none⟩ v) b L := by
  have hon : Only b z (z.setCell ⟨b, 0, none⟩ v) := Only.set _ _ _
  have hg : ∀ q, v.ownBlock = some q → b < q ∧ w.heap.size ≤ q ∧ q < z.heap.size := fun q hq => by have := hr.block q hq; omega
  have h1 : Blk (z.setCell ⟨b, 0, none⟩ v) b 30 #[v] := hbk.set_ 0 v
  refine ⟨⟨v, h1, hr.rd.turned (Turned.of_only (S := fun j => j = b) hon rfl) (fun q hq e => by have := hg q hq; omega), fun q hq => ⟨fun e => by have := hg q hq; omega, Nat.lt_of_lt_of_le (hg q hq).2.2 hon.size⟩, ho⟩,
    (Turned.of_below k).trans (S' := fun j => j = b) (Turned.of_only hon rfl) (fun _ _ h => h), .inr fun u g hu hgu => ?_⟩
  rw [h1.cell 0] at hu
  injection hu with hu
  subst hu
  exact (hg g hgu).2.1
theorem take_filter {L : List Int} {q : Int → Bool} {k : Nat} (hk : k < L.length) : (L.take (k + 1)).filter q = (L.take k).filter q ++ (if q (L.getD k 0) then [L.getD k 0] else []) := by
  rw [List.take_add_one, List.getElem?_eq_getElem hk, Option.toList_some, List.filter_append, show L.getD k 0 = L[k] by simp [List.getD, hk]]
  congr 1
  simp [List.filter]
  split <;> simp_all
theorem drop_len {L : List Int} {p : Int} : (L.filter (fun x => !(x == p))).length = L.length ↔ L.contains p = false := by
  rw [List.length_filter_eq_length_iff, Bool.eq_false_iff]
  constructor
  · intro h hc
    have := h p (by simpa using hc)
    simp at this
  · intro h x hx
    simp
    intro e
    subst e
    exact h (by simpa using hx)
open ringHeirs in
theorem oth_last {L : List Int} (h : okR L) {p : Int} (bp : 0 ≤ p ∧ p ≤ 4294967295) (hp : p ∈ L) : nextR L (atR (othR L p) p (othR L p).length) = (p, true) := by
  have hne : L ≠ [] := fun e => by rw [e] at hp; simp at hp
  have key : ∀ q : Int, 0 ≤ q ∧ q ≤ 4294967295 → (∀ y ∈ L, (p - (q + 1) % 4294967296) % 4294967296 ≤ (y - (q + 1) % 4294967296) % 4294967296) → nextR L q = (p, true) := by
    intro q bq hall
    have h1 := own_is h (v := (q + 1) % 4294967296) (by omega) hp hall
    have h2 := (own_head ((q + 1) % 4294967296) hne).1
    unfold nextR
    rw [← h1, ← h2]
  unfold atR
  by_cases h0 : (othR L p).length = 0
  · rw [if_pos h0]
    refine key p bp fun y hy => ?_
    have : y = p := by
      by_cases e : y = p
      · exact e
      · have := oth_mem.2 ⟨hy, e⟩
        rw [List.eq_nil_of_length_eq_zero h0] at this
        simp at this
    rw [this]
    exact Int.le_refl _
  · rw [if_neg h0]
    have hm : (othR L p).length - 1 < (othR L p).length := by omega
    have hq := oth_mem.1 (List.getElem_mem hm)
    have bq := h.2.1 _ hq.1
    rw [show (othR L p).getD ((othR L p).length - 1) 0 = (othR L p)[(othR L p).length - 1] by simp [List.getD, hm]]
    refine key _ bq fun y hy => ?_
    by_cases e : y = p
    · rw [e]; exact Int.le_refl _
    · obtain ⟨j, hj, hje⟩ := List.getElem_of_mem (oth_mem.2 ⟨hy, e⟩)
      have by' := h.2.1 _ hy
      have hle : (y - p - 1) % 4294967296 ≤ ((othR L p)[(othR L p).length - 1] - p - 1) % 4294967296 := by
        rcases Nat.lt_or_ge j ((othR L p).length - 1) with h1 | h1
        · have := oth_lt h bp hm h1
          rw [hje] at this
          omega
        · have : j = (othR L p).length - 1 := by omega
          subst this
          rw [hje]
          exact Int.le_refl _
      have hqp := hq.2
      generalize (othR L p)[(othR L p).length - 1] = q at *
      omega
end Go.Proofs.Ytgkfioloceemcaa
