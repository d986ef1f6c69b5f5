/- Walks of package shelf: Cut. -/
import Derived.Test.YtihfkjodjaoocaaShScan2
import Derived.Test.YtihfkjodjaoocaaShJoin3
import Derived.Test.YtihfkjodjaoocaaShoPlans
set_option maxRecDepth 4000
namespace Go.Proofs.Ytihfkjodjaoocaa
open Go.RowKit Mem
set_option linter.unusedSimpArgs false
set_option linter.unusedVariables false
attribute [local irreducible] Go.Calls

/-- is an entry left, when the first j of M were taken? -/
def cutJ (M : List Ent) (j : Nat) (y : Ent) : Bool := !((M.take j).any fun z => keyP z == keyP y)
theorem cutJ_zero (M L : List Ent) : L.filter (cutJ M 0) = L := by
  rw [List.filter_eq_self]
  intro y _
  simp [cutJ]
theorem cutJ_succ {M : List Ent} {j : Nat} {y : Ent} (hy : M[j]? = some y) (L : List Ent) (z : Ent) : z ∈ L.filter (cutJ M (j + 1)) ↔ (z ∈ L.filter (cutJ M j) ∧ keyP z ≠ keyP y) := by
  have e : M.take (j + 1) = M.take j ++ [y] := by rw [List.take_add_one, hy]; rfl
  rw [List.mem_filter, List.mem_filter]
  unfold cutJ
  rw [e, List.any_append]
  simp only [List.any_cons, List.any_nil, Bool.or_false, Bool.not_or, Bool.and_eq_true, Bool.not_eq_true', beq_eq_false_iff_ne, ne_eq]
  constructor
  · rintro ⟨h1, h2, h3⟩
    exact ⟨⟨h1, h2⟩, fun e => h3 e.symm⟩
  · rintro ⟨⟨h1, h2⟩, h3⟩
    exact ⟨h1, h2, fun e => h3 e.symm⟩
theorem cutJ_all {L : List Ent} (hu : UniqK L) (f t : Int) : L.filter (cutJ (scanL f t L) (scanL f t L).length) = restL f t L := by
  unfold restL
  refine List.filter_congr (fun y hy => ?_)
  unfold cutJ
  rw [List.take_length]
  have hm : ∀ z, z ∈ scanL f t L ↔ z ∈ L ∧ hasV f t z.1 = true := fun z => by rw [(scanL_perm f t L).mem_iff, List.mem_filter]
  cases hv : hasV f t y.1
  · rw [Bool.not_false, Bool.not_eq_true']
    rw [List.any_eq_false]
    intro z hz e
    have e : keyP z = keyP y := by simpa using e
    have := (hm z).1 hz
    rw [hu.inj this.1 hy e, hv] at this
    cases this.2
  · rw [Bool.not_true, Bool.not_eq_false']
    rw [List.any_eq_true]
    exact ⟨y, (hm y).2 ⟨hy, hv⟩, by simp⟩
theorem OutR.step {N w0 : Nat} {w w' : World} {b c : Nat} {R : Nat → Prop} {n : Int} {L M : List Ent} {cs : List Value} {B : Nat → List EV} {fl : List Value} {v : Value} (h : OutR N w v M) (hc : ChIs w0 w b c R n L cs B fl) (hN : w0 ≤ N) (t : Turned (fun j => j = b ∨ j = c) w w') : OutR N w' v M := by
  have hb := hc.hb
  obtain ⟨hs, h1, h2, h3⟩ := h
  refine ⟨hs, h1, h2.turned t (fun g hg e => ?_), fun i x y hx hy => ?_⟩
  · rcases e with e | e
    · have := (h2.block g hg).1; omega
    · exact h2.ne_blk hc.cb (by decide) (by rw [hg, e])
  · obtain ⟨u, hu, hr⟩ := h3 i x y hx hy
    refine ⟨u, hu, hr.turned t (fun g hg e => ?_)⟩
    rcases e with e | e
    · have := (hr.block g hg).1; omega
    · exact hr.ne_blk hc.cb (by decide) (by rw [hg, e])
theorem OutR.map {N g : Nat} {w w' : World} {M : List Ent} {v : Value} {K : List EV} (h : OutR N w v M) (hm : MapAt Try.prog 66 evc w g K) (o : Only g w w') : OutR N w' v M := by
  obtain ⟨hs, h1, h2, h3⟩ := h
  refine ⟨hs, h1, h2.only o (Row.ne_map h2 hm), fun i x y hx hy => ?_⟩
  obtain ⟨u, hu, hr⟩ := h3 i x y hx hy
  exact ⟨u, hu, hr.only o (Row.ne_map hr hm)⟩
end Go.Proofs.Ytihfkjodjaoocaa
