/- The mathematics of walks by chance. -/
import Derived.Test.YtgkfioloceemcaaRgMath
import Derived.Test.YtgkfioloceemcaaDiceRef
set_option maxRecDepth 4000
namespace Go.Proofs.Ytgkfioloceemcaa
set_option linter.unusedSimpArgs false
set_option linter.unusedVariables false

/-- whom one may go on to -/
def someL (L : List Int) (K : Int → List Int) (a : Int) : List Int := (nextR L a).1 :: (K a).filter fun x => L.contains x
/-- where one goes on to, and how the dice stand then -/
def hopS (L : List Int) (K : Int → List Int) (q : Int × Int) : Int × Int := ((someL L K q.1).getD (droll q.2 (someL L K q.1).length).toNat 0, dafter q.2 (someL L K q.1).length)
def hops (L : List Int) (K : Int → List Int) (a s : Int) : Nat → Int × Int
  | 0 => (a, s)
  | k + 1 => hopS L K (hops L K a s k)
def walkL (L : List Int) (K : Int → List Int) (a s : Int) (n : Nat) : List Int := (List.range (n + 1)).map fun i => (hops L K a s i).1
def stepsN (steps : Int) : Nat := (min steps 1000).toNat
def walkR (L : List Int) (K : Int → List Int) (a steps s : Int) : List Int := if L.contains a then walkL L K a s (stepsN steps) else []
def walkE (L : List Int) (K : Int → List Int) (a steps s : Int) : Int := if L.contains a then (hops L K a s (stepsN steps)).2 else s
theorem walkL_len (L : List Int) (K : Int → List Int) (a s : Int) (n : Nat) : (walkL L K a s n).length = n + 1 := by simp [walkL]
theorem walkL_zero (L : List Int) (K : Int → List Int) (a s : Int) : walkL L K a s 0 = [a] := rfl
theorem walkL_step (L : List Int) (K : Int → List Int) (a s : Int) (n : Nat) : walkL L K a s (n + 1) = walkL L K a s n ++ [(hops L K a s (n + 1)).1] := by simp [walkL, List.range_succ]
theorem walkL_at (L : List Int) (K : Int → List Int) (a s : Int) {n i : Nat} (hi : i ≤ n) : (walkL L K a s n).getD i 0 = (hops L K a s i).1 := by
  have : i < (walkL L K a s n).length := by rw [walkL_len]; omega
  rw [show (walkL L K a s n).getD i 0 = (walkL L K a s n)[i] by simp [List.getD, this]]
  simp [walkL]
theorem someL_pos (L : List Int) (K : Int → List Int) (a : Int) : 0 < (someL L K a).length := by simp [someL]
/-- whom one may go on to are points -/
theorem someL_mem {L : List Int} (hL : L ≠ []) (K : Int → List Int) (a : Int) {x : Int} (hx : x ∈ someL L K a) : x ∈ L ∧ (x = (nextR L a).1 ∨ x ∈ K a) := by
  unfold someL at hx
  rcases List.mem_cons.1 hx with e | e
  · exact ⟨by rw [e]; exact (own_head _ hL).2, .inl e⟩
  · have := List.mem_filter.1 e
    exact ⟨by simpa using this.2, .inr this.1⟩
theorem droll_in (s : Int) {n : Nat} (hn : 0 < n) : 0 ≤ droll s n ∧ droll s n < n ∧ (droll s n).toNat < n := by
  unfold droll
  rw [if_neg (by omega)]
  have h1 := Int.emod_nonneg (dmix (dnext s)) (show (n : Int) ≠ 0 by omega)
  have h2 := Int.emod_lt_of_pos (dmix (dnext s)) (show (0 : Int) < n by omega)
  omega
theorem hop_fst (L : List Int) (K : Int → List Int) (q : Int × Int) : (hopS L K q).1 = (someL L K q.1).getD (droll q.2 (someL L K q.1).length).toNat 0 := by unfold hopS; rfl
theorem hop_snd (L : List Int) (K : Int → List Int) (q : Int × Int) : (hopS L K q).2 = dafter q.2 (someL L K q.1).length := by unfold hopS; rfl
theorem hops_succ (L : List Int) (K : Int → List Int) (a s : Int) (i : Nat) : hops L K a s (i + 1) = hopS L K (hops L K a s i) := by rw [hops]
theorem some_at {L : List Int} (hL : L ≠ []) (K : Int → List Int) (a : Int) (k : Nat) (h : k < (someL L K a).length) : (someL L K a).getD k 0 ∈ L ∧ ((someL L K a).getD k 0 = (nextR L a).1 ∨ (someL L K a).getD k 0 ∈ K a) := by
  rw [show (someL L K a).getD k 0 = (someL L K a)[k] by simp [List.getD, h]]
  exact someL_mem hL K a (List.getElem_mem h)
theorem hop_mem {L : List Int} (hL : L ≠ []) (K : Int → List Int) (q : Int × Int) : (hopS L K q).1 ∈ L ∧ ((hopS L K q).1 = (nextR L q.1).1 ∨ (hopS L K q).1 ∈ K q.1) := by
  rw [hop_fst]
  exact some_at hL K q.1 _ (droll_in q.2 (someL_pos L K q.1)).2.2
theorem hops_mem {L : List Int} {K : Int → List Int} {a s : Int} (ha : a ∈ L) (i : Nat) : (hops L K a s i).1 ∈ L := by
  induction i with
  | zero => exact ha
  | succ i ih => rw [hops_succ]; exact (hop_mem (fun e => by rw [e] at ha; cases ha) K _).1
theorem hops_bd {L : List Int} {K : Int → List Int} {a s : Int} (bs : 0 ≤ s ∧ s ≤ 18446744073709551615) (i : Nat) : 0 ≤ (hops L K a s i).2 ∧ (hops L K a s i).2 ≤ 18446744073709551615 := by
  induction i with
  | zero => exact bs
  | succ i ih => rw [hops_succ, hop_snd]; exact dafter_bd _ _ ih
/-- whom one may go on to, of the first so many links -/
def pickL (L : List Int) (nx : Int) (KA : List Int) (k : Nat) : List Int := nx :: (KA.take k).filter fun x => L.contains x
theorem pickL_zero (L : List Int) (nx : Int) (KA : List Int) : pickL L nx KA 0 = [nx] := rfl
theorem pickL_step (L : List Int) (nx : Int) (KA : List Int) {k : Nat} (hk : k < KA.length) : pickL L nx KA (k + 1) = pickL L nx KA k ++ (if L.contains (KA.getD k 0) then [KA.getD k 0] else []) := by
  unfold pickL
  rw [List.take_add_one, List.getElem?_eq_getElem hk, Option.toList_some, List.filter_append, show KA.getD k 0 = KA[k] by simp [List.getD, hk], List.cons_append]
  congr 2
  by_cases h : L.contains KA[k] = true
  · rw [if_pos h, List.filter_cons_of_pos h, List.filter_nil]
  · rw [if_neg h, List.filter_cons_of_neg h, List.filter_nil]
theorem pickL_len (L : List Int) (nx : Int) (KA : List Int) (k : Nat) : (pickL L nx KA k).length ≤ k + 1 := by
  unfold pickL
  have h1 := List.length_filter_le (fun x => L.contains x) (KA.take k)
  have h2 : (KA.take k).length ≤ k := by rw [List.length_take]; omega
  simp only [List.length_cons]
  omega
theorem pickL_all (L : List Int) (K : Int → List Int) (a : Int) : pickL L (nextR L a).1 (K a) (K a).length = someL L K a := by unfold pickL someL; rw [List.take_length]
end Go.Proofs.Ytgkfioloceemcaa
