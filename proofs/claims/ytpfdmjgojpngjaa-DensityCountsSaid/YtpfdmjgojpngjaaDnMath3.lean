/- What the laws of density say, of entries. -/
import Derived.Test.YtpfdmjgojpngjaaDnMath2
import Derived.Test.YtpfdmjgojpngjaaDnRef3
set_option maxRecDepth 4000
namespace Go.Proofs.Ytpfdmjgojpngjaa
open Cir
set_option linter.unusedVariables false
set_option linter.unusedSimpArgs false
/-- a span of whole buckets -/
theorem shr_whole (d n : Int) (j m : Int) (hd : d = 268435456 * j) (hj : 0 ≤ j ∧ j ≤ 15) (hn : n = 268435456 * m) (hm : 1 ≤ m ∧ m ≤ 15) : shr d n = if j = 0 ∨ 16 < j + m then 268435456 else 0 := by
  by_cases h : d + n ≤ 4294967296
  · rw [shr_low h]
    split <;> omega
  · rw [shr_up h]
    split <;> omega
theorem share_whole_bucket (k f m : Int) (bk : 0 ≤ k ∧ k ≤ 15) (bf : 0 ≤ f ∧ f ≤ 15) (bm : 1 ≤ m ∧ m ≤ 15) (s : Int × Int) (h1 : s.1 = (268435456 * f - 1) % 4294967296) (h2 : s.2 = (268435456 * (f + m) - 1) % 4294967296) :
    shareD k s = if (k - f) % 16 < m then 268435456 else 0 := by
  have e0 : (s.1, s.2) = s := rfl
  rw [← e0, share_shr k bk s.1 s.2 (by omega) (by omega) (by omega)]
  rw [shr_whole _ _ ((f - k) % 16) m (by omega) (by omega) (by omega) bm]
  split <;> split <;> omega
theorem has_whole_bucket (v f m : Int) (bv : 0 ≤ v ∧ v ≤ 4294967295) (bf : 0 ≤ f ∧ f ≤ 15) (bm : 1 ≤ m ∧ m ≤ 15) (s : Int × Int) (h1 : s.1 = (268435456 * f - 1) % 4294967296) (h2 : s.2 = (268435456 * (f + m) - 1) % 4294967296) :
    decide (beh s.1 v ≤ beh s.1 s.2) = decide ((v / 268435456 - f) % 16 < m) := by
  have e1 : beh s.1 v = (v - s.1 - 1) % 4294967296 + 1 := by unfold beh; rfl
  have e2 : beh s.1 s.2 = 268435456 * m := by unfold beh; omega
  have e3 : (v - s.1 - 1) % 4294967296 = 268435456 * ((v / 268435456 - f) % 16) + v % 268435456 := by omega
  rw [e1, e2, e3]
  exact decide_eq_decide.2 (by omega)
def liveN (l : List Ent) : Nat := (l.filter fun y => !y.2.2).length
def inN (s : Int × Int) (l : List Ent) : Nat := (l.filter fun y => !y.2.2 && decide (beh s.1 y.1 ≤ beh s.1 s.2)).length
theorem live_step {l : List Ent} {i : Nat} (h : i < l.length) : liveN (l.take (i + 1)) = liveN (l.take i) + if (l.getD i e0).2.2 then 0 else 1 := by
  unfold liveN
  rw [List.take_add_one, List.getElem?_eq_getElem h, List.filter_append, List.length_append, show l.getD i e0 = l[i] by simp [List.getD, h]]
  simp only [Option.toList_some, List.filter_cons, List.filter_nil]
  cases l[i].2.2 <;> rfl
theorem in_step {s : Int × Int} {l : List Ent} {i : Nat} (h : i < l.length) : inN s (l.take (i + 1)) = inN s (l.take i) + if !(l.getD i e0).2.2 && decide (beh s.1 (l.getD i e0).1 ≤ beh s.1 s.2) then 1 else 0 := by
  unfold inN
  rw [List.take_add_one, List.getElem?_eq_getElem h, List.filter_append, List.length_append, show l.getD i e0 = l[i] by simp [List.getD, h]]
  simp only [Option.toList_some, List.filter_cons, List.filter_nil]
  split <;> rfl
/-- as many are counted as are there; in whole buckets just those that lie there -/
theorem count_is {s : Int × Int} {f m : Int} (bf : 0 ≤ f ∧ f ≤ 15) (bm : 1 ≤ m ∧ m ≤ 15) (h1 : s.1 = (268435456 * f - 1) % 4294967296) (h2 : s.2 = (268435456 * (f + m) - 1) % 4294967296) :
    ∀ (l : List Ent) (D : List Int), okD D → (∀ y ∈ l, entB y) → (∀ k, D.getD k 0 + l.length ≤ 2147483647) → allD (l.foldl cntS D) = allD D + liveN l ∧ withD (l.foldl cntS D) s = withD D s + inN s l
  | [], D, _, _, _ => by simp [liveN, inN]
  | y :: l, D, hD, hb, hc => by
    have hy := (hb y List.mem_cons_self).1
    have H : ∀ k : Nat, k < 16 → shareD k s = 0 ∨ shareD k s = 268435456 := fun k hk => by
      rw [share_whole_bucket k f m (by omega) bf bm s h1 h2]
      split
      · exact .inr rfl
      · exact .inl rfl
    rw [List.foldl_cons]
    cases hg : y.2.2 with
    | true =>
      have e : cntS D y = D := by unfold cntS; rw [hg]; rfl
      rw [e]
      have ih := count_is bf bm h1 h2 l D hD (fun z hz => hb z (List.mem_cons_of_mem _ hz)) (fun k => by have := hc k; rw [List.length_cons] at this; omega)
      have e1 : liveN (y :: l) = liveN l := by unfold liveN; simp [hg]
      have e2 : inN s (y :: l) = inN s l := by unfold inN; simp [hg]
      rw [e1, e2]
      exact ih
    | false =>
      have e : cntS D y = addD D y.1 1 := by unfold cntS; rw [hg]; rfl
      rw [e]
      have hb0 := hc (y.1 / 268435456).toNat
      have hb1 := hD.at (y.1 / 268435456).toNat
      rw [List.length_cons] at hb0
      have ea : addD D y.1 1 = D.set (y.1 / 268435456).toNat (D.getD (y.1 / 268435456).toNat 0 + 1) := by
        unfold addD
        congr 1
        unfold heldV clampV
        omega
      have ih := count_is bf bm h1 h2 l (addD D y.1 1) (hD.add _ _) (fun z hz => hb z (List.mem_cons_of_mem _ hz)) (fun k => by
        have := hc k
        rw [List.length_cons] at this
        rw [ea, getD_set _ _ _ _ (by rw [hD.1]; exact bkt_lt hy)]
        split
        · omega
        · omega)
      have e1 : liveN (y :: l) = liveN l + 1 := by unfold liveN; simp [hg]
      have e2 : inN s (y :: l) = inN s l + if decide (beh s.1 y.1 ≤ beh s.1 s.2) then 1 else 0 := by
        unfold inN
        rw [List.filter_cons, hg]
        simp only [Bool.not_false, Bool.true_and]
        split <;> rfl
      have ha : allD (addD D y.1 1) = allD D + 1 := by
        rw [ea]
        unfold allD
        rw [sum_set _ _ _ (by rw [hD.1]; exact bkt_lt hy)]
        omega
      have hw : withD (addD D y.1 1) s = withD D s + if decide (beh s.1 y.1 ≤ beh s.1 s.2) then 1 else 0 := by
        rw [ea, with_set hD H _ (bkt_lt hy), has_whole_bucket y.1 f m hy bf bm s h1 h2]
        have hk : (((y.1 / 268435456).toNat : Nat) : Int) = y.1 / 268435456 := by omega
        rw [hk, share_whole_bucket (y.1 / 268435456) f m (by omega) bf bm s h1 h2]
        by_cases q : (y.1 / 268435456 - f) % 16 < m
        · rw [if_pos q]; simp [q]; omega
        · rw [if_neg q]; simp [q]
      rw [ih.1, ih.2, ha, hw, e1, e2]
      refine ⟨by omega, ?_⟩
      split <;> omega
theorem count_laws {s : Int × Int} {f m : Int} (bf : 0 ≤ f ∧ f ≤ 15) (bm : 1 ≤ m ∧ m ≤ 15) (h1 : s.1 = (268435456 * f - 1) % 4294967296) (h2 : s.2 = (268435456 * (f + m) - 1) % 4294967296) (l : List Ent) (hb : ∀ y ∈ l, entB y) (hl : l.length ≤ 1000000) :
    allD (countD l) = liveN l ∧ withD (countD l) s = inN s l := by
  have hz : ∀ k, zeroD.getD k 0 = 0 := fun k => by unfold zeroD; rw [List.getD_eq_getElem?_getD, List.getElem?_replicate]; split <;> rfl
  obtain ⟨e1, e2⟩ := count_is bf bm h1 h2 l zeroD okD_zero hb (fun k => by rw [hz]; omega)
  have z1 : allD zeroD = 0 := by decide
  have z2 : withD zeroD s = 0 := by
    have key : ∀ k, withT zeroD s k = 0 := by
      intro k
      induction k with
      | zero => rfl
      | succ k ih =>
        show withT zeroD s k + partD zeroD s k = 0
        rw [ih]
        unfold partD
        rw [hz, Int.zero_mul]
        rfl
    exact key 16
  unfold countD
  rw [e1, e2, z1, z2]
  omega
end Go.Proofs.Ytpfdmjgojpngjaa
