/- slices.SortFunc and slices.Compact at []uint32: the sort by any key that the function value tells; each once. -/
import Derived.Test.YtoifmijbkfohhaaRgOps
import Derived.Test.YtoifmijbkfohhaaCpctU
import Derived.Test.YtoifmijbkfohhaaRingC
set_option maxRecDepth 4000
namespace Go.Proofs.Ytoifmijbkfohhaa
open Go.RowKit Mem
open Go.Sort (grow Holds putRow PermIn SortedIn SWO)
open Go.Shelf
set_option linter.unusedSimpArgs false
set_option linter.unusedVariables false
attribute [local irreducible] Go.Calls

theorem ltK (k : Int → Int) (x y : Int) : ltOf (fun x y => Lib.compareInt (k x) (k y)) x y = decide (k x < k y) := by
  unfold ltOf
  by_cases h : k x < k y
  · rw [decide_eq_true h]; exact decide_eq_true ((cmpInt_lt _ _).2 h)
  · rw [decide_eq_false h]; exact decide_eq_false (fun e => h ((cmpInt_lt _ _).1 e))
theorem swoK (k : Int → Int) : SWO (ltOf (fun x y => Lib.compareInt (k x) (k y))) where
  irrefl x := by rw [ltK]; simp
  trans x y z h1 h2 := by rw [ltK] at *; simp only [decide_eq_true_eq, decide_eq_false_iff_not] at *; omega
  ntrans x y z h1 h2 := by rw [ltK] at *; simp only [decide_eq_true_eq, decide_eq_false_iff_not] at *; omega
theorem usort_any (fn : Nat) (cb : Array Value) (k : Int → Int) (g c : Nat) (L : List Int) (w : World) (eg : ∀ args w, (callFunc fn args).run Try.prog w = .ok (.enter fn args) w)
    (hH : Holds (Value.int .u32) w g 0 L.toArray) (hg : g < w.heap.size) (hn : L.length ≤ 1000000)
    (hcmp : ∀ z, Turned (fun j => j = g) w z → ∀ x y, Calls Try.prog fn (#[.int .u32 x, .int .u32 y] ++ cb) z fun e w' => e = .returned (.int .i64 (Lib.compareInt (k x) (k y))) ∧ Gr z w') :
    Calls Try.prog 25 #[.slice (some ⟨g, 0, none⟩) L.length c, .func (.func fn) #[] cb] w fun e w' => e = .returned (.tuple #[]) ∧
      ∃ l' : List Int, l'.Perm L ∧ l'.Pairwise (fun x y => k x ≤ k y) ∧ Holds (Value.int .u32) w' g 0 l'.toArray ∧ Only g w w' := by
  have hcmp' : CmpLays1 Try.prog fn cb (Value.int .u32) (fun x y => Lib.compareInt (k x) (k y)) g 0 L.toArray.size w := fun m os dk _ x y =>
    hcmp _ (Turned.of_only (S := fun j => j = g) (only_sortU w g m dk os) rfl) x y
  have := Any.slices_SortFunc laySortU (Value.int .u32) (fun _ => rfl) (fun x y => Lib.compareInt (k x) (k y)) (swoK k) fn cb g 0 c L.toArray w eg hcmp' hH hg (by simp; omega)
  have hsz : L.toArray.size = L.length := by simp
  rw [hsz] at this
  change Calls Try.prog 25 _ _ _ at this
  refine this.mono ?_
  rintro e w' ⟨rfl, d', n, os, hp, hs, rfl⟩
  obtain ⟨hp1, _, hp3⟩ := hp
  have hsz' : d'.size = L.length := by rw [hp1, hsz]
  have hperm : d'.toList.Perm L := by
    have e1 : d'.extract 0 L.length = d' := by rw [← hsz']; simp
    have e2 : L.toArray.extract 0 L.length = L.toArray := by rw [← hsz]; simp
    rw [e1, e2] at hp3
    simpa using hp3
  have hH' : Holds (Value.int .u32) (sortWorld (Value.int .u32) w g 0 n d' os) g 0 d'.toList.toArray := by
    unfold sortWorld
    refine Go.Sort.holds_grow (Value.int .u32) _ os g 0 _ ?_ ?_
    · simpa [Go.Sort.putRow, Go.Sort.mapBlock, Go.Sort.ahead] using hg
    · exact Go.Sort.holds_putRow (Value.int .u32) _ g 0 L.toArray d' (Go.Sort.holds_ahead (Value.int .u32) w n g 0 _ hH) hp1
  refine ⟨rfl, d'.toList, hperm, ?_, hH', only_sortU w g n d' os⟩
  rw [List.pairwise_iff_getElem]
  intro i j hi hj hij
  have hi' : i < d'.size := by simpa using hi
  have hj' : j < d'.size := by simpa using hj
  have hlt := hs i j (Nat.zero_le _) hij (by rw [← hsz']; exact hj')
  rw [getElem!_pos d' i hi', getElem!_pos d' j hj', ltK] at hlt
  have hlt : ¬ k d'[j] < k d'[i] := by simpa using hlt
  simp only [Array.getElem_toList] at *
  omega
theorem ucpt_any (g c : Nat) (L : List Int) (w : World) (hH : Holds (Value.int .u32) w g 0 L.toArray) (hc : L.length ≤ c) (hn : L.length ≤ 1000000) :
    Calls Try.prog 28 #[.slice (some ⟨g, 0, none⟩) L.length c] w fun e w' => e = .returned (.slice (some ⟨g, 0, none⟩) (Lib.compactUpTo L.toArray L.length).length c) ∧
      Holds (Value.int .u32) w' g 0 (Lib.compactUpTo L.toArray L.length).toArray ∧ Only g w w' := by
  have := AnyE.slices_Compact layCpctU (Value.int .u32) (fun _ => rfl) (EqlAt.intD _ _ _) (NeqAt.intD _ _ _) 0 Try.zeroValue23 g 0 c L.toArray w hH (by simp; omega) (by simpa using hc)
  have hsz : L.toArray.size = L.length := by simp
  rw [hsz] at this
  change Calls Try.prog 28 _ _ _ at this
  refine this.mono ?_
  rintro e w' ⟨rfl, q, rfl⟩
  have hlen : (Lib.compactUpTo L.toArray L.length).length ≤ L.length := by
    unfold Lib.compactUpTo
    rw [List.length_map]
    exact Nat.le_trans (List.length_filter_le _ _) (by simp)
  generalize Lib.compactUpTo L.toArray L.length = M at *
  refine ⟨by first | rfl | trivial, ?_, ?_⟩
  · refine holdsU_take (m := List.replicate (L.length - M.length) 0) ?_
    exact Go.Sort.holds_putRow (Value.int .u32) _ g 0 L.toArray _ (Go.Sort.holds_ahead _ w q g 0 _ hH) (by simp; omega)
  · have := only_sortU w g q (M ++ List.replicate (L.length - M.length) 0).toArray #[]
    unfold sortWorld at this
    rwa [Go.Sort.grow_empty] at this
theorem ucpt_none (a : Option Addr) (c : Nat) (w : World) : Calls Try.prog 28 #[.slice a 0 c] w fun e w' => e = .returned (.slice a 0 c) ∧ w' = w := by
  go_enter Try.func28, Try.ntmps28
  go_wp2_with fail
  go_ret
  exact ⟨rfl, rfl⟩
end Go.Proofs.Ytoifmijbkfohhaa
