/- slices.Sort at []uint32, of up to twelve numbers: what it leaves. -/
import Derived.Test.YtoifmijbkfohhaaMem
import Derived.Test.YtoifmijbkfohhaaNums
import Derived.Test.YtoifmijbkfohhaaRun
import Derived.Test.YtoifmijbkfohhaaBytes
import Derived.Test.YtoifmijbkfohhaaSort32Plans
import Derived.Deep.DeepCutAuto
import Derived.Deep.CutBlock
import Derived.Deep.Light
set_option maxRecDepth 4000
namespace Go.Proofs.Ytoifmijbkfohhaa.Mem
open Go.RowKit
set_option linter.unusedSimpArgs false
set_option linter.unusedVariables false
/-! ### a row of numbers: a store into it -/
theorem RowI.flat (k : IntKind) (l : List Int) : (intE k).flat l = l.map (fun x => .int k x) := by
  induction l with
  | nil => rfl
  | cons x l ih => rw [Enc.flat_cons, ih]; rfl
theorem RowI.put {k : IntKind} {T : TypeId} {B : Nat} {w : World} {g n c : Nat} {l : List Int} (h : Row (intE k) T B w (.slice (some ⟨g, 0, none⟩) n c) l) (hn : n = l.length) (i : Nat) (x : Int) :
    Row (intE k) T B (w.setCell ⟨g, i, none⟩ (.int k x)) (.slice (some ⟨g, 0, none⟩) n c) (l.set i x) := by
  subst hn
  have h1 : w.ownsRow B T 1 (.slice (some ⟨g, 0, none⟩) l.length c) l.length ((intE k).flat l) := h
  have h2 := (World.ownsRow.stored h1 i (.int k x)).1
  have e : ((intE k).flat l).set i (.int k x) = (intE k).flat (l.set i x) := by rw [RowI.flat, RowI.flat, List.map_set]
  unfold Row
  rw [List.length_set, ← e]
  exact h2
theorem RowI.frozen {k : IntKind} {T : TypeId} {B : Nat} {w : World} {g n c : Nat} {l : List Int} (h : Row (intE k) T B w (.slice (some ⟨g, 0, none⟩) n c) l) (hn : n = l.length) (j : Nat) : w.frozen? ⟨g, j, none⟩ = false := by
  subst hn
  exact World.ownsRow.frozenAt h j
theorem RowI.head {k : IntKind} {T : TypeId} {B : Nat} {w : World} {v : Value} {l : List Int} (h : Row (intE k) T B w v l) (hl : 0 < l.length) : ∃ g c, v = .slice (some ⟨g, 0, none⟩) l.length c ∧ l.length ≤ c ∧ c ≤ maxLen ∧ B ≤ g ∧ g < w.heap.size := by
  rcases h.2 with ⟨hv, hn⟩ | ⟨g, cap, cur, hv, hg, hc, h1, h2, h3, h4⟩
  · omega
  · refine ⟨g, cap, hv, h1, h2, ?_⟩
    exact h.block g (by rw [hv]; rfl)
theorem RowI.cell {k : IntKind} {T : TypeId} {B : Nat} {w : World} {g n c : Nat} {l : List Int} (h : Row (intE k) T B w (.slice (some ⟨g, 0, none⟩) n c) l) {i : Nat} (hi : i < l.length) : w.cell? ⟨g, i, none⟩ = some (.int k (l.getD i 0)) := by
  obtain ⟨a, g', o, c', hv, _, _, ha, hc⟩ := Mem.Rd.loopI h.rd
  obtain ⟨e1, _⟩ := ha (by omega)
  injection hv with h1 h2 h3
  rw [← h1] at e1
  injection e1 with e1
  injection e1 with e2 e3
  have := hc i hi
  rw [← e2, ← e3, Nat.zero_add] at this
  exact this
end Go.Proofs.Ytoifmijbkfohhaa.Mem
namespace Go.Proofs.Ytoifmijbkfohhaa
open Go.RowKit Mem
set_option linter.unusedSimpArgs false
set_option linter.unusedVariables false
attribute [local irreducible] Go.Calls

/-! ### a list in which one number is carried to its place -/
theorem getD_set (M : List Int) (a p : Nat) (x : Int) (ha : a < M.length) : (M.set a x).getD p 0 = if p = a then x else M.getD p 0 := by
  rw [List.getD_eq_getElem?_getD, List.getElem?_set, List.getD_eq_getElem?_getD]
  by_cases h : a = p
  · subst h
    simp [ha]
  · rw [if_neg h, if_neg (fun e => h e.symm)]
/-- the first i are in order -/
def Srt (i : Nat) (M : List Int) : Prop := ∀ p q, p < q → q < i → M.getD p 0 ≤ M.getD q 0
/-- the first i + 1 are, but for the one at j, which is not greater than those behind it -/
def InsAt (i j : Nat) (M : List Int) : Prop := (∀ p q, p < q → q ≤ i → p ≠ j → q ≠ j → M.getD p 0 ≤ M.getD q 0) ∧ ∀ q, j < q → q ≤ i → M.getD j 0 ≤ M.getD q 0
theorem InsAt.start {i : Nat} {M : List Int} (h : Srt i M) : InsAt i i M := ⟨fun p q h1 h2 h3 h4 => h p q h1 (by omega), fun q h1 h2 => by omega⟩
theorem InsAt.stop {i j : Nat} {M : List Int} (h : InsAt i j M) (hs : j = 0 ∨ M.getD (j - 1) 0 ≤ M.getD j 0) : Srt (i + 1) M := by
  intro p q h1 h2
  by_cases hp : p = j
  · subst hp
    exact h.2 q h1 (by omega)
  by_cases hq : q = j
  · subst hq
    rcases hs with hs | hs
    · omega
    · by_cases e : p = q - 1
      · subst e; exact hs
      · exact Int.le_trans (h.1 p (q - 1) (by omega) (by omega) hp (by omega)) hs
  exact h.1 p q h1 (by omega) hp hq
theorem InsAt.step {i k : Nat} {M : List Int} (h : InsAt i (k + 1) M) (hk : k + 1 ≤ i) (hi : i < M.length) (hlt : M.getD (k + 1) 0 < M.getD k 0) : InsAt i k ((M.set (k + 1) (M.getD k 0)).set k (M.getD (k + 1) 0)) := by
  have e : ∀ p, ((M.set (k + 1) (M.getD k 0)).set k (M.getD (k + 1) 0)).getD p 0 = if p = k then M.getD (k + 1) 0 else if p = k + 1 then M.getD k 0 else M.getD p 0 := fun p => by
    rw [getD_set _ _ _ _ (by rw [List.length_set]; omega), getD_set _ _ _ _ (by omega)]
  refine ⟨fun p q h1 h2 h3 h4 => ?_, fun q h1 h2 => ?_⟩
  · rw [e, e, if_neg h3, if_neg h4]
    by_cases hp : p = k + 1
    · rw [if_pos hp, if_neg (by omega)]
      exact h.1 k q (by omega) h2 (by omega) (by omega)
    · rw [if_neg hp]
      by_cases hq : q = k + 1
      · rw [if_pos hq]
        exact h.1 p k (by omega) (by omega) hp (by omega)
      · rw [if_neg hq]
        exact h.1 p q h1 h2 hp hq
  · rw [e, e, if_pos rfl, if_neg (by omega)]
    by_cases hq : q = k + 1
    · rw [if_pos hq]; omega
    · rw [if_neg hq]
      exact h.2 q (by omega) h2
theorem swap_perm (M : List Int) (p k : Nat) (hp : p < M.length) (hk : k < M.length) : ((M.set p (M.getD k 0)).set k (M.getD p 0)).Perm M := by
  rw [show M.getD k 0 = M[k] by simp [List.getD, hk], show M.getD p 0 = M[p] by simp [List.getD, hp]]
  exact List.set_set_perm hp hk
theorem Srt.pairwise {M : List Int} (h : Srt M.length M) : M.Pairwise (· ≤ ·) := by
  rw [List.pairwise_iff_getElem]
  intro i j hi hj hij
  have := h i j hij hj
  rwa [show M.getD i 0 = M[i] by simp [List.getD, hi], show M.getD j 0 = M[j] by simp [List.getD, hj]] at this
/-! ### the walks -/
theorem len64_any (n : Nat) (hn : n ≤ 12) (w : World) : Calls Try.prog 56 #[.int .u64 n] w fun e w' => (∃ m : Int, e = .returned (.int .i64 m)) ∧ w' = w := by
  have h : n = 0 ∨ n = 1 ∨ n = 2 ∨ n = 3 ∨ n = 4 ∨ n = 5 ∨ n = 6 ∨ n = 7 ∨ n = 8 ∨ n = 9 ∨ n = 10 ∨ n = 11 ∨ n = 12 := by omega
  rcases h with rfl | rfl | rfl | rfl | rfl | rfl | rfl | rfl | rfl | rfl | rfl | rfl | rfl
  all_goals
    go_enter Try.func56, Try.ntmps56
    go_wp2_with fail
    go_ret
    exact ⟨⟨_, rfl⟩, rfl⟩
theorem bitslen_any (n : Nat) (hn : n ≤ 12) (w : World) : Calls Try.prog 39 #[.int .u64 n] w fun e w' => (∃ m : Int, e = .returned (.int .i64 m)) ∧ w' = w := by
  have HL := Lib.hid (len64_any n hn w)
  clear hn
  go_enter Try.func39, Try.ntmps39
  go_wp2_with (go_at_call 56; refine HL.out.mono ?_; rintro e w' ⟨⟨m, rfl⟩, rfl⟩)
  go_ret
  exact ⟨⟨_, rfl⟩, rfl⟩
end Go.Proofs.Ytoifmijbkfohhaa
