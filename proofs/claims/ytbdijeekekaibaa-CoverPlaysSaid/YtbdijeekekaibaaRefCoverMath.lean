/- The document's own cover, as lists: parts that are sorted, joined, and what is in none of them. No Go in sight. -/
import Derived.Test.YtbdijeekekaibaaCoverMath2
namespace Go.Proofs.Ytbdijeekekaibaa.Cir
set_option linter.unusedVariables false
set_option linter.unusedSimpArgs false
/-! ### sorted in -/
def posN (out : List (Int × Int)) (x : Int × Int) : Nat → Nat
  | 0 => 0
  | k + 1 => if x.1 < (out.getD k (0, 0)).1 then posN out x k else k + 1
theorem posN_le (out : List (Int × Int)) (x : Int × Int) : ∀ k, posN out x k ≤ k
  | 0 => Nat.le_refl _
  | k + 1 => by
    unfold posN
    split
    · exact Nat.le_succ_of_le (posN_le out x k)
    · exact Nat.le_refl _
theorem posN_behind (out : List (Int × Int)) (x : Int × Int) : ∀ k j, posN out x k ≤ j → j < k → x.1 < (out.getD j (0, 0)).1
  | 0, j, _, h => absurd h (by omega)
  | k + 1, j, h1, h2 => by
    unfold posN at h1
    split at h1
    · rename_i hlt
      by_cases hj : j = k
      · subst hj; exact hlt
      · exact posN_behind out x k j h1 (by omega)
    · omega
theorem posN_ahead (out : List (Int × Int)) (x : Int × Int) : ∀ k, 0 < posN out x k → (out.getD (posN out x k - 1) (0, 0)).1 ≤ x.1
  | 0, h => absurd h (by simp [posN])
  | k + 1, h => by
    unfold posN at *
    split
    · rename_i hlt
      rw [if_pos hlt] at h
      exact posN_ahead out x k h
    · rename_i hlt
      simp only [Nat.add_sub_cancel]
      omega
def ins (out : List (Int × Int)) (x : Int × Int) : List (Int × Int) := out.take (posN out x out.length) ++ ([x] ++ out.drop (posN out x out.length))
def srt (l : List (Int × Int)) : List (Int × Int) := l.foldl ins []
theorem srt_nil : srt [] = [] := rfl
theorem srt_take (l : List (Int × Int)) (k : Nat) (h : k < l.length) : srt (l.take (k + 1)) = ins (srt (l.take k)) (l.getD k (0, 0)) := by
  unfold srt
  rw [List.take_succ_eq_append_getElem h, List.foldl_append]
  simp [h]
theorem ins_mem (out : List (Int × Int)) (x s : Int × Int) : s ∈ ins out x ↔ s ∈ out ∨ s = x := by
  unfold ins
  rw [List.mem_append, List.mem_append, List.mem_singleton]
  conv => rhs; rw [← List.take_append_drop (posN out x out.length) out, List.mem_append]
  constructor
  · rintro (h | h | h)
    · exact .inl (.inl h)
    · exact .inr h
    · exact .inl (.inr h)
  · rintro ((h | h) | h)
    · exact .inl h
    · exact .inr (.inr h)
    · exact .inr (.inl h)
theorem ins_len (out : List (Int × Int)) (x : Int × Int) : (ins out x).length = out.length + 1 := by
  have := posN_le out x out.length
  unfold ins
  rw [List.length_append, List.length_append, List.length_take, List.length_drop]
  simp only [List.length_cons, List.length_nil]
  omega
def Up (l : List (Int × Int)) : Prop := l.Pairwise fun a b => a.1 ≤ b.1
theorem Up.at {l : List (Int × Int)} (h : Up l) {i j : Nat} (hij : i < j) (hj : j < l.length) : (l.getD i (0, 0)).1 ≤ (l.getD j (0, 0)).1 := by
  have := List.pairwise_iff_getElem.1 h i j (by omega) hj hij
  simpa [List.getD, hj, (show i < l.length by omega)] using this
theorem ins_up {out : List (Int × Int)} (h : Up out) (x : Int × Int) : Up (ins out x) := by
  have hle := posN_le out x out.length
  have hb := posN_behind out x out.length
  have ha := posN_ahead out x out.length
  unfold ins Up
  generalize posN out x out.length = k at *
  have hd : ∀ s ∈ out.drop k, x.1 ≤ s.1 := by
    intro s hs
    obtain ⟨j, hj, rfl⟩ := List.getElem_of_mem hs
    rw [List.length_drop] at hj
    have := hb (k + j) (by omega) (by omega)
    rw [List.getElem_drop]
    simp only [List.getD, List.getElem?_eq_getElem (show k + j < out.length by omega), Option.getD_some] at this
    omega
  have ht : ∀ s ∈ out.take k, s.1 ≤ x.1 := by
    intro s hs
    obtain ⟨j, hj, rfl⟩ := List.getElem_of_mem hs
    rw [List.length_take] at hj
    have h1 := ha (by omega)
    rw [List.getElem_take]
    by_cases hjk : j = k - 1
    · subst hjk
      simp only [List.getD, List.getElem?_eq_getElem (show k - 1 < out.length by omega), Option.getD_some] at h1
      exact h1
    · have h2 := Up.at h (i := j) (j := k - 1) (by omega) (by omega)
      simp only [List.getD, List.getElem?_eq_getElem (show k - 1 < out.length by omega), List.getElem?_eq_getElem (show j < out.length by omega), Option.getD_some] at h1 h2
      omega
  have htd : ∀ s ∈ out.take k, ∀ r ∈ out.drop k, s.1 ≤ r.1 := by
    have hh : (out.take k ++ out.drop k).Pairwise fun a b => a.1 ≤ b.1 := by rw [List.take_append_drop]; exact h
    exact (List.pairwise_append.1 hh).2.2
  refine List.pairwise_append.2 ⟨h.sublist (List.take_sublist _ _), List.pairwise_append.2 ⟨List.pairwise_singleton _ _, h.sublist (List.drop_sublist _ _), fun a ha' b hb' => ?_⟩, fun a ha' b hb' => ?_⟩
  · rw [List.mem_singleton] at ha'; subst ha'; exact hd b hb'
  · rcases List.mem_append.1 hb' with hb' | hb'
    · rw [List.mem_singleton] at hb'; subst hb'; exact ht a ha'
    · exact htd a ha' b hb'
theorem srt_facts (l : List (Int × Int)) : Up (srt l) ∧ (∀ s, s ∈ srt l ↔ s ∈ l) ∧ (srt l).length = l.length := by
  have : ∀ (l out : List (Int × Int)), Up out → Up (l.foldl ins out) ∧ (∀ s, s ∈ l.foldl ins out ↔ s ∈ out ∨ s ∈ l) ∧ (l.foldl ins out).length = out.length + l.length := by
    intro l
    induction l with
    | nil => intro out h; exact ⟨h, fun s => by simp, by simp⟩
    | cons x l ih =>
      intro out h
      obtain ⟨h1, h2, h3⟩ := ih (ins out x) (ins_up h x)
      refine ⟨h1, fun s => ?_, ?_⟩
      · rw [List.foldl_cons, h2, ins_mem, List.mem_cons, or_assoc]
      · rw [List.foldl_cons, h3, ins_len, List.length_cons]; omega
  obtain ⟨h1, h2, h3⟩ := this l [] (by unfold Up; exact List.Pairwise.nil)
  exact ⟨h1, fun s => by rw [srt, h2]; simp, by rw [srt, h3]; simp⟩

/-! ### joined -/
def mx (a b : Int) : Int := if a < b then b else a
def mrgStep (out : List (Int × Int)) (x : Int × Int) : List (Int × Int) :=
  match out.reverse with
  | [] => [x]
  | y :: r => if x.1 ≤ y.2 then r.reverse ++ [(y.1, mx y.2 x.2)] else out ++ [x]
def mrg (l : List (Int × Int)) : List (Int × Int) := l.foldl mrgStep []
theorem mrg_none : mrg [] = [] := rfl
theorem mrg_take (l : List (Int × Int)) (k : Nat) (h : k < l.length) : mrg (l.take (k + 1)) = mrgStep (mrg (l.take k)) (l.getD k (0, 0)) := by
  unfold mrg
  rw [List.take_succ_eq_append_getElem h, List.foldl_append]
  simp [h]
theorem mrg_nil (x : Int × Int) : mrgStep [] x = [x] := rfl
theorem mrg_snoc (os : List (Int × Int)) (y x : Int × Int) : mrgStep (os ++ [y]) x = if x.1 ≤ y.2 then os ++ [(y.1, mx y.2 x.2)] else os ++ [y] ++ [x] := by
  unfold mrgStep
  simp
theorem norm_join {n lo : Int} {l : List (Int × Int)} {y : Int × Int} (h : Norm n lo l) (hz : ∀ z ∈ l, z.2 < y.1) (h1 : lo ≤ y.1) (h2 : y.1 < y.2) (h3 : y.2 ≤ n) : Norm n lo (l ++ [y]) :=
  norm_two h (mid := y.1) ⟨Int.le_refl _, h2, h3, trivial⟩ hz h1
theorem norm_split {n : Int} : ∀ {l : List (Int × Int)} {lo : Int} {y : Int × Int}, Norm n lo (l ++ [y]) → Norm n lo l ∧ (∀ z ∈ l, z.2 < y.1) ∧ lo ≤ y.1 ∧ y.1 < y.2 ∧ y.2 ≤ n
  | [], lo, y, h => ⟨trivial, fun z hz => (by cases hz), h.1, h.2.1, h.2.2.1⟩
  | x :: l, lo, y, h => by
    obtain ⟨a1, a2, a3, a4⟩ := h
    obtain ⟨b1, b2, b3, b4, b5⟩ := norm_split (l := l) a4
    refine ⟨⟨a1, a2, a3, b1⟩, fun z hz => ?_, by omega, b4, b5⟩
    rcases List.mem_cons.1 hz with rfl | hz
    · omega
    · exact b2 z hz
theorem mrg_step {n : Int} {out : List (Int × Int)} {x : Int × Int} (h : Norm n 0 out) (h0 : 0 ≤ x.1) (h1 : x.1 < x.2) (h2 : x.2 ≤ n) (hup : ∀ z ∈ out, z.1 ≤ x.1) :
    Norm n 0 (mrgStep out x) ∧ (∀ v, inL (mrgStep out x) v ↔ inL out v ∨ (x.1 < v ∧ v ≤ x.2)) ∧ (∀ b, x.1 ≤ b → ∀ z ∈ mrgStep out x, z.1 ≤ b) ∧ (mrgStep out x).length ≤ out.length + 1 := by
  rcases List.eq_nil_or_concat out with rfl | ⟨os, y, rfl⟩
  · rw [mrg_nil]
    refine ⟨⟨h0, h1, h2, trivial⟩, fun v => ?_, fun b hb z hz => ?_, by simp⟩
    · rw [inL_cons]; simp only [inL_nil, or_false, false_or]
    · rw [List.mem_singleton] at hz; subst hz; exact hb
  · rw [List.concat_eq_append] at *
    obtain ⟨b1, b2, b3, b4, b5⟩ := norm_split h
    have hy := hup y (by simp)
    rw [mrg_snoc]
    by_cases hj : x.1 ≤ y.2
    · rw [if_pos hj]
      have hm : mx y.2 x.2 = if y.2 < x.2 then x.2 else y.2 := rfl
      have hm1 : y.2 ≤ mx y.2 x.2 ∧ x.2 ≤ mx y.2 x.2 ∧ mx y.2 x.2 ≤ n := by rw [hm]; split <;> omega
      refine ⟨norm_join b1 b2 b3 (by show y.1 < mx y.2 x.2; omega) hm1.2.2, fun v => ?_, fun b hb z hz => ?_, by simp⟩
      · rw [inL_append, inL_append, inL_cons, inL_cons]
        simp only [inL_nil, or_false, or_assoc]
        have : (y.1 < v ∧ v ≤ mx y.2 x.2) ↔ (y.1 < v ∧ v ≤ y.2) ∨ (x.1 < v ∧ v ≤ x.2) := by rw [hm]; split <;> omega
        rw [this]
      · rcases List.mem_append.1 hz with hz | hz
        · exact Int.le_trans (hup z (List.mem_append_left _ hz)) hb
        · rw [List.mem_singleton] at hz; subst hz; exact Int.le_trans hy hb
    · rw [if_neg hj]
      refine ⟨norm_join h (fun z hz => ?_) h0 h1 h2, fun v => ?_, fun b hb z hz => ?_, by simp⟩
      · rcases List.mem_append.1 hz with hz | hz
        · have := b2 z hz; omega
        · rw [List.mem_singleton] at hz; subst hz; omega
      · rw [inL_append, inL_cons]; simp only [inL_nil, or_false]
      · rcases List.mem_append.1 hz with hz | hz
        · exact Int.le_trans (hup z hz) hb
        · rw [List.mem_singleton] at hz; subst hz; exact hb
theorem mrg_facts {n : Int} {l : List (Int × Int)} (hu : Up l) (hb : ∀ x ∈ l, 0 ≤ x.1 ∧ x.1 < x.2 ∧ x.2 ≤ n) : ∀ k, k ≤ l.length → Norm n 0 (mrg (l.take k)) ∧ (∀ v, inL (mrg (l.take k)) v ↔ inL (l.take k) v) ∧ (∀ j, k ≤ j → j < l.length → ∀ z ∈ mrg (l.take k), z.1 ≤ (l.getD j (0, 0)).1) ∧ (mrg (l.take k)).length ≤ k
  | 0, _ => ⟨trivial, fun v => by simp [mrg], fun j _ _ z hz => (by cases hz), Nat.le_refl _⟩
  | k + 1, hk => by
    obtain ⟨h1, h2, h3, h4⟩ := mrg_facts hu hb k (by omega)
    have hx := hb (l.getD k (0, 0)) (by simp [List.getD, (show k < l.length by omega)])
    obtain ⟨s1, s2, s3, s4⟩ := mrg_step h1 hx.1 hx.2.1 hx.2.2 (h3 k (Nat.le_refl _) (by omega))
    rw [mrg_take l k (by omega)]
    refine ⟨s1, fun v => ?_, fun j hj hjl z hz => ?_, by omega⟩
    · rw [s2, h2, List.take_succ_eq_append_getElem (by omega), inL_append, inL_cons]
      simp only [inL_nil, or_false]
      have : l.getD k (0, 0) = l[k] := by simp [List.getD, (show k < l.length by omega)]
      rw [this]
    · exact s3 _ (Up.at hu (by omega) hjl) z hz

/-! ### what is in none -/
def offL (n : Int) : Int → List (Int × Int) → List (Int × Int)
  | at_, [] => if at_ < n then [(at_, n)] else []
  | at_, x :: P => (if at_ < x.1 then [(at_, x.1)] else []) ++ offL n x.2 P
theorem oth_off {n : Int} {P : List (Int × Int)} (h : Norm n 0 P) : othP n P = offL n 0 P := by
  have : ∀ (P : List (Int × Int)) (lo : Int) (s : List (Int × Int) × Int), Norm n lo P → s.2 ≤ lo → (if (P.foldl stepO s).2 < n then (P.foldl stepO s).1 ++ [((P.foldl stepO s).2, n)] else (P.foldl stepO s).1) = s.1 ++ offL n s.2 P := by
    intro P
    induction P with
    | nil =>
      intro lo s _ _
      rw [List.foldl_nil]
      unfold offL
      by_cases h : s.2 < n
      · rw [if_pos h, if_pos h]
      · rw [if_neg h, if_neg h, List.append_nil]
    | cons x P ih =>
      intro lo s hn hs
      have hx := hn.1
      have hx2 := hn.2.1
      rw [List.foldl_cons, ih (x.2 + 1) (stepO s x) hn.tail (by unfold stepO maxP; simp only []; split <;> omega)]
      have e : (stepO s x).2 = x.2 := by unfold stepO maxP; simp only []; split <;> omega
      rw [e]
      unfold stepO
      simp only [offL]
      split <;> simp
  have h1 := this P 0 ([], 0) h (Int.le_refl _)
  rw [List.nil_append] at h1
  unfold othP runO
  exact h1
theorem off_facts {n : Int} : ∀ (P : List (Int × Int)) (lo at_ : Int), Norm n lo P → at_ ≤ lo → at_ ≤ n → Norm n at_ (offL n at_ P) ∧ (∀ v, inL (offL n at_ P) v ↔ (at_ < v ∧ v ≤ n) ∧ ¬ inL P v) ∧ sumL (offL n at_ P) = n - at_ - sumL P ∧ (offL n at_ P).length ≤ P.length + 1
  | [], lo, at_, _, h1, h2 => by
    unfold offL
    by_cases h : at_ < n
    · rw [if_pos h]
      refine ⟨⟨Int.le_refl _, h, Int.le_refl _, trivial⟩, fun v => ?_, by rw [sumL_cons, sumL_nil]; simp, by simp⟩
      rw [inL_cons]; simp only [inL_nil, or_false, not_false_eq_true, and_true]
    · rw [if_neg h]
      refine ⟨trivial, fun v => ?_, by rw [sumL_nil]; omega, by simp⟩
      simp only [inL_nil, not_false_eq_true, and_true, false_iff]; omega
  | x :: P, lo, at_, hn, h1, h2 => by
    obtain ⟨a1, a2, a3, a4⟩ := hn
    obtain ⟨b1, b2, b3, b4⟩ := off_facts P (x.2 + 1) x.2 a4 (by omega) a3
    unfold offL
    by_cases h : at_ < x.1
    · rw [if_pos h]
      refine ⟨⟨Int.le_refl _, h, (by show x.1 ≤ n; omega), ?_⟩, fun v => ?_, ?_, ?_⟩
      · exact b1.mono (by show x.1 + 1 ≤ x.2; omega)
      · rw [List.cons_append, List.nil_append, inL_cons, b2, inL_cons]
        by_cases hp : inL P v
        · have hb9 := a4.bd v hp
          refine ⟨fun h9 => ?_, fun h9 => absurd (Or.inr hp) h9.2⟩
          rcases h9 with h9 | h9
          · exfalso; simp only [] at h9; omega
          · exact absurd hp h9.2
        · simp only [hp, not_false_eq_true, and_true, or_false]
          constructor
          · rintro (h9 | h9)
            · exact ⟨⟨h9.1, by omega⟩, by omega⟩
            · exact ⟨⟨by omega, h9.2⟩, by omega⟩
          · rintro ⟨h9, h8⟩
            by_cases hv : v ≤ x.1
            · exact .inl ⟨h9.1, hv⟩
            · exact .inr ⟨by omega, h9.2⟩
      · rw [List.cons_append, List.nil_append, sumL_cons, b3, sumL_cons]; simp only []; omega
      · rw [List.cons_append, List.nil_append, List.length_cons, List.length_cons]; omega
    · rw [if_neg h, List.nil_append]
      refine ⟨b1.mono (by omega), fun v => ?_, ?_, ?_⟩
      · rw [b2, inL_cons]
        by_cases hp : inL P v
        · simp only [hp, not_true_eq_false, and_false, or_true]
        · simp only [hp, not_false_eq_true, and_true, or_false]; omega
      · rw [b3, sumL_cons]; omega
      · rw [List.length_cons]; omega
theorem oth_facts {n : Int} (hn : 0 ≤ n) {P : List (Int × Int)} (h : Norm n 0 P) : Norm n 0 (othP n P) ∧ (∀ v, inL (othP n P) v ↔ (0 < v ∧ v ≤ n) ∧ ¬ inL P v) ∧ sumL (othP n P) = n - sumL P ∧ (othP n P).length ≤ P.length + 1 := by
  rw [oth_off h]
  obtain ⟨h1, h2, h3, h4⟩ := off_facts P 0 0 h (Int.le_refl _) hn
  exact ⟨h1, h2, by rw [h3]; omega, h4⟩
/-- the document's Add, as lists -/
def radd (f t g u : Int) (P : List (Int × Int)) : List (Int × Int) := mrg (srt (P ++ prts f t g u))
theorem radd_facts {f t g u : Int} (hg : 0 ≤ g ∧ g ≤ 4294967295) (hu : 0 ≤ u ∧ u ≤ 4294967295) {P : List (Int × Int)} (h : Norm (beh f t) 0 P) :
    Norm (beh f t) 0 (radd f t g u P) ∧ othP (beh f t) (radd f t g u P) = addL (prts f t g u) (othP (beh f t) P) ∧ (radd f t g u P).length ≤ P.length + 2 := by
  have bd := beh_bd f t
  obtain ⟨s1, s2, s3⟩ := srt_facts (P ++ prts f t g u)
  have hpn := prts_norm f t g u hg hu
  have hb : ∀ x ∈ srt (P ++ prts f t g u), 0 ≤ x.1 ∧ x.1 < x.2 ∧ x.2 ≤ beh f t := by
    intro x hx
    rcases List.mem_append.1 ((s2 x).1 hx) with hx | hx
    · exact h.all x hx
    · exact hpn.all x hx
  obtain ⟨m1, m2, _, m4⟩ := mrg_facts s1 hb _ (Nat.le_refl _)
  rw [List.take_length] at m1 m2 m4
  have hlt : ∀ p ∈ prts f t g u, p.1 < p.2 := fun p hp => (hpn.all p hp).2.1
  have hin : ∀ v, inL (radd f t g u P) v ↔ inL P v ∨ inL (prts f t g u) v := by
    intro v
    rw [radd, m2, ← inL_append]
    constructor
    · rintro ⟨x, hx, hv⟩; exact ⟨x, (s2 x).1 hx, hv⟩
    · rintro ⟨x, hx, hv⟩; exact ⟨x, (s2 x).2 hx, hv⟩
  obtain ⟨o1, o2, _, _⟩ := oth_facts (by omega) h
  obtain ⟨r1, r2, _, _⟩ := oth_facts (n := beh f t) (by omega) (P := radd f t g u P) m1
  refine ⟨m1, norm_ext r1 (addL_norm _ hlt o1) (fun v => ?_), ?_⟩
  · rw [r2, addL_in v _ hlt o1, o2, hin]
    constructor
    · rintro ⟨h1, h2⟩; exact ⟨⟨h1, fun h => h2 (.inl h)⟩, fun h => h2 (.inr h)⟩
    · rintro ⟨⟨h1, h2⟩, h3⟩; exact ⟨h1, fun h => h.elim h2 h3⟩
  · have := (prts_bd f t g u hg hu).1
    rw [s3, List.length_append] at m4
    unfold radd
    omega
attribute [irreducible] srt mrg radd
end Go.Proofs.Ytbdijeekekaibaa.Cir
