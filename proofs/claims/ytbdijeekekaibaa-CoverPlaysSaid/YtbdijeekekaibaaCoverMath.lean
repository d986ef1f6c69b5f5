/- Lists of stretches, rising and apart: what a cover keeps. Plain arithmetic: no Go in sight. -/
import Derived.Test.YtbdijeekekaibaaRefMeet
namespace Go.Proofs.Ytbdijeekekaibaa.Cir
set_option linter.unusedVariables false
set_option linter.unusedSimpArgs false
/-- stretches from lo on, up to n: each has something, and between two of them something is left out -/
def Norm (n : Int) : Int → List (Int × Int) → Prop
  | _, [] => True
  | lo, x :: l => lo ≤ x.1 ∧ x.1 < x.2 ∧ x.2 ≤ n ∧ Norm n (x.2 + 1) l
def inL (l : List (Int × Int)) (v : Int) : Prop := ∃ x ∈ l, x.1 < v ∧ v ≤ x.2
theorem inL_nil (v : Int) : ¬ inL [] v := by rintro ⟨x, hx, _⟩; cases hx
theorem inL_cons (x : Int × Int) (l : List (Int × Int)) (v : Int) : inL (x :: l) v ↔ (x.1 < v ∧ v ≤ x.2) ∨ inL l v := by simp [inL]
theorem inL_append (l m : List (Int × Int)) (v : Int) : inL (l ++ m) v ↔ inL l v ∨ inL m v := by
  induction l with
  | nil => simp [inL_nil]
  | cons x l ih => rw [List.cons_append, inL_cons, inL_cons, ih, or_assoc]
theorem Norm.mono {n : Int} : ∀ {l : List (Int × Int)} {lo lo' : Int}, Norm n lo l → lo' ≤ lo → Norm n lo' l
  | [], _, _, _, _ => trivial
  | x :: l, lo, lo', h, hl => ⟨by have := h.1; omega, h.2⟩
theorem Norm.bd {n : Int} : ∀ {l : List (Int × Int)} {lo : Int}, Norm n lo l → ∀ v, inL l v → lo < v ∧ v ≤ n
  | [], _, _, v, hv => (inL_nil v hv).elim
  | x :: l, lo, h, v, hv => by
    obtain ⟨h1, h2, h3, h4⟩ := h
    rcases (inL_cons x l v).1 hv with hv | hv
    · omega
    · have := h4.bd v hv; omega
theorem Norm.all {n : Int} : ∀ {l : List (Int × Int)} {lo : Int}, Norm n lo l → ∀ x ∈ l, lo ≤ x.1 ∧ x.1 < x.2 ∧ x.2 ≤ n
  | [], _, _, x, hx => by cases hx
  | y :: l, lo, h, x, hx => by
    obtain ⟨h1, h2, h3, h4⟩ := h
    rcases List.mem_cons.1 hx with rfl | hx
    · exact ⟨h1, h2, h3⟩
    · have := h4.all x hx; omega
theorem Norm.tail {n lo : Int} {x : Int × Int} {l : List (Int × Int)} (h : Norm n lo (x :: l)) : Norm n (x.2 + 1) l := h.2.2.2
/-- what is told by its values is told -/
theorem norm_ext {n n' : Int} : ∀ {l m : List (Int × Int)} {lo lo' : Int}, Norm n lo l → Norm n' lo' m → (∀ v, inL l v ↔ inL m v) → l = m
  | [], [], _, _, _, _, _ => rfl
  | [], y :: m, _, _, _, hm, h => ((inL_nil y.2) ((h y.2).2 ((inL_cons y m _).2 (.inl ⟨hm.2.1, Int.le_refl _⟩)))).elim
  | x :: l, [], _, _, hl, _, h => ((inL_nil x.2) ((h x.2).1 ((inL_cons x l _).2 (.inl ⟨hl.2.1, Int.le_refl _⟩)))).elim
  | x :: l, y :: m, lo, lo', hl, hm, h => by
    obtain ⟨a1, a2, a3, a4⟩ := hl
    obtain ⟨b1, b2, b3, b4⟩ := hm
    have e1 : x.1 = y.1 := by
      have k1 := (h (x.1 + 1)).1 ((inL_cons x l _).2 (.inl (by omega)))
      have k2 := (h (y.1 + 1)).2 ((inL_cons y m _).2 (.inl (by omega)))
      rcases (inL_cons y m _).1 k1 with k1 | k1
      · rcases (inL_cons x l _).1 k2 with k2 | k2
        · omega
        · have := a4.bd _ k2; omega
      · have := b4.bd _ k1
        rcases (inL_cons x l _).1 k2 with k2 | k2
        · omega
        · have := a4.bd _ k2; omega
    have e2 : x.2 = y.2 := by
      rcases Int.lt_trichotomy x.2 y.2 with hlt | heq | hgt
      · have k := (h (x.2 + 1)).2 ((inL_cons y m _).2 (.inl (by omega)))
        rcases (inL_cons x l _).1 k with k | k
        · omega
        · have := a4.bd _ k; omega
      · exact heq
      · have k := (h (y.2 + 1)).1 ((inL_cons x l _).2 (.inl (by omega)))
        rcases (inL_cons y m _).1 k with k | k
        · omega
        · have := b4.bd _ k; omega
    have e : x = y := Prod.ext e1 e2
    subst e
    rw [norm_ext a4 b4 (fun v => ?_)]
    constructor
    · intro hv
      have := a4.bd _ hv
      rcases (inL_cons x m v).1 ((h v).1 ((inL_cons x l v).2 (.inr hv))) with k | k
      · omega
      · exact k
    · intro hv
      have := b4.bd _ hv
      rcases (inL_cons x l v).1 ((h v).2 ((inL_cons x m v).2 (.inr hv))) with k | k
      · omega
      · exact k

/-- how many values -/
def sumL (l : List (Int × Int)) : Int := (l.map fun x => x.2 - x.1).sum
theorem sumL_nil : sumL [] = 0 := rfl
theorem sumL_cons (x : Int × Int) (l : List (Int × Int)) : sumL (x :: l) = (x.2 - x.1) + sumL l := by simp [sumL]
theorem sumL_append (l m : List (Int × Int)) : sumL (l ++ m) = sumL l + sumL m := by simp [sumL]
theorem sumL_bd {n : Int} : ∀ {l : List (Int × Int)} {lo : Int}, Norm n lo l → lo ≤ n → 0 ≤ sumL l ∧ sumL l ≤ n - lo
  | [], lo, _, h => by rw [sumL_nil]; omega
  | x :: l, lo, h, hlo => by
    obtain ⟨h1, h2, h3, h4⟩ := h
    rw [sumL_cons]
    by_cases hx : x.2 + 1 ≤ n
    · have := sumL_bd h4 hx; omega
    · cases l with
      | nil => rw [sumL_nil]; omega
      | cons y l => have := h4.all y (List.mem_cons_self ..); omega
theorem sumL_take {l : List (Int × Int)} {k : Nat} (h : k < l.length) : sumL (l.take (k + 1)) = sumL (l.take k) + ((l.getD k (0, 0)).2 - (l.getD k (0, 0)).1) := by
  rw [List.take_succ_eq_append_getElem h, sumL_append]
  simp [sumL, h]
theorem Norm.take {n : Int} : ∀ {l : List (Int × Int)} {lo : Int} (k : Nat), Norm n lo l → Norm n lo (l.take k)
  | [], _, k, _ => by rw [List.take_nil]; trivial
  | x :: l, lo, 0, _ => trivial
  | x :: l, lo, k + 1, h => by rw [List.take_succ_cons]; exact ⟨h.1, h.2.1, h.2.2.1, h.2.2.2.take k⟩
theorem Norm.at {n lo : Int} {l : List (Int × Int)} (h : Norm n lo l) {k : Nat} (hk : k < l.length) : lo ≤ (l.getD k (0, 0)).1 ∧ (l.getD k (0, 0)).1 < (l.getD k (0, 0)).2 ∧ (l.getD k (0, 0)).2 ≤ n :=
  h.all _ (by simp [List.getD, hk])
theorem Norm.le {n : Int} : ∀ {l : List (Int × Int)} {lo : Int}, Norm n lo l → ∀ i j, i < j → j < l.length → (l.getD i (0, 0)).2 < (l.getD j (0, 0)).1
  | [], _, _, i, j, _, h => by simp at h
  | x :: l, lo, h, 0, j + 1, _, hj => by
    have := h.tail.at (k := j) (by simpa using hj)
    simpa using (by omega : x.2 < (l.getD j (0, 0)).1)
  | x :: l, lo, h, i + 1, j + 1, hij, hj => by simpa using h.tail.le i j (by omega) (by simpa using hj)
  | x :: l, lo, h, i, 0, hij, _ => by omega
theorem Norm.len {n : Int} : ∀ {l : List (Int × Int)} {lo : Int}, Norm n lo l → lo ≤ n → (l.length : Int) ≤ n - lo
  | [], _, _, h => by simp; omega
  | x :: l, lo, h, hlo => by
    obtain ⟨h1, h2, h3, h4⟩ := h
    rw [List.length_cons]
    by_cases hx : x.2 + 1 ≤ n
    · have := h4.len hx; omega
    · cases l with
      | nil => simp; omega
      | cons y l => have := h4.all y (List.mem_cons_self ..); omega

/-- what is left of a stretch that (x, y] cuts -/
def cutG (x y : Int) (g : Int × Int) : List (Int × Int) := (if g.1 < x then [(g.1, x)] else []) ++ (if y < g.2 then [(y, g.2)] else [])
def ovl (x y : Int) (g : Int × Int) : Int := (if g.2 < y then g.2 else y) - (if g.1 < x then x else g.1)
def fstI (x : Int) (l : List (Int × Int)) : Nat := (l.takeWhile fun g => decide (g.2 ≤ x)).length
def endI (y : Int) (l : List (Int × Int)) : Nat := (l.takeWhile fun g => decide (g.1 < y)).length
def midL (x y : Int) (l : List (Int × Int)) : List (Int × Int) := (l.take (endI y l)).drop (fstI x l)
def fillL (x y : Int) (l : List (Int × Int)) : List (Int × Int) := l.take (fstI x l) ++ ((midL x y l).flatMap (cutG x y) ++ l.drop (endI y l))
def cntL (x y : Int) (l : List (Int × Int)) : Int := ((midL x y l).map (ovl x y)).sum
theorem while_len (p : Int × Int → Bool) : ∀ (l : List (Int × Int)) (r : Nat), r ≤ l.length → (∀ k, k < r → p (l.getD k (0, 0)) = true) → (r < l.length → p (l.getD r (0, 0)) = false) → (l.takeWhile p).length = r
  | [], r, h, _, _ => by simp at h; simp [h]
  | x :: l, 0, _, _, h => by have := h (by simp); simp at this; simp [this]
  | x :: l, r + 1, hr, h1, h2 => by
    have h0 := h1 0 (by omega)
    simp at h0
    rw [List.takeWhile_cons, if_pos h0, List.length_cons, while_len p l r (by simpa using hr) (fun k hk => by have := h1 (k + 1) (by omega); simpa using this) (fun hl => by have := h2 (by simpa using hl); simpa using this)]
theorem fstI_le (x : Int) (l : List (Int × Int)) : fstI x l ≤ l.length := (List.takeWhile_sublist _).length_le
theorem endI_le (y : Int) (l : List (Int × Int)) : endI y l ≤ l.length := (List.takeWhile_sublist _).length_le

/-- the same, one by one -/
def pieceG (x y : Int) (g : Int × Int) : List (Int × Int) := if g.2 ≤ x ∨ y ≤ g.1 then [g] else cutG x y g
theorem fill_far {n : Int} {x y : Int} : ∀ {l : List (Int × Int)} {lo : Int}, Norm n lo l → y ≤ lo → l.flatMap (pieceG x y) = l ∧ endI y l = 0
  | [], _, _, _ => ⟨rfl, rfl⟩
  | g :: l, lo, h, hy => by
    have h0 := h.1
    have h1 := h.2.1
    obtain ⟨e, _⟩ := fill_far (x := x) h.tail (show y ≤ g.2 + 1 by omega)
    constructor
    · rw [List.flatMap_cons, e]; unfold pieceG; rw [if_pos (.inr (by omega))]; rfl
    · unfold endI; rw [List.takeWhile_cons, if_neg (by simp; omega)]; rfl
theorem fst_zero {n : Int} {x : Int} : ∀ {l : List (Int × Int)} {lo : Int}, Norm n lo l → x ≤ lo → fstI x l = 0
  | [], _, _, _ => rfl
  | g :: l, lo, h, hx => by
    have h0 := h.1
    have h1 := h.2.1
    unfold fstI; rw [List.takeWhile_cons, if_neg (by simp; omega)]; rfl
theorem mid_cut {n : Int} {x y : Int} : ∀ {l : List (Int × Int)} {lo : Int}, Norm n lo l → x ≤ lo → l.flatMap (pieceG x y) = (l.take (endI y l)).flatMap (cutG x y) ++ l.drop (endI y l)
  | [], _, _, _ => rfl
  | g :: l, lo, h, hx => by
    have h0 := h.1
    have h1 := h.2.1
    by_cases hy : y ≤ g.1
    · obtain ⟨e, e2⟩ := fill_far (x := x) (y := y) (l := g :: l) (lo := g.1) ⟨Int.le_refl _, h.2⟩ hy
      rw [e, e2]; rfl
    · have ee : endI y (g :: l) = endI y l + 1 := by unfold endI; rw [List.takeWhile_cons, if_pos (by simp; omega)]; rfl
      rw [List.flatMap_cons, mid_cut h.tail (by omega), ee, List.take_succ_cons, List.drop_succ_cons, List.flatMap_cons, List.append_assoc]
      congr 1
      unfold pieceG; rw [if_neg (by omega)]
theorem fill_eq {n : Int} {x y : Int} (hxy : x < y) : ∀ {l : List (Int × Int)} {lo : Int}, Norm n lo l → fillL x y l = l.flatMap (pieceG x y)
  | [], _, _ => rfl
  | g :: l, lo, h => by
    have h1 := h.2.1
    by_cases hg : g.2 ≤ x
    · have e1 : fstI x (g :: l) = fstI x l + 1 := by unfold fstI; rw [List.takeWhile_cons, if_pos (by simpa using hg)]; rfl
      have e2 : endI y (g :: l) = endI y l + 1 := by unfold endI; rw [List.takeWhile_cons, if_pos (by simp; omega)]; rfl
      have ih := fill_eq hxy h.tail
      unfold fillL midL at *
      rw [e1, e2, List.take_succ_cons, List.drop_succ_cons, List.flatMap_cons, List.cons_append, List.take_succ_cons, List.drop_succ_cons, ih]
      unfold pieceG; rw [if_pos (.inl hg)]; rfl
    · have e1 : fstI x (g :: l) = 0 := by unfold fstI; rw [List.takeWhile_cons, if_neg (by simpa using hg)]; rfl
      unfold fillL midL
      rw [e1, List.take_zero, List.drop_zero, List.nil_append]
      by_cases hy : y ≤ g.1
      · obtain ⟨e, e2⟩ := fill_far (x := x) (y := y) (l := g :: l) (lo := g.1) ⟨Int.le_refl _, h.2⟩ hy
        rw [e, e2]; rfl
      · have ee : endI y (g :: l) = endI y l + 1 := by unfold endI; rw [List.takeWhile_cons, if_pos (by simp; omega)]; rfl
        rw [ee, List.take_succ_cons, List.drop_succ_cons, List.flatMap_cons, List.flatMap_cons, mid_cut h.tail (by omega), List.append_assoc]
        congr 1
        unfold pieceG; rw [if_neg (by omega)]
theorem piece_norm {n lo x y : Int} (hxy : x < y) (g : Int × Int) (m : List (Int × Int)) (h1 : lo ≤ g.1) (h2 : g.1 < g.2) (h3 : g.2 ≤ n) (hm : Norm n (g.2 + 1) m) : Norm n lo (pieceG x y g ++ m) := by
  unfold pieceG cutG
  by_cases c : g.2 ≤ x ∨ y ≤ g.1
  · rw [if_pos c]; exact ⟨h1, h2, h3, hm⟩
  · rw [if_neg c]
    by_cases a : g.1 < x <;> by_cases b : y < g.2
    · rw [if_pos a, if_pos b]; exact ⟨h1, a, by show x ≤ n; omega, by show x + 1 ≤ y; omega, b, h3, hm⟩
    · rw [if_pos a, if_neg b]; exact ⟨h1, a, by show x ≤ n; omega, hm.mono (by show x + 1 ≤ _; omega)⟩
    · rw [if_neg a, if_pos b]; exact ⟨by show lo ≤ y; omega, b, h3, hm⟩
    · rw [if_neg a, if_neg b]; exact hm.mono (by omega)
theorem fill_norm' {n x y : Int} (hxy : x < y) : ∀ {l : List (Int × Int)} {lo : Int}, Norm n lo l → Norm n lo (l.flatMap (pieceG x y))
  | [], _, _ => trivial
  | g :: l, lo, h => by rw [List.flatMap_cons]; exact piece_norm hxy g _ h.1 h.2.1 h.2.2.1 (fill_norm' hxy h.tail)
theorem fill_norm {n lo x y : Int} (hxy : x < y) {l : List (Int × Int)} (h : Norm n lo l) : Norm n lo (fillL x y l) := by rw [fill_eq hxy h]; exact fill_norm' hxy h
theorem piece_in {x y : Int} (hxy : x < y) (g : Int × Int) (v : Int) : inL (pieceG x y g) v ↔ (g.1 < v ∧ v ≤ g.2) ∧ ¬ (x < v ∧ v ≤ y) := by
  unfold pieceG cutG
  by_cases c : g.2 ≤ x ∨ y ≤ g.1
  · rw [if_pos c, inL_cons]; simp only [inL_nil, or_false, false_or]; omega
  · rw [if_neg c, inL_append]
    by_cases a : g.1 < x <;> by_cases b : y < g.2
    · rw [if_pos a, if_pos b, inL_cons, inL_cons]; simp only [inL_nil, or_false, false_or]; omega
    · rw [if_pos a, if_neg b, inL_cons]; simp only [inL_nil, or_false, false_or]; omega
    · rw [if_neg a, if_pos b, inL_cons]; simp only [inL_nil, or_false, false_or]; omega
    · rw [if_neg a, if_neg b]; simp only [inL_nil, or_false, false_iff]; omega
theorem fill_in {n lo x y : Int} (hxy : x < y) {l : List (Int × Int)} (h : Norm n lo l) (v : Int) : inL (fillL x y l) v ↔ inL l v ∧ ¬ (x < v ∧ v ≤ y) := by
  rw [fill_eq hxy h]
  have : ∀ l : List (Int × Int), inL (l.flatMap (pieceG x y)) v ↔ inL l v ∧ ¬ (x < v ∧ v ≤ y) := by
    intro l
    induction l with
    | nil => simp [inL_nil]
    | cons g l ih =>
      rw [List.flatMap_cons, inL_append, inL_cons, ih, piece_in hxy]
      by_cases hv : x < v ∧ v ≤ y
      · simp [hv]
      · simp only [hv, not_false_eq_true, and_true]
  exact this l
theorem ovl_cut {x y : Int} (hxy : x < y) (g : Int × Int) (h : g.1 < g.2) (hx : x < g.2) (hy : g.1 < y) : ovl x y g = (g.2 - g.1) - sumL (cutG x y g) ∧ 0 ≤ ovl x y g ∧ ovl x y g ≤ g.2 - g.1 := by
  unfold ovl cutG
  rw [sumL_append]
  by_cases a : g.1 < x <;> by_cases b : y < g.2
  · rw [if_pos a, if_pos b, if_pos a, if_neg (by omega)]; simp only [sumL_cons, sumL_nil]; omega
  · rw [if_pos a, if_neg b, if_pos a]; simp only [sumL_cons, sumL_nil]; split <;> omega
  · rw [if_neg a, if_pos b, if_neg a, if_neg (by omega)]; simp only [sumL_cons, sumL_nil]; omega
  · rw [if_neg a, if_neg b, if_neg a]; simp only [sumL_nil]; split <;> omega
theorem while_all {p : Int × Int → Bool} : ∀ {l : List (Int × Int)} {g : Int × Int}, g ∈ l.take (l.takeWhile p).length → p g = true
  | [], g, h => by simp at h
  | x :: l, g, h => by
    by_cases hx : p x = true
    · rw [List.takeWhile_cons, if_pos hx, List.length_cons, List.take_succ_cons] at h
      rcases List.mem_cons.1 h with rfl | h
      · exact hx
      · exact while_all h
    · rw [List.takeWhile_cons, if_neg hx] at h; simp at h
theorem mid_mem {n : Int} {x y : Int} : ∀ {l : List (Int × Int)} {lo : Int}, Norm n lo l → ∀ g ∈ midL x y l, g ∈ l ∧ x < g.2 ∧ g.1 < y
  | [], _, _, g, hg => by simp [midL] at hg
  | a :: l, lo, h, g, hg => by
    have h1 := h.2.1
    have hin : g ∈ (a :: l).take (endI y (a :: l)) := List.mem_of_mem_drop hg
    have hy : g.1 < y := by have := while_all (p := fun g => decide (g.1 < y)) hin; simpa using this
    have hl : g ∈ a :: l := List.mem_of_mem_take hin
    refine ⟨hl, ?_, hy⟩
    by_cases ha : a.2 ≤ x
    · have e1 : fstI x (a :: l) = fstI x l + 1 := by unfold fstI; rw [List.takeWhile_cons, if_pos (by simpa using ha)]; rfl
      unfold midL at hg
      rw [e1] at hg
      by_cases hy0 : a.1 < y
      · have e2 : endI y (a :: l) = endI y l + 1 := by unfold endI; rw [List.takeWhile_cons, if_pos (by simpa using hy0)]; rfl
        rw [e2, List.take_succ_cons, List.drop_succ_cons] at hg
        exact (mid_mem h.tail g hg).2.1
      · have e2 : endI y (a :: l) = 0 := by unfold endI; rw [List.takeWhile_cons, if_neg (by simpa using hy0)]; rfl
        rw [e2] at hg; simp at hg
    · rcases List.mem_cons.1 hl with rfl | hl
      · omega
      · have := h.tail.all g hl; omega
theorem sum_fill {n lo x y : Int} (hxy : x < y) {l : List (Int × Int)} (h : Norm n lo l) : cntL x y l = sumL l - sumL (fillL x y l) := by
  have hm : ∀ m : List (Int × Int), (∀ g ∈ m, g.1 < g.2 ∧ x < g.2 ∧ g.1 < y) → (m.map (ovl x y)).sum = sumL m - sumL (m.flatMap (cutG x y)) := by
    intro m
    induction m with
    | nil => intro _; simp [sumL]
    | cons g m ih =>
      intro hg
      have h0 := hg g (List.mem_cons_self ..)
      rw [List.map_cons, List.sum_cons, ih (fun g' h' => hg g' (List.mem_cons_of_mem _ h')), List.flatMap_cons, sumL_cons, sumL_append, (ovl_cut hxy g h0.1 h0.2.1 h0.2.2).1]
      omega
  unfold cntL fillL
  rw [hm _ (fun g hg => ⟨(h.all g (mid_mem h g hg).1).2.1, (mid_mem h g hg).2⟩), sumL_append, sumL_append]
  have hle : fstI x l ≤ endI y l := by
    have : ∀ {l : List (Int × Int)} {lo : Int}, Norm n lo l → fstI x l ≤ endI y l := by
      intro l
      induction l with
      | nil => intro lo _; exact Nat.le_refl _
      | cons a l ih =>
        intro lo h
        have h1 := h.2.1
        by_cases ha : a.2 ≤ x
        · have e1 : fstI x (a :: l) = fstI x l + 1 := by unfold fstI; rw [List.takeWhile_cons, if_pos (by simpa using ha)]; rfl
          have e2 : endI y (a :: l) = endI y l + 1 := by unfold endI; rw [List.takeWhile_cons, if_pos (by simp; omega)]; rfl
          have := ih h.tail; omega
        · have e1 : fstI x (a :: l) = 0 := by unfold fstI; rw [List.takeWhile_cons, if_neg (by simpa using ha)]; rfl
          omega
    exact this h
  have e : l = l.take (fstI x l) ++ (midL x y l ++ l.drop (endI y l)) := by
    unfold midL
    have e1 : l.take (fstI x l) = (l.take (endI y l)).take (fstI x l) := by rw [List.take_take, Nat.min_eq_left hle]
    rw [e1, ← List.append_assoc, List.take_append_drop, List.take_append_drop]
  have e9 := congrArg sumL e
  rw [sumL_append, sumL_append] at e9
  omega
theorem fst_le_end {n lo x y : Int} (hxy : x < y) {l : List (Int × Int)} (h : Norm n lo l) : fstI x l ≤ endI y l := by
  have : ∀ {l : List (Int × Int)} {lo : Int}, Norm n lo l → fstI x l ≤ endI y l := by
    intro l
    induction l with
    | nil => intro lo _; exact Nat.le_refl _
    | cons a l ih =>
      intro lo h
      have h1 := h.2.1
      by_cases ha : a.2 ≤ x
      · have e1 : fstI x (a :: l) = fstI x l + 1 := by unfold fstI; rw [List.takeWhile_cons, if_pos (by simpa using ha)]; rfl
        have e2 : endI y (a :: l) = endI y l + 1 := by unfold endI; rw [List.takeWhile_cons, if_pos (by simp; omega)]; rfl
        have := ih h.tail; omega
      · have e1 : fstI x (a :: l) = 0 := by unfold fstI; rw [List.takeWhile_cons, if_neg (by simpa using ha)]; rfl
        omega
  exact this h
theorem fill_len {n lo x y : Int} (hxy : x < y) {l : List (Int × Int)} (h : Norm n lo l) : (fillL x y l).length ≤ l.length + 1 := by
  rw [fill_eq hxy h]
  have one : ∀ g : Int × Int, (pieceG x y g).length ≤ 2 := by
    intro g; unfold pieceG cutG; split
    · simp
    · rw [List.length_append]; split <;> split <;> simp
  have : ∀ {l : List (Int × Int)} {lo : Int}, Norm n lo l → (l.flatMap (pieceG x y)).length ≤ l.length + 1 ∧ (x ≤ lo → (l.flatMap (pieceG x y)).length ≤ l.length) := by
    intro l
    induction l with
    | nil => intro lo _; simp
    | cons g l ih =>
      intro lo h
      have h0 := h.1
      have h1 := h.2.1
      obtain ⟨i1, i2⟩ := ih h.tail
      rw [List.flatMap_cons, List.length_append, List.length_cons]
      by_cases c : g.2 ≤ x ∨ y ≤ g.1
      · have e : (pieceG x y g).length = 1 := by unfold pieceG; rw [if_pos c]; rfl
        constructor
        · omega
        · intro hx; have := i2 (by omega); omega
      · have i3 := i2 (by omega)
        have := one g
        constructor
        · omega
        · intro hx
          have e : (pieceG x y g).length ≤ 1 := by unfold pieceG cutG; rw [if_neg c, if_neg (by omega)]; split <;> simp
          omega
  exact (this h).1
theorem sum_take (l : List (Int × Int)) (h : Int × Int → Int) (k : Nat) (hk : k < l.length) : ((l.take (k + 1)).map h).sum = ((l.take k).map h).sum + h (l.getD k (0, 0)) := by
  rw [List.take_succ_eq_append_getElem hk, List.map_append, List.sum_append]
  simp [hk]
theorem flat_take {β : Type} (l : List (Int × Int)) (h : Int × Int → List β) (k : Nat) (hk : k < l.length) : (l.take (k + 1)).flatMap h = (l.take k).flatMap h ++ h (l.getD k (0, 0)) := by
  rw [List.take_succ_eq_append_getElem hk, List.flatMap_append]
  simp [hk]
theorem cut_len (x y : Int) (g : Int × Int) : (cutG x y g).length ≤ 2 := by unfold cutG; rw [List.length_append]; split <;> split <;> simp
theorem cuts_len (l : List (Int × Int)) (x y : Int) (k : Nat) : ((l.take k).flatMap (cutG x y)).length ≤ 2 * k := by
  have : ∀ m : List (Int × Int), (m.flatMap (cutG x y)).length ≤ 2 * m.length := by
    intro m
    induction m with
    | nil => simp
    | cons g m ih => have := cut_len x y g; rw [List.flatMap_cons, List.length_append, List.length_cons]; omega
  have h1 := this (l.take k)
  have h2 := List.length_take_le k l
  omega
theorem ovl_bd {n x y : Int} (hxy : x < y) {l : List (Int × Int)} (h : Norm n 0 l) (hn : 0 ≤ n ∧ n ≤ 4294967296) : ∀ k, 0 ≤ (((midL x y l).take k).map (ovl x y)).sum ∧ (((midL x y l).take k).map (ovl x y)).sum ≤ 4294967296 := by
  have sub : ∀ m : List (Int × Int), (∀ g ∈ m, g.1 < g.2 ∧ x < g.2 ∧ g.1 < y) → 0 ≤ (m.map (ovl x y)).sum ∧ (m.map (ovl x y)).sum ≤ sumL m := by
    intro m
    induction m with
    | nil => intro _; simp [sumL]
    | cons g m ih =>
      intro hg
      have h0 := hg g (List.mem_cons_self ..)
      have h1 := ih (fun g' h' => hg g' (List.mem_cons_of_mem _ h'))
      have h2 := ovl_cut hxy g h0.1 h0.2.1 h0.2.2
      rw [List.map_cons, List.sum_cons, sumL_cons]
      omega
  intro k
  have hm : ∀ g ∈ (midL x y l).take k, g.1 < g.2 ∧ x < g.2 ∧ g.1 < y := fun g hg => ⟨(h.all g (mid_mem h g (List.mem_of_mem_take hg)).1).2.1, (mid_mem h g (List.mem_of_mem_take hg)).2⟩
  have h1 := sub _ hm
  have nd : ∀ {l : List (Int × Int)} {lo : Int} (k : Nat), Norm n lo l → lo ≤ n → Norm n lo (l.drop k) := by
    intro l
    induction l with
    | nil => intro lo k _ _; simp; trivial
    | cons a l ih =>
      intro lo k hh hlo
      cases k with
      | zero => exact hh
      | succ k =>
        rw [List.drop_succ_cons]
        by_cases ha : a.2 + 1 ≤ n
        · exact (ih k hh.tail ha).mono (by have := hh.1; have := hh.2.1; omega)
        · cases l with
          | nil => simp; trivial
          | cons b l => have := hh.tail.all b (List.mem_cons_self ..); omega
  have h2 : Norm n 0 ((midL x y l).take k) := by
    unfold midL
    exact (nd _ (h.take _) hn.1).take k
  have := sumL_bd h2 hn.1
  omega
theorem fillL_def (x y : Int) (l : List (Int × Int)) : fillL x y l = l.take (fstI x l) ++ ((midL x y l).flatMap (cutG x y) ++ l.drop (endI y l)) := rfl
theorem cntL_def (x y : Int) (l : List (Int × Int)) : cntL x y l = ((midL x y l).map (ovl x y)).sum := rfl
attribute [irreducible] sumL fillL cntL ovl
end Go.Proofs.Ytbdijeekekaibaa.Cir
