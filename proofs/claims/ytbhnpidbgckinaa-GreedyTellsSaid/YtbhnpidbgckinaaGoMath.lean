/- Where to go on, and ways, as functions of the rising list of points. -/
import Derived.Test.YtbhnpidbgckinaaLkMath
set_option maxRecDepth 4000
namespace Go.Proofs.Ytbhnpidbgckinaa
set_option linter.unusedSimpArgs false
set_option linter.unusedVariables false
/-- a link more is looked at -/
def goStep (L : List Int) (a v : Int) (best q : Int) : Int := if L.contains q = true ∧ stp a best < stp a q ∧ stp a q < stp a v then q else best
/-- the best behind so many links -/
def goB (L l : List Int) (a v : Int) : Int := l.foldl (goStep L a v) (nextR L a).1
def goR (L l : List Int) (a v : Int) : Int × Bool := if L.contains a = false ∨ (ownR L v).1 = a then (0, false) else if (ownR L v).1 = (nextR L a).1 then ((nextR L a).1, true) else (goB L l a v, true)
theorem goB_step (L : List Int) {l : List Int} (a v : Int) {k : Nat} (hk : k < l.length) : goB L (l.take (k + 1)) a v = goStep L a v (goB L (l.take k) a v) (l.getD k 0) := by
  unfold goB
  rw [List.take_add_one, List.getElem?_eq_getElem hk, Option.toList_some, List.foldl_append, show l.getD k 0 = l[k] by simp [List.getD, hk]]
  rfl
theorem stp_self (a : Int) : stp a a = 0 := by unfold stp; omega
theorem stp_bd (a x : Int) : 0 ≤ stp a x ∧ stp a x < 4294967296 := by unfold stp; omega
theorem stp_inj {a x y : Int} (hx : 0 ≤ x ∧ x ≤ 4294967295) (hy : 0 ≤ y ∧ y ≤ 4294967295) (h : stp a x = stp a y) : x = y := by unfold stp at h; omega
/-- the next one is the first behind -/
theorem next_min {L : List Int} (h : okR L) {a : Int} (ba : 0 ≤ a ∧ a ≤ 4294967295) {y : Int} (hy : y ∈ L) (hne : y ≠ a) : (nextR L a).1 ∈ L ∧ stp a (nextR L a).1 ≤ stp a y ∧ ((nextR L a).1 ≠ a) := by
  have hL : L ≠ [] := fun e => by rw [e] at hy; cases hy
  have hm : (nextR L a).1 ∈ L := (own_head _ hL).2
  have h1 : ((nextR L a).1 - (a + 1) % 4294967296) % 4294967296 ≤ (y - (a + 1) % 4294967296) % 4294967296 := own_min h (v := (a + 1) % 4294967296) (by omega) hy
  have b1 := h.2.1 _ hm
  have b2 := h.2.1 _ hy
  generalize (nextR L a).1 = x at *
  unfold stp
  refine ⟨hm, by omega, by omega⟩
theorem own_behind {L : List Int} (h : okR L) {a v : Int} (bv : 0 ≤ v ∧ v ≤ 4294967295) (ha : a ∈ L) (hne : (ownR L v).1 ≠ a) : (ownR L v).1 ∈ L ∧ stp a v ≤ stp a (ownR L v).1 ∧ 0 < stp a v := by
  have hL : L ≠ [] := fun e => by rw [e] at ha; cases ha
  have hm := (own_head v hL).2
  have h1 := own_min h bv ha
  have b1 := h.2.1 _ hm
  have b2 := h.2.1 _ ha
  refine ⟨hm, ?_⟩
  have h2 : v ≠ a := fun e => by
    subst e
    exact hne (far_inj (v := v) b1 b2 (by omega))
  generalize (ownR L v).1 = x at *
  unfold stp
  omega
/-- who is no owner, and is next, lies ahead of it -/
theorem next_ahead {L : List Int} (h : okR L) {a v : Int} (bv : 0 ≤ v ∧ v ≤ 4294967295) (ha : a ∈ L) (hne : (ownR L v).1 ≠ a) (hnn : (ownR L v).1 ≠ (nextR L a).1) : stp a (nextR L a).1 < stp a v := by
  obtain ⟨hm, h1, h2⟩ := own_behind h bv ha hne
  obtain ⟨n1, n2, n3⟩ := next_min h (h.2.1 _ ha) hm hne
  have h3 := own_min h bv n1
  have b1 := h.2.1 _ hm
  have b2 := h.2.1 _ n1
  have b3 := h.2.1 _ ha
  generalize (ownR L v).1 = x at *
  generalize (nextR L a).1 = y at *
  unfold stp at *
  omega
/-- what the best of the links is -/
theorem goB_facts {L : List Int} (h : okR L) {a v : Int} (bv : 0 ≤ v ∧ v ≤ 4294967295) (ha : a ∈ L) (hne : (ownR L v).1 ≠ a) (hnn : (ownR L v).1 ≠ (nextR L a).1) (l : List Int) : ∀ k, k ≤ l.length → (goB L (l.take k) a v = (nextR L a).1 ∨ goB L (l.take k) a v ∈ l.take k) ∧ goB L (l.take k) a v ∈ L ∧ stp a (nextR L a).1 ≤ stp a (goB L (l.take k) a v) ∧ stp a (goB L (l.take k) a v) < stp a v ∧ ∀ q ∈ l.take k, q ∈ L → stp a q < stp a v → stp a q ≤ stp a (goB L (l.take k) a v) := by
  obtain ⟨hm, h1, h2⟩ := own_behind h bv ha hne
  obtain ⟨n1, n2, n3⟩ := next_min h (h.2.1 _ ha) hm hne
  have n4 := next_ahead h bv ha hne hnn
  intro k
  induction k with
  | zero => intro _; exact ⟨.inl rfl, n1, Int.le_refl _, n4, fun q hq => (nomatch hq)⟩
  | succ k ih =>
    intro hk
    obtain ⟨i1, i2, i3, i4, i5⟩ := ih (by omega)
    have hlt : k < l.length := by omega
    have hmem : ∀ q, q ∈ l.take (k + 1) ↔ q ∈ l.take k ∨ q = l.getD k 0 := fun q => by
      rw [List.take_add_one, List.getElem?_eq_getElem hlt, Option.toList_some, List.mem_append, List.mem_singleton, show l.getD k 0 = l[k] by simp [List.getD, hlt]]
    rw [goB_step L a v hlt]
    generalize goB L (l.take k) a v = b at *
    generalize l.getD k 0 = x at *
    unfold goStep
    split
    · rename_i hc
      have hxL : x ∈ L := by simpa using hc.1
      refine ⟨.inr ((hmem x).2 (.inr rfl)), hxL, by omega, hc.2.2, fun q hq hqL hqv => ?_⟩
      rcases (hmem q).1 hq with e | e
      · have := i5 q e hqL hqv; omega
      · rw [e]; exact Int.le_refl _
    · rename_i hc
      refine ⟨i1.imp_right (fun e => (hmem _).2 (.inl e)), i2, i3, i4, fun q hq hqL hqv => ?_⟩
      rcases (hmem q).1 hq with e | e
      · exact i5 q e hqL hqv
      · subst e
        have : L.contains q = true := by simpa using hqL
        by_cases e2 : stp a b < stp a q
        · exact absurd ⟨this, e2, hqv⟩ hc
        · omega
theorem goR_true {L : List Int} (h : okR L) {a v : Int} (bv : 0 ≤ v ∧ v ≤ 4294967295) (l : List Int) : (goR L l a v).2 = true ↔ a ∈ L ∧ (ownR L v).1 ≠ a := by
  unfold goR
  by_cases hc : L.contains a = false ∨ (ownR L v).1 = a
  · rw [if_pos hc]
    constructor
    · intro e; cases e
    · rintro ⟨h1, h2⟩
      rcases hc with e | e
      · rw [show L.contains a = true by simpa using h1] at e; cases e
      · exact absurd e h2
  · rw [if_neg hc]
    have h1 : a ∈ L := by
      by_cases e : L.contains a = true
      · simpa using e
      · exact absurd (.inl (by simpa using e)) hc
    have h2 : (ownR L v).1 ≠ a := fun e => hc (.inr e)
    refine ⟨fun _ => ⟨h1, h2⟩, fun _ => ?_⟩
    split <;> rfl
theorem goR_is {L : List Int} {a v : Int} (l : List Int) (ha : a ∈ L) (hne : (ownR L v).1 ≠ a) : goR L l a v = if (ownR L v).1 = (nextR L a).1 then ((nextR L a).1, true) else (goB L l a v, true) := by
  unfold goR
  rw [if_neg]
  rintro (e | e)
  · rw [show L.contains a = true by simpa using ha] at e; cases e
  · exact hne e
theorem goR_false {L : List Int} {a v : Int} (l : List Int) (hc : L.contains a = false ∨ (ownR L v).1 = a) : goR L l a v = (0, false) := by
  unfold goR
  rw [if_pos hc]
/-- each step comes nearer, or to the owner -/
theorem goR_near {L : List Int} (h : okR L) {a v : Int} (bv : 0 ≤ v ∧ v ≤ 4294967295) (l : List Int) (ha : a ∈ L) (hne : (ownR L v).1 ≠ a) : (goR L l a v).1 ∈ L ∧ ((goR L l a v).1 = (ownR L v).1 ∨ (v - (goR L l a v).1) % 4294967296 < (v - a) % 4294967296) := by
  obtain ⟨hm, h1, h2⟩ := own_behind h bv ha hne
  obtain ⟨n1, n2, n3⟩ := next_min h (h.2.1 _ ha) hm hne
  rw [goR_is l ha hne]
  split
  · rename_i e
    exact ⟨n1, .inl e.symm⟩
  · rename_i hnn
    obtain ⟨_, i2, i3, i4, _⟩ := goB_facts h bv ha hne hnn l l.length (Nat.le_refl _)
    rw [List.take_length] at i2 i3 i4
    refine ⟨i2, .inr ?_⟩
    show (v - goB L l a v) % 4294967296 < _
    have b1 := h.2.1 _ i2
    have b2 := h.2.1 _ ha
    have b3 := h.2.1 _ n1
    generalize goB L l a v = x at *
    generalize (nextR L a).1 = y at *
    unfold stp at *
    omega
/-! ### ways -/
def wayR (L : List Int) (K : Int → List Int) (v : Int) : Nat → Int → List Int
  | 0, a => [a]
  | n + 1, a => if (goR L (K a) a v).2 = true then a :: wayR L K v n (goR L (K a) a v).1 else [a]
theorem way_ne (L : List Int) (K : Int → List Int) (v : Int) : ∀ n a, ∃ r, wayR L K v n a = a :: r
  | 0, a => ⟨[], rfl⟩
  | n + 1, a => by
    unfold wayR
    split
    · exact ⟨_, rfl⟩
    · exact ⟨[], rfl⟩
/-- each step of a way is one's; its points are points, each once; those behind lie nearer -/
theorem way_facts {L : List Int} (h : okR L) {v : Int} (bv : 0 ≤ v ∧ v ≤ 4294967295) (K : Int → List Int) : ∀ n a, a ∈ L →
    (∀ x ∈ wayR L K v n a, x ∈ L) ∧ (wayR L K v n a).Nodup ∧ (∀ x ∈ wayR L K v n a, x = (ownR L v).1 ∨ (v - x) % 4294967296 ≤ (v - a) % 4294967296) ∧
    (∀ i, i + 1 < (wayR L K v n a).length → goR L (K ((wayR L K v n a).getD i 0)) ((wayR L K v n a).getD i 0) v = ((wayR L K v n a).getD (i + 1) 0, true)) ∧
    ((wayR L K v n a).getD ((wayR L K v n a).length - 1) 0 = (ownR L v).1 ∨ (wayR L K v n a).length = n + 1)
  | 0, a, ha => by
    refine ⟨fun x hx => ?_, by simp [wayR], fun x hx => ?_, fun i hi => by simp [wayR] at hi, .inr (by simp [wayR])⟩
    · simp [wayR] at hx; rw [hx]; exact ha
    · simp [wayR] at hx; rw [hx]; exact .inr (Int.le_refl _)
  | n + 1, a, ha => by
    by_cases hne : (ownR L v).1 = a
    · have e : wayR L K v (n + 1) a = [a] := by
        unfold wayR
        rw [goR_false (K a) (.inr hne)]
        simp
      rw [e]
      refine ⟨fun x hx => by simp at hx; rw [hx]; exact ha, by simp, fun x hx => by simp at hx; rw [hx]; exact .inr (Int.le_refl _), fun i hi => by simp at hi, .inl (by simp [hne])⟩
    · have ht : (goR L (K a) a v).2 = true := (goR_true h bv (K a)).2 ⟨ha, hne⟩
      obtain ⟨hq, hnear⟩ := goR_near h bv (K a) ha hne
      have e : wayR L K v (n + 1) a = a :: wayR L K v n (goR L (K a) a v).1 := by
        conv => lhs; unfold wayR
        rw [if_pos ht]
      have hgo : goR L (K a) a v = ((goR L (K a) a v).1, true) := by rw [← ht]
      obtain ⟨r1, r2, r3, r4, r5⟩ := way_facts h bv K n _ hq
      obtain ⟨rr, hrr⟩ := way_ne L K v n (goR L (K a) a v).1
      rw [e]
      generalize (goR L (K a) a v).1 = q at *
      generalize wayR L K v n q = W at *
      have hb := h.2.1 _ ha
      have hlen : 0 < W.length := by rw [hrr]; simp
      refine ⟨fun x hx => ?_, List.nodup_cons.2 ⟨fun hm => ?_, r2⟩, fun x hx => ?_, fun i hi => ?_, ?_⟩
      · rcases List.mem_cons.1 hx with e | e
        · rw [e]; exact ha
        · exact r1 x e
      · rcases r3 a hm with e | e
        · exact hne e.symm
        · rcases hnear with e2 | e2
          · rw [e2] at e
            obtain ⟨_, o1, o2⟩ := own_behind h bv ha hne
            have hbo := h.2.1 _ (r1 q (by rw [hrr]; simp))
            rw [e2] at hbo
            -- the way goes on from the owner: it is the owner alone
            have : W = [q] := by
              cases rr with
              | nil => exact hrr
              | cons y rr =>
                have := r4 0 (by rw [hrr]; simp)
                rw [hrr] at this
                simp only [List.getD_cons_zero] at this
                rw [goR_false _ (.inr e2.symm)] at this
                cases this
            rw [this] at hm
            simp at hm
            exact hne (by rw [hm]; exact e2.symm)
          · omega
      · rcases List.mem_cons.1 hx with e | e
        · rw [e]; exact .inr (Int.le_refl _)
        · rcases r3 x e with e2 | e2
          · exact .inl e2
          · rcases hnear with e3 | e3
            · have : W = [q] := by
                cases rr with
                | nil => exact hrr
                | cons y rr =>
                  have := r4 0 (by rw [hrr]; simp)
                  rw [hrr] at this
                  simp only [List.getD_cons_zero] at this
                  rw [goR_false _ (.inr e3.symm)] at this
                  cases this
              rw [this] at e
              simp at e
              exact .inl (by rw [e]; exact e3)
            · exact .inr (by omega)
      · cases i with
        | zero =>
          simp only [List.getD_cons_zero, List.getD_cons_succ]
          rw [hgo, hrr]
          rfl
        | succ i =>
          simp only [List.getD_cons_succ]
          exact r4 i (by simp at hi; omega)
      · rcases r5 with e | e
        · left
          rw [List.length_cons, Nat.add_sub_cancel, show W.length = (W.length - 1) + 1 by omega, List.getD_cons_succ]
          exact e
        · right
          rw [List.length_cons, e]
theorem nodup_leR : ∀ (l K : List Int), l.Nodup → (∀ x ∈ l, x ∈ K) → l.length ≤ K.length
  | [], K, _, _ => Nat.zero_le _
  | a :: l, K, hn, hs => by
    obtain ⟨h1, h2⟩ := List.nodup_cons.1 hn
    have ha := hs a List.mem_cons_self
    have := nodup_leR l (K.erase a) h2 (fun x hx => (List.mem_erase_of_ne (fun e => h1 (by rw [← e]; exact hx))).2 (hs x (List.mem_cons_of_mem _ hx)))
    rw [List.length_erase_of_mem ha] at this
    have := List.length_pos_of_mem ha
    rw [List.length_cons]
    omega
/-- a way that may be as long as there are points ends at the owner -/
theorem way_end {L : List Int} (h : okR L) {v : Int} (bv : 0 ≤ v ∧ v ≤ 4294967295) (K : Int → List Int) {a : Int} (ha : a ∈ L) : (wayR L K v L.length a).length ≤ L.length ∧ (wayR L K v L.length a).getD ((wayR L K v L.length a).length - 1) 0 = (ownR L v).1 := by
  obtain ⟨r1, r2, r3, r4, r5⟩ := way_facts h bv K L.length a ha
  have hl := nodup_leR _ L r2 r1
  exact ⟨hl, r5.resolve_right (by omega)⟩
end Go.Proofs.Ytbhnpidbgckinaa
