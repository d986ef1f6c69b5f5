/- The mathematics of rings: points, rising, and who owns what: no Go in sight. -/
import Derived.Test.YtgkfioloceemcaaMath
import Derived.Test.YtgkfioloceemcaaRows
set_option maxRecDepth 4000
namespace Go.Proofs.Ytgkfioloceemcaa
set_option linter.unusedSimpArgs false
set_option linter.unusedVariables false

/-- points of a ring -/
def okR (L : List Int) : Prop := L.Pairwise (· < ·) ∧ (∀ x ∈ L, 0 ≤ x ∧ x ≤ 4294967295) ∧ L.length ≤ 64
def lowR (L : List Int) (p : Int) : List Int := L.filter fun x => decide (x < p)
def upR (L : List Int) (p : Int) : List Int := L.filter fun x => decide (p < x)
def addR (L : List Int) (p : Int) : List Int × Int := if L.contains p then (L, 7) else if 64 ≤ L.length then (L, 5) else (lowR L p ++ p :: upR L p, 0)
def dropR (L : List Int) (p : Int) : List Int × Int := if L.contains p then (L.filter (fun x => !(x == p)), 0) else (L, 6)
def ownR (L : List Int) (v : Int) : Int × Bool := (((L.filter fun x => decide (v ≤ x)) ++ L).headD 0, !L.isEmpty)
def nextR (L : List Int) (p : Int) : Int × Bool := ownR L ((p + 1) % 4294967296)
def predR (L : List Int) (p : Int) : Int := (L ++ lowR L p).getLastD 0
def spanR (L : List Int) (p : Int) : (Int × Int) × Bool := if L.contains p then ((predR L p, p), true) else ((0, 0), false)
def othR (L : List Int) (p : Int) : List Int := upR L p ++ lowR L p
def heirsR (L : List Int) (p n : Int) : List Int := (othR L p).take n.toNat

theorem lowR_mem {L : List Int} {p x : Int} : x ∈ lowR L p ↔ x ∈ L ∧ x < p := by simp [lowR]
theorem upR_mem {L : List Int} {p x : Int} : x ∈ upR L p ↔ x ∈ L ∧ p < x := by simp [upR]
/-- where a point stands -/
theorem split_R {L : List Int} (h : L.Pairwise (· < ·)) (p : Int) : L = lowR L p ++ ((if L.contains p then [p] else []) ++ upR L p) := by
  induction L with
  | nil => simp [lowR, upR]
  | cons x L ih =>
    have hx := (List.pairwise_cons.1 h).1
    have ih := ih (List.pairwise_cons.1 h).2
    rcases Int.lt_trichotomy x p with hlt | heq | hgt
    · have e1 : lowR (x :: L) p = x :: lowR L p := by simp [lowR, hlt]
      have e2 : upR (x :: L) p = upR L p := by simp [upR, show ¬ p < x by omega]
      have e3 : (x :: L).contains p = L.contains p := by simp [show ¬ p = x by omega]
      rw [e1, e2, e3, List.cons_append, ← ih]
    · subst heq
      have hno : ¬ x ∈ L := fun hm => by have := hx x hm; omega
      have e1 : lowR (x :: L) x = [] := by
        rw [List.eq_nil_iff_forall_not_mem]
        intro y hy
        rw [lowR_mem] at hy
        rcases List.mem_cons.1 hy.1 with e | e
        · omega
        · have := hx y e; omega
      have e2 : upR (x :: L) x = L := by
        unfold upR
        rw [List.filter_cons_of_neg (by simp)]
        exact List.filter_eq_self.2 (fun y hy => by simpa using hx y hy)
      rw [e1, e2]
      simp
    · have hall : ∀ y ∈ x :: L, p < y := fun y hy => by
        rcases List.mem_cons.1 hy with e | e
        · omega
        · have := hx y e; omega
      have e1 : lowR (x :: L) p = [] := by
        rw [List.eq_nil_iff_forall_not_mem]
        intro y hy
        rw [lowR_mem] at hy
        have := hall y hy.1
        omega
      have e2 : upR (x :: L) p = x :: L := List.filter_eq_self.2 (fun y hy => by simpa using hall y hy)
      have e3 : (x :: L).contains p = false := by
        rw [Bool.eq_false_iff]
        intro hc
        have := hall p (by simpa using hc)
        omega
      rw [e1, e2, e3]
      simp
theorem add_sorted {L : List Int} (h : L.Pairwise (· < ·)) (p : Int) : (lowR L p ++ p :: upR L p).Pairwise (· < ·) := by
  rw [List.pairwise_append, List.pairwise_cons]
  refine ⟨h.sublist List.filter_sublist, ⟨fun y hy => (upR_mem.1 hy).2, h.sublist List.filter_sublist⟩, fun a ha b hb => ?_⟩
  have h1 := (lowR_mem.1 ha).2
  rcases List.mem_cons.1 hb with e | e
  · omega
  · have := (upR_mem.1 e).2; omega
theorem add_len {L : List Int} (h : L.Pairwise (· < ·)) {p : Int} (hn : L.contains p = false) : (lowR L p ++ p :: upR L p).length = L.length + 1 := by
  have e := congrArg List.length (split_R h p)
  rw [hn] at e
  simp at e ⊢
  omega
/-- what Add leaves, and tells -/
theorem add_ok {L : List Int} (h : okR L) {p : Int} (bp : 0 ≤ p ∧ p ≤ 4294967295) : okR (addR L p).1 := by
  unfold addR
  split
  · exact h
  · rename_i hn
    split
    · exact h
    · refine ⟨add_sorted h.1 p, fun x hx => ?_, ?_⟩
      · rcases List.mem_append.1 hx with e | e
        · exact h.2.1 x (lowR_mem.1 e).1
        · rcases List.mem_cons.1 e with e | e
          · rw [e]; exact bp
          · exact h.2.1 x (upR_mem.1 e).1
      · have := add_len h.1 (p := p) (by simpa using hn)
        have := h.2.2
        show (lowR L p ++ p :: upR L p).length ≤ 64
        omega
theorem add_mem {L : List Int} (h : okR L) {p : Int} (hn : L.length < 64) (x : Int) : x ∈ (addR L p).1 ↔ x ∈ L ∨ x = p := by
  unfold addR
  split
  · rename_i hc
    have hc : p ∈ L := by simpa using hc
    exact ⟨.inl, fun e => by rcases e with e | e; exact e; rw [e]; exact hc⟩
  · rename_i hc
    rw [if_neg (by omega)]
    have hc : ¬ p ∈ L := by simpa using hc
    show x ∈ lowR L p ++ p :: upR L p ↔ _
    rw [List.mem_append, List.mem_cons, lowR_mem, upR_mem]
    constructor
    · rintro (e | e | e)
      · exact .inl e.1
      · exact .inr e
      · exact .inl e.1
    · rintro (e | e)
      · rcases Int.lt_trichotomy x p with q | q | q
        · exact .inl ⟨e, q⟩
        · exact .inr (.inl q)
        · exact .inr (.inr ⟨e, q⟩)
      · exact .inr (.inl e)
theorem add_le (L : List Int) (h : okR L) (p : Int) : (addR L p).1.length ≤ L.length + 1 := by
  unfold addR
  split
  · simp
  · rename_i hn
    split
    · simp
    · have := add_len h.1 (p := p) (by simpa using hn); show (lowR L p ++ p :: upR L p).length ≤ _; omega
theorem drop_ok {L : List Int} (h : okR L) (p : Int) : okR (dropR L p).1 := by
  unfold dropR
  split
  · exact ⟨h.1.sublist List.filter_sublist, fun x hx => h.2.1 x (List.mem_filter.1 hx).1, Nat.le_trans (List.length_filter_le _ _) h.2.2⟩
  · exact h
/-- two rings of the same points are one -/
theorem sorted_same {L M : List Int} (h : L.Pairwise (· < ·)) (h' : M.Pairwise (· < ·)) (hm : ∀ x, x ∈ L ↔ x ∈ M) : L = M := by
  have hp : L.Perm M := (List.perm_ext_iff_of_nodup (h.imp (fun hlt e => by omega)) (h'.imp (fun hlt e => by omega))).2 hm
  exact List.Perm.eq_of_pairwise (le := fun a b => a < b) (fun a b _ _ h1 h2 => by omega) h h' hp
/-- all points that were added -/
def addsR (L : List Int) (l : List Int) : List Int := l.foldl (fun L p => (addR L p).1) L
theorem addsR_snoc (L l : List Int) (p : Int) : addsR L (l ++ [p]) = (addR (addsR L l) p).1 := by unfold addsR; rw [List.foldl_append]; rfl
theorem addsR_step (L : List Int) {l : List Int} {k : Nat} (hk : k < l.length) : addsR L (l.take (k + 1)) = (addR (addsR L (l.take k)) (l.getD k 0)).1 := by
  rw [List.take_add_one, List.getElem?_eq_getElem hk, Option.toList_some, addsR_snoc, show l.getD k 0 = l[k] by simp [List.getD, hk]]
theorem addsR_facts (l : List Int) (hb : ∀ x ∈ l, 0 ≤ x ∧ x ≤ 4294967295) : ∀ k, k ≤ l.length → k ≤ 64 → okR (addsR [] (l.take k)) ∧ (addsR [] (l.take k)).length ≤ k ∧ ∀ x, x ∈ addsR [] (l.take k) ↔ x ∈ l.take k := by
  intro k
  induction k with
  | zero => intro _ _; exact ⟨⟨List.Pairwise.nil, fun x hx => (nomatch hx), by simp [addsR]⟩, by simp [addsR], fun x => by simp [addsR]⟩
  | succ k ih =>
    intro hk h64
    obtain ⟨h1, h2, h3⟩ := ih (by omega) (by omega)
    have hlt : k < l.length := by omega
    have hmem : l.getD k 0 ∈ l := by rw [show l.getD k 0 = l[k] by simp [List.getD, hlt]]; exact List.getElem_mem hlt
    rw [addsR_step [] hlt]
    refine ⟨add_ok h1 (hb _ hmem), ?_, fun x => ?_⟩
    · have := add_le _ h1 (l.getD k 0); omega
    · rw [add_mem h1 (by omega), h3, List.take_add_one, List.getElem?_eq_getElem hlt, Option.toList_some, List.mem_append, show l.getD k 0 = l[k] by simp [List.getD, hlt]]
      simp
/-! ### owners -/
theorem own_head {L : List Int} (v : Int) (hL : L ≠ []) : (ownR L v).2 = true ∧ (ownR L v).1 ∈ L := by
  refine ⟨by simp [ownR, hL], ?_⟩
  unfold ownR
  show ((L.filter fun x => decide (v ≤ x)) ++ L).headD 0 ∈ L
  cases hq : L.filter fun x => decide (v ≤ x) with
  | nil =>
    match L, hL with
    | x :: L, _ => simp
  | cons x r =>
    have hx : x ∈ L.filter fun x => decide (v ≤ x) := by rw [hq]; simp
    show x ∈ L
    exact (List.mem_filter.1 hx).1
/-- the owner is the first that one comes to -/
theorem own_min {L : List Int} (h : okR L) {v : Int} (bv : 0 ≤ v ∧ v ≤ 4294967295) {y : Int} (hy : y ∈ L) : ((ownR L v).1 - v) % 4294967296 ≤ (y - v) % 4294967296 := by
  have hL : L ≠ [] := fun e => by rw [e] at hy; cases hy
  have hm := (own_head v hL).2
  have hb := h.2.1 _ hm
  have hby := h.2.1 _ hy
  unfold ownR at hm hb ⊢
  cases hq : L.filter fun x => decide (v ≤ x) with
  | nil =>
    rw [hq] at hm hb
    have hno : ∀ x ∈ L, x < v := fun x hx => by
      by_cases e : v ≤ x
      · have : x ∈ L.filter fun x => decide (v ≤ x) := List.mem_filter.2 ⟨hx, by simpa using e⟩
        rw [hq] at this
        cases this
      · omega
    have h1 := hno _ hm
    have h2 := hno _ hy
    match L, hL, h with
    | z :: L, _, h =>
      simp only [List.nil_append, List.headD_cons] at h1 hb ⊢
      rcases List.mem_cons.1 hy with e | e
      · rw [e]; exact Int.le_refl _
      · have := (List.pairwise_cons.1 h.1).1 y e
        omega
  | cons z r =>
    have hs : (z :: r).Pairwise (· < ·) := by rw [← hq]; exact h.1.sublist List.filter_sublist
    have hz : z ∈ L.filter fun x => decide (v ≤ x) := by rw [hq]; simp
    have hvz : v ≤ z := by simpa using (List.mem_filter.1 hz).2
    have hzb := h.2.1 z (List.mem_filter.1 hz).1
    show (z - v) % 4294967296 ≤ _
    by_cases e : v ≤ y
    · have hy2 : y ∈ z :: r := by rw [← hq]; exact List.mem_filter.2 ⟨hy, by simpa using e⟩
      rcases List.mem_cons.1 hy2 with e2 | e2
      · rw [e2]; exact Int.le_refl _
      · have := (List.pairwise_cons.1 hs).1 y e2
        omega
    · omega
theorem far_inj {v x y : Int} (bx : 0 ≤ x ∧ x ≤ 4294967295) (by' : 0 ≤ y ∧ y ≤ 4294967295) (h : (x - v) % 4294967296 = (y - v) % 4294967296) : x = y := by omega
/-- who is come to first owns it -/
theorem own_is {L : List Int} (h : okR L) {v p : Int} (bv : 0 ≤ v ∧ v ≤ 4294967295) (hp : p ∈ L) (hall : ∀ y ∈ L, (p - v) % 4294967296 ≤ (y - v) % 4294967296) : (ownR L v).1 = p := by
  have hL : L ≠ [] := fun e => by rw [e] at hp; cases hp
  have hm := (own_head v hL).2
  have h1 := own_min h bv hp
  have h2 := hall _ hm
  exact far_inj (v := v) (h.2.1 _ hm) (h.2.1 _ hp) (by omega)
/-! ### by places -/
theorem sorted_lt {L : List Int} (h : L.Pairwise (· < ·)) {i j : Nat} (hj : j < L.length) (hij : i < j) : L[i] < L[j] := List.pairwise_iff_getElem.1 h i j (by omega) hj hij
theorem up_drop {L : List Int} (h : L.Pairwise (· < ·)) {k : Nat} (hk : k < L.length) : upR L L[k] = L.drop (k + 1) ∧ lowR L L[k] = L.take k := by
  have hc : L.contains L[k] = true := by simp
  have e := split_R h L[k]
  rw [hc] at e
  simp only [if_pos] at e
  have hlen : (lowR L L[k]).length = k := by
    have hi : (lowR L L[k]).length < L.length := by have := congrArg List.length e; simp at this; omega
    have hg : L[(lowR L L[k]).length]'hi = L[k] := by
      have : L[(lowR L L[k]).length]? = some L[k] := by
        conv => lhs; lhs; rw [e]
        rw [List.getElem?_append_right (Nat.le_refl _), Nat.sub_self]
        rfl
      rw [List.getElem?_eq_getElem hi] at this
      injection this
    have hn : L.Nodup := h.imp (fun hlt e => by omega)
    exact (List.getElem_inj hn).1 hg
  constructor
  · have : L.drop (k + 1) = (lowR L L[k] ++ ([L[k]] ++ upR L L[k])).drop (k + 1) := by rw [← e]
    rw [this, List.drop_append, hlen, List.drop_eq_nil_of_le (by omega), List.nil_append, show k + 1 - k = 1 by omega]
    rfl
  · have : L.take k = (lowR L L[k] ++ ([L[k]] ++ upR L L[k])).take k := by rw [← e]
    rw [this, List.take_append_of_le_length (by omega), List.take_of_length_le (by omega)]
theorem own_up {L : List Int} (h : okR L) {p : Int} (bp : 0 ≤ p ∧ p ≤ 4294967295) : nextR L p = ((upR L p ++ L).headD 0, !L.isEmpty) := by
  unfold nextR ownR
  by_cases e : p = 4294967295
  · have h1 : (L.filter fun x => decide ((p + 1) % 4294967296 ≤ x)) = L := List.filter_eq_self.2 (fun x hx => by have := (h.2.1 x hx).1; simp; omega)
    have h2 : upR L p = [] := by
      rw [List.eq_nil_iff_forall_not_mem]
      intro x hx
      have := h.2.1 x (upR_mem.1 hx).1
      have := (upR_mem.1 hx).2
      omega
    rw [h1, h2]
    cases L <;> rfl
  · have h1 : (L.filter fun x => decide ((p + 1) % 4294967296 ≤ x)) = upR L p := by
      unfold upR
      refine List.filter_congr fun x hx => decide_eq_decide.2 (by omega)
    rw [h1]
/-- the next one's place -/
theorem next_at {L : List Int} (h : okR L) {k : Nat} (hk : k < L.length) : nextR L L[k] = (L[(k + 1) % L.length]'(Nat.mod_lt _ (by omega)), true) := by
  have hne : L ≠ [] := fun e => by rw [e] at hk; simp at hk
  rw [own_up h (h.2.1 _ (List.getElem_mem hk)), (up_drop h.1 hk).1]
  have h2 : (!L.isEmpty) = true := by simp [hne]
  rw [h2]
  congr 1
  rcases Nat.lt_or_ge (k + 1) L.length with h3 | h3
  · have : (k + 1) % L.length = k + 1 := Nat.mod_eq_of_lt h3
    simp only [this]
    rw [List.drop_eq_getElem_cons h3]
    rfl
  · have h4 : k + 1 = L.length := by omega
    have : (k + 1) % L.length = 0 := by rw [h4]; exact Nat.mod_self _
    simp only [this]
    rw [List.drop_eq_nil_of_le h3, List.nil_append]
    match L, hk with
    | x :: L, _ => rfl
theorem pred_at {L : List Int} (h : okR L) {k : Nat} (hk : k < L.length) : predR L L[k] = L[(k + (L.length - 1)) % L.length]'(Nat.mod_lt _ (by omega)) := by
  unfold predR
  rw [(up_drop h.1 hk).2]
  have hne : L ++ L.take k ≠ [] := fun e => by simp at e; rw [e.1] at hk; simp at hk
  rw [List.getLastD_eq_getLast?, List.getLast?_eq_getElem?]
  rcases Nat.eq_zero_or_pos k with h0 | h0
  · subst h0
    have : (0 + (L.length - 1)) % L.length = L.length - 1 := by rw [Nat.zero_add]; exact Nat.mod_eq_of_lt (by omega)
    simp only [this]
    simp [List.getElem?_eq_getElem (show L.length - 1 < L.length by omega)]
  · have : (k + (L.length - 1)) % L.length = k - 1 := by
      rw [show k + (L.length - 1) = (k - 1) + L.length by omega, Nat.add_mod_right]
      exact Nat.mod_eq_of_lt (by omega)
    simp only [this]
    have hl : (L ++ L.take k).length - 1 = L.length + (k - 1) := by simp; omega
    rw [hl, List.getElem?_append_right (by omega), show L.length + (k - 1) - L.length = k - 1 by omega, List.getElem?_take_of_lt (by omega), List.getElem?_eq_getElem (by omega)]
    rfl
/-! ### spans -/
theorem span_at {L : List Int} (h : okR L) {k : Nat} (hk : k < L.length) : spanR L L[k] = ((L[(k + (L.length - 1)) % L.length]'(Nat.mod_lt _ (by omega)), L[k]), true) := by
  unfold spanR
  rw [if_pos (by simp), pred_at h hk]
theorem pred_min {L : List Int} (h : okR L) {p y : Int} (hp : p ∈ L) (hy : y ∈ L) : predR L p ∈ L ∧ (p - predR L p - 1) % 4294967296 ≤ (p - y - 1) % 4294967296 := by
  obtain ⟨k, hk, rfl⟩ := List.getElem_of_mem hp
  obtain ⟨i, hi, rfl⟩ := List.getElem_of_mem hy
  rw [pred_at h hk]
  refine ⟨List.getElem_mem _, ?_⟩
  have bk := h.2.1 _ (List.getElem_mem hk)
  have bi := h.2.1 _ (List.getElem_mem hi)
  rcases Nat.eq_zero_or_pos k with h0 | h0
  · subst h0
    have e : (0 + (L.length - 1)) % L.length = L.length - 1 := by rw [Nat.zero_add]; exact Nat.mod_eq_of_lt (by omega)
    simp only [e]
    have bl := h.2.1 _ (List.getElem_mem (show L.length - 1 < L.length by omega))
    have h1 : L[i] ≤ L[L.length - 1] := by
      by_cases e2 : i = L.length - 1
      · simp only [e2]; exact Int.le_refl _
      · exact Int.le_of_lt (sorted_lt h.1 (by omega) (by omega))
    have h2 : L[0] ≤ L[i] := by
      by_cases e2 : i = 0
      · simp only [e2]; exact Int.le_refl _
      · exact Int.le_of_lt (sorted_lt h.1 hi (by omega))
    omega
  · have e : (k + (L.length - 1)) % L.length = k - 1 := by
      rw [show k + (L.length - 1) = (k - 1) + L.length by omega, Nat.add_mod_right]
      exact Nat.mod_eq_of_lt (by omega)
    simp only [e]
    have bl := h.2.1 _ (List.getElem_mem (show k - 1 < L.length by omega))
    have h0' : L[k - 1] < L[k] := sorted_lt h.1 hk (by omega)
    rcases Nat.lt_or_ge i k with h1 | h1
    · have h2 : L[i] ≤ L[k - 1] := by
        by_cases e2 : i = k - 1
        · simp only [e2]; exact Int.le_refl _
        · exact Int.le_of_lt (sorted_lt h.1 (by omega) (by omega))
      omega
    · have h2 : L[k] ≤ L[i] := by
        by_cases e2 : i = k
        · simp only [e2]; exact Int.le_refl _
        · exact Int.le_of_lt (sorted_lt h.1 hi (by omega))
      omega
/-- just the owner's span has it -/
theorem own_span {L : List Int} (h : okR L) {v p : Int} (bv : 0 ≤ v ∧ v ≤ 4294967295) (hp : p ∈ L) : ((v - predR L p - 1) % 4294967296 ≤ (p - predR L p - 1) % 4294967296) ↔ (ownR L v).1 = p := by
  have hL : L ≠ [] := fun e => by rw [e] at hp; cases hp
  have hm := (own_head v hL).2
  have bp := h.2.1 p hp
  have bm := h.2.1 _ hm
  have bq := h.2.1 _ (pred_min h hp hp).1
  constructor
  · intro hv
    refine own_is h bv hp fun y hy => ?_
    have by' := h.2.1 y hy
    have h1 := (pred_min h hp hy).2
    generalize predR L p = q at *
    omega
  · intro e
    have h1 := own_min h bv (pred_min h hp hp).1
    rw [e] at h1
    generalize predR L p = q at *
    omega
end Go.Proofs.Ytgkfioloceemcaa
