/- What was packed is taken: the mathematics of the law MessageBack. -/
import Derived.Test.YthhelhhlofdehaaMsgLaw
set_option maxRecDepth 4000
namespace Go.Proofs.Ythhelhhlofdehaa
open Go.RowKit Mem
set_option linter.unusedSimpArgs false
set_option linter.unusedVariables false

/-! ### numbers at their places -/
theorem packM_nine (m : Msg) : 9 ≤ (packM m).length := by
  unfold packM headM
  simp only [List.length_append, be_len]
  omega
theorem packM_tenk {m : Msg} {attrs : Int} (hr : rightM attrs m = true) (hf : fewM m = true) : (packM m).length ≤ 10000 := by
  have h := right_f hr
  have hl := packM_len h
  have ha := h.a
  unfold fewM at hf
  simp at hf
  have h6 : (m.recs.length : Int) * (16 + 4 * attrs) ≤ 40 * 48 := Int.mul_le_mul (by omega) (by omega) (by omega) (by omega)
  repeat (first | omega | (split at hl))
theorem index_cut (x : Int) (n : Nat) (hn : 0 < n) : ∃ k : Nat, k < n ∧ (IntKind.u64.wrap x).tmod (n : Int) = (k : Int) := by
  have h0 := wrap_u64_nonneg x
  have h1 := Int.tmod_nonneg (n : Int) h0
  have h2 := Int.tmod_lt_of_pos (IntKind.u64.wrap x) (show (0 : Int) < (n : Int) by omega)
  exact ⟨((IntKind.u64.wrap x).tmod (n : Int)).toNat, by omega, by omega⟩
theorem gq_here (n : Nat) (x : Int) (T : List Int) (hx : 0 ≤ x ∧ x < 256 ^ n) : gq (be n x ++ T) 0 n = x := by
  unfold gq
  rw [if_pos (by rw [List.length_append, be_len]; omega), List.drop_zero, List.take_append, be_len, Nat.sub_self, List.take_zero, List.append_nil, List.take_of_length_le (by rw [be_len]; omega), num_be, ← pow_256, Int.emod_eq_of_lt hx.1 hx.2]
theorem gq_skip {A T : List Int} {k q n : Nat} (hA : A.length = k) : gq (A ++ T) (k + q) n = gq T q n := by
  subst hA
  unfold gq
  rw [List.length_append, List.drop_append, List.drop_eq_nil_of_le (by omega), List.nil_append, show A.length + q - A.length = q by omega]
  by_cases h : q + n ≤ T.length
  · rw [if_pos h, if_pos (by omega)]
  · rw [if_neg h, if_neg (by omega)]
theorem gq_past {n' : Nat} {x : Int} {T : List Int} (q n : Nat) (h : n' ≤ q) : gq (be n' x ++ T) q n = gq T (q - n') n := by
  have := gq_skip (A := be n' x) (T := T) (k := n') (q := q - n') (n := n) (be_len _ _)
  rwa [show n' + (q - n') = q by omega] at this
theorem gq_take {l : List Int} {k q n : Nat} (h : q + n ≤ k) (hk : k ≤ l.length) : gq (l.take k) q n = gq l q n := by
  unfold gq
  rw [List.length_take, Nat.min_eq_left hk, if_pos h, if_pos (by omega), List.drop_take, List.take_take, Nat.min_eq_left (by omega)]
theorem gq_app {l s : List Int} {q n : Nat} (h : q + n ≤ l.length) : gq (l ++ s) q n = gq l q n := by
  unfold gq
  rw [List.length_append, if_pos (by omega), if_pos h, List.drop_append, List.take_append, List.length_drop, show n - (l.length - q) = 0 by omega, List.take_zero, List.append_nil]
theorem valQ_skip {A T : List Int} {k q a : Nat} (hA : A.length = k) : valQ (A ++ T) (k + q) a = valQ T q a := by
  unfold valQ
  refine List.map_congr_left fun i _ => ?_
  rw [Nat.add_assoc]
  exact gq_skip hA
theorem range_cons (n : Nat) : List.range (n + 1) = 0 :: (List.range n).map (· + 1) := by rw [List.range_succ_eq_map]
theorem valQ_here (l T : List Int) (h : ∀ x ∈ l, u32B x) : valQ (valP l ++ T) 0 l.length = l := by
  induction l with
  | nil => rfl
  | cons x l ih =>
    have e : valP (x :: l) ++ T = be 4 x ++ (valP l ++ T) := by show (be 4 x ++ valP l) ++ T = _; rw [List.append_assoc]
    have h1 := h x (by simp)
    have h2 := ih (fun y hy => h y (by simp [hy]))
    have hb : 0 ≤ x ∧ x < 256 ^ 4 := by unfold u32B at h1; omega
    have e3 : valQ (be 4 x ++ (valP l ++ T)) 0 (l.length + 1) = gq (be 4 x ++ (valP l ++ T)) 0 4 :: valQ (valP l ++ T) 0 l.length := by
      unfold valQ
      rw [range_cons, List.map_cons, List.map_map]
      congr 1
      refine List.map_congr_left fun i _ => ?_
      have := gq_skip (A := be 4 x) (T := valP l ++ T) (k := 4) (q := 0 + 4 * i) (n := 4) (be_len _ _)
      rw [← this]
      simp only [Function.comp_apply]
      congr 1
      omega
    rw [e, List.length_cons, e3, gq_here 4 x _ hb, h2]
theorem recQ_skip {A T : List Int} {k q a : Nat} (hA : A.length = k) : recQ (A ++ T) (k + q) a = recQ T q a := by
  unfold recQ
  rw [Nat.add_assoc, Nat.add_assoc, gq_skip hA, gq_skip hA, valQ_skip hA]
theorem recQ_here (x : Int × Int × List Int) (T : List Int) (h : recB x) : recQ (recP x ++ T) 0 x.2.2.length = x := by
  obtain ⟨i, v, l⟩ := x
  obtain ⟨h1, h2, h3⟩ := h
  have b1 : 0 ≤ i ∧ i < 256 ^ 8 := by unfold u64B at h1; dsimp only at h1; omega
  have b2 : 0 ≤ v ∧ v < 256 ^ 8 := by unfold u64B at h2; dsimp only at h2; omega
  have e : recP (i, v, l) ++ T = be 8 i ++ (be 8 v ++ (valP l ++ T)) := by show (be 8 i ++ (be 8 v ++ valP l)) ++ T = _; rw [List.append_assoc, List.append_assoc]
  rw [e]
  unfold recQ
  have e1 : gq (be 8 i ++ (be 8 v ++ (valP l ++ T))) (0 + 8) 8 = v := by
    rw [Nat.add_comm 0 8, gq_skip (be_len _ _), gq_here 8 v _ b2]
  have e2 : valQ (be 8 i ++ (be 8 v ++ (valP l ++ T))) (0 + 16) l.length = l := by
    rw [show 0 + 16 = 8 + (8 + 0) by omega, valQ_skip (be_len _ _), valQ_skip (be_len _ _), valQ_here l T h3]
  rw [gq_here 8 i _ b1, e1]
  show (i, v, valQ _ _ l.length) = _
  rw [e2]
theorem recsQ_skip {A T : List Int} {k q a n : Nat} (hA : A.length = k) : recsQ (A ++ T) (k + q) a n = recsQ T q a n := by
  unfold recsQ
  refine List.map_congr_left fun i _ => ?_
  rw [Nat.add_assoc]
  exact recQ_skip hA
theorem recsQ_here (l : List (Int × Int × List Int)) (a : Nat) (T : List Int) (h : ∀ x ∈ l, recB x) (ha : ∀ x ∈ l, x.2.2.length = a) : recsQ (recsP l ++ T) 0 a l.length = l := by
  induction l with
  | nil => rfl
  | cons x l ih =>
    have e : recsP (x :: l) ++ T = recP x ++ (recsP l ++ T) := by show (recP x ++ recsP l) ++ T = _; rw [List.append_assoc]
    have h1 := h x (by simp)
    have h2 := ih (fun y hy => h y (by simp [hy])) (fun y hy => ha y (by simp [hy]))
    have h3 := ha x (by simp)
    have hl : (recP x).length = 16 + 4 * a := by rw [recP_len, h3]
    have e3 : recsQ (recP x ++ (recsP l ++ T)) 0 a (l.length + 1) = recQ (recP x ++ (recsP l ++ T)) 0 a :: recsQ (recsP l ++ T) 0 a l.length := by
      unfold recsQ
      rw [range_cons, List.map_cons, List.map_map]
      congr 1
      refine List.map_congr_left fun i _ => ?_
      have := recQ_skip (A := recP x) (T := recsP l ++ T) (k := 16 + 4 * a) (q := 0 + (16 + 4 * a) * i) (a := a) hl
      rw [← this]
      simp only [Function.comp_apply]
      congr 1
      rw [Nat.mul_add]
      omega
    rw [e, List.length_cons, e3, h2]
    have h4 := recQ_here x (recsP l ++ T) h1
    rw [h3] at h4
    rw [h4]
theorem packR_bare {r : Int × Int × Int} (h1 : kindV r.1 = true) (h2 : bareR r = true) : packR r = be 1 r.1 ++ (be 4 r.2.1 ++ be 4 r.2.2) := by
  obtain ⟨k, x, y⟩ := r
  unfold kindV at h1
  simp only [Bool.and_eq_true, decide_eq_true_eq] at h1
  have e : IntKind.u64.wrap k = k := IntWalk.u64_in _ (by omega)
  unfold packR
  dsimp only
  rw [e]
  by_cases hk : k = 2
  · rw [if_pos hk, if_pos hk]
  · rw [if_neg hk, if_neg hk]
    unfold bareR at h2
    simp [hk] at h2
    rw [h2.1, h2.2]
theorem boxQ_here (l : List (Int × Int × Int)) (T : List Int) (h : ∀ x ∈ l, kindV x.1 = true ∧ bareR x = true) (hb : RB l) : boxQ (packs l ++ T) 0 l.length = l := by
  induction l with
  | nil => rfl
  | cons r l ih =>
    have e : packs (r :: l) ++ T = packR r ++ (packs l ++ T) := by show (packR r ++ packs l) ++ T = _; rw [List.append_assoc]
    have h1 := h r (by simp)
    have h2 := ih (fun y hy => h y (by simp [hy])) (fun y hy => hb y (by simp [hy]))
    have h3 := hb r (by simp)
    have e3 : boxQ (packR r ++ (packs l ++ T)) 0 (l.length + 1) = (gq (packR r ++ (packs l ++ T)) 0 1, gq (packR r ++ (packs l ++ T)) 1 4, gq (packR r ++ (packs l ++ T)) 5 4) :: boxQ (packs l ++ T) 0 l.length := by
      unfold boxQ
      rw [range_cons, List.map_cons, List.map_map]
      congr 1
      refine List.map_congr_left fun i _ => ?_
      have hh : ∀ q n, gq (packR r ++ (packs l ++ T)) (9 + q) n = gq (packs l ++ T) q n := fun q n => gq_skip (packR_len r)
      simp only [Function.comp_apply]
      rw [← hh, ← hh, ← hh, show 0 + 9 * (i + 1) = 9 + (0 + 9 * i) by omega]
      rfl
    rw [e, List.length_cons, e3, h2, packR_bare h1.1 h1.2]
    obtain ⟨k, x, y⟩ := r
    have hk := h1.1
    unfold kindV at hk
    simp only [Bool.and_eq_true, decide_eq_true_eq] at hk
    obtain ⟨hx, hy⟩ := h3
    have hx : 0 ≤ x ∧ x ≤ 4294967295 := hx
    have hy : 0 ≤ y ∧ y ≤ 4294967295 := hy
    have hk : 1 ≤ k ∧ k ≤ 3 := hk
    dsimp only
    have ee : (be 1 k ++ (be 4 x ++ be 4 y)) ++ (packs l ++ T) = be 1 k ++ (be 4 x ++ (be 4 y ++ (packs l ++ T))) := by rw [List.append_assoc, List.append_assoc]
    rw [ee, gq_here 1 k _ (by omega), gq_past 1 4 (by omega), gq_past 5 4 (by omega), show 1 - 1 = 0 from rfl, show 5 - 1 = 4 from rfl, gq_here 4 x _ (by omega), gq_past 4 4 (by omega), show 4 - 4 = 0 from rfl, gq_here 4 y _ (by omega)]
/-! ### a message's parts at their places -/
theorem app3 (a b c d e T : List Int) : (a ++ (b ++ (c ++ (d ++ e)))) ++ T = a ++ (b ++ (c ++ (d ++ (e ++ T)))) := by simp only [List.append_assoc]
/-- what is known of a right message's bytes' numbers -/
theorem head_q {attrs : Int} {m : Msg} (h : RightF attrs m) (hb : MB m) (T : List Int) :
    gq (headM m ++ T) 0 1 = m.kind ∧ gq (headM m ++ T) 1 1 = m.hub ∧ gq (headM m ++ T) 2 1 = m.client ∧ gq (headM m ++ T) 3 2 = m.op ∧ gq (headM m ++ T) 5 4 = m.point := by
  have ha := h.a
  have h1 := h.hub
  have h2 := h.client
  have h3 := h.op
  have h4 := h.kind
  have h5 := hb.point
  unfold u32B at h5
  have e : headM m ++ T = be 1 m.kind ++ (be 1 m.hub ++ (be 1 m.client ++ (be 2 m.op ++ (be 4 m.point ++ T)))) := by unfold headM; exact app3 _ _ _ _ _ _
  rw [e]
  refine ⟨gq_here 1 _ _ (by omega), ?_, ?_, ?_, ?_⟩
  · rw [gq_past 1 1 (by omega)]; exact gq_here 1 _ _ (by omega)
  · rw [gq_past 2 1 (by omega), gq_past 1 1 (by omega)]; exact gq_here 1 _ _ (by omega)
  · rw [gq_past 3 2 (by omega), gq_past 2 2 (by omega), gq_past 1 2 (by omega)]; exact gq_here 2 _ _ (by omega)
  · rw [gq_past 5 4 (by omega), gq_past 4 4 (by omega), gq_past 3 4 (by omega), gq_past 2 4 (by omega)]; exact gq_here 4 _ _ (by omega)
theorem tail_q (m : Msg) (T : List Int) (q n : Nat) : gq (headM m ++ T) (9 + q) n = gq T q n := gq_skip (headM_len m)
theorem tail_v (m : Msg) (T : List Int) (q a : Nat) : valQ (headM m ++ T) (9 + q) a = valQ T q a := valQ_skip (headM_len m)
/-- the entry's parts -/
theorem ent_q (m : Msg) (hb : MB m) (T : List Int) :
    (gq (entM m ++ T) 0 1 == 1) = m.gone ∧ gq (entM m ++ T) 1 8 = m.eid ∧ gq (entM m ++ T) 9 8 = m.ever ∧ valQ (entM m ++ T) 17 m.vals.length = m.vals := by
  have h1 := hb.eid
  have h2 := hb.ever
  unfold u64B at h1 h2
  have e : entM m ++ T = be 1 (if m.gone then 1 else 0) ++ (be 8 m.eid ++ (be 8 m.ever ++ (valP m.vals ++ T))) := by
    unfold entM recP
    simp only [List.append_assoc]
  rw [e]
  refine ⟨?_, ?_, ?_, ?_⟩
  · rw [gq_here 1 _ _ (by split <;> omega)]
    cases m.gone <;> rfl
  · rw [gq_past 1 8 (by omega)]; exact gq_here 8 _ _ (by omega)
  · rw [gq_past 9 8 (by omega), gq_past 8 8 (by omega)]; exact gq_here 8 _ _ (by omega)
  · rw [show (17 : Nat) = 1 + (8 + (8 + 0)) by omega, valQ_skip (be_len _ _), valQ_skip (be_len _ _), valQ_skip (be_len _ _)]
    exact valQ_here _ _ hb.vals
theorem entM_skip (m : Msg) (T : List Int) (q n : Nat) : gq (entM m ++ T) (17 + 4 * m.vals.length + q) n = gq T q n := gq_skip (entM_len m)
theorem msgQ_kind (a : Nat) (l : List Int) : (msgQ a l).kind = gq l 0 1 := by
  unfold msgQ msgK
  repeat (first | rfl | split)
theorem msgQ_recs {a : Nat} {l : List Int} (h : gq l 0 1 = 6) : (msgQ a l).recs.length = (gq l 17 2).toNat := by
  have h' : (headQ l).kind = 6 := h
  unfold msgQ msgK
  rw [if_neg (by omega), if_neg (by omega), if_neg (by omega), if_neg (by omega)]
  exact recsQ_len _ _ _ _
theorem msg_ext {m n : Msg} (h0 : m.kind = n.kind) (h1 : m.hub = n.hub) (h2 : m.point = n.point) (h3 : m.client = n.client) (h4 : m.op = n.op) (h5 : m.target = n.target) (h6 : m.hops = n.hops) (h7 : m.owner = n.owner) (h8 : m.turn = n.turn) (h9 : m.ev = n.ev) (h10 : m.eid = n.eid) (h11 : m.ever = n.ever) (h12 : m.vals = n.vals) (h13 : m.gone = n.gone) (h14 : m.sf = n.sf) (h15 : m.st = n.st) (h16 : m.box = n.box) (h17 : m.recs = n.recs) : m = n := by
  cases m
  cases n
  simp only at h0 h1 h2 h3 h4 h5 h6 h7 h8 h9 h10 h11 h12 h13 h14 h15 h16 h17
  subst h0 h1 h2 h3 h4 h5 h6 h7 h8 h9 h10 h11 h12 h13 h14 h15 h16 h17
  rfl
theorem right_all {attrs : Int} {m : Msg} (h : rightM attrs m = true) : (m.kind ≤ 4 ∨ (m.ev = 0 ∧ m.gone = false ∧ m.eid = 0 ∧ m.ever = 0 ∧ m.vals = [] ∧ m.target = 0)) ∧ (m.kind = 5 ∨ m.box = []) ∧ (m.kind = 6 ∨ m.recs = []) ∧ (m.kind = 5 ∨ m.kind = 6 ∨ (m.sf = 0 ∧ m.st = 0)) ∧ (m.kind = 2 ∨ m.kind = 3 ∨ (m.owner = 0 ∧ m.turn = 0)) ∧ (m.kind = 1 ∨ m.kind = 5 ∨ m.hops = 0) := by
  have hk := (right_f h).kind
  unfold rightM at h
  simp only [Bool.and_eq_true] at h
  obtain ⟨h1, h2, h3, h4, h5, h6, h7, h8⟩ := h
  refine ⟨?_, ?_, ?_, of_decide_eq_true h5, (of_decide_eq_true h6).1, of_decide_eq_true h7⟩
  · by_cases hq : m.kind ≤ 4
    · exact .inl hq
    · unfold s2M at h2
      rw [if_neg (by omega)] at h2
      simp only [Bool.and_eq_true, decide_eq_true_eq, beq_iff_eq] at h2
      obtain ⟨⟨a1, a2, a3, a4, a5⟩, a6⟩ := h2
      exact .inr ⟨a1, a2, a3, a4, a5, a6⟩
  · by_cases hq : m.kind = 5
    · exact .inl hq
    · unfold s3M at h3
      rw [if_neg hq] at h3
      exact .inr (List.eq_nil_of_length_eq_zero (of_decide_eq_true h3))
  · by_cases hq : m.kind = 6
    · exact .inl hq
    · unfold s4M at h4
      rw [if_neg hq] at h4
      exact .inr (List.eq_nil_of_length_eq_zero (of_decide_eq_true h4))
/-- the entry's parts behind the head -/
theorem ent_L (m : Msg) (hb : MB m) (T : List Int) (a : Nat) (hl : m.vals.length = a) :
    (gq (headM m ++ (entM m ++ T)) 9 1 == 1) = m.gone ∧ gq (headM m ++ (entM m ++ T)) 10 8 = m.eid ∧ gq (headM m ++ (entM m ++ T)) 18 8 = m.ever ∧ valQ (headM m ++ (entM m ++ T)) 26 a = m.vals ∧ ∀ q n, gq (headM m ++ (entM m ++ T)) (26 + 4 * a + q) n = gq T q n := by
  obtain ⟨h1, h2, h3, h4⟩ := ent_q m hb T
  refine ⟨?_, ?_, ?_, ?_, fun q n => ?_⟩
  · rw [← h1]; exact congrArg (· == 1) (tail_q m _ 0 1)
  · rw [← h2]; exact tail_q m _ 1 8
  · rw [← h3]; exact tail_q m _ 9 8
  · rw [hl] at h4; rw [← h4]; exact tail_v m _ 17 a
  · have := tail_q m (entM m ++ T) (17 + 4 * m.vals.length + q) n
    rw [entM_skip, hl] at this
    rw [← this]
    congr 1
    omega
theorem ent_ev {attrs : Int} {m : Msg} (h : RightF attrs m) (hk : m.kind ≤ 4) (l : List Int) (a : Nat) (ha : attrs = a) (hv : valQ l 26 a = m.vals) : evQ l 9 a m.hub = m.ev := by
  have h1 := h.hub
  unfold evQ
  rw [if_pos (by omega), show 9 + 1 + 16 = 26 from rfl, hv]
  exact (h.vals hk).2.1
/-- what was packed is read -/
theorem msgQ_pack {attrs : Int} {m : Msg} (hr : rightM attrs m = true) (hb : MB m) (a : Nat) (ha : attrs = a) : msgQ a (packM m) = m := by
  have h := right_f hr
  obtain ⟨r1, r2, r3, r4, r5, r6⟩ := right_all hr
  have hk := h.kind
  have hop := h.hops
  have htn := h.turn
  have how := hb.owner
  have hsf := hb.sf
  have hst := hb.st
  unfold u32B at how hsf hst
  have hA := h.a
  obtain ⟨q0, q1, q2, q3, q4⟩ := head_q h hb (tailM m)
  have hL : packM m = headM m ++ tailM m := rfl
  rw [← hL] at q0 q1 q2 q3 q4
  have hks : m.kind = 1 ∨ m.kind = 2 ∨ m.kind = 3 ∨ m.kind = 4 ∨ m.kind = 5 ∨ m.kind = 6 := by omega
  have e0 : (headQ (packM m)).kind = m.kind := q0
  have e1 : (headQ (packM m)).hub = m.hub := q1
  have hent : m.kind ≤ 4 → m.vals.length = a := fun hk => by have := (h.vals hk).1; omega
  have hfirst : ∀ T, m.kind ≤ 4 → tailM m = entM m ++ T → (gq (packM m) 9 1 == 1) = m.gone ∧ gq (packM m) 10 8 = m.eid ∧ gq (packM m) 18 8 = m.ever ∧ valQ (packM m) 26 a = m.vals ∧ (∀ q n, gq (packM m) (26 + 4 * a + q) n = gq T q n) ∧ evQ (packM m) 9 a m.hub = m.ev ∧ m.target = m.ev := by
    intro T hk4 hT
    obtain ⟨f1, f2, f3, f4, f5⟩ := ent_L m hb T a (hent hk4)
    rw [← hT, ← hL] at f1 f2 f3 f4
    refine ⟨f1, f2, f3, f4, fun q n => ?_, ent_ev h hk4 _ a ha f4, (h.vals hk4).2.2⟩
    rw [hL, hT]
    exact f5 q n
  rcases hks with hq | hq | hq | hq | hq | hq
  · obtain ⟨f1, f2, f3, f4, f5, f6, f7⟩ := hfirst (be 1 m.hops) (by omega) (by unfold tailM; rw [if_pos hq])
    have g1 : gq (packM m) (26 + 4 * a) 1 = m.hops := by
      have := f5 0 1
      rw [Nat.add_zero] at this
      rw [this]
      have := gq_here 1 m.hops [] (by omega)
      rwa [List.append_nil] at this
    unfold msgQ msgK entQ
    rw [if_pos (by rw [e0]; exact hq), e1, f6]
    refine msg_ext q0 rfl q4 q2 q3 f7.symm g1 ?_ ?_ rfl f2 f3 f4 f1 ?_ ?_ ?_ ?_
    · exact ((r5.resolve_left (by omega)).resolve_left (by omega)).1.symm
    · exact ((r5.resolve_left (by omega)).resolve_left (by omega)).2.symm
    · exact ((r4.resolve_left (by omega)).resolve_left (by omega)).1.symm
    · exact ((r4.resolve_left (by omega)).resolve_left (by omega)).2.symm
    · exact (r2.resolve_left (by omega)).symm
    · exact (r3.resolve_left (by omega)).symm
  rotate_left 2
  · obtain ⟨f1, f2, f3, f4, f5, f6, f7⟩ := hfirst [] (by omega) (by unfold tailM; rw [if_neg (by omega), if_neg (by omega), if_pos hq, List.append_nil])
    unfold msgQ msgK entQ
    rw [if_neg (by rw [e0]; omega), if_neg (by rw [e0]; omega), if_pos (by rw [e0]; exact hq), e1, f6]
    refine msg_ext q0 rfl q4 q2 q3 f7.symm ?_ ?_ ?_ rfl f2 f3 f4 f1 ?_ ?_ ?_ ?_
    · exact ((r6.resolve_left (by omega)).resolve_left (by omega)).symm
    · exact ((r5.resolve_left (by omega)).resolve_left (by omega)).1.symm
    · exact ((r5.resolve_left (by omega)).resolve_left (by omega)).2.symm
    · exact ((r4.resolve_left (by omega)).resolve_left (by omega)).1.symm
    · exact ((r4.resolve_left (by omega)).resolve_left (by omega)).2.symm
    · exact (r2.resolve_left (by omega)).symm
    · exact (r3.resolve_left (by omega)).symm
  · obtain ⟨s1, s2, s3, s4, s5, s6⟩ := r1.resolve_left (by omega)
    have hbox := h.box hq
    have hT : tailM m = be 1 m.hops ++ (be 4 m.sf ++ (be 4 m.st ++ (be 1 m.box.length ++ packs m.box))) := by
      unfold tailM packV
      rw [if_neg (by omega), if_neg (by omega), if_neg (by omega), if_pos hq]
    have t1 : gq (packM m) 9 1 = m.hops := by rw [hL]; exact (tail_q m _ 0 1).trans (by rw [hT]; exact gq_here 1 _ _ (by omega))
    have t2 : gq (packM m) 10 4 = m.sf := by rw [hL]; exact (tail_q m _ 1 4).trans (by rw [hT, gq_past 1 4 (by omega)]; exact gq_here 4 _ _ (by omega))
    have t3 : gq (packM m) 14 4 = m.st := by rw [hL]; exact (tail_q m _ 5 4).trans (by rw [hT, gq_past 5 4 (by omega), gq_past _ 4 (by omega)]; exact gq_here 4 _ _ (by omega))
    have t4 : gq (packM m) 18 1 = m.box.length := by rw [hL]; exact (tail_q m _ 9 1).trans (by rw [hT, gq_past 9 1 (by omega), gq_past _ 1 (by omega), gq_past _ 1 (by omega)]; exact gq_here 1 _ _ (by omega))
    have t5 : boxQ (packM m) 19 m.box.length = m.box := by
      have hh : ∀ q n, gq (packM m) (19 + q) n = gq (packs m.box ++ []) q n := by
        intro q n
        rw [hL, show 19 + q = 9 + (10 + q) by omega, tail_q, hT, List.append_nil, gq_past (10 + q) n (by omega), gq_past _ n (by omega), gq_past _ n (by omega), gq_past _ n (by omega)]
        congr 1
        omega
      refine Eq.trans ?_ (boxQ_here m.box [] hbox.2 hb.box)
      unfold boxQ
      refine List.map_congr_left fun i _ => ?_
      rw [show 19 + 9 * i + 1 + 4 = 19 + (0 + 9 * i + 1 + 4) by omega, show 19 + 9 * i + 1 = 19 + (0 + 9 * i + 1) by omega, show 19 + 9 * i = 19 + (0 + 9 * i) by omega, hh, hh, hh]
    unfold msgQ msgK
    rw [if_neg (by rw [e0]; omega), if_neg (by rw [e0]; omega), if_neg (by rw [e0]; omega), if_pos (by rw [e0]; exact hq), t4, Int.toNat_natCast]
    refine msg_ext q0 q1 q4 q2 q3 s6.symm t1 ?_ ?_ s1.symm s3.symm s4.symm s5.symm s2.symm t2 t3 t5 ?_
    · exact ((r5.resolve_left (by omega)).resolve_left (by omega)).1.symm
    · exact ((r5.resolve_left (by omega)).resolve_left (by omega)).2.symm
    · exact (r3.resolve_left (by omega)).symm
  · obtain ⟨s1, s2, s3, s4, s5, s6⟩ := r1.resolve_left (by omega)
    have hrec := h.recs hq
    have hT : tailM m = be 4 m.sf ++ (be 4 m.st ++ (be 2 m.recs.length ++ recsP m.recs)) := by
      unfold tailM
      rw [if_neg (by omega), if_neg (by omega), if_neg (by omega), if_neg (by omega)]
    have t2 : gq (packM m) 9 4 = m.sf := by rw [hL]; exact (tail_q m _ 0 4).trans (by rw [hT]; exact gq_here 4 _ _ (by omega))
    have t3 : gq (packM m) 13 4 = m.st := by rw [hL]; exact (tail_q m _ 4 4).trans (by rw [hT, gq_past 4 4 (by omega)]; exact gq_here 4 _ _ (by omega))
    have t4 : gq (packM m) 17 2 = m.recs.length := by rw [hL]; exact (tail_q m _ 8 2).trans (by rw [hT, gq_past 8 2 (by omega), gq_past _ 2 (by omega)]; exact gq_here 2 _ _ (by omega))
    have t5 : recsQ (packM m) 19 a m.recs.length = m.recs := by
      refine Eq.trans ?_ (recsQ_here m.recs a [] hb.recs (fun x hx => by have := hrec.2 x hx; omega))
      rw [hL, hT, List.append_nil]
      have e : headM m ++ (be 4 m.sf ++ (be 4 m.st ++ (be 2 m.recs.length ++ recsP m.recs))) = (headM m ++ (be 4 m.sf ++ (be 4 m.st ++ be 2 m.recs.length))) ++ recsP m.recs := by simp only [List.append_assoc]
      rw [e]
      exact recsQ_skip (k := 19) (q := 0) (by simp only [List.length_append, headM_len, be_len])
    unfold msgQ msgK
    rw [if_neg (by rw [e0]; omega), if_neg (by rw [e0]; omega), if_neg (by rw [e0]; omega), if_neg (by rw [e0]; omega), t4, Int.toNat_natCast]
    refine msg_ext q0 q1 q4 q2 q3 s6.symm ?_ ?_ ?_ s1.symm s3.symm s4.symm s5.symm s2.symm t2 t3 ?_ t5
    · exact ((r6.resolve_left (by omega)).resolve_left (by omega)).symm
    · exact ((r5.resolve_left (by omega)).resolve_left (by omega)).1.symm
    · exact ((r5.resolve_left (by omega)).resolve_left (by omega)).2.symm
    · exact (r2.resolve_left (by omega)).symm
  all_goals
    obtain ⟨f1, f2, f3, f4, f5, f6, f7⟩ := hfirst (be 4 m.owner ++ be 4 m.turn) (by omega) (by unfold tailM; rw [if_neg (by omega), if_pos (by omega)])
    have g1 : gq (packM m) (26 + 4 * a) 4 = m.owner := by
      have := f5 0 4
      rw [Nat.add_zero] at this
      rw [this]
      exact gq_here 4 m.owner _ (by omega)
    have g2 : gq (packM m) (26 + 4 * a + 4) 4 = m.turn := by
      rw [f5 4 4, gq_past 4 4 (by omega)]
      have := gq_here 4 m.turn [] (by omega)
      rwa [List.append_nil] at this
    unfold msgQ msgK entQ
    rw [if_neg (by rw [e0]; omega), if_pos (by rw [e0]; omega), e1, f6]
    refine msg_ext q0 rfl q4 q2 q3 f7.symm ?_ g1 g2 rfl f2 f3 f4 f1 ?_ ?_ ?_ ?_
    · exact ((r6.resolve_left (by omega)).resolve_left (by omega)).symm
    · exact ((r4.resolve_left (by omega)).resolve_left (by omega)).1.symm
    · exact ((r4.resolve_left (by omega)).resolve_left (by omega)).2.symm
    · exact (r2.resolve_left (by omega)).symm
    · exact (r3.resolve_left (by omega)).symm
/-- how long the bytes are, as they tell it -/
theorem lenQ_pack {attrs : Int} {m : Msg} (hr : rightM attrs m = true) (hb : MB m) (a : Nat) (ha : attrs = a) : lenQ a (packM m) m.kind = (packM m).length := by
  have h := right_f hr
  have hk := h.kind
  have hl := packM_len h
  have hm := msgQ_pack hr hb a ha
  unfold lenQ
  have hks : m.kind = 1 ∨ m.kind = 2 ∨ m.kind = 3 ∨ m.kind = 4 ∨ m.kind = 5 ∨ m.kind = 6 := by omega
  have hq0 : gq (packM m) 0 1 = m.kind := by have := msgQ_kind a (packM m); rw [hm] at this; exact this.symm
  rcases hks with hq | hq | hq | hq | hq | hq
  · rw [if_pos hq]; rw [if_pos hq] at hl; omega
  · rw [if_neg (by omega), if_pos (by omega)]; rw [if_neg (by omega), if_pos (by omega)] at hl; omega
  · rw [if_neg (by omega), if_pos (by omega)]; rw [if_neg (by omega), if_pos (by omega)] at hl; omega
  · rw [if_neg (by omega), if_neg (by omega), if_pos hq]; rw [if_neg (by omega), if_neg (by omega), if_pos hq] at hl; omega
  · rw [if_neg (by omega), if_neg (by omega), if_neg (by omega), if_pos hq]; rw [if_neg (by omega), if_neg (by omega), if_neg (by omega), if_pos hq] at hl
    have hbx := (h.box hq).1
    have e5 : (headQ (packM m)).kind = 5 := hq0.trans hq
    have hn : (gq (packM m) 18 1).toNat = m.box.length := by
      have e : (msgQ a (packM m)).box.length = (gq (packM m) 18 1).toNat := by
        unfold msgQ msgK
        rw [if_neg (by omega), if_neg (by omega), if_neg (by omega), if_pos e5]
        exact boxQ_len _ _ _
      rw [← e, hm]
    omega
  · rw [if_neg (by omega), if_neg (by omega), if_neg (by omega), if_neg (by omega)]; rw [if_neg (by omega), if_neg (by omega), if_neg (by omega), if_neg (by omega)] at hl
    have hn : (gq (packM m) 17 2).toNat = m.recs.length := by rw [← msgQ_recs (a := a) (hq0.trans hq), hm]
    rw [hn]
    have e : ((19 + (16 + 4 * a) * m.recs.length : Nat) : Int) = 19 + m.recs.length * (16 + 4 * attrs) := by rw [ha, Int.mul_comm]; push_cast; rfl
    omega
theorem lenQ_take {a : Nat} {l : List Int} {k : Nat} {K : Int} (hk : k ≤ l.length) (h : k < lenQ a l K) : k < lenQ a (l.take k) K := by
  unfold lenQ at h ⊢
  by_cases h1 : K = 1
  · rw [if_pos h1] at h ⊢; exact h
  rw [if_neg h1] at h ⊢
  by_cases h2 : K = 2 ∨ K = 3
  · rw [if_pos h2] at h ⊢; exact h
  rw [if_neg h2] at h ⊢
  by_cases h4 : K = 4
  · rw [if_pos h4] at h ⊢; exact h
  rw [if_neg h4] at h ⊢
  by_cases h19 : 19 ≤ k
  · rw [gq_take (by omega) hk, gq_take (by omega) hk]; exact h
  · split
    · omega
    · exact Nat.lt_of_lt_of_le (by omega) (Nat.le_add_right 19 _)
/-- taken whole, it is the message -/
theorem takeV_pack {attrs : Int} {m : Msg} (hr : rightM attrs m = true) (hb : MB m) : takeV attrs (packM m) = (m, 0) := by
  have h := right_f hr
  have hA := h.a
  obtain ⟨a, rfl⟩ := Int.eq_ofNat_of_zero_le (show 0 ≤ attrs by omega)
  have hm := msgQ_pack hr hb a rfl
  have hq0 : gq (packM m) 0 1 = m.kind := by have := msgQ_kind a (packM m); rw [hm] at this; exact this.symm
  have hk := h.kind
  have hl := lenQ_pack hr hb a rfl
  have h9 := packM_nine m
  unfold takeV
  rw [if_neg (by omega), if_neg (by omega), if_neg (by omega), Int.toNat_natCast, hq0, if_neg (by omega), hm, if_pos ⟨hr, rfl⟩]
/-- a beginning is too short -/
theorem takeV_short {attrs : Int} {m : Msg} (hr : rightM attrs m = true) (hb : MB m) {k : Nat} (hk : k < (packM m).length) : takeV attrs ((packM m).take k) = (zeroM, 3) := by
  have h := right_f hr
  have hA := h.a
  obtain ⟨a, rfl⟩ := Int.eq_ofNat_of_zero_le (show 0 ≤ attrs by omega)
  have hm := msgQ_pack hr hb a rfl
  have hq0 : gq (packM m) 0 1 = m.kind := by have := msgQ_kind a (packM m); rw [hm] at this; exact this.symm
  have hkk := h.kind
  have hl := lenQ_pack hr hb a rfl
  have hlen : ((packM m).take k).length = k := by rw [List.length_take]; omega
  unfold takeV
  rw [if_neg (by omega), hlen]
  by_cases h9 : k < 9
  · rw [if_pos h9]
  rw [if_neg h9, gq_take (by omega) (by omega), hq0, if_neg (by omega), Int.toNat_natCast, if_pos (lenQ_take (by omega) (by omega))]
/-- something more is wrong -/
theorem takeV_more {attrs : Int} {m : Msg} (hr : rightM attrs m = true) (hb : MB m) : takeV attrs (packM m ++ [0]) = (zeroM, 4) := by
  have h := right_f hr
  have hA := h.a
  obtain ⟨a, rfl⟩ := Int.eq_ofNat_of_zero_le (show 0 ≤ attrs by omega)
  have hm := msgQ_pack hr hb a rfl
  have hq0 : gq (packM m) 0 1 = m.kind := by have := msgQ_kind a (packM m); rw [hm] at this; exact this.symm
  have hkk := h.kind
  have hl := lenQ_pack hr hb a rfl
  have hpl := packM_len h
  have h9 := packM_nine m
  have hlen : (packM m ++ [0]).length = (packM m).length + 1 := by simp
  have hq1 : gq (packM m ++ [0]) 0 1 = m.kind := by rw [gq_app (by omega), hq0]
  have h19 : m.kind = 5 ∨ m.kind = 6 → 19 ≤ (packM m).length := by
    intro hk5
    rw [← hl]
    unfold lenQ
    rw [if_neg (by omega), if_neg (by omega), if_neg (by omega)]
    split <;> omega
  have hl2 : lenQ a (packM m ++ [0]) m.kind = lenQ a (packM m) m.kind := by
    unfold lenQ
    by_cases h1 : m.kind = 1
    · rw [if_pos h1, if_pos h1]
    rw [if_neg h1, if_neg h1]
    by_cases h2 : m.kind = 2 ∨ m.kind = 3
    · rw [if_pos h2, if_pos h2]
    rw [if_neg h2, if_neg h2]
    by_cases h4 : m.kind = 4
    · rw [if_pos h4, if_pos h4]
    rw [if_neg h4, if_neg h4]
    have := h19 (by omega)
    rw [gq_app (by omega), gq_app (by omega)]
  unfold takeV
  rw [if_neg (by omega), if_neg (by omega), hq1, if_neg (by omega), Int.toNat_natCast, hl2, if_neg (by omega), if_neg]
  rintro ⟨h1, h2⟩
  have hF := right_f h1
  have hL := packM_len hF
  rw [h2, hlen, msgQ_kind, hq1] at hL
  by_cases h6 : m.kind = 6
  · have h19' := h19 (.inr h6)
    have e1 : (msgQ a (packM m ++ [0])).recs.length = m.recs.length := by
      have e2 : (msgQ a (packM m)).recs.length = m.recs.length := by rw [hm]
      rw [msgQ_recs (hq1.trans h6), gq_app (by omega), ← msgQ_recs (a := a) (hq0.trans h6), e2]
    rw [e1] at hL
    omega
  · repeat (first | omega | (split at hL))
    all_goals (repeat (first | omega | (split at hpl)))
end Go.Proofs.Ythhelhhlofdehaa
