/- A region whose order is open, run once, in one fixed order: each operation that yields the same value in every world that meets S is taken first; every other one comes up alone. The plan is checked once, by computing. -/
import Derived.Test.YtgkmkpkbdmciiaaRows
import Derived.WalkKit
import Derived.Deep.RegionHeld3
set_option maxRecDepth 4000
namespace Go.Proofs.Ytgkmkpkbdmciiaa.Run
open Go

section
variable {P : Program} {ops : Array Oper} {Q : Exit → Act → World → Prop} {md : Region.Mode} {S : World → Prop}

/-! ### sets of numbers as one number -/
def maskOf (l : List Nat) : Nat := l.foldr (fun i m => 2 ^ i ||| m) 0
theorem maskOf_bit (l : List Nat) (i : Nat) : (maskOf l).testBit i = l.contains i := by
  induction l with
  | nil => simp [maskOf]
  | cons x l ih =>
    have e : maskOf (x :: l) = 2 ^ x ||| maskOf l := rfl
    rw [e, Nat.testBit_or, ih, Nat.testBit_two_pow]
    by_cases h : x = i
    · subst h; simp
    · have h' : ¬ i = x := fun e => h e.symm
      simp [h, h']
def sub (m L : Nat) : Bool := m &&& L == m
theorem sub_iff (m L : Nat) : sub m L = true ↔ ∀ j, m.testBit j = true → L.testBit j = true := by
  unfold sub
  rw [beq_iff_eq]
  constructor
  · intro h j hj
    rw [← h, Nat.testBit_and] at hj
    simp at hj
    exact hj.2
  · intro h
    refine Nat.eq_of_testBit_eq fun j => ?_
    rw [Nat.testBit_and]
    cases hm : m.testBit j
    · simp
    · simp [h j hm]
theorem zero_bit {m : Nat} (h : m = 0) (j : Nat) : m.testBit j = false := by subst h; simp

/-- what an operation waits for, which slots it looks at, which it writes -/
def rowOf (md : Region.Mode) (ops : Array Oper) (o : Oper) : Nat × Nat × Nat :=
  (maskOf ((o.after.toList.filter (Region.binds md)).map (·.on)), maskOf (o.looksAt ops), maskOf o.dst.toList)

def rowsOf (md : Region.Mode) (ops : Array Oper) : List (Nat × Nat × Nat) := ops.toList.map (rowOf md ops)

def alone (i L : Nat) : List (Nat × Nat × Nat) → Nat → Bool
  | [], _ => true
  | r :: rs, k => (k == i || L.testBit k || !sub r.1 L) && alone i L rs (k + 1)
/-- may i come up at L? -/
def up (rows : List (Nat × Nat × Nat)) (i L : Nat) : Bool := match rows[i]? with | some r => !L.testBit i && sub r.1 L | none => false
/-- nobody but i and j may come up at L -/
def alone2 (i j L : Nat) : List (Nat × Nat × Nat) → Nat → Bool
  | [], _ => true
  | r :: rs, k => (k == i || k == j || L.testBit k || !sub r.1 L) && alone2 i j L rs (k + 1)
/-- A plan: (i, 0): i is taken first; (i, 1): i comes up alone; (i, j + 2): i and j come up, in either order. -/
def check (rows : List (Nat × Nat × Nat)) : List (Nat × Nat) → Nat → Bool
  | [], L => L == 2 ^ rows.length - 1
  | (i, 0) :: pl, L => up rows i L && check rows pl (L ||| 2 ^ i)
  | (i, 1) :: pl, L => up rows i L && (alone i L rows 0 && check rows pl (L ||| 2 ^ i))
  | (i, j + 2) :: pl, L => (up rows i L && up rows j L) && ((alone2 i j L rows 0 && (alone j (L ||| 2 ^ i) rows 0 && alone i (L ||| 2 ^ j) rows 0)) && ((up rows j (L ||| 2 ^ i) && up rows i (L ||| 2 ^ j)) && check rows pl ((L ||| 2 ^ i) ||| 2 ^ j)))
def pair (k : Nat) (x : Nat × Nat × Nat) (m : Nat) (y : Nat × Nat × Nat) : Bool :=
  ((x.2.2 &&& (y.2.1 ||| y.2.2)) ||| (y.2.2 &&& x.2.1)) == 0 || x.1.testBit m || y.1.testBit k
def pairs (k : Nat) (x : Nat × Nat × Nat) : List (Nat × Nat × Nat) → Nat → Bool
  | [], _ => true
  | y :: rs, m => pair k x m y && pairs k x rs (m + 1)
def wired : List (Nat × Nat × Nat) → Nat → Bool
  | [], _ => true
  | x :: rs, k => pairs k x rs (k + 1) && wired rs (k + 1)

theorem alone_spec {i L : Nat} : ∀ (rs : List (Nat × Nat × Nat)) (k : Nat), alone i L rs k = true → ∀ j r, rs[j]? = some r → k + j ≠ i → L.testBit (k + j) = false → sub r.1 L = false
  | [], _, _, j, r, h, _, _ => by simp at h
  | x :: rs, k, h, 0, r, hr, h1, h2 => by
    simp only [alone, Bool.and_eq_true, Bool.or_eq_true, beq_iff_eq, Bool.not_eq_true'] at h
    simp only [List.getElem?_cons_zero, Option.some.injEq] at hr
    subst hr
    rcases h.1 with (h | h) | h
    · exact absurd h (by simpa using h1)
    · rw [Nat.add_zero] at h2; rw [h2] at h; cases h
    · exact h
  | x :: rs, k, h, j + 1, r, hr, h1, h2 => by
    simp only [alone, Bool.and_eq_true] at h
    exact alone_spec rs (k + 1) h.2 j r (by simpa using hr) (by omega) (by rw [← h2]; congr 1; omega)
theorem alone2_spec {i i' L : Nat} : ∀ (rs : List (Nat × Nat × Nat)) (k : Nat), alone2 i i' L rs k = true → ∀ j r, rs[j]? = some r → k + j ≠ i → k + j ≠ i' → L.testBit (k + j) = false → sub r.1 L = false
  | [], _, _, j, r, h, _, _, _ => by simp at h
  | x :: rs, k, h, 0, r, hr, h1, h1', h2 => by
    simp only [alone2, Bool.and_eq_true, Bool.or_eq_true, beq_iff_eq, Bool.not_eq_true'] at h
    simp only [List.getElem?_cons_zero, Option.some.injEq] at hr
    subst hr
    rcases h.1 with ((h | h) | h) | h
    · exact absurd h (by simpa using h1)
    · exact absurd h (by simpa using h1')
    · rw [Nat.add_zero] at h2; rw [h2] at h; cases h
    · exact h
  | x :: rs, k, h, j + 1, r, hr, h1, h1', h2 => by
    simp only [alone2, Bool.and_eq_true] at h
    exact alone2_spec rs (k + 1) h.2 j r (by simpa using hr) (by omega) (by omega) (by rw [← h2]; congr 1; omega)
theorem pairs_spec {k : Nat} {x : Nat × Nat × Nat} : ∀ (rs : List (Nat × Nat × Nat)) (m : Nat), pairs k x rs m = true → ∀ j y, rs[j]? = some y → pair k x (m + j) y = true
  | [], _, _, j, y, h => by simp at h
  | z :: rs, m, h, 0, y, hy => by
    simp only [pairs, Bool.and_eq_true] at h
    simp only [List.getElem?_cons_zero, Option.some.injEq] at hy
    subst hy
    exact h.1
  | z :: rs, m, h, j + 1, y, hy => by
    simp only [pairs, Bool.and_eq_true] at h
    have := pairs_spec rs (m + 1) h.2 j y (by simpa using hy)
    rw [show m + (j + 1) = m + 1 + j from by omega]
    exact this
theorem wired_spec : ∀ (rs : List (Nat × Nat × Nat)) (k : Nat), wired rs k = true → ∀ i j x y, rs[i]? = some x → rs[j]? = some y → i < j → pair (k + i) x (k + j) y = true
  | [], _, _, i, j, x, y, h, _, _ => by simp at h
  | z :: rs, k, h, 0, j + 1, x, y, hx, hy, _ => by
    simp only [wired, Bool.and_eq_true] at h
    simp only [List.getElem?_cons_zero, Option.some.injEq] at hx
    subst hx
    have := pairs_spec rs (k + 1) h.1 j y (by simpa using hy)
    rw [show k + (j + 1) = k + 1 + j from by omega]
    exact this
  | z :: rs, k, h, i + 1, j + 1, x, y, hx, hy, hij => by
    simp only [wired, Bool.and_eq_true] at h
    have := wired_spec rs (k + 1) h.2 i j x y (by simpa using hx) (by simpa using hy) (by omega)
    rw [show k + (i + 1) = k + 1 + i from by omega, show k + (j + 1) = k + 1 + j from by omega]
    exact this
  | z :: rs, k, h, i, 0, x, y, _, _, hij => absurd hij (by omega)

/-- the list of those that have come up, as one number -/
def Met (ops : Array Oper) (listed : Array Bool) (L : Nat) : Prop := listed.size = ops.size ∧ ∀ j, listed.getD j false = L.testBit j

theorem Met.start (ops : Array Oper) : Met ops (Array.replicate ops.size false) 0 := by
  refine ⟨by simp, fun j => ?_⟩
  rw [Nat.zero_testBit]
  simp only [Array.getD_eq_getD_getElem?, Array.getElem?_replicate]
  split <;> rfl
theorem Met.set {ops : Array Oper} {listed : Array Bool} {L i : Nat} (h : Met ops listed L) (hi : i < ops.size) : Met ops (listed.setIfInBounds i true) (L ||| 2 ^ i) := by
  refine ⟨by simp [h.1], fun j => ?_⟩
  rw [Nat.testBit_or, Nat.testBit_two_pow, ← h.2 j]
  simp only [Array.getD_eq_getD_getElem?, Array.getElem?_setIfInBounds]
  by_cases hij : i = j
  · subst hij; simp [h.1, hi]
  · simp [hij]
theorem Met.up {ops : Array Oper} {listed : Array Bool} {L j : Nat} (h : Met ops listed L) (hj : j < ops.size) : listed.getD j true = L.testBit j := by
  rw [← h.2 j]
  simp only [Array.getD_eq_getD_getElem?]
  have : j < listed.size := by rw [h.1]; exact hj
  simp [this]

section
variable {md : Region.Mode} {ops : Array Oper}
theorem after_bit (o : Oper) (i : Nat) : (rowOf md ops o).1.testBit i = true ↔ ∃ e ∈ o.after, Region.binds md e = true ∧ e.on = i := by
  simp only [rowOf, maskOf_bit, List.contains_iff_mem, List.mem_map, List.mem_filter, Array.mem_toList_iff, and_assoc]
theorem waits_iff {listed : Array Bool} {L : Nat} (h : Met ops listed L) (o : Oper) : sub (rowOf md ops o).1 L = true ↔ ∀ e ∈ o.after, Region.binds md e = true → listed.getD e.on false = true := by
  rw [sub_iff]
  constructor
  · intro hh e he hb
    rw [h.2]
    exact hh _ ((after_bit o _).2 ⟨e, he, hb, rfl⟩)
  · intro hh j hj
    obtain ⟨e, he, hb, rfl⟩ := (after_bit o _).1 hj
    rw [← h.2]
    exact hh e he hb
theorem apart_of_masks {x y : Oper} (h : (((rowOf md ops x).2.2 &&& ((rowOf md ops y).2.1 ||| (rowOf md ops y).2.2)) ||| ((rowOf md ops y).2.2 &&& (rowOf md ops x).2.1)) = 0) :
    x.apart ops y = true ∧ y.apart ops x = true := by
  have hb : ∀ j, ((x.dst.toList.contains j && ((y.looksAt ops).contains j || y.dst.toList.contains j)) || (y.dst.toList.contains j && (x.looksAt ops).contains j)) = false := fun j => by
    have := zero_bit h j
    simpa only [Nat.testBit_or, Nat.testBit_and, rowOf, maskOf_bit] using this
  have h1 : ∀ d, x.dst = some d → (y.looksAt ops).contains d = false ∧ (y.dst != some d) = true := fun d hd => by
    have := hb d
    simp only [hd, Option.toList_some, List.contains_cons, List.contains_nil, BEq.rfl, Bool.or_false, Bool.true_and, Bool.or_eq_false_iff] at this
    refine ⟨this.1.1, ?_⟩
    cases hy : y.dst with
    | none => rfl
    | some d' =>
      have h2 := this.1.2
      rw [hy] at h2
      simp at h2
      simpa using fun e => h2 e.symm
  have h2 : ∀ d, y.dst = some d → (x.looksAt ops).contains d = false ∧ (x.dst != some d) = true := fun d hd => by
    have := hb d
    simp only [hd, Option.toList_some, List.contains_cons, List.contains_nil, BEq.rfl, Bool.or_false, Bool.true_and, Bool.or_eq_false_iff, Bool.or_true, Bool.and_true] at this
    refine ⟨this.2, ?_⟩
    cases hx : x.dst with
    | none => rfl
    | some d' =>
      have h3 := this.1
      rw [hx] at h3
      simp at h3
      simpa using fun e => h3 e.symm
  unfold Oper.apart
  constructor
  · rw [Bool.and_eq_true]
    constructor
    · cases hd : x.dst with
      | none => rfl
      | some d => have := h1 d hd; simp only [this.1, this.2, Bool.not_false, Bool.and_self]
    · cases hd : y.dst with
      | none => rfl
      | some d => have := h2 d hd; simp only [this.1, Bool.not_false]
  · rw [Bool.and_eq_true]
    constructor
    · cases hd : y.dst with
      | none => rfl
      | some d => have := h2 d hd; simp only [this.1, this.2, Bool.not_false, Bool.and_self]
    · cases hd : x.dst with
      | none => rfl
      | some d => have := h1 d hd; simp only [this.1, Bool.not_false]
end

/-- may it be taken first, if its cells are held? -/
def light (o : Oper) : Bool :=
  match o.op with
  | .move _ | .assign _ | .pick .. | .build .. | .load .. | .nilCheck _ | .binOp .. | .unOp .. | .convert .. | .slice .. | .fieldAddr .. | .field .. | .indexAddr .. | .index .. | .extract .. => true
  | .call { callee := .builtin .len .., .. } | .call { callee := .builtin .min .., .. } | .call { callee := .builtin .max .., .. } => true
  | _ => false

def lightsOf (ops : Array Oper) : List Bool := ops.toList.map light

/-- the slot that an operation's guard looks at, and what it wants there -/
def guardOf (ops : Array Oper) (o : Oper) : Option (Option Tmp × Bool) := o.guard.map fun g => ((ops[g.1]?).bind (·.dst), g.2)

def gate (a : Act) : Option (Option Tmp × Bool) → Bool
  | none => true
  | some (t, b) => (match t.bind (a.tmps[·]?) with | some (.bool c) => some c | _ => none) == some b

theorem wanted_eq (o : Oper) (a : Act) : Region.wanted o (yielded ops a.tmps) = gate a (guardOf ops o) := by
  unfold Region.wanted gate guardOf
  cases o.guard with
  | none => rfl
  | some g => rfl

/-- one operation, then K -/
def One (P : Program) (Q : Exit → Act → World → Prop) (S : World → Prop) (ops : Array Oper) (o : Oper) (a : Act) (w : World) (K : Act → World → Prop) : Prop :=
  (gate a (guardOf ops o) = true ∧ (S w → Oper.wp P o a w (fun a' w' => S w' ∧ K a' w') Q)) ∨ (gate a (guardOf ops o) = false ∧ K (a.put o.dst undef) w)
/-- the run of the steps, one by one -/
def Runs (P : Program) (Q : Exit → Act → World → Prop) : (World → Prop) → Array Oper → List (Nat × Nat) → Act → World → Prop
  | S, _, [], a, w => S w → Q .normal a w
  | S, ops, (i, 0) :: l, a, w => ∃ o v, ops[i]? = some o ∧ ((gate a (guardOf ops o) = true ∧ ∀ w', S w' → (execOp a.eval o).run P w' = .ok (.value v) w') ∨ (gate a (guardOf ops o) = false ∧ v = undef)) ∧ Runs P Q S ops l (a.put o.dst v) w
  | S, ops, (i, 1) :: l, a, w => ∃ o, ops[i]? = some o ∧ One P Q S ops o a w (fun a' w' => S w' → ∃ S' : World → Prop, (∀ z, S' z → S z) ∧ S' w' ∧ Runs P Q S' ops l a' w')
  | S, ops, (i, j + 2) :: l, a, w => ∃ o p, ops[i]? = some o ∧ ops[j]? = some p ∧ One P Q S ops o a w (fun a' w' => One P Q S ops p a' w' (Runs P Q S ops l)) ∧ One P Q S ops p a w (fun a' w' => One P Q S ops o a' w' (Runs P Q S ops l))

/-- what holds behind every operation may be weakened -/
theorem anyH_mono {S S' : World → Prop} (hs : ∀ z, S' z → S z) : ∀ (fuel : Nat) (listed : Array Bool) (a : Act) (w : World), wpAnyH P md ops Q S' fuel listed a w → wpAnyH P md ops Q S fuel listed a w
  | 0, _, _, _, h => h
  | fuel + 1, _, _, _, h => ⟨h.1, fun i hi => wpOp_mono (fun a' w' h' => ⟨hs _ h'.1, anyH_mono hs fuel _ a' w' h'.2⟩) (h.2 i hi)⟩

theorem One.wpOp {i : Nat} {o : Oper} {a : Act} {w : World} {K : Act → World → Prop} {K' : Act → World → Prop} (ho : ops[i]? = some o) (hS : S w) (h : One P Q S ops o a w K) (hK : ∀ a' w', S w' → K a' w' → K' a' w') :
    wpOp P ops Q i (fun a' w' => S w' ∧ K' a' w') a w := by
  unfold Go.wpOp
  simp only [ho]
  rcases h with ⟨h1, h2⟩ | ⟨h1, h2⟩
  · rw [if_pos (by rw [wanted_eq]; exact h1)]
    exact .inl (Oper.wp_mono (fun a' w' h' => ⟨h'.1, hK _ _ h'.1 h'.2⟩) (h2 hS))
  · rw [if_neg (by rw [wanted_eq, h1]; exact Bool.false_ne_true)]
    exact ⟨hS, hK _ _ hS h2⟩

theorem rows_at {rows : List (Nat × Nat × Nat)} (hrows : ops.toList.map (rowOf md ops) = rows) {i : Nat} {r : Nat × Nat × Nat} (h : rows[i]? = some r) : ∃ o, ops[i]? = some o ∧ r = rowOf md ops o := by
  subst hrows
  rw [List.getElem?_map] at h
  cases ho : ops.toList[i]? with
  | none => rw [ho] at h; cases h
  | some o => rw [ho] at h; exact ⟨o, by rw [← Array.getElem?_toList]; exact ho, by simpa using h.symm⟩
theorem rows_of {rows : List (Nat × Nat × Nat)} (hrows : ops.toList.map (rowOf md ops) = rows) {i : Nat} {o : Oper} (h : ops[i]? = some o) : rows[i]? = some (rowOf md ops o) := by
  subst hrows
  rw [List.getElem?_map, Array.getElem?_toList, h]
  rfl

theorem up_spec {rows : List (Nat × Nat × Nat)} (hrows : ops.toList.map (rowOf md ops) = rows) {i L : Nat} {listed : Array Bool} (hm : Met ops listed L) (h : up rows i L = true) :
    ∃ o, ops[i]? = some o ∧ rows[i]? = some (rowOf md ops o) ∧ sub (rowOf md ops o).1 L = true ∧ i ∈ Region.ready md ops listed := by
  unfold up at h
  cases hri : rows[i]? with
  | none => rw [hri] at h; cases h
  | some r =>
    rw [hri] at h
    simp only [Bool.and_eq_true, Bool.not_eq_true'] at h
    obtain ⟨o, ho, rfl⟩ := rows_at hrows hri
    have his := (Array.getElem?_eq_some_iff.1 ho).1
    exact ⟨o, ho, rfl, h.2, mem_ready.2 ⟨by rw [hm.up his]; exact h.1, o, ho, (waits_iff hm o).1 h.2⟩⟩
theorem only_spec {rows : List (Nat × Nat × Nat)} (hrows : ops.toList.map (rowOf md ops) = rows) {i L : Nat} {listed : Array Bool} (hm : Met ops listed L) (h : alone i L rows 0 = true) :
    ∀ j ∈ Region.ready md ops listed, j = i := by
  intro j hj
  obtain ⟨h1, oj, hoj, h2⟩ := mem_ready.1 hj
  have hjs := (Array.getElem?_eq_some_iff.1 hoj).1
  refine Classical.byContradiction fun hne => ?_
  have := alone_spec rows 0 h j _ (rows_of hrows hoj) (by omega) (by rw [Nat.zero_add, ← hm.up hjs]; exact h1)
  rw [(waits_iff hm oj).2 h2] at this
  cases this
theorem only2_spec {rows : List (Nat × Nat × Nat)} (hrows : ops.toList.map (rowOf md ops) = rows) {i i' L : Nat} {listed : Array Bool} (hm : Met ops listed L) (h : alone2 i i' L rows 0 = true) :
    ∀ j ∈ Region.ready md ops listed, j = i ∨ j = i' := by
  intro j hj
  obtain ⟨h1, oj, hoj, h2⟩ := mem_ready.1 hj
  have hjs := (Array.getElem?_eq_some_iff.1 hoj).1
  refine Classical.byContradiction fun hne => ?_
  have := alone2_spec rows 0 h j _ (rows_of hrows hoj) (by omega) (by omega) (by rw [Nat.zero_add, ← hm.up hjs]; exact h1)
  rw [(waits_iff hm oj).2 h2] at this
  cases this
theorem free_spec' {rows : List (Nat × Nat × Nat)} (hrows : ops.toList.map (rowOf md ops) = rows) (hw : wired rows 0 = true) {i L : Nat} {o : Oper} {listed : Array Bool} (hm : Met ops listed L)
    (ho : ops[i]? = some o) (hri : rows[i]? = some (rowOf md ops o)) (hsub : sub (rowOf md ops o).1 L = true) : Region.free md ops listed i = true := by
  unfold Region.free
  rw [ho]
  simp only [List.all_eq_true, List.mem_range]
  intro j hj
  by_cases hji : j = i
  · simp [hji]
  · cases hl : listed.getD j true with
    | true => simp
    | false =>
      have hoj : ∃ oj, ops[j]? = some oj := ⟨ops[j], by simp [hj]⟩
      obtain ⟨oj, hoj⟩ := hoj
      rw [hoj]
      simp only [Bool.or_eq_true, beq_iff_eq, Bool.or_false]
      have hp : ((((rowOf md ops o).2.2 &&& ((rowOf md ops oj).2.1 ||| (rowOf md ops oj).2.2)) ||| ((rowOf md ops oj).2.2 &&& (rowOf md ops o).2.1)) = 0 ∨ (((rowOf md ops oj).2.2 &&& ((rowOf md ops o).2.1 ||| (rowOf md ops o).2.2)) ||| ((rowOf md ops o).2.2 &&& (rowOf md ops oj).2.1)) = 0) ∨ (rowOf md ops o).1.testBit j = true ∨ (rowOf md ops oj).1.testBit i = true := by
        rcases Nat.lt_or_ge i j with hlt | hge
        · have := wired_spec rows 0 hw i j _ _ hri (rows_of hrows hoj) hlt
          simp only [pair, Bool.or_eq_true, beq_iff_eq, Nat.zero_add] at this
          rcases this with (h1 | h1) | h1
          · exact .inl (.inl h1)
          · exact .inr (.inl h1)
          · exact .inr (.inr h1)
        · have := wired_spec rows 0 hw j i _ _ (rows_of hrows hoj) hri (by omega)
          simp only [pair, Bool.or_eq_true, beq_iff_eq, Nat.zero_add] at this
          rcases this with (h1 | h1) | h1
          · exact .inl (.inr h1)
          · exact .inr (.inr h1)
          · exact .inr (.inl h1)
      rcases hp with hp | hp | hp
      · refine Or.inr (Or.inr ?_)
        rcases hp with hp | hp
        · exact (apart_of_masks hp).1
        · exact (apart_of_masks hp).2
      · obtain ⟨e, he, hb, rfl⟩ := (after_bit o j).1 hp
        have := (waits_iff hm o).1 hsub e he hb
        rw [hm.2] at this
        rw [hm.up hj, this] at hl
        cases hl
      · refine Or.inr (Or.inl ?_)
        obtain ⟨e, he, hb, h3⟩ := (after_bit oj i).1 hp
        rw [Array.any_eq_true']
        exact ⟨e, he, by simp [hb, h3]⟩

/-- how many operations a plan runs -/
def count : List (Nat × Nat) → Nat
  | [] => 0
  | (_, 0) :: l => count l + 1
  | (_, 1) :: l => count l + 1
  | (_, _ + 2) :: l => count l + 2

theorem runs_sound {rows : List (Nat × Nat × Nat)} (hrows : ops.toList.map (rowOf md ops) = rows) (hw : wired rows 0 = true)
    (hs : Region.noSelect ops = true) (hQ : ∀ c a d v w, Q (.panic c) (Act.put a d v) w → Q (.panic c) a w) :
    ∀ (pl : List (Nat × Nat)) (S : World → Prop) (fuel : Nat) (listed : Array Bool) (L : Nat) (a : Act) (w : World), Met ops listed L → count pl ≤ fuel → check rows pl L = true → S w → Runs P Q S ops pl a w → wpAnyH P md ops Q S fuel listed a w
  | [], S, fuel, listed, L, a, w, hm, _, hf, hS, h => by
    have hlen : rows.length = ops.size := by rw [← hrows]; simp
    have hL : L = 2 ^ rows.length - 1 := by simpa [check] using hf
    have hr : Region.ready md ops listed = [] := by
      rw [List.eq_nil_iff_forall_not_mem]
      intro j hj
      obtain ⟨h1, o, ho, _⟩ := mem_ready.1 hj
      have hjs := (Array.getElem?_eq_some_iff.1 ho).1
      rw [hm.up hjs, hL, Nat.testBit_two_pow_sub_one, hlen] at h1
      simp [hjs] at h1
    cases fuel with
    | zero => exact ⟨hr, h hS⟩
    | succ n => exact wpAnyH_done hr (h hS) _
  | (i, 0) :: pl, S, fuel, listed, L, a, w, hm, hn, hf, hS, h => by
    obtain ⟨n, rfl⟩ : ∃ n, fuel = n + 1 := ⟨fuel - 1, by simp only [count] at hn; omega⟩
    have hn' : count pl ≤ n := by simp only [count] at hn; omega
    simp only [check, Bool.and_eq_true] at hf
    obtain ⟨o, ho, hri, hsub, hready⟩ := up_spec hrows hm hf.1
    have his := (Array.getElem?_eq_some_iff.1 ho).1
    obtain ⟨o', v, ho', hy, hrun⟩ := h
    obtain rfl : o' = o := Option.some.inj (ho'.symm.trans ho)
    refine wpAnyH_take ho hs (free_spec' hrows hw hm ho hri hsub) (by simpa using hready) (fun c a w hq => hQ c a _ _ w hq) (v := v) ?_ hS (runs_sound hrows hw hs hQ pl S n _ _ _ _ (hm.set his) hn' hf.2 hS hrun)
    rcases hy with ⟨h1, h2⟩ | ⟨h1, h2⟩
    · exact .inl ⟨by rw [wanted_eq]; exact h1, h2⟩
    · exact .inr ⟨by rw [wanted_eq]; exact h1, h2⟩
  | (i, 1) :: pl, S, fuel, listed, L, a, w, hm, hn, hf, hS, h => by
    obtain ⟨n, rfl⟩ : ∃ n, fuel = n + 1 := ⟨fuel - 1, by simp only [count] at hn; omega⟩
    have hn' : count pl ≤ n := by simp only [count] at hn; omega
    simp only [check, Bool.and_eq_true] at hf
    obtain ⟨o, ho, hri, hsub, hready⟩ := up_spec hrows hm hf.1
    have his := (Array.getElem?_eq_some_iff.1 ho).1
    obtain ⟨o', ho', hone⟩ := h
    obtain rfl : o' = o := Option.some.inj (ho'.symm.trans ho)
    refine ⟨fun h0 => absurd hready (by rw [h0]; simp), fun j hj => ?_⟩
    obtain rfl := only_spec hrows hm hf.2.1 j hj
    exact hone.wpOp ho hS (fun a' w' hS' hr => by
      obtain ⟨S', h1, h2, h3⟩ := hr hS'
      exact anyH_mono h1 _ _ _ _ (runs_sound hrows hw hs hQ pl S' n _ _ _ _ (hm.set his) hn' hf.2.2 h2 h3))
  | (i, j + 2) :: pl, S, fuel, listed, L, a, w, hm, hn, hf, hS, h => by
    obtain ⟨n, rfl⟩ : ∃ n, fuel = n + 1 + 1 := ⟨fuel - 2, by simp only [count] at hn; omega⟩
    have hn' : count pl ≤ n := by simp only [count] at hn; omega
    simp only [check, Bool.and_eq_true] at hf
    obtain ⟨⟨ui, uj⟩, ⟨al2, alj, ali⟩, ⟨uj', ui'⟩, hrest⟩ := hf
    obtain ⟨o, ho, _, _, hready⟩ := up_spec hrows hm ui
    obtain ⟨p, hp, _, _, _⟩ := up_spec hrows hm uj
    have his := (Array.getElem?_eq_some_iff.1 ho).1
    have hjs := (Array.getElem?_eq_some_iff.1 hp).1
    obtain ⟨o', p', ho', hp', h1, h2⟩ := h
    obtain rfl : o' = o := Option.some.inj (ho'.symm.trans ho)
    obtain rfl : p' = p := Option.some.inj (hp'.symm.trans hp)
    refine ⟨fun h0 => absurd hready (by rw [h0]; simp), fun k hk => ?_⟩
    rcases only2_spec hrows hm al2 k hk with rfl | rfl
    · refine h1.wpOp ho hS (fun a' w' hS' hr => ?_)
      obtain ⟨_, _, _, _, hr2⟩ := up_spec hrows (hm.set his) uj'
      refine ⟨fun h0 => absurd hr2 (by rw [h0]; simp), fun k' hk' => ?_⟩
      obtain rfl := only_spec hrows (hm.set his) alj k' hk'
      exact hr.wpOp hp hS' (fun a2 w2 hS2 hr3 => runs_sound hrows hw hs hQ pl S n _ _ _ _ ((hm.set his).set hjs) hn' hrest hS2 hr3)
    · refine h2.wpOp hp hS (fun a' w' hS' hr => ?_)
      obtain ⟨_, _, _, _, hr2⟩ := up_spec hrows (hm.set hjs) ui'
      refine ⟨fun h0 => absurd hr2 (by rw [h0]; simp), fun k' hk' => ?_⟩
      obtain rfl := only_spec hrows (hm.set hjs) ali k' hk'
      refine hr.wpOp ho hS' (fun a2 w2 hS2 hr3 => runs_sound hrows hw hs hQ pl S n _ _ _ _ ((hm.set hjs).set his) hn' ?_ hS2 hr3)
      rw [Nat.or_assoc, Nat.or_comm (2 ^ k), ← Nat.or_assoc]
      exact hrest

/-- The beginning: the plan is written out; that it fits is computed. -/
theorem region_runs (rows : List (Nat × Nat × Nat)) (pl : List (Nat × Nat)) {id : Nat} {a : Act} {w : World} (hm : P.follows .mixedOrders = true) (hs : Region.noSelect ops = true)
    (hQ : ∀ c a d v w, Q (.panic c) (Act.put a d v) w → Q (.panic c) a w)
    (hrows : ops.toList.map (rowOf .any ops) = rows) (hp : (wired rows 0 && (check rows pl 0 && decide (count pl ≤ rows.length))) = true) (hS : S w.drew)
    (h : Runs P Q S ops pl a w.drew) : (Code.region id ops true).wp P Q a w :=
  wp_region_held_drew hm hS (fun hS' => by
    simp only [Bool.and_eq_true, decide_eq_true_eq] at hp
    have hlen : rows.length = ops.size := by rw [← hrows]; simp
    exact runs_sound hrows hp.1 hs hQ _ _ _ _ _ _ _ (Met.start ops) (by omega) hp.2.1 hS' h)

/-! ### the steps, written out -/
def stepOf (ops : Array Oper) (k i : Nat) : List (Nat × Option (Option Tmp × Bool) × Oper) := (ops[i]?).toList.map fun o => (k, guardOf ops o, o)
def stepsOf (ops : Array Oper) : List (Nat × Nat) → List (Nat × Option (Option Tmp × Bool) × Oper)
  | [] => []
  | (i, 0) :: pl => stepOf ops 0 i ++ stepsOf ops pl
  | (i, 1) :: pl => stepOf ops 1 i ++ stepsOf ops pl
  | (i, j + 2) :: pl => stepOf ops 2 i ++ (stepOf ops 3 j ++ stepsOf ops pl)

/-- one operation, then K -/
def Act1 (P : Program) (Q : Exit → Act → World → Prop) (S : World → Prop) (g : Option (Option Tmp × Bool)) (o : Oper) (a : Act) (w : World) (K : Act → World → Prop) : Prop :=
  (gate a g = true ∧ (S w → Oper.wp P o a w (fun a' w' => S w' ∧ K a' w') Q)) ∨ (gate a g = false ∧ K (a.put o.dst undef) w)
def Walk (P : Program) (Q : Exit → Act → World → Prop) : (World → Prop) → List (Nat × Option (Option Tmp × Bool) × Oper) → Act → World → Prop
  | S, [], a, w => S w → Q .normal a w
  | S, (0, g, o) :: l, a, w => ∃ v, ((gate a g = true ∧ ∀ w', S w' → (execOp a.eval o).run P w' = .ok (.value v) w') ∨ (gate a g = false ∧ v = undef)) ∧ Walk P Q S l (a.put o.dst v) w
  | S, (1, g, o) :: l, a, w => Act1 P Q S g o a w (fun a' w' => S w' → ∃ S' : World → Prop, (∀ z, S' z → S z) ∧ S' w' ∧ Walk P Q S' l a' w')
  | S, (_ + 2, g, o) :: (_, g', o') :: l, a, w => Act1 P Q S g o a w (fun a' w' => Act1 P Q S g' o' a' w' (Walk P Q S l)) ∧ Act1 P Q S g' o' a w (fun a' w' => Act1 P Q S g o a' w' (Walk P Q S l))
  | _, (_ + 2, _, _) :: [], _, _ => False

theorem Act1.mono {g : Option (Option Tmp × Bool)} {o : Oper} {a : Act} {w : World} {K K' : Act → World → Prop} (h : Act1 P Q S g o a w K) (hK : ∀ a w, K a w → K' a w) : Act1 P Q S g o a w K' := by
  rcases h with ⟨h1, h2⟩ | ⟨h1, h2⟩
  · exact .inl ⟨h1, fun hS => Oper.wp_mono (fun a' w' h' => ⟨h'.1, hK _ _ h'.2⟩) (h2 hS)⟩
  · exact .inr ⟨h1, hK _ _ h2⟩

theorem step_some {k i : Nat} {o : Oper} (ho : ops[i]? = some o) : stepOf ops k i = [(k, guardOf ops o, o)] := by simp [stepOf, ho]

theorem walk_runs : ∀ (pl : List (Nat × Nat)) (S : World → Prop), (∀ x ∈ pl, (ops[x.1]?).isSome = true ∧ ∀ j, x.2 = j + 2 → (ops[j]?).isSome = true) → ∀ a w, Walk P Q S (stepsOf ops pl) a w → Runs P Q S ops pl a w
  | [], S, _, a, w, h => h
  | (i, 0) :: pl, S, hk, a, w, h => by
    obtain ⟨o, ho⟩ := Option.isSome_iff_exists.1 (hk _ (List.mem_cons_self ..)).1
    have e : stepsOf ops ((i, 0) :: pl) = (0, guardOf ops o, o) :: stepsOf ops pl := by simp only [stepsOf, step_some ho, List.singleton_append]
    rw [e] at h
    obtain ⟨v, hv, hr⟩ := h
    exact ⟨o, v, ho, hv, walk_runs pl S (fun x hx => hk x (List.mem_cons_of_mem _ hx)) _ _ hr⟩
  | (i, 1) :: pl, S, hk, a, w, h => by
    obtain ⟨o, ho⟩ := Option.isSome_iff_exists.1 (hk _ (List.mem_cons_self ..)).1
    have e : stepsOf ops ((i, 1) :: pl) = (1, guardOf ops o, o) :: stepsOf ops pl := by simp only [stepsOf, step_some ho, List.singleton_append]
    rw [e] at h
    exact ⟨o, ho, Act1.mono h (fun a w hr hS => by
      obtain ⟨S', h1, h2, h3⟩ := hr hS
      exact ⟨S', h1, h2, walk_runs pl S' (fun x hx => hk x (List.mem_cons_of_mem _ hx)) _ _ h3⟩)⟩
  | (i, j + 2) :: pl, S, hk, a, w, h => by
    obtain ⟨o, ho⟩ := Option.isSome_iff_exists.1 (hk _ (List.mem_cons_self ..)).1
    obtain ⟨p, hp⟩ := Option.isSome_iff_exists.1 ((hk _ (List.mem_cons_self ..)).2 j rfl)
    have e : stepsOf ops ((i, j + 2) :: pl) = (2, guardOf ops o, o) :: (3, guardOf ops p, p) :: stepsOf ops pl := by simp only [stepsOf, step_some ho, step_some hp, List.singleton_append]
    rw [e] at h
    have hr : ∀ a w, Walk P Q S (stepsOf ops pl) a w → Runs P Q S ops pl a w := fun a w hr => walk_runs pl S (fun x hx => hk x (List.mem_cons_of_mem _ hx)) _ _ hr
    exact ⟨o, p, ho, hp, Act1.mono h.1 (fun a w h' => Act1.mono h' hr), Act1.mono h.2 (fun a w h' => Act1.mono h' hr)⟩

theorem there {rows : List (Nat × Nat × Nat)} (hrows : ops.toList.map (rowOf md ops) = rows) {i L : Nat} (h : up rows i L = true) : (ops[i]?).isSome = true := by
  unfold up at h
  cases hri : rows[i]? with
  | none => rw [hri] at h; cases h
  | some r => obtain ⟨o, ho, _⟩ := rows_at hrows hri; rw [ho]; rfl
theorem check_there {rows : List (Nat × Nat × Nat)} (hrows : ops.toList.map (rowOf md ops) = rows) : ∀ (pl : List (Nat × Nat)) (L : Nat), check rows pl L = true → ∀ x ∈ pl, (ops[x.1]?).isSome = true ∧ ∀ j, x.2 = j + 2 → (ops[j]?).isSome = true
  | [], _, _, x, hx => by cases hx
  | (i, 0) :: pl, L, h, x, hx => by
    simp only [check, Bool.and_eq_true] at h
    rcases List.mem_cons.1 hx with rfl | hx
    · exact ⟨there hrows h.1, fun j hj => by cases hj⟩
    · exact check_there hrows pl _ h.2 x hx
  | (i, 1) :: pl, L, h, x, hx => by
    simp only [check, Bool.and_eq_true] at h
    rcases List.mem_cons.1 hx with rfl | hx
    · exact ⟨there hrows h.1, fun j hj => by cases hj⟩
    · exact check_there hrows pl _ h.2.2 x hx
  | (i, j + 2) :: pl, L, h, x, hx => by
    simp only [check, Bool.and_eq_true] at h
    rcases List.mem_cons.1 hx with rfl | hx
    · exact ⟨there hrows h.1.1, fun k hk => by cases hk; exact there hrows h.1.2⟩
    · exact check_there hrows pl _ h.2.2.2 x hx

/-- THE BEGINNING: the plan, and the steps written out ('hl' by simp). -/
theorem region_walk {id : Nat} {a : Act} {w : World} (rows : List (Nat × Nat × Nat)) (pl : List (Nat × Nat)) {l : List (Nat × Option (Option Tmp × Bool) × Oper)} (hm : P.follows .mixedOrders = true) (hs : Region.noSelect ops = true)
    (hrows : ops.toList.map (rowOf .any ops) = rows) (hp : (wired rows 0 && (check rows pl 0 && decide (count pl ≤ rows.length))) = true)
    (hl : stepsOf ops pl = l) (hS : S w.drew) (h : Walk P (NoPanic Q) S l a w.drew) : (Code.region id ops true).wp P Q a w :=
  wp_region_noPanic (region_runs rows pl hm hs (fun _ _ _ _ _ h => h) hrows hp hS (by
    simp only [Bool.and_eq_true, decide_eq_true_eq] at hp
    exact walk_runs pl S (check_there hrows pl 0 hp.2.1) a _ (by rw [hl]; exact h)))

theorem ends {a : Act} {w : World} (h : S w → Q .normal a w) : Walk P (NoPanic Q) S [] a w := fun hS => NoPanic.normal (h hS)
section
variable {o : Oper} {l : List (Nat × Option (Option Tmp × Bool) × Oper)} {a : Act} {w : World} {g : Option (Option Tmp × Bool)} {v : Value} {t : Tmp} {b : Bool}
theorem gate_some (h : a.tmps.toList[t]? = some (.bool b)) (c : Bool) : gate a (some (some t, c)) = (b == c) := by
  have h' : a.tmps[t]? = some (.bool b) := by rw [← Array.getElem?_toList]; exact h
  simp [gate, h']
theorem takes (hy : ∀ w', S w' → (execOp a.eval o).run P w' = .ok (.value v) w') (h : Walk P Q S l (a.put o.dst v) w) : Walk P Q S ((0, none, o) :: l) a w := ⟨v, .inl ⟨rfl, hy⟩, h⟩
theorem takesG (hg : a.tmps.toList[t]? = some (.bool b)) (hy : ∀ w', S w' → (execOp a.eval o).run P w' = .ok (.value v) w') (h : Walk P Q S l (a.put o.dst v) w) : Walk P Q S ((0, some (some t, b), o) :: l) a w :=
  ⟨v, .inl ⟨by rw [gate_some hg]; simp, hy⟩, h⟩
theorem skipsT (hg : a.tmps.toList[t]? = some (.bool false)) (h : Walk P Q S l (a.put o.dst undef) w) : Walk P Q S ((0, some (some t, true), o) :: l) a w :=
  ⟨undef, .inr ⟨by rw [gate_some hg]; simp, rfl⟩, h⟩
theorem skipsF (hg : a.tmps.toList[t]? = some (.bool true)) (h : Walk P Q S l (a.put o.dst undef) w) : Walk P Q S ((0, some (some t, false), o) :: l) a w :=
  ⟨undef, .inr ⟨by rw [gate_some hg]; simp, rfl⟩, h⟩
theorem gate_undef {a : Act} {t : Tmp} (h : a.tmps.toList[t]? = some undef) (c : Bool) : gate a (some (some t, c)) = false := by
  have h' : a.tmps[t]? = some undef := by rw [← Array.getElem?_toList]; exact h
  simp [gate, h', undef]
/-- an operation that was guarded by one that did not run -/
theorem skipsU (hg : a.tmps.toList[t]? = some undef) (h : Walk P Q S l (a.put o.dst undef) w) : Walk P Q S ((0, some (some t, b), o) :: l) a w :=
  ⟨undef, .inr ⟨gate_undef hg b, rfl⟩, h⟩
theorem passT (hg : a.tmps.toList[t]? = some (.bool false)) (h : Walk P Q S l (a.put o.dst undef) w) : Walk P Q S ((1, some (some t, true), o) :: l) a w := .inr ⟨by rw [gate_some hg]; simp, fun hS => ⟨S, fun _ h => h, hS, h⟩⟩
theorem passF (hg : a.tmps.toList[t]? = some (.bool true)) (h : Walk P Q S l (a.put o.dst undef) w) : Walk P Q S ((1, some (some t, false), o) :: l) a w := .inr ⟨by rw [gate_some hg]; simp, fun hS => ⟨S, fun _ h => h, hS, h⟩⟩
theorem passU (hg : a.tmps.toList[t]? = some undef) (h : Walk P Q S l (a.put o.dst undef) w) : Walk P Q S ((1, some (some t, b), o) :: l) a w := .inr ⟨gate_undef hg b, fun hS => ⟨S, fun _ h => h, hS, h⟩⟩
/-- an operation that comes up alone -/
theorem runs (h : Act1 P Q S g o a w (Walk P Q S l)) : Walk P Q S ((1, g, o) :: l) a w := Act1.mono h (fun _ _ h hS => ⟨S, fun _ h => h, hS, h⟩)
/-- .. behind which more is known to hold -/
theorem runsS (h : Act1 P Q S g o a w (fun a' w' => S w' → ∃ S' : World → Prop, (∀ z, S' z → S z) ∧ S' w' ∧ Walk P Q S' l a' w')) : Walk P Q S ((1, g, o) :: l) a w := h
theorem both {g' : Option (Option Tmp × Bool)} {o' : Oper} (h1 : Act1 P Q S g o a w (fun a' w' => Act1 P Q S g' o' a' w' (Walk P Q S l))) (h2 : Act1 P Q S g' o' a w (fun a' w' => Act1 P Q S g o a' w' (Walk P Q S l))) :
    Walk P Q S ((2, g, o) :: (3, g', o') :: l) a w := ⟨h1, h2⟩
theorem one {R : Act → World → Prop} (h : S w → ∀ K, Shut (∀ a' w', S w' → R a' w' → K a' w') → Oper.wp P o a w K Q) : Act1 P Q S none o a w R := .inl ⟨rfl, fun hS => h hS _ (fun _ _ h1 h2 => ⟨h1, h2⟩)⟩
theorem oneG {R : Act → World → Prop} (hg : a.tmps.toList[t]? = some (.bool b)) (h : S w → ∀ K, Shut (∀ a' w', S w' → R a' w' → K a' w') → Oper.wp P o a w K Q) : Act1 P Q S (some (some t, b)) o a w R :=
  .inl ⟨by rw [gate_some hg]; simp, fun hS => h hS _ (fun _ _ h1 h2 => ⟨h1, h2⟩)⟩

/-- is f a function of the program's own text? -/
def enterable (P : Program) (f : FuncId) : Bool := match P.funcs[f]? with | some fn => !(fn.name == "runtime.NumGoroutine") && fn.body.isSome | none => false
theorem callFunc_enters {f : FuncId} (h : enterable P f = true) (args : Array Value) (w : World) : (callFunc f args).run P w = .ok (.enter f args) w := by
  unfold enterable at h
  cases hf : P.funcs[f]? with
  | none => rw [hf] at h; cases h
  | some fn =>
    rw [hf] at h
    simp only [Bool.and_eq_true, Bool.not_eq_true'] at h
    have h1 : ¬ fn.name = "runtime.NumGoroutine" := by simpa using h.1
    have hn : ¬ fn.body = none := by intro hb; rw [hb] at h; exact absurd h.2 (by simp)
    simp [callFunc, go_sem, hf, h1, hn]
theorem wp_call {f : FuncId} {dst : Option Tmp} {xs : Array Operand} {ts : Array TypeId} {ty : TypeId} {pos : String} {after : Array Edge} {guard : Option (Nat × Bool)} {vs : Array Value} {T : Ending → World → Prop} {R K : Act → World → Prop}
    (hf : enterable P f = true) (c : Calls P f vs w T) (hargs : xs.toList.map a.eval = vs.toList) (hK : Shut (∀ a' w', S w' → R a' w' → K a' w'))
    (h : ∀ e w', T e w' → ∃ v, e = .returned v ∧ S w' ∧ R (a.put dst v) w') : Oper.wp P { dst, op := .call { callee := .value (.func f), args := xs, argTypes := ts }, type := ty, pos, after, guard } a w K Q := by
  unfold Oper.wp
  rw [execOp_call_go, callFunc_enters hf, Oper.upon_enter]
  have e : (#[] ++ xs.map a.eval ++ #[] : Array Value) = vs := by
    apply Array.ext'
    rw [← hargs]
    simp
  rw [e]
  refine c.mono fun e w' he => ?_
  obtain ⟨v, rfl, hS', hr⟩ := h e w' he
  exact hK.out _ _ hS' hr
/-- a call by its contract -/
theorem callF (f : FuncId) {dst : Option Tmp} {xs : Array Operand} {ts : Array TypeId} {ty : TypeId} {pos : String} {after : Array Edge} {guard : Option (Nat × Bool)} {vs : Array Value} {T : Ending → World → Prop} {R : Act → World → Prop}
    (hf : enterable P f = true) (c : S w → Calls P f vs w T) (hargs : xs.toList.map a.eval = vs.toList) (h : S w → ∀ e w', T e w' → ∃ v, e = .returned v ∧ S w' ∧ R (a.put dst v) w') :
    Act1 P Q S none { dst, op := .call { callee := .value (.func f), args := xs, argTypes := ts }, type := ty, pos, after, guard } a w R :=
  one fun hS _ hK => wp_call hf (c hS) hargs hK (h hS)
theorem callG (f : FuncId) {dst : Option Tmp} {xs : Array Operand} {ts : Array TypeId} {ty : TypeId} {pos : String} {after : Array Edge} {guard : Option (Nat × Bool)} {vs : Array Value} {T : Ending → World → Prop} {R : Act → World → Prop}
    (hf : enterable P f = true) (hg : a.tmps.toList[t]? = some (.bool b)) (c : S w → Calls P f vs w T) (hargs : xs.toList.map a.eval = vs.toList) (h : S w → ∀ e w', T e w' → ∃ v, e = .returned v ∧ S w' ∧ R (a.put dst v) w') :
    Act1 P Q S (some (some t, b)) { dst, op := .call { callee := .value (.func f), args := xs, argTypes := ts }, type := ty, pos, after, guard } a w R :=
  oneG hg fun hS _ hK => wp_call hf (c hS) hargs hK (h hS)
end
end
section
variable {P : Program} {ops : Array Oper} {Q : Exit → Act → World → Prop} {md : Region.Mode} {S : World → Prop} {z : Nat}

/-- whatever order is picked; S holds behind every operation but number z -/
def wpAnyZ (P : Program) (md : Region.Mode) (ops : Array Oper) (Q : Exit → Act → World → Prop) (S : World → Prop) (z : Nat) : Nat → Array Bool → Act → World → Prop
  | 0, listed, a, w => Region.ready md ops listed = [] ∧ Q .normal a w
  | fuel + 1, listed, a, w => (Region.ready md ops listed = [] → Q .normal a w) ∧
    ∀ i ∈ Region.ready md ops listed, wpOp P ops Q i (fun a' w' => (i ≠ z → S w') ∧ wpAnyZ P md ops Q S z fuel (listed.setIfInBounds i true) a' w') a w
theorem any_of_Z : ∀ (fuel : Nat) (listed : Array Bool) (a : Act) (w : World), wpAnyZ P md ops Q S z fuel listed a w → wpAny P md ops Q fuel listed a w
  | 0, _, _, _, h => h
  | fuel + 1, _, _, _, h => ⟨h.1, fun i hi => wpOp_mono (fun a' w' h' => any_of_Z fuel _ a' w' h'.2) (h.2 i hi)⟩

/-- z waits for all others, or for one that does -/
def Waits (md : Region.Mode) (ops : Array Oper) (z : Nat) : Prop := ∀ o, ops[z]? = some o → ∀ j, j < ops.size → j ≠ z →
  (∃ e ∈ o.after, Region.binds md e = true ∧ e.on = j) ∨ ∃ e ∈ o.after, Region.binds md e = true ∧ ∃ o', ops[e.on]? = some o' ∧ ∃ e' ∈ o'.after, Region.binds md e' = true ∧ e'.on = j
/-- what has come up: with all that it waits for -/
def Closed (md : Region.Mode) (ops : Array Oper) (listed : Array Bool) : Prop := ∀ j o, ops[j]? = some o → listed.getD j false = true → ∀ e ∈ o.after, Region.binds md e = true → listed.getD e.on false = true
theorem Closed.start (md : Region.Mode) (ops : Array Oper) : Closed md ops (Array.replicate ops.size false) := fun j o _ h => by
  simp only [Array.getD_eq_getD_getElem?, Array.getElem?_replicate] at h
  split at h <;> cases h
theorem listed_set {listed : Array Bool} {k : Nat} (h : listed.getD k false = true) (i : Nat) : (listed.setIfInBounds i true).getD k false = true := by
  simp only [Array.getD_eq_getD_getElem?, Array.getElem?_setIfInBounds] at *
  split
  · split <;> simp_all
  · exact h
theorem Closed.set {listed : Array Bool} (h : Closed md ops listed) {i : Nat} (hi : i ∈ Region.ready md ops listed) : Closed md ops (listed.setIfInBounds i true) := by
  obtain ⟨h1, oi, hoi, h2⟩ := mem_ready.1 hi
  intro j o ho hj e he hb
  by_cases hji : j = i
  · subst hji
    obtain rfl : o = oi := Option.some.inj (ho.symm.trans hoi)
    exact listed_set (h2 e he hb) j
  · refine listed_set (h j o ho ?_ e he hb) i
    simp only [Array.getD_eq_getD_getElem?, Array.getElem?_setIfInBounds] at *
    rw [if_neg (fun e => hji e.symm)] at hj
    exact hj
/-- what those of a set wait for -/
def reach : List (Nat × Nat × Nat) → Nat → Nat → Nat
  | [], _, _ => 0
  | r :: rs, k, m => (if m.testBit k then r.1 else 0) ||| reach rs (k + 1) m
theorem reach_spec : ∀ (rs : List (Nat × Nat × Nat)) (k m j : Nat), (reach rs k m).testBit j = true → ∃ i r, rs[i]? = some r ∧ m.testBit (k + i) = true ∧ r.1.testBit j = true
  | [], k, m, j, h => by simp [reach] at h
  | r :: rs, k, m, j, h => by
    simp only [reach, Nat.testBit_or, Bool.or_eq_true] at h
    rcases h with h | h
    · by_cases hk : m.testBit k = true
      · rw [if_pos hk] at h; exact ⟨0, r, rfl, hk, h⟩
      · rw [if_neg hk] at h; simp at h
    · obtain ⟨i, r', h1, h2, h3⟩ := reach_spec rs (k + 1) m j h
      exact ⟨i + 1, r', by simpa using h1, by rw [← h2]; congr 1; omega, h3⟩

theorem firstZ (hz : Waits md ops z) {i : Nat} {oi : Oper} {v : Value} (hi : ops[i]? = some oi) (hiz : i ≠ z) (hsel : ∀ (j : Nat) (o : Oper) cs b, ops[j]? = some o → o.op ≠ .select cs b)
    (hQ : ∀ c a w, Q (.panic c) (a.put oi.dst v) w → Q (.panic c) a w) :
    ∀ (fuel : Nat) (listed : Array Bool) (a : Act) (w : World), Closed md ops listed →
      (∀ j oj, ops[j]? = some oj → j ≠ i → listed.getD j true = false → (∀ e ∈ oj.after, Region.binds md e = true → e.on ≠ i) → oi.apart ops oj = true) →
      i ∈ Region.ready md ops listed → YieldsIf P ops S oi v a → S w →
      wpAnyZ P md ops Q S z fuel (listed.setIfInBounds i true) (a.put oi.dst v) w → wpAnyZ P md ops Q S z (fuel + 1) listed a w := by
  have his := (Array.getElem?_eq_some_iff.1 hi).1
  intro fuel
  induction fuel with
  | zero =>
    intro listed a w _ _ hr hy hS H
    refine ⟨fun h => (by rw [h] at hr; cases hr), fun j hj => ?_⟩
    by_cases hji : j = i
    · subst hji; exact hy.wpOp hi hS ⟨fun _ => hS, H⟩
    · have := ready_mono hj hji
      rw [H.1] at this
      cases this
  | succ fuel ih =>
    intro listed a w hcl hfree hr hy hS H
    refine ⟨fun h => (by rw [h] at hr; cases hr), fun j hj => ?_⟩
    by_cases hji : j = i
    · subst hji; exact hy.wpOp hi hS ⟨fun _ => hS, H⟩
    · have h1 := H.2 j (ready_mono hj hji)
      obtain ⟨hjun, oj, hoj, hall⟩ := mem_ready.1 hj
      have hnot : ∀ e ∈ oj.after, Region.binds md e = true → e.on ≠ i := fun e he hb heq => by
        have h1 := hall e he hb
        have h0 := (mem_ready.1 hr).1
        rw [heq] at h1
        rcases Nat.lt_or_ge i listed.size with h' | h'
        · simp [h'] at h0 h1; rw [h0] at h1; cases h1
        · simp [Array.getElem?_eq_none h'] at h1
      have hjz : j ≠ z := by
        rintro rfl
        rcases hz oj hoj i his (fun e => hji e.symm) with ⟨e, he, hb, hon⟩ | ⟨e, he, hb, o', ho', e', he', hb', hon⟩
        · exact hnot e he hb hon
        · have h9 := hcl _ o' ho' (hall e he hb) e' he' hb'
          have h0 := (mem_ready.1 hr).1
          rw [hon] at h9
          rcases Nat.lt_or_ge i listed.size with h' | h'
          · simp [h'] at h0 h9; rw [h0] at h9; cases h9
          · simp [Array.getElem?_eq_none h'] at h9
      have h2 := wpOp_putIf hoj (hfree j oj hoj hji hjun hnot) (fun cs b => hsel i oi cs b hi) (fun cs b => hsel j oj cs b hoj) hQ hy h1
      have hfree' : ∀ k ok, ops[k]? = some ok → k ≠ i → (listed.setIfInBounds j true).getD k true = false →
          (∀ e ∈ ok.after, Region.binds md e = true → e.on ≠ i) → oi.apart ops ok = true := fun k ok hk hki hun hno => by
        refine hfree k ok hk hki ?_ hno
        by_cases hjk : j = k
        · subst hjk; exact hjun
        · rw [getD_set_ne true hjk] at hun; exact hun
      refine wpOp_mono (fun a' w' h3 => ⟨fun _ => h3.2.1 hjz, ih (listed.setIfInBounds j true) a' w' (hcl.set hj) hfree' (ready_mono hr (Ne.symm hji)) h3.1 (h3.2.1 hjz) ?_⟩) h2
      rw [Array.setIfInBounds_comm _ _ hji]
      exact h3.2.2

theorem wp_other {o : Oper} {a : Act} {w : World} {K : Act → World → Prop} {Q1 : Exit → Act → World → Prop} (hp : ∀ c a w, Q1 (.panic c) a w → Q (.panic c) a w) (ho : ∀ a w, Q1 .outgrown a w → Q .outgrown a w)
    (hh : o.wp P a w K Q1) : o.wp P a w K Q := by
  unfold Oper.wp at *
  generalize (execOp a.eval o).run P w = r at *
  cases r with
  | ok n w' =>
    cases n <;> simp only [Oper.upon] at hh ⊢ <;>
      first
        | exact hh
        | exact Calls.mono hh (fun e w'' he => by cases e <;> first | exact he | exact hp _ _ _ he | exact (he : LetsOut Q1).imp (fun a h => h.imp (fun w => ho a w)))
  | halt x w' => cases x <;> simp only [Oper.upon] at hh ⊢ <;> first | exact hp _ _ _ hh | exact hh

/-- what is asked of the others: that behind them o does what is wanted -/
def LastQ (P : Program) (Q : Exit → Act → World → Prop) (S : World → Prop) (o : Oper) : Exit → Act → World → Prop
  | .normal, a, w => S w → Oper.wp P o a w (fun a' w' => Q .normal a' w') Q
  | e, a, w => Q e a w

theorem anyZ_mono {S S' : World → Prop} (hs : ∀ z, S' z → S z) : ∀ (fuel : Nat) (listed : Array Bool) (a : Act) (w : World), wpAnyZ P md ops Q S' z fuel listed a w → wpAnyZ P md ops Q S z fuel listed a w
  | 0, _, _, _, h => h
  | fuel + 1, _, _, _, h => ⟨h.1, fun i hi => wpOp_mono (fun a' w' h' => ⟨fun hz => hs _ (h'.1 hz), anyZ_mono hs fuel _ a' w' h'.2⟩) (h.2 i hi)⟩
theorem One.opZ {S S0 : World → Prop} {i : Nat} {o oz : Oper} {a : Act} {w : World} {K K' : Act → World → Prop} (ho : ops[i]? = some o) (hS : S w) (h : One P (LastQ P Q S0 oz) S ops o a w K) (hK : ∀ a' w', S w' → K a' w' → K' a' w') :
    Go.wpOp P ops Q i (fun a' w' => (i ≠ z → S w') ∧ K' a' w') a w := by
  unfold Go.wpOp
  simp only [ho]
  rcases h with ⟨h1, h2⟩ | ⟨h1, h2⟩
  · rw [if_pos (by rw [wanted_eq]; exact h1)]
    exact .inl (Oper.wp_mono (K := fun a' w' => S w' ∧ K a' w') (fun a' w' h' => ⟨fun _ => h'.1, hK _ _ h'.1 h'.2⟩) (wp_other (Q1 := LastQ P Q S0 oz) (fun _ _ _ h => h) (fun _ _ h => h) (h2 hS)))
  · rw [if_neg (by rw [wanted_eq, h1]; exact Bool.false_ne_true)]
    exact ⟨fun _ => hS, hK _ _ hS h2⟩

theorem ready_bit {rows : List (Nat × Nat × Nat)} (hrows : ops.toList.map (rowOf md ops) = rows) {L : Nat} {listed : Array Bool} (hm : Met ops listed L) (hL : L = 2 ^ rows.length - 1) : Region.ready md ops listed = [] := by
  have hlen : rows.length = ops.size := by rw [← hrows]; simp
  rw [List.eq_nil_iff_forall_not_mem]
  intro j hj
  obtain ⟨h1, o, ho, _⟩ := mem_ready.1 hj
  have hjs := (Array.getElem?_eq_some_iff.1 ho).1
  rw [hm.up hjs, hL, Nat.testBit_two_pow_sub_one, hlen] at h1
  simp [hjs] at h1

/-- does a plan leave z alone? -/
def apartOf (z : Nat) : List (Nat × Nat) → Bool
  | [] => true
  | (i, 0) :: l => (i != z) && apartOf z l
  | (i, 1) :: l => (i != z) && apartOf z l
  | (i, j + 2) :: l => ((i != z) && (j != z)) && apartOf z l

theorem runs_soundZ {rows : List (Nat × Nat × Nat)} (hrows : ops.toList.map (rowOf md ops) = rows) (hw : wired rows 0 = true)
    (hs : Region.noSelect ops = true) (hQ : ∀ c a d v w, Q (.panic c) (Act.put a d v) w → Q (.panic c) a w) {oz : Oper} (hoz : ops[z]? = some oz) (hgz : oz.guard = none) (hz : Waits md ops z) :
    ∀ (pl : List (Nat × Nat)) (S1 : World → Prop) (fuel : Nat) (listed : Array Bool) (L : Nat) (a : Act) (w : World), Met ops listed L → Closed md ops listed → count pl + 1 ≤ fuel → check rows (pl ++ [(z, 1)]) L = true → apartOf z pl = true → (∀ z, S1 z → S z) → S1 w →
      Runs P (LastQ P Q S oz) S1 ops pl a w → wpAnyZ P md ops Q S1 z fuel listed a w
  | [], S1, fuel, listed, L, a, w, hm, hcl, hn, hf, _, hsub1, hS, h => by
    obtain ⟨n, rfl⟩ : ∃ n, fuel = n + 1 := ⟨fuel - 1, by simp only [count] at hn; omega⟩
    simp only [List.nil_append, check, Bool.and_eq_true, beq_iff_eq] at hf
    obtain ⟨o, ho, hri, hsub, hready⟩ := up_spec hrows hm hf.1
    have his := (Array.getElem?_eq_some_iff.1 ho).1
    obtain rfl : o = oz := Option.some.inj (ho.symm.trans hoz)
    refine ⟨fun h0 => absurd hready (by rw [h0]; simp), fun j hj => ?_⟩
    obtain rfl := only_spec hrows hm hf.2.1 j hj
    unfold Go.wpOp
    simp only [ho]
    rw [if_pos (by unfold Region.wanted; rw [hgz])]
    refine .inl (Oper.wp_mono (fun a' w' h' => ⟨fun hne => absurd rfl hne, ?_⟩) (h hS (hsub1 _ hS)))
    have hr : Region.ready md ops (listed.setIfInBounds j true) = [] := ready_bit hrows (hm.set his) hf.2.2
    cases n with
    | zero => exact ⟨hr, h'⟩
    | succ n => exact ⟨fun _ => h', by rw [hr]; simp⟩
  | (i, 0) :: pl, S1, fuel, listed, L, a, w, hm, hcl, hn, hf, hap, hsub1, hS, h => by
    obtain ⟨n, rfl⟩ : ∃ n, fuel = n + 1 := ⟨fuel - 1, by simp only [count] at hn; omega⟩
    have hn' : count pl + 1 ≤ n := by simp only [count] at hn; omega
    simp only [List.cons_append, check, Bool.and_eq_true] at hf
    simp only [apartOf, Bool.and_eq_true, bne_iff_ne, ne_eq] at hap
    obtain ⟨o, ho, hri, hsub, hready⟩ := up_spec hrows hm hf.1
    have his := (Array.getElem?_eq_some_iff.1 ho).1
    obtain ⟨o', v, ho', hy, hrun⟩ := h
    obtain rfl : o' = o := Option.some.inj (ho'.symm.trans ho)
    refine firstZ hz ho hap.1 (Region.noSelect_spec hs) (fun c a w hq => hQ c a _ _ w hq) (v := v) n listed a w hcl (Region.free_spec ho (free_spec' hrows hw hm ho hri hsub)) (by simpa using hready) ?_ hS
      (runs_soundZ hrows hw hs hQ hoz hgz hz pl S1 n _ _ _ _ (hm.set his) (hcl.set (by simpa using hready)) hn' hf.2 hap.2 hsub1 hS hrun)
    rcases hy with ⟨h1, h2⟩ | ⟨h1, h2⟩
    · exact .inl ⟨by rw [wanted_eq]; exact h1, h2⟩
    · exact .inr ⟨by rw [wanted_eq]; exact h1, h2⟩
  | (i, 1) :: pl, S1, fuel, listed, L, a, w, hm, hcl, hn, hf, hap, hsub1, hS, h => by
    obtain ⟨n, rfl⟩ : ∃ n, fuel = n + 1 := ⟨fuel - 1, by simp only [count] at hn; omega⟩
    have hn' : count pl + 1 ≤ n := by simp only [count] at hn; omega
    simp only [List.cons_append, check, Bool.and_eq_true] at hf
    simp only [apartOf, Bool.and_eq_true, bne_iff_ne, ne_eq] at hap
    obtain ⟨o, ho, hri, hsub, hready⟩ := up_spec hrows hm hf.1
    have his := (Array.getElem?_eq_some_iff.1 ho).1
    obtain ⟨o', ho', hone⟩ := h
    obtain rfl : o' = o := Option.some.inj (ho'.symm.trans ho)
    refine ⟨fun h0 => absurd hready (by rw [h0]; simp), fun j hj => ?_⟩
    obtain rfl := only_spec hrows hm hf.2.1 j hj
    exact One.opZ ho hS hone (fun a' w' hS' hr => by
      obtain ⟨S', h1, h2, h3⟩ := hr hS'
      exact anyZ_mono h1 _ _ _ _ (runs_soundZ hrows hw hs hQ hoz hgz hz pl S' n _ _ _ _ (hm.set his) (hcl.set hj) hn' hf.2.2 hap.2 (fun z hz => hsub1 z (h1 z hz)) h2 h3))
  | (i, j + 2) :: pl, S1, fuel, listed, L, a, w, hm, hcl, hn, hf, hap, hsub1, hS, h => by
    obtain ⟨n, rfl⟩ : ∃ n, fuel = n + 1 + 1 := ⟨fuel - 2, by simp only [count] at hn; omega⟩
    have hn' : count pl + 1 ≤ n := by simp only [count] at hn; omega
    simp only [List.cons_append, check, Bool.and_eq_true] at hf
    simp only [apartOf, Bool.and_eq_true, bne_iff_ne, ne_eq] at hap
    obtain ⟨⟨ui, uj⟩, ⟨al2, alj, ali⟩, ⟨uj', ui'⟩, hrest⟩ := hf
    obtain ⟨o, ho, _, _, hready⟩ := up_spec hrows hm ui
    obtain ⟨p, hp, _, _, _⟩ := up_spec hrows hm uj
    have his := (Array.getElem?_eq_some_iff.1 ho).1
    have hjs := (Array.getElem?_eq_some_iff.1 hp).1
    obtain ⟨o', p', ho', hp', h1, h2⟩ := h
    obtain rfl : o' = o := Option.some.inj (ho'.symm.trans ho)
    obtain rfl : p' = p := Option.some.inj (hp'.symm.trans hp)
    refine ⟨fun h0 => absurd hready (by rw [h0]; simp), fun k hk => ?_⟩
    rcases only2_spec hrows hm al2 k hk with rfl | rfl
    · refine One.opZ ho hS h1 (fun a' w' hS' hr => ?_)
      obtain ⟨_, _, _, _, hr2⟩ := up_spec hrows (hm.set his) uj'
      refine ⟨fun h0 => absurd hr2 (by rw [h0]; simp), fun k' hk' => ?_⟩
      obtain rfl := only_spec hrows (hm.set his) alj k' hk'
      exact One.opZ hp hS' hr (fun a2 w2 hS2 hr3 => runs_soundZ hrows hw hs hQ hoz hgz hz pl S1 n _ _ _ _ ((hm.set his).set hjs) ((hcl.set hk).set hk') hn' hrest hap.2 hsub1 hS2 hr3)
    · refine One.opZ hp hS h2 (fun a' w' hS' hr => ?_)
      obtain ⟨_, _, _, _, hr2⟩ := up_spec hrows (hm.set hjs) ui'
      refine ⟨fun h0 => absurd hr2 (by rw [h0]; simp), fun k' hk' => ?_⟩
      obtain rfl := only_spec hrows (hm.set hjs) ali k' hk'
      refine One.opZ ho hS' hr (fun a2 w2 hS2 hr3 => runs_soundZ hrows hw hs hQ hoz hgz hz pl S1 n _ _ _ _ ((hm.set hjs).set his) ((hcl.set hk).set hk') hn' ?_ hap.2 hsub1 hS2 hr3)
      rw [Nat.or_assoc, Nat.or_comm (2 ^ k), ← Nat.or_assoc]
      exact hrest

/-- THE BEGINNING, at a region whose operation z comes last: the plan of the others (pl), their steps (l), z itself. -/
theorem region_walkZ {id : Nat} {a : Act} {w : World} (rows : List (Nat × Nat × Nat)) (pl : List (Nat × Nat)) (z : Nat) (oz : Oper) {l : List (Nat × Option (Option Tmp × Bool) × Oper)} (hm : P.follows .mixedOrders = true) (hs : Region.noSelect ops = true)
    (hrows : ops.toList.map (rowOf .any ops) = rows) (hp : (wired rows 0 && (check rows (pl ++ [(z, 1)]) 0 && (decide (count pl + 1 ≤ rows.length) && (apartOf z pl && (((rows.getD z (0, 0, 0)).1 ||| reach rows 0 (rows.getD z (0, 0, 0)).1) ||| 2 ^ z == 2 ^ rows.length - 1))))) = true)
    (hoz : ops[z]? = some oz) (hgz : oz.guard = none) (hl : stepsOf ops pl = l) (hS : S w.drew) (h : Walk P (LastQ P (NoPanic Q) S oz) S l a w.drew) : (Code.region id ops true).wp P Q a w := by
  refine wp_region_noPanic ?_
  simp only [Bool.and_eq_true, decide_eq_true_eq, beq_iff_eq] at hp
  obtain ⟨h1, h2, h3, h4, h5⟩ := hp
  have hlen : rows.length = ops.size := by rw [← hrows]; simp
  have hrz := rows_of hrows hoz
  have hz : Waits .any ops z := by
    intro o ho j hj hne
    obtain rfl : o = oz := Option.some.inj (ho.symm.trans hoz)
    rw [List.getD_eq_getElem?_getD, hrz] at h5
    simp only [Option.getD_some] at h5
    have := congrArg (fun m => Nat.testBit m j) h5
    simp only [Nat.testBit_or, Nat.testBit_two_pow, Nat.testBit_two_pow_sub_one] at this
    have hzj : ¬ z = j := fun e => hne e.symm
    rw [hlen] at this
    simp only [hzj, hj, decide_false, Bool.or_false, decide_true, Bool.or_eq_true] at this
    rcases this with this | this
    · exact .inl ((after_bit o j).1 this)
    · obtain ⟨i, r, h6, h7, h8⟩ := reach_spec _ _ _ _ this
      rw [Nat.zero_add] at h7
      obtain ⟨e, he, hb, rfl⟩ := (after_bit o i).1 h7
      obtain ⟨o', ho', rfl⟩ := rows_at hrows h6
      obtain ⟨e', he', hb', hon⟩ := (after_bit o' j).1 h8
      exact .inr ⟨e, he, hb, o', ho', e', he', hb', hon⟩
  have hthere : ∀ x ∈ pl, (ops[x.1]?).isSome = true ∧ ∀ j, x.2 = j + 2 → (ops[j]?).isSome = true := fun x hx => check_there hrows _ 0 h2 x (List.mem_append_left _ hx)
  have hr : Runs P (LastQ P (NoPanic Q) S oz) S ops pl a w.drew := walk_runs pl S hthere a _ (by rw [hl]; exact h)
  exact wp_region_any hm (any_of_Z _ _ _ _ (runs_soundZ hrows h1 hs (fun _ _ _ _ _ h => h) hoz hgz hz pl S _ _ _ _ _ (Met.start ops) (Closed.start _ _) (by omega) h2 h4 (fun _ h => h) hS hr))
/-- the end of the others -/
theorem endsZ {oz : Oper} {a : Act} {w : World} (h : S w → ∀ K, Shut (∀ a' w', NoPanic Q .normal a' w' → K a' w') → Oper.wp P oz a w K (NoPanic Q)) : Walk P (LastQ P (NoPanic Q) S oz) S [] a w := by
  intro hS _
  exact h hS _ (fun _ _ h' => h')
end
attribute [irreducible] Runs One Walk Act1
end Go.Proofs.Ytgkmkpkbdmciiaa.Run
/- A region that draws its order in which, behind a few light operations, three come up at once: whichever is first, a plan of its own follows. -/
namespace Go.Proofs.Ytgkmkpkbdmciiaa.Run
open Go Go.RowKit
set_option linter.unusedVariables false
def alone3 (i j m L : Nat) : List (Nat × Nat × Nat) → Nat → Bool
  | [], _ => true
  | r :: rs, k => (k == i || k == j || k == m || L.testBit k || !sub r.1 L) && alone3 i j m L rs (k + 1)
theorem alone3_spec {i i' i'' L : Nat} : ∀ (rs : List (Nat × Nat × Nat)) (k : Nat), alone3 i i' i'' L rs k = true → ∀ j r, rs[j]? = some r → k + j ≠ i → k + j ≠ i' → k + j ≠ i'' → L.testBit (k + j) = false → sub r.1 L = false
  | [], _, _, j, r, h, _, _, _, _ => by simp at h
  | x :: rs, k, h, 0, r, hr, h1, h1', h1'', h2 => by
    simp only [alone3, Bool.and_eq_true, Bool.or_eq_true, beq_iff_eq, Bool.not_eq_true'] at h
    simp only [List.getElem?_cons_zero, Option.some.injEq] at hr
    subst hr
    rcases h.1 with (((h | h) | h) | h) | h
    · exact absurd h (by simpa using h1)
    · exact absurd h (by simpa using h1')
    · exact absurd h (by simpa using h1'')
    · rw [Nat.add_zero] at h2; rw [h2] at h; cases h
    · exact h
  | x :: rs, k, h, j + 1, r, hr, h1, h1', h1'', h2 => by
    simp only [alone3, Bool.and_eq_true] at h
    exact alone3_spec rs (k + 1) h.2 j r (by simpa using hr) (by omega) (by omega) (by omega) (by rw [← h2]; congr 1; omega)
def lights (rows : List (Nat × Nat × Nat)) : List Nat → Nat → Option Nat
  | [], L => some L
  | i :: is, L => if up rows i L then lights rows is (L ||| 2 ^ i) else none
section
variable {P : Program} {md : Region.Mode} {ops : Array Oper} {Q : Exit → Act → World → Prop} {S : World → Prop}
theorem only3_spec {rows : List (Nat × Nat × Nat)} (hrows : ops.toList.map (rowOf md ops) = rows) {i i' i'' L : Nat} {listed : Array Bool} (hm : Met ops listed L) (h : alone3 i i' i'' L rows 0 = true) :
    ∀ j ∈ Region.ready md ops listed, j = i ∨ j = i' ∨ j = i'' := by
  intro j hj
  obtain ⟨h1, oj, hoj, h2⟩ := mem_ready.1 hj
  have hjs := (Array.getElem?_eq_some_iff.1 hoj).1
  refine Classical.byContradiction fun hne => ?_
  have := alone3_spec rows 0 h j _ (rows_of hrows hoj) (by omega) (by omega) (by omega) (by rw [Nat.zero_add, ← hm.up hjs]; exact h1)
  rw [(waits_iff hm oj).2 h2] at this
  cases this
/-- light operations, then R -/
def LR (P : Program) (S : World → Prop) (ops : Array Oper) : List Nat → Act → (Act → Prop) → Prop
  | [], a, R => R a
  | i :: is, a, R => ∃ o v, ops[i]? = some o ∧ ((gate a (guardOf ops o) = true ∧ ∀ w', S w' → (execOp a.eval o).run P w' = .ok (.value v) w') ∨ (gate a (guardOf ops o) = false ∧ v = undef)) ∧ LR P S ops is (a.put o.dst v) R
theorem LR_mono {R R' : Act → Prop} : ∀ (is : List Nat) (a : Act), (∀ a, R a → R' a) → LR P S ops is a R → LR P S ops is a R'
  | [], a, hr, h => hr a h
  | i :: is, a, hr, h => by
    obtain ⟨o, v, h1, h2, h3⟩ := h
    exact ⟨o, v, h1, h2, LR_mono is _ hr h3⟩
/-- light operations, written out, then R -/
def lsOf (ops : Array Oper) : List Nat → List (Option (Option Tmp × Bool) × Oper)
  | [] => []
  | i :: is => (stepOf ops 0 i).map (·.2) ++ lsOf ops is
def LS (P : Program) (S : World → Prop) : List (Option (Option Tmp × Bool) × Oper) → Act → (Act → Prop) → Prop
  | [], a, R => R a
  | (g, o) :: l, a, R => ∃ v, ((gate a g = true ∧ ∀ w', S w' → (execOp a.eval o).run P w' = .ok (.value v) w') ∨ (gate a g = false ∧ v = undef)) ∧ LS P S l (a.put o.dst v) R
theorem ls_lr {rows : List (Nat × Nat × Nat)} (hrows : ops.toList.map (rowOf md ops) = rows) {R : Act → Prop} : ∀ (is : List Nat) (L L' : Nat) (a : Act), lights rows is L = some L' → LS P S (lsOf ops is) a R → LR P S ops is a R
  | [], L, L', a, _, h => h
  | i :: is, L, L', a, hl, h => by
    unfold lights at hl
    by_cases hu : up rows i L = true
    · rw [if_pos hu] at hl
      have ht := there hrows hu
      obtain ⟨o, ho⟩ := Option.isSome_iff_exists.1 ht
      unfold lsOf at h
      rw [step_some ho] at h
      obtain ⟨v, h1, h2⟩ := h
      exact ⟨o, v, ho, h1, ls_lr hrows is _ L' _ hl h2⟩
    · rw [if_neg hu] at hl
      cases hl
theorem lights_sound {rows : List (Nat × Nat × Nat)} (hrows : ops.toList.map (rowOf md ops) = rows) (hw : wired rows 0 = true)
    (hs : Region.noSelect ops = true) (hQ : ∀ c a d v w, Q (.panic c) (Act.put a d v) w → Q (.panic c) a w) :
    ∀ (is : List Nat) (fuel : Nat) (listed : Array Bool) (L L' : Nat) (a : Act) (w : World), Met ops listed L → lights rows is L = some L' → is.length ≤ fuel → S w →
      LR P S ops is a (fun a' => ∀ listed', Met ops listed' L' → wpAnyH P md ops Q S (fuel - is.length) listed' a' w) → wpAnyH P md ops Q S fuel listed a w
  | [], fuel, listed, L, L', a, w, hm, hl, hn, hS, h => by
    simp only [lights, Option.some.injEq] at hl
    subst hl
    exact h listed hm
  | i :: is, fuel, listed, L, L', a, w, hm, hl, hn, hS, h => by
    obtain ⟨n, rfl⟩ : ∃ n, fuel = n + 1 := ⟨fuel - 1, by simp only [List.length_cons] at hn; omega⟩
    have hn' : is.length ≤ n := by simp only [List.length_cons] at hn; omega
    unfold lights at hl
    by_cases hu : up rows i L = true
    · rw [if_pos hu] at hl
      obtain ⟨o, ho, hri, hsub, hready⟩ := up_spec hrows hm hu
      have his := (Array.getElem?_eq_some_iff.1 ho).1
      obtain ⟨o', v, ho', hy, hrun⟩ := h
      obtain rfl : o' = o := Option.some.inj (ho'.symm.trans ho)
      have e : n + 1 - (i :: is).length = n - is.length := by simp
      rw [e] at hrun
      refine wpAnyH_take ho hs (free_spec' hrows hw hm ho hri hsub) (by simpa using hready) (fun c a w hq => hQ c a _ _ w hq) (v := v) ?_ hS (lights_sound hrows hw hs hQ is n _ _ L' _ _ (hm.set his) hl hn' hS hrun)
      rcases hy with ⟨h1, h2⟩ | ⟨h1, h2⟩
      · exact .inl ⟨by rw [wanted_eq]; exact h1, h2⟩
      · exact .inr ⟨by rw [wanted_eq]; exact h1, h2⟩
    · rw [if_neg hu] at hl
      cases hl
/-- that operation first, then R -/
def First (P : Program) (Q : Exit → Act → World → Prop) (g : Option (Option Tmp × Bool)) (o : Oper) (R : (World → Prop) → Act → World → Prop) (S : World → Prop) (a : Act) (w : World) : Prop :=
  Act1 P Q S g o a w (fun a' w' => S w' → ∃ S' : World → Prop, (∀ z, S' z → S z) ∧ S' w' ∧ R S' a' w')
theorem step_is {i : Nat} {g : Option (Option Tmp × Bool)} {o : Oper} (h : stepOf ops 1 i = [(1, g, o)]) : ops[i]? = some o ∧ guardOf ops o = g := by
  unfold stepOf at h
  cases ho : ops[i]? with
  | none => rw [ho] at h; simp at h
  | some o' =>
    rw [ho] at h
    simp only [Option.toList_some, List.map_cons, List.map_nil, List.cons.injEq, Prod.mk.injEq, and_true, true_and] at h
    obtain ⟨h1, h2⟩ := h
    subst h2
    exact ⟨rfl, h1⟩
theorem first_sound {i L n : Nat} {g : Option (Option Tmp × Bool)} {o : Oper} {R : (World → Prop) → Act → World → Prop} {listed : Array Bool} (hm : Met ops listed L) (ho : stepOf ops 1 i = [(1, g, o)])
    (hR : ∀ (S' : World → Prop) (listed' : Array Bool) (a' : Act) (w' : World), Met ops listed' (L ||| 2 ^ i) → S' w' → R S' a' w' → wpAnyH P md ops Q S' n listed' a' w') {a : Act} {w : World} (hS : S w) (h : First P Q g o R S a w) :
    wpOp P ops Q i (fun a' w' => S w' ∧ wpAnyH P md ops Q S n (listed.setIfInBounds i true) a' w') a w := by
  obtain ⟨ho2, hg⟩ := step_is ho
  subst hg
  have hi := (Array.getElem?_eq_some_iff.1 ho2).1
  have h' : One P Q S ops o a w (fun a' w' => S w' → ∃ S' : World → Prop, (∀ z, S' z → S z) ∧ S' w' ∧ R S' a' w') := by with_unfolding_all exact h
  refine h'.wpOp ho2 hS (fun a' w' hS' hr => ?_)
  obtain ⟨S', h1, h2, h3⟩ := hr hS'
  exact anyH_mono h1 _ _ _ _ (hR S' _ a' w' (hm.set hi) h2 h3)
theorem walk_sound {rows : List (Nat × Nat × Nat)} (hrows : ops.toList.map (rowOf md ops) = rows) (hw : wired rows 0 = true)
    (hs : Region.noSelect ops = true) (hQ : ∀ c a d v w, Q (.panic c) (Act.put a d v) w → Q (.panic c) a w) {L n : Nat} {pl : List (Nat × Nat)} {l : List (Nat × Option (Option Tmp × Bool) × Oper)} (hl : stepsOf ops pl = l) (hc : check rows pl L = true) (hn : count pl ≤ n)
    (S' : World → Prop) (listed' : Array Bool) (a' : Act) (w' : World) (hm : Met ops listed' L) (hS : S' w') (h : Walk P Q S' l a' w') : wpAnyH P md ops Q S' n listed' a' w' :=
  runs_sound hrows hw hs hQ pl S' n _ _ _ _ hm hn hc hS (walk_runs pl S' (check_there hrows pl _ hc) a' w' (by rw [hl]; exact h))
/-- two that come up, each with its own plan behind it -/
def Two (P : Program) (Q : Exit → Act → World → Prop) (gj : Option (Option Tmp × Bool)) (oj : Oper) (gk : Option (Option Tmp × Bool)) (ok : Oper) (lj lk : List (Nat × Option (Option Tmp × Bool) × Oper)) (S : World → Prop) (a : Act) (w : World) : Prop :=
  First P Q gj oj (fun S a w => Walk P Q S lj a w) S a w ∧ First P Q gk ok (fun S a w => Walk P Q S lk a w) S a w
def check2 (rows : List (Nat × Nat × Nat)) (L j k : Nat) (pj pk : List (Nat × Nat)) (n : Nat) : Bool :=
  (up rows j L && up rows k L) && (alone2 j k L rows 0 && ((check rows pj (L ||| 2 ^ j) && check rows pk (L ||| 2 ^ k)) && decide (count pj + 1 ≤ n ∧ count pk + 1 ≤ n)))
theorem two_sound {rows : List (Nat × Nat × Nat)} (hrows : ops.toList.map (rowOf md ops) = rows) (hw : wired rows 0 = true)
    (hs : Region.noSelect ops = true) (hQ : ∀ c a d v w, Q (.panic c) (Act.put a d v) w → Q (.panic c) a w) {L j k n : Nat} {pj pk : List (Nat × Nat)} {lj lk : List (Nat × Option (Option Tmp × Bool) × Oper)} {gj gk : Option (Option Tmp × Bool)} {oj ok : Oper} (sj : stepOf ops 1 j = [(1, gj, oj)]) (sk : stepOf ops 1 k = [(1, gk, ok)]) (hj : stepsOf ops pj = lj) (hk : stepsOf ops pk = lk) (hc : check2 rows L j k pj pk n = true)
    (S' : World → Prop) (listed' : Array Bool) (a' : Act) (w' : World) (hm : Met ops listed' L) (hS : S' w') (h : Two P Q gj oj gk ok lj lk S' a' w') : wpAnyH P md ops Q S' n listed' a' w' := by
  unfold check2 at hc
  simp only [Bool.and_eq_true, decide_eq_true_eq] at hc
  obtain ⟨⟨uj, uk⟩, al, ⟨cj, ck⟩, n1, n2⟩ := hc
  obtain ⟨m, rfl⟩ : ∃ m, n = m + 1 := ⟨n - 1, by omega⟩
  obtain ⟨_, _, _, _, hready⟩ := up_spec hrows hm uj
  refine ⟨fun h0 => absurd hready (by rw [h0]; simp), fun x hx => ?_⟩
  rcases only2_spec hrows hm al x hx with rfl | rfl
  · exact first_sound hm sj (fun S' l' a' w' hm' hS' h => walk_sound hrows hw hs hQ hj cj (by omega) S' l' a' w' hm' hS' h) hS h.1
  · exact first_sound hm sk (fun S' l' a' w' hm' hS' h => walk_sound hrows hw hs hQ hk ck (by omega) S' l' a' w' hm' hS' h) hS h.2
def check3 (rows : List (Nat × Nat × Nat)) (is : List Nat) (i j k : Nat) (pij pik pji pjk pki pkj : List (Nat × Nat)) (n : Nat) : Bool :=
  match lights rows is 0 with
  | some L => (up rows i L && up rows j L && up rows k L) && (alone3 i j k L rows 0 && ((check2 rows (L ||| 2 ^ i) j k pij pik n && check2 rows (L ||| 2 ^ j) i k pji pjk n && check2 rows (L ||| 2 ^ k) i j pki pkj n) && decide (is.length + 1 + n = rows.length)))
  | none => false
/-- light operations is, then i, j, k in any order, each with a plan behind the first two -/
theorem region_walk3 {id : Nat} {a : Act} {w : World} (rows : List (Nat × Nat × Nat)) (is : List Nat) (i j k n : Nat) (pij pik pji pjk pki pkj : List (Nat × Nat)) {lij lik lji ljk lki lkj : List (Nat × Option (Option Tmp × Bool) × Oper)} {ls : List (Option (Option Tmp × Bool) × Oper)} {gi gj gk : Option (Option Tmp × Bool)} {oi oj ok : Oper} (hm : P.follows .mixedOrders = true) (hs : Region.noSelect ops = true)
    (hrows : ops.toList.map (rowOf .any ops) = rows) (hp : (wired rows 0 && check3 rows is i j k pij pik pji pjk pki pkj n) = true)
    (hls : lsOf ops is = ls) (si : stepOf ops 1 i = [(1, gi, oi)]) (sj : stepOf ops 1 j = [(1, gj, oj)]) (sk : stepOf ops 1 k = [(1, gk, ok)]) (h1 : stepsOf ops pij = lij) (h2 : stepsOf ops pik = lik) (h3 : stepsOf ops pji = lji) (h4 : stepsOf ops pjk = ljk) (h5 : stepsOf ops pki = lki) (h6 : stepsOf ops pkj = lkj) (hS : S w.drew)
    (h : LS P S ls a (fun a' => First P (NoPanic Q) gi oi (Two P (NoPanic Q) gj oj gk ok lij lik) S a' w.drew ∧ First P (NoPanic Q) gj oj (Two P (NoPanic Q) gi oi gk ok lji ljk) S a' w.drew ∧ First P (NoPanic Q) gk ok (Two P (NoPanic Q) gi oi gj oj lki lkj) S a' w.drew)) : (Code.region id ops true).wp P Q a w :=
  wp_region_noPanic (wp_region_held_drew hm hS (fun hS' => by
    simp only [Bool.and_eq_true] at hp
    have hlen : rows.length = ops.size := by rw [← hrows]; simp
    obtain ⟨hw, hc⟩ := hp
    unfold check3 at hc
    split at hc
    case h_2 => cases hc
    case h_1 L hL =>
      simp only [Bool.and_eq_true, decide_eq_true_eq] at hc
      obtain ⟨⟨⟨ui, uj⟩, uk⟩, al, ⟨⟨ci, cj⟩, ck⟩, hn⟩ := hc
      refine lights_sound hrows hw hs (fun _ _ _ _ _ h => h) is _ _ 0 L a _ (Met.start ops) hL (by omega) hS' ?_
      refine LR_mono is a (fun a' ha listed' hm' => ?_) (ls_lr hrows is 0 L a hL (by rw [hls]; exact h))
      have hn : ops.size - is.length = n + 1 := by omega
      rw [hn]
      obtain ⟨_, _, _, _, hready⟩ := up_spec (md := .any) hrows hm' ui
      refine ⟨fun h0 => absurd hready (by rw [h0]; simp), fun x hx => ?_⟩
      rcases only3_spec hrows hm' al x hx with rfl | rfl | rfl
      · exact first_sound hm' si (fun S' l' a' w' hm' hS' h => two_sound hrows hw hs (fun _ _ _ _ _ h => h) sj sk h1 h2 ci S' l' a' w' hm' hS' h) hS' ha.1
      · exact first_sound hm' sj (fun S' l' a' w' hm' hS' h => two_sound hrows hw hs (fun _ _ _ _ _ h => h) si sk h3 h4 cj S' l' a' w' hm' hS' h) hS' ha.2.1
      · exact first_sound hm' sk (fun S' l' a' w' hm' hS' h => two_sound hrows hw hs (fun _ _ _ _ _ h => h) si sj h5 h6 ck S' l' a' w' hm' hS' h) hS' ha.2.2))
end
end Go.Proofs.Ytgkmkpkbdmciiaa.Run
/- A region that draws no order, run operation by operation as a Walk (XRun): guarded calls and loads cost nothing. -/
namespace Go.Proofs.Ytgkmkpkbdmciiaa.Run
open Go Go.RowKit
set_option linter.unusedVariables false
section
variable {P : Program} {ops : Array Oper} {Q : Exit → Act → World → Prop}
/-- the steps: ks tells which operations are no light ones -/
def seqOf (ops : Array Oper) : List Oper → List Nat → List (Nat × Option (Option Tmp × Bool) × Oper)
  | [], _ => []
  | o :: l, [] => (0, guardOf ops o, o) :: seqOf ops l []
  | o :: l, 0 :: ks => (0, guardOf ops o, o) :: seqOf ops l ks
  | o :: l, _ :: ks => (1, guardOf ops o, o) :: seqOf ops l ks
theorem seq_light {S : World → Prop} {o : Oper} {rest : List Oper} {l : List (Nat × Option (Option Tmp × Bool) × Oper)} {a : Act} {w : World} (ih : ∀ a w, Walk P Q S l a w → S w → wpList P ops Q rest a w) (h : Walk P Q S ((0, guardOf ops o, o) :: l) a w) (hS : S w) : wpList P ops Q (o :: rest) a w := by
  have h : ∃ v, ((gate a (guardOf ops o) = true ∧ ∀ w', S w' → (execOp a.eval o).run P w' = .ok (.value v) w') ∨ (gate a (guardOf ops o) = false ∧ v = undef)) ∧ Walk P Q S l (a.put o.dst v) w := by with_unfolding_all exact h
  obtain ⟨v, hv, h⟩ := h
  refine wpList_step fun K hK => ?_
  rw [wanted_eq]
  rcases hv with ⟨hg, hy⟩ | ⟨hg, rfl⟩
  · rw [if_pos hg]
    unfold Oper.wp
    rw [hy w hS, Oper.upon_value]
    exact hK _ _ (ih _ _ h hS)
  · rw [if_neg (by rw [hg]; exact Bool.false_ne_true)]
    exact hK _ _ (ih _ _ h hS)
theorem seq_sound : ∀ (rest : List Oper) (ks : List Nat) (S : World → Prop) (a : Act) (w : World), Walk P Q S (seqOf ops rest ks) a w → S w → wpList P ops Q rest a w
  | [], _, S, a, w, h, hS => by
    have h : S w → Q .normal a w := by with_unfolding_all exact h
    exact h hS
  | o :: rest, [], S, a, w, h, hS => seq_light (fun a w => seq_sound rest [] S a w) h hS
  | o :: rest, 0 :: ks, S, a, w, h, hS => seq_light (fun a w => seq_sound rest ks S a w) h hS
  | o :: rest, (k + 1) :: ks, S, a, w, h, hS => by
    have h : ((gate a (guardOf ops o) = true ∧ (S w → Oper.wp P o a w (fun a' w' => S w' ∧ (S w' → ∃ S' : World → Prop, (∀ z, S' z → S z) ∧ S' w' ∧ Walk P Q S' (seqOf ops rest ks) a' w')) Q)) ∨ (gate a (guardOf ops o) = false ∧ (S w → ∃ S' : World → Prop, (∀ z, S' z → S z) ∧ S' w ∧ Walk P Q S' (seqOf ops rest ks) (a.put o.dst undef) w))) := by with_unfolding_all exact h
    refine wpList_step fun K hK => ?_
    rw [wanted_eq]
    rcases h with ⟨hg, h⟩ | ⟨hg, h⟩
    · rw [if_pos hg]
      refine Oper.wp_mono ?_ (h hS)
      rintro a' w' ⟨hS', hR⟩
      obtain ⟨S', _, hS2, hW⟩ := hR hS'
      exact hK _ _ (seq_sound rest ks S' a' w' hW hS2)
    · rw [if_neg (by rw [hg]; exact Bool.false_ne_true)]
      obtain ⟨S', _, hS2, hW⟩ := h hS
      exact hK _ _ (seq_sound rest ks S' _ w hW hS2)
/-- THE BEGINNING -/
theorem region_seq {S : World → Prop} {id : Nat} {a : Act} {w : World} (ks : List Nat) {l : List (Nat × Option (Option Tmp × Bool) × Oper)} (hl : seqOf ops ops.toList ks = l) (hS : S w) (h : Walk P (NoPanic Q) S l a w) : (Code.region id ops false).wp P Q a w :=
  wp_region_noPanic (wp_region_list (seq_sound ops.toList ks S a w (by rw [hl]; exact h) hS))
end
end Go.Proofs.Ytgkmkpkbdmciiaa.Run
namespace Go.Proofs.Ytgkmkpkbdmciiaa
open Go Go.RowKit
/-- guards of arms: they fail at once where another operation stands -/
def isLoad (k : Nat) : Op → Bool
  | .load _ (.tmp n) => n == k
  | _ => false
def isStore (k : Nat) : Op → Bool
  | .store _ (.tmp n) _ => n == k
  | _ => false
def isBuild (k : Nat) : Op → Bool
  | .buildSlice _ 1 ps => match ps.toList with
    | [(0, .tmp n)] => n == k
    | _ => false
  | _ => false
theorem at_build (k : Nat) {P : Program} {ops : Array Oper} {Q : Exit → Act → World → Prop} {rest : List Oper} {a : Act} {w : World} {o : Oper} (_ : isBuild k o.op = true) (h : wpList P ops Q (o :: rest) a w) : wpList P ops Q (o :: rest) a w := h
theorem at_store (k : Nat) {P : Program} {ops : Array Oper} {Q : Exit → Act → World → Prop} {rest : List Oper} {a : Act} {w : World} {o : Oper} (_ : isStore k o.op = true) (h : wpList P ops Q (o :: rest) a w) : wpList P ops Q (o :: rest) a w := h
theorem at_load (k : Nat) {P : Program} {ops : Array Oper} {Q : Exit → Act → World → Prop} {rest : List Oper} {a : Act} {w : World} {o : Oper} (_ : isLoad k o.op = true) (h : wpList P ops Q (o :: rest) a w) : wpList P ops Q (o :: rest) a w := h
end Go.Proofs.Ytgkmkpkbdmciiaa
