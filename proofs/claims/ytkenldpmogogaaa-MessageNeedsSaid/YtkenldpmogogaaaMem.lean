/- Lists in memory, whatever their elements: rows of the call's own, slices that read as a list, blocks, what one call may have written. -/
import Derived.Test.YtkenldpmogogaaaRows
import Derived.WalkKit
import Derived.OwnWalk
import Derived.Laws.AppendOwnNone
import Derived.Maps.AppendAt
import Derived.Deep.AppendLies
import Derived.Deep.DeepMust
import Derived.Deep.DeepFit
import Derived.Lib.Hide
set_option maxRecDepth 4000
namespace Go.Proofs.Ytkenldpmogogaaa.Mem
open Go Go.RowKit
set_option linter.unusedVariables false

/-! ### worlds -/
theorem nest {a b c : World} (h : Below a.heap.size a b) (k : Below b.heap.size b c) : Below a.heap.size a c := h.trans (k.mono h.size)
theorem more {a b : World} (h : Below a.heap.size a b) (o : Obj) : Below a.heap.size a (b.alloc o) := h.alloc h.size o
theorem kc {a b : World} (k : Below a.heap.size a b) {p : Addr} {x : Value} (h : a.cell? p = some x) : b.cell? p = some x := (k.cell (World.block_lt_of_cell? a p h)).trans h
/-- only block b, and what is new, may have turned -/
def Only (b : Nat) (w w' : World) : Prop := w.grownBy w' (some b)
theorem Only.refl (b : Nat) (w : World) : Only b w w := ⟨rfl, rfl, rfl, Nat.le_refl _, fun _ _ _ => rfl⟩
theorem Only.trans {b : Nat} {x y z : World} (h : Only b x y) (k : Only b y z) : Only b x z := World.grownBy.trans h k
theorem Only.size {b : Nat} {x y : World} (h : Only b x y) : x.heap.size ≤ y.heap.size := World.grownBy.size h
theorem Only.of_below {b : Nat} {w w' : World} (h : Below w.heap.size w w') : Only b w w' := ⟨h.os, h.tape, h.output, h.size, fun i hi _ => h.block i hi⟩
theorem Only.below {b B : Nat} {w w' : World} (h : Only b w w') (hb : B ≤ b) (hB : B ≤ w.heap.size) : Below B w w' := ⟨h.os, h.tape, h.output, h.size, fun k hk => h.block k (by omega) (by intro e; injection e; omega)⟩
theorem Only.set {b : Nat} (w : World) (i : Nat) (u : Value) : Only b w (w.setCell ⟨b, i, none⟩ u) :=
  ⟨rfl, rfl, rfl, by simp [World.setCell], fun k _ hne => Below.heap_setCell _ _ _ _ (fun e => hne (by rw [e]))⟩
theorem Only.drew {b : Nat} {w w' : World} (h : Only b w w') : Only b w w'.drew := h.trans (Only.of_below (Below.refl _ _).drew)
theorem Only.alloc {b : Nat} {w w' : World} (h : Only b w w') (o : Obj) : Only b w (w'.alloc o) :=
  h.trans (Only.of_below (more (Below.refl _ _) o))
/-- a row that may be grown is one's own, or none -/
theorem grown_below {B : Nat} {w w' : World} {row : Option Nat} (h : w.grownBy w' row) (hB : B ≤ w.heap.size) (hr : ∀ k, row = some k → B ≤ k) : Below B w w' := (Below.refl B w).grown h hB hr

/-! ### blocks -/
/-- block g is just these cells, of that type, none of them frozen -/
def Blk (w : World) (g : Nat) (t : TypeId) (cs : Array Value) : Prop := w.heap[g]? = some (.cells cs t (0, 0))
section
variable {w w' : World} {g : Nat} {t : TypeId} {cs : Array Value}
theorem Blk.lt (h : Blk w g t cs) : g < w.heap.size := by
  unfold Blk at h
  exact (Array.getElem?_eq_some_iff.1 h).1
theorem Blk.cell (h : Blk w g t cs) (i : Nat) : w.cell? ⟨g, i, none⟩ = cs[i]? := cell_of_row w g i cs t (0, 0) h
theorem Blk.frozen (h : Blk w g t cs) (i : Nat) : w.frozen? ⟨g, i, none⟩ = false := by
  unfold Blk at h
  simp [World.frozen?, h]
theorem Blk.new (w : World) (t : TypeId) (cs : Array Value) : Blk (w.alloc (.cells cs t)) w.heap.size t cs := heap_alloc_new w _
theorem Blk.below {B : Nat} (h : Blk w g t cs) (hb : Below B w w') (hg : g < B) : Blk w' g t cs := (hb.block g hg).trans h
theorem Blk.keep (h : Blk w g t cs) (hb : Below w.heap.size w w') : Blk w' g t cs := h.below hb h.lt
theorem Blk.only {b : Nat} (h : Blk w g t cs) (hb : Only b w w') (hg : g ≠ b) : Blk w' g t cs := (hb.block g h.lt (by intro e; injection e; contradiction)).trans h
theorem Blk.set_ (h : Blk w g t cs) (i : Nat) (u : Value) : Blk (w.setCell ⟨g, i, none⟩ u) g t (cs.setIfInBounds i u) := by
  unfold Blk at h ⊢
  simp [World.setCell, Array.getElem?_modify, h]
theorem Blk.ne (h : Blk w g t cs) {g' : Nat} {t' : TypeId} {cs' : Array Value} (h' : Blk w g' t' cs') (hne : t ≠ t') : g ≠ g' := by
  rintro rfl
  unfold Blk at h h'
  rw [h] at h'
  injection h' with h'
  injection h' with _ ht
  exact hne ht
end

/-! ### elements, told by their cells -/
structure Enc (α : Type) where
  cells : α → List Value
  size : Nat
  len : ∀ x, (cells x).length = size
  one : ∀ x, ∀ u ∈ cells x, u.oneCell' = true
section
variable {α : Type} (E : Enc α)
def Enc.flat (l : List α) : List Value := l.flatMap E.cells
theorem Enc.flat_nil : E.flat [] = [] := rfl
theorem Enc.flat_cons (x : α) (l : List α) : E.flat (x :: l) = E.cells x ++ E.flat l := by simp [Enc.flat]
theorem Enc.flat_append (l m : List α) : E.flat (l ++ m) = E.flat l ++ E.flat m := by simp [Enc.flat]
theorem Enc.flat_len (l : List α) : (E.flat l).length = l.length * E.size := by
  induction l with
  | nil => simp [Enc.flat]
  | cons x l ih => rw [E.flat_cons, List.length_append, ih, E.len, List.length_cons, Nat.succ_mul]; omega
theorem Enc.flat_one (l : List α) : ∀ u ∈ E.flat l, u.oneCell' = true := by
  intro u hu
  obtain ⟨x, _, hx⟩ := List.mem_flatMap.1 hu
  exact E.one x u hx
theorem Enc.flat_at {l : List α} {i j : Nat} (hi : i < l.length) (hj : j < E.size) : (E.flat l)[i * E.size + j]? = (E.cells l[i])[j]? := by
  induction l generalizing i with
  | nil => simp at hi
  | cons x l ih =>
    rw [E.flat_cons]
    cases i with
    | zero => rw [List.getElem?_append_left (by rw [E.len]; omega)]; simp
    | succ i =>
      rw [List.getElem?_append_right (by rw [E.len, Nat.succ_mul]; omega), E.len, show (i + 1) * E.size + j - E.size = i * E.size + j by rw [Nat.succ_mul]; omega, ih (by simpa using hi)]
      simp
theorem Enc.flat_drop (l : List α) (k : Nat) : (E.flat l).drop (k * E.size) = E.flat (l.drop k) := by
  induction l generalizing k with
  | nil => simp [Enc.flat]
  | cons x l ih =>
    cases k with
    | zero => simp
    | succ k =>
      rw [E.flat_cons, List.drop_succ_cons, Nat.succ_mul, Nat.add_comm, List.drop_append, E.len]
      have : (E.cells x).drop (E.size + k * E.size) = [] := List.drop_eq_nil_of_le (by rw [E.len]; omega)
      rw [this, List.nil_append, Nat.add_sub_cancel_left, ih]
theorem Enc.flat_take (l : List α) (k : Nat) : (E.flat l).take (k * E.size) = E.flat (l.take k) := by
  induction l generalizing k with
  | nil => simp [Enc.flat]
  | cons x l ih =>
    cases k with
    | zero => simp [Enc.flat]
    | succ k =>
      rw [E.flat_cons, List.take_succ_cons, Nat.succ_mul, Nat.add_comm, List.take_append, E.len, E.flat_cons]
      rw [List.take_of_length_le (by rw [E.len]; omega), Nat.add_sub_cancel_left, ih]

/-- a row of the call's own, in blocks from B on -/
def Row (T : TypeId) (B : Nat) (w : World) (v : Value) (l : List α) : Prop := w.ownsRow B T E.size v l.length (E.flat l)
/-- a slice that reads as a list, wherever it lies -/
def Rd (w : World) (v : Value) (l : List α) : Prop :=
  ∃ a c, v = .slice a l.length c ∧ l.length ≤ c ∧ c ≤ maxLen ∧ (0 < l.length → ∃ g off, a = some ⟨g, off, none⟩ ∧ ∀ j u, (E.flat l)[j]? = some u → w.cell? ⟨g, off + j, none⟩ = some u)
end

section
variable {α : Type} {E : Enc α} {T : TypeId} {B B' : Nat} {w w' : World} {v : Value} {l : List α}
theorem Row.nil : Row E T B w (.slice none 0 0) [] := ⟨by simp [Enc.flat], .inl ⟨rfl, rfl⟩⟩
theorem Row.mono (h : Row E T B' w v l) (hB : B ≤ B') : Row E T B w v l := by
  obtain ⟨h1, h2⟩ := h
  refine ⟨h1, ?_⟩
  rcases h2 with h2 | ⟨g, cap, cur, hv, hg, hr⟩
  · exact .inl h2
  · exact .inr ⟨g, cap, cur, hv, Nat.le_trans hB hg, hr⟩
theorem Row.block (h : Row E T B w v l) : ∀ k, v.ownBlock = some k → B ≤ k ∧ k < w.heap.size := World.ownsRow.lt h
theorem Row.kept {row : Option Nat} (h : Row E T B w v l) (hg : w.grownBy w' row) (hne : v.ownBlock = none ∨ v.ownBlock ≠ row) : Row E T B w' v l := World.ownsRow.kept h hg hne
theorem Row.below {C : Nat} (h : Row E T B w v l) (k : Below C w w') (hC : ∀ k, v.ownBlock = some k → k < C) : Row E T B w' v l := by
  obtain ⟨h1, h2⟩ := h
  refine ⟨h1, ?_⟩
  rcases h2 with h2 | ⟨g, cap, cur, hv, hg, hc, hr⟩
  · exact .inl h2
  · exact .inr ⟨g, cap, cur, hv, hg, (k.block g (hC g (by rw [hv]; rfl))).trans hc, hr⟩
theorem Row.keep (h : Row E T B w v l) (k : Below w.heap.size w w') : Row E T B w' v l := h.below k (fun g hg => (h.block g hg).2)
theorem Row.only {b : Nat} (h : Row E T B w v l) (k : Only b w w') (hne : v.ownBlock ≠ some b) : Row E T B w' v l := Row.kept h k (.inr hne)
theorem Row.ne_blk {g : Nat} {t : TypeId} {cs : Array Value} (h : Row E T B w v l) (hg : Blk w g t cs) (hne : T ≠ t) : v.ownBlock ≠ some g := by
  rcases h.2 with ⟨rfl, _⟩ | ⟨g', cap, cur, rfl, _, hh, _⟩
  · simp [Value.ownBlock]
  · intro he
    have e : g' = g := by simpa [Value.ownBlock] using he
    subst e
    exact Blk.ne (t := T) hh hg hne rfl
theorem Row.new_ne {n : Nat} (h : Row E T B w v l) (hn : w.heap.size ≤ n) : some n ≠ v.ownBlock := fun e => by
  have := (Row.block h n e.symm).2
  omega
theorem Row.rd (h : Row E T B w v l) : Rd E w v l := by
  rcases h.2 with ⟨hv, hn⟩ | ⟨g, cap, cur, hv, hg, hc, h1, h2, h3, h4⟩
  · have : l = [] := List.eq_nil_of_length_eq_zero hn
    subst this
    exact ⟨none, 0, hv, Nat.le_refl _, Nat.zero_le _, fun h => absurd h (by simp)⟩
  · refine ⟨_, cap, hv, h1, h2, fun _ => ⟨g, 0, rfl, fun j u hu => ?_⟩⟩
    subst hv
    have hj : j < l.length * E.size := by rw [← E.flat_len]; exact (List.getElem?_eq_some_iff.1 hu).1
    rw [Nat.zero_add]
    exact (World.ownsRow.cellAt h j hj).trans hu
theorem Row.form (h : Row E T B w v l) : (v = .slice none 0 0 ∧ l = []) ∨ ∃ g c, v = .slice (some ⟨g, 0, none⟩) l.length c ∧ B ≤ g ∧ g < w.heap.size ∧ l.length ≤ c ∧ c ≤ maxLen := by
  rcases h.2 with ⟨hv, hn⟩ | ⟨g, cap, cur, hv, hg, hc, h1, h2, h3, h4⟩
  · exact .inl ⟨hv, List.eq_nil_of_length_eq_zero hn⟩
  · exact .inr ⟨g, cap, hv, hg, (Array.getElem?_eq_some_iff.1 hc).1, h1, h2⟩
/-- a row that was laid whole -/
theorem Row.lit (B : Nat) (w : World) (cs : Array Value) (l : List α) (n g : Nat) (hl : cs.toList = E.flat l) (hn : n = l.length) (hg : g = w.heap.size) (hB : B ≤ w.heap.size) (hm : l.length ≤ maxLen) : Row E T B (w.alloc (.cells cs T)) (.slice (some ⟨g, 0, none⟩) n n) l := by
  subst hn hg
  have hs : cs.size = l.length * E.size := by rw [← E.flat_len, ← hl]; simp
  refine ⟨E.flat_len l, .inr ⟨w.heap.size, l.length, cs, rfl, hB, heap_alloc_new w _, Nat.le_refl _, hm, hs, ?_⟩⟩
  rw [hl, List.take_of_length_le (by rw [E.flat_len]; omega)]
theorem Rd.nil (a : Option Addr) (c : Nat) (hc : c ≤ maxLen) : Rd E w (.slice a 0 c) [] := ⟨a, c, rfl, Nat.zero_le _, hc, fun h => absurd h (by simp)⟩
theorem Rd.keep (h : Rd E w v l) (k : Below w.heap.size w w') : Rd E w' v l := by
  obtain ⟨a, c, hv, h1, h2, h3⟩ := h
  refine ⟨a, c, hv, h1, h2, fun hl => ?_⟩
  obtain ⟨g, off, ha, hc⟩ := h3 hl
  exact ⟨g, off, ha, fun j u hu => kc k (hc j u hu)⟩
theorem Rd.only {b : Nat} (h : Rd E w v l) (k : Only b w w') (hne : v.ownBlock ≠ some b) : Rd E w' v l := by
  obtain ⟨a, c, hv, h1, h2, h3⟩ := h
  refine ⟨a, c, hv, h1, h2, fun hl => ?_⟩
  obtain ⟨g, off, ha, hc⟩ := h3 hl
  refine ⟨g, off, ha, fun j u hu => World.grownBy.cell k (hc j u hu) ?_⟩
  intro e
  apply hne
  rw [hv, ha]
  exact e
theorem Rd.form (h : Rd E w v l) : ∃ a c, v = .slice a l.length c ∧ l.length ≤ c ∧ c ≤ maxLen := by
  obtain ⟨a, c, hv, h1, h2, h3⟩ := h
  exact ⟨a, c, hv, h1, h2⟩
/-- what is read: each cell of each element -/
theorem Rd.cells (h : Rd E w v l) (hl : 0 < l.length) : ∃ g off c, v = .slice (some ⟨g, off, none⟩) l.length c ∧ l.length ≤ c ∧ c ≤ maxLen ∧ ∀ i (hi : i < l.length) j, j < E.size → w.cell? ⟨g, off + (i * E.size + j), none⟩ = (E.cells l[i])[j]? := by
  obtain ⟨a, c, hv, h1, h2, h3⟩ := h
  obtain ⟨g, off, rfl, hc⟩ := h3 hl
  refine ⟨g, off, c, hv, h1, h2, fun i hi j hj => ?_⟩
  have hh := E.flat_at hi hj
  have hx : (E.cells l[i])[j]? = some ((E.cells l[i])[j]'(by rw [E.len]; exact hj)) := List.getElem?_eq_getElem _
  rw [hx] at hh ⊢
  exact hc _ _ hh
/-- a cut of a slice -/
theorem Rd.cut (h : Rd E w v l) {a : Option Addr} {n c : Nat} (hv : v = .slice a n c) {lo hi : Nat} (h1 : lo ≤ hi) (h2 : hi ≤ l.length) {a' : Option Addr} {n' c' : Nat} (hn' : n' = hi - lo) (hc' : n' ≤ c') (hm : c' ≤ maxLen)
    (ha : 0 < n' → ∀ g off, a = some ⟨g, off, none⟩ → a' = some ⟨g, off + lo * E.size, none⟩) : Rd E w (.slice a' n' c') ((l.take hi).drop lo) := by
  obtain ⟨a0, c0, hv0, h3, h4, h5⟩ := h
  rw [hv] at hv0
  injection hv0 with e1 e2 e3
  subst e1 e3
  have hlen : ((l.take hi).drop lo).length = n' := by rw [List.length_drop, List.length_take, Nat.min_eq_left h2, hn']
  refine ⟨a', c', by rw [hlen], by rw [hlen]; exact hc', hm, fun hl => ?_⟩
  rw [hlen] at hl
  obtain ⟨g, off, hg, hcell⟩ := h5 (by omega)
  refine ⟨g, off + lo * E.size, ha hl g off hg, fun j u hu => ?_⟩
  rw [Nat.add_assoc]
  refine hcell _ u ?_
  rw [← E.flat_drop, List.getElem?_drop, ← E.flat_take, List.getElem?_take] at hu
  split at hu
  · exact hu
  · cases hu
/-- a new block of one element -/
theorem Rd.fresh (w : World) (x : α) (cs : Array Value) (t : TypeId) (n : Nat) (hc : cs.toList = E.cells x) (hn : n = w.heap.size) : Rd E (w.alloc (.cells cs t)) (.slice (some ⟨n, 0, none⟩) 1 1) [x] := by
  subst hn
  refine ⟨_, 1, rfl, Nat.le_refl _, by unfold maxLen; omega, fun _ => ⟨w.heap.size, 0, rfl, fun j u hu => ?_⟩⟩
  rw [Nat.zero_add, (Blk.new w t cs).cell, ← Array.getElem?_toList, hc]
  simpa [Enc.flat] using hu
end

/-! ### append -/
/-- what is to be known of a slice's type -/
def Elem (P : Program) (ts e : TypeId) (size bytes : Nat) : Prop :=
  P.underlying ts = some (.slice e) ∧ ∃ i z, P.info? e = some i ∧ i.zero = some z ∧ i.size = size ∧ i.bytes = bytes ∧ z.cells.size = size
theorem elem_of {P : Program} {ts e : TypeId} {z : Value} {size bytes : Nat} (h : P.underlying ts = some (.slice e)) (hi : (P.info? e).map (fun i => (i.zero, i.size, i.bytes)) = some (some z, size, bytes)) (hz : z.cells.size = size) : Elem P ts e size bytes := by
  obtain ⟨i, h1, h2, h3, h4⟩ := info_parts hi
  exact ⟨h, i, z, h1, h2, h3, h4, hz⟩
section
variable {P : Program} {α : Type} {E : Enc α} {T ts : TypeId} {B bytes : Nat} {w : World} {v x : Value} {l m : List α}
theorem run_append_rd (I : Elem P ts T E.size bytes) (hpos : 0 < E.size) (ty : TypeId) (hown : Row E T B w v l) (hr : Rd E w x m) (h63 : l.length + m.length ≤ maxLen) (hbytes : (l.length + m.length) * bytes ≤ 140737488355328) (hB : B ≤ w.heap.size) :
    ∃ v' w', (Builtin.append_ #[ts, ts] ty #[v, x]).run P w = .ok v' w' ∧ Row E T B w' v' (l ++ m) ∧ w.grownBy w' v.ownBlock ∧ (v'.ownBlock = v.ownBlock ∨ v'.ownBlock = some w.heap.size) := by
  obtain ⟨ht, i, z, hi, hz, hs, hby, hzs⟩ := I
  obtain ⟨a, c, rfl, h1, h2, h3⟩ := hr
  rcases Nat.eq_zero_or_pos m.length with h0 | h0
  · have hm : m = [] := List.eq_nil_of_length_eq_zero h0
    subst hm
    rcases a with _ | ad
    · refine ⟨v, w, ?_, by simpa using hown, World.grownBy.refl w _, .inl rfl⟩
      rcases hown.2 with ⟨rfl, hn⟩ | ⟨g, cap, cur, rfl, _, _, hnc, _⟩
      · simp [Builtin.append_, run_underlying ht, sizeOf, typeInfo, hi, Builtin.lenOf, Builtin.firstCells]
      · simp [Builtin.append_, run_underlying ht, sizeOf, typeInfo, hi, Builtin.lenOf, Builtin.firstCells, hnc, storeCells]
    · obtain ⟨v', w', hrun, ho, hg, _, ha⟩ := run_append_own_at (P := P) w B ts ty T i z E.size bytes ht hi hz hs hby hzs hpos v l.length (E.flat l) hown ad 0 c [] (by simp)
        (fun j u hu => by simp at hu) (fun u hu => by cases hu) h63 hbytes hB
      refine ⟨v', w', hrun, ?_, hg, ha⟩
      unfold Row
      rw [List.append_nil]
      simpa using ho
  · obtain ⟨g, off, rfl, hc⟩ := h3 h0
    obtain ⟨v', w', hrun, ho, hg, _, ha⟩ := run_append_own_at (P := P) w B ts ty T i z E.size bytes ht hi hz hs hby hzs hpos v l.length (E.flat l) hown ⟨g, off, none⟩ m.length c (E.flat m) (E.flat_len m)
      (fun j u hu => by have := hc j u hu; unfold Addr.add; split <;> simp_all) (E.flat_one m) h63 hbytes hB
    refine ⟨v', w', hrun, ?_, hg, ha⟩
    unfold Row
    rw [List.length_append, E.flat_append]
    exact ho
theorem wp_append {o : Oper} {a : Act} {K : Act → World → Prop} {Q : Exit → Act → World → Prop} (I : Elem P ts T E.size bytes) (hpos : 0 < E.size) (s sx : Operand)
    (ho : o.op = .call { callee := .builtin .append, args := #[s, sx], argTypes := #[ts, ts] }) (hs : a.eval s = v) (hown : Row E T B w v l) (hx : a.eval sx = x) (hr : Rd E w x m)
    (h63 : l.length + m.length ≤ maxLen) (hbytes : (l.length + m.length) * bytes ≤ 140737488355328) (hB : B ≤ w.heap.size)
    (h : ∀ v' w', Row E T B w' v' (l ++ m) → Below B w w' → w.grownBy w' v.ownBlock → (v'.ownBlock = v.ownBlock ∨ v'.ownBlock = some w.heap.size) → K (a.put o.dst v') w') : o.wp P a w K Q := by
  obtain ⟨v', w', hrun, h2, h3, h4⟩ := run_append_rd (P := P) I hpos o.type hown hr h63 hbytes hB
  unfold Oper.wp execOp
  simp only [ho, resolve, invoke, builtin, Sem.run_bind, Sem.run_pure, Result.andThen_ok, List.map_toArray, List.map_cons, List.map_nil, hs, hx, hrun]
  exact h v' w' h2 (grown_below h3 hB (fun k hk => (hown.block k hk).1)) h3 h4
theorem wpList_append {ops : Array Oper} {rest : List Oper} {o : Oper} {a : Act} {Q : Exit → Act → World → Prop} (I : Elem P ts T E.size bytes) (hpos : 0 < E.size) (hgd : o.guard = none) (s sx : Operand)
    (ho : o.op = .call { callee := .builtin .append, args := #[s, sx], argTypes := #[ts, ts] }) (hs : a.eval s = v) (hown : Row E T B w v l) (hx : a.eval sx = x) (hr : Rd E w x m)
    (h63 : l.length + m.length ≤ maxLen) (hbytes : (l.length + m.length) * bytes ≤ 140737488355328) (hB : B ≤ w.heap.size)
    (h : ∀ v' w', Row E T B w' v' (l ++ m) → Below B w w' → w.grownBy w' v.ownBlock → (v'.ownBlock = v.ownBlock ∨ v'.ownBlock = some w.heap.size) → wpList P ops Q rest (a.put o.dst v') w') : wpList P ops Q (o :: rest) a w :=
  wpList_plain hgd fun _ hK => wp_append I hpos s sx ho hs hown hx hr h63 hbytes hB fun v' w' h2 h3 h4 h5 => hK _ _ (h v' w' h2 h3 h4 h5)
end

theorem run_append_make {P : Program} {ts T ti : TypeId} {size bytes : Nat} {kd : IntKind} (I : Elem P ts T size bytes) (hint : P.underlying ti = some (.int kd)) (hsz : 0 < size) (ty : TypeId) (n : Nat) (hn : 0 < n) (hb : n * bytes ≤ 140737488355328) (h63 : n ≤ 1099511627776) (w : World) :
    ∃ cap cur, (Builtin.append_ #[ts, ti] ty #[.slice none 0 0, .int .i64 n]).run P w = .ok (.slice (some ⟨w.heap.size, 0, none⟩) n cap) (w.drew.alloc (.cells cur T)) ∧ n ≤ cap ∧ cap ≤ maxLen ∧ cur.size = cap * size := by
  obtain ⟨ht, i, z, hi, hz, hs, hby, hzs⟩ := I
  subst hs hby
  have hw : IntKind.i64.wrap (n : Int) = (n : Int) := IntWalk.i64_in _ (by omega)
  have h2 : ¬ (281474976710656 < (n : Int) * (i.bytes : Int)) := by
    have : ((n * i.bytes : Nat) : Int) ≤ 140737488355328 := by omega
    rw [Int.natCast_mul] at this
    omega
  have h3 : Builtin.nextslicecap n 0 = n := nextslicecap_zero hn
  have h4 : ¬ (281474976710656 < n * i.bytes) := by omega
  have h5 : n * i.size ≠ 0 := Nat.mul_ne_zero (by omega) (by omega)
  have h6 : ¬ n = 0 := by omega
  have h7 : ¬ (9223372036854775807 < (n : Int)) := by omega
  have h8 : ¬ (n : Int) < 0 := by omega
  have hm : n ≤ maxLen := by unfold maxLen; omega
  have hge := grownCap_ge w n 0 T
  refine ⟨grownCap w n 0 T, (#[] ++ Builtin.zeroCells z.cells n ++ Builtin.zeroCells z.cells (grownCap w n 0 T - n)), ?_, hge, grownCap_le_maxLen w n 0 T hm, ?_⟩
  · simp only [Builtin.append_]
    simp [run_underlying ht, run_underlying hint, sizeOf, typeInfo, hi, hz, zeroValue, run_firstCells_none, asInt, asIntOf, hw, h2, h3, h4, h6, h7, h8, Question.forced, grownCap, newRow]
    exact fun h => absurd h h5
  · simp only [Array.size_append, size_zeroCells, hzs, List.size_toArray, List.length_nil, Nat.zero_add, ← Nat.add_mul]
    rw [Nat.add_sub_cancel' hge]

theorem wpList_append_make {P : Program} {ts T ti : TypeId} {size bytes : Nat} {kd : IntKind} {ops : Array Oper} {rest : List Oper} {o : Oper} {a : Act} {Q : Exit → Act → World → Prop} {w : World} (I : Elem P ts T size bytes) (hint : P.underlying ti = some (.int kd)) (hsz : 0 < size)
    (hgd : o.guard = none) (s sx : Operand) (ho : o.op = .call { callee := .builtin .append, args := #[s, sx], argTypes := #[ts, ti] }) (n : Nat) (hs : a.eval s = .slice none 0 0) (hx : a.eval sx = .int .i64 n)
    (hn : 0 < n) (hb : n * bytes ≤ 140737488355328) (h63 : n ≤ 1099511627776)
    (h : ∀ cap cur, n ≤ cap → cap ≤ maxLen → cur.size = cap * size → wpList P ops Q rest (a.put o.dst (.slice (some ⟨w.heap.size, 0, none⟩) n cap)) (w.drew.alloc (.cells cur T))) : wpList P ops Q (o :: rest) a w := by
  obtain ⟨cap, cur, hrun, h1, h2, h3⟩ := run_append_make (P := P) I hint hsz o.type n hn hb h63 w
  refine wpList_plain hgd fun K hK => ?_
  unfold Oper.wp execOp
  simp only [ho, resolve, invoke, builtin, Sem.run_bind, Sem.run_pure, Result.andThen_ok, List.map_toArray, List.map_cons, List.map_nil, hs, hx, hrun]
  exact hK _ _ (h cap cur h1 h2 h3)

/-- pairs of numbers -/
def pairE (k : IntKind) : Enc (Int × Int) where
  cells p := [.int k p.1, .int k p.2]
  size := 2
  len _ := rfl
  one p u hu := by simp at hu; rcases hu with rfl | rfl <;> rfl
def intE (k : IntKind) : Enc Int where
  cells p := [.int k p]
  size := 1
  len _ := rfl
  one p u hu := by simp at hu; subst hu; rfl
/-- pairs, read: two cells each -/
theorem Rd.pairs {k : IntKind} {w : World} {v : Value} {l : List (Int × Int)} (h : Rd (pairE k) w v l) (hl : 0 < l.length) :
    ∃ g off c, v = .slice (some ⟨g, off, none⟩) l.length c ∧ l.length ≤ c ∧ c ≤ maxLen ∧ ∀ i, i < l.length → w.cell? ⟨g, off + i * 2, none⟩ = some (.int k (l.getD i (0, 0)).1) ∧ w.cell? ⟨g, off + i * 2 + 1, none⟩ = some (.int k (l.getD i (0, 0)).2) := by
  obtain ⟨g, off, c, hv, h1, h2, hc⟩ := h.cells hl
  refine ⟨g, off, c, hv, h1, h2, fun i hi => ?_⟩
  have e : l.getD i (0, 0) = l[i] := by simp [List.getD, hi]
  rw [e]
  exact ⟨hc i hi 0 (show 0 < 2 by omega), hc i hi 1 (show 1 < 2 by omega)⟩
theorem Row.pairs {k : IntKind} {T : TypeId} {B : Nat} {w : World} {v : Value} {l : List (Int × Int)} (h : Row (pairE k) T B w v l) (hl : 0 < l.length) :
    ∃ g c, v = .slice (some ⟨g, 0, none⟩) l.length c ∧ g < w.heap.size ∧ l.length ≤ c ∧ c ≤ maxLen ∧ ∀ i, i < l.length → w.cell? ⟨g, i * 2, none⟩ = some (.int k (l.getD i (0, 0)).1) ∧ w.cell? ⟨g, i * 2 + 1, none⟩ = some (.int k (l.getD i (0, 0)).2) := by
  obtain ⟨g, off, c, hv, h1, h2, hc⟩ := h.rd.pairs hl
  rcases h.form with ⟨_, he⟩ | ⟨g', c', hv', _, hlt, _⟩
  · subst he; simp at hl
  · rw [hv'] at hv
    injection hv with e1 e2 e3
    injection e1 with e1
    injection e1 with e1 e4
    subst e1 e3 e4
    refine ⟨g', c', hv', hlt, h1, h2, fun i hi => ?_⟩
    have := hc i hi
    simpa using this
/-- the same, with what holds of an empty one: for a loop -/
theorem Row.loop {k : IntKind} {T : TypeId} {B : Nat} {w : World} {v : Value} {l : List (Int × Int)} (h : Row (pairE k) T B w v l) :
    ∃ a g c, v = .slice a l.length c ∧ l.length ≤ c ∧ c ≤ maxLen ∧ (0 < l.length → a = some ⟨g, 0, none⟩ ∧ g < w.heap.size) ∧ ∀ i, i < l.length → w.cell? ⟨g, i * 2, none⟩ = some (.int k (l.getD i (0, 0)).1) ∧ w.cell? ⟨g, i * 2 + 1, none⟩ = some (.int k (l.getD i (0, 0)).2) := by
  by_cases hl : 0 < l.length
  · obtain ⟨g, c, hv, hg, h1, h2, hc⟩ := h.pairs hl
    exact ⟨_, g, c, hv, h1, h2, fun _ => ⟨rfl, hg⟩, hc⟩
  · obtain ⟨a, c, hv, h1, h2⟩ := h.rd.form
    exact ⟨a, 0, c, hv, h1, h2, fun h => absurd h hl, fun i hi => absurd hi (by omega)⟩
theorem Rd.loop {k : IntKind} {w : World} {v : Value} {l : List (Int × Int)} (h : Rd (pairE k) w v l) :
    ∃ a g off c, v = .slice a l.length c ∧ l.length ≤ c ∧ c ≤ maxLen ∧ (0 < l.length → a = some ⟨g, off, none⟩ ∧ g < w.heap.size) ∧ ∀ i, i < l.length → w.cell? ⟨g, off + i * 2, none⟩ = some (.int k (l.getD i (0, 0)).1) ∧ w.cell? ⟨g, off + i * 2 + 1, none⟩ = some (.int k (l.getD i (0, 0)).2) := by
  by_cases hl : 0 < l.length
  · obtain ⟨g, off, c, hv, h1, h2, hc⟩ := h.pairs hl
    exact ⟨_, g, off, c, hv, h1, h2, fun _ => ⟨rfl, World.block_lt_of_cell? w _ (hc 0 hl).1⟩, hc⟩
  · obtain ⟨a, c, hv, h1, h2⟩ := h.form
    exact ⟨a, 0, 0, c, hv, h1, h2, fun h => absurd h hl, fun i hi => absurd hi (by omega)⟩

/-- one element of a row of the call's own, written anew -/
theorem Row.put {k : IntKind} {T : TypeId} {B : Nat} {w : World} {g n c : Nat} {l : List (Int × Int)} (h : Row (pairE k) T B w (.slice (some ⟨g, 0, none⟩) n c) l) (hn : n = l.length) {i : Nat} (hi : i < l.length) (x y : Int) :
    Row (pairE k) T B ((w.setCell ⟨g, i * 2, none⟩ (.int k x)).setCell ⟨g, i * 2 + 1, none⟩ (.int k y)) (.slice (some ⟨g, 0, none⟩) n c) (l.set i (x, y)) := by
  subst hn
  have h1 : w.ownsRow B T 2 (.slice (some ⟨g, 0, none⟩) l.length c) l.length ((pairE k).flat l) := h
  have h2 := (World.ownsRow.stored h1 (i * 2) (.int k x)).1
  have h3 := (World.ownsRow.stored h2 (i * 2 + 1) (.int k y)).1
  have e : (((pairE k).flat l).set (i * 2) (.int k x)).set (i * 2 + 1) (.int k y) = (pairE k).flat (l.set i (x, y)) := by
    clear h h1 h2 h3
    induction l generalizing i with
    | nil => simp at hi
    | cons s l ih =>
      cases i with
      | zero => simp [Enc.flat, pairE]
      | succ i =>
        have := ih (i := i) (by simpa using hi)
        rw [Enc.flat_cons, List.set_cons_succ, Enc.flat_cons, ← this]
        have e1 : (i + 1) * 2 = ((pairE k).cells s).length + i * 2 := by show (i + 1) * 2 = 2 + i * 2; omega
        have e2 : (i + 1) * 2 + 1 = ((pairE k).cells s).length + (i * 2 + 1) := by show (i + 1) * 2 + 1 = 2 + (i * 2 + 1); omega
        rw [e2, e1, List.set_append_right _ _ (by omega), Nat.add_sub_cancel_left, List.set_append_right _ _ (by omega), Nat.add_sub_cancel_left]
  unfold Row
  rw [List.length_set, ← e]
  exact h3
theorem Row.frozen {k : IntKind} {T : TypeId} {B : Nat} {w : World} {g n c : Nat} {l : List (Int × Int)} (h : Row (pairE k) T B w (.slice (some ⟨g, 0, none⟩) n c) l) (hn : n = l.length) (j : Nat) : w.frozen? ⟨g, j, none⟩ = false := by
  subst hn
  exact World.ownsRow.frozenAt h j
/-! ### cuts -/
/-- where a cut from lo on begins: one at the very end of the capacity stays where it is -/
def cutA (a : Option Addr) (c lo size : Nat) : Option Addr := if c = lo then a else a.map (·.add (lo * size))
section
variable {P : Program} {ts T : TypeId} {size bytes : Nat}
theorem Elem.elem (I : Elem P ts T size bytes) : P.elem ts = T := by simp [Program.elem, I.1]
theorem Elem.slice (I : Elem P ts T size bytes) : P.underlying ts = some (.slice (P.elem ts)) := by rw [I.elem]; exact I.1
theorem Elem.sizeOf (I : Elem P ts T size bytes) (w : World) : (Go.sizeOf (P.elem ts)).run P w = .ok size w := by
  obtain ⟨ht, i, z, hi, _, hs, _⟩ := I
  have e : P.elem ts = T := by simp [Program.elem, ht]
  simp [e, Go.sizeOf, typeInfo, hi, hs]
theorem run_cut (I : Elem P ts T size bytes) (a : Option Addr) (n c lo hi : Nat) (h1 : lo ≤ hi) (h2 : hi ≤ c) (w : World) :
    (Instr.sliceAt ts (.slice a n c) (some (.int .i64 lo)) (some (.int .i64 hi)) none).run P w = .ok (.slice (cutA a c lo size) (hi - lo) (c - lo)) w := by
  rw [run_sliceAt_slice w ts _ _ _ _ I.slice, run_slice_lh w ts a n c I.slice .i64 .i64 lo hi (by omega) (by omega) (by omega), I.sizeOf]
  simp [Result.andThen, sliced, cutA]
theorem run_cut_to (I : Elem P ts T size bytes) (a : Option Addr) (n c hi : Nat) (h2 : hi ≤ c) (w : World) :
    (Instr.sliceAt ts (.slice a n c) none (some (.int .i64 hi)) none).run P w = .ok (.slice (cutA a c 0 size) hi c) w := by
  rw [run_sliceAt_slice w ts _ _ _ _ I.slice, run_slice_h w ts a n c I.slice .i64 hi (by omega) (by omega), I.sizeOf]
  simp [Result.andThen, sliced, cutA]
theorem run_cut_from (I : Elem P ts T size bytes) (a : Option Addr) (n c lo : Nat) (h1 : lo ≤ n) (h2 : n ≤ c) (w : World) :
    (Instr.sliceAt ts (.slice a n c) (some (.int .i64 lo)) none none).run P w = .ok (.slice (cutA a c lo size) (n - lo) (c - lo)) w := by
  rw [run_sliceAt_slice w ts _ _ _ _ I.slice, run_slice_l w ts a n c I.slice .i64 lo (by omega) (by omega), I.sizeOf]
  simp [Result.andThen, sliced, cutA]
end
theorem cutA_zero (a : Option Addr) (c size : Nat) : cutA a c 0 size = a := by
  unfold cutA
  split
  · rfl
  · cases a <;> simp [Addr.add]
theorem Rd.cutA {α : Type} {E : Enc α} {w : World} {a : Option Addr} {n c : Nat} {l : List α} (h : Rd E w (.slice a n c) l) {lo hi : Nat} (h1 : lo ≤ hi) (h2 : hi ≤ l.length) :
    Rd E w (.slice (cutA a c lo E.size) (hi - lo) (c - lo)) ((l.take hi).drop lo) := by
  obtain ⟨a0, c0, hv0, h3, h4, _⟩ := id h
  injection hv0 with e1 e2 e3
  subst e1 e2 e3
  refine h.cut rfl h1 h2 rfl (by omega) (by omega) (fun hp g off hg => ?_)
  subst hg
  unfold Mem.cutA
  rw [if_neg (by omega)]
  simp only [Option.map_some, Option.some.injEq]
  unfold Addr.add
  split <;> simp_all
end Go.Proofs.Ytkenldpmogogaaa.Mem
