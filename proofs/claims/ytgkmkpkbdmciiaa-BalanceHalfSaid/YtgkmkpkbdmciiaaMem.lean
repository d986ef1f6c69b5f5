/- Lists in memory, whatever their elements: rows of the call's own, slices that read as a list, blocks, what one call may have written. -/
import Derived.Test.YtgkmkpkbdmciiaaRows
import Derived.WalkKit
import Derived.Laws.Tables
import Derived.Deep.WholeRow
import Derived.Deep.MidRow
import Derived.OwnWalk
import Derived.Laws.AppendOwnNone
import Derived.Maps.AppendAt
import Derived.Deep.AppendLies
import Derived.Deep.DeepMust
import Derived.Deep.DeepFit
import Derived.Lib.Hide
import Derived.Laws.ResultCell
import Derived.Laws.Rows
import Derived.ProofKit
import Derived.OpenShut
import Derived.SizedLaws
import Derived.Deep.CondSized
import Derived.Lib.SmallJoins
import Derived.Deep.Slices
import Derived.Deep.Fields
import Derived.Laws.OwnMore
set_option maxRecDepth 4000
namespace Go.Proofs.Ytgkmkpkbdmciiaa.Mem
open Go Go.RowKit
set_option linter.unusedVariables false

/-! ### worlds -/
theorem nest {a b c : World} (h : Below a.heap.size a b) (k : Below b.heap.size b c) : Below a.heap.size a c := h.trans (k.mono h.size)
theorem more {a b : World} (h : Below a.heap.size a b) (o : Obj) : Below a.heap.size a (b.alloc o) := h.alloc h.size o
theorem kc {a b : World} (k : Below a.heap.size a b) {p : Addr} {x : Value} (h : a.cell? p = some x) : b.cell? p = some x := (k.cell (World.block_lt_of_cell? a p h)).trans h
/-- only block b, and what is new, may have turned -/
def Only (b : Nat) (w w' : World) : Prop := w.grownBy w' (some b)
theorem Only.refl (b : Nat) (w : World) : Only b w w := ⟨rfl, rfl, rfl, Nat.le_refl _, fun _ _ _ => rfl⟩
theorem Only.trans {b : Nat} {x y z : World} (h : Only b x y) (k : Only b y z) : Only b x z := World.grownBy.trans h k
theorem Only.size {b : Nat} {x y : World} (h : Only b x y) : x.heap.size ≤ y.heap.size := World.grownBy.size h
theorem Only.of_below {b : Nat} {w w' : World} (h : Below w.heap.size w w') : Only b w w' := ⟨h.os, h.tape, h.output, h.size, fun i hi _ => h.block i hi⟩
theorem Only.below {b B : Nat} {w w' : World} (h : Only b w w') (hb : B ≤ b) (hB : B ≤ w.heap.size) : Below B w w' := ⟨h.os, h.tape, h.output, h.size, fun k hk => h.block k (by omega) (by intro e; injection e; omega)⟩
theorem Only.set {b : Nat} (w : World) (i : Nat) (u : Value) : Only b w (w.setCell ⟨b, i, none⟩ u) :=
  ⟨rfl, rfl, rfl, by simp [World.setCell], fun k _ hne => Below.heap_setCell _ _ _ _ (fun e => hne (by rw [e]))⟩
theorem Only.drew {b : Nat} {w w' : World} (h : Only b w w') : Only b w w'.drew := h.trans (Only.of_below (Below.refl _ _).drew)
theorem Only.alloc {b : Nat} {w w' : World} (h : Only b w w') (o : Obj) : Only b w (w'.alloc o) :=
  h.trans (Only.of_below (more (Below.refl _ _) o))
/-- a row that may be grown is one's own, or none -/
theorem grown_below {B : Nat} {w w' : World} {row : Option Nat} (h : w.grownBy w' row) (hB : B ≤ w.heap.size) (hr : ∀ k, row = some k → B ≤ k) : Below B w w' := (Below.refl B w).grown h hB hr

/-! ### blocks -/
/-- block g is just these cells, of that type, none of them frozen -/
def Blk (w : World) (g : Nat) (t : TypeId) (cs : Array Value) : Prop := w.heap[g]? = some (.cells cs t (0, 0))
section
variable {w w' : World} {g : Nat} {t : TypeId} {cs : Array Value}
theorem Blk.lt (h : Blk w g t cs) : g < w.heap.size := by
  unfold Blk at h
  exact (Array.getElem?_eq_some_iff.1 h).1
theorem Blk.cell (h : Blk w g t cs) (i : Nat) : w.cell? ⟨g, i, none⟩ = cs[i]? := cell_of_row w g i cs t (0, 0) h
theorem Blk.frozen (h : Blk w g t cs) (i : Nat) : w.frozen? ⟨g, i, none⟩ = false := by
  unfold Blk at h
  simp [World.frozen?, h]
theorem Blk.new (w : World) (t : TypeId) (cs : Array Value) : Blk (w.alloc (.cells cs t)) w.heap.size t cs := heap_alloc_new w _
theorem Blk.below {B : Nat} (h : Blk w g t cs) (hb : Below B w w') (hg : g < B) : Blk w' g t cs := (hb.block g hg).trans h
theorem Blk.keep (h : Blk w g t cs) (hb : Below w.heap.size w w') : Blk w' g t cs := h.below hb h.lt
theorem Blk.only {b : Nat} (h : Blk w g t cs) (hb : Only b w w') (hg : g ≠ b) : Blk w' g t cs := (hb.block g h.lt (by intro e; injection e; contradiction)).trans h
theorem Blk.set_ (h : Blk w g t cs) (i : Nat) (u : Value) : Blk (w.setCell ⟨g, i, none⟩ u) g t (cs.setIfInBounds i u) := by
  unfold Blk at h ⊢
  simp [World.setCell, Array.getElem?_modify, h]
theorem Blk.ne (h : Blk w g t cs) {g' : Nat} {t' : TypeId} {cs' : Array Value} (h' : Blk w g' t' cs') (hne : t ≠ t') : g ≠ g' := by
  rintro rfl
  unfold Blk at h h'
  rw [h] at h'
  injection h' with h'
  injection h' with _ ht
  exact hne ht
end

/-! ### elements, told by their cells -/
structure Enc (α : Type) where
  cells : α → List Value
  size : Nat
  len : ∀ x, (cells x).length = size
  one : ∀ x, ∀ u ∈ cells x, u.oneCell' = true
section
variable {α : Type} (E : Enc α)
def Enc.flat (l : List α) : List Value := l.flatMap E.cells
theorem Enc.flat_nil : E.flat [] = [] := rfl
theorem Enc.flat_cons (x : α) (l : List α) : E.flat (x :: l) = E.cells x ++ E.flat l := by simp [Enc.flat]
theorem Enc.flat_append (l m : List α) : E.flat (l ++ m) = E.flat l ++ E.flat m := by simp [Enc.flat]
theorem Enc.flat_len (l : List α) : (E.flat l).length = l.length * E.size := by
  induction l with
  | nil => simp [Enc.flat]
  | cons x l ih => rw [E.flat_cons, List.length_append, ih, E.len, List.length_cons, Nat.succ_mul]; omega
theorem Enc.flat_one (l : List α) : ∀ u ∈ E.flat l, u.oneCell' = true := by
  intro u hu
  obtain ⟨x, _, hx⟩ := List.mem_flatMap.1 hu
  exact E.one x u hx
theorem Enc.flat_at {l : List α} {i j : Nat} (hi : i < l.length) (hj : j < E.size) : (E.flat l)[i * E.size + j]? = (E.cells l[i])[j]? := by
  induction l generalizing i with
  | nil => simp at hi
  | cons x l ih =>
    rw [E.flat_cons]
    cases i with
    | zero => rw [List.getElem?_append_left (by rw [E.len]; omega)]; simp
    | succ i =>
      rw [List.getElem?_append_right (by rw [E.len, Nat.succ_mul]; omega), E.len, show (i + 1) * E.size + j - E.size = i * E.size + j by rw [Nat.succ_mul]; omega, ih (by simpa using hi)]
      simp
theorem Enc.flat_drop (l : List α) (k : Nat) : (E.flat l).drop (k * E.size) = E.flat (l.drop k) := by
  induction l generalizing k with
  | nil => simp [Enc.flat]
  | cons x l ih =>
    cases k with
    | zero => simp
    | succ k =>
      rw [E.flat_cons, List.drop_succ_cons, Nat.succ_mul, Nat.add_comm, List.drop_append, E.len]
      have : (E.cells x).drop (E.size + k * E.size) = [] := List.drop_eq_nil_of_le (by rw [E.len]; omega)
      rw [this, List.nil_append, Nat.add_sub_cancel_left, ih]
theorem Enc.flat_take (l : List α) (k : Nat) : (E.flat l).take (k * E.size) = E.flat (l.take k) := by
  induction l generalizing k with
  | nil => simp [Enc.flat]
  | cons x l ih =>
    cases k with
    | zero => simp [Enc.flat]
    | succ k =>
      rw [E.flat_cons, List.take_succ_cons, Nat.succ_mul, Nat.add_comm, List.take_append, E.len, E.flat_cons]
      rw [List.take_of_length_le (by rw [E.len]; omega), Nat.add_sub_cancel_left, ih]

/-- a row of the call's own, in blocks from B on -/
def Row (T : TypeId) (B : Nat) (w : World) (v : Value) (l : List α) : Prop := w.ownsRow B T E.size v l.length (E.flat l)
/-- a slice that reads as a list, wherever it lies -/
def Rd (w : World) (v : Value) (l : List α) : Prop :=
  ∃ a c, v = .slice a l.length c ∧ l.length ≤ c ∧ c ≤ maxLen ∧ (0 < l.length → ∃ g off, a = some ⟨g, off, none⟩ ∧ ∀ j u, (E.flat l)[j]? = some u → w.cell? ⟨g, off + j, none⟩ = some u)
end

section
variable {α : Type} {E : Enc α} {T : TypeId} {B B' : Nat} {w w' : World} {v : Value} {l : List α}
theorem Row.nil : Row E T B w (.slice none 0 0) [] := ⟨by simp [Enc.flat], .inl ⟨rfl, rfl⟩⟩
theorem Row.mono (h : Row E T B' w v l) (hB : B ≤ B') : Row E T B w v l := by
  obtain ⟨h1, h2⟩ := h
  refine ⟨h1, ?_⟩
  rcases h2 with h2 | ⟨g, cap, cur, hv, hg, hr⟩
  · exact .inl h2
  · exact .inr ⟨g, cap, cur, hv, Nat.le_trans hB hg, hr⟩
theorem Row.block (h : Row E T B w v l) : ∀ k, v.ownBlock = some k → B ≤ k ∧ k < w.heap.size := World.ownsRow.lt h
theorem Row.kept {row : Option Nat} (h : Row E T B w v l) (hg : w.grownBy w' row) (hne : v.ownBlock = none ∨ v.ownBlock ≠ row) : Row E T B w' v l := World.ownsRow.kept h hg hne
theorem Row.below {C : Nat} (h : Row E T B w v l) (k : Below C w w') (hC : ∀ k, v.ownBlock = some k → k < C) : Row E T B w' v l := by
  obtain ⟨h1, h2⟩ := h
  refine ⟨h1, ?_⟩
  rcases h2 with h2 | ⟨g, cap, cur, hv, hg, hc, hr⟩
  · exact .inl h2
  · exact .inr ⟨g, cap, cur, hv, hg, (k.block g (hC g (by rw [hv]; rfl))).trans hc, hr⟩
theorem Row.keep (h : Row E T B w v l) (k : Below w.heap.size w w') : Row E T B w' v l := h.below k (fun g hg => (h.block g hg).2)
theorem Row.only {b : Nat} (h : Row E T B w v l) (k : Only b w w') (hne : v.ownBlock ≠ some b) : Row E T B w' v l := Row.kept h k (.inr hne)
theorem Row.ne_blk {g : Nat} {t : TypeId} {cs : Array Value} (h : Row E T B w v l) (hg : Blk w g t cs) (hne : T ≠ t) : v.ownBlock ≠ some g := by
  rcases h.2 with ⟨rfl, _⟩ | ⟨g', cap, cur, rfl, _, hh, _⟩
  · simp [Value.ownBlock]
  · intro he
    have e : g' = g := by simpa [Value.ownBlock] using he
    subst e
    exact Blk.ne (t := T) hh hg hne rfl
theorem Row.new_ne {n : Nat} (h : Row E T B w v l) (hn : w.heap.size ≤ n) : some n ≠ v.ownBlock := fun e => by
  have := (Row.block h n e.symm).2
  omega
theorem Row.rd (h : Row E T B w v l) : Rd E w v l := by
  rcases h.2 with ⟨hv, hn⟩ | ⟨g, cap, cur, hv, hg, hc, h1, h2, h3, h4⟩
  · have : l = [] := List.eq_nil_of_length_eq_zero hn
    subst this
    exact ⟨none, 0, hv, Nat.le_refl _, Nat.zero_le _, fun h => absurd h (by simp)⟩
  · refine ⟨_, cap, hv, h1, h2, fun _ => ⟨g, 0, rfl, fun j u hu => ?_⟩⟩
    subst hv
    have hj : j < l.length * E.size := by rw [← E.flat_len]; exact (List.getElem?_eq_some_iff.1 hu).1
    rw [Nat.zero_add]
    exact (World.ownsRow.cellAt h j hj).trans hu
theorem Row.form (h : Row E T B w v l) : (v = .slice none 0 0 ∧ l = []) ∨ ∃ g c, v = .slice (some ⟨g, 0, none⟩) l.length c ∧ B ≤ g ∧ g < w.heap.size ∧ l.length ≤ c ∧ c ≤ maxLen := by
  rcases h.2 with ⟨hv, hn⟩ | ⟨g, cap, cur, hv, hg, hc, h1, h2, h3, h4⟩
  · exact .inl ⟨hv, List.eq_nil_of_length_eq_zero hn⟩
  · exact .inr ⟨g, cap, hv, hg, (Array.getElem?_eq_some_iff.1 hc).1, h1, h2⟩
/-- a row that was laid whole -/
theorem Row.lit (B : Nat) (w : World) (cs : Array Value) (l : List α) (n g : Nat) (hl : cs.toList = E.flat l) (hn : n = l.length) (hg : g = w.heap.size) (hB : B ≤ w.heap.size) (hm : l.length ≤ maxLen) : Row E T B (w.alloc (.cells cs T)) (.slice (some ⟨g, 0, none⟩) n n) l := by
  subst hn hg
  have hs : cs.size = l.length * E.size := by rw [← E.flat_len, ← hl]; simp
  refine ⟨E.flat_len l, .inr ⟨w.heap.size, l.length, cs, rfl, hB, heap_alloc_new w _, Nat.le_refl _, hm, hs, ?_⟩⟩
  rw [hl, List.take_of_length_le (by rw [E.flat_len]; omega)]
theorem Rd.nil (a : Option Addr) (c : Nat) (hc : c ≤ maxLen) : Rd E w (.slice a 0 c) [] := ⟨a, c, rfl, Nat.zero_le _, hc, fun h => absurd h (by simp)⟩
theorem Rd.keep (h : Rd E w v l) (k : Below w.heap.size w w') : Rd E w' v l := by
  obtain ⟨a, c, hv, h1, h2, h3⟩ := h
  refine ⟨a, c, hv, h1, h2, fun hl => ?_⟩
  obtain ⟨g, off, ha, hc⟩ := h3 hl
  exact ⟨g, off, ha, fun j u hu => kc k (hc j u hu)⟩
theorem Rd.only {b : Nat} (h : Rd E w v l) (k : Only b w w') (hne : v.ownBlock ≠ some b) : Rd E w' v l := by
  obtain ⟨a, c, hv, h1, h2, h3⟩ := h
  refine ⟨a, c, hv, h1, h2, fun hl => ?_⟩
  obtain ⟨g, off, ha, hc⟩ := h3 hl
  refine ⟨g, off, ha, fun j u hu => World.grownBy.cell k (hc j u hu) ?_⟩
  intro e
  apply hne
  rw [hv, ha]
  exact e
theorem Rd.form (h : Rd E w v l) : ∃ a c, v = .slice a l.length c ∧ l.length ≤ c ∧ c ≤ maxLen := by
  obtain ⟨a, c, hv, h1, h2, h3⟩ := h
  exact ⟨a, c, hv, h1, h2⟩
/-- what is read: each cell of each element -/
theorem Rd.cells (h : Rd E w v l) (hl : 0 < l.length) : ∃ g off c, v = .slice (some ⟨g, off, none⟩) l.length c ∧ l.length ≤ c ∧ c ≤ maxLen ∧ ∀ i (hi : i < l.length) j, j < E.size → w.cell? ⟨g, off + (i * E.size + j), none⟩ = (E.cells l[i])[j]? := by
  obtain ⟨a, c, hv, h1, h2, h3⟩ := h
  obtain ⟨g, off, rfl, hc⟩ := h3 hl
  refine ⟨g, off, c, hv, h1, h2, fun i hi j hj => ?_⟩
  have hh := E.flat_at hi hj
  have hx : (E.cells l[i])[j]? = some ((E.cells l[i])[j]'(by rw [E.len]; exact hj)) := List.getElem?_eq_getElem _
  rw [hx] at hh ⊢
  exact hc _ _ hh
/-- a cut of a slice -/
theorem Rd.cut (h : Rd E w v l) {a : Option Addr} {n c : Nat} (hv : v = .slice a n c) {lo hi : Nat} (h1 : lo ≤ hi) (h2 : hi ≤ l.length) {a' : Option Addr} {n' c' : Nat} (hn' : n' = hi - lo) (hc' : n' ≤ c') (hm : c' ≤ maxLen)
    (ha : 0 < n' → ∀ g off, a = some ⟨g, off, none⟩ → a' = some ⟨g, off + lo * E.size, none⟩) : Rd E w (.slice a' n' c') ((l.take hi).drop lo) := by
  obtain ⟨a0, c0, hv0, h3, h4, h5⟩ := h
  rw [hv] at hv0
  injection hv0 with e1 e2 e3
  subst e1 e3
  have hlen : ((l.take hi).drop lo).length = n' := by rw [List.length_drop, List.length_take, Nat.min_eq_left h2, hn']
  refine ⟨a', c', by rw [hlen], by rw [hlen]; exact hc', hm, fun hl => ?_⟩
  rw [hlen] at hl
  obtain ⟨g, off, hg, hcell⟩ := h5 (by omega)
  refine ⟨g, off + lo * E.size, ha hl g off hg, fun j u hu => ?_⟩
  rw [Nat.add_assoc]
  refine hcell _ u ?_
  rw [← E.flat_drop, List.getElem?_drop, ← E.flat_take, List.getElem?_take] at hu
  split at hu
  · exact hu
  · cases hu
/-- a new block of one element -/
theorem Rd.fresh (w : World) (x : α) (cs : Array Value) (t : TypeId) (n : Nat) (hc : cs.toList = E.cells x) (hn : n = w.heap.size) : Rd E (w.alloc (.cells cs t)) (.slice (some ⟨n, 0, none⟩) 1 1) [x] := by
  subst hn
  refine ⟨_, 1, rfl, Nat.le_refl _, by unfold maxLen; omega, fun _ => ⟨w.heap.size, 0, rfl, fun j u hu => ?_⟩⟩
  rw [Nat.zero_add, (Blk.new w t cs).cell, ← Array.getElem?_toList, hc]
  simpa [Enc.flat] using hu
end

/-! ### append -/
/-- what is to be known of a slice's type -/
def Elem (P : Program) (ts e : TypeId) (size bytes : Nat) : Prop :=
  P.underlying ts = some (.slice e) ∧ ∃ i z, P.info? e = some i ∧ i.zero = some z ∧ i.size = size ∧ i.bytes = bytes ∧ z.cells.size = size
theorem elem_of {P : Program} {ts e : TypeId} {z : Value} {size bytes : Nat} (h : P.underlying ts = some (.slice e)) (hi : (P.info? e).map (fun i => (i.zero, i.size, i.bytes)) = some (some z, size, bytes)) (hz : z.cells.size = size) : Elem P ts e size bytes := by
  obtain ⟨i, h1, h2, h3, h4⟩ := info_parts hi
  exact ⟨h, i, z, h1, h2, h3, h4, hz⟩
section
variable {P : Program} {α : Type} {E : Enc α} {T ts : TypeId} {B bytes : Nat} {w : World} {v x : Value} {l m : List α}
theorem run_append_rd (I : Elem P ts T E.size bytes) (hpos : 0 < E.size) (ty : TypeId) (hown : Row E T B w v l) (hr : Rd E w x m) (h63 : l.length + m.length ≤ maxLen) (hbytes : (l.length + m.length) * bytes ≤ 140737488355328) (hB : B ≤ w.heap.size) :
    ∃ v' w', (Builtin.append_ #[ts, ts] ty #[v, x]).run P w = .ok v' w' ∧ Row E T B w' v' (l ++ m) ∧ w.grownBy w' v.ownBlock ∧ (v'.ownBlock = v.ownBlock ∨ v'.ownBlock = some w.heap.size) := by
  obtain ⟨ht, i, z, hi, hz, hs, hby, hzs⟩ := I
  obtain ⟨a, c, rfl, h1, h2, h3⟩ := hr
  rcases Nat.eq_zero_or_pos m.length with h0 | h0
  · have hm : m = [] := List.eq_nil_of_length_eq_zero h0
    subst hm
    rcases a with _ | ad
    · refine ⟨v, w, ?_, by simpa using hown, World.grownBy.refl w _, .inl rfl⟩
      rcases hown.2 with ⟨rfl, hn⟩ | ⟨g, cap, cur, rfl, _, _, hnc, _⟩
      · simp [Builtin.append_, run_underlying ht, sizeOf, typeInfo, hi, Builtin.lenOf, Builtin.firstCells]
      · simp [Builtin.append_, run_underlying ht, sizeOf, typeInfo, hi, Builtin.lenOf, Builtin.firstCells, hnc, storeCells]
    · obtain ⟨v', w', hrun, ho, hg, _, ha⟩ := run_append_own_at (P := P) w B ts ty T i z E.size bytes ht hi hz hs hby hzs hpos v l.length (E.flat l) hown ad 0 c [] (by simp)
        (fun j u hu => by simp at hu) (fun u hu => by cases hu) h63 hbytes hB
      refine ⟨v', w', hrun, ?_, hg, ha⟩
      unfold Row
      rw [List.append_nil]
      simpa using ho
  · obtain ⟨g, off, rfl, hc⟩ := h3 h0
    obtain ⟨v', w', hrun, ho, hg, _, ha⟩ := run_append_own_at (P := P) w B ts ty T i z E.size bytes ht hi hz hs hby hzs hpos v l.length (E.flat l) hown ⟨g, off, none⟩ m.length c (E.flat m) (E.flat_len m)
      (fun j u hu => by have := hc j u hu; unfold Addr.add; split <;> simp_all) (E.flat_one m) h63 hbytes hB
    refine ⟨v', w', hrun, ?_, hg, ha⟩
    unfold Row
    rw [List.length_append, E.flat_append]
    exact ho
theorem wp_append {o : Oper} {a : Act} {K : Act → World → Prop} {Q : Exit → Act → World → Prop} (I : Elem P ts T E.size bytes) (hpos : 0 < E.size) (s sx : Operand)
    (ho : o.op = .call { callee := .builtin .append, args := #[s, sx], argTypes := #[ts, ts] }) (hs : a.eval s = v) (hown : Row E T B w v l) (hx : a.eval sx = x) (hr : Rd E w x m)
    (h63 : l.length + m.length ≤ maxLen) (hbytes : (l.length + m.length) * bytes ≤ 140737488355328) (hB : B ≤ w.heap.size)
    (h : ∀ v' w', Row E T B w' v' (l ++ m) → Below B w w' → w.grownBy w' v.ownBlock → (v'.ownBlock = v.ownBlock ∨ v'.ownBlock = some w.heap.size) → K (a.put o.dst v') w') : o.wp P a w K Q := by
  obtain ⟨v', w', hrun, h2, h3, h4⟩ := run_append_rd (P := P) I hpos o.type hown hr h63 hbytes hB
  unfold Oper.wp execOp
  simp only [ho, resolve, invoke, builtin, Sem.run_bind, Sem.run_pure, Result.andThen_ok, List.map_toArray, List.map_cons, List.map_nil, hs, hx, hrun]
  exact h v' w' h2 (grown_below h3 hB (fun k hk => (hown.block k hk).1)) h3 h4
theorem wpList_append {ops : Array Oper} {rest : List Oper} {o : Oper} {a : Act} {Q : Exit → Act → World → Prop} (I : Elem P ts T E.size bytes) (hpos : 0 < E.size) (hgd : o.guard = none) (s sx : Operand)
    (ho : o.op = .call { callee := .builtin .append, args := #[s, sx], argTypes := #[ts, ts] }) (hs : a.eval s = v) (hown : Row E T B w v l) (hx : a.eval sx = x) (hr : Rd E w x m)
    (h63 : l.length + m.length ≤ maxLen) (hbytes : (l.length + m.length) * bytes ≤ 140737488355328) (hB : B ≤ w.heap.size)
    (h : ∀ v' w', Row E T B w' v' (l ++ m) → Below B w w' → w.grownBy w' v.ownBlock → (v'.ownBlock = v.ownBlock ∨ v'.ownBlock = some w.heap.size) → wpList P ops Q rest (a.put o.dst v') w') : wpList P ops Q (o :: rest) a w :=
  wpList_plain hgd fun _ hK => wp_append I hpos s sx ho hs hown hx hr h63 hbytes hB fun v' w' h2 h3 h4 h5 => hK _ _ (h v' w' h2 h3 h4 h5)
end

theorem run_append_make {P : Program} {ts T ti : TypeId} {size bytes : Nat} {kd : IntKind} (I : Elem P ts T size bytes) (hint : P.underlying ti = some (.int kd)) (hsz : 0 < size) (ty : TypeId) (n : Nat) (hn : 0 < n) (hb : n * bytes ≤ 140737488355328) (h63 : n ≤ 1099511627776) (w : World) :
    ∃ cap cur, (Builtin.append_ #[ts, ti] ty #[.slice none 0 0, .int .i64 n]).run P w = .ok (.slice (some ⟨w.heap.size, 0, none⟩) n cap) (w.drew.alloc (.cells cur T)) ∧ n ≤ cap ∧ cap ≤ maxLen ∧ cur.size = cap * size := by
  obtain ⟨ht, i, z, hi, hz, hs, hby, hzs⟩ := I
  subst hs hby
  have hw : IntKind.i64.wrap (n : Int) = (n : Int) := IntWalk.i64_in _ (by omega)
  have h2 : ¬ (281474976710656 < (n : Int) * (i.bytes : Int)) := by
    have : ((n * i.bytes : Nat) : Int) ≤ 140737488355328 := by omega
    rw [Int.natCast_mul] at this
    omega
  have h3 : Builtin.nextslicecap n 0 = n := nextslicecap_zero hn
  have h4 : ¬ (281474976710656 < n * i.bytes) := by omega
  have h5 : n * i.size ≠ 0 := Nat.mul_ne_zero (by omega) (by omega)
  have h6 : ¬ n = 0 := by omega
  have h7 : ¬ (9223372036854775807 < (n : Int)) := by omega
  have h8 : ¬ (n : Int) < 0 := by omega
  have hm : n ≤ maxLen := by unfold maxLen; omega
  have hge := grownCap_ge w n 0 T
  refine ⟨grownCap w n 0 T, (#[] ++ Builtin.zeroCells z.cells n ++ Builtin.zeroCells z.cells (grownCap w n 0 T - n)), ?_, hge, grownCap_le_maxLen w n 0 T hm, ?_⟩
  · simp only [Builtin.append_]
    simp [run_underlying ht, run_underlying hint, sizeOf, typeInfo, hi, hz, zeroValue, run_firstCells_none, asInt, asIntOf, hw, h2, h3, h4, h6, h7, h8, Question.forced, grownCap, newRow]
    exact fun h => absurd h h5
  · simp only [Array.size_append, size_zeroCells, hzs, List.size_toArray, List.length_nil, Nat.zero_add, ← Nat.add_mul]
    rw [Nat.add_sub_cancel' hge]

theorem wpList_append_make {P : Program} {ts T ti : TypeId} {size bytes : Nat} {kd : IntKind} {ops : Array Oper} {rest : List Oper} {o : Oper} {a : Act} {Q : Exit → Act → World → Prop} {w : World} (I : Elem P ts T size bytes) (hint : P.underlying ti = some (.int kd)) (hsz : 0 < size)
    (hgd : o.guard = none) (s sx : Operand) (ho : o.op = .call { callee := .builtin .append, args := #[s, sx], argTypes := #[ts, ti] }) (n : Nat) (hs : a.eval s = .slice none 0 0) (hx : a.eval sx = .int .i64 n)
    (hn : 0 < n) (hb : n * bytes ≤ 140737488355328) (h63 : n ≤ 1099511627776)
    (h : ∀ cap cur, n ≤ cap → cap ≤ maxLen → cur.size = cap * size → wpList P ops Q rest (a.put o.dst (.slice (some ⟨w.heap.size, 0, none⟩) n cap)) (w.drew.alloc (.cells cur T))) : wpList P ops Q (o :: rest) a w := by
  obtain ⟨cap, cur, hrun, h1, h2, h3⟩ := run_append_make (P := P) I hint hsz o.type n hn hb h63 w
  refine wpList_plain hgd fun K hK => ?_
  unfold Oper.wp execOp
  simp only [ho, resolve, invoke, builtin, Sem.run_bind, Sem.run_pure, Result.andThen_ok, List.map_toArray, List.map_cons, List.map_nil, hs, hx, hrun]
  exact hK _ _ (h cap cur h1 h2 h3)

/-- pairs of numbers -/
def pairE (k : IntKind) : Enc (Int × Int) where
  cells p := [.int k p.1, .int k p.2]
  size := 2
  len _ := rfl
  one p u hu := by simp at hu; rcases hu with rfl | rfl <;> rfl
def intE (k : IntKind) : Enc Int where
  cells p := [.int k p]
  size := 1
  len _ := rfl
  one p u hu := by simp at hu; subst hu; rfl
/-- pairs, read: two cells each -/
theorem Rd.pairs {k : IntKind} {w : World} {v : Value} {l : List (Int × Int)} (h : Rd (pairE k) w v l) (hl : 0 < l.length) :
    ∃ g off c, v = .slice (some ⟨g, off, none⟩) l.length c ∧ l.length ≤ c ∧ c ≤ maxLen ∧ ∀ i, i < l.length → w.cell? ⟨g, off + i * 2, none⟩ = some (.int k (l.getD i (0, 0)).1) ∧ w.cell? ⟨g, off + i * 2 + 1, none⟩ = some (.int k (l.getD i (0, 0)).2) := by
  obtain ⟨g, off, c, hv, h1, h2, hc⟩ := h.cells hl
  refine ⟨g, off, c, hv, h1, h2, fun i hi => ?_⟩
  have e : l.getD i (0, 0) = l[i] := by simp [List.getD, hi]
  rw [e]
  exact ⟨hc i hi 0 (show 0 < 2 by omega), hc i hi 1 (show 1 < 2 by omega)⟩
theorem Row.pairs {k : IntKind} {T : TypeId} {B : Nat} {w : World} {v : Value} {l : List (Int × Int)} (h : Row (pairE k) T B w v l) (hl : 0 < l.length) :
    ∃ g c, v = .slice (some ⟨g, 0, none⟩) l.length c ∧ g < w.heap.size ∧ l.length ≤ c ∧ c ≤ maxLen ∧ ∀ i, i < l.length → w.cell? ⟨g, i * 2, none⟩ = some (.int k (l.getD i (0, 0)).1) ∧ w.cell? ⟨g, i * 2 + 1, none⟩ = some (.int k (l.getD i (0, 0)).2) := by
  obtain ⟨g, off, c, hv, h1, h2, hc⟩ := h.rd.pairs hl
  rcases h.form with ⟨_, he⟩ | ⟨g', c', hv', _, hlt, _⟩
  · subst he; simp at hl
  · rw [hv'] at hv
    injection hv with e1 e2 e3
    injection e1 with e1
    injection e1 with e1 e4
    subst e1 e3 e4
    refine ⟨g', c', hv', hlt, h1, h2, fun i hi => ?_⟩
    have := hc i hi
    simpa using this
/-- the same, with what holds of an empty one: for a loop -/
theorem Row.loop {k : IntKind} {T : TypeId} {B : Nat} {w : World} {v : Value} {l : List (Int × Int)} (h : Row (pairE k) T B w v l) :
    ∃ a g c, v = .slice a l.length c ∧ l.length ≤ c ∧ c ≤ maxLen ∧ (0 < l.length → a = some ⟨g, 0, none⟩ ∧ g < w.heap.size) ∧ ∀ i, i < l.length → w.cell? ⟨g, i * 2, none⟩ = some (.int k (l.getD i (0, 0)).1) ∧ w.cell? ⟨g, i * 2 + 1, none⟩ = some (.int k (l.getD i (0, 0)).2) := by
  by_cases hl : 0 < l.length
  · obtain ⟨g, c, hv, hg, h1, h2, hc⟩ := h.pairs hl
    exact ⟨_, g, c, hv, h1, h2, fun _ => ⟨rfl, hg⟩, hc⟩
  · obtain ⟨a, c, hv, h1, h2⟩ := h.rd.form
    exact ⟨a, 0, c, hv, h1, h2, fun h => absurd h hl, fun i hi => absurd hi (by omega)⟩
theorem Rd.loop {k : IntKind} {w : World} {v : Value} {l : List (Int × Int)} (h : Rd (pairE k) w v l) :
    ∃ a g off c, v = .slice a l.length c ∧ l.length ≤ c ∧ c ≤ maxLen ∧ (0 < l.length → a = some ⟨g, off, none⟩ ∧ g < w.heap.size) ∧ ∀ i, i < l.length → w.cell? ⟨g, off + i * 2, none⟩ = some (.int k (l.getD i (0, 0)).1) ∧ w.cell? ⟨g, off + i * 2 + 1, none⟩ = some (.int k (l.getD i (0, 0)).2) := by
  by_cases hl : 0 < l.length
  · obtain ⟨g, off, c, hv, h1, h2, hc⟩ := h.pairs hl
    exact ⟨_, g, off, c, hv, h1, h2, fun _ => ⟨rfl, World.block_lt_of_cell? w _ (hc 0 hl).1⟩, hc⟩
  · obtain ⟨a, c, hv, h1, h2⟩ := h.form
    exact ⟨a, 0, 0, c, hv, h1, h2, fun h => absurd h hl, fun i hi => absurd hi (by omega)⟩

/-- one element of a row of the call's own, written anew -/
theorem Row.put {k : IntKind} {T : TypeId} {B : Nat} {w : World} {g n c : Nat} {l : List (Int × Int)} (h : Row (pairE k) T B w (.slice (some ⟨g, 0, none⟩) n c) l) (hn : n = l.length) {i : Nat} (hi : i < l.length) (x y : Int) :
    Row (pairE k) T B ((w.setCell ⟨g, i * 2, none⟩ (.int k x)).setCell ⟨g, i * 2 + 1, none⟩ (.int k y)) (.slice (some ⟨g, 0, none⟩) n c) (l.set i (x, y)) := by
  subst hn
  have h1 : w.ownsRow B T 2 (.slice (some ⟨g, 0, none⟩) l.length c) l.length ((pairE k).flat l) := h
  have h2 := (World.ownsRow.stored h1 (i * 2) (.int k x)).1
  have h3 := (World.ownsRow.stored h2 (i * 2 + 1) (.int k y)).1
  have e : (((pairE k).flat l).set (i * 2) (.int k x)).set (i * 2 + 1) (.int k y) = (pairE k).flat (l.set i (x, y)) := by
    clear h h1 h2 h3
    induction l generalizing i with
    | nil => simp at hi
    | cons s l ih =>
      cases i with
      | zero => simp [Enc.flat, pairE]
      | succ i =>
        have := ih (i := i) (by simpa using hi)
        rw [Enc.flat_cons, List.set_cons_succ, Enc.flat_cons, ← this]
        have e1 : (i + 1) * 2 = ((pairE k).cells s).length + i * 2 := by show (i + 1) * 2 = 2 + i * 2; omega
        have e2 : (i + 1) * 2 + 1 = ((pairE k).cells s).length + (i * 2 + 1) := by show (i + 1) * 2 + 1 = 2 + (i * 2 + 1); omega
        rw [e2, e1, List.set_append_right _ _ (by omega), Nat.add_sub_cancel_left, List.set_append_right _ _ (by omega), Nat.add_sub_cancel_left]
  unfold Row
  rw [List.length_set, ← e]
  exact h3
theorem Row.frozen {k : IntKind} {T : TypeId} {B : Nat} {w : World} {g n c : Nat} {l : List (Int × Int)} (h : Row (pairE k) T B w (.slice (some ⟨g, 0, none⟩) n c) l) (hn : n = l.length) (j : Nat) : w.frozen? ⟨g, j, none⟩ = false := by
  subst hn
  exact World.ownsRow.frozenAt h j
/-! ### cuts -/
/-- where a cut from lo on begins: one at the very end of the capacity stays where it is -/
def cutA (a : Option Addr) (c lo size : Nat) : Option Addr := if c = lo then a else a.map (·.add (lo * size))
section
variable {P : Program} {ts T : TypeId} {size bytes : Nat}
theorem Elem.elem (I : Elem P ts T size bytes) : P.elem ts = T := by simp [Program.elem, I.1]
theorem Elem.slice (I : Elem P ts T size bytes) : P.underlying ts = some (.slice (P.elem ts)) := by rw [I.elem]; exact I.1
theorem Elem.sizeOf (I : Elem P ts T size bytes) (w : World) : (Go.sizeOf (P.elem ts)).run P w = .ok size w := by
  obtain ⟨ht, i, z, hi, _, hs, _⟩ := I
  have e : P.elem ts = T := by simp [Program.elem, ht]
  simp [e, Go.sizeOf, typeInfo, hi, hs]
theorem run_cut (I : Elem P ts T size bytes) (a : Option Addr) (n c lo hi : Nat) (h1 : lo ≤ hi) (h2 : hi ≤ c) (w : World) :
    (Instr.sliceAt ts (.slice a n c) (some (.int .i64 lo)) (some (.int .i64 hi)) none).run P w = .ok (.slice (cutA a c lo size) (hi - lo) (c - lo)) w := by
  rw [run_sliceAt_slice w ts _ _ _ _ I.slice, run_slice_lh w ts a n c I.slice .i64 .i64 lo hi (by omega) (by omega) (by omega), I.sizeOf]
  simp [Result.andThen, sliced, cutA]
theorem run_cut_to (I : Elem P ts T size bytes) (a : Option Addr) (n c hi : Nat) (h2 : hi ≤ c) (w : World) :
    (Instr.sliceAt ts (.slice a n c) none (some (.int .i64 hi)) none).run P w = .ok (.slice (cutA a c 0 size) hi c) w := by
  rw [run_sliceAt_slice w ts _ _ _ _ I.slice, run_slice_h w ts a n c I.slice .i64 hi (by omega) (by omega), I.sizeOf]
  simp [Result.andThen, sliced, cutA]
theorem run_cut_from (I : Elem P ts T size bytes) (a : Option Addr) (n c lo : Nat) (h1 : lo ≤ n) (h2 : n ≤ c) (w : World) :
    (Instr.sliceAt ts (.slice a n c) (some (.int .i64 lo)) none none).run P w = .ok (.slice (cutA a c lo size) (n - lo) (c - lo)) w := by
  rw [run_sliceAt_slice w ts _ _ _ _ I.slice, run_slice_l w ts a n c I.slice .i64 lo (by omega) (by omega), I.sizeOf]
  simp [Result.andThen, sliced, cutA]
end
theorem cutA_zero (a : Option Addr) (c size : Nat) : cutA a c 0 size = a := by
  unfold cutA
  split
  · rfl
  · cases a <;> simp [Addr.add]
theorem Rd.cutA {α : Type} {E : Enc α} {w : World} {a : Option Addr} {n c : Nat} {l : List α} (h : Rd E w (.slice a n c) l) {lo hi : Nat} (h1 : lo ≤ hi) (h2 : hi ≤ l.length) :
    Rd E w (.slice (cutA a c lo E.size) (hi - lo) (c - lo)) ((l.take hi).drop lo) := by
  obtain ⟨a0, c0, hv0, h3, h4, _⟩ := id h
  injection hv0 with e1 e2 e3
  subst e1 e2 e3
  refine h.cut rfl h1 h2 rfl (by omega) (by omega) (fun hp g off hg => ?_)
  subst hg
  unfold Mem.cutA
  rw [if_neg (by omega)]
  simp only [Option.map_some, Option.some.injEq]
  unfold Addr.add
  split <;> simp_all
end Go.Proofs.Ytgkmkpkbdmciiaa.Mem
/- Structs that lie in memory, read whole. -/
namespace Go.Proofs.Ytgkmkpkbdmciiaa.Mem
open Go Go.RowKit
set_option linter.unusedVariables false
theorem Blk.newAt (w : World) (t : TypeId) (cs : Array Value) {n : Nat} (h : n = w.heap.size) : Blk (w.alloc (.cells cs t)) n t cs := h ▸ Blk.new w t cs
theorem size_alloc (w : World) (o : Obj) : (w.alloc o).heap.size = w.heap.size + 1 := by simp
section
variable {P : Program}
theorem run_load_agg {ty : TypeId} {n : Nat} {fs : Array Field} (hu : P.underlying ty = some (.struct fs)) (hi : (P.info? ty).map (·.size) = some n) {w : World} {g off : Nat} {l : List Value} (hl : l.length = n) (hc : ∀ j u, l[j]? = some u → w.cell? ⟨g, off + j, none⟩ = some u) :
    (loadVar ty ⟨g, off, none⟩).run P w = .ok (.agg l.toArray) w := by
  have hls := run_loadCells_list (P := P) w ⟨g, off, none⟩ l (fun j v hv => by
      have hadd : (⟨g, off, none⟩ : Addr).add j = ⟨g, off + j, none⟩ := by unfold Addr.add; split <;> simp_all
      rw [hadd]
      exact hc j v hv)
  cases hq : P.info? ty with
  | none => simp [hq] at hi
  | some i =>
    have hs : i.size = n := by simpa [hq] using hi
    have hagg : (isAgg ty).run P w = .ok true w := by
      unfold isAgg
      rw [Sem.run_bind, run_underlying hu w]
      rfl
    rw [hl] at hls
    simp [loadVar, Sem.run_bind, hagg, sizeOf, typeInfo, hq, hs, hls]
theorem exec_load_agg {o : Oper} {a : Act} {ty : TypeId} {x : Operand} (ho : o.op = .load ty x) {n : Nat} {fs : Array Field} (hu : P.underlying ty = some (.struct fs)) (hi : (P.info? ty).map (·.size) = some n) {w : World} {g off : Nat} {l : List Value} (hl : l.length = n)
    (hx : a.eval x = .pointer (some ⟨g, off, none⟩)) (hc : ∀ j u, l[j]? = some u → w.cell? ⟨g, off + j, none⟩ = some u) :
    (execOp a.eval o).run P w = .ok (.value (.agg l.toArray)) w := by
  unfold execOp
  simp only [ho, hx, Instr.loadAt, Instr.sureAddr, Sem.run_bind, Sem.run_pure, Result.andThen_ok, run_load_agg hu hi hl hc]
/-- a block that is a struct -/
theorem exec_load_blk {o : Oper} {a : Act} {ty t : TypeId} {x : Operand} (ho : o.op = .load ty x) {n : Nat} {fs : Array Field} (hu : P.underlying ty = some (.struct fs)) (hi : (P.info? ty).map (·.size) = some n) {w : World} {g : Nat} {l : List Value} (hl : l.length = n)
    (hx : a.eval x = .pointer (some ⟨g, 0, none⟩)) (hB : Blk w g t l.toArray) : (execOp a.eval o).run P w = .ok (.value (.agg l.toArray)) w :=
  exec_load_agg ho hu hi hl hx (fun j u hu => by rw [Nat.zero_add, hB.cell, List.getElem?_toArray]; exact hu)
/-- a part of a block -/
theorem exec_load_sub {o : Oper} {a : Act} {ty t : TypeId} {x : Operand} (ho : o.op = .load ty x) {n : Nat} {fs : Array Field} (hu : P.underlying ty = some (.struct fs)) (hi : (P.info? ty).map (·.size) = some n) {w : World} {g off : Nat} {l m : List Value} (hl : l.length = n)
    (hx : a.eval x = .pointer (some ⟨g, off, none⟩)) (hB : Blk w g t m.toArray) (hm : (m.drop off).take n = l) : (execOp a.eval o).run P w = .ok (.value (.agg l.toArray)) w :=
  exec_load_agg ho hu hi hl hx (fun j u hu => by
    rw [hB.cell, List.getElem?_toArray]
    rw [← hm, List.getElem?_take] at hu
    split at hu
    · rw [List.getElem?_drop] at hu; exact hu
    · cases hu)
/-- results that lie in a block of the call's own -/
theorem results_blk {fn : Func} {p : Tmp} {ty : TypeId} (h : fn.results = #[.cell p ty]) {n : Nat} {fs : Array Field} (hu : P.underlying ty = some (.struct fs)) (hi : (P.info? ty).map (·.size) = some n) {tmps : Array Value} {w : World} {g : Nat} {t : TypeId} {l : List Value} (hl : l.length = n)
    (hp : tmps.getD p undef = .pointer (some ⟨g, 0, none⟩)) (hB : Blk w g t l.toArray) : (results fn tmps).run P w = .ok (.agg l.toArray) w :=
  results_cell_row h tmps w g t l.toArray (0, 0) _ hp hB hu rfl (by rw [hi, ← hl]; simp)
theorem results_blk_tmp {fn : Func} {p u : Tmp} {ty : TypeId} (h : fn.results = #[.cell p ty, .tmp u]) {n : Nat} {fs : Array Field} (hu : P.underlying ty = some (.struct fs)) (hi : (P.info? ty).map (·.size) = some n) {tmps : Array Value} {w : World} {g : Nat} {t : TypeId} {l : List Value} (hl : l.length = n)
    (hp : tmps.getD p undef = .pointer (some ⟨g, 0, none⟩)) (hB : Blk w g t l.toArray) : (results fn tmps).run P w = .ok (.tuple #[.agg l.toArray, tmps.getD u undef]) w := by
  have hp' : tmps[p]?.getD undef = .pointer (some ⟨g, 0, none⟩) := by simpa using hp
  rw [results_cell_tmp h]
  have hld := run_load_agg (P := P) hu hi (w := w) (g := g) (off := 0) hl (fun j u hu => by rw [Nat.zero_add, hB.cell, List.getElem?_toArray]; exact hu)
  simp [hp', asAddr, Result.andThen, hld]
end
end Go.Proofs.Ytgkmkpkbdmciiaa.Mem
/- The frame of a law's row, once for all laws of the seat: what the Go text must do is said by 'walk' alone (it answers true and only makes memory); the rest of the row follows. -/
namespace Go.Proofs.Ytgkmkpkbdmciiaa
open Go.ChangeShapes Go.WideShapes Go.ChangeAt Go.RowKit Go.Joins

section
variable {H : Type} {enc : TypeId × Value → H} {P : Program}

/-- All arguments read behind a call that only makes memory as they did before it. -/
theorem trodAll_below (hl : laidOutB P = true) {W W' : World} (hb : Below W.heap.size W W') {sp : Nat → Bool} :
    ∀ (ts : List TypeId) (vs : List Value) (ds : List (DataW H)) (ps : List MemPlace), (ts.all fun t => P.readableRec t && decide (t < P.types.size)) = true →
      DataW.TrodAll enc P W 0 (fun _ => true) true ts vs ds ps → (∀ x ∈ ps, x.block < W.heap.size) → (∀ x ∈ ps, sp x.block = true) →
      DataW.TrodAll enc P W' 0 sp true ts vs ds ps
  | [], vs, ds, ps, _, h, _, _ => by
    obtain ⟨rfl, rfl, rfl⟩ := trodAll_nil h
    exact trodAll_mk0
  | t :: ts, vs, ds, ps, ht, h, hlt, hsp => by
    obtain ⟨v, vs', d, ds', p, q, rfl, rfl, rfl, h0, h1⟩ := trodAll_cons h
    simp only [List.all_cons, Bool.and_eq_true, decide_eq_true_eq] at ht
    exact trodAll_cons_mk (WideElems.Trod_stays hl ht.1.1 ht.1.2 h0 (fun x hx => hb.same (hlt x (List.mem_append_left _ hx))) (fun x hx => hsp x (List.mem_append_left _ hx)))
      (trodAll_below hl hb ts vs' ds' q ht.2 h1 (fun x hx => hlt x (List.mem_append_right _ hx)) (fun x hx => hsp x (List.mem_append_right _ hx)))

/-- The post of a law, from the walk's end. -/
theorem law_post {fn : Func} {s : ChangeSpec} {tb : TypeId} {W W' : World} {args : Array Value} {ds gs : List (DataW H)} {before : List MemPlace} (hv : s.vars = [])
    (hspec : ∀ l : List (DataW H), l.length = fn.params.size → s.fn H l = { results := [.lit (.bool true)], args := l })
    (hl : laidOutB P = true) (hpar : (fn.params.toList.all fun t => P.readableRec t && decide (t < P.types.size)) = true)
    (hres : fn.resultTypes = #[tb]) (htb : P.underlying tb = some .bool)
    (hW : DataW.Whole enc P fn.params.toList s.vars false W args.toList ds gs before) (hb : Below W.heap.size W W') :
    s.post enc P fn false true false false W args (.bool true) W' := by
  have hW' := hW
  obtain ⟨p, q, hA, hV, rfl, hfz, hnd⟩ := hW
  have hlt : ∀ x ∈ p, x.block < W.heap.size := fun x hx => hW'.lt x (List.mem_append_left _ hx)
  have hlen : ∀ (ts : List TypeId) (vs : List Value) (l : List (DataW H)) (ps : List MemPlace), DataW.TrodAll enc P W 0 (fun _ => true) true ts vs l ps → l.length = ts.length := by
    intro ts
    induction ts with
    | nil => intro vs l ps h; obtain ⟨_, rfl, _⟩ := trodAll_nil h; rfl
    | cons t ts ih => intro vs l ps h; obtain ⟨v, vs', d, ds', p', q', rfl, rfl, rfl, _, h1⟩ := trodAll_cons h; simp [ih _ _ _ h1]
  rw [hv] at hV
  obtain ⟨rfl, rfl⟩ := trodVars_none hV
  have e : s.fn H (ds ++ []) = { results := [.lit (.bool true)], args := ds } := by
    rw [List.append_nil]
    exact hspec ds (by rw [hlen _ _ _ _ hA]; simp)
  have old : ∀ x ∈ p, (fun b => decide (b < W.heap.size)) x.block = true := fun x hx => decide_eq_true (hlt x hx)
  refine ⟨ds, [], p ++ [], [], p, [], hW', ?_, ?_, ?_, World.keptBut_mono (fun x hx => ⟨hx, Or.inr (Or.inl (by simpa using hx))⟩) (hb.frame _), fun h => by cases h⟩
  · rw [e, hres]
    exact trodAll_mk1 (shut_bool htb _)
  · rw [e]
    exact trodAll_below hl hb _ _ _ _ hpar hA hlt old
  · rw [e, hv]
    exact rfl

/-- A law's row, from its walk. -/
theorem law_lift {C : Checked} {os : Os} {f : FuncId} {fn : Func} {s : ChangeSpec} {tb : TypeId}
    (own : ownKnob C.prog.godebug = none) (started : os.Started) (noInit : C.prog.inits.idxOf? f = none) (hfn : C.prog.funcs[f]? = some fn)
    (witness : ∃ (w : World) (tape : Tape) (i : Input), w.os = os ∧ (w.forCall tape i).Shaped C.prog ∧ i.vars = [] ∧ Input.okWide C.prog (w.forCall tape i) .any w.heap.size f i ∧
      s.pre6 enc C.prog fn [] false (w.forCall tape i).memory i.args ∧ ({} : Assume).holds C.prog (lone (Frame.enter C.prog f i.args .normal) [] (w.forCall tape i)))
    (hv : s.vars = []) (hspec : ∀ l : List (DataW H), l.length = fn.params.size → s.fn H l = { results := [.lit (.bool true)], args := l })
    (hl : laidOutB C.prog = true) (hpar : (fn.params.toList.all fun t => C.prog.readableRec t && decide (t < C.prog.types.size)) = true)
    (hres : fn.resultTypes = #[tb]) (htb : C.prog.underlying tb = some .bool)
    (walk : ∀ (W : World) (base : Nat) (args : Array Value) (ds : List (DataW H)) (p : List MemPlace),
      (∀ (j : Nat) t v, fn.params[j]? = some t → args[j]? = some v → Value.okWide C.prog W .any base t v) →
      DataW.TrodAll enc C.prog W 0 (fun _ => true) true fn.params.toList args.toList ds p →
      (DataW.weightsEach C.prog fn.params.toList ds).all (· ≤ reachBytes) = true →
      Calls C.prog f args W fun e W' => e = .returned (.bool true) ∧ Below W.heap.size W W') :
    ReturnsInHanded {} C os f .any (s.pre6 enc C.prog fn [] false) (s.post enc C.prog fn false true false false) := by
  refine returnsInHanded_of_change_sized (C := C) own started noInit hfn witness ?_
  intro W base args ds gs before hval hW _ hz _
  have hW' := hW
  obtain ⟨p, q, hA, hV, _, _, _⟩ := hW
  rw [hv] at hV
  obtain ⟨rfl, rfl⟩ := trodVars_none hV
  have hz' : (DataW.weightsEach C.prog fn.params.toList ds).all (· ≤ reachBytes) = true := by
    have e0 : s.plain.varTypes C.prog = [] := by simp [ChangeSpec.plain, DataSpec.varTypes, hv]
    rw [e0] at hz
    simpa using hz
  refine (walk W base args ds p hval hA hz').mono fun e W' ⟨he, hb⟩ => ⟨_, he, ?_⟩
  exact law_post hv hspec hl hpar hres htb hW' hb
end
end Go.Proofs.Ytgkmkpkbdmciiaa
/- What an argument of the laws is: a uint32, an api.Span. -/
namespace Go.Proofs.Ytgkmkpkbdmciiaa
open Go.ChangeShapes Go.WideShapes Go.ChangeAt Go.RowKit Go.Joins

theorem own : ownKnob Try.prog.godebug = none := by kernel_rfl
theorem laidOut : laidOutB Try.prog = true := by kernel_rfl
theorem bd32 {a : Int} (h : (Lit.int .u32 a).wf = true) : 0 ≤ a ∧ a ≤ 4294967295 := by
  simpa [Lit.wf, IntKind.min, IntKind.max, IntKind.signed, IntKind.bits] using h
end Go.Proofs.Ytgkmkpkbdmciiaa
/- What an argument of any plain type reads as, by its type: numbers, bools, structs, slices of any of these. -/
namespace Go.Proofs.Ytgkmkpkbdmciiaa.Mem
open Go Go.ChangeShapes Go.WideShapes Go.ChangeAt Go.RowKit Go.Joins Go.Deep
set_option linter.unusedVariables false

/-- a kind of data: how many cells one has, and what cells read as -/
structure Kd (α : Type) where
  size : Nat
  rd : World → List Value → α → Prop
  len : ∀ {w : World} {cs : List Value} {x : α}, rd w cs x → cs.length = size
  keep : ∀ {w w' : World} {cs : List Value} {x : α}, rd w cs x → Below w.heap.size w w' → rd w' cs x
def kInt (k : IntKind) : Kd Int where
  size := 1
  rd _ cs x := cs = [.int k x] ∧ (Lit.int k x).wf = true
  len h := by rw [h.1]; rfl
  keep h _ := h
def kBool : Kd Bool where
  size := 1
  rd _ cs x := cs = [.bool x]
  len h := by rw [h]; rfl
  keep h _ := h
def kPair {α β : Type} (A : Kd α) (B : Kd β) : Kd (α × β) where
  size := A.size + B.size
  rd w cs x := A.rd w (cs.take A.size) x.1 ∧ B.rd w (cs.drop A.size) x.2
  len h := by
    have h1 := A.len h.1
    have h2 := B.len h.2
    rw [List.length_take] at h1
    rw [List.length_drop] at h2
    omega
  keep h k := ⟨A.keep h.1 k, B.keep h.2 k⟩
def kSlice {α : Type} (A : Kd α) : Kd (List α) where
  size := 1
  rd w cs l := ∃ a c, cs = [.slice a l.length c] ∧ l.length ≤ c ∧ c ≤ maxLen ∧ (0 < l.length → ∃ g off, a = some ⟨g, off, none⟩ ∧
    ∀ i y, l[i]? = some y → ∃ es, (∀ j, j < A.size → w.cell? ⟨g, off + (i * A.size + j), none⟩ = es[j]?) ∧ A.rd w es y)
  len h := by obtain ⟨a, c, h, _⟩ := h; rw [h]; rfl
  keep h k := by
    obtain ⟨a, c, h1, h2, h3, h4⟩ := h
    refine ⟨a, c, h1, h2, h3, fun hl => ?_⟩
    obtain ⟨g, off, ha, hi⟩ := h4 hl
    refine ⟨g, off, ha, fun i y hy => ?_⟩
    obtain ⟨es, he, hr⟩ := hi i y hy
    refine ⟨es, fun j hj => ?_, A.keep hr k⟩
    have hlen := A.len hr
    have hs : es[j]? = some (es[j]'(by omega)) := List.getElem?_eq_getElem _
    rw [hs]
    exact kc k ((he j hj).trans hs)

theorem list_choose {α : Type} {Q : Nat → α → Prop} : ∀ (n : Nat), (∀ i, i < n → ∃ y, Q i y) → ∃ L : List α, L.length = n ∧ ∀ i y, L[i]? = some y → Q i y := by
  intro n
  induction n with
  | zero => intro _; exact ⟨[], rfl, fun i y h => by simp at h⟩
  | succ n ih =>
    intro h
    obtain ⟨L, hL, hq⟩ := ih fun i hi => h i (by omega)
    obtain ⟨y, hy⟩ := h n (by omega)
    refine ⟨L ++ [y], by simp [hL], fun i z hz => ?_⟩
    rcases Nat.lt_or_ge i n with hi | hi
    · rw [List.getElem?_append_left (by omega)] at hz
      exact hq i z hz
    · rw [List.getElem?_append_right (by omega)] at hz
      have hi2 : i - L.length = 0 := by
        have := (List.getElem?_eq_some_iff.1 hz).1
        simp at this
        omega
      rw [hi2] at hz
      simp at hz
      have hin : i = n := by omega
      rw [hin, ← hz]
      exact hy

section
variable {H : Type} {enc : TypeId × Value → H} {P : Program}
/-- whatever is read at that type reads so -/
def Opens (enc : TypeId × Value → H) (P : Program) (t : TypeId) {α : Type} (A : Kd α) : Prop :=
  P.cellsOf t = A.size ∧ ∀ (w : World) (base : Nat) (spare : Nat → Bool) (held : Bool) (fuel : Nat) (cs : List Value) (x : DataW H × List MemPlace), DataW.trod enc P w base spare held fuel t cs = some x → ∃ y, A.rd w cs y
theorem opens_int {t : TypeId} {k : IntKind} (h : P.underlying t = some (.int k)) (hc : P.cellsOf t = 1) : Opens enc P t (kInt k) := by
  refine ⟨hc, fun w base spare held fuel cs x hx => ?_⟩
  obtain ⟨a, e, _, hw⟩ := DataW.trod_int h hx
  exact ⟨a, e, hw⟩
theorem opens_bool {t : TypeId} (h : P.underlying t = some .bool) (hc : P.cellsOf t = 1) : Opens enc P t kBool := by
  refine ⟨hc, fun w base spare held fuel cs x hx => ?_⟩
  obtain ⟨a, e, _⟩ := DataW.trod_bool h hx
  exact ⟨a, e⟩
theorem opens_slice {t e : TypeId} {α : Type} {A : Kd α} (h : P.underlying t = some (.slice e)) (hc : P.cellsOf t = 1) (hpos : 0 < A.size) (hA : Opens enc P e A) : Opens enc P t (kSlice A) := by
  refine ⟨hc, fun w base spare held fuel cs x hx => ?_⟩
  rcases open_slice h hx with ⟨rfl, _⟩ | ⟨a, len, cap, m, n, D, Pl, rfl, _, hl, hm, hmm, _, hi⟩
  · exact ⟨[], none, 0, rfl, Nat.le_refl _, Nat.zero_le _, fun h => absurd h (by simp)⟩
  · have hlm : len ≤ m := by rw [hmm]; split <;> omega
    have key : ∀ i, i < len → ∃ y, ∃ es, (∀ j, j < A.size → w.cell? (a.add (i * A.size + j)) = es[j]?) ∧ A.rd w es y := by
      intro i hin
      obtain ⟨cs', h1, h2⟩ := hi i (by omega)
      rw [hA.1] at h1
      obtain ⟨_, hcl, hat⟩ := World.cells?_some h1
      obtain ⟨y, hy⟩ := hA.2 w base spare held n cs' _ h2
      refine ⟨y, cs', fun j hj => ?_, hy⟩
      have := hat j hj
      rwa [Go.Deep.add_add] at this
    obtain ⟨L, hL, hq⟩ := list_choose len key
    refine ⟨L, some a, cap, by rw [hL], by rw [hL]; exact hl, hm, fun hp => ?_⟩
    obtain ⟨b, off, spot⟩ := a
    have hspot : spot = none := by
      have h0 : L[0]? = some (L[0]'hp) := List.getElem?_eq_getElem _
      obtain ⟨es, he, hr⟩ := hq 0 _ h0
      have hlen := A.len hr
      have hs : es[0]? = some (es[0]'(by omega)) := List.getElem?_eq_getElem _
      have := (he 0 hpos).trans hs
      simpa [Addr.add] using World.cell?_spot this
    subst hspot
    refine ⟨b, off, rfl, fun i y hy => ?_⟩
    obtain ⟨es, he, hr⟩ := hq i y hy
    refine ⟨es, fun j hj => ?_, hr⟩
    have := he j hj
    rwa [Go.WideShapes.add_plain] at this
/-- the fields from a place on -/
def Fields (enc : TypeId × Value → H) (P : Program) (off : Nat) (fs : List Field) {α : Type} (A : Kd α) : Prop :=
  ∀ (w : World) (base : Nat) (spare : Nat → Bool) (held : Bool) (fuel : Nat) (cs : List Value),
    (∀ (i : Nat) (f : Field), fs[i]? = some f → ∃ y, DataW.trod enc P w base spare held fuel f.type ((cs.drop f.offset).take (P.cellsOf f.type)) = some y) → cs.length = off + A.size → ∃ y, A.rd w (cs.drop off) y
theorem fields_one {off : Nat} {f : Field} {α : Type} {A : Kd α} (ho : f.offset = off) (hA : Opens enc P f.type A) : Fields enc P off [f] A := by
  intro w base spare held fuel cs h hl
  obtain ⟨y, hy⟩ := h 0 f rfl
  rw [ho, hA.1, List.take_of_length_le (by rw [List.length_drop]; omega)] at hy
  exact hA.2 w base spare held fuel _ _ hy
theorem fields_cons {off : Nat} {f : Field} {fs : List Field} {α β : Type} {A : Kd α} {B : Kd β} (ho : f.offset = off) (hA : Opens enc P f.type A) (hB : Fields enc P (off + A.size) fs B) : Fields enc P off (f :: fs) (kPair A B) := by
  intro w base spare held fuel cs h hl
  have hs : (kPair A B).size = A.size + B.size := rfl
  obtain ⟨y, hy⟩ := h 0 f rfl
  rw [ho, hA.1] at hy
  obtain ⟨x, hx⟩ := hA.2 w base spare held fuel _ _ hy
  obtain ⟨z, hz⟩ := hB w base spare held fuel cs (fun i g hg => h (i + 1) g (by simpa using hg)) (by omega)
  exact ⟨(x, z), hx, by show B.rd w ((cs.drop off).drop A.size) z; rw [List.drop_drop]; exact hz⟩
theorem opens_struct {t : TypeId} {fs : Array Field} {α : Type} {A : Kd α} (h : P.underlying t = some (.struct fs)) (hc : P.cellsOf t = A.size) (hA : Fields enc P 0 fs.toList A) : Opens enc P t A := by
  refine ⟨hc, fun w base spare held fuel cs x hx => ?_⟩
  obtain ⟨xs, n, _, _, hl, hlen, hf⟩ := DataW.trod_struct h hx
  have := hA w base spare held n cs (fun i f hi => ?_) (by omega)
  · simpa using this
  · have hi' : fs[i]? = some f := by simpa using hi
    have hlt : i < xs.length := by rw [hlen]; exact (Array.getElem?_eq_some_iff.1 hi').1
    exact ⟨xs[i], by rw [hf i f hi']; exact List.getElem?_eq_getElem hlt⟩
end
/-- an argument that is a slice -/
theorem open_kd {H : Type} {enc : TypeId × Value → H} {P : Program} {W : World} {base b0 : Nat} {spare : Nat → Bool} {held : Bool} {r : Reach} {t e : TypeId} {v : Value} {d : DataW H} {p : List MemPlace} {α : Type} {A : Kd α} (ht : P.underlying t = some (.slice e)) (O : Opens enc P t (kSlice A))
    (hv : Value.okWide P W r b0 t v) (h : DataW.Trod enc P W base spare held t v d p) : ∃ l, (kSlice A).rd W [v] l := by
  obtain ⟨a0, len, cap, rfl⟩ := okWide_slice ht hv
  obtain ⟨fuel, hf⟩ := h
  exact O.2 W base spare held fuel _ _ hf
/-- an argument that is a struct -/
theorem open_kd_struct {H : Type} {enc : TypeId × Value → H} {P : Program} {W : World} {base b0 : Nat} {spare : Nat → Bool} {held : Bool} {r : Reach} {t : TypeId} {fs : Array Field} {v : Value} {d : DataW H} {p : List MemPlace} {α : Type} {A : Kd α} (ht : P.underlying t = some (.struct fs)) (O : Opens enc P t A)
    (hv : Value.okWide P W r b0 t v) (h : DataW.Trod enc P W base spare held t v d p) : ∃ cs : List Value, v = .agg cs.toArray ∧ ∃ y, A.rd W cs y := by
  obtain ⟨cs, rfl, _⟩ := okWide_struct ht hv
  obtain ⟨fuel, hf⟩ := h
  obtain ⟨y, hy⟩ := O.2 W base spare held fuel _ _ hf
  exact ⟨cs.toList, by simp, y, hy⟩
/-- a slice, for a loop: where its elements lie -/
theorem kd_loop {α : Type} {A : Kd α} {w : World} {v : Value} {l : List α} (h : (kSlice A).rd w [v] l) :
    ∃ a g off c, v = .slice a l.length c ∧ l.length ≤ c ∧ c ≤ maxLen ∧ (0 < l.length → a = some ⟨g, off, none⟩) ∧
      ∀ i y, l[i]? = some y → ∃ es, (∀ j, j < A.size → w.cell? ⟨g, off + (i * A.size + j), none⟩ = es[j]?) ∧ A.rd w es y := by
  obtain ⟨a, c, h1, h2, h3, h4⟩ := h
  injection h1 with h1
  by_cases hl : 0 < l.length
  · obtain ⟨g, off, ha, hi⟩ := h4 hl
    exact ⟨a, g, off, c, h1, h2, h3, fun _ => ha, hi⟩
  · exact ⟨a, 0, 0, c, h1, h2, h3, fun h => absurd h hl, fun i y hy => absurd (List.getElem?_eq_some_iff.1 hy).1 (by omega)⟩
/-- a slice of numbers -/
theorem kd_ints {k : IntKind} {w : World} {v : Value} {l : List Int} (h : (kSlice (kInt k)).rd w [v] l) : Rd (intE k) w v l ∧ ∀ x ∈ l, (Lit.int k x).wf = true := by
  obtain ⟨a, c, h1, h2, h3, h4⟩ := h
  injection h1 with h1
  subst h1
  have hfl : ∀ l : List Int, (intE k).flat l = l.map (Value.int k) := by
    intro l
    induction l with
    | nil => rfl
    | cons x l ih => rw [Enc.flat_cons, ih]; rfl
  refine ⟨⟨a, c, rfl, h2, h3, fun hl => ?_⟩, fun x hx => ?_⟩
  · obtain ⟨g, off, ha, hi⟩ := h4 hl
    refine ⟨g, off, ha, fun j u hu => ?_⟩
    rw [hfl, List.getElem?_map] at hu
    obtain ⟨y, hy, rfl⟩ := Option.map_eq_some_iff.1 hu
    obtain ⟨es, he, rfl, _⟩ := hi j y hy
    have := he 0 (show 0 < 1 by omega)
    have e1 : off + (j * (kInt k).size + 0) = off + j := by show off + (j * 1 + 0) = off + j; omega
    rw [e1] at this
    exact this
  · obtain ⟨i, hi, rfl⟩ := List.getElem_of_mem hx
    obtain ⟨g, off, ha, hc⟩ := h4 (by omega)
    obtain ⟨es, _, _, hw⟩ := hc i _ (List.getElem?_eq_getElem hi)
    exact hw
end Go.Proofs.Ytgkmkpkbdmciiaa.Mem
/- Arguments that are slices, opened as lists that are read: of numbers, of api.Span. -/
namespace Go.Proofs.Ytgkmkpkbdmciiaa
open Go.ChangeShapes Go.WideShapes Go.ChangeAt Go.RowKit Go.Joins Go.Deep Mem
set_option linter.unusedVariables false

theorem bd64 {a : Int} (h : (Lit.int .i64 a).wf = true) : -9223372036854775808 ≤ a ∧ a ≤ 9223372036854775807 := by
  simpa [Lit.wf, IntKind.min, IntKind.max, IntKind.signed, IntKind.bits] using h
theorem bdu64 {a : Int} (h : (Lit.int .u64 a).wf = true) : 0 ≤ a ∧ a ≤ 18446744073709551615 := by
  simpa [Lit.wf, IntKind.min, IntKind.max, IntKind.signed, IntKind.bits] using h
theorem bd8 {a : Int} (h : (Lit.int .u8 a).wf = true) : 0 ≤ a ∧ a ≤ 255 := by
  simpa [Lit.wf, IntKind.min, IntKind.max, IntKind.signed, IntKind.bits] using h
section
variable {H : Type} {enc : TypeId × Value → H} {P : Program} {W : World} {base : Nat} {held : Bool}
theorem open_rd_ints {t e : TypeId} {k : IntKind} {v : Value} {d : DataW H} {p : List MemPlace} (ht : P.underlying t = some (.slice e)) (he : P.underlying e = some (.int k)) (hc : P.cellsOf e = 1)
    (hv : Value.okWide P W .any base t v) (h : DataW.Trod enc P W 0 (fun _ => true) held t v d p) : ∃ L : List Int, Rd (intE k) W v L ∧ ∀ x ∈ L, (Lit.int k x).wf = true := by
  obtain ⟨a0, len, cap, rfl⟩ := okWide_slice ht hv
  obtain ⟨fuel, hf⟩ := h
  rcases open_ints ht he hc hf with ⟨hcs, _⟩ | ⟨a, len', cap', zs, hcs, _, hl, hm, hz, _, hcell, hwf⟩
  · simp only [Value.cells, List.cons.injEq, and_true, Value.slice.injEq] at hcs
    obtain ⟨rfl, rfl, rfl⟩ := hcs
    exact ⟨[], Rd.nil none 0 (Nat.zero_le _), fun x hx => by cases hx⟩
  · simp only [Value.cells, List.cons.injEq, and_true, Value.slice.injEq] at hcs
    obtain ⟨rfl, rfl, rfl⟩ := hcs
    simp only [if_true] at hz
    have hlen : (zs.take len).length = len := by rw [List.length_take]; omega
    refine ⟨zs.take len, ⟨some a, cap, by rw [hlen], by rw [hlen]; exact hl, hm, fun hp => ?_⟩, fun x hx => hwf x (List.mem_of_mem_take hx)⟩
    rw [hlen] at hp
    obtain ⟨b, off, rfl, hc'⟩ := ints_at hcell (by omega)
    refine ⟨b, off, rfl, fun j u hu => ?_⟩
    have hfl : ∀ l : List Int, (intE k).flat l = l.map (Value.int k) := by
      intro l
      induction l with
      | nil => rfl
      | cons x l ih => rw [Enc.flat_cons, ih]; rfl
    rw [hfl (zs.take len), List.getElem?_map] at hu
    have hj : j < len := by
      rcases Nat.lt_or_ge j len with h | h
      · exact h
      · rw [List.getElem?_eq_none (by rw [hlen]; exact h)] at hu; cases hu
    rw [hc' j (by omega)]
    rw [List.getElem?_take_of_lt hj] at hu
    simp only [List.getD]
    have : zs[j]? = some (zs[j]'(by omega)) := List.getElem?_eq_getElem _
    rw [this] at hu ⊢
    simpa using hu

/-- a struct of two numbers of one kind -/
theorem open_rd_pairs {t e : TypeId} {k : IntKind} {f0 f1 : Field} {v : Value} {d : DataW H} {p : List MemPlace} (ht : P.underlying t = some (.slice e)) (he : P.underlying e = some (.struct #[f0, f1])) (h0 : P.underlying f0.type = some (.int k)) (h1 : P.underlying f1.type = some (.int k))
    (hone : oneCellFields P #[f0, f1] = true) (hC : P.cellsOf e = 2)
    (hv : Value.okWide P W .any base t v) (h : DataW.Trod enc P W 0 (fun _ => true) held t v d p) :
    ∃ L : List (Int × Int), Rd (pairE k) W v L ∧ ∀ x ∈ L, (Lit.int k x.1).wf = true ∧ (Lit.int k x.2).wf = true := by
  obtain ⟨a0, len, cap, rfl⟩ := okWide_slice ht hv
  obtain ⟨fuel, hf⟩ := h
  rcases open_slice ht hf with ⟨hcs, _⟩ | ⟨a, len', cap', m, n, D, Pl, hcs, _, hl, hm, hmm, _, hi⟩
  · simp only [Value.cells, List.cons.injEq, and_true, Value.slice.injEq] at hcs
    obtain ⟨rfl, rfl, rfl⟩ := hcs
    exact ⟨[], Rd.nil none 0 (Nat.zero_le _), fun x hx => by cases hx⟩
  · simp only [Value.cells, List.cons.injEq, and_true, Value.slice.injEq] at hcs
    obtain ⟨rfl, rfl, rfl⟩ := hcs
    simp only [if_true] at hmm
    subst hmm
    have key : ∀ i, i < m → ∃ x y : Int, W.cell? (a.add (i * 2)) = some (.int k x) ∧ W.cell? (a.add (i * 2 + 1)) = some (.int k y) ∧ (Lit.int k x).wf = true ∧ (Lit.int k y).wf = true := by
      intro i hin
      obtain ⟨cs', hc, ht'⟩ := hi i hin
      rw [hC] at hc
      obtain ⟨ys, n', hn', hy, hlen, hyl, hf'⟩ := DataW.trod_struct he ht'
      obtain ⟨_, hcl, hat⟩ := World.cells?_some hc
      obtain ⟨o0, k0⟩ := hone_of hone 0 f0 rfl
      obtain ⟨o1, k1⟩ := hone_of hone 1 f1 rfl
      match cs', hcl with
      | [c0, c1], _ =>
        have g0 := hf' 0 f0 rfl
        have g1 := hf' 1 f1 rfl
        rw [o0, k0] at g0
        rw [o1, k1] at g1
        simp only [List.drop_zero, List.drop_succ_cons, List.take_succ_cons, List.take_zero] at g0 g1
        have a0 := hat 0 (by omega)
        have a1 := hat 1 (by omega)
        rw [Go.Deep.add_add] at a0 a1
        cases hy0 : ys[0]? with
        | none => rw [hy0] at g0; rw [List.getElem?_eq_none_iff] at hy0; simp at hyl; omega
        | some z0 =>
          cases hy1 : ys[1]? with
          | none => rw [List.getElem?_eq_none_iff] at hy1; simp at hyl; omega
          | some z1 =>
            rw [hy0] at g0
            rw [hy1] at g1
            obtain ⟨x, e0, _, w0⟩ := DataW.trod_int h0 g0
            obtain ⟨y, e1, _, w1⟩ := DataW.trod_int h1 g1
            simp only [List.cons.injEq, and_true] at e0 e1
            subst e0 e1
            exact ⟨x, y, by simpa using a0, by simpa using a1, w0, w1⟩
    classical
    let L : List (Int × Int) := (List.range len).map fun i => if h : i < m then ((key i h).choose, (key i h).choose_spec.choose) else (0, 0)
    have hL : L.length = len := by simp [L]
    have hat : ∀ i, i < len → ∃ x y : Int, L[i]? = some (x, y) ∧ W.cell? (a.add (i * 2)) = some (.int k x) ∧ W.cell? (a.add (i * 2 + 1)) = some (.int k y) ∧ (Lit.int k x).wf = true ∧ (Lit.int k y).wf = true := by
      intro i hin
      have him : i < m := by omega
      refine ⟨_, _, ?_, (key i him).choose_spec.choose_spec⟩
      simp [L, hin, him]
    refine ⟨L, ⟨some a, m, by rw [hL], by rw [hL]; exact hl, hm, fun hp => ?_⟩, fun x hx => ?_⟩
    · rw [hL] at hp
      obtain ⟨b, off, spot⟩ := a
      obtain ⟨x0, y0, _, hx0, _⟩ := hat 0 hp
      have hspot : spot = none := by simpa [Addr.add] using World.cell?_spot hx0
      subst hspot
      refine ⟨b, off, rfl, fun j u hu => ?_⟩
      have hj : j < L.length * 2 := by have h9 := (List.getElem?_eq_some_iff.1 hu).1; rw [(pairE k).flat_len] at h9; exact h9
      have hdiv : j / 2 < L.length := by omega
      have hdl : j / 2 < len := by omega
      obtain ⟨x, y, hxy, hx, hy, _⟩ := hat (j / 2) hdl
      have hg : L[j / 2] = (x, y) := by rw [List.getElem?_eq_getElem hdiv] at hxy; simpa using hxy
      have hfa := (pairE k).flat_at hdiv (show j % 2 < 2 by omega)
      have hj2 : j / 2 * (pairE k).size + j % 2 = j := by show j / 2 * 2 + j % 2 = j; omega
      rw [hj2, hu, hg] at hfa
      rw [Go.WideShapes.add_plain] at hx hy
      have hjm : j % 2 = 0 ∨ j % 2 = 1 := by omega
      rcases hjm with h9 | h9
      · rw [h9] at hfa
        have : j = j / 2 * 2 := by omega
        rw [this, hx, hfa]; rfl
      · rw [h9] at hfa
        have : j = j / 2 * 2 + 1 := by omega
        rw [this, hy, hfa]; rfl
    · obtain ⟨i, hi2, rfl⟩ := List.getElem_of_mem hx
      obtain ⟨x, y, hxy, _, _, hw⟩ := hat i (by omega)
      rw [List.getElem?_eq_getElem hi2] at hxy
      injection hxy with hxy
      rw [hxy]; exact hw
end
end Go.Proofs.Ytgkmkpkbdmciiaa
/- Slices of anything, told by the cells of their elements: what a slice of a kind reads as, as a row of raw elements (to append to, to cut), and back. -/
namespace Go.Proofs.Ytgkmkpkbdmciiaa.Mem
open Go Go.RowKit
set_option linter.unusedVariables false

/-- an element, as its cells -/
def Raw (n : Nat) : Type := { cs : List Value // cs.length = n ∧ ∀ u ∈ cs, u.oneCell' = true }
def rawE (n : Nat) : Enc (Raw n) where
  cells x := x.1
  size := n
  len x := x.2.1
  one x := x.2.2
/-- its cells are single cells -/
def KdOne {α : Type} (A : Kd α) : Prop := ∀ (w : World) (es : List Value) (y : α), A.rd w es y → ∀ u ∈ es, u.oneCell' = true
theorem one_int (k : IntKind) : KdOne (kInt k) := by
  intro w es y h u hu
  rw [h.1] at hu
  simp at hu
  subst hu
  rfl
theorem one_bool : KdOne kBool := by
  intro w es y h u hu
  have h : es = [.bool y] := h
  rw [h] at hu
  simp at hu
  subst hu
  rfl
theorem one_slice {α : Type} (A : Kd α) : KdOne (kSlice A) := by
  intro w es y h u hu
  obtain ⟨a, c, h, _⟩ := h
  rw [h] at hu
  simp at hu
  subst hu
  rfl
theorem one_pair {α β : Type} {A : Kd α} {B : Kd β} (hA : KdOne A) (hB : KdOne B) : KdOne (kPair A B) := by
  intro w es y h u hu
  obtain ⟨h1, h2⟩ := h
  rw [← List.take_append_drop A.size es, List.mem_append] at hu
  rcases hu with hu | hu
  · exact hA w _ _ h1 u hu
  · exact hB w _ _ h2 u hu
/-- a slice as a row of raw elements -/
theorem kd_raw {α : Type} {A : Kd α} (h1 : KdOne A) (hpos : 0 < A.size) {w : World} {v : Value} {l : List α} (h : (kSlice A).rd w [v] l) :
    ∃ hs : List (Raw A.size), hs.length = l.length ∧ Rd (rawE A.size) w v hs ∧ ∀ (i : Nat) (x : Raw A.size) (y : α), hs[i]? = some x → l[i]? = some y → A.rd w x.1 y := by
  obtain ⟨a, c, e, hc1, hc2, hc⟩ := h
  injection e with e
  subst e
  by_cases hl : 0 < l.length
  · obtain ⟨g, off, ha, hi⟩ := hc hl
    obtain ⟨hs, hn, hq⟩ := list_choose (Q := fun i (x : Raw A.size) => (∀ j, j < A.size → w.cell? ⟨g, off + (i * A.size + j), none⟩ = x.1[j]?) ∧ ∀ y, l[i]? = some y → A.rd w x.1 y) l.length (fun i hi' => by
      have hy : l[i]? = some l[i] := List.getElem?_eq_getElem hi'
      obtain ⟨es, he, hr⟩ := hi i _ hy
      refine ⟨⟨es, A.len hr, h1 w es _ hr⟩, he, fun y hy' => ?_⟩
      rw [hy] at hy'
      cases hy'
      exact hr)
    refine ⟨hs, hn, ⟨a, c, by rw [hn], by omega, hc2, fun _ => ⟨g, off, ha, fun j u hu => ?_⟩⟩, fun i x y hx hy => (hq i x hx).2 y hy⟩
    have hsz : (rawE A.size).size = A.size := rfl
    have hj : j < hs.length * A.size := by
      have := (List.getElem?_eq_some_iff.1 hu).1
      rwa [Enc.flat_len, hsz] at this
    have hdiv : j / A.size < hs.length := (Nat.div_lt_iff_lt_mul hpos).2 hj
    have hmod : j % A.size < A.size := Nat.mod_lt _ hpos
    have hf := (rawE A.size).flat_at (l := hs) (i := j / A.size) (j := j % A.size) hdiv hmod
    rw [hsz, Nat.div_add_mod' j A.size] at hf
    have := (hq (j / A.size) _ (List.getElem?_eq_getElem hdiv)).1 (j % A.size) hmod
    rw [Nat.div_add_mod' j A.size] at this
    rw [this]
    rw [hf] at hu
    exact hu
  · have h0 : l = [] := List.eq_nil_of_length_eq_zero (by omega)
    subst h0
    exact ⟨[], rfl, ⟨a, c, rfl, hc1, hc2, fun h => absurd h (by simp)⟩, fun i x y hx _ => by simp at hx⟩
/-- .. and back -/
theorem raw_kd {α : Type} {A : Kd α} {w : World} {v : Value} {l : List α} {hs : List (Raw A.size)} (hn : hs.length = l.length) (hr : Rd (rawE A.size) w v hs) (he : ∀ (i : Nat) (x : Raw A.size) (y : α), hs[i]? = some x → l[i]? = some y → A.rd w x.1 y) : (kSlice A).rd w [v] l := by
  obtain ⟨a, c, hv, hc1, hc2, hc⟩ := hr
  subst hv
  refine ⟨a, c, by rw [hn], by omega, hc2, fun hl => ?_⟩
  obtain ⟨g, off, ha, hcell⟩ := hc (by omega)
  refine ⟨g, off, ha, fun i y hy => ?_⟩
  have hi : i < hs.length := by have := (List.getElem?_eq_some_iff.1 hy).1; omega
  refine ⟨hs[i].1, fun j hj => ?_, he i _ y (List.getElem?_eq_getElem hi) hy⟩
  have hf := (rawE A.size).flat_at (l := hs) (i := i) (j := j) hi hj
  have hsz : (rawE A.size).size = A.size := rfl
  have hlen := hs[i].2.1
  have hu : hs[i].1[j]? = some (hs[i].1[j]'(by omega)) := List.getElem?_eq_getElem _
  rw [hu]
  refine hcell _ _ ?_
  rw [hsz] at hf
  rw [hf]
  exact hu
end Go.Proofs.Ytgkmkpkbdmciiaa.Mem
/- Rows of one's own with room behind them: append into the room, one more, a look into the room. -/
namespace Go.Proofs.Ytgkmkpkbdmciiaa
open Go.RowKit Mem
set_option linter.unusedSimpArgs false
set_option linter.unusedVariables false
attribute [local irreducible] Go.Calls

namespace Mem
theorem run_append_fits_rd {P : Program} {α : Type} {E : Enc α} {T ts : TypeId} {B bytes g n cap : Nat} {w : World} {x : Value} {l m : List α} (I : Elem P ts T E.size bytes) (ty : TypeId) (hown : Row E T B w (.slice (some ⟨g, 0, none⟩) n cap) l) (hn : n = l.length) (hr : Rd E w x m) (hroom : n + m.length ≤ cap) :
    ∃ w', (Builtin.append_ #[ts, ts] ty #[.slice (some ⟨g, 0, none⟩) n cap, x]).run P w = .ok (.slice (some ⟨g, 0, none⟩) (n + m.length) cap) w' ∧ Row E T B w' (.slice (some ⟨g, 0, none⟩) (n + m.length) cap) (l ++ m) ∧ w.grownBy w' (some g) := by
  obtain ⟨ht, i, z, hi, hz, hs, hby, hzs⟩ := I
  obtain ⟨a, c, rfl, h1, h2, h3⟩ := hr
  subst hn
  have hx : ∀ ad, a = some ad → ∃ w', (Builtin.append_ #[ts, ts] ty #[.slice (some ⟨g, 0, none⟩) l.length cap, .slice (some ad) m.length c]).run P w = .ok (.slice (some ⟨g, 0, none⟩) (l.length + m.length) cap) w' ∧ Row E T B w' (.slice (some ⟨g, 0, none⟩) (l.length + m.length) cap) (l ++ m) ∧ w.grownBy w' (some g) := by
    intro ad ha
    obtain ⟨w', r1, r2, r3⟩ := run_append_fits (P := P) w B ts ty T i E.size ht hi hs g l.length cap (E.flat l) hown ad m.length c (E.flat m) (E.flat_len m)
      (fun j u hu => by
        have hl : 0 < m.length := by
          rcases Nat.eq_zero_or_pos m.length with h0 | h0
          · rw [List.eq_nil_of_length_eq_zero h0] at hu; simp [Enc.flat] at hu
          · exact h0
        obtain ⟨g', off, rfl, hc⟩ := h3 hl
        injection ha with ha
        subst ha
        have := hc j u hu
        unfold Addr.add; split <;> simp_all) (E.flat_one m) hroom
    refine ⟨w', r1, ?_, r3⟩
    unfold Row
    rw [List.length_append, E.flat_append]
    exact r2
  rcases a with _ | ad
  · have hm : m = [] := by
      rcases Nat.eq_zero_or_pos m.length with h0 | h0
      · exact List.eq_nil_of_length_eq_zero h0
      · obtain ⟨g', off, h, _⟩ := h3 h0
        cases h
    subst hm
    refine ⟨w, ?_, by simpa using hown, World.grownBy.refl w _⟩
    have hnc : l.length ≤ cap := by simpa using hroom
    simp [Builtin.append_, run_underlying ht, sizeOf, typeInfo, hi, Builtin.lenOf, Builtin.firstCells, hnc, storeCells]
  · exact hx ad rfl
theorem wpList_append_fits {P : Program} {α : Type} {E : Enc α} {T ts : TypeId} {B bytes g n cap : Nat} {w : World} {x : Value} {l m : List α} {ops : Array Oper} {rest : List Oper} {o : Oper} {a : Act} {Q : Exit → Act → World → Prop} (I : Elem P ts T E.size bytes) (hgd : o.guard = none) (s sx : Operand)
    (ho : o.op = .call { callee := .builtin .append, args := #[s, sx], argTypes := #[ts, ts] }) (hs : a.eval s = .slice (some ⟨g, 0, none⟩) n cap) (hown : Row E T B w (.slice (some ⟨g, 0, none⟩) n cap) l) (hn : n = l.length) (hx : a.eval sx = x) (hr : Rd E w x m) (hroom : n + m.length ≤ cap)
    (h : ∀ w', Row E T B w' (.slice (some ⟨g, 0, none⟩) (n + m.length) cap) (l ++ m) → w.grownBy w' (some g) → wpList P ops Q rest (a.put o.dst (.slice (some ⟨g, 0, none⟩) (n + m.length) cap)) w') : wpList P ops Q (o :: rest) a w := by
  obtain ⟨w', hrun, h2, h3⟩ := run_append_fits_rd (P := P) I o.type hown hn hr hroom
  refine wpList_plain hgd fun K hK => ?_
  unfold Oper.wp execOp
  simp only [ho, resolve, invoke, builtin, Sem.run_bind, Sem.run_pure, Result.andThen_ok, List.map_toArray, List.map_cons, List.map_nil, hs, hx, hrun]
  exact hK _ _ (h w' h2 h3)
/-- one more, in the room behind -/
theorem Row.more {k : IntKind} {T : TypeId} {B : Nat} {w : World} {g n c : Nat} {l : List Int} (h : Row (intE k) T B w (.slice (some ⟨g, 0, none⟩) n c) l) (hn : n = l.length) (hc : n < c) (y : Int) :
    Row (intE k) T B (w.setCell ⟨g, n, none⟩ (.int k y)) (.slice (some ⟨g, 0, none⟩) (n + 1) c) (l ++ [y]) ∧ w.grownBy (w.setCell ⟨g, n, none⟩ (.int k y)) (some g) := by
  subst hn
  rcases h.2 with ⟨h', _⟩ | ⟨g', cap', cur, h', hb, hg, hnc, hcm, hcs, htake⟩
  · simp at h'
  · simp only [Value.slice.injEq, Option.some.injEq, Addr.mk.injEq, and_true, true_and] at h'
    obtain ⟨rfl, rfl⟩ := h'
    have hsz : (intE k).size = 1 := rfl
    rw [hsz, Nat.mul_one] at hcs htake
    refine ⟨⟨by rw [List.length_append, Enc.flat_len, hsz]; simp, .inr ⟨g, c, cur.setIfInBounds l.length (.int k y), by simp, hb, heap_setCell_same w g l.length cur T _ hg, by simp; omega, hcm, by simp [hsz]; exact hcs, ?_⟩⟩,
      ⟨rfl, rfl, rfl, by simp, fun j _ hj => heap_setCell_other w ⟨g, l.length, none⟩ j _ (fun e => hj (by simp [e]))⟩⟩
    rw [Array.toList_setIfInBounds, hsz, Nat.mul_one, List.length_append, Enc.flat_append, ← htake]
    simp only [List.length_cons, List.length_nil, Nat.zero_add]
    have hlt : l.length < (cur.toList.set l.length (.int k y)).length := by simp; omega
    rw [List.take_add_one, List.getElem?_eq_getElem hlt, List.take_set_of_le (Nat.le_refl _)]
    simp [Enc.flat, intE]
theorem Row.room {k : IntKind} {T : TypeId} {B : Nat} {w : World} {g n c : Nat} {l : List Int} (h : Row (intE k) T B w (.slice (some ⟨g, 0, none⟩) n c) l) (hn : n = l.length) {j : Nat} (hj : j < c) :
    (∃ u, w.cell? ⟨g, j, none⟩ = some u) ∧ w.frozen? ⟨g, j, none⟩ = false := by
  subst hn
  refine ⟨?_, World.ownsRow.frozenAt h j⟩
  rcases h.2 with ⟨h', _⟩ | ⟨g', cap', cur, h', hb, hg, hnc, hcm, hcs, htake⟩
  · simp at h'
  · simp only [Value.slice.injEq, Option.some.injEq, Addr.mk.injEq, and_true, true_and] at h'
    obtain ⟨rfl, rfl⟩ := h'
    have hsz : (intE k).size = 1 := rfl
    rw [hsz, Nat.mul_one] at hcs
    exact ⟨cur[j], by rw [cell_of_row w g j cur T (0, 0) hg]; simp [hcs, hj]⟩
end Mem

theorem own_rd {k : IntKind} {w : World} {g : Nat} {l m : List Int} {c : Nat} (h : Rd (intE k) w (.slice (some ⟨g, 0, none⟩) (l.length + m.length) c) (l ++ m)) : Rd (intE k) w (.slice (some ⟨g, 0, none⟩) l.length c) l := by
  obtain ⟨a0, c0, hv, h1, h2, _⟩ := id h
  injection hv with _ _ e3
  have := h.cut rfl (Nat.zero_le l.length) (by simp) (a' := some ⟨g, 0, none⟩) (n' := l.length) (c' := c) (by simp) (by simp at h1; omega) (by omega) (fun _ g' off e => by injection e with e; injection e with e1 e2; subst e1 e2; simp)
  simpa using this
end Go.Proofs.Ytgkmkpkbdmciiaa
/- Lists of structs of three numbers in memory (an int and two uint32 among them). -/
namespace Go.Proofs.Ytgkmkpkbdmciiaa.Mem
open Go Go.RowKit
set_option linter.unusedVariables false

def tripE (k1 k2 k3 : IntKind) : Enc (Int × Int × Int) where
  cells p := [.int k1 p.1, .int k2 p.2.1, .int k3 p.2.2]
  size := 3
  len _ := rfl
  one p u hu := by simp at hu; rcases hu with rfl | rfl | rfl <;> rfl
/-- what is read, for a loop -/
theorem Rd.loop3 {k1 k2 k3 : IntKind} {w : World} {v : Value} {l : List (Int × Int × Int)} (h : Rd (tripE k1 k2 k3) w v l) :
    ∃ a g off c, v = .slice a l.length c ∧ l.length ≤ c ∧ c ≤ maxLen ∧ (0 < l.length → a = some ⟨g, off, none⟩ ∧ g < w.heap.size) ∧
      ∀ i, i < l.length → w.cell? ⟨g, off + i * 3, none⟩ = some (.int k1 (l.getD i (0, 0, 0)).1) ∧ w.cell? ⟨g, off + i * 3 + 1, none⟩ = some (.int k2 (l.getD i (0, 0, 0)).2.1) ∧ w.cell? ⟨g, off + i * 3 + 2, none⟩ = some (.int k3 (l.getD i (0, 0, 0)).2.2) := by
  by_cases hl : 0 < l.length
  · obtain ⟨g, off, c, hv, h1, h2, hc⟩ := h.cells hl
    have hcell : ∀ i, i < l.length → w.cell? ⟨g, off + i * 3, none⟩ = some (.int k1 (l.getD i (0, 0, 0)).1) ∧ w.cell? ⟨g, off + i * 3 + 1, none⟩ = some (.int k2 (l.getD i (0, 0, 0)).2.1) ∧ w.cell? ⟨g, off + i * 3 + 2, none⟩ = some (.int k3 (l.getD i (0, 0, 0)).2.2) := by
      intro i hi
      have e : l.getD i (0, 0, 0) = l[i] := by simp [List.getD, hi]
      rw [e]
      exact ⟨hc i hi 0 (show 0 < 3 by omega), hc i hi 1 (show 1 < 3 by omega), hc i hi 2 (show 2 < 3 by omega)⟩
    exact ⟨_, g, off, c, hv, h1, h2, fun _ => ⟨rfl, World.block_lt_of_cell? w _ (hcell 0 hl).1⟩, hcell⟩
  · obtain ⟨a, c, hv, h1, h2⟩ := h.form
    exact ⟨a, 0, 0, c, hv, h1, h2, fun h => absurd h hl, fun i hi => absurd hi (by omega)⟩
theorem set3_take (L : List Value) (p : Nat) (x y z : Value) (h : p + 3 ≤ L.length) : (((L.set p x).set (p + 1) y).set (p + 2) z).take (p + 3) = L.take p ++ [x, y, z] := by
  obtain ⟨a, b, c, R, hR⟩ : ∃ a b c R, L.drop p = a :: b :: c :: R := by
    have hl : 3 ≤ (L.drop p).length := by rw [List.length_drop]; omega
    match hd : L.drop p, hl with
    | a :: b :: c :: R, _ => exact ⟨a, b, c, R, rfl⟩
  have hL : L = L.take p ++ a :: b :: c :: R := by rw [← hR, List.take_append_drop]
  have hlen : (L.take p).length = p := by rw [List.length_take]; omega
  generalize L.take p = F at *
  subst hL
  subst hlen
  rw [List.set_append_right _ _ (Nat.le_refl _), Nat.sub_self, List.set_append_right _ _ (by omega), List.set_append_right _ _ (by omega)]
  have e1 : F.length + 1 - F.length = 1 := by omega
  have e2 : F.length + 2 - F.length = 2 := by omega
  rw [e1, e2]
  rw [List.take_append, List.take_of_length_le (by omega)]
  simp
/-- one more, in the room behind -/
theorem Row.more3 {k1 k2 k3 : IntKind} {T : TypeId} {B : Nat} {w : World} {g n c : Nat} {l : List (Int × Int × Int)} (h : Row (tripE k1 k2 k3) T B w (.slice (some ⟨g, 0, none⟩) n c) l) (hn : n = l.length) (hc : n < c) (x y z : Int) :
    Row (tripE k1 k2 k3) T B (((w.setCell ⟨g, n * 3, none⟩ (.int k1 x)).setCell ⟨g, n * 3 + 1, none⟩ (.int k2 y)).setCell ⟨g, n * 3 + 2, none⟩ (.int k3 z)) (.slice (some ⟨g, 0, none⟩) (n + 1) c) (l ++ [(x, y, z)]) ∧
      w.grownBy (((w.setCell ⟨g, n * 3, none⟩ (.int k1 x)).setCell ⟨g, n * 3 + 1, none⟩ (.int k2 y)).setCell ⟨g, n * 3 + 2, none⟩ (.int k3 z)) (some g) := by
  subst hn
  rcases h.2 with ⟨h', _⟩ | ⟨g', cap', cur, h', hb, hg, hnc, hcm, hcs, htake⟩
  · simp at h'
  · simp only [Value.slice.injEq, Option.some.injEq, Addr.mk.injEq, and_true, true_and] at h'
    obtain ⟨rfl, rfl⟩ := h'
    have hsz : (tripE k1 k2 k3).size = 3 := rfl
    rw [hsz] at hcs htake
    have hB : Blk w g T cur := hg
    have hB3 := ((hB.set_ (l.length * 3) (.int k1 x)).set_ (l.length * 3 + 1) (.int k2 y)).set_ (l.length * 3 + 2) (.int k3 z)
    refine ⟨⟨by rw [Enc.flat_len, hsz], .inr ⟨g, c, _, by simp, hb, hB3, by simp; omega, hcm, by simp [hsz]; exact hcs, ?_⟩⟩, ?_⟩
    · rw [Array.toList_setIfInBounds, Array.toList_setIfInBounds, Array.toList_setIfInBounds, hsz, List.length_append, Enc.flat_append, ← htake, Nat.add_mul]
      rw [show ([(x, y, z)] : List (Int × Int × Int)).length * 3 = 3 from rfl]
      have e : cur.toList.length = cur.size := by simp
      have hle : (l.length + 1) * 3 ≤ c * 3 := Nat.mul_le_mul_right 3 hc
      rw [set3_take _ _ _ _ _ (by omega)]
      simp [Enc.flat, tripE]
    · exact (Only.set w _ _).trans ((Only.set _ _ _).trans (Only.set _ _ _))
theorem Row.room3 {k1 k2 k3 : IntKind} {T : TypeId} {B : Nat} {w : World} {g n c : Nat} {l : List (Int × Int × Int)} (h : Row (tripE k1 k2 k3) T B w (.slice (some ⟨g, 0, none⟩) n c) l) (hn : n = l.length) {j : Nat} (hj : j < c * 3) :
    (∃ u, w.cell? ⟨g, j, none⟩ = some u) ∧ w.frozen? ⟨g, j, none⟩ = false := by
  subst hn
  refine ⟨?_, World.ownsRow.frozenAt h j⟩
  rcases h.2 with ⟨h', _⟩ | ⟨g', cap', cur, h', hb, hg, hnc, hcm, hcs, htake⟩
  · simp at h'
  · simp only [Value.slice.injEq, Option.some.injEq, Addr.mk.injEq, and_true, true_and] at h'
    obtain ⟨rfl, rfl⟩ := h'
    have hsz : (tripE k1 k2 k3).size = 3 := rfl
    rw [hsz] at hcs
    exact ⟨cur[j], by rw [cell_of_row w g j cur T (0, 0) hg]; simp [hcs, hj]⟩
/-- the cells of a slice of one's own -/
theorem own_rdE {α : Type} {E : Enc α} {w : World} {g : Nat} {l m : List α} {c : Nat} (h : Rd E w (.slice (some ⟨g, 0, none⟩) (l.length + m.length) c) (l ++ m)) : Rd E w (.slice (some ⟨g, 0, none⟩) l.length c) l := by
  obtain ⟨a0, c0, hv, h1, h2, _⟩ := id h
  injection hv with _ _ e3
  have := h.cut rfl (Nat.zero_le l.length) (by simp) (a' := some ⟨g, 0, none⟩) (n' := l.length) (c' := c) (by simp) (by simp at h1; omega) (by omega) (fun _ g' off e => by injection e with e; injection e with e1 e2; subst e1 e2; simp)
  simpa using this
theorem Rd.old3 {k1 k2 k3 : IntKind} {w : World} {v : Value} {l : List (Int × Int × Int)} (h : Rd (tripE k1 k2 k3) w v l) (hl : 0 < l.length) {j : Nat} (hj : v.ownBlock = some j) : j < w.heap.size := by
  obtain ⟨a, g, off, c, rfl, _, _, ha, hc⟩ := Rd.loop3 h
  obtain ⟨rfl, hg⟩ := ha hl
  have e : some g = some j := hj
  injection e with e
  omega
/-- a slice of such, as an argument -/
theorem kd_trips {k1 k2 k3 : IntKind} {w : World} {v : Value} {l : List (Int × Int × Int)} (h : (kSlice (kPair (kInt k1) (kPair (kInt k2) (kInt k3)))).rd w [v] l) :
    Rd (tripE k1 k2 k3) w v l ∧ ∀ x ∈ l, (Lit.int k1 x.1).wf = true ∧ (Lit.int k2 x.2.1).wf = true ∧ (Lit.int k3 x.2.2).wf = true := by
  obtain ⟨a, c, h1, h2, h3, h4⟩ := h
  injection h1 with h1
  subst h1
  have key : 0 < l.length → ∃ g off, a = some ⟨g, off, none⟩ ∧ ∀ i y, l[i]? = some y → (∀ j, j < 3 → w.cell? ⟨g, off + (i * 3 + j), none⟩ = ((tripE k1 k2 k3).cells y)[j]?) ∧ (Lit.int k1 y.1).wf = true ∧ (Lit.int k2 y.2.1).wf = true ∧ (Lit.int k3 y.2.2).wf = true := by
    intro hl
    obtain ⟨g, off, ha, hi⟩ := h4 hl
    refine ⟨g, off, ha, fun i y hy => ?_⟩
    obtain ⟨es, he, hr⟩ := hi i y hy
    have hlen := (kPair (kInt k1) (kPair (kInt k2) (kInt k3))).len hr
    obtain ⟨⟨r1, w1⟩, ⟨r2, w2⟩, r3, w3⟩ := hr
    match es, hlen with
    | [c0, c1, c2], _ =>
      have e0 : c0 = .int k1 y.1 := by simpa [kInt] using r1
      have e1 : c1 = .int k2 y.2.1 := by simpa [kInt] using r2
      have e2 : c2 = .int k3 y.2.2 := by simpa [kInt] using r3
      subst e0 e1 e2
      exact ⟨fun j hj => he j hj, w1, w2, w3⟩
  refine ⟨⟨a, c, rfl, h2, h3, fun hl => ?_⟩, fun x hx => ?_⟩
  · obtain ⟨g, off, ha, hc⟩ := key hl
    refine ⟨g, off, ha, fun j u hu => ?_⟩
    have hsz : (tripE k1 k2 k3).size = 3 := rfl
    have hj : j < l.length * 3 := by
      have := (List.getElem?_eq_some_iff.1 hu).1
      rw [Enc.flat_len, hsz] at this
      exact this
    have hi : j / 3 < l.length := by omega
    have hf := (tripE k1 k2 k3).flat_at (l := l) (i := j / 3) (j := j % 3) hi (by rw [hsz]; omega)
    rw [hsz, show j / 3 * 3 + j % 3 = j by omega] at hf
    have := (hc (j / 3) _ (List.getElem?_eq_getElem hi)).1 (j % 3) (by omega)
    rw [show j / 3 * 3 + j % 3 = j by omega] at this
    rw [this, ← hf, hu]
  · obtain ⟨i, hi, rfl⟩ := List.getElem_of_mem hx
    obtain ⟨g, off, _, hc⟩ := key (by omega)
    exact (hc i _ (List.getElem?_eq_getElem hi)).2
end Go.Proofs.Ytgkmkpkbdmciiaa.Mem
/- What one call may have turned: a set of old blocks (a struct, and the rows that it keeps and appends to). -/
namespace Go.Proofs.Ytgkmkpkbdmciiaa.Mem
open Go Go.RowKit
set_option linter.unusedVariables false

/-- only old blocks of S may have turned; what is new is new -/
structure Turned (S : Nat → Prop) (w w' : World) : Prop where
  os : w'.os = w.os
  tape : w'.tape = w.tape
  output : w'.output = w.output
  size : w.heap.size ≤ w'.heap.size
  block : ∀ k, k < w.heap.size → ¬ S k → w'.heap[k]? = w.heap[k]?
section
variable {S S' : Nat → Prop} {w w' w'' : World}
theorem Turned.refl (S : Nat → Prop) (w : World) : Turned S w w := ⟨rfl, rfl, rfl, Nat.le_refl _, fun _ _ _ => rfl⟩
theorem Turned.of_below (h : Below w.heap.size w w') : Turned S w w' := ⟨h.os, h.tape, h.output, h.size, fun k hk _ => h.block k hk⟩
theorem Turned.of_only {b : Nat} (h : Only b w w') (hb : S b) : Turned S w w' := ⟨h.os, h.tape, h.output, h.size, fun k hk hs => h.block k hk (by intro e; injection e with e; subst e; exact hs hb)⟩
theorem Turned.of_grown {r : Option Nat} (h : w.grownBy w' r) (hr : ∀ k, r = some k → S k) : Turned S w w' := ⟨h.os, h.tape, h.output, h.size, fun k hk hs => h.block k hk (fun e => hs (hr k e.symm))⟩
theorem Turned.mono (h : Turned S w w') (hs : ∀ k, k < w.heap.size → S k → S' k) : Turned S' w w' := ⟨h.os, h.tape, h.output, h.size, fun k hk hn => h.block k hk (fun hk' => hn (hs k hk hk'))⟩
/-- one behind the other: the second may also turn what is new to the first -/
theorem Turned.trans (h : Turned S w w') (k : Turned S' w' w'') (hs : ∀ j, j < w.heap.size → S' j → S j) : Turned S w w'' :=
  ⟨k.os.trans h.os, k.tape.trans h.tape, k.output.trans h.output, Nat.le_trans h.size k.size, fun j hj hn => (k.block j (Nat.lt_of_lt_of_le hj h.size) (fun h' => hn (hs j hj h'))).trans (h.block j hj hn)⟩
theorem Turned.drew (h : Turned S w w') : Turned S w w'.drew := h.trans (S' := S) (Turned.of_below (Below.refl _ _).drew) (fun _ _ h => h)
theorem Turned.alloc (h : Turned S w w') (o : Obj) : Turned S w (w'.alloc o) := h.trans (S' := S) (Turned.of_below (more (Below.refl _ _) o)) (fun _ _ h => h)
theorem Turned.below {B : Nat} (h : Turned S w w') (hB : B ≤ w.heap.size) (hs : ∀ k, S k → B ≤ k) : Below B w w' :=
  ⟨h.os, h.tape, h.output, h.size, fun k hk => h.block k (by omega) (fun hk' => by have := hs k hk'; omega)⟩
theorem Turned.cell (h : Turned S w w') {p : Addr} {x : Value} (hp : w.cell? p = some x) (hs : ¬ S p.block) : w'.cell? p = some x :=
  (World.cell?_of_block (h.block p.block (World.block_lt_of_cell? w p hp) hs)).trans hp
theorem Blk.turned {g : Nat} {t : TypeId} {cs : Array Value} (hb : Blk w g t cs) (h : Turned S w w') (hs : ¬ S g) : Blk w' g t cs := (h.block g hb.lt hs).trans hb
theorem Rd.turned {α : Type} {E : Enc α} {v : Value} {l : List α} (hr : Rd E w v l) (h : Turned S w w') (hs : ∀ g, v.ownBlock = some g → ¬ S g) : Rd E w' v l := by
  obtain ⟨a, c, hv, h1, h2, h3⟩ := hr
  refine ⟨a, c, hv, h1, h2, fun hl => ?_⟩
  obtain ⟨g, off, ha, hc⟩ := h3 hl
  exact ⟨g, off, ha, fun j u hu => h.cell (hc j u hu) (hs g (by rw [hv, ha]; rfl))⟩
theorem Row.turned {α : Type} {E : Enc α} {T : TypeId} {B : Nat} {v : Value} {l : List α} (hr : Row E T B w v l) (h : Turned S w w') (hs : ∀ g, v.ownBlock = some g → ¬ S g) : Row E T B w' v l := by
  rcases hr.2 with ⟨hv, hn⟩ | ⟨g, cap, cur, hv, hg, hc, h1, h2, h3, h4⟩
  · exact ⟨hr.1, .inl ⟨hv, hn⟩⟩
  · exact ⟨hr.1, .inr ⟨g, cap, cur, hv, hg, (h.block g (Array.getElem?_eq_some_iff.1 hc).1 (hs g (by rw [hv]; rfl))).trans hc, h1, h2, h3, h4⟩⟩
/-- of a row that was grown, or moved: which block it may lie in now -/
theorem grown_where {v v' : Value} {g : Nat} (h : v'.ownBlock = v.ownBlock ∨ v'.ownBlock = some w.heap.size) (hg : v'.ownBlock = some g) : v.ownBlock = some g ∨ g = w.heap.size := by
  rcases h with h | h
  · exact .inl (h.symm.trans hg)
  · rw [h] at hg; injection hg with hg; exact .inr hg.symm
end
end Go.Proofs.Ytgkmkpkbdmciiaa.Mem
/- Whole blocks written anew; what a row that grows leaves be. -/
namespace Go.Proofs.Ytgkmkpkbdmciiaa
open Go.RowKit Mem
set_option linter.unusedVariables false
theorem Only.rowS {b : Nat} (w : World) (cs : Array Value) : Only b w (w.setRow b cs) :=
  ⟨rfl, rfl, rfl, by simp, fun k _ hne => setRow_other w b k cs (fun e => hne (by rw [e]))⟩
theorem Blk.rowS {w : World} {g : Nat} {t : TypeId} {old : Array Value} (h : Blk w g t old) (cs : Array Value) : Blk (w.setRow g cs) g t cs := setRow_heap w g old cs t (0, 0) h
theorem Only.set_new {b d : Nat} {y z : World} (h : Only b y z) (hn : y.heap.size ≤ d) (i : Nat) (u : Value) : Only b y (z.setCell ⟨d, i, none⟩ u) := by
  have s := Only.set (b := d) z i u
  exact ⟨s.os.trans h.os, s.tape.trans h.tape, s.output.trans h.output, Nat.le_trans h.size s.size, fun k hk hne => (s.block k (by have := h.size; omega) (by intro e; injection e; omega)).trans (h.block k hk hne)⟩
theorem Only.row_new {b d : Nat} {y z : World} (h : Only b y z) (hn : y.heap.size ≤ d) (cs : Array Value) : Only b y (z.setRow d cs) := by
  have s := Only.rowS (b := d) z cs
  exact ⟨s.os.trans h.os, s.tape.trans h.tape, s.output.trans h.output, Nat.le_trans h.size s.size, fun k hk hne => (s.block k (by have := h.size; omega) (by intro e; injection e; omega)).trans (h.block k hk hne)⟩
theorem Only.upto {b : Nat} {w y z : World} (h : Only b w y) (k : Below w.heap.size y z) : Only b w z :=
  ⟨k.os.trans h.os, k.tape.trans h.tape, k.output.trans h.output, Nat.le_trans h.size k.size, fun i hi hne => (k.block i hi).trans (h.block i hi hne)⟩
theorem Blk.grown {w w' : World} {g : Nat} {t : TypeId} {cs : Array Value} {row : Option Nat} (h : Blk w g t cs) (k : w.grownBy w' row) (hne : row ≠ some g) : Blk w' g t cs := (k.block g h.lt (fun e => hne e.symm)).trans h
theorem there_blk {w : World} {g : Nat} {t : TypeId} {cs : Array Value} (h : Blk w g t cs) (o n : Nat) (hn : o + n ≤ cs.size) : w.there g o n := fun j hj => ⟨by rw [h.cell, Array.getElem?_eq_getElem (by omega)]; rfl, h.frozen _⟩
end Go.Proofs.Ytgkmkpkbdmciiaa
