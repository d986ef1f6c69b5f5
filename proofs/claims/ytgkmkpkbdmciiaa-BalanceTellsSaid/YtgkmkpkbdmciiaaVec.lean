/- Arrays of numbers as data: arguments, elements of slices; whole elements stored into a row. -/
import Derived.Test.YtgkmkpkbdmciiaaMem
import Derived.Test.YtgkmkpkbdmciiaaBytes
import Derived.Laws.CopyRow
import Derived.OpenShut
set_option maxRecDepth 4000
namespace Go.Proofs.Ytgkmkpkbdmciiaa.Mem
open Go Go.ChangeShapes Go.WideShapes Go.ChangeAt Go.RowKit Go.Joins Go.Deep
set_option linter.unusedVariables false

/-- an array of n numbers -/
def kVec (n : Nat) (k : IntKind) : Kd (List Int) where
  size := n
  rd _ cs x := cs = x.map (Value.int k) ∧ x.length = n ∧ ∀ y ∈ x, (Lit.int k y).wf = true
  len h := by rw [h.1, List.length_map, h.2.1]
  keep h _ := h
section
variable {H : Type} {enc : TypeId × Value → H} {P : Program}
theorem opens_vec {t e : TypeId} {n : Nat} {k : IntKind} (h : P.underlying t = some (.array n e)) (he : P.underlying e = some (.int k)) (hce : P.cellsOf e = 1) (hc : P.cellsOf t = n) : Opens enc P t (kVec n k) := by
  refine ⟨hc, fun w base spare held fuel cs x hx => ?_⟩
  obtain ⟨xs, m, _, _, hl, hlen, hi⟩ := DataW.trod_array h hx
  rw [hc] at hl
  rw [hce] at hi
  have key : ∀ i, i < n → ∃ y, cs[i]? = some (.int k y) ∧ (Lit.int k y).wf = true := by
    intro i hin
    have h1 := hi i hin
    rw [Nat.mul_one, show xs[i]? = some (xs[i]'(by omega)) from List.getElem?_eq_getElem _] at h1
    obtain ⟨a, e1, _, hw⟩ := DataW.trod_int he h1
    refine ⟨a, ?_, hw⟩
    have : ((cs.drop i).take 1)[0]? = some (.int k a) := by rw [e1]; rfl
    simpa [List.getElem?_take, List.getElem?_drop] using this
  obtain ⟨L, hL, hq⟩ := list_choose n key
  refine ⟨L, ?_, hL, fun y hy => ?_⟩
  · apply List.ext_getElem?
    intro i
    by_cases hin : i < n
    · have hLi : L[i]? = some (L[i]'(by omega)) := List.getElem?_eq_getElem _
      rw [List.getElem?_map, hLi, (hq i _ hLi).1]
      rfl
    · rw [List.getElem?_eq_none (by omega), List.getElem?_eq_none (by rw [List.length_map]; omega)]
  · obtain ⟨i, hin, rfl⟩ := List.getElem_of_mem hy
    exact (hq i _ (List.getElem?_eq_getElem hin)).2
theorem okWide_array {w : World} {r : Reach} {base : Nat} {t e : TypeId} {n : Nat} {v : Value} (ht : P.underlying t = some (.array n e)) (h : Value.okWide P w r base t v) : ∃ cs, v = .agg cs ∧ cs.size = P.cellsOf t := by
  simp only [Value.okWide, ht] at h
  obtain ⟨cs, h1, h2, _⟩ := h
  exact ⟨cs, h1, h2⟩
end
/-- an argument that is an array of numbers -/
theorem open_kd_vec {H : Type} {enc : TypeId × Value → H} {P : Program} {W : World} {base b0 : Nat} {spare : Nat → Bool} {held : Bool} {r : Reach} {t e : TypeId} {n : Nat} {k : IntKind} {v : Value} {d : DataW H} {p : List MemPlace} (ht : P.underlying t = some (.array n e)) (O : Opens enc P t (kVec n k))
    (hv : Value.okWide P W r b0 t v) (h : DataW.Trod enc P W base spare held t v d p) : ∃ x : List Int, v = .agg (x.map (Value.int k)).toArray ∧ x.length = n ∧ ∀ y ∈ x, (Lit.int k y).wf = true := by
  obtain ⟨cs, rfl, _⟩ := okWide_array ht hv
  obtain ⟨fuel, hf⟩ := h
  obtain ⟨y, hy⟩ := O.2 W base spare held fuel _ _ hf
  have hy1 : cs.toList = y.map (Value.int k) := by simpa [Value.cells] using hy.1
  exact ⟨y, by rw [← hy1], hy.2⟩
/-- as an element -/
def vecE (n : Nat) (k : IntKind) : Enc {l : List Int // l.length = n} where
  cells x := x.1.map (Value.int k)
  size := n
  len x := by rw [List.length_map, x.2]
  one x u hu := by obtain ⟨y, _, rfl⟩ := List.mem_map.1 hu; rfl
theorem vec_list {n : Nat} : ∀ (l : List (List Int)), (∀ x ∈ l, x.length = n) → ∃ L : List {l : List Int // l.length = n}, L.map (·.1) = l
  | [], _ => ⟨[], rfl⟩
  | x :: l, h => by
    obtain ⟨L, hL⟩ := vec_list l (fun y hy => h y (List.mem_cons_of_mem _ hy))
    exact ⟨⟨x, h x List.mem_cons_self⟩ :: L, by rw [List.map_cons, hL]⟩
theorem kd_vecs {n : Nat} {k : IntKind} (hn : 0 < n) {w : World} {v : Value} {l : List (List Int)} (h : (kSlice (kVec n k)).rd w [v] l) :
    ∃ L : List {l : List Int // l.length = n}, L.map (·.1) = l ∧ Rd (vecE n k) w v L ∧ ∀ x ∈ l, ∀ y ∈ x, (Lit.int k y).wf = true := by
  obtain ⟨a, c, h1, h2, h3, h4⟩ := h
  injection h1 with h1
  subst h1
  have hlen : ∀ x ∈ l, x.length = n ∧ ∀ y ∈ x, (Lit.int k y).wf = true := by
    intro x hx
    obtain ⟨i, hi, rfl⟩ := List.getElem_of_mem hx
    obtain ⟨g, off, _, hc⟩ := h4 (by omega)
    obtain ⟨es, _, hr⟩ := hc i _ (List.getElem?_eq_getElem hi)
    exact hr.2
  obtain ⟨L, hL⟩ := vec_list l (fun x hx => (hlen x hx).1)
  have hLl : L.length = l.length := by rw [← hL, List.length_map]
  refine ⟨L, hL, ⟨a, c, by rw [hLl], by rw [hLl]; exact h2, h3, fun hl => ?_⟩, fun x hx => (hlen x hx).2⟩
  obtain ⟨g, off, ha, hc⟩ := h4 (by omega)
  refine ⟨g, off, ha, fun j u hu => ?_⟩
  have hsz : (vecE n k).size = n := rfl
  have hj : j < L.length * n := by
    have := (List.getElem?_eq_some_iff.1 hu).1
    rw [Enc.flat_len, hsz] at this
    exact this
  have hi : j / n < L.length := Nat.div_lt_of_lt_mul (by rw [Nat.mul_comm]; exact hj)
  have hdm : j / n * n + j % n = j := by rw [Nat.mul_comm]; exact Nat.div_add_mod j n
  have hf := (vecE n k).flat_at (l := L) (i := j / n) (j := j % n) hi (by rw [hsz]; exact Nat.mod_lt _ hn)
  rw [hsz, hdm] at hf
  have hli : l[j / n]? = some (L[j / n]).1 := by rw [← hL, List.getElem?_map, List.getElem?_eq_getElem hi]; rfl
  obtain ⟨es, he, hr⟩ := hc (j / n) _ hli
  have := he (j % n) (Nat.mod_lt _ hn)
  rw [show (kVec n k).size = n from rfl, hdm] at this
  rw [this, hr.1, ← hu, hf]
  rfl
section
variable {P : Program}
/-- a whole element stored into a block, from a place on -/
theorem run_store_part (w : World) (g o : Nat) (t ty : TypeId) (cur : Array Value) (vs : List Value) (hg : Blk w g t cur) (hi : (P.info? ty).map (·.size) = some vs.length) (ho : o + vs.length ≤ cur.size) (h1 : ∀ v ∈ vs, v.oneCell' = true) :
    (storeVar ty ⟨g, o, none⟩ (.agg vs.toArray)).run P w = .ok () (w.setRow g (cur.toList.take o ++ vs ++ cur.toList.drop (o + vs.length)).toArray) := by
  have := run_storeCells_at (P := P) g o t vs 0 cur w hg (by omega) h1
  cases hq : P.info? ty with
  | none => simp [hq] at hi
  | some i =>
    have hs : i.size = vs.length := by simpa [hq] using hi
    simp only [Nat.add_zero] at this
    simp [storeVar, sizeOf, typeInfo, hq, Value.cells, hs, this]
theorem wpList_store_part {ops : Array Oper} {rest : List Oper} {o : Oper} {a : Act} {w : World} {Q : Exit → Act → World → Prop} (hgd : o.guard = none) (ty : TypeId) (x y : Operand) (ho : o.op = .store ty x y)
    (g off : Nat) (vs : List Value) (hx : a.eval x = .pointer (some ⟨g, off, none⟩)) (hy : a.eval y = .agg vs.toArray)
    (t : TypeId) (cur : Array Value) (hg : Blk w g t cur) (hi : (P.info? ty).map (·.size) = some vs.length) (hl : off + vs.length ≤ cur.size) (h1 : ∀ v ∈ vs, v.oneCell' = true)
    (h : wpList P ops Q rest (a.put o.dst undef) (w.setRow g (cur.toList.take off ++ vs ++ cur.toList.drop (off + vs.length)).toArray)) : wpList P ops Q (o :: rest) a w :=
  wpList_plain hgd fun _ hK => by
    unfold Oper.wp execOp
    simp only [ho, hx, hy, Instr.storeAt, Instr.sureAddr, Sem.run_bind, Sem.run_pure, Result.andThen_ok, run_store_part (P := P) w g off t ty cur vs hg hi hl h1]
    exact hK _ _ h
/-- a block that is an array, read whole (a light operation) -/
theorem exec_load_arr {o : Oper} {a : Act} {ty t : TypeId} {x : Operand} (ho : o.op = .load ty x) {n : Nat} {e : TypeId} (hu : P.underlying ty = some (.array n e)) (hi : (P.info? ty).map (·.size) = some n) {w : World} {g : Nat} {l : List Value} (hl : l.length = n)
    (hx : a.eval x = .pointer (some ⟨g, 0, none⟩)) (hB : Blk w g t l.toArray) : (execOp a.eval o).run P w = .ok (.value (.agg l.toArray)) w :=
  exec_load_part ho hu hi hl hx (fun j u hu => by rw [Nat.zero_add, hB.cell, List.getElem?_toArray]; exact hu)
/-- a whole array loaded from a block, from a place on -/
theorem wpList_load_part {ops : Array Oper} {rest : List Oper} {o : Oper} {a : Act} {w : World} {Q : Exit → Act → World → Prop} (hgd : o.guard = none) (ty : TypeId) (x : Operand) (ho : o.op = .load ty x) {n : Nat} {e : TypeId} (hu : P.underlying ty = some (.array n e)) (hi : (P.info? ty).map (·.size) = some n)
    (g off : Nat) (l : List Value) (hl : l.length = n) (hx : a.eval x = .pointer (some ⟨g, off, none⟩)) (hc : ∀ j u, l[j]? = some u → w.cell? ⟨g, off + j, none⟩ = some u)
    (h : wpList P ops Q rest (a.put o.dst (.agg l.toArray)) w) : wpList P ops Q (o :: rest) a w :=
  wpList_plain hgd fun _ hK => by
    unfold Oper.wp
    rw [exec_load_part ho hu hi hl hx hc]
    exact hK _ _ h
end
section
variable {α : Type} {E : Enc α} {T : TypeId} {B : Nat} {w : World} {g n c : Nat} {l : List α}
/-- a row of one's own: its block -/
theorem Row.blk (h : Row E T B w (.slice (some ⟨g, 0, none⟩) n c) l) (hn : n = l.length) : ∃ cur, Blk w g T cur ∧ cur.size = c * E.size ∧ cur.toList.take (l.length * E.size) = E.flat l ∧ l.length ≤ c ∧ c ≤ maxLen ∧ B ≤ g := by
  subst hn
  rcases h.2 with ⟨h', _⟩ | ⟨g', cap', cur, h', hb, hg, hnc, hcm, hcs, htake⟩
  · simp at h'
  · simp only [Value.slice.injEq, Option.some.injEq, Addr.mk.injEq, and_true, true_and] at h'
    obtain ⟨rfl, rfl⟩ := h'
    exact ⟨cur, hg, hcs, htake, hnc, hcm, hb⟩
/-- one more, in the room behind -/
theorem Row.moreE (h : Row E T B w (.slice (some ⟨g, 0, none⟩) n c) l) (hn : n = l.length) (hc : n < c) (x : α) {cur : Array Value} (hb : Blk w g T cur) :
    n * E.size + (E.cells x).length ≤ cur.size ∧ Row E T B (w.setRow g (cur.toList.take (n * E.size) ++ E.cells x ++ cur.toList.drop (n * E.size + (E.cells x).length)).toArray) (.slice (some ⟨g, 0, none⟩) (n + 1) c) (l ++ [x]) := by
  obtain ⟨cur', hb', hcs, htake, hnc, hcm, hB⟩ := h.blk hn
  subst hn
  have e : cur' = cur := by
    have h1 : w.heap[g]? = some (.cells cur T (0, 0)) := hb
    have h2 : w.heap[g]? = some (.cells cur' T (0, 0)) := hb'
    rw [h1] at h2
    injection h2 with h2
    injection h2 with h2
    exact h2.symm
  subst e
  have hle : (l.length + 1) * E.size ≤ c * E.size := Nat.mul_le_mul_right _ hc
  rw [Nat.succ_mul] at hle
  have hxl := E.len x
  refine ⟨by omega, ⟨by rw [Enc.flat_len], .inr ⟨g, c, _, by simp, hB, Blk.rowS hb _, by simp; omega, hcm, ?_, ?_⟩⟩⟩
  · simp
    omega
  · rw [htake]
    simp only [List.length_append, List.length_cons, List.length_nil, Nat.zero_add, Nat.succ_mul]
    have h1 : (E.flat l ++ E.cells x).length = l.length * E.size + E.size := by rw [List.length_append, Enc.flat_len, hxl]
    rw [List.take_append_of_le_length (by omega), List.take_of_length_le (by omega), Enc.flat_append]
    simp [Enc.flat]
end
end Go.Proofs.Ytgkmkpkbdmciiaa.Mem
