/- Structs that lie in memory, read whole. -/
import Derived.Test.YtkenldpmogogaaaMem
import Derived.Laws.ResultCell
import Derived.Laws.Rows
set_option maxRecDepth 4000
namespace Go.Proofs.Ytkenldpmogogaaa.Mem
open Go Go.RowKit
set_option linter.unusedVariables false
theorem Blk.newAt (w : World) (t : TypeId) (cs : Array Value) {n : Nat} (h : n = w.heap.size) : Blk (w.alloc (.cells cs t)) n t cs := h ▸ Blk.new w t cs
theorem size_alloc (w : World) (o : Obj) : (w.alloc o).heap.size = w.heap.size + 1 := by simp
section
variable {P : Program}
theorem run_load_agg {ty : TypeId} {n : Nat} {fs : Array Field} (hu : P.underlying ty = some (.struct fs)) (hi : (P.info? ty).map (·.size) = some n) {w : World} {g off : Nat} {l : List Value} (hl : l.length = n) (hc : ∀ j u, l[j]? = some u → w.cell? ⟨g, off + j, none⟩ = some u) :
    (loadVar ty ⟨g, off, none⟩).run P w = .ok (.agg l.toArray) w := by
  have hls := run_loadCells_list (P := P) w ⟨g, off, none⟩ l (fun j v hv => by
      have hadd : (⟨g, off, none⟩ : Addr).add j = ⟨g, off + j, none⟩ := by unfold Addr.add; split <;> simp_all
      rw [hadd]
      exact hc j v hv)
  cases hq : P.info? ty with
  | none => simp [hq] at hi
  | some i =>
    have hs : i.size = n := by simpa [hq] using hi
    have hagg : (isAgg ty).run P w = .ok true w := by
      unfold isAgg
      rw [Sem.run_bind, run_underlying hu w]
      rfl
    rw [hl] at hls
    simp [loadVar, Sem.run_bind, hagg, sizeOf, typeInfo, hq, hs, hls]
theorem exec_load_agg {o : Oper} {a : Act} {ty : TypeId} {x : Operand} (ho : o.op = .load ty x) {n : Nat} {fs : Array Field} (hu : P.underlying ty = some (.struct fs)) (hi : (P.info? ty).map (·.size) = some n) {w : World} {g off : Nat} {l : List Value} (hl : l.length = n)
    (hx : a.eval x = .pointer (some ⟨g, off, none⟩)) (hc : ∀ j u, l[j]? = some u → w.cell? ⟨g, off + j, none⟩ = some u) :
    (execOp a.eval o).run P w = .ok (.value (.agg l.toArray)) w := by
  unfold execOp
  simp only [ho, hx, Instr.loadAt, Instr.sureAddr, Sem.run_bind, Sem.run_pure, Result.andThen_ok, run_load_agg hu hi hl hc]
/-- a block that is a struct -/
theorem exec_load_blk {o : Oper} {a : Act} {ty t : TypeId} {x : Operand} (ho : o.op = .load ty x) {n : Nat} {fs : Array Field} (hu : P.underlying ty = some (.struct fs)) (hi : (P.info? ty).map (·.size) = some n) {w : World} {g : Nat} {l : List Value} (hl : l.length = n)
    (hx : a.eval x = .pointer (some ⟨g, 0, none⟩)) (hB : Blk w g t l.toArray) : (execOp a.eval o).run P w = .ok (.value (.agg l.toArray)) w :=
  exec_load_agg ho hu hi hl hx (fun j u hu => by rw [Nat.zero_add, hB.cell, List.getElem?_toArray]; exact hu)
/-- a part of a block -/
theorem exec_load_sub {o : Oper} {a : Act} {ty t : TypeId} {x : Operand} (ho : o.op = .load ty x) {n : Nat} {fs : Array Field} (hu : P.underlying ty = some (.struct fs)) (hi : (P.info? ty).map (·.size) = some n) {w : World} {g off : Nat} {l m : List Value} (hl : l.length = n)
    (hx : a.eval x = .pointer (some ⟨g, off, none⟩)) (hB : Blk w g t m.toArray) (hm : (m.drop off).take n = l) : (execOp a.eval o).run P w = .ok (.value (.agg l.toArray)) w :=
  exec_load_agg ho hu hi hl hx (fun j u hu => by
    rw [hB.cell, List.getElem?_toArray]
    rw [← hm, List.getElem?_take] at hu
    split at hu
    · rw [List.getElem?_drop] at hu; exact hu
    · cases hu)
/-- results that lie in a block of the call's own -/
theorem results_blk {fn : Func} {p : Tmp} {ty : TypeId} (h : fn.results = #[.cell p ty]) {n : Nat} {fs : Array Field} (hu : P.underlying ty = some (.struct fs)) (hi : (P.info? ty).map (·.size) = some n) {tmps : Array Value} {w : World} {g : Nat} {t : TypeId} {l : List Value} (hl : l.length = n)
    (hp : tmps.getD p undef = .pointer (some ⟨g, 0, none⟩)) (hB : Blk w g t l.toArray) : (results fn tmps).run P w = .ok (.agg l.toArray) w :=
  results_cell_row h tmps w g t l.toArray (0, 0) _ hp hB hu rfl (by rw [hi, ← hl]; simp)
theorem results_blk_tmp {fn : Func} {p u : Tmp} {ty : TypeId} (h : fn.results = #[.cell p ty, .tmp u]) {n : Nat} {fs : Array Field} (hu : P.underlying ty = some (.struct fs)) (hi : (P.info? ty).map (·.size) = some n) {tmps : Array Value} {w : World} {g : Nat} {t : TypeId} {l : List Value} (hl : l.length = n)
    (hp : tmps.getD p undef = .pointer (some ⟨g, 0, none⟩)) (hB : Blk w g t l.toArray) : (results fn tmps).run P w = .ok (.tuple #[.agg l.toArray, tmps.getD u undef]) w := by
  have hp' : tmps[p]?.getD undef = .pointer (some ⟨g, 0, none⟩) := by simpa using hp
  rw [results_cell_tmp h]
  have hld := run_load_agg (P := P) hu hi (w := w) (g := g) (off := 0) hl (fun j u hu => by rw [Nat.zero_add, hB.cell, List.getElem?_toArray]; exact hu)
  simp [hp', asAddr, Result.andThen, hld]
end
end Go.Proofs.Ytkenldpmogogaaa.Mem
