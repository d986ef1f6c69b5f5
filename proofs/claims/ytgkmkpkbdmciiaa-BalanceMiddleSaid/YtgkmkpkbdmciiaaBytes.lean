/- Lists of bytes in memory, read as texts: petasoshelp.Bytes; the bytes of a number, the highest first. -/
import Derived.Test.YtgkmkpkbdmciiaaMem
import Derived.Laws.BytesArg
import Derived.Laws.IdiomStrings
import Derived.Laws.CopyOwn
import Derived.Deep.OwnRows
import Derived.Great.BuildSlice
set_option maxRecDepth 4000
namespace Go.Proofs.Ytgkmkpkbdmciiaa
open Go.RowKit Mem
set_option linter.unusedSimpArgs false
set_option linter.unusedVariables false
attribute [local irreducible] Go.Calls

theorem Mem.Rd.ints {k : IntKind} {w : World} {v : Value} {l : List Int} (h : Rd (intE k) w v l) (hl : 0 < l.length) :
    ∃ g off c, v = .slice (some ⟨g, off, none⟩) l.length c ∧ l.length ≤ c ∧ c ≤ maxLen ∧ ∀ i, i < l.length → w.cell? ⟨g, off + i, none⟩ = some (.int k (l.getD i 0)) := by
  obtain ⟨g, off, c, hv, h1, h2, hc⟩ := h.cells hl
  refine ⟨g, off, c, hv, h1, h2, fun i hi => ?_⟩
  have e : l.getD i 0 = l[i] := by simp [List.getD, hi]
  rw [e]
  have := hc i hi 0 (show 0 < 1 by omega)
  simpa [intE] using this
theorem Mem.Rd.loopI {k : IntKind} {w : World} {v : Value} {l : List Int} (h : Rd (intE k) w v l) :
    ∃ a g off c, v = .slice a l.length c ∧ l.length ≤ c ∧ c ≤ maxLen ∧ (0 < l.length → a = some ⟨g, off, none⟩ ∧ g < w.heap.size) ∧ ∀ i, i < l.length → w.cell? ⟨g, off + i, none⟩ = some (.int k (l.getD i 0)) := by
  by_cases hl : 0 < l.length
  · obtain ⟨g, off, c, hv, h1, h2, hc⟩ := Mem.Rd.ints h hl
    exact ⟨_, g, off, c, hv, h1, h2, fun _ => ⟨rfl, World.block_lt_of_cell? w _ (hc 0 hl)⟩, hc⟩
  · obtain ⟨a, c, hv, h1, h2⟩ := h.form
    exact ⟨a, 0, 0, c, hv, h1, h2, fun h => absurd h hl, fun i hi => absurd hi (by omega)⟩
end Go.Proofs.Ytgkmkpkbdmciiaa
/- Arrays of bytes inside structs: a copy into a block, an array read whole, a struct built of a pointer and an array; chains of such structs, none of which turns. -/
namespace Go.Proofs.Ytgkmkpkbdmciiaa
open Go.RowKit Mem
set_option linter.unusedSimpArgs false
set_option linter.unusedVariables false

namespace Mem
section
variable {P : Program}
theorem Only.setRow {g : Nat} (w : World) (cs : Array Value) : Only g w (w.setRow g cs) :=
  ⟨rfl, rfl, rfl, by simp [World.setRow], fun k _ hne => setRow_other w g k cs (fun e => hne (by rw [e]))⟩
/-- bytes copied into a block -/
theorem run_copy_in {ts T : TypeId} {bytes : Nat} (I : Elem P ts T 1 bytes) (ty : TypeId) {dp : Option Addr} {n c g off : Nat} {v : Value} {t : TypeId} {cs : List Value} {l : List Int} {k : IntKind} {w : World}
    (hg : Blk w g t cs.toArray) (hr : Rd (intE k) w v l) (hpos : 0 < min l.length n → dp = some ⟨g, off, none⟩ ∧ off + min l.length n ≤ cs.length) :
    ∃ w', (Builtin.copy_ #[ts, ts] ty #[.slice dp n c, v]).run P w = .ok (.int .i64 ((min l.length n : Nat) : Int)) w' ∧ Blk w' g t (splice cs off ((l.take n).map (.int k))).toArray ∧ Only g w w' := by
  have hsz : (P.info? T).map (·.size) = some 1 := by
    obtain ⟨_, i, z, hi, _, hs, _⟩ := I
    simp [hi, hs]
  rcases Nat.eq_zero_or_pos (min l.length n) with h0 | h0
  · obtain ⟨a, c', rfl, _⟩ := hr.form
    refine ⟨w, ?_, ?_, Only.refl _ _⟩
    · have := run_copy_none (P := P) w ts ts ty T dp a n c l.length c' I.1 hsz h0
      rw [h0]
      exact this
    · have e : l.take n = [] := List.eq_nil_of_length_eq_zero (by rw [List.length_take]; omega)
      rw [e]
      simpa [splice] using hg
  · obtain ⟨rfl, hfit⟩ := hpos h0
    obtain ⟨g', o', c', rfl, _, _, hc⟩ := Mem.Rd.ints hr (by omega)
    have hlen : ((l.take n).map (Value.int k)).length = min l.length n := by simp; omega
    have hrun := run_copy_row (P := P) w ts ts ty T g off n c ⟨g', o', none⟩ l.length c' cs.toArray t ((l.take n).map (Value.int k)) I.1 hsz hg hlen (fun j u hu => by
      have hj := (List.getElem?_eq_some_iff.1 hu).1
      rw [hlen] at hj
      have hadd : (⟨g', o', none⟩ : Addr).add j = ⟨g', o' + j, none⟩ := by unfold Addr.add; split <;> simp_all
      rw [hadd, hc j (by omega)]
      rw [List.getElem?_map, List.getElem?_take_of_lt (by omega), List.getElem?_eq_getElem (by omega)] at hu
      rw [← hu]
      simp [List.getD, (by omega : j < l.length)]) (by rw [hlen]; simpa using hfit) (fun u hu => by
      obtain ⟨x, _, rfl⟩ := List.mem_map.1 hu
      rfl)
    rw [hlen] at hrun
    refine ⟨_, hrun, ?_, Only.setRow w _⟩
    show _ = _
    rw [setRow_heap w g _ _ t _ hg]
    simp only [splice, hlen, List.append_assoc]
theorem wp_copy {ts T : TypeId} {bytes : Nat} {o : Oper} {a : Act} {K : Act → World → Prop} {Q : Exit → Act → World → Prop} (I : Elem P ts T 1 bytes) (d s : Operand)
    (ho : o.op = .call { callee := .builtin .copy, args := #[d, s], argTypes := #[ts, ts] }) {dp : Option Addr} {n c g off : Nat} {v : Value} {t : TypeId} {cs : List Value} {l : List Int} {k : IntKind} {w : World}
    (hd : a.eval d = .slice dp n c) (hs : a.eval s = v) (hg : Blk w g t cs.toArray) (hr : Rd (intE k) w v l) (hpos : 0 < min l.length n → dp = some ⟨g, off, none⟩ ∧ off + min l.length n ≤ cs.length)
    (h : ∀ w', Blk w' g t (splice cs off ((l.take n).map (.int k))).toArray → Only g w w' → K (a.put o.dst (.int .i64 ((min l.length n : Nat) : Int))) w') : o.wp P a w K Q := by
  obtain ⟨w', hrun, h2, h3⟩ := run_copy_in (P := P) I o.type hg hr hpos
  unfold Oper.wp execOp
  simp only [ho, resolve, invoke, builtin, Sem.run_bind, Sem.run_pure, Result.andThen_ok, List.map_toArray, List.map_cons, List.map_nil, hd, hs]
  rw [hrun]
  exact h w' h2 h3
/-- an array that lies inside a block, read whole -/
theorem run_load_part {ty : TypeId} {n : Nat} {e : TypeId} (hu : P.underlying ty = some (.array n e)) (hi : (P.info? ty).map (·.size) = some n) {w : World} {g off : Nat} {l : List Value} (hl : l.length = n) (hc : ∀ j u, l[j]? = some u → w.cell? ⟨g, off + j, none⟩ = some u) :
    (loadVar ty ⟨g, off, none⟩).run P w = .ok (.agg l.toArray) w := by
  have hls := run_loadCells_list (P := P) w ⟨g, off, none⟩ l (fun j v hv => by
      have hadd : (⟨g, off, none⟩ : Addr).add j = ⟨g, off + j, none⟩ := by unfold Addr.add; split <;> simp_all
      rw [hadd]
      exact hc j v hv)
  cases hq : P.info? ty with
  | none => simp [hq] at hi
  | some i =>
    have hs : i.size = n := by simpa [hq] using hi
    have hagg : (isAgg ty).run P w = .ok true w := by
      unfold isAgg
      rw [Sem.run_bind, run_underlying hu w]
      rfl
    rw [hl] at hls
    simp [loadVar, Sem.run_bind, hagg, sizeOf, typeInfo, hq, hs, hls]
theorem exec_load_part {o : Oper} {a : Act} {ty : TypeId} {x : Operand} (ho : o.op = .load ty x) {n : Nat} {e : TypeId} (hu : P.underlying ty = some (.array n e)) (hi : (P.info? ty).map (·.size) = some n) {w : World} {g off : Nat} {l : List Value} (hl : l.length = n)
    (hx : a.eval x = .pointer (some ⟨g, off, none⟩)) (hc : ∀ j u, l[j]? = some u → w.cell? ⟨g, off + j, none⟩ = some u) :
    (execOp a.eval o).run P w = .ok (.value (.agg l.toArray)) w := by
  unfold execOp
  simp only [ho, hx, Instr.loadAt, Instr.sureAddr, Sem.run_bind, Sem.run_pure, Result.andThen_ok, run_load_part hu hi hl hc]
/-- cells laid over cells -/
theorem fold_set (l : List Value) : ∀ (off : Nat) (z : Array Value), off + l.length ≤ z.size → (l.toArray.zipIdx.foldl (fun cs (p : Value × Nat) => cs.setIfInBounds (off + p.2) p.1) z) = (splice z.toList off l).toArray := by
  have key : ∀ (l : List Value) (off k : Nat) (z : Array Value), off + k + l.length ≤ z.size → ((l.zipIdx k).foldl (fun cs (p : Value × Nat) => cs.setIfInBounds (off + p.2) p.1) z) = (splice z.toList (off + k) l).toArray := by
    intro l
    induction l with
    | nil => intro off k z _; simp [splice]
    | cons x l ih =>
      intro off k z h
      simp only [List.length_cons] at h
      rw [List.zipIdx_cons, List.foldl_cons, ih off (k + 1) _ (by simp; omega)]
      congr 1
      simp only [splice, Array.toList_setIfInBounds, List.length_cons]
      have hk : off + k < z.toList.length := by simp; omega
      rw [show off + (k + 1) = (off + k) + 1 by omega, List.take_add_one]
      rw [List.take_set_of_le (Nat.le_refl _)]
      rw [List.getElem?_set_self hk]
      rw [List.drop_set_of_lt (by omega)]
      simp only [Option.toList_some, List.append_assoc, List.cons_append, List.nil_append]
      rw [show off + k + 1 + l.length = off + k + (l.length + 1) by omega]
  intro off z h
  have := key l off 0 z (by simpa using h)
  rw [Nat.add_zero] at this
  rw [← this, ← Array.foldl_toList]
  simp
end
theorem Rd.only0 {α : Type} {E : Enc α} {w w' : World} {v : Value} {l : List α} {b : Nat} (h : Rd E w v l) (k : Only b w w') (hne : 0 < l.length → v.ownBlock ≠ some b) : Rd E w' v l := by
  rcases Nat.eq_zero_or_pos l.length with h0 | h0
  · obtain ⟨a, c, hv, h1, h2, _⟩ := h
    exact ⟨a, c, hv, h1, h2, fun hl => absurd hl (by omega)⟩
  · exact h.only k (hne h0)
theorem Rd.old {k : IntKind} {w : World} {v : Value} {l : List Int} (h : Rd (intE k) w v l) (hl : 0 < l.length) {j : Nat} (hj : v.ownBlock = some j) : j < w.heap.size := by
  obtain ⟨g, off, c, rfl, _, _, hc⟩ := Mem.Rd.ints h hl
  have e : some g = some j := hj
  injection e with e
  subst e
  exact World.block_lt_of_cell? w _ (hc 0 hl)
theorem run_fill_one (n : Nat) (Z C : Array Value) (hZ : Z.size = n) (hC : C.size = n) : Instr.fill (fun i => some (i * n, n)) Z [(0, .agg C)] = some C := by
  have h := fold_set C.toList 0 Z (by simp [hC, hZ])
  have e : splice Z.toList 0 C.toList = C.toList := by
    simp [splice, hC, hZ]
  rw [e] at h
  have hz : C.toList.toArray.zipIdx = C.zipIdx := by simp
  rw [hz] at h
  have h0 : (0 * n) = 0 := Nat.zero_mul n
  have hc : (Value.agg C).cells = C := rfl
  unfold Instr.fill
  simp only [hc, h0]
  split
  · rename_i h1; simp [hC, hZ] at h1
  · simpa [Instr.fill] using h
/-- a slice literal of one struct -/
theorem wp_build_one {P : Program} {t e : TypeId} {size bytes : Nat} (I : Elem P t e size bytes) (hpos : 0 < size) (hsm : size ≤ 1000) {o : Oper} {a : Act} {w : World} {K : Act → World → Prop} {Q : Exit → Act → World → Prop} (x : Operand) (ho : o.op = .buildSlice t 1 #[(0, x)])
    {C : Array Value} (hx : a.eval x = .agg C) (hC : C.size = size) (h : K (a.put o.dst (.slice (some ⟨w.heap.size, 0, none⟩) 1 1)) (w.alloc (.cells C e))) : o.wp P a w K Q := by
  obtain ⟨hu, i, z, hi, hz, hs, _, hzs⟩ := I
  refine wp_buildSlice t e 1 _ ho C i z hu hi hz (by omega) (by omega) ?_ h
  have e1 : (#[(0, x)].map fun (i, x) => (i, a.eval x)).toList = [(0, Value.agg C)] := by simp [hx]
  rw [e1, hs]
  exact run_fill_one size _ _ (by simp) hC
theorem wpList_build_one {P : Program} {t e : TypeId} {size bytes : Nat} (I : Elem P t e size bytes) (hpos : 0 < size) (hsm : size ≤ 1000) {ops : Array Oper} {rest : List Oper} {o : Oper} {a : Act} {w : World} {Q : Exit → Act → World → Prop} (hgd : o.guard = none) (x : Operand) (ho : o.op = .buildSlice t 1 #[(0, x)])
    {C : Array Value} (hx : a.eval x = .agg C) (hC : C.size = size) (h : wpList P ops Q rest (a.put o.dst (.slice (some ⟨w.heap.size, 0, none⟩) 1 1)) (w.alloc (.cells C e))) : wpList P ops Q (o :: rest) a w :=
  wpList_plain hgd fun _ hK => wp_build_one I hpos hsm x ho hx hC (hK _ _ h)
end Mem
end Go.Proofs.Ytgkmkpkbdmciiaa
