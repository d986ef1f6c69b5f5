/- Package octet, the writer: its state in memory; add. -/
import Derived.Test.YtkenldpmogogaaaRefOctet2
import Derived.Test.YtkenldpmogogaaaOctRefPlans
import Derived.Test.YtkenldpmogogaaaRun
import Derived.Laws.BitsAllLaws
import Derived.Test.YtkenldpmogogaaaPages
set_option maxRecDepth 4000
namespace Go.Proofs.Ytkenldpmogogaaa
open Go.RowKit Mem
set_option linter.unusedSimpArgs false
set_option linter.unusedVariables false
attribute [local irreducible] Go.Calls

/-- the cells of a writer, of a chunk -/
def wcs (c : Value) (p : List Int) (n : Int) : List Value := c :: (p.map (Value.int .u8) ++ [.int .i64 n])
def ccs (c : Value) (p : List Int) : List Value := c :: p.map (Value.int .u8)
theorem wcs_len {c : Value} {p : List Int} {n : Int} (hp : p.length = 64) : (wcs c p n).length = 66 := by simp [wcs, hp]
theorem wcs_full (c : Value) (p : List Int) (n : Int) : (wcs c p n).toArray[0]? = some c := by simp [wcs]
theorem wcs_size {c : Value} {p : List Int} {n : Int} (hp : p.length = 64) : (wcs c p n).toArray[65]? = some (.int .i64 n) := by
  simp only [wcs, List.getElem?_toArray, List.getElem?_cons_succ]
  rw [List.getElem?_append_right (by simp; omega)]
  simp [hp]
theorem wcs_part {c : Value} {p : List Int} {n : Int} {j : Nat} {u : Value} (h : (p.map (Value.int .u8))[j]? = some u) : (wcs c p n).toArray[1 + j]? = some u := by
  have hj := (List.getElem?_eq_some_iff.1 h).1
  simp only [wcs, List.getElem?_toArray, Nat.add_comm 1 j, List.getElem?_cons_succ]
  rw [List.getElem?_append_left hj, h]
theorem ccs_part {c : Value} {p : List Int} {j : Nat} {u : Value} (h : (p.map (Value.int .u8))[j]? = some u) : (ccs c p).toArray[1 + j]? = some u := by
  simp only [ccs, List.getElem?_toArray, Nat.add_comm 1 j, List.getElem?_cons_succ, h]
theorem wcs_splice {c : Value} {p : List Int} {n : Int} (hp : p.length = 64) {k : Nat} {x : List Int} (h : k + x.length ≤ 64) : splice (wcs c p n) (1 + k) (x.map (Value.int .u8)) = wcs c (splice p k x) n := by
  have e1 : 1 + k = k + 1 := by omega
  have e2 : k + 1 + x.length = k + x.length + 1 := by omega
  simp only [splice, wcs, e1, List.take_succ_cons, List.length_map, e2, List.drop_succ_cons, List.map_append, List.map_take, List.map_drop]
  rw [List.take_append_of_le_length (by simp; omega), List.drop_append_of_le_length (by simp; omega)]
  simp
theorem wcs_setn {c : Value} {p : List Int} {n m : Int} (hp : p.length = 64) : (wcs c p n).toArray.setIfInBounds 65 (.int .i64 m) = (wcs c p m).toArray := by
  simp only [wcs, List.setIfInBounds_toArray, List.set_cons_succ]
  rw [List.set_append_right _ _ (by simp; omega)]
  simp [hp]
theorem wcs_setc {c c' : Value} {p : List Int} {n : Int} : (wcs c p n).toArray.setIfInBounds 0 c' = (wcs c' p n).toArray := by
  simp [wcs]
theorem splice_len {x y : List Int} {k : Nat} (h : k + y.length ≤ x.length) : (splice x k y).length = x.length := length_splice x k y h

/-- full chunks, the last one first -/
def Chain (w : World) : Value → List (List Int) → Prop
  | v, [] => v = .pointer none
  | v, p :: ps => ∃ g c, v = .pointer (some ⟨g, 0, none⟩) ∧ Blk w g 89 (ccs c p).toArray ∧ p.length = 64 ∧ Chain w c ps
theorem Chain.keep {w w' : World} (k : Below w.heap.size w w') : ∀ {v : Value} {ps : List (List Int)}, Chain w v ps → Chain w' v ps
  | v, [], h => h
  | v, p :: ps, h => by
    obtain ⟨g, c, hv, hb, hp, hc⟩ := h
    exact ⟨g, c, hv, hb.keep k, hp, hc.keep k⟩
theorem Chain.only {b : Nat} {w w' : World} (k : Only b w w') {cs : Array Value} {t : TypeId} (hb : Blk w b t cs) (ht : t ≠ 89) : ∀ {v : Value} {ps : List (List Int)}, Chain w v ps → Chain w' v ps
  | v, [], h => h
  | v, p :: ps, h => by
    obtain ⟨g, c, hv, hg, hp, hc⟩ := h
    exact ⟨g, c, hv, hg.only k (Blk.ne hg hb (fun e => ht e.symm)), hp, Chain.only k hb ht hc⟩
theorem Chain.ptr {w : World} : ∀ {v : Value} {ps : List (List Int)}, Chain w v ps → ∃ o, v = .pointer o
  | v, [], h => ⟨_, h⟩
  | v, p :: ps, h => by obtain ⟨g, c, hv, _⟩ := h; exact ⟨_, hv⟩
/-- a writer of l, at block b -/
def WrAt (w : World) (b : Nat) (l : List Int) : Prop :=
  ∃ c ps p, Blk w b 58 (wcs c p l.length).toArray ∧ p.length = 64 ∧ Chain w c ps ∧ l = ps.reverse.flatten ++ p.take (l.length % 64) ∧ ps.length = l.length / 64
theorem WrAt.lt {w : World} {b : Nat} {l : List Int} (h : WrAt w b l) : b < w.heap.size := by
  obtain ⟨c, ps, p, hb, _⟩ := h
  exact hb.lt
theorem WrAt.keep {w w' : World} {b : Nat} {l : List Int} (h : WrAt w b l) (k : Below w.heap.size w w') : WrAt w' b l := by
  obtain ⟨c, ps, p, hb, hp, hc, h1, h2⟩ := h
  exact ⟨c, ps, p, hb.keep k, hp, hc.keep k, h1, h2⟩
/-- another block has turned -/
theorem WrAt.only {w w' : World} {b d : Nat} {l : List Int} (h : WrAt w b l) (k : Only d w w') (hne : b ≠ d) {t : TypeId} {cs : Array Value} (hd : Blk w d t cs) (ht : t ≠ 89) : WrAt w' b l := by
  obtain ⟨c, ps, p, hb, hp, hc, h1, h2⟩ := h
  exact ⟨c, ps, p, hb.only k hne, hp, hc.only k hd ht, h1, h2⟩

theorem WrAt.other {w w' : World} {b d : Nat} {l m : List Int} (h : WrAt w b l) (k : Only d w w') (hne : b ≠ d) (hd : WrAt w d m) : WrAt w' b l := by
  obtain ⟨c, ps, p, hb, _⟩ := hd
  exact h.only k hne hb (by decide)

theorem chunk_zero : (Try.prog.info? 89).map (fun i => (i.zero, i.size)) = some (some (.agg (Value.pointer none :: List.replicate 64 (Value.int .u8 0)).toArray), 65) := by kernel_rfl
theorem arr_size : (Try.prog.info? 56).map (·.size) = some 64 := by kernel_rfl
theorem run_sizeOf_of {t : TypeId} {n : Nat} (h : (Try.prog.info? t).map (·.size) = some n) (w : World) : (sizeOf t).run Try.prog w = .ok n w := by
  cases hq : Try.prog.info? t with
  | none => simp [hq] at h
  | some i => simp [hq] at h; simp [sizeOf, typeInfo, hq, h]
theorem run_zero_of {t : TypeId} {v : Value} {n : Nat} (h : (Try.prog.info? t).map (fun i => (i.zero, i.size)) = some (some v, n)) (w : World) : (zeroValue t).run Try.prog w = .ok v w := by
  cases hq : Try.prog.info? t with
  | none => simp [hq] at h
  | some i => simp [hq] at h; simp [zeroValue, typeInfo, hq, h.1]
theorem run_build_chunk (o : Option Addr) (p : List Int) (hp : p.length = 64) (w : World) :
    (Instr.build 89 #[(0, .pointer o), (1, .agg (p.map (Value.int .u8)).toArray)]).run Try.prog w = .ok (.agg (ccs (.pointer o) p).toArray) w := by
  have hz := run_zero_of chunk_zero
  have s1 : ∀ w, (sizeOf 55).run Try.prog w = .ok 1 w := run_sizeOf_of (by kernel_rfl)
  have s2 : ∀ w, (sizeOf 56).run Try.prog w = .ok 64 w := run_sizeOf_of arr_size
  have hf := fold_set (p.map (Value.int .u8)) 1 (Value.pointer o :: List.replicate 64 (Value.int .u8 0)).toArray (by simp [hp])
  have he : splice (Value.pointer o :: List.replicate 64 (Value.int .u8 0)).toArray.toList 1 (p.map (Value.int .u8)) = ccs (.pointer o) p := by
    simp [splice, ccs, hp]
  rw [he] at hf
  unfold Instr.build
  simp only [Sem.run_bind, hz, Result.andThen_ok, run_underlying Try.underlying89]
  have hm : (Array.mapM (fun f : Field => do
              let n ← sizeOf f.type
              pure (f.offset, n))
            #[({ name := "before", type := 55, offset := 0, embedded := false, tag := "", pkgPath := "petasos/octet", byteOffset := 0 } : Field),
              { name := "text", type := 56, offset := 1, embedded := false, tag := "", pkgPath := "petasos/octet", byteOffset := 8 }]).run Try.prog w = .ok #[(0, 1), (1, 64)] w := by kernel_rfl
  rw [hm]
  have hfill : Instr.fill (fun x => (#[(0, 1), (1, 64)] : Array (Nat × Nat))[x]?)
            (Value.agg (Value.pointer none :: List.replicate 64 (Value.int IntKind.u8 0)).toArray).cells
            [(0, Value.pointer o), (1, Value.agg (List.map (Value.int IntKind.u8) p).toArray)] = some (ccs (.pointer o) p).toArray := by
    simp only [Instr.fill, Value.cells]
    have e1 : (#[(0, 1), (1, 64)] : Array (Nat × Nat))[0]? = some (0, 1) := rfl
    have e2 : (#[(0, 1), (1, 64)] : Array (Nat × Nat))[1]? = some (1, 64) := rfl
    have e3 : (Array.foldl (fun cs (q : Value × Nat) => cs.setIfInBounds (0 + q.2) q.1) (Value.pointer none :: List.replicate 64 (Value.int IntKind.u8 0)).toArray (#[Value.pointer o].zipIdx)) = (Value.pointer o :: List.replicate 64 (Value.int .u8 0)).toArray := by simp
    rw [e1, e2]
    simp only []
    refine (if_neg (by simp)).trans ((if_neg (by simp [hp])).trans ?_)
    show some (Array.foldl (fun cs (q : Value × Nat) => cs.setIfInBounds (1 + q.2) q.1) (Array.foldl (fun cs (q : Value × Nat) => cs.setIfInBounds (0 + q.2) q.1) (Value.pointer none :: List.replicate 64 (Value.int IntKind.u8 0)).toArray (#[Value.pointer o].zipIdx)) (List.map (Value.int IntKind.u8) p).toArray.zipIdx) = _
    rw [e3, hf]
  simp only [Result.andThen_ok, hfill, Sem.run_pure]
theorem exec_build_chunk {o : Oper} {a : Act} {x y : Operand} (ho : o.op = .build 89 #[(0, x), (1, y)]) {oc : Option Addr} {p : List Int} (hp : p.length = 64) (hx : a.eval x = .pointer oc) (hy : a.eval y = .agg (p.map (Value.int .u8)).toArray) (w : World) :
    (execOp a.eval o).run Try.prog w = .ok (.value (.agg (ccs (.pointer oc) p).toArray)) w := by
  unfold execOp
  have := run_build_chunk oc p hp w
  simp only [ho, List.map_toArray, List.map_cons, List.map_nil, hx, hy, Sem.run_bind, this, Result.andThen_ok, Sem.run_pure]
end Go.Proofs.Ytkenldpmogogaaa
