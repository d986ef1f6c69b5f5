/- A slice literal of three structs, at once. -/
import Derived.Test.YtgkmkpkbdmciiaaBytes
import Derived.Test.YtgkmkpkbdmciiaaRun
set_option maxRecDepth 4000
namespace Go.Proofs.Ytgkmkpkbdmciiaa.Mem
open Go.RowKit
set_option linter.unusedSimpArgs false
set_option linter.unusedVariables false
theorem splice_end (A Z D : List Value) (p : Nat) (hp : A.length = p) : splice (A ++ Z) p D = A ++ (D ++ Z.drop D.length) := by
  unfold splice
  subst hp
  rw [List.take_left' rfl, List.drop_append, List.drop_of_length_le (l := A) (by omega), List.nil_append, show A.length + D.length - A.length = D.length by omega]
theorem run_fill_three (n : Nat) (Z : Array Value) (C D E : List Value) (hZ : Z.size = 3 * n) (hC : C.length = n) (hD : D.length = n) (hE : E.length = n) : Instr.fill (fun i => some (i * n, n)) Z [(0, .agg C.toArray), (1, .agg D.toArray), (2, .agg E.toArray)] = some (C ++ D ++ E).toArray := by
  have hz : Z.toList.length = 3 * n := by simpa using hZ
  have e1 := fold_set C 0 Z (by omega)
  have s1 : splice Z.toList 0 C = C ++ Z.toList.drop n := by simp [splice, hC]
  rw [s1] at e1
  have e2 := fold_set D n (C ++ Z.toList.drop n).toArray (by simp [hC, hD]; omega)
  have s2 : splice (C ++ Z.toList.drop n) n D = C ++ (D ++ Z.toList.drop (2 * n)) := by
    rw [splice_end _ _ _ _ hC, List.drop_drop, hD, show n + n = 2 * n by omega]
  rw [show ((C ++ Z.toList.drop n).toArray).toList = C ++ Z.toList.drop n from rfl, s2, ← List.append_assoc] at e2
  have e3 := fold_set E (2 * n) (C ++ D ++ Z.toList.drop (2 * n)).toArray (by simp [hC, hD, hE]; omega)
  have s3 : splice (C ++ D ++ Z.toList.drop (2 * n)) (2 * n) E = C ++ D ++ E := by
    rw [splice_end _ _ _ _ (by simp [hC, hD]; omega), List.drop_drop, hE, List.drop_of_length_le (by omega), List.append_nil]
  rw [show ((C ++ D ++ Z.toList.drop (2 * n)).toArray).toList = C ++ D ++ Z.toList.drop (2 * n) from rfl, s3] at e3
  have c1 : (Value.agg C.toArray).cells = C.toArray := rfl
  have c2 : (Value.agg D.toArray).cells = D.toArray := rfl
  have c3 : (Value.agg E.toArray).cells = E.toArray := rfl
  simp only [Instr.fill, c1, c2, c3, Nat.zero_mul, Nat.one_mul, hC, hD, hE, List.size_toArray]
  rw [e1, e2, e3, if_neg (by simp; omega), if_neg (by simp; omega), if_neg (by simp; omega)]
def isBuild3 (k : Nat) : Op → Bool
  | .buildSlice _ 3 ps => match ps.toList with
    | (0, .tmp n) :: _ => n == k
    | _ => false
  | _ => false
theorem at_build3 (k : Nat) {P : Program} {ops : Array Oper} {Q : Exit → Act → World → Prop} {rest : List Oper} {a : Act} {w : World} {o : Oper} (_ : isBuild3 k o.op = true) (h : wpList P ops Q (o :: rest) a w) : wpList P ops Q (o :: rest) a w := h
theorem wp_build_three {P : Program} {t e : TypeId} {size bytes : Nat} (I : Elem P t e size bytes) (hpos : 0 < size) (hsm : size ≤ 1000) {o : Oper} {a : Act} {w : World} {K : Act → World → Prop} {Q : Exit → Act → World → Prop} (x y u : Operand) (ho : o.op = .buildSlice t 3 #[(0, x), (1, y), (2, u)])
    {C D E : List Value} (hx : a.eval x = .agg C.toArray) (hy : a.eval y = .agg D.toArray) (hu' : a.eval u = .agg E.toArray) (hC : C.length = size) (hD : D.length = size) (hE : E.length = size) (h : K (a.put o.dst (.slice (some ⟨w.heap.size, 0, none⟩) 3 3)) (w.alloc (.cells (C ++ D ++ E).toArray e))) : o.wp P a w K Q := by
  obtain ⟨hu, i, z, hi, hz, hs, _, hzs⟩ := I
  refine wp_buildSlice t e 3 _ ho (C ++ D ++ E).toArray i z hu hi hz (by omega) (by omega) ?_ h
  have e1 : (#[(0, x), (1, y), (2, u)].map fun (i, x) => (i, a.eval x)).toList = [(0, Value.agg C.toArray), (1, Value.agg D.toArray), (2, Value.agg E.toArray)] := by simp [hx, hy, hu']
  rw [e1, hs]
  exact run_fill_three size _ _ _ _ (by simp) hC hD hE
theorem wpList_build_three {P : Program} {t e : TypeId} {size bytes : Nat} (I : Elem P t e size bytes) (hpos : 0 < size) (hsm : size ≤ 1000) {ops : Array Oper} {rest : List Oper} {o : Oper} {a : Act} {w : World} {Q : Exit → Act → World → Prop} (hgd : o.guard = none) (x y u : Operand) (ho : o.op = .buildSlice t 3 #[(0, x), (1, y), (2, u)])
    (C D E : List Value) (cs : Array Value) (hcs : cs = (C ++ D ++ E).toArray) (hx : a.eval x = .agg C.toArray) (hy : a.eval y = .agg D.toArray) (hu' : a.eval u = .agg E.toArray) (hC : C.length = size) (hD : D.length = size) (hE : E.length = size) (h : wpList P ops Q rest (a.put o.dst (.slice (some ⟨w.heap.size, 0, none⟩) 3 3)) (w.alloc (.cells cs e))) : wpList P ops Q (o :: rest) a w :=
  wpList_plain hgd fun _ hK => wp_build_three I hpos hsm x y u ho hx hy hu' hC hD hE (hcs ▸ hK _ _ h)
end Go.Proofs.Ytgkmkpkbdmciiaa.Mem
