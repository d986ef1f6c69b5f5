/- Package octet, the writer: its state in memory; add. -/
import Derived.Test.YthdcgobdcdfefaaRefOctet
import Derived.Test.YthdcgobdcdfefaaOctRefPlans
import Derived.Test.YthdcgobdcdfefaaRun
import Derived.Laws.BitsAllLaws
import Derived.Test.YthdcgobdcdfefaaBytes
set_option maxRecDepth 4000
namespace Go.Proofs.Ythdcgobdcdfefaa
open Go.RowKit Mem
set_option linter.unusedSimpArgs false
set_option linter.unusedVariables false
attribute [local irreducible] Go.Calls

/-- the cells of a writer, of a chunk -/
def wcs (c : Value) (p : List Int) (n : Int) : List Value := c :: (p.map (Value.int .u8) ++ [.int .i64 n])
def ccs (c : Value) (p : List Int) : List Value := c :: p.map (Value.int .u8)
theorem wcs_len {c : Value} {p : List Int} {n : Int} (hp : p.length = 64) : (wcs c p n).length = 66 := by simp [wcs, hp]
theorem wcs_full (c : Value) (p : List Int) (n : Int) : (wcs c p n).toArray[0]? = some c := by simp [wcs]
theorem wcs_size {c : Value} {p : List Int} {n : Int} (hp : p.length = 64) : (wcs c p n).toArray[65]? = some (.int .i64 n) := by
  simp only [wcs, List.getElem?_toArray, List.getElem?_cons_succ]
  rw [List.getElem?_append_right (by simp; omega)]
  simp [hp]
theorem wcs_part {c : Value} {p : List Int} {n : Int} {j : Nat} {u : Value} (h : (p.map (Value.int .u8))[j]? = some u) : (wcs c p n).toArray[1 + j]? = some u := by
  have hj := (List.getElem?_eq_some_iff.1 h).1
  simp only [wcs, List.getElem?_toArray, Nat.add_comm 1 j, List.getElem?_cons_succ]
  rw [List.getElem?_append_left hj, h]
theorem ccs_part {c : Value} {p : List Int} {j : Nat} {u : Value} (h : (p.map (Value.int .u8))[j]? = some u) : (ccs c p).toArray[1 + j]? = some u := by
  simp only [ccs, List.getElem?_toArray, Nat.add_comm 1 j, List.getElem?_cons_succ, h]
theorem wcs_splice {c : Value} {p : List Int} {n : Int} (hp : p.length = 64) {k : Nat} {x : List Int} (h : k + x.length ≤ 64) : splice (wcs c p n) (1 + k) (x.map (Value.int .u8)) = wcs c (splice p k x) n := by
  have e1 : 1 + k = k + 1 := by omega
  have e2 : k + 1 + x.length = k + x.length + 1 := by omega
  simp only [splice, wcs, e1, List.take_succ_cons, List.length_map, e2, List.drop_succ_cons, List.map_append, List.map_take, List.map_drop]
  rw [List.take_append_of_le_length (by simp; omega), List.drop_append_of_le_length (by simp; omega)]
  simp
theorem wcs_setn {c : Value} {p : List Int} {n m : Int} (hp : p.length = 64) : (wcs c p n).toArray.setIfInBounds 65 (.int .i64 m) = (wcs c p m).toArray := by
  simp only [wcs, List.setIfInBounds_toArray, List.set_cons_succ]
  rw [List.set_append_right _ _ (by simp; omega)]
  simp [hp]
theorem wcs_setc {c c' : Value} {p : List Int} {n : Int} : (wcs c p n).toArray.setIfInBounds 0 c' = (wcs c' p n).toArray := by
  simp [wcs]
theorem splice_len {x y : List Int} {k : Nat} (h : k + y.length ≤ x.length) : (splice x k y).length = x.length := length_splice x k y h

theorem run_sizeOf_of {t : TypeId} {n : Nat} (h : (Try.prog.info? t).map (·.size) = some n) (w : World) : (sizeOf t).run Try.prog w = .ok n w := by
  cases hq : Try.prog.info? t with
  | none => simp [hq] at h
  | some i => simp [hq] at h; simp [sizeOf, typeInfo, hq, h]
theorem run_zero_of {t : TypeId} {v : Value} {n : Nat} (h : (Try.prog.info? t).map (fun i => (i.zero, i.size)) = some (some v, n)) (w : World) : (zeroValue t).run Try.prog w = .ok v w := by
  cases hq : Try.prog.info? t with
  | none => simp [hq] at h
  | some i => simp [hq] at h; simp [zeroValue, typeInfo, hq, h.1]
end Go.Proofs.Ythdcgobdcdfefaa
/- Package octet, the writer: add. -/
namespace Go.Proofs.Ythdcgobdcdfefaa
open Go.RowKit Mem
set_option linter.unusedSimpArgs false
set_option linter.unusedVariables false
attribute [local irreducible] Go.Calls

def slen : Value → Nat | .slice _ n _ => n | _ => 0
theorem add_step {x l y : List Int} {m : Nat} (hy : y = x.drop m) (n : Nat) : (l ++ x.take m) ++ y.take n = l ++ x.take (m + n) := by
  subst hy
  rw [List.append_assoc, List.take_add]
/-- some more, that does not fill the chunk -/
theorem wr_more {l y p : List Int} {ps : List (List Int)} (hp : p.length = 64) (hl : l = ps.reverse.flatten ++ p.take (l.length % 64)) (hps : ps.length = l.length / 64) (hn : l.length % 64 + y.length < 64) :
    l ++ y = ps.reverse.flatten ++ (splice p (l.length % 64) y).take ((l ++ y).length % 64) ∧ ps.length = (l ++ y).length / 64 := by
  have e1 : (l ++ y).length % 64 = l.length % 64 + y.length := by rw [List.length_append]; omega
  have e2 : (l ++ y).length / 64 = l.length / 64 := by rw [List.length_append]; omega
  rw [e1, e2]
  refine ⟨?_, hps⟩
  have e3 : (splice p (l.length % 64) y).take (l.length % 64 + y.length) = p.take (l.length % 64) ++ y := by
    unfold splice
    rw [← List.append_assoc, List.take_append_of_le_length (by simp; omega), List.take_of_length_le (by simp; omega)]
  rw [e3, ← List.append_assoc, ← hl]
/-- .. that fills it -/
theorem wr_full {l y p : List Int} {ps : List (List Int)} (hp : p.length = 64) (hl : l = ps.reverse.flatten ++ p.take (l.length % 64)) (hps : ps.length = l.length / 64) (hn : l.length % 64 + y.length = 64) (q : List Int) :
    l ++ y = (splice p (l.length % 64) y :: ps).reverse.flatten ++ q.take ((l ++ y).length % 64) ∧ (splice p (l.length % 64) y :: ps).length = (l ++ y).length / 64 := by
  have e1 : (l ++ y).length % 64 = 0 := by rw [List.length_append]; omega
  have e2 : (l ++ y).length / 64 = l.length / 64 + 1 := by rw [List.length_append]; omega
  rw [e1, e2]
  refine ⟨?_, by simp [hps]⟩
  have e3 : splice p (l.length % 64) y = p.take (l.length % 64) ++ y := by
    unfold splice
    rw [hn, List.drop_of_length_le (by omega), List.append_nil]
  rw [e3, List.take_zero, List.append_nil, List.reverse_cons, List.flatten_append]
  simp only [List.flatten_cons, List.flatten_nil, List.append_nil]
  rw [← List.append_assoc, ← hl]

end Go.Proofs.Ythdcgobdcdfefaa
/- Package octet, the writer: width, Put, Text. -/
namespace Go.Proofs.Ythdcgobdcdfefaa
open Go.RowKit Mem
set_option linter.unusedSimpArgs false
set_option linter.unusedVariables false
attribute [local irreducible] Go.Calls

/-- the cells of the eight bytes, j of which are laid -/
def eights (x : Int) (j : Nat) : List Value := ((be 8 x).take j ++ List.replicate (8 - j) 0).map (Value.int .u8)
theorem eights_set (x : Int) {j t : Nat} (h : j + t = 7) : (eights x j).toArray.setIfInBounds j (.int .u8 (x / 2 ^ (8 * t) % 256)) = (eights x (j + 1)).toArray := by
  have ht := be_take x 8 t (by omega)
  rw [show 8 - t = j + 1 by omega, show 8 - (t + 1) = j by omega] at ht
  unfold eights
  rw [ht, List.setIfInBounds_toArray]
  have hl : ((be 8 x).take j).length = j := by rw [List.length_take, be_len]; omega
  rw [List.map_append, List.set_append_right _ _ (by rw [List.length_map, hl]; exact Nat.le_refl _)]
  simp only [List.length_map, hl, Nat.sub_self]
  rw [show 8 - j = (8 - (j + 1)) + 1 by omega, List.replicate_succ]
  simp
theorem eights_cell (x : Int) (g : Nat) {w : World} {t : TypeId} (h : Blk w g t (eights x 8).toArray) (k : Nat) (hk : k < 8) : Rd (intE .u8) w (.slice (some ⟨g, k, none⟩) (8 - k) (8 - k)) ((be 8 x).drop k) := by
  refine ⟨_, 8 - k, by rw [List.length_drop, be_len], by rw [List.length_drop, be_len]; exact Nat.le_refl _, by unfold maxLen; omega, fun _ => ⟨g, k, rfl, fun j u hu => ?_⟩⟩
  rw [h.cell (k + j)]
  have hfl : ∀ l : List Int, (intE .u8).flat l = l.map (Value.int .u8) := by
    intro l
    induction l with
    | nil => rfl
    | cons x l ih => rw [Enc.flat_cons, ih]; rfl
  rw [hfl, List.getElem?_map, List.getElem?_drop] at hu
  have he : eights x 8 = (be 8 x).map (Value.int .u8) := by unfold eights; rw [List.take_of_length_le (by rw [be_len]; omega)]; simp
  rw [he, List.getElem?_toArray, List.getElem?_map]
  exact hu
theorem be_drop (x : Int) : ∀ (k s : Nat), s ≤ k → (be k x).drop (k - s) = be s x := by
  intro k
  induction k with
  | zero => intro s h; have : s = 0 := by omega
            subst this; rfl
  | succ k ih =>
    intro s h
    rcases Nat.eq_or_lt_of_le h with rfl | h
    · rw [Nat.sub_self]; rfl
    · rw [show k + 1 - s = (k - s) + 1 by omega]
      simp only [be, List.drop_succ_cons]
      exact ih s (by omega)
def PutAll (R : World → Prop) (e : Ending) (w' : World) : Prop := (∃ u, e = .returned u) ∧ R w'
theorem PutAll.mono {R R' : World → Prop} {e : Ending} {w : World} (h : PutAll R e w) (k : R w → R' w) : PutAll R' e w := ⟨h.1, k h.2⟩
end Go.Proofs.Ythdcgobdcdfefaa
/- Package octet, the writer: Bytes. -/
namespace Go.Proofs.Ythdcgobdcdfefaa
open Go.RowKit Mem
set_option linter.unusedSimpArgs false
set_option linter.unusedVariables false
attribute [local irreducible] Go.Calls

theorem flat_u8 (l : List Int) : (intE .u8).flat l = l.map (Value.int .u8) := by
  induction l with
  | nil => rfl
  | cons x l ih => rw [Enc.flat_cons, ih]; rfl
/-- the first bytes of an array that lies in a block -/
theorem rd_part {w : World} {g : Nat} {t : TypeId} {cs : Array Value} {p : List Int} (h : Blk w g t cs) (hc : ∀ j u, (p.map (Value.int .u8))[j]? = some u → cs[1 + j]? = some u) (hp : p.length = 64) {m : Nat} (hm : m ≤ 64) : Rd (intE .u8) w (.slice (some ⟨g, 1, none⟩) m 64) (p.take m) := by
  have hl : (p.take m).length = m := by rw [List.length_take]; omega
  refine ⟨_, 64, by rw [hl], by rw [hl]; exact hm, by unfold maxLen; omega, fun _ => ⟨g, 1, rfl, fun j u hu => ?_⟩⟩
  rw [h.cell (1 + j)]
  apply hc
  rw [flat_u8, List.map_take, List.getElem?_take] at hu
  split at hu
  · exact hu
  · cases hu
theorem splice_map (x y : List Int) (k : Nat) : splice (x.map (Value.int .u8)) k (y.map (Value.int .u8)) = (splice x k y).map (Value.int .u8) := by
  simp [splice, List.map_take, List.map_drop]
theorem row_whole {w : World} {g B : Nat} {l : List Int} (h : Blk w g 5 (l.map (Value.int .u8)).toArray) (hB : B ≤ g) (hm : l.length ≤ maxLen) : Row (intE .u8) 5 B w (.slice (some ⟨g, 0, none⟩) l.length l.length) l := by
  refine ⟨by rw [flat_u8]; simp [intE], .inr ⟨g, l.length, _, rfl, hB, h, Nat.le_refl _, hm, by simp [intE], ?_⟩⟩
  rw [flat_u8]
  exact List.take_of_length_le (by simp [intE])
theorem made_list (n : Nat) : madeCells #[Value.int .u8 0] n = ((List.replicate n (0 : Int)).map (Value.int .u8)).toArray := by
  rw [List.map_replicate]
  apply Array.ext'
  simp only [madeCells, Array.toList_map, Array.toList_range]
  rw [List.eq_replicate_iff]
  refine ⟨by simp, fun x hx => ?_⟩
  obtain ⟨i, _, rfl⟩ := List.mem_map.1 hx
  simp [Nat.mod_one]
end Go.Proofs.Ythdcgobdcdfefaa
/- A new writer of package octet. -/
namespace Go.Proofs.Ythdcgobdcdfefaa
open Go.RowKit Mem
attribute [local irreducible] Go.Calls

/-- the cells of a new writer -/
def wnew : List Value := wcs (.pointer none) (List.replicate 64 0) 0
end Go.Proofs.Ythdcgobdcdfefaa
