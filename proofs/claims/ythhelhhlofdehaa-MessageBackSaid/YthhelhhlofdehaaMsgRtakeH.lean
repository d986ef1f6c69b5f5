/- The document's answer for package message: Take: what its texts share; attrs that may not be, and bytes that are too few. -/
import Derived.Test.YthhelhhlofdehaaMsgRreadr
import Derived.Test.YthhelhhlofdehaaMsgTake
set_option maxRecDepth 4000
namespace Go.Proofs.Ythhelhhlofdehaa
open Go.RowKit Mem
set_option linter.unusedSimpArgs false
set_option linter.unusedVariables false
attribute [local irreducible] Go.Calls

/-- guards of arms: they fail at once where another operation stands -/
def isLoad (k : Nat) : Op → Bool
  | .load _ (.tmp n) => n == k
  | _ => false
def isStore (k : Nat) : Op → Bool
  | .store _ (.tmp n) _ => n == k
  | _ => false
theorem at_store (k : Nat) {P : Program} {ops : Array Oper} {Q : Exit → Act → World → Prop} {rest : List Oper} {a : Act} {w : World} {o : Oper} (hk : isStore k o.op = true) (h : wpList P ops Q (o :: rest) a w) : wpList P ops Q (o :: rest) a w := h
theorem at_load (k : Nat) {P : Program} {ops : Array Oper} {Q : Exit → Act → World → Prop} {rest : List Oper} {a : Act} {w : World} {o : Oper} (hk : isLoad k o.op = true) (h : wpList P ops Q (o :: rest) a w) : wpList P ops Q (o :: rest) a w := h
theorem RdrQ.mv2 {w z z' : World} {b : Nat} {v : Value} {l : List Int} {q : Nat} (h : RdrQ z b v l q) (h0 : Rd (intE .u8) w v l) (hk : Below w.heap.size w z') (hb : ∀ cs, Blk z b 80 cs → Blk z' b 80 cs) : RdrQ z' b v l q := by
  obtain ⟨p, e, ⟨h1, h2, h3, h4⟩, h5⟩ := h
  exact ⟨p, e, ⟨hb _ h1, h0.keep hk, h3, h4⟩, h5⟩
theorem rd_ne {k : IntKind} {w : World} {v : Value} {l : List Int} (h : Rd (intE k) w v l) : 0 < l.length → v.ownBlock ≠ some w.heap.size := by
  intro hl e
  obtain ⟨a, g, off, c, rfl, h1, h2, h3, h4⟩ := Mem.Rd.loopI h
  obtain ⟨rfl, h5⟩ := h3 hl
  have e : some g = some w.heap.size := e
  injection e with e
  omega
theorem bytesD_any (v1 v2 : Value) (l1 l2 : List Int) (w : World) (h1 : Rd (intE .u8) w v1 l1) (h2 : Rd (intE .u8) w v2 l2) (b1 : Byt l1) (b2 : Byt l2) :
    Calls Try.prog 18 #[v1, v2] w fun e w' => e = .returned (.bool (decide (l1 = l2))) ∧ Below w.heap.size w w' := by
  have e : ((strOfNums l1).toList == (strOfNums l2).toList) = decide (l1 = l2) := by
    by_cases hl : l1 = l2
    · rw [decide_eq_true hl, hl]; simp
    · rw [decide_eq_false hl]
      cases hq : ((strOfNums l1).toList == (strOfNums l2).toList) with
      | false => rfl
      | true => exact absurd (bytes_inj b1 b2 hq) hl
  rw [← e]
  exact bytes_any v1 v2 l1 l2 w h1 h2
/-- what Take tells of bytes of kind K -/
def takeK (K : Int) (a : Nat) (l : List Int) : Msg × Int :=
  if l.length < lenQ a l K then (zeroM, 3) else if rightM a (msgQ a l) = true ∧ packM (msgQ a l) = l then (msgQ a l, 0) else (zeroM, 4)
theorem takeK_short {K : Int} {a : Nat} {l : List Int} (h : l.length < lenQ a l K) : takeK K a l = (zeroM, 3) := by unfold takeK; rw [if_pos h]
theorem takeK_bad {K : Int} {a : Nat} {l : List Int} (h : lenQ a l K ≤ l.length) (h2 : ¬ (rightM a (msgQ a l) = true ∧ packM (msgQ a l) = l)) : takeK K a l = (zeroM, 4) := by unfold takeK; rw [if_neg (by omega), if_neg h2]
theorem takeK_good {K : Int} {a : Nat} {l : List Int} (h : lenQ a l K ≤ l.length) (h2 : rightM a (msgQ a l) = true ∧ packM (msgQ a l) = l) : takeK K a l = (msgQ a l, 0) := by unfold takeK; rw [if_neg (by omega), if_pos h2]
end Go.Proofs.Ythhelhhlofdehaa
