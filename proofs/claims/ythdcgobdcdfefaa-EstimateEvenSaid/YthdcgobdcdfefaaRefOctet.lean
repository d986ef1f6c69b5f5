/- The document's answers for package octet (petasosref03): size, Put. -/
import Derived.Test.YthdcgobdcdfefaaBytes
import Derived.Test.YthdcgobdcdfefaaOctRefPlans
import Derived.Test.YthdcgobdcdfefaaRun
import Derived.Laws.BitsAllLaws
set_option maxRecDepth 4000
namespace Go.Proofs.Ythdcgobdcdfefaa
open Go.RowKit Mem
set_option linter.unusedSimpArgs false
set_option linter.unusedVariables false
attribute [local irreducible] Go.Calls

/-- how many bytes a number has -/
def szN (n : Int) : Nat := if n < 1 then 1 else if 8 < n then 8 else n.toNat
theorem szN_bd (n : Int) : 1 ≤ szN n ∧ szN n ≤ 8 := by unfold szN; split <;> (try split) <;> omega
/-- the bytes of v's lowest 8 k bits, the highest first -/
def be : Nat → Int → List Int
  | 0, _ => []
  | k + 1, v => (v / 2 ^ (8 * k)) % 256 :: be k v
theorem be_len (k : Nat) (v : Int) : (be k v).length = k := by
  induction k with
  | zero => rfl
  | succ k ih => simp [be, ih]
theorem be_take (v : Int) : ∀ (k j : Nat), j < k → (be k v).take (k - j) = (be k v).take (k - (j + 1)) ++ [(v / 2 ^ (8 * j)) % 256] := by
  intro k
  induction k with
  | zero => intro j h; omega
  | succ k ih =>
    intro j h
    rcases Nat.eq_or_lt_of_le (Nat.lt_succ_iff.1 h) with he | he
    · subst he
      rw [Nat.sub_self, show j + 1 - j = 1 by omega]
      simp [be]
    · rw [show k + 1 - j = (k - j) + 1 by omega, show k + 1 - (j + 1) = (k - (j + 1)) + 1 by omega]
      simp only [be, List.take_succ_cons, List.cons_append]
      rw [ih j he]

def PutPost (w : World) (l : List Int) (e : Ending) (w' : World) : Prop := ∃ v, e = .returned v ∧ Row (intE .u8) 5 w.heap.size w' v l ∧ Below w.heap.size w w'
end Go.Proofs.Ythdcgobdcdfefaa
/- The document's answers for package octet (petasosref03): Text, and the reader. -/
namespace Go.Proofs.Ythdcgobdcdfefaa
open Go.RowKit Mem
set_option linter.unusedSimpArgs false
set_option linter.unusedVariables false
attribute [local irreducible] Go.Calls

theorem sz2 : szN 2 = 2 := by decide
/-- what Text writes of a text of at most 65,535 bytes -/
def txt (l : List Int) : List Int := be 2 l.length ++ l
theorem cut_ne {a : Option Addr} {c p n n' c' b : Nat} (h : (Value.slice a n c).ownBlock ≠ some b) : (Value.slice (cutA a c p 1) n' c').ownBlock ≠ some b := by
  unfold cutA
  rcases a with _ | ad
  · split <;> exact h
  · split
    · exact h
    · intro e
      apply h
      rw [← e]
      simp only [Option.map_some, Addr.add]
      split <;> rfl
end Go.Proofs.Ythdcgobdcdfefaa
/- The reader of petasosref03: take. -/
namespace Go.Proofs.Ythdcgobdcdfefaa
open Go.RowKit Mem
set_option linter.unusedSimpArgs false
set_option linter.unusedVariables false
attribute [local irreducible] Go.Calls

theorem Mem.Rd.only0' {α : Type} {E : Enc α} {w w' : World} {v : Value} {l : List α} {b : Nat} (h : Rd E w v l) (k : Only b w w') (hne : 0 < l.length → v.ownBlock ≠ some b) : Rd E w' v l := by
  rcases Nat.eq_zero_or_pos l.length with h0 | h0
  · obtain ⟨a, c, hv, h1, h2, _⟩ := h
    exact ⟨a, c, hv, h1, h2, fun hl => absurd hl (by omega)⟩
  · exact h.only k (hne h0)
/-- so many bytes: where it stands then, what is wrong then, the bytes -/
def tk (l : List Int) (p : Nat) (e : Int) (n : Nat) : Nat × Int × List Int :=
  if e = 0 then (if l.length - p < n then (p, 3, []) else (p + n, 0, (l.drop p).take n)) else (p, e, [])
end Go.Proofs.Ythdcgobdcdfefaa
/- The reader of petasosref03: Get, Text, Left. -/
namespace Go.Proofs.Ythdcgobdcdfefaa
open Go.RowKit Mem
set_option linter.unusedSimpArgs false
set_option linter.unusedVariables false
attribute [local irreducible] Go.Calls

/-- the number that bytes are, the highest first -/
def num (l : List Int) : Int := l.foldl (fun v b => v * 256 + b) 0
theorem num_snoc (l : List Int) (b : Int) : num (l ++ [b]) = num l * 256 + b := by simp [num]
def Byt (l : List Int) : Prop := ∀ x ∈ l, 0 ≤ x ∧ x ≤ 255
theorem Byt.take {l : List Int} (h : Byt l) (k : Nat) : Byt (l.take k) := fun x hx => h x (List.mem_of_mem_take hx)
theorem Byt.drop {l : List Int} (h : Byt l) (k : Nat) : Byt (l.drop k) := fun x hx => h x (List.mem_of_mem_drop hx)
theorem Byt.append {l m : List Int} (h : Byt l) (k : Byt m) : Byt (l ++ m) := fun x hx => by
  rcases List.mem_append.1 hx with h' | h'
  · exact h x h'
  · exact k x h'
theorem take_one {l : List Int} {k : Nat} (h : k < l.length) : l.take (k + 1) = l.take k ++ [l.getD k 0] := by
  rw [List.take_add_one]
  simp [List.getD, h]
theorem num_bd : ∀ (k : Nat) {l : List Int}, Byt l → l.length = k → 0 ≤ num l ∧ num l < 256 ^ k := by
  intro k
  induction k with
  | zero => intro l h hl; rw [List.eq_nil_of_length_eq_zero hl]; decide
  | succ k ih =>
    intro l h hl
    have hs : l = l.take k ++ [l.getD k 0] := by rw [← take_one (by omega), List.take_of_length_le (by omega)]
    have hb := h (l.getD k 0) (by have hk : k < l.length := by omega
                                  rw [show l.getD k 0 = l[k] by simp [List.getD, hk]]; exact List.getElem_mem hk)
    have hi := ih (h.take k) (by simp; omega)
    rw [hs, num_snoc, Int.pow_succ]
    omega
theorem pow_small {k : Nat} (h : k ≤ 7) : (256 : Int) ^ k ≤ 72057594037927936 := by
  have h2 : k = 0 ∨ k = 1 ∨ k = 2 ∨ k = 3 ∨ k = 4 ∨ k = 5 ∨ k = 6 ∨ k = 7 := by omega
  rcases h2 with rfl | rfl | rfl | rfl | rfl | rfl | rfl | rfl <;> decide
theorem or_low {x b : Int} (h0 : 0 ≤ x) (h1 : x < 72057594037927936) (b0 : 0 ≤ b) (b1 : b ≤ 255) : bits .or .u64 (x * 256) b = x * 256 + b := by
  obtain ⟨X, rfl⟩ := Int.eq_ofNat_of_zero_le h0
  obtain ⟨Y, rfl⟩ := Int.eq_ofNat_of_zero_le b0
  rw [show ((X : Int) * 256) = ((X * 256 : Nat) : Int) by omega, u64_or_nat _ _ (by omega) (by omega)]
  have := Nat.two_pow_add_eq_or_of_lt (i := 8) (show Y < 2 ^ 8 by omega) X
  rw [show X * 256 = 2 ^ 8 * X by omega, ← this]
  omega
def gt (l : List Int) (p : Nat) (e : Int) (n : Int) : Nat × Int × List Int := tk l p e (szN n)
theorem tk_len (l : List Int) (p : Nat) (e : Int) (n : Nat) : (tk l p e n).2.2.length ≤ n := by
  unfold tk
  split
  · split
    · simp
    · simp; omega
  · simp
theorem tk_byt {l : List Int} (h : Byt l) (p : Nat) (e : Int) (n : Nat) : Byt (tk l p e n).2.2 := by
  unfold tk
  split
  · split
    · intro x hx; simp at hx
    · exact (h.drop p).take n
  · intro x hx; simp at hx
theorem tk_err {l : List Int} {p n : Nat} {e : Int} (he : e = 0 ∨ e = 3) : (tk l p e n).2.1 = 0 ∨ (tk l p e n).2.1 = 3 := by
  unfold tk
  split
  · split <;> simp
  · exact he
theorem num_lt {l : List Int} {k : Nat} (h : Byt l) (hl : l.length ≤ k) : 0 ≤ num l ∧ num l < 256 ^ k := by
  have h1 := num_bd l.length h rfl
  have h2 : (256 : Int) ^ l.length ≤ 256 ^ k := by
    have := Nat.pow_le_pow_right (show 0 < 256 by omega) hl
    have h3 : (((256 : Nat) ^ l.length : Nat) : Int) ≤ (((256 : Nat) ^ k : Nat) : Int) := by omega
    simpa using h3
  omega
/-- what Text reads -/
def tx (l : List Int) (p : Nat) (e : Int) : Nat × Int × List Int :=
  if (gt l p e 2).2.1 = 0 then tk l (gt l p e 2).1 0 (num (gt l p e 2).2.2).toNat else ((gt l p e 2).1, (gt l p e 2).2.1, [])
end Go.Proofs.Ythdcgobdcdfefaa
