/- The document's answers for package octet (petasosref03): size, Put. -/
import Derived.Test.YtkenldpmogogaaaBytes
set_option maxRecDepth 4000
namespace Go.Proofs.Ytkenldpmogogaaa
open Go.RowKit Mem
set_option linter.unusedSimpArgs false
set_option linter.unusedVariables false
attribute [local irreducible] Go.Calls

/-- how many bytes a number has -/
def szN (n : Int) : Nat := if n < 1 then 1 else if 8 < n then 8 else n.toNat
theorem szN_bd (n : Int) : 1 ≤ szN n ∧ szN n ≤ 8 := by unfold szN; split <;> (try split) <;> omega
theorem r3size_any (n : Int) (w : World) : Calls Try.prog 49 #[.int .i64 n] w fun e w' => e = .returned (.int .i64 (szN n)) ∧ Below w.heap.size w w' := by
  have h1 : n < 1 ∨ n = 1 ∨ (1 < n ∧ n ≤ 8) ∨ 8 < n := by omega
  rcases h1 with h | rfl | ⟨h, h2⟩ | h
  · have hz : ((szN n : Nat) : Int) = 1 := by unfold szN; split <;> (try split) <;> omega
    rw [hz]
    go_enter Try.func49, Try.ntmps49
    go_wp2_with fail
    go_ret
    exact ⟨rfl, Below.refl _ _⟩
  · go_enter Try.func49, Try.ntmps49
    go_wp2_with fail
    go_ret
    exact ⟨rfl, Below.refl _ _⟩
  · have hz : ((szN n : Nat) : Int) = n := by unfold szN; split <;> (try split) <;> omega
    rw [hz]
    go_enter Try.func49, Try.ntmps49
    go_wp2_with fail
    go_ret
    exact ⟨rfl, Below.refl _ _⟩
  · have hz : ((szN n : Nat) : Int) = 8 := by unfold szN; split <;> (try split) <;> omega
    rw [hz]
    go_enter Try.func49, Try.ntmps49
    go_wp2_with fail
    go_ret
    exact ⟨rfl, Below.refl _ _⟩
/-- the bytes of v's lowest 8 k bits, the highest first -/
def be : Nat → Int → List Int
  | 0, _ => []
  | k + 1, v => (v / 2 ^ (8 * k)) % 256 :: be k v
theorem be_len (k : Nat) (v : Int) : (be k v).length = k := by
  induction k with
  | zero => rfl
  | succ k ih => simp [be, ih]
theorem be_take (v : Int) : ∀ (k j : Nat), j < k → (be k v).take (k - j) = (be k v).take (k - (j + 1)) ++ [(v / 2 ^ (8 * j)) % 256] := by
  intro k
  induction k with
  | zero => intro j h; omega
  | succ k ih =>
    intro j h
    rcases Nat.eq_or_lt_of_le (Nat.lt_succ_iff.1 h) with he | he
    · subst he
      rw [Nat.sub_self, show j + 1 - j = 1 by omega]
      simp [be]
    · rw [show k + 1 - j = (k - j) + 1 by omega, show k + 1 - (j + 1) = (k - (j + 1)) + 1 by omega]
      simp only [be, List.take_succ_cons, List.cons_append]
      rw [ih j he]

def PutPost (w : World) (l : List Int) (e : Ending) (w' : World) : Prop := ∃ v, e = .returned v ∧ Row (intE .u8) 5 w.heap.size w' v l ∧ Below w.heap.size w w'
set_option maxHeartbeats 1000000 in
theorem rput_any (b : Value) (l : List Int) (v n : Int) (bv : 0 ≤ v ∧ v ≤ 18446744073709551615) (w : World) (h : Rd (intE .u8) w b l) (hl : l.length ≤ 1000000) :
    Calls Try.prog 23 #[b, .int .u64 v, .int .i64 n] w (PutPost w (l ++ be (szN n) v)) := by
  have hs := szN_bd n
  go_enter Try.func23, Try.ntmps23
  go_wp2_with (at_builtin; go_must (refine wpList_append (E := intE .u8) (B := w.heap.size) (l := []) (m := l) (bytes := 1) byteElem Nat.zero_lt_one rfl (.const (.slice none 0 0)) (.tmp 9) rfl rfl Row.nil rfl h (by simp [maxLen]; omega) (by simp; omega) (Nat.le_refl _) ?_); intro v9 y hr9 hk9 hg9 _)
  rw [List.nil_append] at hr9
  clear hg9
  refine (r3size_any n y).mono ?_
  rintro e y2 ⟨rfl, hk⟩
  generalize hsz : szN n = s at *
  replace hr9 := hr9.keep hk
  have hb0 := nest hk9 hk
  clear hk9 hk hsz
  go_wp2_with fail
  go_loopw [7, 8] (fun o i wr => ∃ j : Nat, j ≤ s ∧ i = .int .i64 ((j : Int) - 1) ∧ Row (intE .u8) 5 w.heap.size wr o (l ++ (be s v).take (s - j)) ∧ Below w.heap.size w wr) (fun _ i _ => (intOf i + 1).toNat)
  case atStart => exact ⟨s, Nat.le_refl _, by go_num, by simpa using hr9, hb0⟩
  case round =>
    obtain ⟨j, hj, rfl, hro, hb⟩ := hrel
    obtain rfl | ⟨m, rfl⟩ : j = 0 ∨ ∃ m, j = m + 1 := by cases j with | zero => exact .inl rfl | succ m => exact .inr ⟨m, rfl⟩
    · rw [Nat.sub_zero, List.take_of_length_le (by rw [be_len]; exact Nat.le_refl _)] at hro
      go_wp2_with fail
      go_ret
      exact ⟨_, rfl, hro, hb⟩
    · have e1 : ((m + 1 : Nat) : Int) - 1 = (m : Int) := by omega
      rw [e1]
      have ht := be_take v s m (by omega)
      have hlen : l.length + ((be s v).take (s - (m + 1))).length ≤ 1000008 := by simp [be_len]; omega
      have HB := Lib.hid hb
      generalize (be s v).take (s - (m + 1)) = L at *
      go_wp2_with (at_builtin; go_must (refine wpList_append (m := [v / 2 ^ (8 * m) % 256]) (bytes := 1) byteElem Nat.zero_lt_one rfl (.tmp 18) (.tmp 25) rfl rfl (hro.keep (more (Below.refl _ _) _)) rfl (Rd.fresh wr _ _ _ _ rfl rfl) (by simp [maxLen]; omega) (by simp; omega) (more hb _).size ?_); intro v9 y hr9 hk9 hg9 _)
      have hb9 := (more HB.out (Obj.cells #[Value.int IntKind.u8 (v / 2 ^ (8 * m) % 256)] 5)).trans hk9
      rw [List.append_assoc, ← ht] at hr9
      go_roundw
      case rel => exact ⟨m, by omega, by go_num, hr9, hb9⟩
      case measure => simp [intOf]
end Go.Proofs.Ytkenldpmogogaaa
