/- The reader of petasosref03: Get, Text, Left. -/
import Derived.Test.YtkenldpmogogaaaRefOctet3
import Derived.Laws.BitsAllLaws
set_option maxRecDepth 4000
namespace Go.Proofs.Ytkenldpmogogaaa
open Go.RowKit Mem
set_option linter.unusedSimpArgs false
set_option linter.unusedVariables false
attribute [local irreducible] Go.Calls

/-- the number that bytes are, the highest first -/
def num (l : List Int) : Int := l.foldl (fun v b => v * 256 + b) 0
theorem num_snoc (l : List Int) (b : Int) : num (l ++ [b]) = num l * 256 + b := by simp [num]
def Byt (l : List Int) : Prop := ∀ x ∈ l, 0 ≤ x ∧ x ≤ 255
theorem Byt.take {l : List Int} (h : Byt l) (k : Nat) : Byt (l.take k) := fun x hx => h x (List.mem_of_mem_take hx)
theorem Byt.drop {l : List Int} (h : Byt l) (k : Nat) : Byt (l.drop k) := fun x hx => h x (List.mem_of_mem_drop hx)
theorem Byt.append {l m : List Int} (h : Byt l) (k : Byt m) : Byt (l ++ m) := fun x hx => by
  rcases List.mem_append.1 hx with h' | h'
  · exact h x h'
  · exact k x h'
theorem take_one {l : List Int} {k : Nat} (h : k < l.length) : l.take (k + 1) = l.take k ++ [l.getD k 0] := by
  rw [List.take_add_one]
  simp [List.getD, h]
theorem num_bd : ∀ (k : Nat) {l : List Int}, Byt l → l.length = k → 0 ≤ num l ∧ num l < 256 ^ k := by
  intro k
  induction k with
  | zero => intro l h hl; rw [List.eq_nil_of_length_eq_zero hl]; decide
  | succ k ih =>
    intro l h hl
    have hs : l = l.take k ++ [l.getD k 0] := by rw [← take_one (by omega), List.take_of_length_le (by omega)]
    have hb := h (l.getD k 0) (by have hk : k < l.length := by omega
                                  rw [show l.getD k 0 = l[k] by simp [List.getD, hk]]; exact List.getElem_mem hk)
    have hi := ih (h.take k) (by simp; omega)
    rw [hs, num_snoc, Int.pow_succ]
    omega
theorem pow_small {k : Nat} (h : k ≤ 7) : (256 : Int) ^ k ≤ 72057594037927936 := by
  have h2 : k = 0 ∨ k = 1 ∨ k = 2 ∨ k = 3 ∨ k = 4 ∨ k = 5 ∨ k = 6 ∨ k = 7 := by omega
  rcases h2 with rfl | rfl | rfl | rfl | rfl | rfl | rfl | rfl <;> decide
theorem or_low {x b : Int} (h0 : 0 ≤ x) (h1 : x < 72057594037927936) (b0 : 0 ≤ b) (b1 : b ≤ 255) : bits .or .u64 (x * 256) b = x * 256 + b := by
  obtain ⟨X, rfl⟩ := Int.eq_ofNat_of_zero_le h0
  obtain ⟨Y, rfl⟩ := Int.eq_ofNat_of_zero_le b0
  rw [show ((X : Int) * 256) = ((X * 256 : Nat) : Int) by omega, u64_or_nat _ _ (by omega) (by omega)]
  have := Nat.two_pow_add_eq_or_of_lt (i := 8) (show Y < 2 ^ 8 by omega) X
  rw [show X * 256 = 2 ^ 8 * X by omega, ← this]
  omega
def gt (l : List Int) (p : Nat) (e : Int) (n : Int) : Nat × Int × List Int := tk l p e (szN n)
def GetPost (b : Nat) (v : Value) (l : List Int) (r : Nat × Int × List Int) (w : World) (e : Ending) (w' : World) : Prop :=
  e = .returned (.int .u64 (num r.2.2)) ∧ RdrAt w' b v l r.1 r.2.1 ∧ Only b w w'
theorem tk_len (l : List Int) (p : Nat) (e : Int) (n : Nat) : (tk l p e n).2.2.length ≤ n := by
  unfold tk
  split
  · split
    · simp
    · simp; omega
  · simp
theorem tk_byt {l : List Int} (h : Byt l) (p : Nat) (e : Int) (n : Nat) : Byt (tk l p e n).2.2 := by
  unfold tk
  split
  · split
    · intro x hx; simp at hx
    · exact (h.drop p).take n
  · intro x hx; simp at hx
theorem RdrAt.only {w w' : World} {b : Nat} {v : Value} {l : List Int} {p : Nat} {e : Int} (h : RdrAt w b v l p e) (k : Below w.heap.size w w') : RdrAt w' b v l p e := h.keep k

set_option maxHeartbeats 1000000 in
theorem rget_any (b : Nat) (v : Value) (l : List Int) (p : Nat) (n e : Int) (he : e = 0 ∨ e = 3) (w : World) (h : RdrAt w b v l p e) (hl : l.length ≤ 1000000) (hb : Byt l) :
    Calls Try.prog 30 #[.pointer (some ⟨b, 0, none⟩), .int .i64 n] w (GetPost b v l (gt l p e n) w) := by
  have hz := szN_bd n
  have hll := tk_len l p e (szN n)
  have hbb := tk_byt hb p e (szN n)
  generalize hG : gt l p e n = r
  have hT : tk l p e (szN n) = r := hG
  rw [hT] at hll hbb
  obtain ⟨p', e', m⟩ := r
  clear hG
  have HT := Lib.hid hT
  clear hT
  go_enter Try.func30, Try.ntmps30
  go_wp2_with fail
  refine (r3size_any n w).mono ?_
  rintro e1 y1 ⟨rfl, hk1⟩
  have hr1 := h.keep hk1
  clear h
  go_wp2_with fail
  refine (rtake_any b v l p (szN n) e he y1 hr1 hl (by omega)).mono ?_
  rintro e2 y2 ⟨x, y, rfl, hx, hr2, ho2⟩
  rw [HT.out] at hx hr2
  simp only [] at hx hr2 hll hbb ⊢
  have ho := (Only.of_below (b := b) hk1).trans ho2
  clear ho2 hr1 hk1
  obtain ⟨a, g, off, c, rfl, hc1, hc2, ha, hc⟩ := Mem.Rd.loopI hx
  have HC := Lib.hid hc
  have HBY := Lib.hid hbb
  have HA := Lib.hid ha
  clear hc ha hx hbb
  go_wp2_with fail
  go_loopw [7, 8] (fun s i wr => ∃ k : Nat, k ≤ m.length ∧ i = .int .i64 k ∧ s = .int .u64 (num (m.take k)) ∧ Below y2.heap.size y2 wr) (fun _ i _ => m.length - (intOf i).toNat)
  case atStart => exact ⟨0, Nat.zero_le _, rfl, rfl, Below.refl _ _⟩
  case round =>
    obtain ⟨k, hk, rfl, rfl, hw1⟩ := hrel
    by_cases hlt : k < m.length
    · have d1 := kc hw1 (HC.out k hlt)
      have hgl := World.block_lt_of_cell? _ _ d1
      obtain ⟨rfl, _⟩ := HA.out (by omega)
      have bx := num_bd k (HBY.out.take k) (by simp; omega)
      have hps := pow_small (show k ≤ 7 by omega)
      have hby := HBY.out (m.getD k 0) (by rw [show m.getD k 0 = m[k] by simp [List.getD, hlt]]; exact List.getElem_mem hlt)
      have htk := Lib.hid (take_one hlt)
      have hor := or_low (x := num (m.take k)) (b := m.getD k 0) bx.1 (by omega) hby.1 hby.2
      have e1 : (k : Int) < m.length := by omega
      generalize m.getD k 0 = y at *
      generalize hN : num (m.take k) = N at *
      have HN := Lib.hid hN
      clear hN
      go_wp2_with fail
      exact ⟨⟨k + 1, by omega, by go_num, by rw [htk.out, num_snoc, HN.out], hw1⟩, by simp [intOf]; omega⟩
    · have hkk : k = m.length := by omega
      subst hkk
      rw [List.take_length]
      have hz := ho.trans (Only.of_below (b := b) hw1)
      have hr3 := hr2.keep hw1
      go_wp2_with fail
      go_ret
      exact ⟨rfl, hr3, hz⟩

theorem tk_err {l : List Int} {p n : Nat} {e : Int} (he : e = 0 ∨ e = 3) : (tk l p e n).2.1 = 0 ∨ (tk l p e n).2.1 = 3 := by
  unfold tk
  split
  · split <;> simp
  · exact he
theorem num_lt {l : List Int} {k : Nat} (h : Byt l) (hl : l.length ≤ k) : 0 ≤ num l ∧ num l < 256 ^ k := by
  have h1 := num_bd l.length h rfl
  have h2 : (256 : Int) ^ l.length ≤ 256 ^ k := by
    have := Nat.pow_le_pow_right (show 0 < 256 by omega) hl
    have h3 : (((256 : Nat) ^ l.length : Nat) : Int) ≤ (((256 : Nat) ^ k : Nat) : Int) := by omega
    simpa using h3
  omega
/-- what Text reads -/
def tx (l : List Int) (p : Nat) (e : Int) : Nat × Int × List Int :=
  if (gt l p e 2).2.1 = 0 then tk l (gt l p e 2).1 0 (num (gt l p e 2).2.2).toNat else ((gt l p e 2).1, (gt l p e 2).2.1, [])
def TextPost (b : Nat) (v : Value) (l : List Int) (r : Nat × Int × List Int) (w : World) (e : Ending) (w' : World) : Prop :=
  ∃ x, e = .returned x ∧ Row (intE .u8) 5 w.heap.size w' x r.2.2 ∧ RdrAt w' b v l r.1 r.2.1 ∧ Only b w w'
end Go.Proofs.Ytkenldpmogogaaa
