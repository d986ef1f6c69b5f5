/- The bytes of numbers and texts, read again: plain arithmetic. -/
import Derived.Test.YthhelhhlofdehaaRefOctet
set_option maxRecDepth 4000
namespace Go.Proofs.Ythhelhhlofdehaa
open Go.RowKit Mem
set_option linter.unusedSimpArgs false
set_option linter.unusedVariables false

theorem num_cons (d : Int) (m : List Int) : num (d :: m) = d * 256 ^ m.length + num m := by
  have key : ∀ (m : List Int) (a : Int), m.foldl (fun v b => v * 256 + b) a = a * 256 ^ m.length + m.foldl (fun v b => v * 256 + b) 0 := by
    intro m
    induction m with
    | nil => intro a; simp
    | cons x m ih =>
      intro a
      rw [List.foldl_cons, List.foldl_cons, ih (a * 256 + x), ih (0 * 256 + x), List.length_cons, Int.pow_succ]
      rw [Int.zero_mul, Int.zero_add, Int.add_mul, Int.mul_assoc, Int.mul_comm 256, Int.add_assoc]
  have := key m d
  simpa [num] using this
theorem pow_256 (k : Nat) : (256 : Int) ^ k = 2 ^ (8 * k) := by
  rw [Int.pow_mul]; rfl
theorem emod_step (v A : Int) (hA : 0 < A) : (v / A) % 256 * A + v % A = v % (A * 256) := by
  have h1 := Int.mul_ediv_add_emod v A
  have h2 := Int.mul_ediv_add_emod (v / A) 256
  have h3 : v / (A * 256) = v / A / 256 := (Int.ediv_ediv_of_nonneg (by omega)).symm
  have h4 := Int.mul_ediv_add_emod v (A * 256)
  rw [h3, Int.mul_assoc] at h4
  generalize v / A / 256 = r at *
  generalize v / A % 256 = s at *
  generalize v / A = q at *
  generalize v % A = t at *
  generalize v % (A * 256) = z at *
  subst h2
  rw [Int.mul_add] at h1
  rw [Int.mul_comm s A]
  generalize A * (256 * r) = X at *
  generalize A * s = Y at *
  omega
theorem num_be (v : Int) : ∀ k, num (be k v) = v % 2 ^ (8 * k) := by
  intro k
  induction k with
  | zero => simp [be, num]
  | succ k ih =>
    rw [be, num_cons, be_len, ih, pow_256, emod_step v _ (Int.pow_pos (by decide)), show 8 * (k + 1) = 8 * k + 8 by omega, Int.pow_add]
    rfl
theorem be_byt (v : Int) : ∀ k, Byt (be k v) := by
  intro k
  induction k with
  | zero => intro x hx; simp [be] at hx
  | succ k ih =>
    intro x hx
    rcases List.mem_cons.1 hx with rfl | h
    · omega
    · exact ih x h
theorem txt_len (l : List Int) : (txt l).length = l.length + 2 := by unfold txt; rw [List.length_append, be_len]; omega
theorem txt_byt {l : List Int} (h : Byt l) : Byt (txt l) := (be_byt _ 2).append h
theorem tk_here {pre m post : List Int} : tk (pre ++ (m ++ post)) pre.length 0 m.length = (pre.length + m.length, 0, m) := by
  unfold tk
  rw [if_pos rfl, if_neg (by simp)]
  simp
/-- what Put wrote is what Get reads -/
theorem gt_here (pre post : List Int) (v n : Int) : gt (pre ++ (be (szN n) v ++ post)) pre.length 0 n = (pre.length + szN n, 0, be (szN n) v) := by
  have := tk_here (pre := pre) (m := be (szN n) v) (post := post)
  rw [be_len] at this
  exact this
/-- what Text wrote is what Text reads -/
theorem tx_here (pre post m : List Int) (hm : m.length ≤ 65535) : tx (pre ++ (txt m ++ post)) pre.length 0 = (pre.length + (m.length + 2), 0, m) := by
  have h1 := gt_here pre (m ++ post) m.length 2
  rw [sz2] at h1
  have e : pre ++ (txt m ++ post) = pre ++ (be 2 m.length ++ (m ++ post)) := by unfold txt; rw [List.append_assoc]
  unfold tx
  rw [e, h1]
  simp only [if_true]
  rw [num_be, show (2 : Int) ^ (8 * 2) = 65536 by decide, Int.emod_eq_of_lt (by omega) (by omega), Int.toNat_natCast]
  have h2 := tk_here (pre := pre ++ be 2 m.length) (m := m) (post := post)
  rw [List.append_assoc, List.length_append, be_len] at h2
  rw [h2]
  simp; omega
/-- the law's shifts -/
theorem shift_mod {v : Int} (h0 : 0 ≤ v) {k : Nat} (h1 : 1 ≤ k) (h8 : k ≤ 8) : (v * 2 ^ (64 - 8 * k) % 18446744073709551616) / 2 ^ (64 - 8 * k) = v % 2 ^ (8 * k) := by
  have h : k = 1 ∨ k = 2 ∨ k = 3 ∨ k = 4 ∨ k = 5 ∨ k = 6 ∨ k = 7 ∨ k = 8 := by omega
  rcases h with rfl | rfl | rfl | rfl | rfl | rfl | rfl | rfl <;> simp only [Nat.reduceMul, Nat.reduceSub, Int.reducePow] <;> omega
/-- more bytes than there are: none -/
theorem tk_more {l : List Int} {p n : Nat} (h : l.length - p < n) : tk l p 0 n = (p, 3, []) := by simp [tk, h]

/-! ### which text is less -/
def u8 (n : Int) : UInt8 := UInt8.ofNat n.toNat
theorem text_list (l : List Int) : (strOfNums l).toList = l.map u8 := by rw [ByteArray.toList_eq]; rfl
theorem u8_lt {a b : Int} (ha : 0 ≤ a ∧ a ≤ 255) (hb : 0 ≤ b ∧ b ≤ 255) : (u8 a < u8 b) ↔ a < b := by
  unfold u8
  rw [UInt8.lt_iff_toNat_lt, UInt8.toNat_ofNat', UInt8.toNat_ofNat', Nat.mod_eq_of_lt (by omega), Nat.mod_eq_of_lt (by omega)]
  omega
theorem u8_eq {a b : Int} (ha : 0 ≤ a ∧ a ≤ 255) (hb : 0 ≤ b ∧ b ≤ 255) : (u8 a = u8 b) ↔ a = b := by
  unfold u8
  rw [← UInt8.toNat_inj, UInt8.toNat_ofNat', UInt8.toNat_ofNat', Nat.mod_eq_of_lt (by omega), Nat.mod_eq_of_lt (by omega)]
  omega
theorem num_step {a b X Y p : Int} (hX : 0 ≤ X ∧ X < p) (hY : 0 ≤ Y ∧ Y < p) : (a * p + X < b * p + Y ↔ a < b ∨ (a = b ∧ X < Y)) ∧ (a * p + X = b * p + Y ↔ a = b ∧ X = Y) := by
  rcases Int.lt_trichotomy a b with h | h | h
  · have : a * p + p ≤ b * p := by
      have := Int.mul_le_mul_of_nonneg_right (show a + 1 ≤ b by omega) (show 0 ≤ p by omega)
      rw [Int.add_mul] at this
      omega
    constructor <;> constructor <;> intro h' <;> omega
  · subst h
    constructor <;> constructor <;> intro h' <;> omega
  · have : b * p + p ≤ a * p := by
      have := Int.mul_le_mul_of_nonneg_right (show b + 1 ≤ a by omega) (show 0 ≤ p by omega)
      rw [Int.add_mul] at this
      omega
    constructor <;> constructor <;> intro h' <;> omega
theorem less_num : ∀ (l m : List Int), Byt l → Byt m → l.length = m.length → Op.bytesLess (l.map u8) (m.map u8) = decide (num l < num m) ∧ ((l.map u8 == m.map u8) = decide (num l = num m)) := by
  intro l
  induction l with
  | nil =>
    intro m _ _ hl
    have : m = [] := List.eq_nil_of_length_eq_zero (by simpa using hl.symm)
    subst this
    exact ⟨rfl, rfl⟩
  | cons a x ih =>
    intro m h1 h2 hl
    match m, hl with
    | b :: y, hl =>
      have hxy : x.length = y.length := by simpa using hl
      have ha := h1 a (by simp)
      have hb := h2 b (by simp)
      have hx : Byt x := fun z hz => h1 z (by simp [hz])
      have hy : Byt y := fun z hz => h2 z (by simp [hz])
      obtain ⟨i1, i2⟩ := ih y hx hy hxy
      have bx := num_bd x.length hx rfl
      have by' := num_bd y.length hy rfl
      rw [← hxy] at by'
      obtain ⟨s1, s2⟩ := num_step (a := a) (b := b) bx by'
      rw [num_cons, num_cons, ← hxy]
      constructor
      · rw [List.map_cons, List.map_cons, Op.bytesLess, i1]
        rw [Bool.eq_iff_iff]
        simp only [Bool.or_eq_true, Bool.and_eq_true, decide_eq_true_eq, beq_iff_eq, u8_lt ha hb, u8_eq ha hb, s1]
      · rw [List.map_cons, List.map_cons, List.cons_beq_cons, i2]
        rw [Bool.eq_iff_iff]
        simp only [Bool.and_eq_true, decide_eq_true_eq, beq_iff_eq, u8_eq ha hb, s2]
end Go.Proofs.Ythhelhhlofdehaa
