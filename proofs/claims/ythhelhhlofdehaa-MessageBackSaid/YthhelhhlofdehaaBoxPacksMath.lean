/- Bytes that are alike are of lists that are alike; boxes whose bytes are alike have the same in them. -/
import Derived.Test.YthhelhhlofdehaaBoxRef
set_option maxRecDepth 4000
namespace Go.Proofs.Ythhelhhlofdehaa
open Go.RowKit Mem
set_option linter.unusedSimpArgs false
set_option linter.unusedVariables false

theorem u8_inj {x y : Int} (hx : 0 ≤ x ∧ x ≤ 255) (hy : 0 ≤ y ∧ y ≤ 255) (h : UInt8.ofNat x.toNat = UInt8.ofNat y.toNat) : x = y := by
  have e := congrArg UInt8.toNat h
  simp only [UInt8.toNat_ofNat'] at e
  omega
theorem map_u8_inj : ∀ {l m : List Int}, (∀ x ∈ l, 0 ≤ x ∧ x ≤ 255) → (∀ x ∈ m, 0 ≤ x ∧ x ≤ 255) → (l.map fun n => UInt8.ofNat n.toNat) = (m.map fun n => UInt8.ofNat n.toNat) → l = m
  | [], [], _, _, _ => rfl
  | [], _ :: _, _, _, h => by simp at h
  | _ :: _, [], _, _, h => by simp at h
  | x :: l, y :: m, hl, hm, h => by
    simp only [List.map_cons, List.cons.injEq] at h
    rw [u8_inj (hl x (List.mem_cons_self ..)) (hm y (List.mem_cons_self ..)) h.1, map_u8_inj (fun z hz => hl z (List.mem_cons_of_mem _ hz)) (fun z hz => hm z (List.mem_cons_of_mem _ hz)) h.2]
theorem bytes_inj {l m : List Int} (hl : ∀ x ∈ l, 0 ≤ x ∧ x ≤ 255) (hm : ∀ x ∈ m, 0 ≤ x ∧ x ≤ 255) (h : ((strOfNums l).toList == (strOfNums m).toList) = true) : l = m := by
  have h := eq_of_beq h
  rw [ByteArray.toList_eq, ByteArray.toList_eq] at h
  exact map_u8_inj hl hm h
theorem be_mem : ∀ (k : Nat) (v : Int), ∀ x ∈ be k v, 0 ≤ x ∧ x ≤ 255
  | 0, _, x, h => by simp [be] at h
  | k + 1, v, x, h => by
    simp only [be, List.mem_cons] at h
    rcases h with rfl | h
    · omega
    · exact be_mem k v x h
theorem packV_byt (l : List (Int × Int × Int)) : ∀ x ∈ packV l, 0 ≤ x ∧ x ≤ 255 := by
  intro x hx
  unfold packV packs at hx
  rw [List.mem_append] at hx
  rcases hx with h | h
  · exact be_mem _ _ x h
  · obtain ⟨r, _, hr⟩ := List.mem_flatMap.1 h
    unfold packR at hr
    simp only [List.mem_append] at hr
    rcases hr with h | h | h <;> exact be_mem _ _ x h
theorem be4_inj {x y : Int} (hx : 0 ≤ x ∧ x ≤ 4294967295) (hy : 0 ≤ y ∧ y ≤ 4294967295) (h : be 4 x = be 4 y) : x = y := by
  simp only [be, List.cons.injEq] at h
  have p24 : (2 : Int) ^ (8 * 3) = 16777216 := rfl
  have p16 : (2 : Int) ^ (8 * 2) = 65536 := rfl
  have p8 : (2 : Int) ^ (8 * 1) = 256 := rfl
  have p0 : (2 : Int) ^ (8 * 0) = 1 := rfl
  rw [p24, p16, p8, p0] at h
  omega
/-- a range of a kind that there is -/
def heldV (r : Int × Int × Int) : Int × Int × Int := (1 + (IntKind.u64.wrap r.1).tmod 3, r.2)
theorem held_kind (r : Int × Int × Int) : 1 ≤ (heldV r).1 ∧ (heldV r).1 ≤ 3 := by
  have h0 := (u64_bd r.1).1
  have h1 := Int.tmod_nonneg 3 h0
  have h2 := Int.tmod_lt_of_pos (IntKind.u64.wrap r.1) (show (0 : Int) < 3 by decide)
  unfold heldV
  simp only []
  omega
/-- of kinds that there are, within the bounds -/
def HK (r : Int × Int × Int) : Prop := (1 ≤ r.1 ∧ r.1 ≤ 3) ∧ (0 ≤ r.2.1 ∧ r.2.1 ≤ 4294967295) ∧ (0 ≤ r.2.2 ∧ r.2.2 ≤ 4294967295)
theorem packR_in {r s : Int × Int × Int} (hr : HK r) (hs : HK s) (h : packR r = packR s) (v : Int) : inV r v = inV s v := by
  obtain ⟨k1, a1, b1⟩ := r
  obtain ⟨k2, a2, b2⟩ := s
  obtain ⟨hk1, ha1, hb1⟩ := hr
  obtain ⟨hk2, ha2, hb2⟩ := hs
  simp only [] at hk1 ha1 hb1 hk2 ha2 hb2
  unfold packR at h
  have h := List.append_inj h (by rw [be_len, be_len])
  have h2 := List.append_inj h.2 (by rw [be_len, be_len])
  have hk : k1 = k2 := by
    have := h.1
    simp only [be, List.cons.injEq, and_true] at this
    have p0 : (2 : Int) ^ (8 * 0) = 1 := rfl
    rw [p0] at this
    have e1 : IntKind.u64.wrap k1 = k1 := by rw [show IntKind.u64.wrap k1 = k1 % 18446744073709551616 by simp [IntKind.wrap, IntKind.bits, IntKind.signed]]; omega
    have e2 : IntKind.u64.wrap k2 = k2 := by rw [show IntKind.u64.wrap k2 = k2 % 18446744073709551616 by simp [IntKind.wrap, IntKind.bits, IntKind.signed]]; omega
    rw [e1, e2] at this
    omega
  subst hk
  by_cases h2k : k1 = 2
  · have ea := h2.1
    have eb := h2.2
    rw [if_pos h2k, if_pos h2k] at ea
    rw [if_pos h2k, if_pos h2k] at eb
    rw [be4_inj ha1 ha2 ea, be4_inj hb1 hb2 eb]
  · unfold inV
    have : (k1 == 2) = false := by simpa using h2k
    simp [this]
theorem packs_in : ∀ {l m : List (Int × Int × Int)}, l.length = m.length → (∀ x ∈ l, HK x) → (∀ x ∈ m, HK x) → packs l = packs m → ∀ i v, i < l.length → inV (l.getD i (0, 0, 0)) v = inV (m.getD i (0, 0, 0)) v
  | [], [], _, _, _, _, i, v, hi => by simp at hi
  | [], _ :: _, hn, _, _, _, _, _, _ => by simp at hn
  | _ :: _, [], hn, _, _, _, _, _, _ => by simp at hn
  | r :: l, s :: m, hn, hl, hm, h, i, v, hi => by
    simp only [packs, List.flatMap_cons] at h
    have h := List.append_inj h (by rw [packR_len, packR_len])
    cases i with
    | zero => exact packR_in (hl r (List.mem_cons_self ..)) (hm s (List.mem_cons_self ..)) h.1 v
    | succ i => exact packs_in (by simpa using hn) (fun z hz => hl z (List.mem_cons_of_mem _ hz)) (fun z hz => hm z (List.mem_cons_of_mem _ hz)) h.2 i v (by simpa using hi)
theorem packV_match {l m : List (Int × Int × Int)} (hl : ∀ x ∈ l, HK x) (hm : ∀ x ∈ m, HK x) (h : packV l = packV m) (vs : List Int) : matchV l vs = matchV m vs := by
  have hn : l.length = m.length := by
    have := congrArg List.length h
    rw [packV_len, packV_len] at this
    omega
  unfold packV at h
  have h := (List.append_inj h (by rw [be_len, be_len])).2
  unfold matchV
  rw [hn]
  congr 1
  rw [Bool.eq_iff_iff, List.all_eq_true, List.all_eq_true]
  constructor
  · intro H i hi
    rw [← packs_in hn hl hm h i (vs.getD i 0) (by have := List.mem_range.1 hi; omega)]
    exact H i hi
  · intro H i hi
    rw [packs_in hn hl hm h i (vs.getD i 0) (by have := List.mem_range.1 hi; omega)]
    exact H i hi
end Go.Proofs.Ythhelhhlofdehaa
