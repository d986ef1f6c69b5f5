/- Walk of the law RingFull. -/
import Derived.Test.YtpgljdngbiicmaaRgLaw
set_option maxRecDepth 4000
namespace Go.Proofs.Ytpgljdngbiicmaa.ringFull
open Go.RowKit Mem
set_option linter.unusedSimpArgs false
set_option linter.unusedVariables false
attribute [local irreducible] Go.Calls

theorem wraps_u32 (n : Int) (h₀ : 0 ≤ n) (h₁ : n < 2 ^ 32) : IntKind.u32.wrap n = n := by
  have e : IntKind.u32.wrap n = n % 4294967296 := rfl
  omega
/-- a step that is odd -/
theorem odd_or {x : Int} (h : 0 ≤ x ∧ x ≤ 4294967295) : (0 ≤ bits .or .u32 x 1 ∧ bits .or .u32 x 1 ≤ 4294967295) ∧ bits .or .u32 x 1 % 2 = 1 := by
  obtain ⟨n, rfl⟩ : ∃ n : Nat, x = n := ⟨x.toNat, by omega⟩
  have hn : n < 2 ^ 32 := by omega
  have e : bits .or .u32 (n : Int) 1 = ((n ||| 1 : Nat) : Int) := (bits_nat .u32 32 (by decide) wraps_u32 n 1 hn (by decide)).2
  have hb : n ||| 1 < 2 ^ 32 := Nat.or_lt_two_pow hn (by decide)
  have ho : (n ||| 1) % 2 = 1 := by simp
  rw [e]
  omega
/-- steps that are odd come to as many points as one likes -/
def stepP (f s : Int) (i : Nat) : Int := (f + i * s) % 4294967296
theorem stepP_bd (f s : Int) (i : Nat) : 0 ≤ stepP f s i ∧ stepP f s i ≤ 4294967295 := by unfold stepP; omega
theorem stepP_inj {f s : Int} (hs : s % 2 = 1) {i j : Nat} (hi : i ≤ 64) (hj : j ≤ 64) (h : stepP f s i = stepP f s j) : i = j := by
  have key : ∀ (a b : Nat), a ≤ b → b ≤ 64 → stepP f s a = stepP f s b → a = b := by
    intro a b hab hb h
    unfold stepP at h
    have hd : (4294967296 : Int) ∣ ((b - a : Nat) : Int) * s := by
      have e : ((b - a : Nat) : Int) * s = b * s - a * s := by rw [Int.natCast_sub hab, Int.sub_mul]
      rw [e]
      omega
    have hc : Nat.Coprime (2 ^ 32) s.natAbs := by
      refine Nat.Coprime.pow_left 32 ?_
      unfold Nat.Coprime
      rw [Nat.gcd_rec, show s.natAbs % 2 = 1 by omega]
      rfl
    have hd2 : 2 ^ 32 ∣ (b - a) * s.natAbs := by
      have := Int.natAbs_dvd_natAbs.2 hd
      rw [Int.natAbs_mul] at this
      simpa using this
    have hd3 : 2 ^ 32 ∣ b - a := hc.dvd_of_dvd_mul_right hd2
    have := Nat.eq_zero_of_dvd_of_lt hd3 (by omega)
    omega
  rcases Nat.le_total i j with q | q
  · exact key i j q hj h
  · exact (key j i q hi h.symm).symm
def stepsP (f s : Int) (k : Nat) : List Int := (List.range k).map (stepP f s)
theorem stepsP_new {f s : Int} (hs : s % 2 = 1) (l : List Int) {k : Nat} (hk : k ≤ 64) (hl : ∀ x, x ∈ l ↔ x ∈ stepsP f s k) : l.contains (stepP f s k) = false := by
  rw [Bool.eq_false_iff]
  intro hc
  have hm := (hl _).1 (by simpa using hc)
  obtain ⟨i, hi, he⟩ := List.mem_map.1 hm
  have hi := List.mem_range.1 hi
  have := stepP_inj hs (by omega) hk he
  omega
theorem stepsP_add {f s : Int} (hs : s % 2 = 1) {l : List Int} (ho : okR l) {k : Nat} (hk : k < 64) (hn : l.length = k) (hl : ∀ x, x ∈ l ↔ x ∈ stepsP f s k) :
    (addR l (stepP f s k)).2 = 0 ∧ (addR l (stepP f s k)).1.length = k + 1 ∧ okR (addR l (stepP f s k)).1 ∧ ∀ x, x ∈ (addR l (stepP f s k)).1 ↔ x ∈ stepsP f s (k + 1) := by
  have hc := stepsP_new hs l (by omega) hl
  refine ⟨?_, ?_, add_ok ho (stepP_bd f s k), fun x => ?_⟩
  · unfold addR
    rw [if_neg (by rw [hc]; decide), if_neg (by omega)]
  · unfold addR
    rw [if_neg (by rw [hc]; decide), if_neg (by omega)]
    have := add_len ho.1 hc
    show (lowR l (stepP f s k) ++ stepP f s k :: upR l (stepP f s k)).length = k + 1
    omega
  · rw [add_mem ho (by omega), hl]
    unfold stepsP
    rw [List.range_succ, List.map_append, List.mem_append]
    simp
theorem stepsP_full {f s : Int} (hs : s % 2 = 1) {l : List Int} (hn : l.length = 64) (hl : ∀ x, x ∈ l ↔ x ∈ stepsP f s 64) : (addR l (stepP f s 64)) = (l, 5) ∧ (addR l (stepP f s 0)) = (l, 7) := by
  have hc := stepsP_new hs l (Nat.le_refl 64) hl
  constructor
  · unfold addR
    rw [if_neg (by rw [hc]; decide), if_pos (by omega)]
  · unfold addR
    rw [if_pos]
    have : stepP f s 0 ∈ l := (hl _).2 (List.mem_map.2 ⟨0, by simp, rfl⟩)
    simpa using this

set_option maxRecDepth 100000 in
set_option maxHeartbeats 8000000 in
theorem walk (f : Int) (bf : 0 ≤ f ∧ f ≤ 4294967295) (st : Int) (bs : 0 ≤ st ∧ st ≤ 4294967295) (w : World) :
    Calls Try.prog 7 #[.int .u32 f, .int .u32 st] w fun e w' => e = .returned (.bool true) ∧ Below w.heap.size w w' := by
  have HBF := Lib.hid bf
  have HBS := Lib.hid bs
  clear bf bs
  go_enter Try.func7, Try.ntmps7
  go_wp2_with fail
  refine (rgnew_any w).mono ?_
  rintro e w1 ⟨b, W, R, rfl, hp, hr, hk⟩
  have HP := Lib.hid (rg_new (B := w.heap.size) hp hr (Nat.le_refl _))
  have HK := Lib.hid hk
  clear hp hr hk
  go_upto_block 99 with fail
  have HOD := Lib.hid (odd_or HBS.out)
  obtain ⟨s, hs⟩ : ∃ s, s = bits .or .u32 st 1 := ⟨_, rfl⟩
  rw [← hs] at HOD ⊢
  clear hs
  go_loopw [6] (fun iv wr => ∃ (i : Nat) (L : List Int), i ≤ 64 ∧ iv = .int .i64 i ∧ L.length = i ∧ Rg w.heap.size wr b L ∧ (∀ x, x ∈ L ↔ x ∈ stepsP f s i) ∧ Below w.heap.size w wr) (fun iv _ => 64 - (intOf iv).toNat)
  case atStart => exact ⟨0, [], Nat.zero_le _, rfl, rfl, HP.out, fun x => by simp [stepsP], HK.out⟩
  case round =>
    obtain ⟨i, L, hi, rfl, hl, hp, hm, hk⟩ := hrel
    have HP2 := Lib.hid hp
    have HK2 := Lib.hid hk
    have HL := Lib.hid hl
    have HM := Lib.hid hm
    have HO := Lib.hid hp.ok
    clear hp hk hl hm HP HK
    by_cases hlt : i < 64
    · have hil : (i : Int) < 64 := by omega
      have HAD := Lib.hid (stepsP_add HOD.out.2 HO.out hlt HL.out HM.out)
      go_wp2_with fail
      refine (rg_add w.heap.size b L (stepP f s i) wr HP2.out HK2.out.size (stepP_bd f s i)).mono ?_
      rw [HAD.out.1]
      rintro e w3 ⟨rfl, hp, hk⟩
      have HP3 := Lib.hid hp
      have HK3 := Lib.hid (HK2.out.trans hk)
      clear hp hk HP2 HK2
      go_wp2_with fail
      exact ⟨⟨i + 1, (addR L (stepP f s i)).1, by omega, by go_num, HAD.out.2.1, HP3.out, HAD.out.2.2.2, HK3.out⟩, by simp [intOf]; omega⟩
    · have hi64 : i = 64 := by omega
      subst hi64
      have HFU := Lib.hid (stepsP_full HOD.out.2 HL.out HM.out)
      have HZ : Hid (stepP f s 0 = f) := Lib.hid (by unfold stepP; have := HBF.out; simp; omega)
      go_upto_region 11 with (first | (go_at_call 17; refine (rgowner_nil f _).mono ?_; rintro e w3 ⟨x1, rfl, hk3⟩) | (go_at_call 19; refine (rgnext_nil f _).mono ?_; rintro e w4 ⟨x2, rfl, hk4⟩))
      have HP4 := Lib.hid ((HP2.out.keep hk3).keep hk4)
      have HK4 := Lib.hid (nest (nest HK2.out hk3) hk4)
      clear hk3 hk4 HP2 HK2
      refine Run.region_seq (S := fun z => Below w.heap.size w z)
        [0, 0, 1, 0, 0, 0, 1, 1, 0] (l := ?_) ?_ HK4.out ?_
      rotate_left
      (· simp only [Run.seqOf, List.toList_toArray, Run.stepsOf, Run.stepOf, Run.guardOf, List.getElem?_toArray, List.getElem?_cons_zero, List.getElem?_cons_succ, Option.map_some, Option.map_none, Option.bind_some, Option.toList_some, List.map_cons, List.map_nil, List.cons_append, List.nil_append, List.append_eq]
         rfl)
      repeat ((first
        | (refine Run.takes (v := ?_) ?_ ?_; rotate_left; (· intro w' hS'; go_simp; (try with_reducible rfl)))
        | (refine Run.takesG (v := ?_) ?_ ?_ ?_; rotate_left; (· simp only [List.getElem?_cons_zero, List.getElem?_cons_succ]); (· intro w' hS'; go_simp; (try with_reducible rfl)))
        | (refine Run.skipsT ?_ ?_; (· simp only [List.getElem?_cons_zero, List.getElem?_cons_succ]))
        | (refine Run.skipsF ?_ ?_; (· simp only [List.getElem?_cons_zero, List.getElem?_cons_succ]))
        | (refine Run.skipsU ?_ ?_; (· simp only [List.getElem?_cons_zero, List.getElem?_cons_succ]))
        | (refine Run.passT ?_ ?_; (· simp only [List.getElem?_cons_zero, List.getElem?_cons_succ]))
        | (refine Run.passF ?_ ?_; (· simp only [List.getElem?_cons_zero, List.getElem?_cons_succ]))
        | (refine Run.passU ?_ ?_; (· simp only [List.getElem?_cons_zero, List.getElem?_cons_succ]))
        | (refine Run.runs ?_
           (first
           | (refine Run.callF 21 (by kernel_rfl) (fun hS => rgspan_nil f _) rfl ?_)
           | (refine Run.callG 21 (by kernel_rfl) ?_ (fun hS => rgspan_nil f _) rfl ?_; (· simp only [List.getElem?_cons_zero, List.getElem?_cons_succ]))
           | fail)
           (first
           | (rintro hS e w' ⟨x3, x4, rfl, hb⟩; have HP5 := Lib.hid (HP4.out.keep hb); refine ⟨_, rfl, nest hS hb, ?_⟩)
           | (rintro hS e w' ⟨rfl, rfl⟩; refine ⟨_, rfl, hS, ?_⟩)
           | fail))
        | fail); simp only [Act.put, List.setIfInBounds_toArray, List.set_cons_zero, List.set_cons_succ])
      refine Run.runsS (Run.one (fun hS K1 hK1 => ?_))
      go_simp
      have hX := more (Below.refl w'.heap.size w') (.cells #[.int .u32 0, .int .u32 0] 36)
      refine hK1.out _ _ (nest hS hX) (fun _ => ⟨fun z => Below w.heap.size w z, fun _ h => h, nest hS hX, ?_⟩)
      clear hK1 K1 hX
      try simp only [Act.put, List.setIfInBounds_toArray, List.set_cons_zero, List.set_cons_succ]
      refine Run.runsS (Run.one (fun hS' K1 hK1 => ?_))
      refine wp_store_row 36 (.tmp 12) (.tmp 46) rfl w'.heap.size #[.int .u32 x3, .int .u32 x4] rfl rfl 36 _ (heap_alloc_new w' _) span_infoR rfl (by simp [Value.oneCell']) ?_
      rw [World.setRow_alloc_new]
      have hX := more (Below.refl w'.heap.size w') (.cells #[.int .u32 x3, .int .u32 x4] 36)
      have HP6 := Lib.hid (HP5.out.keep hX)
      refine hK1.out _ _ (nest hS hX) (fun _ => ⟨fun z => Below w.heap.size w z, fun _ h => h, nest hS hX, ?_⟩)
      clear hK1 K1 hX hS hS'
      generalize w'.alloc (.cells #[.int .u32 x3, .int .u32 x4] 36) = w7 at *
      try simp only [Act.put, List.setIfInBounds_toArray, List.set_cons_zero, List.set_cons_succ]
      repeat ((first
        | (refine Run.takes (v := ?_) ?_ ?_; rotate_left; (· intro w' hS'; go_simp; (try with_reducible rfl)))
        | (refine Run.takesG (v := ?_) ?_ ?_ ?_; rotate_left; (· simp only [List.getElem?_cons_zero, List.getElem?_cons_succ]); (· intro w' hS'; go_simp; (try with_reducible rfl)))
        | (refine Run.skipsT ?_ ?_; (· simp only [List.getElem?_cons_zero, List.getElem?_cons_succ]))
        | (refine Run.skipsF ?_ ?_; (· simp only [List.getElem?_cons_zero, List.getElem?_cons_succ]))
        | (refine Run.skipsU ?_ ?_; (· simp only [List.getElem?_cons_zero, List.getElem?_cons_succ]))
        | (refine Run.passT ?_ ?_; (· simp only [List.getElem?_cons_zero, List.getElem?_cons_succ]))
        | (refine Run.passF ?_ ?_; (· simp only [List.getElem?_cons_zero, List.getElem?_cons_succ]))
        | (refine Run.passU ?_ ?_; (· simp only [List.getElem?_cons_zero, List.getElem?_cons_succ]))
        | fail); simp only [Act.put, List.setIfInBounds_toArray, List.set_cons_zero, List.set_cons_succ])
      refine Run.ends (fun hS => ?_)
      have HK7 := Lib.hid hS
      clear hS
      go_upto_region 12 with fail
      refine Run.region_seq (S := fun z => Below w.heap.size w z)
        [1, 0, 0, 0, 0, 0, 0, 1, 0, 0, 0, 0, 0, 1, 0, 0, 0, 0, 0, 1, 0, 0, 0, 0, 0, 1, 0, 0, 0, 0, 0, 1, 0, 0, 0, 0, 0, 0, 0, 0, 0, 0, 0, 0, 0, 0, 0, 0, 0, 1, 0, 0, 0, 0, 0, 1, 0, 0, 0, 0, 0, 1, 0, 0, 0] (l := ?_) ?_ HK7.out ?_
      rotate_left
      (· simp only [Run.seqOf, List.toList_toArray, Run.stepsOf, Run.stepOf, Run.guardOf, List.getElem?_toArray, List.getElem?_cons_zero, List.getElem?_cons_succ, Option.map_some, Option.map_none, Option.bind_some, Option.toList_some, List.map_cons, List.map_nil, List.cons_append, List.nil_append, List.append_eq]
         rfl)
      repeat ((first
        | (refine Run.takes (v := ?_) ?_ ?_; rotate_left; (· intro w' hS'; go_simp; (try with_reducible rfl)))
        | (refine Run.takesG (v := ?_) ?_ ?_ ?_; rotate_left; (· simp only [List.getElem?_cons_zero, List.getElem?_cons_succ]); (· intro w' hS'; go_simp; (try with_reducible rfl)))
        | (refine Run.skipsT ?_ ?_; (· simp only [List.getElem?_cons_zero, List.getElem?_cons_succ]))
        | (refine Run.skipsF ?_ ?_; (· simp only [List.getElem?_cons_zero, List.getElem?_cons_succ]))
        | (refine Run.skipsU ?_ ?_; (· simp only [List.getElem?_cons_zero, List.getElem?_cons_succ]))
        | (refine Run.passT ?_ ?_; (· simp only [List.getElem?_cons_zero, List.getElem?_cons_succ]))
        | (refine Run.passF ?_ ?_; (· simp only [List.getElem?_cons_zero, List.getElem?_cons_succ]))
        | (refine Run.passU ?_ ?_; (· simp only [List.getElem?_cons_zero, List.getElem?_cons_succ]))
        | (refine Run.runs ?_
           (first
           | (refine Run.callF 11 (by kernel_rfl) (fun hS => rgawake_any _) rfl ?_)
           | (refine Run.callG 11 (by kernel_rfl) ?_ (fun hS => rgawake_any _) rfl ?_; (· simp only [List.getElem?_cons_zero, List.getElem?_cons_succ]))
           | fail)
           (first
           | (rintro hS e w' ⟨rfl, rfl⟩; refine ⟨_, rfl, hS, ?_⟩)
           | (rintro hS e w' ⟨rfl, hb⟩; have HP8 := Lib.hid (HP6.out.keep hb); refine ⟨_, rfl, nest hS hb, ?_⟩)
           | fail))
        | fail); simp only [Act.put, List.setIfInBounds_toArray, List.set_cons_zero, List.set_cons_succ])
      have HA64 : Hid (∀ z, Rg w.heap.size z b L → w.heap.size ≤ z.heap.size → Calls Try.prog 14 #[.pointer (some ⟨b, 0, none⟩), .int .u32 (IntKind.u32.wrap (f + IntKind.u32.wrap (64 * s)))] z fun e w' => e = .returned (.int .i64 5) ∧ Rg w.heap.size w' b L ∧ Below w.heap.size z w') := Lib.hid (fun z hz hB => by
        have e1 : ∀ x : Int, IntKind.u32.wrap x = x % 4294967296 := fun _ => rfl
        have e : IntKind.u32.wrap (f + IntKind.u32.wrap (64 * s)) = stepP f s 64 := by
          rw [e1, e1]
          unfold stepP
          omega
        have := rg_add w.heap.size b L (stepP f s 64) z hz hB (stepP_bd f s 64)
        rw [HFU.out.1] at this
        rw [e]
        exact this)
      repeat ((first
        | (refine Run.takes (v := ?_) ?_ ?_; rotate_left; (· intro w' hS'; go_simp; (try with_reducible rfl)))
        | (refine Run.takesG (v := ?_) ?_ ?_ ?_; rotate_left; (· simp only [List.getElem?_cons_zero, List.getElem?_cons_succ]); (· intro w' hS'; go_simp; (try with_reducible rfl)))
        | (refine Run.skipsT ?_ ?_; (· simp only [List.getElem?_cons_zero, List.getElem?_cons_succ]))
        | (refine Run.skipsF ?_ ?_; (· simp only [List.getElem?_cons_zero, List.getElem?_cons_succ]))
        | (refine Run.skipsU ?_ ?_; (· simp only [List.getElem?_cons_zero, List.getElem?_cons_succ]))
        | (refine Run.passT ?_ ?_; (· simp only [List.getElem?_cons_zero, List.getElem?_cons_succ]))
        | (refine Run.passF ?_ ?_; (· simp only [List.getElem?_cons_zero, List.getElem?_cons_succ]))
        | (refine Run.passU ?_ ?_; (· simp only [List.getElem?_cons_zero, List.getElem?_cons_succ]))
        | (refine Run.runs ?_
           (first
           | (refine Run.callF 14 (by kernel_rfl) (fun hS => HA64.out _ HP8.out hS.size) rfl ?_)
           | (refine Run.callG 14 (by kernel_rfl) ?_ (fun hS => HA64.out _ HP8.out hS.size) rfl ?_; (· simp only [List.getElem?_cons_zero, List.getElem?_cons_succ]))
           | fail)
           (first
           | (rintro hS e w' ⟨rfl, hp, hb⟩; have HP9 := Lib.hid hp; refine ⟨_, rfl, hS.trans hb, ?_⟩; clear hp)
           | (rintro hS e w' ⟨rfl, rfl⟩; refine ⟨_, rfl, hS, ?_⟩)
           | fail))
        | fail); simp only [Act.put, List.setIfInBounds_toArray, List.set_cons_zero, List.set_cons_succ])
      have HA0 : Hid (∀ z, Rg w.heap.size z b L → w.heap.size ≤ z.heap.size → Calls Try.prog 14 #[.pointer (some ⟨b, 0, none⟩), .int .u32 f] z fun e w' => e = .returned (.int .i64 7) ∧ Below w.heap.size z w') := Lib.hid (fun z hz hB => by
        have := rg_add w.heap.size b L f z hz hB HBF.out
        rw [← HZ.out, HFU.out.2] at this
        rw [HZ.out] at this
        exact this.mono fun e w' h => ⟨h.1, h.2.2⟩)
      repeat ((first
        | (refine Run.takes (v := ?_) ?_ ?_; rotate_left; (· intro w' hS'; go_simp; (try with_reducible rfl)))
        | (refine Run.takesG (v := ?_) ?_ ?_ ?_; rotate_left; (· simp only [List.getElem?_cons_zero, List.getElem?_cons_succ]); (· intro w' hS'; go_simp; (try with_reducible rfl)))
        | (refine Run.skipsT ?_ ?_; (· simp only [List.getElem?_cons_zero, List.getElem?_cons_succ]))
        | (refine Run.skipsF ?_ ?_; (· simp only [List.getElem?_cons_zero, List.getElem?_cons_succ]))
        | (refine Run.skipsU ?_ ?_; (· simp only [List.getElem?_cons_zero, List.getElem?_cons_succ]))
        | (refine Run.passT ?_ ?_; (· simp only [List.getElem?_cons_zero, List.getElem?_cons_succ]))
        | (refine Run.passF ?_ ?_; (· simp only [List.getElem?_cons_zero, List.getElem?_cons_succ]))
        | (refine Run.passU ?_ ?_; (· simp only [List.getElem?_cons_zero, List.getElem?_cons_succ]))
        | (refine Run.runs ?_
           (first
           | (refine Run.callF 14 (by kernel_rfl) (fun hS => HA0.out _ HP9.out hS.size) rfl ?_)
           | (refine Run.callG 14 (by kernel_rfl) ?_ (fun hS => HA0.out _ HP9.out hS.size) rfl ?_; (· simp only [List.getElem?_cons_zero, List.getElem?_cons_succ]))
           | fail)
           (first
           | (rintro hS e w' ⟨rfl, rfl⟩; refine ⟨_, rfl, hS, ?_⟩)
           | (rintro hS e w' ⟨rfl, hb⟩; refine ⟨_, rfl, hS.trans hb, ?_⟩)
           | fail))
        | fail); simp only [Act.put, List.setIfInBounds_toArray, List.set_cons_zero, List.set_cons_succ])
      repeat ((first
        | (refine Run.takes (v := ?_) ?_ ?_; rotate_left; (· intro w' hS'; go_simp; (try with_reducible rfl)))
        | (refine Run.takesG (v := ?_) ?_ ?_ ?_; rotate_left; (· simp only [List.getElem?_cons_zero, List.getElem?_cons_succ]); (· intro w' hS'; go_simp; (try with_reducible rfl)))
        | (refine Run.skipsT ?_ ?_; (· simp only [List.getElem?_cons_zero, List.getElem?_cons_succ]))
        | (refine Run.skipsF ?_ ?_; (· simp only [List.getElem?_cons_zero, List.getElem?_cons_succ]))
        | (refine Run.skipsU ?_ ?_; (· simp only [List.getElem?_cons_zero, List.getElem?_cons_succ]))
        | (refine Run.passT ?_ ?_; (· simp only [List.getElem?_cons_zero, List.getElem?_cons_succ]))
        | (refine Run.passF ?_ ?_; (· simp only [List.getElem?_cons_zero, List.getElem?_cons_succ]))
        | (refine Run.passU ?_ ?_; (· simp only [List.getElem?_cons_zero, List.getElem?_cons_succ]))
        | (refine Run.runs ?_
           (first
           | (refine Run.callF 14 (by kernel_rfl) (fun hS => rgadd_nil f _) rfl ?_)
           | (refine Run.callG 14 (by kernel_rfl) ?_ (fun hS => rgadd_nil f _) rfl ?_; (· simp only [List.getElem?_cons_zero, List.getElem?_cons_succ]))
           | (refine Run.callF 12 (by kernel_rfl) (fun hS => rgdrop_nil f _) rfl ?_)
           | (refine Run.callG 12 (by kernel_rfl) ?_ (fun hS => rgdrop_nil f _) rfl ?_; (· simp only [List.getElem?_cons_zero, List.getElem?_cons_succ]))
           | (refine Run.callF 27 (by kernel_rfl) (fun hS => rghas_nil f _) rfl ?_)
           | (refine Run.callG 27 (by kernel_rfl) ?_ (fun hS => rghas_nil f _) rfl ?_; (· simp only [List.getElem?_cons_zero, List.getElem?_cons_succ]))
           | (refine Run.callF 25 (by kernel_rfl) (fun hS => rgheirs_nil f 3 _) rfl ?_)
           | (refine Run.callG 25 (by kernel_rfl) ?_ (fun hS => rgheirs_nil f 3 _) rfl ?_; (· simp only [List.getElem?_cons_zero, List.getElem?_cons_succ]))
           | (refine Run.callF 24 (by kernel_rfl) (fun hS => rgpoints_nil _) rfl ?_)
           | (refine Run.callG 24 (by kernel_rfl) ?_ (fun hS => rgpoints_nil _) rfl ?_; (· simp only [List.getElem?_cons_zero, List.getElem?_cons_succ]))
           | (refine Run.callF 16 (by kernel_rfl) (fun hS => rgfork_nil _) rfl ?_)
           | (refine Run.callG 16 (by kernel_rfl) ?_ (fun hS => rgfork_nil _) rfl ?_; (· simp only [List.getElem?_cons_zero, List.getElem?_cons_succ]))
           | fail)
           (first
           | (rintro hS e w' ⟨ax, cx, rfl, hcx, hb⟩; refine ⟨_, rfl, nest hS hb, ?_⟩)
           | (rintro hS e w' ⟨rfl, rfl⟩; refine ⟨_, rfl, hS, ?_⟩)
           | (rintro hS e w' ⟨rfl, hb⟩; refine ⟨_, rfl, nest hS hb, ?_⟩)
           | fail))
        | fail); simp only [Act.put, List.setIfInBounds_toArray, List.set_cons_zero, List.set_cons_succ])
      refine Run.ends (fun hS => ?_)
      have HE := Lib.hid hS
      clear hS
      go_wp2_with fail
      go_ret
      exact ⟨rfl, HE.out⟩
end Go.Proofs.Ytpgljdngbiicmaa.ringFull
