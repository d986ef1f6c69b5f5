/- Walk of the law SampleMean. -/
import Derived.Test.YtgkfioloceemcaaSaLaw
import Derived.Test.YtgkfioloceemcaaLdMid
set_option maxRecDepth 4000
namespace Go.Proofs.Ytgkfioloceemcaa.sampleMean
open Go.RowKit Mem
set_option linter.unusedSimpArgs false
set_option linter.unusedVariables false
attribute [local irreducible] Go.Calls

set_option maxRecDepth 100000 in
set_option maxHeartbeats 8000000 in
theorem walk (v : Value) (l : List Ld) (n : Int) (bn : -9223372036854775808 ≤ n ∧ n ≤ 9223372036854775807) (many : Int) (bm : -9223372036854775808 ≤ many ∧ many ≤ 9223372036854775807) (w : World) (h : (kSlice (kPair (kInt .u32) (kInt .i64))).rd w [v] l) :
    Calls Try.prog 4 #[v, .int .i64 n, .int .i64 many] w fun e w' => e = .returned (.bool true) ∧ Below w.heap.size w w' := by
  obtain ⟨hL, hLB⟩ := loads_of_kd h
  have HLR := Lib.hid hL
  have HLB := Lib.hid hLB
  obtain ⟨a, c, rfl, _, _⟩ := hL.form
  obtain ⟨N, hN, hNq⟩ : ∃ N : Int, (0 ≤ N ∧ N ≤ 2147483647) ∧ wrap64 ((IntKind.u64.wrap n).tmod 2147483648) = N := by
    have q0 : 0 ≤ IntKind.u64.wrap n := by rw [IntKind.wrap_u64]; omega
    have q1 : 0 ≤ (IntKind.u64.wrap n).tmod 2147483648 := Int.tmod_nonneg _ q0
    have q2 := Int.tmod_lt_of_pos (IntKind.u64.wrap n) (show (0 : Int) < 2147483648 by omega)
    exact ⟨_, by unfold wrap64; omega, rfl⟩
  obtain ⟨r, hr, hrq⟩ : ∃ r : Nat, r ≤ 49 ∧ wrap64 ((IntKind.u64.wrap many).tmod 50) = r := by
    have q0 : 0 ≤ IntKind.u64.wrap many := by rw [IntKind.wrap_u64]; omega
    have q1 : 0 ≤ (IntKind.u64.wrap many).tmod 50 := Int.tmod_nonneg _ q0
    have q2 := Int.tmod_lt_of_pos (IntKind.u64.wrap many) (show (0 : Int) < 50 by omega)
    exact ⟨((IntKind.u64.wrap many).tmod 50).toNat, by omega, by unfold wrap64; omega⟩
  obtain ⟨M, hM, hMq⟩ : ∃ M : Nat, (1 ≤ M ∧ M ≤ 50) ∧ wrap64 (1 + (r : Int)) = M := ⟨1 + r, by omega, by unfold wrap64; omega⟩
  have HN := Lib.hid hN
  have HM := Lib.hid hM
  clear h hL hLB bn bm hN hM hr
  go_enter Try.func4, Try.ntmps4
  by_cases h80 : l.length > 200
  · have e80 : (l.length : Int) > 200 := by omega
    go_wp2_with (go_at_call 10; refine (saawake_any w).mono ?_; rintro e w2 ⟨rfl, hk⟩)
    go_ret
    exact ⟨rfl, hk⟩
  have e80 : ¬ (l.length : Int) > 200 := by omega
  have HLL : Hid (l.length ≤ 1000000) := Lib.hid (by omega)
  clear h80
  have HAW := Lib.hid (fun z => saawake_any z)
  have HA := Lib.hid (fun z (hz : Below w.heap.size w z) => smean_any _ l z (HLR.out.keep hz) HLB.out HLL.out)
  have HC := Lib.hid (fun z (hz : Below w.heap.size w z) => rmean_any _ l z (HLR.out.keep hz) HLL.out)
  generalize meanV l = mn at *
  have HE := Lib.hid (fun z => smean_any (.slice none 0 0) [] z (Rd.nil none 0 (Nat.zero_le _)) (fun x hx => (nomatch hx)) (Nat.zero_le _))
  rw [show meanV [] = 0 from rfl] at HE
  clear HLR HLB HLL
  go_upto_region 4 with fail
  rw [hNq, hrq, hMq]
  clear hNq hrq hMq e80
  go_wp2_with fail
  go_loopw [7, 8] (fun sv iv wr => ∃ i : Nat, i ≤ M ∧ iv = .int .i64 i ∧ Row ldE 51 w.heap.size wr sv (alikeL N i) ∧ Below w.heap.size w wr) (fun _ iv _ => M - (intOf iv).toNat)
  case atStart => exact ⟨0, Nat.zero_le _, rfl, Row.nil, Below.refl _ _⟩
  case round =>
    obtain ⟨i, hi, rfl, hrow, hkl⟩ := hrel
    have HKL := Lib.hid hkl
    obtain ⟨aL, cL, rfl, _, _⟩ := hrow.rd.form
    have HRL := Lib.hid hrow
    obtain ⟨wp, hwp⟩ : ∃ z, z = wr := ⟨_, rfl⟩
    rw [← hwp] at HRL HKL ⊢
    clear hrow hkl hwp
    have HLN : Hid ((alikeL N i).length ≤ 50) := Lib.hid (by rw [alike_len]; have := HM.out; omega)
    have HMS := Lib.hid (alike_step N i)
    by_cases hlt : i < M
    · have e3 : (i : Int) < (M : Int) := by omega
      have e4 : (i : Int) < 50 := by have := HM.out; omega
      have h32 : (i : Int) % 4294967296 = (i : Int) := by omega
      obtain ⟨A, hAA⟩ : ∃ A, A = alikeL N i := ⟨_, rfl⟩
      rw [← hAA] at HRL HLN HMS ⊢
      clear hAA
      have HX := Lib.hid (Row.lit (E := ldE) wp.heap.size wp #[.int .u32 i, .int .i64 N] [((i : Int), N)] 1 wp.heap.size rfl rfl rfl (Nat.le_refl _) (by simp [maxLen]) : Row ldE 51 wp.heap.size (wp.alloc (.cells #[.int .u32 i, .int .i64 N] 51)) (.slice (some ⟨wp.heap.size, 0, none⟩) 1 1) [((i : Int), N)])
      have HX4 : Hid (Below wp.heap.size wp (wp.alloc (.cells #[.int .u32 i, .int .i64 N] 51))) := Lib.hid (more (Below.refl _ _) _)
      have HROWX := Lib.hid (HRL.out.keep HX4.out)
      have HKX := Lib.hid (nest HKL.out HX4.out)
      go_upto_if 99 with (at_builtin; go_must (refine wpList_append (E := ldE) (B := w.heap.size) (l := A) (m := [((i : Int), N)]) (bytes := 16) ldElem Nat.zero_lt_two rfl (.tmp 27) (.tmp 32) rfl rfl HROWX.out rfl HX.out.rd (by have := HLN.out; simp [maxLen]; omega) (by have := HLN.out; simp; omega) HKX.out.size ?_); intro v9 y9 hr9 hk9 hg9 _)
      have hrf := hr9
      rw [← HMS.out] at hrf
      exact ⟨⟨i + 1, by omega, by go_num, hrf, HKX.out.trans hk9⟩, by simp [intOf]; omega⟩
    · have him : i = M := by omega
      subst him
      have e3 : ¬ (i : Int) < (i : Int) := by omega
      have HOK : Hid (∀ x ∈ alikeL N i, okLd x) := Lib.hid (by
        intro x hx
        have h1 := alike_mem hx
        have hm := HM.out
        have hn := HN.out
        unfold okLd
        omega)
      have HMV := Lib.hid (alike_mean N HN.out (m := i) (by have := HM.out; omega))
      have HB := Lib.hid (fun z (hz : Below wp.heap.size wp z) => smean_any _ (alikeL N i) z (HRL.out.rd.keep hz) HOK.out (by have := HLN.out; omega))
      rw [HMV.out] at HB
      have hw1 : IntKind.u64.wrap N = N := by have := HN.out; rw [IntKind.wrap_u64]; omega
      have hw2 : IntKind.u64.wrap (256 * N) = 256 * N := by have := HN.out; rw [IntKind.wrap_u64]; omega
      clear hlt hi HMS HLN HOK HRL HMV
      go_wp2_with fail
      refine (HAW.out _).mono ?_
      rintro e z1 ⟨rfl, hk1⟩
      have HK1 := Lib.hid hk1
      clear hk1
      go_wp2_with fail
      refine (HA.out _ (nest HKL.out HK1.out)).mono ?_
      rintro e z2 ⟨rfl, hk2⟩
      have HK2 := Lib.hid (nest HK1.out hk2)
      clear hk2 HK1 HA
      go_wp2_with fail
      refine (HC.out _ (nest HKL.out HK2.out)).mono ?_
      rintro e z3 ⟨rfl, hk3⟩
      have HK3 := Lib.hid (nest HK2.out hk3)
      clear hk3 HK2 HC
      go_wp2_with fail
      refine (HB.out _ HK3.out).mono ?_
      rintro e z4 ⟨rfl, hk4⟩
      have HK4 := Lib.hid (nest HK3.out hk4)
      clear hk4 HK3 HB
      go_wp2_with fail
      refine (HE.out _).mono ?_
      rintro e z5 ⟨rfl, hk5⟩
      have HK5 := Lib.hid (nest HK4.out hk5)
      clear hk5 HK4 HE
      go_wp2_with fail
      go_ret
      exact ⟨rfl, nest HKL.out HK5.out⟩
end Go.Proofs.Ytgkfioloceemcaa.sampleMean
