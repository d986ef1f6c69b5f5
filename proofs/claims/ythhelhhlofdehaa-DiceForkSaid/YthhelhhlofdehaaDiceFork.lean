/- Walk of the law DiceFork. -/
import Derived.Test.YthhelhhlofdehaaDiceAwake
set_option maxRecDepth 4000
namespace Go.Proofs.Ythhelhhlofdehaa.diceFork
open Go.RowKit Mem
set_option linter.unusedSimpArgs false
set_option linter.unusedVariables false
attribute [local irreducible] Go.Calls

theorem rem20 (x : Int) : ∃ a : Nat, a < 20 ∧ (IntKind.u64.wrap x) % 20 = (a : Int) := by
  have h0 : 0 ≤ IntKind.u64.wrap x % 20 := Int.emod_nonneg _ (by decide)
  have h1 : IntKind.u64.wrap x % 20 < 20 := Int.emod_lt_of_pos _ (by decide)
  exact ⟨(IntKind.u64.wrap x % 20).toNat, by omega, by omega⟩
set_option maxHeartbeats 2000000 in
theorem walk (seed : Int) (bs : 0 ≤ seed ∧ seed ≤ 18446744073709551615) (n : Int) (bn : -9223372036854775808 ≤ n ∧ n ≤ 9223372036854775807) (ah : Int) (bah : -9223372036854775808 ≤ ah ∧ ah ≤ 9223372036854775807) (w : World) :
    Calls Try.prog 8 #[.int .u64 seed, .int .i64 n, .int .i64 ah] w fun e w' => e = .returned (.bool true) ∧ Below w.heap.size w w' := by
  obtain ⟨m, hm, hmod⟩ := rem20 ah
  have htm : (IntKind.u64.wrap ah).tmod 20 = (m : Int) := by
    rw [Int.tmod_eq_emod_of_nonneg (by rw [IntKind.wrap_u64]; omega)]
    exact hmod
  go_enter Try.func8, Try.ntmps8
  go_wp2_with fail
  refine (dnew_any seed bs w).mono ?_
  rintro e w1 ⟨b, rfl, hb, hd, hk⟩
  have HD := Lib.hid hd
  have HK := Lib.hid hk
  clear hd hk
  go_wp2_with fail
  refine (dawake_any w1).mono ?_
  rintro e w2 ⟨rfl, hk2⟩
  have HD2 := Lib.hid (HD.out.keep hk2)
  have HK2 := Lib.hid (nest HK.out hk2)
  clear hk2 HD HK
  go_wp2_with fail
  go_loopw [8] (fun i wr => ∃ (k : Nat) (s : Int), k ≤ m ∧ i = .int .i64 k ∧ (0 ≤ s ∧ s ≤ 18446744073709551615) ∧ DAt wr b s ∧ Below w.heap.size w wr) (fun i _ => m - (intOf i).toNat)
  case atStart => exact ⟨0, seed, Nat.zero_le _, rfl, bs, HD2.out, HK2.out⟩
  case round =>
    obtain ⟨k, s, hkm, rfl, bs', hd, hkk⟩ := hrel
    have HD3 := Lib.hid hd
    have HK3 := Lib.hid hkk
    clear hd hkk HD2 HK2
    by_cases hlt : k < m
    · go_wp2_with fail
      refine (dstep_any b s bs' wr HD3.out).mono ?_
      rintro e z ⟨rfl, hd, ho⟩
      have HD4 := Lib.hid hd
      have HK4 := Lib.hid (HK3.out.trans (ho.below hb HK3.out.size))
      clear hd ho
      go_wp2_with fail
      exact ⟨⟨k + 1, _, by omega, by go_num, dnext_bd s, HD4.out, HK4.out⟩, by simp [intOf]; omega⟩
    · have hkn : k = m := by omega
      subst hkn
      go_wp2_with fail
      refine (dfork_any b s wr HD3.out).mono ?_
      rintro e z ⟨b2, rfl, hb2, hd2, hk2⟩
      have hlt1 := HD3.out.lt
      have hb2w : w.heap.size ≤ b2 := by have := HK3.out.size; omega
      have HD4 := Lib.hid (HD3.out.keep hk2)
      have HE4 := Lib.hid hd2
      have HK4 := Lib.hid (nest HK3.out hk2)
      clear hd2 hk2 HD3 HK3
      go_wp2_with fail
      go_loopw [10] (fun i wz => ∃ (k : Nat) (s : Int), k ≤ 10 ∧ i = .int .i64 k ∧ (0 ≤ s ∧ s ≤ 18446744073709551615) ∧ DAt wz b s ∧ DAt wz b2 s ∧ Below w.heap.size w wz) (fun i _ => 10 - (intOf i).toNat)
      case atStart => exact ⟨0, s, Nat.zero_le _, rfl, bs', HD4.out, HE4.out, HK4.out⟩
      case round =>
        obtain ⟨k, s, hk10, rfl, bs2, hd, he, hkk⟩ := hrel
        have HD5 := Lib.hid hd
        have HE5 := Lib.hid he
        have HK5 := Lib.hid hkk
        clear hd he hkk HD4 HE4 HK4
        by_cases hlt : k < 10
        · go_wp2_with fail
          refine (ddroll_any b s bs2 n bn wr HD5.out).mono ?_
          rintro e z1 ⟨rfl, hd, ho⟩
          have HD6 := Lib.hid hd
          have HE6 := Lib.hid (HE5.out.only ho (by omega))
          have HK6 := Lib.hid (HK5.out.trans (ho.below hb HK5.out.size))
          clear hd ho
          go_wp2_with fail
          refine (ddroll_any b2 s bs2 n bn z1 HE6.out).mono ?_
          rintro e z2 ⟨rfl, he, ho⟩
          have HD7 := Lib.hid (HD6.out.only ho (by omega))
          have HE7 := Lib.hid he
          have HK7 := Lib.hid (HK6.out.trans (ho.below hb2w HK6.out.size))
          clear he ho
          have bda := dafter_bd s n bs2
          go_wp2_with fail
          exact ⟨⟨k + 1, _, by omega, by go_num, bda, HD7.out, HE7.out, HK7.out⟩, by simp [intOf]; omega⟩
        · go_wp2_with fail
          refine (dstep_any b2 s bs2 wr HE5.out).mono ?_
          rintro e z1 ⟨rfl, he, ho⟩
          have HD6 := Lib.hid (HD5.out.only ho (by omega))
          have HK6 := Lib.hid (HK5.out.trans (ho.below hb2w HK5.out.size))
          clear he ho
          go_wp2_with fail
          refine (dfork_any b s z1 HD6.out).mono ?_
          rintro e z2 ⟨b3, rfl, hb3, hd3, hk3⟩
          have hlt6 := HD6.out.lt
          have hb3w : w.heap.size ≤ b3 := by have := HK6.out.size; omega
          have HD7 := Lib.hid (HD6.out.keep hk3)
          have HE7 := Lib.hid hd3
          have HK7 := Lib.hid (nest HK6.out hk3)
          clear hd3 hk3
          go_wp2_with fail
          refine (dstep_any b3 s bs2 z2 HE7.out).mono ?_
          rintro e z3 ⟨rfl, he, ho⟩
          have HD8 := Lib.hid (HD7.out.only ho (by omega))
          have HK8 := Lib.hid (HK7.out.trans (ho.below hb3w HK7.out.size))
          clear he ho
          go_wp2_with fail
          refine (dstep_any b s bs2 z3 HD8.out).mono ?_
          rintro e z4 ⟨rfl, he, ho⟩
          have HK9 := Lib.hid (HK8.out.trans (ho.below hb HK8.out.size))
          clear he ho
          go_wp2_with fail
          go_ret
          exact ⟨by simp, HK9.out⟩
end Go.Proofs.Ythhelhhlofdehaa.diceFork
