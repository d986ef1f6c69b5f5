/- Walk of the law DiceWithin. -/
import Derived.Test.YthhelhhlofdehaaDiceAwake
set_option maxRecDepth 4000
namespace Go.Proofs.Ythhelhhlofdehaa.diceWithin
open Go.RowKit Mem
set_option linter.unusedSimpArgs false
set_option linter.unusedVariables false
attribute [local irreducible] Go.Calls

theorem roll_bd (s n : Int) : (n < 1 → droll s n = 0) ∧ (1 ≤ n → 0 ≤ droll s n ∧ droll s n < n) := by
  unfold droll
  constructor
  · intro h; rw [if_pos h]
  · intro h
    rw [if_neg (by omega)]
    exact ⟨Int.emod_nonneg _ (by omega), Int.emod_lt_of_pos _ (by omega)⟩
set_option maxHeartbeats 2000000 in
theorem walk (seed : Int) (bs : 0 ≤ seed ∧ seed ≤ 18446744073709551615) (n : Int) (bn : -9223372036854775808 ≤ n ∧ n ≤ 9223372036854775807) (w : World) :
    Calls Try.prog 7 #[.int .u64 seed, .int .i64 n] w fun e w' => e = .returned (.bool true) ∧ Below w.heap.size w w' := by
  go_enter Try.func7, Try.ntmps7
  go_wp2_with fail
  refine (dnew_any seed bs w).mono ?_
  rintro e w1 ⟨b, rfl, hb, hd, hk⟩
  have HD := Lib.hid hd
  have HK := Lib.hid hk
  have hlt := hd.lt
  clear hd hk
  go_wp2_with fail
  refine (dnew_any seed bs w1).mono ?_
  rintro e w1' ⟨b2, rfl, hb2, hd2, hk2⟩
  have hb2w : w.heap.size ≤ b2 := by have := HK.out.size; omega
  have HD1 := Lib.hid (HD.out.keep hk2)
  have HE1 := Lib.hid hd2
  have HK1 := Lib.hid (nest HK.out hk2)
  clear hd2 hk2 HD HK
  go_wp2_with fail
  refine (dawake_any w1').mono ?_
  rintro e w2 ⟨rfl, hk2⟩
  have HD2 := Lib.hid (HD1.out.keep hk2)
  have HE2 := Lib.hid (HE1.out.keep hk2)
  have HK2 := Lib.hid (nest HK1.out hk2)
  clear hk2 HD1 HE1 HK1
  go_wp2_with fail
  go_loopw [7] (fun i wr => ∃ (k : Nat) (s : Int), k ≤ 30 ∧ i = .int .i64 k ∧ (0 ≤ s ∧ s ≤ 18446744073709551615) ∧ DAt wr b s ∧ DAt wr b2 s ∧ Below w.heap.size w wr) (fun i _ => 30 - (intOf i).toNat)
  case atStart => exact ⟨0, seed, Nat.zero_le _, rfl, bs, HD2.out, HE2.out, HK2.out⟩
  case round =>
    obtain ⟨k, s, hk10, rfl, bs2, hd, he, hkk⟩ := hrel
    have HD5 := Lib.hid hd
    have HE5 := Lib.hid he
    have HK5 := Lib.hid hkk
    clear hd he hkk HD2 HE2 HK2
    by_cases hlt : k < 30
    · go_wp2_with fail
      refine (ddroll_any b s bs2 n bn wr HD5.out).mono ?_
      rintro e z1 ⟨rfl, hd, ho⟩
      have HD6 := Lib.hid hd
      have HE6 := Lib.hid (HE5.out.only ho (by omega))
      have HK6 := Lib.hid (HK5.out.trans (ho.below hb HK5.out.size))
      clear hd ho
      go_wp2_with fail
      refine (ddroll_any b2 s bs2 n bn z1 HE6.out).mono ?_
      rintro e z2 ⟨rfl, he, ho⟩
      have HD7 := Lib.hid (HD6.out.only ho (by omega))
      have HE7 := Lib.hid he
      have HK7 := Lib.hid (HK6.out.trans (ho.below hb2w HK6.out.size))
      clear he ho
      have bda := dafter_bd s n bs2
      obtain ⟨r1, r2⟩ := roll_bd s n
      generalize droll s n = r at *
      by_cases hn : n < 1
      · have hr := r1 hn
        subst hr
        clear r1 r2
        have hn1 : ¬ n ≥ 1 := by omega
        go_wp2_with fail
        exact ⟨⟨k + 1, _, by omega, by go_num, bda, HD7.out, HE7.out, HK7.out⟩, by simp [intOf]; omega⟩
      · obtain ⟨q1, q2⟩ := r2 (by omega)
        clear r1 r2
        have hn1 : n ≥ 1 := by omega
        go_wp2_with fail
        exact ⟨⟨k + 1, _, by omega, by go_num, bda, HD7.out, HE7.out, HK7.out⟩, by simp [intOf]; omega⟩
    · go_wp2_with fail
      refine (dstep_nil wr).mono ?_
      rintro e z1 ⟨rfl, hk1⟩
      have HK6 := Lib.hid (nest HK5.out hk1)
      clear hk1
      go_wp2_with fail
      refine (ddroll_nil n bn z1).mono ?_
      rintro e z2 ⟨rfl, hk1⟩
      have HK7 := Lib.hid (nest HK6.out hk1)
      clear hk1
      go_wp2_with fail
      refine (dfork_nil z2).mono ?_
      rintro e z3 ⟨rfl, hk1⟩
      have HK8 := Lib.hid (nest HK7.out hk1)
      clear hk1
      go_wp2_with fail
      go_ret
      exact ⟨rfl, HK8.out⟩
end Go.Proofs.Ythhelhhlofdehaa.diceWithin
