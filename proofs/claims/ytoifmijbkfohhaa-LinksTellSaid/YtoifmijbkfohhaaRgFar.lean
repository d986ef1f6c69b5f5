/- The document's answers for package links (petasosref11.Far). -/
import Derived.Test.YtoifmijbkfohhaaDiceRef
set_option maxRecDepth 4000
namespace Go.Proofs.Ytoifmijbkfohhaa
open Go.RowKit Mem
set_option linter.unusedSimpArgs false
set_option linter.unusedVariables false
attribute [local irreducible] Go.Calls

theorem droll_32 (s : Int) : ∃ k : Nat, k < 32 ∧ droll s 32 = (k : Int) := by
  unfold droll
  rw [if_neg (by omega)]
  exact ⟨(dmix (dnext s) % 32).toNat, by omega, by omega⟩
/-- how far one looks, from a state of the dice; the state behind it -/
def farV (s : Int) : Int := 2 ^ (droll s 32).toNat + dmix (dnext (dnext s)) % 2 ^ (droll s 32).toNat
def farS (s : Int) : Int := dnext (dnext s)
set_option maxRecDepth 100000 in
set_option maxHeartbeats 4000000 in
theorem rfar_any (b : Nat) (s : Int) (bs : 0 ≤ s ∧ s ≤ 18446744073709551615) (w : World) (h : Blk w b 33 #[.int .u64 s]) :
    Calls Try.prog 13 #[.pointer (some ⟨b, 0, none⟩)] w fun e w' => e = .returned (.int .u32 (farV s)) ∧ Blk w' b 33 #[.int .u64 (farS s)] ∧ Only b w w' := by
  obtain ⟨k, hk, hd⟩ := droll_32 s
  have HD := Lib.hid hd
  have hda : dafter s 32 = dnext s := by unfold dafter; rw [if_neg (by omega)]
  have HDA := Lib.hid hda
  have HR := Lib.hid (rdroll_any b s bs 32 (by omega) w h)
  rw [hd, hda] at HR
  clear hd hda
  go_enter Try.func13, Try.ntmps13
  go_wp2_with fail
  refine HR.out.mono ?_
  rintro e w1 ⟨rfl, hb, ho⟩
  have HB := Lib.hid hb
  have HO := Lib.hid ho
  clear hb ho HR
  go_wp2_with fail
  refine (rdstep_any b (dnext s) (dnext_bd s) w1 HB.out).mono ?_
  rintro e w2 ⟨rfl, hb, ho⟩
  have HB2 := Lib.hid hb
  have HO2 := Lib.hid (HO.out.trans ho)
  clear hb ho HB HO
  obtain ⟨x, hx⟩ : ∃ x, x = dmix (dnext (dnext s)) := ⟨_, rfl⟩
  have hxb : 0 ≤ x ∧ x ≤ 18446744073709551615 := by rw [hx]; exact dmix_bd _
  rw [← hx]
  have hp32 : (2 : Int) ^ k ≤ 2147483648 := by
    have : (2 : Int) ^ k ≤ 2 ^ 31 := by
      have h := Nat.pow_le_pow_right (n := 2) (by decide) (show k ≤ 31 by omega)
      exact_mod_cast h
    simpa using this
  have hp1 : (1 : Int) ≤ (2 : Int) ^ k := by
    have h := Nat.one_le_two_pow (n := k)
    exact_mod_cast h
  obtain ⟨P, hP⟩ : ∃ P : Int, P = 2 ^ k := ⟨_, rfl⟩
  rw [← hP] at hp32 hp1
  have HF : Hid (farV s = P + x % P) := Lib.hid (by unfold farV; rw [HD.out, ← hx, Int.toNat_natCast, ← hP])
  have hm1 : P % 4294967296 = P := Int.emod_eq_of_lt (by omega) (by omega)
  have hm2 : P % 18446744073709551616 = P := Int.emod_eq_of_lt (by omega) (by omega)
  have hr0 := Int.emod_nonneg x (show P ≠ 0 by omega)
  have hr1 := Int.emod_lt_of_pos x (show 0 < P by omega)
  have hz : (P == 0) = false := beq_eq_false_iff_ne.2 (by omega)
  have htm : x.tmod P = x % P := Int.tmod_eq_emod_of_nonneg hxb.1
  clear hx
  rw [← hP]
  go_wp2_with fail
  go_ret
  refine ⟨?_, HB2.out, HO2.out⟩
  rw [HF.out, hP]
  rw [hP] at hm1
  simp only [hm1]
  rfl
theorem farV_bd (s : Int) : 1 ≤ farV s ∧ farV s ≤ 4294967295 := by
  obtain ⟨k, hk, hd⟩ := droll_32 s
  unfold farV
  rw [hd, Int.toNat_natCast]
  have hp32 : (2 : Int) ^ k ≤ 2147483648 := by
    have : (2 : Int) ^ k ≤ 2 ^ 31 := by
      have h := Nat.pow_le_pow_right (n := 2) (by decide) (show k ≤ 31 by omega)
      exact_mod_cast h
    simpa using this
  have hp1 : (1 : Int) ≤ (2 : Int) ^ k := by
    have h := Nat.one_le_two_pow (n := k)
    exact_mod_cast h
  generalize (2 : Int) ^ k = P at *
  have hr0 := Int.emod_nonneg (dmix (dnext (dnext s))) (show P ≠ 0 by omega)
  have hr1 := Int.emod_lt_of_pos (dmix (dnext (dnext s))) (show 0 < P by omega)
  omega
end Go.Proofs.Ytoifmijbkfohhaa
