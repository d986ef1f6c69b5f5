/- Walk of the law LinksFar. -/
import Derived.Test.YtoifmijbkfohhaaLkLaw
set_option maxRecDepth 4000
namespace Go.Proofs.Ytoifmijbkfohhaa.linksFar
open Go.RowKit Mem
set_option linter.unusedSimpArgs false
set_option linter.unusedVariables false
attribute [local irreducible] Go.Calls

set_option maxRecDepth 100000 in
set_option maxHeartbeats 8000000 in
theorem walk (s : Int) (bs : 0 ≤ s ∧ s ≤ 18446744073709551615) (w : World) :
    Calls Try.prog 5 #[.int .u64 s] w fun e w' => e = .returned (.bool true) ∧ Below w.heap.size w w' := by
  have HBS := Lib.hid bs
  clear bs
  go_enter Try.func5, Try.ntmps5
  go_upto_region 2 with (go_at_call 7; refine (dnew_any s HBS.out w).mono ?_; rintro e w2 ⟨d, rfl, hd0, hd, hk⟩)
  have hX : Below w2.heap.size w2 (w2.alloc (.cells #[.int .u64 s] 33)) := more (Below.refl _ _) _
  have HD := Lib.hid (hd.keep hX)
  have HE : Hid (Blk (w2.alloc (.cells #[.int .u64 s] 33)) w2.heap.size 33 #[.int .u64 s]) := Lib.hid (Blk.new _ _ _)
  have HDE : Hid (d ≠ w2.heap.size ∧ w.heap.size ≤ d ∧ w.heap.size ≤ w2.heap.size) := Lib.hid ⟨fun e => by have := hd.lt; omega, hd0, hk.size⟩
  have HK := Lib.hid (nest hk hX)
  clear hd hd0 hk hX
  generalize w2.alloc (.cells #[.int .u64 s] 33) = w3 at *
  generalize w2.heap.size = e at *
  go_upto_region 4 with (go_at_call 8; refine (lkawake_any w3).mono ?_; rintro e w4 ⟨rfl, hk⟩)
  have HD4 := Lib.hid (HD.out.keep hk)
  have HE4 := Lib.hid (HE.out.keep hk)
  have HK4 := Lib.hid (nest HK.out hk)
  clear hk HD HE HK
  go_upto_block 99 with fail
  go_loopw [5] (fun iv wr => ∃ i : Nat, i ≤ 30 ∧ iv = .int .i64 i ∧ DAt wr d (stS s i) ∧ Blk wr e 33 #[.int .u64 (stS s i)] ∧ Below w.heap.size w wr) (fun iv _ => 30 - (intOf iv).toNat)
  case atStart => exact ⟨0, Nat.zero_le _, rfl, HD4.out, HE4.out, HK4.out⟩
  case round =>
    obtain ⟨i, hi, rfl, hd, he, hk⟩ := hrel
    have HD := Lib.hid hd
    have HE := Lib.hid he
    have HK := Lib.hid hk
    have HBT := Lib.hid (stS_bd HBS.out i)
    have HST : Hid (stS s (i + 1) = farS (stS s i)) := Lib.hid rfl
    obtain ⟨t, ht⟩ : ∃ x, x = stS s i := ⟨_, rfl⟩
    rw [← ht] at HD HE HBT HST
    clear hd he hk ht HD4 HE4 HK4
    by_cases hlt : i < 30
    · have hi30 : (i : Int) < 30 := by omega
      obtain ⟨k, hk, hdr⟩ := droll_32 t
      have hda : dafter t 32 = dnext t := by unfold dafter; rw [if_neg (by omega)]
      have HRO := Lib.hid (rdroll_any e t HBT.out 32 (by omega) wr HE.out)
      rw [hdr, hda] at HRO
      obtain ⟨fv, hfv⟩ : ∃ x, x = farV t := ⟨_, rfl⟩
      obtain ⟨x, hx⟩ : ∃ x, x = dmix (dnext (dnext t)) := ⟨_, rfl⟩
      have hxb : 0 ≤ x ∧ x ≤ 18446744073709551615 := by rw [hx]; exact dmix_bd _
      have hp32 : (2 : Int) ^ k ≤ 2147483648 := by
        have : (2 : Int) ^ k ≤ 2 ^ 31 := by
          have h := Nat.pow_le_pow_right (n := 2) (by decide) (show k ≤ 31 by omega)
          exact_mod_cast h
        simpa using this
      have hp1 : (1 : Int) ≤ (2 : Int) ^ k := by
        have h := Nat.one_le_two_pow (n := k)
        exact_mod_cast h
      obtain ⟨P, hP⟩ : ∃ P : Int, P = 2 ^ k := ⟨_, rfl⟩
      rw [← hP] at hp32 hp1
      have hF : fv = P + x % P := by rw [hfv]; unfold farV; rw [hdr, ← hx, Int.toNat_natCast, ← hP]
      have hr0 := Int.emod_nonneg x (show P ≠ 0 by omega)
      have hr1 := Int.emod_lt_of_pos x (show 0 < P by omega)
      have HFV := Lib.hid hfv
      have hf1 : P ≤ fv := by omega
      have hf2 : fv < 2 * P := by omega
      have HKK := Lib.hid hk
      clear hfv hx hdr hda hF hr0 hr1 hxb
      go_upto_region 8 with (go_at_call 18; refine HRO.out.mono ?_; rintro x1 w5 ⟨rfl, hb5, ho5⟩)
      go_upto_region 9 with (go_at_call 15; refine (rdstep_any e (dnext t) (dnext_bd _) w5 hb5).mono ?_; rintro x1 w6 ⟨rfl, hb6, ho6⟩)
      have hd6 : DAt w6 d t := (HD.out.only ho5 (HDE.out.1)).only ho6 HDE.out.1
      go_upto_region 10 with (go_at_call 12; refine (HFV.out ▸ lkfar_any d t HBT.out w6 hd6).mono ?_; rintro x1 w7 ⟨rfl, hd7, ho7⟩)
      have HD7 := Lib.hid hd7
      have HE7 := Lib.hid (Blk.only hb6 ho7 (fun x => HDE.out.1 x.symm))
      have HK7 := Lib.hid ((HK.out.trans ((ho5.trans ho6).below HDE.out.2.2 HK.out.size)).trans (ho7.below HDE.out.2.1 (HK.out.trans ((ho5.trans ho6).below HDE.out.2.2 HK.out.size)).size))
      have hmk : min k 64 = k := by omega
      obtain ⟨P2, hP2⟩ : ∃ x, x = 2 * P := ⟨_, rfl⟩
      have e1 : IntKind.u64.wrap (2 ^ min k 64) = P := by rw [hmk, ← hP, IntKind.wrap_u64]; exact Int.emod_eq_of_lt (by omega) (by omega)
      have e2 : IntKind.u64.wrap (2 * 2 ^ min k 64) = P2 := by rw [hmk, ← hP, hP2, IntKind.wrap_u64]; exact Int.emod_eq_of_lt (by omega) (by omega)
      have hg1 : ¬ fv < P := by omega
      have hg2 : ¬ P2 ≤ fv := by omega
      clear hd7 hb5 hb6 ho5 ho6 ho7 hd6 hP hP2 hf1 hf2 hp32 hp1 hk hmk
      go_wp2_with fail
      exact ⟨⟨i + 1, by omega, by go_num, by rw [HST.out]; exact HD7.out, by rw [HST.out]; exact HE7.out, HK7.out⟩, by simp [intOf]; omega⟩
    · have hi30 : ¬ (i : Int) < 30 := by omega
      go_wp2_with fail
      go_ret
      exact ⟨rfl, HK.out⟩
end Go.Proofs.Ytoifmijbkfohhaa.linksFar
