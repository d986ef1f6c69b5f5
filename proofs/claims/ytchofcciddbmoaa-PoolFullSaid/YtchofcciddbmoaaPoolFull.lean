/- Walk of the law PoolFull. -/
import Derived.Test.YtchofcciddbmoaaPoolAwake
set_option maxRecDepth 4000
namespace Go.Proofs.Ytchofcciddbmoaa.poolFull
open Go.RowKit Mem
set_option linter.unusedSimpArgs false
set_option linter.unusedVariables false
attribute [local irreducible] Go.Calls

set_option maxRecDepth 100000 in
set_option maxHeartbeats 2000000 in
theorem walk (v : Value) (l : List Int) (w : World) (h : Rd (intE .u8) w v l) (bl : ∀ x ∈ l, 0 ≤ x ∧ x ≤ 255) :
    Calls Try.prog 4 #[v] w fun e w' => e = .returned (.bool true) ∧ Below w.heap.size w w' := by
  obtain ⟨a, c, rfl, hc1, hm1⟩ := h.form
  have hm1' : c ≤ 9223372036854775807 := hm1
  have H := Lib.hid h
  have BL := Lib.hid bl
  clear h bl
  by_cases h50 : l.length > 50
  · have e1 : (l.length : Int) > 50 := by omega
    go_enter Try.func4, Try.ntmps4
    go_wp2_with fail
    refine (pawake_any w).mono ?_
    rintro e w1 ⟨rfl, hk1⟩
    go_wp2_with fail
    go_ret
    exact ⟨rfl, hk1⟩
  have e1 : ¬ (l.length : Int) > 50 := by omega
  go_enter Try.func4, Try.ntmps4
  go_wp2_with fail
  refine (pnew_any w).mono ?_
  rintro e w1 ⟨b, W, R, rfl, hp, hr, hk⟩
  have HP := Lib.hid (po_new (B := w.heap.size) hp hr (Nat.le_refl _))
  have HK := Lib.hid hk
  clear hp hr hk
  go_wp2_with fail
  go_loopw [4] (fun i wr => ∃ k : Nat, k ≤ 5000 ∧ i = .int .i64 k ∧ Po w.heap.size wr b (List.replicate k l) ∧ Below w.heap.size w wr) (fun i _ => 5000 - (intOf i).toNat)
  case atStart => exact ⟨0, Nat.zero_le _, rfl, HP.out, HK.out⟩
  case round =>
    obtain ⟨k, hk5, rfl, hp, hk⟩ := hrel
    have HP1 := Lib.hid hp
    have HK1 := Lib.hid hk
    have H1 := Lib.hid (H.out.keep hk)
    clear hp hk HP HK
    by_cases hlt : k < 5000
    · go_wp2_with fail
      refine (po_push w.heap.size b _ _ l wr HP1.out HK1.out.size H1.out (by unfold pmax; omega) BL.out (by rw [List.length_replicate]; exact hlt)).mono ?_
      rintro e z ⟨rfl, hp, hb⟩
      rw [← List.replicate_succ'] at hp
      have HP2 := Lib.hid hp
      have HK2 := Lib.hid (HK1.out.trans hb)
      clear hp hb
      go_wp2_with fail
      exact ⟨⟨k + 1, by omega, by go_num, HP2.out, HK2.out⟩, by simp [intOf]; omega⟩
    · have hkn : k = 5000 := by omega
      have hlen : (List.replicate k l).length = 5000 := by rw [List.length_replicate]; exact hkn
      have HLEN := Lib.hid hlen
      clear hlen
      generalize List.replicate k l = L at *
      go_wp2_with fail
      refine (ptake_nil 0 wr).mono ?_
      rintro e z1 ⟨ta, tc, rfl, hk⟩
      have HP2 := Lib.hid (HP1.out.keep hk)
      have HK2 := Lib.hid (nest HK1.out hk)
      have H2 := Lib.hid (H1.out.keep hk)
      clear hk
      go_wp2_with fail
      refine (ppeek_nil 0 z1 (by omega)).mono ?_
      rintro e z2 ⟨pa, pc, rfl, hk⟩
      have HP3 := Lib.hid (HP2.out.keep hk)
      have HK3 := Lib.hid (nest HK2.out hk)
      have H3 := Lib.hid (H2.out.keep hk)
      clear hk
      go_wp2_with fail
      refine (pawake_any z2).mono ?_
      rintro e z3 ⟨rfl, hk⟩
      obtain ⟨W, R, hpo, hR⟩ := HP3.out.keep hk
      have HQ3 := Lib.hid hpo
      have HK4 := Lib.hid (nest HK3.out hk)
      have H4 := Lib.hid (H3.out.keep hk)
      clear hk hpo hR
      go_wp2_with fail
      refine (ppush_full b W R L _ l z3 HQ3.out H4.out HLEN.out).mono ?_
      rintro e z4 ⟨rfl, hk⟩
      have HQ4 := Lib.hid (HQ3.out.keep hk)
      have HK5 := Lib.hid (nest HK4.out hk)
      have H5 := Lib.hid (H4.out.keep hk)
      clear hk
      go_wp2_with fail
      refine (pdouble_full b W R L 3 z4 HQ4.out (by rw [HLEN.out]; omega) HLEN.out).mono ?_
      rintro e z5 ⟨rfl, hk⟩
      have HQ5 := Lib.hid (HQ4.out.keep hk)
      have HK6 := Lib.hid (nest HK5.out hk)
      have H6 := Lib.hid (H5.out.keep hk)
      clear hk
      go_wp2_with fail
      refine (pdouble_none b W R L (-1) z5 HQ5.out (by omega) (by omega)).mono ?_
      rintro e z6 ⟨rfl, hk⟩
      have HQ6 := Lib.hid (HQ5.out.keep hk)
      have HK7 := Lib.hid (nest HK6.out hk)
      have H7 := Lib.hid (H6.out.keep hk)
      clear hk
      go_wp2_with fail
      refine (plen_any b W R L z6 HQ6.out).mono ?_
      rintro e z7 ⟨rfl, hk⟩
      rw [HLEN.out]
      have HK8 := Lib.hid (nest HK7.out hk)
      have H8 := Lib.hid (H7.out.keep hk)
      clear hk
      go_wp2_with fail
      refine (ppush_nil _ l z7 H8.out).mono ?_
      rintro e z8 ⟨rfl, hk⟩
      have HK9 := Lib.hid (nest HK8.out hk)
      clear hk
      go_wp2_with fail
      refine (pdouble_nil 0 z8).mono ?_
      rintro e z9 ⟨rfl, hk⟩
      have HK10 := Lib.hid (nest HK9.out hk)
      clear hk
      go_wp2_with fail
      refine (plen_nil z9).mono ?_
      rintro e z10 ⟨rfl, hk⟩
      have HK11 := Lib.hid (nest HK10.out hk)
      clear hk
      go_wp2_with fail
      refine (pfork_nil z10).mono ?_
      rintro e z11 ⟨rfl, hk⟩
      have HK12 := Lib.hid (nest HK11.out hk)
      clear hk
      go_wp2_with fail
      go_ret
      exact ⟨rfl, HK12.out⟩
end Go.Proofs.Ytchofcciddbmoaa.poolFull
