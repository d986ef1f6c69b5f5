/- Walks of package density: what is added, counted, summed up, and within a span. -/
import Derived.Test.YtpfdmjgojpngjaaDnRef3
import Derived.Test.YtpfdmjgojpngjaaSpan
import Derived.Test.YtpfdmjgojpngjaaTurnsMath
set_option maxRecDepth 4000
namespace Go.Proofs.Ytpfdmjgojpngjaa
open Go.RowKit Mem Cir
set_option linter.unusedSimpArgs false
set_option linter.unusedVariables false
attribute [local irreducible] Go.Calls

theorem dmore_any (x n : Int) (bx : 0 ≤ x ∧ x ≤ 4294967295) (bn : -9223372036854775808 ≤ n ∧ n ≤ 9223372036854775807) (w : World) : Calls Try.prog 24 #[.int .u32 x, .int .i64 n] w fun e w' => e = .returned (.int .u32 (heldV (x + clampV n))) ∧ w' = w := by
  obtain ⟨m, hm⟩ : ∃ m, (if (2147483647 : Int) < n then 2147483647 else n) = m := ⟨_, rfl⟩
  have bm : -9223372036854775808 ≤ m ∧ m ≤ 2147483647 := by rw [← hm]; split <;> omega
  obtain ⟨q, hq⟩ : ∃ q, (if x + m < 0 then 0 else x + m) = q := ⟨_, rfl⟩
  have hq2 : (if (2147483647 : Int) < q then 2147483647 else q) = heldV (x + clampV n) := by rw [← hq, ← hm]; unfold heldV clampV; split <;> split <;> split <;> omega
  have hxw : IntKind.i64.wrap x = x := by rw [IntWalk.i64_in _ (by omega)]
  have hsw : wrap64 (x + m) = x + m := IntWalk.wrap64_in _ (by omega)
  obtain ⟨h, hh⟩ : ∃ h, h = heldV (x + clampV n) := ⟨_, rfl⟩
  have bh : 0 ≤ h ∧ h ≤ 2147483647 := by rw [hh]; exact heldV_bd _
  have hw : IntKind.u32.wrap h = h := by rw [IntKind.wrap_u32]; omega
  rw [← hh] at hq2 ⊢
  have k1 : min n 2147483647 = m := by rw [← hm]; split <;> omega
  have k2 : max (x + m) 0 = q := by rw [← hq]; split <;> omega
  have k3 : min q 2147483647 = h := by rw [← hq2]; split <;> omega
  clear hh bx bn bm bh
  go_enter Try.func24, Try.ntmps24
  go_wp2_with fail
  go_ret
  exact ⟨rfl, rfl⟩
theorem bits_bucket : ∀ k : Nat, k < 16 → bits BinOp.or IntKind.u32 ((k : Int) * 268435456) 268435455 = 268435456 * (k : Int) + 268435455 := by decide
set_option maxHeartbeats 1000000 in
theorem dshare_any (k : Nat) (hk : k < 16) (a b : Int) (ba : 0 ≤ a ∧ a ≤ 4294967295) (bb : 0 ≤ b ∧ b ≤ 4294967295) (w : World) : Calls Try.prog 26 #[.int .i64 k, .agg #[.int .u32 a, .int .u32 b]] w fun e w' => e = .returned (.int .u64 (shareD k (a, b))) ∧ Below w.heap.size w w' := by
  obtain ⟨lo, hlo⟩ : ∃ x, x = (268435456 * (k : Int) - 1) % 4294967296 := ⟨_, rfl⟩
  obtain ⟨hi, hhi⟩ : ∃ x, x = 268435456 * (k : Int) + 268435455 := ⟨_, rfl⟩
  have hsw : IntKind.u32.wrap (k : Int) = (k : Int) := by rw [IntKind.wrap_u32]; omega
  obtain ⟨ML, hML⟩ : ∃ x, x = meetL a b lo hi := ⟨_, rfl⟩
  have HSH : Hid (shareD k (a, b) = szs ML) := Lib.hid (by rw [hML, meet_sym _ _ _ _ ba bb (by omega) (by omega), hlo, hhi]; unfold shareD; rw [show (268435456 * (k : Int) + 268435455) % 4294967296 = 268435456 * (k : Int) + 268435455 by omega])
  have HML : Hid (ML.length ≤ 2 ∧ ∀ x ∈ ML, (0 ≤ x.1 ∧ x.1 ≤ 4294967295) ∧ 0 ≤ x.2 ∧ x.2 ≤ 4294967295) := Lib.hid ⟨by rw [hML]; exact meet_len _ _ _ _, by rw [hML]; exact meet_mem _ _ _ _ ba bb (by omega) (by omega)⟩
  have HM : Hid (∀ z, Calls Try.prog 30 #[.agg #[.int .u32 a, .int .u32 b], .agg #[.int .u32 lo, .int .u32 hi]] z (CutPost z.heap.size z ML)) := Lib.hid (fun z => by rw [hML]; exact meet_any _ _ _ _ z)
  clear ba bb
  go_enter Try.func26, Try.ntmps26
  have hor : bits BinOp.or IntKind.u32 ((k : Int) * 268435456) 268435455 = hi := by rw [hhi]; exact bits_bucket k hk
  have hsub : (hi - 268435456) % 4294967296 = lo := by omega
  obtain ⟨RES, hRES⟩ : ∃ r, r = shareD k (a, b) := ⟨_, rfl⟩
  rw [← hRES] at HSH ⊢
  clear hlo hhi hML hRES
  go_wp2_with fail
  refine (HM.out _).mono ?_
  rintro e w1 ⟨v, rfl, hv, hk1⟩
  have HKV := Lib.hid (nest (more (Below.refl w.heap.size w) (.cells #[.int .u32 a, .int .u32 b] 28)) hk1)
  obtain ⟨av, gv, ov, cv, rfl, _, hcv, hga, hcs⟩ := (spans_rd hv).loop
  have HCS := Lib.hid hcs
  have HGA := Lib.hid hga
  clear hv hk1 hcs hga
  have hcv2 : cv ≤ 9223372036854775807 := hcv
  go_wp2_with fail
  go_loopw [6, 20] (fun s i wr => ∃ j : Nat, j ≤ ML.length ∧ s = .int .u64 (szs (ML.take j)) ∧ i = .int .i64 j ∧ Below w1.heap.size w1 wr) (fun _ i _ => ML.length - (intOf i).toNat)
  case atStart => exact ⟨0, by omega, rfl, rfl, Below.refl _ _⟩
  case round =>
    obtain ⟨j, hj, rfl, rfl, hbj⟩ := hrel
    have HKJ := Lib.hid hbj
    clear hbj
    have hml2 : ML.length ≤ 2 := HML.out.1
    by_cases hlt2 : j < ML.length
    · have hjl : (j : Int) < (ML.length : Int) := by omega
      obtain ⟨rfl, _⟩ := HGA.out (by omega)
      have d0 := kc HKJ.out (HCS.out j hlt2).1
      have d1 := kc HKJ.out (HCS.out j hlt2).2
      have HST := Lib.hid (szs_take ML j hlt2)
      have HB1 := Lib.hid (szs_bd (ML.take (j + 1)))
      have HLN : Hid ((ML.take (j + 1)).length ≤ 2) := Lib.hid (by rw [List.length_take]; omega)
      obtain ⟨⟨x, y⟩, hxy⟩ : ∃ p, p = ML.getD j (0, 0) := ⟨_, rfl⟩
      rw [← hxy] at d0 d1 HST
      dsimp only at d0 d1 HST
      obtain ⟨q, hq⟩ : ∃ q, q = beh x y := ⟨_, rfl⟩
      have HSZ : Hid (∀ z, Calls Try.prog 31 #[.agg #[.int .u32 x, .int .u32 y]] z fun e w' => e = .returned (.int .u64 q) ∧ Below z.heap.size z w') := Lib.hid (fun z => by rw [hq]; exact size_any x y z)
      rw [← hq] at HST
      have hqs : IntKind.u64.wrap (szs (ML.take j) + q) = szs (ML.take (j + 1)) := by rw [IntKind.wrap_u64, HST.out]; have := HB1.out; have := HLN.out; have := HST.out; omega
      clear hxy hq
      go_wp2_with (go_at_call 31; refine (HSZ.out _).mono ?_; rintro e w2 ⟨rfl, hk2⟩)
      exact ⟨⟨j + 1, by omega, by go_num, by go_num, nest (more HKJ.out _) hk2⟩, by simp [intOf]; omega⟩
    · have hjl : j = ML.length := by omega
      subst hjl
      have HT : Hid (szs (ML.take ML.length) = RES) := Lib.hid (by rw [HSH.out, List.take_length])
      rw [HT.out]
      go_wp2_with fail
      go_ret
      exact ⟨rfl, nest HKV.out HKJ.out⟩
theorem idx_den (l : List Int) (k : Nat) (hk : k < 16) (hl : l.length = 16) (w : World) : (Instr.index 24 (.agg (dcs l).toArray) (.int .i64 k)).run Try.prog w = .ok (.int .u32 (l.getD k 0)) w := by
  have hu : (Try.prog).underlying 24 = some (.array 16 22) := Try.underlying24
  have h1 : (Go.isAgg 22).run Try.prog w = .ok false w := by simp [Go.isAgg, run_underlying Try.underlying22]
  have h2 : (Go.sizeOf 22).run Try.prog w = .ok 1 w := by
    have h : (Try.prog.info? 22).map (·.size) = some 1 := by kernel_rfl
    obtain ⟨i, hi, hs⟩ := Option.map_eq_some_iff.1 h
    simp [Go.sizeOf, typeInfo, hi, hs]
  have h3 := dcs_at l (k := k) (by rw [hl]; exact hk)
  rw [List.getElem?_toArray] at h3
  simp [Instr.index, run_underlying hu, asIntOf, part, h1, h2, h3, hk, go_sem]
theorem dall_any (l : List Int) (h : okD l) (w : World) : Calls Try.prog 13 #[.agg (dcs l).toArray] w fun e w' => e = .returned (.int .u64 (allD l)) ∧ Below w.heap.size w w' := by
  have HO := Lib.hid h
  have HL : Hid (l.length = 16) := Lib.hid h.1
  clear h
  go_enter Try.func13, Try.ntmps13
  go_upto_region 2 with fail
  have hk0 : Below w.heap.size w (w.alloc (.cells (dcs l).toArray 24)) := more (Below.refl _ _) _
  have HB : Hid (Blk (w.alloc (.cells (dcs l).toArray 24)) w.heap.size 24 (dcs l).toArray) := Lib.hid (Blk.new _ _ _)
  have HK := Lib.hid hk0
  clear hk0
  generalize w.alloc (.cells (dcs l).toArray 24) = w1 at *
  obtain ⟨g, hg⟩ : ∃ g, g = w.heap.size := ⟨_, rfl⟩
  rw [← hg] at HB ⊢
  clear hg
  go_wp2_with (refine at_load 1 rfl ?_; refine wpList_load_row rfl 24 (.tmp 1) rfl g rfl 24 _ (0, 0) _ HB.out Try.underlying24 rfl (den_info _ HL.out) ?_)
  go_loopw [3, 7] (fun s i wr => ∃ k : Nat, k ≤ 16 ∧ s = .int .u64 ((l.take k).sum) ∧ i = .int .i64 k ∧ wr = w1) (fun _ i _ => 16 - (intOf i).toNat)
  case atStart => exact ⟨0, by omega, by simp, rfl, by trivial⟩
  case round =>
    obtain ⟨k, hk, rfl, rfl, rfl⟩ := hrel
    by_cases hlt : k < 16
    · have d0 := idx_den l k hlt HL.out
      have hkl : (k : Int) < 16 := by omega
      have HS := Lib.hid (sum_step l (k := k) (by rw [HL.out]; exact hlt))
      have HBD := Lib.hid (sum_take_bd HO.out (k + 1))
      have HB0 := Lib.hid (HO.out.at k)
      generalize l.getD k 0 = x at *
      generalize (l.take k).sum = t at *
      have hw : IntKind.u64.wrap (t + x) = (l.take (k + 1)).sum := by rw [IntKind.wrap_u64, HS.out]; have := HBD.out; have := HS.out; omega
      have hx : IntKind.u64.wrap x = x := by rw [IntKind.wrap_u64]; have := HB0.out; omega
      go_wp2_with fail
      exact ⟨⟨k + 1, by omega, by go_num, by go_num, by trivial⟩, by simp [intOf]; omega⟩
    · have hkl : k = 16 := by omega
      subst hkl
      have HR : Hid ((l.take 16).sum = allD l) := Lib.hid (by rw [List.take_of_length_le (by rw [HL.out]; omega)]; rfl)
      rw [HR.out]
      go_wp2_with fail
      go_ret
      exact ⟨rfl, HK.out⟩
set_option maxHeartbeats 1000000 in
theorem dwithin_any (l : List Int) (a b : Int) (h : okD l) (ba : 0 ≤ a ∧ a ≤ 4294967295) (bb : 0 ≤ b ∧ b ≤ 4294967295) (w : World) : Calls Try.prog 19 #[.agg (dcs l).toArray, .agg #[.int .u32 a, .int .u32 b]] w fun e w' => e = .returned (.int .u64 (withD l (a, b))) ∧ Below w.heap.size w w' := by
  have HO := Lib.hid h
  have HL : Hid (l.length = 16) := Lib.hid h.1
  have HBA := Lib.hid ba
  have HBB := Lib.hid bb
  have HSHR : Hid (∀ (k : Nat), k < 16 → ∀ z, Calls Try.prog 26 #[.int .i64 k, .agg #[.int .u32 a, .int .u32 b]] z fun e w' => e = .returned (.int .u64 (shareD k (a, b))) ∧ Below z.heap.size z w') := Lib.hid (fun k hk z => dshare_any k hk a b ba bb z)
  obtain ⟨RES, hRES⟩ : ∃ x, x = withD l (a, b) := ⟨_, rfl⟩
  rw [← hRES]
  have HRES := Lib.hid hRES
  clear h ba bb hRES
  go_enter Try.func19, Try.ntmps19
  go_upto_region 2 with fail
  obtain ⟨W, hW⟩ : ∃ W, W = (w.alloc (.cells (dcs l).toArray 24)).alloc (.cells #[.int .u32 a, .int .u32 b] 28) := ⟨_, rfl⟩
  have HK : Hid (Below w.heap.size w W) := Lib.hid (hW ▸ more (more (Below.refl _ _) _) _)
  have HG : Hid (Blk W w.heap.size 24 (dcs l).toArray) := Lib.hid (by rw [hW]; exact (Blk.new w _ _).keep (more (Below.refl _ _) _))
  have HR : Hid (Blk W (w.heap.size + 1) 28 #[.int .u32 a, .int .u32 b]) := Lib.hid (by rw [hW]; exact Blk.newAt _ _ _ (by rw [size_alloc]))
  rw [← hW]
  obtain ⟨g, hg⟩ : ∃ g, g = w.heap.size := ⟨_, rfl⟩
  obtain ⟨r, hr⟩ : ∃ r, r = w.heap.size + 1 := ⟨_, rfl⟩
  rw [← hr] at HR ⊢
  rw [← hg] at HG ⊢
  clear hW hg hr
  go_wp2_with (refine at_load 2 rfl ?_; refine wpList_load_row rfl 24 (.tmp 2) rfl g rfl 24 _ (0, 0) _ HG.out Try.underlying24 rfl (den_info _ HL.out) ?_)
  go_loopw [5, 9] (fun s i wr => ∃ k : Nat, k ≤ 16 ∧ s = .int .u64 (withT l (a, b) k) ∧ i = .int .i64 k ∧ Below W.heap.size W wr) (fun _ i _ => 16 - (intOf i).toNat)
  case atStart => exact ⟨0, by omega, rfl, rfl, Below.refl _ _⟩
  case round =>
    obtain ⟨k, hk, rfl, rfl, hb⟩ := hrel
    have HKW := Lib.hid hb
    clear hb
    by_cases hlt : k < 16
    · have hkl : (k : Int) < 16 := by omega
      have c0 := (HR.out.keep HKW.out).cell 0
      have c1 := (HR.out.keep HKW.out).cell 1
      have d0 := idx_den l k hlt HL.out
      have HSK := Lib.hid (HSHR.out k hlt)
      have HPB := Lib.hid (part_bd HO.out k (by omega) (a, b) HBA.out HBB.out)
      have HWB := Lib.hid (with_bd HO.out (a, b) HBA.out HBB.out (k + 1) (by omega))
      have HTB := Lib.hid (sum_take_bd HO.out (k + 1))
      have HX := Lib.hid (HO.out.at k)
      have HST : Hid (withT l (a, b) (k + 1) = withT l (a, b) k + partD l (a, b) k) := Lib.hid rfl
      have HPD : Hid (partD l (a, b) k = l.getD k 0 * shareD k (a, b) / 268435456) := Lib.hid rfl
      obtain ⟨t, ht⟩ : ∃ t, t = shareD k (a, b) := ⟨_, rfl⟩
      rw [← ht] at HPB HPD HSK
      obtain ⟨x, hx⟩ : ∃ x, x = l.getD k 0 := ⟨_, rfl⟩
      rw [← hx] at HPB HPD HX
      simp only [← hx] at d0
      obtain ⟨p, hp⟩ : ∃ p, p = partD l (a, b) k := ⟨_, rfl⟩
      rw [← hp] at HPD HST HPB
      obtain ⟨s0, hs0⟩ : ∃ s0, s0 = withT l (a, b) k := ⟨_, rfl⟩
      rw [← hs0] at HST ⊢
      have hxw : IntKind.u64.wrap x = x := by rw [IntKind.wrap_u64]; have := HX.out; omega
      have hm : IntKind.u64.wrap (x * t) = x * t := by rw [IntKind.wrap_u64]; have := HPB.out; omega
      have hpd : x * t / 268435456 = p := HPD.out.symm
      have hsum : IntKind.u64.wrap (s0 + p) = withT l (a, b) (k + 1) := by rw [IntKind.wrap_u64, HST.out]; have := HWB.out; have := HTB.out; have := HST.out; omega
      clear hx hp ht hs0
      go_wp2_with (go_at_call 26; refine (HSK.out _).mono ?_; rintro e w1 ⟨rfl, hk1⟩)
      exact ⟨⟨k + 1, by omega, by go_num, by go_num, nest HKW.out hk1⟩, by simp [intOf]; omega⟩
    · have hkl : k = 16 := by omega
      subst hkl
      have HRR : Hid (withT l (a, b) 16 = RES) := Lib.hid HRES.out.symm
      rw [HRR.out]
      go_wp2_with fail
      go_ret
      exact ⟨rfl, nest HK.out HKW.out⟩
set_option maxHeartbeats 1000000 in
theorem dadd_any (l : List Int) (v n : Int) (h : okD l) (bv : 0 ≤ v ∧ v ≤ 4294967295) (bn : -9223372036854775808 ≤ n ∧ n ≤ 9223372036854775807) (w : World) : Calls Try.prog 11 #[.agg (dcs l).toArray, .int .u32 v, .int .i64 n] w fun e w' => e = .returned (.agg (dcs (addD l v n)).toArray) ∧ Below w.heap.size w w' := by
  obtain ⟨k, hk, hkl⟩ : ∃ k : Nat, (k : Int) = v / 268435456 ∧ k < 16 := ⟨(v / 268435456).toNat, by omega, by omega⟩
  have hkt : (v / 268435456).toNat = k := by omega
  have HRES : Hid (addD l v n = l.set k (heldV (l.getD k 0 + clampV n))) := Lib.hid (by unfold addD; rw [hkt])
  have HL : Hid (l.length = 16) := Lib.hid h.1
  have HO2 : Hid ((l.set k (heldV (l.getD k 0 + clampV n))).length = 16) := Lib.hid (by rw [List.length_set]; exact h.1)
  have d0 : (dcs l).toArray[k]? = some (.int .u32 (l.getD k 0)) := dcs_at l (by rw [h.1]; exact hkl)
  have HH : Hid (∀ z, Calls Try.prog 24 #[.int .u32 (l.getD k 0), .int .i64 n] z fun e w' => e = .returned (.int .u32 (heldV (l.getD k 0 + clampV n))) ∧ w' = z) := Lib.hid (fun z => dmore_any _ _ (h.at k) bn z)
  rw [HRES.out]
  obtain ⟨a, ha⟩ : ∃ a, a = heldV (l.getD k 0 + clampV n) := ⟨_, rfl⟩
  rw [← ha] at HO2 HH ⊢
  obtain ⟨x, hx⟩ : ∃ x, x = l.getD k 0 := ⟨_, rfl⟩
  rw [← hx] at HH d0
  obtain ⟨R, hR⟩ : ∃ R, R = l.set k a := ⟨_, rfl⟩
  have HRR := Lib.hid hR
  rw [← hR] at HO2 ⊢
  have hkq : v / 268435456 = (k : Int) := by omega
  clear h bn hx ha hk hkt hR
  go_enter Try.func11, Try.ntmps11
  go_upto_region 2 with fail
  obtain ⟨W, hW⟩ : ∃ W, W = (w.alloc (.cells (dcs l).toArray 24)).alloc (.cells (dcs zeroD).toArray 24) := ⟨_, rfl⟩
  have HK : Hid (Below w.heap.size w W) := Lib.hid (hW ▸ more (more (Below.refl _ _) _) _)
  have HG : Hid (Blk W w.heap.size 24 (dcs l).toArray) := Lib.hid (by rw [hW]; exact (Blk.new w _ _).keep (more (Below.refl _ _) _))
  have HR : Hid (Blk W (w.heap.size + 1) 24 (dcs zeroD).toArray) := Lib.hid (by rw [hW]; exact Blk.newAt _ _ _ (by rw [size_alloc]))
  have hW' := hW
  simp only [dcs, zeroD, List.replicate, List.map_cons, List.map_nil] at hW'
  rw [show w.alloc (.cells (dcs l).toArray 24) = w.alloc (.cells (l.map (Value.int .u32)).toArray 24) from rfl, ← hW']
  obtain ⟨g, hg⟩ : ∃ g, g = w.heap.size := ⟨_, rfl⟩
  obtain ⟨r, hr⟩ : ∃ r, r = w.heap.size + 1 := ⟨_, rfl⟩
  have HE : Hid (g = w.heap.size ∧ r = w.heap.size + 1) := Lib.hid ⟨hg, hr⟩
  rw [← hr] at HR ⊢
  rw [← hg] at HG ⊢
  clear hW hW' hg hr
  have d1 : W.cell? ⟨g, k, none⟩ = some (.int .u32 x) := by rw [HG.out.cell]; exact d0
  have d2 : W.frozen? ⟨g, k, none⟩ = false := HG.out.frozen k
  go_upto_region 3 with (go_at_call 24; refine (HH.out _).mono ?_; rintro e z ⟨rfl, hz⟩; obtain rfl := hz.symm)
  have HG2 : Hid (Blk (W.setCell ⟨g, k, none⟩ (.int .u32 a)) g 24 (dcs R).toArray) := Lib.hid (by rw [HRR.out, ← dcs_set]; exact HG.out.set_ k _)
  have HR2 : Hid (Blk (W.setCell ⟨g, k, none⟩ (.int .u32 a)) r 24 (dcs zeroD).toArray) := Lib.hid (HR.out.only (Only.set W k _) (by have := HE.out; omega))
  have HK2 : Hid (Below w.heap.size w (W.setCell ⟨g, k, none⟩ (.int .u32 a))) := Lib.hid (HK.out.trans ((Only.set W k _).below (by have := HE.out; omega) HK.out.size))
  clear d1 d2 HG HR HK
  generalize W.setCell ⟨g, k, none⟩ (.int .u32 a) = z2 at *
  go_wp2_with (first | (refine at_load 3 rfl ?_; refine wpList_load_row rfl 24 (.tmp 3) rfl g rfl 24 _ (0, 0) _ HG2.out Try.underlying24 rfl (den_info _ HO2.out) ?_) | (refine at_store 6 rfl ?_; refine wpList_store_row rfl 24 (.tmp 6) (.tmp 17) rfl r _ rfl rfl 24 _ HR2.out (den_info _ HO2.out) (by rw [List.size_toArray, List.size_toArray, dcs_len, dcs_len, HO2.out]; rfl) (dcs_one _) ?_))
  refine bodyPost_ret (results_cell_row rfl _ _ r 24 _ (0, 0) _ rfl (Blk.rowS HR2.out _) Try.underlying24 rfl (den_info _ HO2.out)) rfl ?_
  exact ⟨rfl, HK2.out.trans ((Only.rowS z2 _).below (by have := HE.out; omega) HK2.out.size)⟩
/-- an array's cells, at its place in a slice of them -/
theorem den_lies {w : World} {v : Value} {L : List Den} (h : Rd denE w v L) :
    ∃ a g off c, v = .slice a L.length c ∧ L.length ≤ c ∧ c ≤ maxLen ∧ (0 < L.length → a = some ⟨g, off, none⟩) ∧ ∀ (i : Nat) (hi : i < L.length) (k : Nat) (u : Value), (dcs (L[i]).1)[k]? = some u → w.cell? ⟨g, off + i * 16 + k, none⟩ = some u := by
  obtain ⟨a, g, off, c, hv, h1, h2, h3, h4⟩ := den_at h
  refine ⟨a, g, off, c, hv, h1, h2, h3, fun i hi k u hu => ?_⟩
  have hk : k < 16 := by
    have := (List.getElem?_eq_some_iff.1 hu).1
    rwa [dcs_len, (L[i]).2] at this
  have h5 := dcs_at (L[i]).1 (k := k) (by rw [(L[i]).2]; exact hk)
  rw [List.getElem?_toArray] at h5
  rw [h5] at hu
  injection hu with hu
  rw [← hu]
  exact h4 i hi k hk
set_option maxHeartbeats 4000000 in
theorem dsum_any (v : Value) (L : List Den) (w : World) (h : Rd denE w v L) (hb : ∀ x ∈ L, okD x.1) (hL : L.length ≤ 1000000) : Calls Try.prog 17 #[v] w fun e w' => e = .returned (.agg (dcs (sumD (vals L))).toArray) ∧ Below w.heap.size w w' := by
  obtain ⟨a, gl, ol, c, rfl, hc1, hc2, hga, hcs⟩ := den_lies h
  have hc2' : c ≤ 9223372036854775807 := hc2
  have HCS := Lib.hid hcs
  have HGA := Lib.hid hga
  have HOK := Lib.hid hb
  have HRO := Lib.hid (okD.sum (vals L))
  clear h hcs hga hb hc2
  obtain ⟨RES, hRES⟩ : ∃ x, x = sumD (vals L) := ⟨_, rfl⟩
  rw [← hRES] at HRO ⊢
  have HRES := Lib.hid hRES
  have HRL : Hid (RES.length = 16) := Lib.hid HRO.out.1
  clear hRES
  go_enter Try.func17, Try.ntmps17
  go_upto_region 2 with fail
  obtain ⟨W, hW⟩ : ∃ W, W = (w.alloc (.cells (dcs zeroD).toArray 24)).alloc (.cells (dcs zeroD).toArray 24) := ⟨_, rfl⟩
  have HK : Hid (Below w.heap.size w W) := Lib.hid (hW ▸ more (more (Below.refl _ _) _) _)
  have HR : Hid (Blk W w.heap.size 24 (dcs zeroD).toArray) := Lib.hid (by rw [hW]; exact (Blk.new w _ _).keep (more (Below.refl _ _) _))
  have HG : Hid (Blk W (w.heap.size + 1) 24 (dcs zeroD).toArray) := Lib.hid (by rw [hW]; exact Blk.newAt _ _ _ (by rw [size_alloc]))
  have hW' := hW
  simp only [dcs, zeroD, List.replicate, List.map_cons, List.map_nil] at hW'
  rw [← hW']
  obtain ⟨r, hr⟩ : ∃ r, r = w.heap.size := ⟨_, rfl⟩
  obtain ⟨g, hg⟩ : ∃ g, g = w.heap.size + 1 := ⟨_, rfl⟩
  have HE : Hid (r = w.heap.size ∧ g = w.heap.size + 1) := Lib.hid ⟨hr, hg⟩
  rw [← hg] at HG ⊢
  rw [← hr] at HR ⊢
  clear hW hW' hg hr
  go_wp2_with fail
  go_loopw [10] (fun iv wr => ∃ i : Nat, i ≤ L.length ∧ iv = .int .i64 i ∧ Blk wr g 24 (dcs (sumD (vals (L.take i)))).toArray ∧ Blk wr r 24 (dcs zeroD).toArray ∧ Below w.heap.size w wr) (fun iv _ => L.length - (intOf iv).toNat)
  case atStart => exact ⟨0, by omega, rfl, HG.out, HR.out, HK.out⟩
  case round =>
    obtain ⟨i, hi, rfl, hg, hr, hb⟩ := hrel
    have HG1 := Lib.hid hg
    have HR1 := Lib.hid hr
    have HB1 := Lib.hid hb
    obtain ⟨wo, hwo⟩ : ∃ z, z = wr := ⟨_, rfl⟩
    subst hwo
    clear hg hr hb
    by_cases hlt : i < L.length
    · have hil : (i : Int) < (L.length : Int) := by omega
      have hcl : (L.length : Int) ≤ c := by omega
      obtain rfl := HGA.out (by omega)
      have HST := Lib.hid (sumD_step hlt)
      have HD := Lib.hid (okD.sum (vals (L.take i)))
      have HX := Lib.hid (HOK.out L[i] (List.getElem_mem hlt))
      have HCI : Hid (∀ (k : Nat) (u : Value), (dcs (L[i]).1)[k]? = some u → wo.cell? ⟨gl, ol + i * 16 + k, none⟩ = some u) := Lib.hid (fun k u hu => by have := HCS.out i hlt k u hu; exact (HB1.out.cell (World.block_lt_of_cell? w _ this)).trans this)
      obtain ⟨D, hD⟩ : ∃ x, x = sumD (vals (L.take i)) := ⟨_, rfl⟩
      obtain ⟨X, hX⟩ : ∃ x, x = (L[i]).1 := ⟨_, rfl⟩
      rw [← hD] at HG1 HST HD
      rw [← hX] at HST HX HCI
      have HXL : Hid (X.length = 16) := Lib.hid HX.out.1
      clear hD hX
      go_upto_region 5 with (first | (refine at_load 12 rfl ?_; refine wpList_load_part rfl 24 (.tmp 12) rfl Try.underlying24 den_i gl (ol + i * 16) (dcs X) (by rw [dcs_len]; exact HXL.out) rfl HCI.out ?_) | (refine at_store 5 rfl ?_; refine wpList_store_row rfl 24 (.tmp 5) (.tmp 13) rfl wo.heap.size (dcs X).toArray rfl rfl 24 (dcs zeroD).toArray (heap_alloc_new wo _) (den_info _ HXL.out) (by rw [List.size_toArray, List.size_toArray, dcs_len, dcs_len, HXL.out]; rfl) (dcs_one _) ?_))
      obtain ⟨w5, hw5⟩ : ∃ z, z = (wo.alloc (.cells (dcs zeroD).toArray 24)).setRow wo.heap.size (dcs X).toArray := ⟨_, rfl⟩
      have HV5 : Hid (Blk w5 wo.heap.size 24 (dcs X).toArray) := Lib.hid (by rw [hw5]; exact Blk.rowS (Blk.new wo _ _) _)
      have HK5 : Hid (Below wo.heap.size wo w5) := Lib.hid (by rw [hw5]; exact (more (Below.refl _ _) _).trans ((Only.rowS _ _).below (Nat.le_refl _) (by rw [size_alloc]; omega)))
      have hw5' := hw5
      simp only [dcs, zeroD, List.replicate, List.map_cons, List.map_nil] at hw5'
      rw [show (dcs X).toArray = (X.map (Value.int .u32)).toArray from rfl, ← hw5']
      rw [show (X.map (Value.int .u32)).toArray = (dcs X).toArray from rfl]
      obtain ⟨s5, hs5⟩ : ∃ s, s = wo.heap.size := ⟨_, rfl⟩
      rw [← hs5] at HV5 ⊢
      have HG5 := Lib.hid (HG1.out.keep HK5.out)
      have HR5 := Lib.hid (HR1.out.keep HK5.out)
      have HB5 := Lib.hid (nest HB1.out HK5.out)
      clear hw5 hw5' hs5 HCI HK5
      go_wp2_with (refine at_load 5 rfl ?_; refine wpList_load_row rfl 24 (.tmp 5) rfl s5 rfl 24 _ (0, 0) _ HV5.out Try.underlying24 rfl (den_info _ HXL.out) ?_)
      go_loopw [15] (fun kv wr => ∃ k : Nat, k ≤ 16 ∧ kv = .int .i64 k ∧ Blk wr g 24 (dcs (sumT D X k)).toArray ∧ Blk wr r 24 (dcs zeroD).toArray ∧ Below w.heap.size w wr) (fun kv _ => 16 - (intOf kv).toNat)
      case atStart => exact ⟨0, by omega, rfl, HG5.out, HR5.out, HB5.out⟩
      case round =>
        obtain ⟨k, hk, rfl, hg, hr, hb⟩ := hrel
        have HG2 := Lib.hid hg
        have HR2 := Lib.hid hr
        have HB2 := Lib.hid hb
        obtain ⟨wi, hwi⟩ : ∃ z, z = wr := ⟨_, rfl⟩
        subst hwi
        clear hg hr hb
        by_cases hltk : k < 16
        · have hkl : (k : Int) < 16 := by omega
          have HT := Lib.hid (HD.out.sumT (b := X) k)
          have d0 : wi.cell? ⟨g, k, none⟩ = some (.int .u32 ((sumT D X k).getD k 0)) := by rw [HG2.out.cell]; exact dcs_at _ (by rw [HT.out.1]; exact hltk)
          have d1 := idx_den X k hltk HXL.out
          have d2 : wi.frozen? ⟨g, k, none⟩ = false := HG2.out.frozen k
          have HX0 := Lib.hid (HT.out.at k)
          have HY0 := Lib.hid (HX.out.at k)
          have HNX : Hid (sumT D X (k + 1) = (sumT D X k).set k (heldV ((sumT D X k).getD k 0 + clampV (X.getD k 0)))) := Lib.hid (by rw [clampV_in (by have := HY0.out; omega)]; rfl)
          obtain ⟨x, hx⟩ : ∃ x, x = (sumT D X k).getD k 0 := ⟨_, rfl⟩
          obtain ⟨y, hy⟩ : ∃ y, y = X.getD k 0 := ⟨_, rfl⟩
          rw [← hx] at d0 HX0 HNX
          rw [← hy] at HY0 HNX
          simp only [← hy] at d1
          have hyw : IntKind.i64.wrap y = y := by rw [IntWalk.i64_in _ (by have := HY0.out; omega)]
          obtain ⟨q, hq⟩ : ∃ q, q = heldV (x + clampV y) := ⟨_, rfl⟩
          have HH : Hid (∀ z, Calls Try.prog 24 #[.int .u32 x, .int .i64 y] z fun e w' => e = .returned (.int .u32 q) ∧ w' = z) := Lib.hid (fun z => by rw [hq]; exact dmore_any _ _ HX0.out (by have := HY0.out; omega) z)
          rw [← hq] at HNX
          clear hx hy hq
          go_upto_region 9 with (go_at_call 24; refine (HH.out _).mono ?_; rintro e z ⟨rfl, hz⟩; obtain rfl := hz.symm)
          have HG3 : Hid (Blk (wi.setCell ⟨g, k, none⟩ (.int .u32 q)) g 24 (dcs (sumT D X (k + 1))).toArray) := Lib.hid (by rw [HNX.out, ← dcs_set]; exact HG2.out.set_ k _)
          have HR3 : Hid (Blk (wi.setCell ⟨g, k, none⟩ (.int .u32 q)) r 24 (dcs zeroD).toArray) := Lib.hid (HR2.out.only (Only.set _ k _) (by have := HE.out; omega))
          have HB3 : Hid (Below w.heap.size w (wi.setCell ⟨g, k, none⟩ (.int .u32 q))) := Lib.hid (HB2.out.trans ((Only.set _ k _).below (by have := HE.out; omega) HB2.out.size))
          clear HG2 HR2 HB2 d0 d2
          generalize wi.setCell ⟨g, k, none⟩ (.int .u32 q) = z3 at *
          go_wp2_with fail
          exact ⟨⟨k + 1, by omega, by go_num, HG3.out, HR3.out, HB3.out⟩, by simp [intOf]; omega⟩
        · have hkl : k = 16 := by omega
          subst hkl
          have HG3 : Hid (Blk wi g 24 (dcs (sumD (vals (L.take (i + 1))))).toArray) := Lib.hid (by rw [HST.out]; exact HG2.out)
          go_wp2_with fail
          exact ⟨⟨i + 1, by omega, by go_num, HG3.out, HR2.out, HB2.out⟩, by simp [intOf]; omega⟩
    · have hil : i = L.length := by omega
      subst hil
      have HG3 : Hid (Blk wo g 24 (dcs RES).toArray) := Lib.hid (by have := HG1.out; rwa [List.take_length, ← HRES.out] at this)
      go_wp2_with (first | (refine at_load 3 rfl ?_; refine wpList_load_row rfl 24 (.tmp 3) rfl g rfl 24 _ (0, 0) _ HG3.out Try.underlying24 rfl (den_info _ HRL.out) ?_) | (refine at_store 2 rfl ?_; refine wpList_store_row rfl 24 (.tmp 2) (.tmp 29) rfl r _ rfl rfl 24 _ HR1.out (den_info _ HRL.out) (by rw [List.size_toArray, List.size_toArray, dcs_len, dcs_len, HRL.out]; rfl) (dcs_one _) ?_))
      refine bodyPost_ret (results_cell_row rfl _ _ r 24 _ (0, 0) _ rfl (Blk.rowS HR1.out _) Try.underlying24 rfl (den_info _ HRL.out)) rfl ?_
      exact ⟨rfl, HB1.out.trans ((Only.rowS wo _).below (by have := HE.out; omega) HB1.out.size)⟩
set_option maxHeartbeats 4000000 in
theorem dcount_any (v : Value) (l : List Ent) (Q : Nat → Prop) (w : World) (h : EntsIn Q w v l) (hb : ∀ y ∈ l, entB y) (hl : l.length ≤ 1000000) : Calls Try.prog 15 #[v] w fun e w' => e = .returned (.agg (dcs (countD l)).toArray) ∧ Below w.heap.size w w' := by
  obtain ⟨a, gl, ol, c, rfl, _, hc2, hga, hcs⟩ := h.at
  have hc2' : c ≤ 9223372036854775807 := hc2
  have HCS := Lib.hid hcs
  have HGA := Lib.hid hga
  have HOK := Lib.hid hb
  have HRO := Lib.hid (okD.count l)
  clear h hcs hga hb hc2
  obtain ⟨RES, hRES⟩ : ∃ x, x = countD l := ⟨_, rfl⟩
  rw [← hRES] at HRO ⊢
  have HRES := Lib.hid hRES
  have HRL : Hid (RES.length = 16) := Lib.hid HRO.out.1
  clear hRES
  go_enter Try.func15, Try.ntmps15
  go_upto_region 2 with fail
  obtain ⟨W, hW⟩ : ∃ W, W = (w.alloc (.cells (dcs zeroD).toArray 24)).alloc (.cells (dcs zeroD).toArray 24) := ⟨_, rfl⟩
  have HK : Hid (Below w.heap.size w W) := Lib.hid (hW ▸ more (more (Below.refl _ _) _) _)
  have HR : Hid (Blk W w.heap.size 24 (dcs zeroD).toArray) := Lib.hid (by rw [hW]; exact (Blk.new w _ _).keep (more (Below.refl _ _) _))
  have HG : Hid (Blk W (w.heap.size + 1) 24 (dcs zeroD).toArray) := Lib.hid (by rw [hW]; exact Blk.newAt _ _ _ (by rw [size_alloc]))
  have hW' := hW
  simp only [dcs, zeroD, List.replicate, List.map_cons, List.map_nil] at hW'
  rw [← hW']
  obtain ⟨r, hr⟩ : ∃ r, r = w.heap.size := ⟨_, rfl⟩
  obtain ⟨g, hg⟩ : ∃ g, g = w.heap.size + 1 := ⟨_, rfl⟩
  have HE : Hid (r = w.heap.size ∧ g = w.heap.size + 1) := Lib.hid ⟨hr, hg⟩
  rw [← hg] at HG ⊢
  rw [← hr] at HR ⊢
  clear hW hW' hg hr
  go_wp2_with fail
  go_loopw [8] (fun iv wr => ∃ i : Nat, i ≤ l.length ∧ iv = .int .i64 i ∧ Blk wr g 24 (dcs (countD (l.take i))).toArray ∧ Blk wr r 24 (dcs zeroD).toArray ∧ Below w.heap.size w wr) (fun iv _ => l.length - (intOf iv).toNat)
  case atStart => exact ⟨0, by omega, rfl, HG.out, HR.out, HK.out⟩
  case round =>
    obtain ⟨i, hi, rfl, hg, hr, hb⟩ := hrel
    have HG1 := Lib.hid hg
    have HR1 := Lib.hid hr
    have HB1 := Lib.hid hb
    obtain ⟨wo, hwo⟩ : ∃ z, z = wr := ⟨_, rfl⟩
    subst hwo
    clear hg hr hb
    by_cases hlt : i < l.length
    · have hil : (i : Int) < (l.length : Int) := by omega
      have hcl : (l.length : Int) ≤ c := by omega
      obtain ⟨rfl, _, hgl⟩ := HGA.out (by omega)
      obtain ⟨x, k0, k1, k2, k3, k4, hx, _⟩ := HCS.out i hlt
      have d0 := (HB1.out.cell (p := ⟨gl, ol + i * 5, none⟩) hgl).trans k0
      have d1 := (HB1.out.cell (p := ⟨gl, ol + i * 5 + 1, none⟩) hgl).trans k1
      have d2 := (HB1.out.cell (p := ⟨gl, ol + i * 5 + 2, none⟩) hgl).trans k2
      have d3 := (HB1.out.cell (p := ⟨gl, ol + i * 5 + 3, none⟩) hgl).trans k3
      have d4 := (HB1.out.cell (p := ⟨gl, ol + i * 5 + 4, none⟩) hgl).trans k4
      obtain ⟨ax, cx, rfl, _, _⟩ := hx.form
      have HST := Lib.hid (count_step hlt)
      have HD := Lib.hid (okD.count (l.take i))
      have HBY : Hid (0 ≤ (l.getD i e0).1 ∧ (l.getD i e0).1 ≤ 4294967295) := Lib.hid (HOK.out _ (by rw [show l.getD i e0 = l[i] by simp [List.getD, hlt]]; exact List.getElem_mem hlt)).1
      obtain ⟨D, hD⟩ : ∃ x, x = countD (l.take i) := ⟨_, rfl⟩
      rw [← hD] at HG1 HST HD
      obtain ⟨nx, hnx⟩ : ∃ n, n = (l.getD i e0).2.1.2.2.length := ⟨_, rfl⟩
      rw [← hnx] at d3
      obtain ⟨⟨q, ⟨q1, q2, q3⟩, qg⟩, hq⟩ : ∃ y, y = l.getD i e0 := ⟨_, rfl⟩
      rw [← hq] at d0 d1 d2 d4 HST HBY
      dsimp only at d0 d1 d2 d4 HBY
      clear hD hq k0 k1 k2 k3 k4 hgl hx hnx
      go_upto_region 5 with fail
      have hk5 : Below wo.heap.size wo (wo.alloc (.cells #[.int .u32 q, .int .u64 q1, .int .u64 q2, .slice ax nx cx, .bool qg] 46)) := more (Below.refl _ _) _
      have HV5 := Lib.hid (Blk.new wo 46 #[.int .u32 q, .int .u64 q1, .int .u64 q2, .slice ax nx cx, .bool qg])
      have HG5 := Lib.hid (HG1.out.keep hk5)
      have HR5 := Lib.hid (HR1.out.keep hk5)
      have HB5 := Lib.hid (nest HB1.out hk5)
      clear hk5 d0 d1 d2 d3 d4
      generalize wo.alloc (.cells #[.int .u32 q, .int .u64 q1, .int .u64 q2, .slice ax nx cx, .bool qg] 46) = w5 at *
      obtain ⟨s5, hs5⟩ : ∃ s, s = wo.heap.size := ⟨_, rfl⟩
      rw [← hs5] at HV5 ⊢
      clear hs5 HG1 HR1 HB1
      have e0 := HV5.out.cell 0
      have e4 := HV5.out.cell 4
      cases qg with
      | true =>
        have HG3 : Hid (Blk w5 g 24 (dcs (countD (l.take (i + 1)))).toArray) := Lib.hid (by rw [HST.out]; exact HG5.out)
        go_wp2_with fail
        exact ⟨⟨i + 1, by omega, by go_num, HG3.out, HR5.out, HB5.out⟩, by simp [intOf]; omega⟩
      | false =>
        have HA : Hid (∀ z, Calls Try.prog 11 #[.agg (dcs D).toArray, .int .u32 q, .int .i64 1] z fun e w' => e = .returned (.agg (dcs (addD D q 1)).toArray) ∧ Below z.heap.size z w') := Lib.hid (fun z => dadd_any D q 1 HD.out HBY.out (by omega) z)
        have HST2 : Hid (countD (l.take (i + 1)) = addD D q 1) := Lib.hid (by rw [HST.out]; rfl)
        have HA1 := Lib.hid (HD.out.add q 1).1
        obtain ⟨A, hA⟩ : ∃ x, x = addD D q 1 := ⟨_, rfl⟩
        rw [← hA] at HA HST2 HA1
        have HDL : Hid (D.length = 16) := Lib.hid HD.out.1
        clear hA
        go_upto_region 7 with (first
          | (refine at_load 3 rfl ?_; refine wpList_load_row rfl 24 (.tmp 3) rfl g rfl 24 _ (0, 0) _ HG5.out Try.underlying24 rfl (den_info _ HDL.out) ?_)
          | (go_at_call 11; refine (HA.out _).mono ?_; rintro e w6 ⟨rfl, hk6⟩; have HG6 := Lib.hid (HG5.out.keep hk6); have HR6 := Lib.hid (HR5.out.keep hk6); have HB6 := Lib.hid (nest HB5.out hk6); clear hk6)
          | (refine at_store 3 rfl ?_; refine wpList_store_row rfl 24 (.tmp 3) (.tmp 18) rfl g _ rfl rfl 24 _ HG6.out (den_info _ HA1.out) (by rw [List.size_toArray, List.size_toArray, dcs_len, dcs_len, HDL.out, HA1.out]) (dcs_one _) ?_))
        have HG3 : Hid (Blk (w6.setRow g (dcs A).toArray) g 24 (dcs (countD (l.take (i + 1)))).toArray) := Lib.hid (by rw [HST2.out]; exact Blk.rowS HG6.out _)
        have HR3 : Hid (Blk (w6.setRow g (dcs A).toArray) r 24 (dcs zeroD).toArray) := Lib.hid (HR6.out.only (Only.rowS _ _) (by have := HE.out; omega))
        have HB3 : Hid (Below w.heap.size w (w6.setRow g (dcs A).toArray)) := Lib.hid (HB6.out.trans ((Only.rowS _ _).below (by have := HE.out; omega) HB6.out.size))
        clear HG6 HR6 HB6
        generalize w6.setRow g (dcs A).toArray = z3 at *
        go_wp2_with fail
        exact ⟨⟨i + 1, by omega, by go_num, HG3.out, HR3.out, HB3.out⟩, by simp [intOf]; omega⟩
    · have hil : i = l.length := by omega
      subst hil
      have HG3 : Hid (Blk wo g 24 (dcs RES).toArray) := Lib.hid (by have := HG1.out; rwa [List.take_length, ← HRES.out] at this)
      go_wp2_with (first | (refine at_load 3 rfl ?_; refine wpList_load_row rfl 24 (.tmp 3) rfl g rfl 24 _ (0, 0) _ HG3.out Try.underlying24 rfl (den_info _ HRL.out) ?_) | (refine at_store 2 rfl ?_; refine wpList_store_row rfl 24 (.tmp 2) (.tmp 20) rfl r _ rfl rfl 24 _ HR1.out (den_info _ HRL.out) (by rw [List.size_toArray, List.size_toArray, dcs_len, dcs_len, HRL.out]; rfl) (dcs_one _) ?_))
      refine bodyPost_ret (results_cell_row rfl _ _ r 24 _ (0, 0) _ rfl (Blk.rowS HR1.out _) Try.underlying24 rfl (den_info _ HRL.out)) rfl ?_
      exact ⟨rfl, HB1.out.trans ((Only.rowS wo _).below (by have := HE.out; omega) HB1.out.size)⟩
end Go.Proofs.Ytpfdmjgojpngjaa
