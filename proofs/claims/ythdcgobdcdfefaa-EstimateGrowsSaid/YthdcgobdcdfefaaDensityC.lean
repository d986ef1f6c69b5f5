/- Walks of package density: what is added, counted, summed up, and within a span. -/
import Derived.Test.YthdcgobdcdfefaaDnRef3
import Derived.Test.YthdcgobdcdfefaaSpan
import Derived.Test.YthdcgobdcdfefaaTurnsMath
set_option maxRecDepth 4000
namespace Go.Proofs.Ythdcgobdcdfefaa
open Go.RowKit Mem Cir
set_option linter.unusedSimpArgs false
set_option linter.unusedVariables false
attribute [local irreducible] Go.Calls

theorem bits_bucket : ∀ k : Nat, k < 16 → bits BinOp.or IntKind.u32 ((k : Int) * 268435456) 268435455 = 268435456 * (k : Int) + 268435455 := by decide
set_option maxHeartbeats 1000000 in
theorem dshare_any (k : Nat) (hk : k < 16) (a b : Int) (ba : 0 ≤ a ∧ a ≤ 4294967295) (bb : 0 ≤ b ∧ b ≤ 4294967295) (w : World) : Calls Try.prog 31 #[.int .i64 k, .agg #[.int .u32 a, .int .u32 b]] w fun e w' => e = .returned (.int .u64 (shareD k (a, b))) ∧ Below w.heap.size w w' := by
  obtain ⟨lo, hlo⟩ : ∃ x, x = (268435456 * (k : Int) - 1) % 4294967296 := ⟨_, rfl⟩
  obtain ⟨hi, hhi⟩ : ∃ x, x = 268435456 * (k : Int) + 268435455 := ⟨_, rfl⟩
  have hsw : IntKind.u32.wrap (k : Int) = (k : Int) := by rw [IntKind.wrap_u32]; omega
  obtain ⟨ML, hML⟩ : ∃ x, x = meetL a b lo hi := ⟨_, rfl⟩
  have HSH : Hid (shareD k (a, b) = szs ML) := Lib.hid (by rw [hML, meet_sym _ _ _ _ ba bb (by omega) (by omega), hlo, hhi]; unfold shareD; rw [show (268435456 * (k : Int) + 268435455) % 4294967296 = 268435456 * (k : Int) + 268435455 by omega])
  have HML : Hid (ML.length ≤ 2 ∧ ∀ x ∈ ML, (0 ≤ x.1 ∧ x.1 ≤ 4294967295) ∧ 0 ≤ x.2 ∧ x.2 ≤ 4294967295) := Lib.hid ⟨by rw [hML]; exact meet_len _ _ _ _, by rw [hML]; exact meet_mem _ _ _ _ ba bb (by omega) (by omega)⟩
  have HM : Hid (∀ z, Calls Try.prog 37 #[.agg #[.int .u32 a, .int .u32 b], .agg #[.int .u32 lo, .int .u32 hi]] z (CutPost z.heap.size z ML)) := Lib.hid (fun z => by rw [hML]; exact meet_any _ _ _ _ z)
  clear ba bb
  go_enter Try.func31, Try.ntmps31
  have hor : bits BinOp.or IntKind.u32 ((k : Int) * 268435456) 268435455 = hi := by rw [hhi]; exact bits_bucket k hk
  have hsub : (hi - 268435456) % 4294967296 = lo := by omega
  obtain ⟨RES, hRES⟩ : ∃ r, r = shareD k (a, b) := ⟨_, rfl⟩
  rw [← hRES] at HSH ⊢
  clear hlo hhi hML hRES
  go_wp2_with fail
  refine (HM.out _).mono ?_
  rintro e w1 ⟨v, rfl, hv, hk1⟩
  have HKV := Lib.hid (nest (more (Below.refl w.heap.size w) (.cells #[.int .u32 a, .int .u32 b] 46)) hk1)
  obtain ⟨av, gv, ov, cv, rfl, _, hcv, hga, hcs⟩ := (spans_rd hv).loop
  have HCS := Lib.hid hcs
  have HGA := Lib.hid hga
  clear hv hk1 hcs hga
  have hcv2 : cv ≤ 9223372036854775807 := hcv
  go_wp2_with fail
  go_loopw [6, 20] (fun s i wr => ∃ j : Nat, j ≤ ML.length ∧ s = .int .u64 (szs (ML.take j)) ∧ i = .int .i64 j ∧ Below w1.heap.size w1 wr) (fun _ i _ => ML.length - (intOf i).toNat)
  case atStart => exact ⟨0, by omega, rfl, rfl, Below.refl _ _⟩
  case round =>
    obtain ⟨j, hj, rfl, rfl, hbj⟩ := hrel
    have HKJ := Lib.hid hbj
    clear hbj
    have hml2 : ML.length ≤ 2 := HML.out.1
    by_cases hlt2 : j < ML.length
    · have hjl : (j : Int) < (ML.length : Int) := by omega
      obtain ⟨rfl, _⟩ := HGA.out (by omega)
      have d0 := kc HKJ.out (HCS.out j hlt2).1
      have d1 := kc HKJ.out (HCS.out j hlt2).2
      have HST := Lib.hid (szs_take ML j hlt2)
      have HB1 := Lib.hid (szs_bd (ML.take (j + 1)))
      have HLN : Hid ((ML.take (j + 1)).length ≤ 2) := Lib.hid (by rw [List.length_take]; omega)
      obtain ⟨⟨x, y⟩, hxy⟩ : ∃ p, p = ML.getD j (0, 0) := ⟨_, rfl⟩
      rw [← hxy] at d0 d1 HST
      dsimp only at d0 d1 HST
      obtain ⟨q, hq⟩ : ∃ q, q = beh x y := ⟨_, rfl⟩
      have HSZ : Hid (∀ z, Calls Try.prog 20 #[.agg #[.int .u32 x, .int .u32 y]] z fun e w' => e = .returned (.int .u64 q) ∧ Below z.heap.size z w') := Lib.hid (fun z => by rw [hq]; exact size_any x y z)
      rw [← hq] at HST
      have hqs : IntKind.u64.wrap (szs (ML.take j) + q) = szs (ML.take (j + 1)) := by rw [IntKind.wrap_u64, HST.out]; have := HB1.out; have := HLN.out; have := HST.out; omega
      clear hxy hq
      go_wp2_with (go_at_call 20; refine (HSZ.out _).mono ?_; rintro e w2 ⟨rfl, hk2⟩)
      exact ⟨⟨j + 1, by omega, by go_num, by go_num, nest (more HKJ.out _) hk2⟩, by simp [intOf]; omega⟩
    · have hjl : j = ML.length := by omega
      subst hjl
      have HT : Hid (szs (ML.take ML.length) = RES) := Lib.hid (by rw [HSH.out, List.take_length])
      rw [HT.out]
      go_wp2_with fail
      go_ret
      exact ⟨rfl, nest HKV.out HKJ.out⟩
theorem idx_den (l : List Int) (k : Nat) (hk : k < 16) (hl : l.length = 16) (w : World) : (Instr.index 24 (.agg (dcs l).toArray) (.int .i64 k)).run Try.prog w = .ok (.int .u32 (l.getD k 0)) w := by
  have hu : (Try.prog).underlying 24 = some (.array 16 22) := Try.underlying24
  have h1 : (Go.isAgg 22).run Try.prog w = .ok false w := by simp [Go.isAgg, run_underlying Try.underlying22]
  have h2 : (Go.sizeOf 22).run Try.prog w = .ok 1 w := by
    have h : (Try.prog.info? 22).map (·.size) = some 1 := by kernel_rfl
    obtain ⟨i, hi, hs⟩ := Option.map_eq_some_iff.1 h
    simp [Go.sizeOf, typeInfo, hi, hs]
  have h3 := dcs_at l (k := k) (by rw [hl]; exact hk)
  rw [List.getElem?_toArray] at h3
  simp [Instr.index, run_underlying hu, asIntOf, part, h1, h2, h3, hk, go_sem]
theorem dall_any (l : List Int) (h : okD l) (w : World) : Calls Try.prog 19 #[.agg (dcs l).toArray] w fun e w' => e = .returned (.int .u64 (allD l)) ∧ Below w.heap.size w w' := by
  have HO := Lib.hid h
  have HL : Hid (l.length = 16) := Lib.hid h.1
  clear h
  go_enter Try.func19, Try.ntmps19
  go_upto_region 2 with fail
  have hk0 : Below w.heap.size w (w.alloc (.cells (dcs l).toArray 24)) := more (Below.refl _ _) _
  have HB : Hid (Blk (w.alloc (.cells (dcs l).toArray 24)) w.heap.size 24 (dcs l).toArray) := Lib.hid (Blk.new _ _ _)
  have HK := Lib.hid hk0
  clear hk0
  generalize w.alloc (.cells (dcs l).toArray 24) = w1 at *
  obtain ⟨g, hg⟩ : ∃ g, g = w.heap.size := ⟨_, rfl⟩
  rw [← hg] at HB ⊢
  clear hg
  go_wp2_with (refine at_load 1 rfl ?_; refine wpList_load_row rfl 24 (.tmp 1) rfl g rfl 24 _ (0, 0) _ HB.out Try.underlying24 rfl (den_info _ HL.out) ?_)
  go_loopw [3, 7] (fun s i wr => ∃ k : Nat, k ≤ 16 ∧ s = .int .u64 ((l.take k).sum) ∧ i = .int .i64 k ∧ wr = w1) (fun _ i _ => 16 - (intOf i).toNat)
  case atStart => exact ⟨0, by omega, by simp, rfl, by trivial⟩
  case round =>
    obtain ⟨k, hk, rfl, rfl, rfl⟩ := hrel
    by_cases hlt : k < 16
    · have d0 := idx_den l k hlt HL.out
      have hkl : (k : Int) < 16 := by omega
      have HS := Lib.hid (sum_step l (k := k) (by rw [HL.out]; exact hlt))
      have HBD := Lib.hid (sum_take_bd HO.out (k + 1))
      have HB0 := Lib.hid (HO.out.at k)
      generalize l.getD k 0 = x at *
      generalize (l.take k).sum = t at *
      have hw : IntKind.u64.wrap (t + x) = (l.take (k + 1)).sum := by rw [IntKind.wrap_u64, HS.out]; have := HBD.out; have := HS.out; omega
      have hx : IntKind.u64.wrap x = x := by rw [IntKind.wrap_u64]; have := HB0.out; omega
      go_wp2_with fail
      exact ⟨⟨k + 1, by omega, by go_num, by go_num, by trivial⟩, by simp [intOf]; omega⟩
    · have hkl : k = 16 := by omega
      subst hkl
      have HR : Hid ((l.take 16).sum = allD l) := Lib.hid (by rw [List.take_of_length_le (by rw [HL.out]; omega)]; rfl)
      rw [HR.out]
      go_wp2_with fail
      go_ret
      exact ⟨rfl, HK.out⟩
set_option maxHeartbeats 1000000 in
theorem dwithin_any (l : List Int) (a b : Int) (h : okD l) (ba : 0 ≤ a ∧ a ≤ 4294967295) (bb : 0 ≤ b ∧ b ≤ 4294967295) (w : World) : Calls Try.prog 21 #[.agg (dcs l).toArray, .agg #[.int .u32 a, .int .u32 b]] w fun e w' => e = .returned (.int .u64 (withD l (a, b))) ∧ Below w.heap.size w w' := by
  have HO := Lib.hid h
  have HL : Hid (l.length = 16) := Lib.hid h.1
  have HBA := Lib.hid ba
  have HBB := Lib.hid bb
  have HSHR : Hid (∀ (k : Nat), k < 16 → ∀ z, Calls Try.prog 31 #[.int .i64 k, .agg #[.int .u32 a, .int .u32 b]] z fun e w' => e = .returned (.int .u64 (shareD k (a, b))) ∧ Below z.heap.size z w') := Lib.hid (fun k hk z => dshare_any k hk a b ba bb z)
  obtain ⟨RES, hRES⟩ : ∃ x, x = withD l (a, b) := ⟨_, rfl⟩
  rw [← hRES]
  have HRES := Lib.hid hRES
  clear h ba bb hRES
  go_enter Try.func21, Try.ntmps21
  go_upto_region 2 with fail
  obtain ⟨W, hW⟩ : ∃ W, W = (w.alloc (.cells (dcs l).toArray 24)).alloc (.cells #[.int .u32 a, .int .u32 b] 46) := ⟨_, rfl⟩
  have HK : Hid (Below w.heap.size w W) := Lib.hid (hW ▸ more (more (Below.refl _ _) _) _)
  have HG : Hid (Blk W w.heap.size 24 (dcs l).toArray) := Lib.hid (by rw [hW]; exact (Blk.new w _ _).keep (more (Below.refl _ _) _))
  have HR : Hid (Blk W (w.heap.size + 1) 46 #[.int .u32 a, .int .u32 b]) := Lib.hid (by rw [hW]; exact Blk.newAt _ _ _ (by rw [size_alloc]))
  rw [← hW]
  obtain ⟨g, hg⟩ : ∃ g, g = w.heap.size := ⟨_, rfl⟩
  obtain ⟨r, hr⟩ : ∃ r, r = w.heap.size + 1 := ⟨_, rfl⟩
  rw [← hr] at HR ⊢
  rw [← hg] at HG ⊢
  clear hW hg hr
  go_wp2_with (refine at_load 2 rfl ?_; refine wpList_load_row rfl 24 (.tmp 2) rfl g rfl 24 _ (0, 0) _ HG.out Try.underlying24 rfl (den_info _ HL.out) ?_)
  go_loopw [5, 9] (fun s i wr => ∃ k : Nat, k ≤ 16 ∧ s = .int .u64 (withT l (a, b) k) ∧ i = .int .i64 k ∧ Below W.heap.size W wr) (fun _ i _ => 16 - (intOf i).toNat)
  case atStart => exact ⟨0, by omega, rfl, rfl, Below.refl _ _⟩
  case round =>
    obtain ⟨k, hk, rfl, rfl, hb⟩ := hrel
    have HKW := Lib.hid hb
    clear hb
    by_cases hlt : k < 16
    · have hkl : (k : Int) < 16 := by omega
      have c0 := (HR.out.keep HKW.out).cell 0
      have c1 := (HR.out.keep HKW.out).cell 1
      have d0 := idx_den l k hlt HL.out
      have HSK := Lib.hid (HSHR.out k hlt)
      have HPB := Lib.hid (part_bd HO.out k (by omega) (a, b) HBA.out HBB.out)
      have HWB := Lib.hid (with_bd HO.out (a, b) HBA.out HBB.out (k + 1) (by omega))
      have HTB := Lib.hid (sum_take_bd HO.out (k + 1))
      have HX := Lib.hid (HO.out.at k)
      have HST : Hid (withT l (a, b) (k + 1) = withT l (a, b) k + partD l (a, b) k) := Lib.hid rfl
      have HPD : Hid (partD l (a, b) k = l.getD k 0 * shareD k (a, b) / 268435456) := Lib.hid rfl
      obtain ⟨t, ht⟩ : ∃ t, t = shareD k (a, b) := ⟨_, rfl⟩
      rw [← ht] at HPB HPD HSK
      obtain ⟨x, hx⟩ : ∃ x, x = l.getD k 0 := ⟨_, rfl⟩
      rw [← hx] at HPB HPD HX
      simp only [← hx] at d0
      obtain ⟨p, hp⟩ : ∃ p, p = partD l (a, b) k := ⟨_, rfl⟩
      rw [← hp] at HPD HST HPB
      obtain ⟨s0, hs0⟩ : ∃ s0, s0 = withT l (a, b) k := ⟨_, rfl⟩
      rw [← hs0] at HST ⊢
      have hxw : IntKind.u64.wrap x = x := by rw [IntKind.wrap_u64]; have := HX.out; omega
      have hm : IntKind.u64.wrap (x * t) = x * t := by rw [IntKind.wrap_u64]; have := HPB.out; omega
      have hpd : x * t / 268435456 = p := HPD.out.symm
      have hsum : IntKind.u64.wrap (s0 + p) = withT l (a, b) (k + 1) := by rw [IntKind.wrap_u64, HST.out]; have := HWB.out; have := HTB.out; have := HST.out; omega
      clear hx hp ht hs0
      go_wp2_with (go_at_call 31; refine (HSK.out _).mono ?_; rintro e w1 ⟨rfl, hk1⟩)
      exact ⟨⟨k + 1, by omega, by go_num, by go_num, nest HKW.out hk1⟩, by simp [intOf]; omega⟩
    · have hkl : k = 16 := by omega
      subst hkl
      have HRR : Hid (withT l (a, b) 16 = RES) := Lib.hid HRES.out.symm
      rw [HRR.out]
      go_wp2_with fail
      go_ret
      exact ⟨rfl, nest HK.out HKW.out⟩
/-- an array's cells, at its place in a slice of them -/
theorem den_lies {w : World} {v : Value} {L : List Den} (h : Rd denE w v L) :
    ∃ a g off c, v = .slice a L.length c ∧ L.length ≤ c ∧ c ≤ maxLen ∧ (0 < L.length → a = some ⟨g, off, none⟩) ∧ ∀ (i : Nat) (hi : i < L.length) (k : Nat) (u : Value), (dcs (L[i]).1)[k]? = some u → w.cell? ⟨g, off + i * 16 + k, none⟩ = some u := by
  obtain ⟨a, g, off, c, hv, h1, h2, h3, h4⟩ := den_at h
  refine ⟨a, g, off, c, hv, h1, h2, h3, fun i hi k u hu => ?_⟩
  have hk : k < 16 := by
    have := (List.getElem?_eq_some_iff.1 hu).1
    rwa [dcs_len, (L[i]).2] at this
  have h5 := dcs_at (L[i]).1 (k := k) (by rw [(L[i]).2]; exact hk)
  rw [List.getElem?_toArray] at h5
  rw [h5] at hu
  injection hu with hu
  rw [← hu]
  exact h4 i hi k hk
end Go.Proofs.Ythdcgobdcdfefaa
