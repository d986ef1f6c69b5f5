/- The document's answers for package density (petasosref14): Within, Sum, Count. -/
import Derived.Test.YthdcgobdcdfefaaDnRef
set_option maxRecDepth 4000
namespace Go.Proofs.Ythdcgobdcdfefaa
open Go.RowKit Mem Cir
set_option linter.unusedSimpArgs false
set_option linter.unusedVariables false
attribute [local irreducible] Go.Calls

theorem cut_mem (f t a b : Int) : ∀ x ∈ cutL f t a b, (0 ≤ x.1 ∧ x.1 ≤ 4294967295) ∧ 0 ≤ x.2 ∧ x.2 ≤ 4294967295 := by
  intro x hx
  unfold cutL at hx
  split at hx
  · cases hx
  · rw [List.mem_singleton] at hx
    subst hx
    dsimp only
    omega
theorem meet_mem (f t g u : Int) (bf : 0 ≤ f ∧ f ≤ 4294967295) (bt : 0 ≤ t ∧ t ≤ 4294967295) (bg : 0 ≤ g ∧ g ≤ 4294967295) (bu : 0 ≤ u ∧ u ≤ 4294967295) : ∀ x ∈ meetL f t g u, (0 ≤ x.1 ∧ x.1 ≤ 4294967295) ∧ 0 ≤ x.2 ∧ x.2 ≤ 4294967295 := by
  intro x hx
  unfold meetL at hx
  split at hx
  · rw [List.mem_singleton] at hx
    subst hx
    exact ⟨bf, bt⟩
  · split at hx
    · exact cut_mem _ _ _ _ x hx
    · rcases List.mem_append.1 hx with hx | hx <;> exact cut_mem _ _ _ _ x hx
theorem spans_rd {B : Nat} {w : World} {v : Value} {l : List (Int × Int)} (h : SpansAt B w v l) : Rd (pairE .u32) w v l :=
  Row.rd (E := pairE .u32) (T := 46) (B := B) h
set_option maxHeartbeats 4000000 in
theorem rwithin_any (l : List Int) (a b : Int) (h : okD l) (ba : 0 ≤ a ∧ a ≤ 4294967295) (bb : 0 ≤ b ∧ b ≤ 4294967295) (w : World) : Calls Try.prog 25 #[.agg (dcs l).toArray, .agg #[.int .u32 a, .int .u32 b]] w fun e w' => e = .returned (.int .u64 (withD l (a, b))) ∧ Below w.heap.size w w' := by
  have HO := Lib.hid h
  have HL : Hid (l.length = 16) := Lib.hid h.1
  have HBA := Lib.hid ba
  have HBB := Lib.hid bb
  obtain ⟨RES, hRES⟩ : ∃ x, x = withD l (a, b) := ⟨_, rfl⟩
  rw [← hRES]
  have HRES := Lib.hid hRES
  clear h ba bb hRES
  go_enter Try.func25, Try.ntmps25
  go_upto_region 2 with fail
  obtain ⟨W, hW⟩ : ∃ W, W = (w.alloc (.cells (dcs l).toArray 24)).alloc (.cells #[.int .u32 a, .int .u32 b] 46) := ⟨_, rfl⟩
  have HK : Hid (Below w.heap.size w W) := Lib.hid (hW ▸ more (more (Below.refl _ _) _) _)
  have HG : Hid (Blk W w.heap.size 24 (dcs l).toArray) := Lib.hid (by rw [hW]; exact (Blk.new w _ _).keep (more (Below.refl _ _) _))
  have HR : Hid (Blk W (w.heap.size + 1) 46 #[.int .u32 a, .int .u32 b]) := Lib.hid (by rw [hW]; exact Blk.newAt _ _ _ (by rw [size_alloc]))
  rw [← hW]
  obtain ⟨g, hg⟩ : ∃ g, g = w.heap.size := ⟨_, rfl⟩
  obtain ⟨r, hr⟩ : ∃ r, r = w.heap.size + 1 := ⟨_, rfl⟩
  rw [← hr] at HR ⊢
  rw [← hg] at HG ⊢
  clear hW hg hr
  go_wp2_with fail
  go_loopw [5, 6] (fun s i wr => ∃ k : Nat, k ≤ 16 ∧ s = .int .u64 (withT l (a, b) k) ∧ i = .int .i64 k ∧ Below W.heap.size W wr) (fun _ i _ => 16 - (intOf i).toNat)
  case atStart => exact ⟨0, by omega, rfl, rfl, Below.refl _ _⟩
  case round =>
    obtain ⟨k, hk, rfl, rfl, hb⟩ := hrel
    obtain ⟨wo, hwo⟩ : ∃ z, z = wr := ⟨_, rfl⟩
    subst hwo
    have HKW := Lib.hid hb
    clear hb
    by_cases hlt : k < 16
    · have hkl : (k : Int) < 16 := by omega
      have hkw : IntKind.u32.wrap (k : Int) = (k : Int) := by rw [IntKind.wrap_u32]; omega
      go_upto_region 7 with fail
      have c0 := (HR.out.keep HKW.out).cell 0
      have c1 := (HR.out.keep HKW.out).cell 1
      obtain ⟨ML, hML⟩ : ∃ x, x = meetL (((k : Int) * 268435456 - 1) % 4294967296) (((k : Int) * 268435456 + 268435456 - 1) % 4294967296) a b := ⟨_, rfl⟩
      have HSH : Hid (shareD k (a, b) = szs ML) := Lib.hid (by rw [hML]; unfold shareD; rw [Int.mul_comm 268435456, Int.add_sub_assoc]; rfl)
      have HML : Hid (ML.length ≤ 2 ∧ ∀ x ∈ ML, (0 ≤ x.1 ∧ x.1 ≤ 4294967295) ∧ 0 ≤ x.2 ∧ x.2 ≤ 4294967295) := Lib.hid ⟨by rw [hML]; exact meet_len _ _ _ _, by rw [hML]; exact meet_mem _ _ _ _ (by omega) (by omega) HBA.out HBB.out⟩
      have HM := Lib.hid (rmeet_any (((k : Int) * 268435456 - 1) % 4294967296) (((k : Int) * 268435456 + 268435456 - 1) % 4294967296) a b (by omega) (by omega) HBA.out HBB.out wo)
      rw [← hML] at HM
      clear hML
      go_upto_region 8 with (go_at_call 32; refine HM.out.mono ?_; rintro e w1 ⟨v, rfl, hv, hk1⟩)
      have HKV := Lib.hid (nest HKW.out hk1)
      obtain ⟨av, gv, ov, cv, rfl, _, hcv, hga, hcs⟩ := (spans_rd hv).loop
      have HCS := Lib.hid hcs
      have HGA := Lib.hid hga
      clear hv hk1 HM c0 c1 hcs hga
      obtain ⟨wi, hwi⟩ : ∃ z, z = w1 := ⟨_, rfl⟩
      subst hwi
      have hcv2 : cv ≤ 9223372036854775807 := hcv
      go_upto_region 12 with fail
      go_loopw [8, 10] (fun s i wr => ∃ j : Nat, j ≤ ML.length ∧ s = .int .u64 (szs (ML.take j)) ∧ i = .int .i64 j ∧ Below wi.heap.size wi wr) (fun _ i _ => ML.length - (intOf i).toNat)
      case atStart => exact ⟨0, by omega, rfl, rfl, Below.refl _ _⟩
      case round =>
        obtain ⟨j, hj, rfl, rfl, hbj⟩ := hrel
        obtain ⟨wj, hwj⟩ : ∃ z, z = wr := ⟨_, rfl⟩
        subst hwj
        have HKJ := Lib.hid hbj
        clear hbj
        have hml2 : ML.length ≤ 2 := HML.out.1
        by_cases hlt2 : j < ML.length
        · have hjl : (j : Int) < (ML.length : Int) := by omega
          obtain ⟨rfl, _⟩ := HGA.out (by omega)
          have d0 := kc HKJ.out (HCS.out j hlt2).1
          have d1 := kc HKJ.out (HCS.out j hlt2).2
          have HST := Lib.hid (szs_take ML j hlt2)
          have HB1 := Lib.hid (szs_bd (ML.take (j + 1)))
          have HLN : Hid ((ML.take (j + 1)).length ≤ 2) := Lib.hid (by rw [List.length_take]; omega)
          have HEM := Lib.hid (HML.out.2 (ML.getD j (0, 0)) (by rw [show ML.getD j (0, 0) = ML[j] by simp [List.getD, hlt2]]; exact List.getElem_mem hlt2))
          obtain ⟨⟨x, y⟩, hxy⟩ : ∃ p, p = ML.getD j (0, 0) := ⟨_, rfl⟩
          rw [← hxy] at d0 d1 HST HEM
          dsimp only at d0 d1 HST HEM
          obtain ⟨q, hq⟩ : ∃ q, q = beh x y := ⟨_, rfl⟩
          have HSZ := Lib.hid (rsize_any x y HEM.out.1 HEM.out.2 wj)
          rw [← hq] at HST HSZ
          have hqs : IntKind.u64.wrap (szs (ML.take j) + q) = szs (ML.take (j + 1)) := by rw [IntKind.wrap_u64, HST.out]; have := HB1.out; have := HLN.out; have := HST.out; omega
          clear hxy hq
          go_wp2_with (go_at_call 24; refine HSZ.out.mono ?_; rintro e w2 ⟨rfl, hk2⟩)
          exact ⟨⟨j + 1, by omega, by go_num, by go_num, nest HKJ.out hk2⟩, by simp [intOf]; omega⟩
        · have hjl : j = ML.length := by omega
          obtain ⟨t, ht⟩ : ∃ t, t = szs (ML.take j) := ⟨_, rfl⟩
          have HT : Hid (t = shareD k (a, b)) := Lib.hid (by rw [ht, HSH.out, hjl, List.take_length])
          rw [← ht]
          clear ht
          subst hjl
          have d0 : wj.cell? ⟨g, k, none⟩ = some (.int .u32 (l.getD k 0)) := by rw [(HG.out.keep (nest HKV.out HKJ.out)).cell]; exact dcs_at l (by rw [HL.out]; exact hlt)
          have HPB := Lib.hid (part_bd HO.out k (by omega) (a, b) HBA.out HBB.out)
          have HWB := Lib.hid (with_bd HO.out (a, b) HBA.out HBB.out (k + 1) (by omega))
          have HTB := Lib.hid (sum_take_bd HO.out (k + 1))
          have HX := Lib.hid (HO.out.at k)
          have HST : Hid (withT l (a, b) (k + 1) = withT l (a, b) k + partD l (a, b) k) := Lib.hid rfl
          have HPD : Hid (partD l (a, b) k = l.getD k 0 * t / 268435456) := Lib.hid (by rw [HT.out]; rfl)
          rw [← HT.out] at HPB
          generalize l.getD k 0 = x at *
          have hx : IntKind.u64.wrap x = x := by rw [IntKind.wrap_u64]; have := HX.out; omega
          have hm : IntKind.u64.wrap (x * t) = x * t := by rw [IntKind.wrap_u64]; have := HPB.out; omega
          obtain ⟨p, hp⟩ : ∃ p, p = partD l (a, b) k := ⟨_, rfl⟩
          rw [← hp] at HPD HST HPB
          have hpd : x * t / 268435456 = p := HPD.out.symm
          have hsum : IntKind.u64.wrap (withT l (a, b) k + p) = withT l (a, b) (k + 1) := by rw [IntKind.wrap_u64, HST.out]; have := HWB.out; have := HTB.out; have := HST.out; omega
          clear hp hkw
          go_wp2_with fail
          exact ⟨⟨k + 1, by omega, by go_num, by go_num, nest HKV.out HKJ.out⟩, by simp [intOf]; omega⟩
    · have hkl : k = 16 := by omega
      subst hkl
      have HR : Hid (withT l (a, b) 16 = RES) := Lib.hid HRES.out.symm
      rw [HR.out]
      go_wp2_with fail
      go_ret
      exact ⟨rfl, nest HK.out HKW.out⟩
end Go.Proofs.Ythdcgobdcdfefaa
