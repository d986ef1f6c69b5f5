/- Walk of the law DensityTells. -/
import Derived.Test.YtpfdmjgojpngjaaDnLaw
set_option maxRecDepth 4000
namespace Go.Proofs.Ytpfdmjgojpngjaa.densityTells
open Go.RowKit Mem Cir
set_option linter.unusedSimpArgs false
set_option linter.unusedVariables false
attribute [local irreducible] Go.Calls

def fillD : Den := ⟨71 :: List.replicate 15 0, rfl⟩
set_option maxRecDepth 100000 in
set_option maxHeartbeats 8000000 in
theorem walk (D : List Int) (hD : okD D) (x : Int) (bx : 0 ≤ x ∧ x ≤ 4294967295) (n : Int) (bn : -9223372036854775808 ≤ n ∧ n ≤ 9223372036854775807) (v1 : Value) (l : List Ent) (v2 : Value) (m : List (List Int)) (f t : Int) (bf : 0 ≤ f ∧ f ≤ 4294967295) (bt : 0 ≤ t ∧ t ≤ 4294967295) (w : World) (h1 : entsK.rd w [v1] l) (h2 : (kSlice (kVec 16 .u32)).rd w [v2] m) :
    Calls Try.prog 3 #[.agg (dcs D).toArray, .int .u32 x, .int .i64 n, v1, v2, .agg #[.int .u32 f, .int .u32 t]] w fun e w' => e = .returned (.bool true) ∧ Below w.heap.size w w' := by
  obtain ⟨hE, hEB⟩ := ents_of_kd h1
  obtain ⟨L, hLm, hL, hLB⟩ := dens_of_kd h2
  have HE := Lib.hid hE
  have HEB := Lib.hid hEB
  have HLR := Lib.hid hL
  have HLB := Lib.hid hLB
  have HD := Lib.hid hD
  have HDL : Hid (D.length = 16) := Lib.hid hD.1
  have HBX := Lib.hid bx
  have HBN := Lib.hid bn
  have HBF := Lib.hid bf
  have HBT := Lib.hid bt
  obtain ⟨a1, g1, o1, c1, rfl, _⟩ := hE.at
  obtain ⟨a2, c2, rfl, _, _⟩ := hL.form
  clear h1 h2 hE hEB hL hLB hD hLm bx bn bf bt
  go_enter Try.func3, Try.ntmps3
  go_upto_region 1 with fail
  obtain ⟨W, hW⟩ : ∃ W, W = (w.alloc (.cells (dcs D).toArray 24)).alloc (.cells #[.int .u32 f, .int .u32 t] 28) := ⟨_, rfl⟩
  have HK : Hid (Below w.heap.size w W) := Lib.hid (hW ▸ more (more (Below.refl _ _) _) _)
  have HG : Hid (Blk W w.heap.size 24 (dcs D).toArray) := Lib.hid (by rw [hW]; exact (Blk.new w _ _).keep (more (Below.refl _ _) _))
  have HR : Hid (Blk W (w.heap.size + 1) 28 #[.int .u32 f, .int .u32 t]) := Lib.hid (by rw [hW]; exact Blk.newAt _ _ _ (by rw [size_alloc]))
  rw [← hW]
  obtain ⟨r, hr⟩ : ∃ r, r = w.heap.size + 1 := ⟨_, rfl⟩
  obtain ⟨g, hg⟩ : ∃ g, g = w.heap.size := ⟨_, rfl⟩
  rw [← hr] at HR ⊢
  rw [← hg] at HG ⊢
  clear hW hr hg
  have HFEW := Lib.hid (dfew_any _ _ l W (HE.out.keep HK.out))
  obtain ⟨fw, hfw⟩ : ∃ b, b = fewD l := ⟨_, rfl⟩
  rw [← hfw] at HFEW
  have HFW := Lib.hid hfw
  clear hfw
  cases fw with
  | false =>
    go_upto_region 2 with (go_at_call 8; refine HFEW.out.mono ?_; rintro e w1 ⟨rfl, hk⟩)
    have HK1 := Lib.hid (nest HK.out hk)
    clear hk
    go_wp2_with (go_at_call 9; refine (dawake_any w1).mono ?_; rintro e w2 ⟨rfl, hk⟩)
    go_ret
    exact ⟨rfl, nest HK1.out hk⟩
  | true =>
    have HF := Lib.hid (fewd_yes.1 HFW.out.symm)
    by_cases h30 : L.length > 30
    · have e30 : (L.length : Int) > 30 := by omega
      go_upto_region 2 with (go_at_call 8; refine HFEW.out.mono ?_; rintro e w1 ⟨rfl, hk⟩)
      have HK1 := Lib.hid (nest HK.out hk)
      clear hk
      go_wp2_with (go_at_call 9; refine (dawake_any w1).mono ?_; rintro e w2 ⟨rfl, hk⟩)
      go_ret
      exact ⟨rfl, nest HK1.out hk⟩
    · have e30 : ¬ (L.length : Int) > 30 := by omega
      have HL30 : Hid (L.length ≤ 30) := Lib.hid (by omega)
      go_upto_region 3 with (go_at_call 8; refine HFEW.out.mono ?_; rintro e w1 ⟨rfl, hk⟩)
      have HK1 := Lib.hid (nest HK.out hk)
      have HG1 := Lib.hid (HG.out.keep hk)
      have HR1 := Lib.hid (HR.out.keep hk)
      clear hk e30 h30 HFEW HFW HK HG HR
      go_upto_region 4 with (go_at_call 10; refine (ownd_any _ L fillD w1 (HLR.out.keep HK1.out) (by have := HL30.out; omega)).mono ?_; rintro e w2 ⟨go, rfl, hro, hk⟩)
      have HK2 := Lib.hid (nest HK1.out hk)
      have HG2 := Lib.hid (HG1.out.keep hk)
      have HR2 := Lib.hid (HR1.out.keep hk)
      have HRO := Lib.hid hro.rd
      have HRO2 := Lib.hid (own_rdE (m := [fillD, fillD, fillD]) hro.rd)
      have HE2 := Lib.hid (HE.out.keep HK2.out)
      have HL2 := Lib.hid (HLR.out.keep HK2.out)
      clear hk hro HK1 HG1 HR1
      have heq1 := fun z => den_eql (HD.out.add x n).1 (HD.out.add x n).1 z
      have heq2 := fun z => den_eql (okD.count l).1 (okD.count l).1 z
      have heq3 := fun z => den_eql (okD.sum (vals L)).1 (okD.sum (vals L)).1 z
      rw [show decide (addD D x n = addD D x n) = true by simp] at heq1
      rw [show decide (countD l = countD l) = true by simp] at heq2
      rw [show decide (sumD (vals L) = sumD (vals L)) = true by simp] at heq3
      have c0 := HR2.out.cell 0
      have c1 := HR2.out.cell 1
      have HKP : Hid (∀ z, Below w2.heap.size w2 z → Calls Try.prog 21 #[.slice (some ⟨go, 0, none⟩) L.length (L.length + 3), .slice a2 L.length c2, .agg #[.int .u32 71, .int .u32 0, .int .u32 0, .int .u32 0, .int .u32 0, .int .u32 0, .int .u32 0, .int .u32 0, .int .u32 0, .int .u32 0, .int .u32 0, .int .u32 0, .int .u32 0, .int .u32 0, .int .u32 0, .int .u32 0]] z fun e w' => e = .returned (.bool true) ∧ Below z.heap.size z w') := Lib.hid (fun z hz => keptd_yes go _ L fillD z (HRO.out.keep hz) (HL2.out.keep hz) (by have := HL30.out; omega))
      have HLL : Hid (L.length ≤ 1000000 ∧ l.length ≤ 1000000) := Lib.hid ⟨by have := HL30.out; omega, by have := HF.out.1; omega⟩
      clear c0 c1
      refine Run.region_walk (S := fun z => Below w2.heap.size w2 z)
        ldtells.rows4 ldtells.plan4 (l := ?steps1) (by kernel_rfl) (by kernel_rfl) (by kernel_rfl) (by kernel_rfl) ?written1 (Below.refl _ _).drew ?onward1
      case written1 =>
        simp only [ldtells.plan4, Run.stepsOf, Run.stepOf, Run.guardOf, List.getElem?_toArray, List.getElem?_cons_zero, List.getElem?_cons_succ, Option.map_some, Option.map_none, Option.bind_some, Option.toList_some, List.map_cons, List.map_nil, List.cons_append, List.nil_append, List.append_eq]
        rfl
      repeat ((first
        | (refine Run.takes (v := ?_) ?_ ?_; rotate_left; (· intro w' hS'; (first | (refine exec_load_arr (n := 16) (x := .tmp 6) (l := dcs D) ?_ Try.underlying24 den_i (by rw [dcs_len]; exact HDL.out) ?_ (HG2.out.keep hS') <;> rfl) | (refine exec_load_blk (n := 2) (x := .tmp 11) (l := [.int .u32 f, .int .u32 t]) ?_ Try.underlying28 spn_info ?_ ?_ (HR2.out.keep hS') <;> rfl) | (go_simp; (try with_reducible rfl)))))
        | (refine Run.takesG (v := ?_) ?_ ?_ ?_; rotate_left; (· simp only [List.getElem?_cons_zero, List.getElem?_cons_succ]); (· intro w' hS'; (first | (refine exec_load_arr (n := 16) (x := .tmp 6) (l := dcs D) ?_ Try.underlying24 den_i (by rw [dcs_len]; exact HDL.out) ?_ (HG2.out.keep hS') <;> rfl) | (refine exec_load_blk (n := 2) (x := .tmp 11) (l := [.int .u32 f, .int .u32 t]) ?_ Try.underlying28 spn_info ?_ ?_ (HR2.out.keep hS') <;> rfl) | (go_simp; (try with_reducible rfl)))))
        | (refine Run.skipsT ?_ ?_; (· simp only [List.getElem?_cons_zero, List.getElem?_cons_succ]))
        | (refine Run.skipsF ?_ ?_; (· simp only [List.getElem?_cons_zero, List.getElem?_cons_succ]))
        | (refine Run.skipsU ?_ ?_; (· simp only [List.getElem?_cons_zero, List.getElem?_cons_succ]))
        | (refine Run.passT ?_ ?_; (· simp only [List.getElem?_cons_zero, List.getElem?_cons_succ]))
        | (refine Run.passF ?_ ?_; (· simp only [List.getElem?_cons_zero, List.getElem?_cons_succ]))
        | (refine Run.passU ?_ ?_; (· simp only [List.getElem?_cons_zero, List.getElem?_cons_succ]))
        | (refine Run.runs ?_
           (first
           | (refine Run.callF 9 (by kernel_rfl) (fun hS => dawake_any _) rfl ?_)
           | (refine Run.callG 9 (by kernel_rfl) ?_ (fun hS => dawake_any _) rfl ?_; (· simp only [List.getElem?_cons_zero, List.getElem?_cons_succ]))
           | (refine Run.callF 11 (by kernel_rfl) (fun hS => dadd_any D x n HD.out HBX.out HBN.out _) rfl ?_)
           | (refine Run.callG 11 (by kernel_rfl) ?_ (fun hS => dadd_any D x n HD.out HBX.out HBN.out _) rfl ?_; (· simp only [List.getElem?_cons_zero, List.getElem?_cons_succ]))
           | (refine Run.callF 12 (by kernel_rfl) (fun hS => radd_any D x n HD.out HBX.out _) rfl ?_)
           | (refine Run.callG 12 (by kernel_rfl) ?_ (fun hS => radd_any D x n HD.out HBX.out _) rfl ?_; (· simp only [List.getElem?_cons_zero, List.getElem?_cons_succ]))
           | (refine Run.callF 13 (by kernel_rfl) (fun hS => dall_any D HD.out _) rfl ?_)
           | (refine Run.callG 13 (by kernel_rfl) ?_ (fun hS => dall_any D HD.out _) rfl ?_; (· simp only [List.getElem?_cons_zero, List.getElem?_cons_succ]))
           | (refine Run.callF 14 (by kernel_rfl) (fun hS => rall_any D HD.out _) rfl ?_)
           | (refine Run.callG 14 (by kernel_rfl) ?_ (fun hS => rall_any D HD.out _) rfl ?_; (· simp only [List.getElem?_cons_zero, List.getElem?_cons_succ]))
           | (refine Run.callF 15 (by kernel_rfl) (fun hS => dcount_any _ l _ _ (HE2.out.keep hS) HEB.out HLL.out.2) rfl ?_)
           | (refine Run.callG 15 (by kernel_rfl) ?_ (fun hS => dcount_any _ l _ _ (HE2.out.keep hS) HEB.out HLL.out.2) rfl ?_; (· simp only [List.getElem?_cons_zero, List.getElem?_cons_succ]))
           | (refine Run.callF 16 (by kernel_rfl) (fun hS => rcount_any _ l _ _ (HE2.out.keep hS) HEB.out) rfl ?_)
           | (refine Run.callG 16 (by kernel_rfl) ?_ (fun hS => rcount_any _ l _ _ (HE2.out.keep hS) HEB.out) rfl ?_; (· simp only [List.getElem?_cons_zero, List.getElem?_cons_succ]))
           | (refine Run.callF 17 (by kernel_rfl) (fun hS => dsum_any _ L _ (HRO2.out.keep hS) HLB.out HLL.out.1) rfl ?_)
           | (refine Run.callG 17 (by kernel_rfl) ?_ (fun hS => dsum_any _ L _ (HRO2.out.keep hS) HLB.out HLL.out.1) rfl ?_; (· simp only [List.getElem?_cons_zero, List.getElem?_cons_succ]))
           | (refine Run.callF 18 (by kernel_rfl) (fun hS => rsum_any _ L _ (HL2.out.keep hS) HLB.out HLL.out.1) rfl ?_)
           | (refine Run.callG 18 (by kernel_rfl) ?_ (fun hS => rsum_any _ L _ (HL2.out.keep hS) HLB.out HLL.out.1) rfl ?_; (· simp only [List.getElem?_cons_zero, List.getElem?_cons_succ]))
           | (refine Run.callF 19 (by kernel_rfl) (fun hS => dwithin_any D f t HD.out HBF.out HBT.out _) rfl ?_)
           | (refine Run.callG 19 (by kernel_rfl) ?_ (fun hS => dwithin_any D f t HD.out HBF.out HBT.out _) rfl ?_; (· simp only [List.getElem?_cons_zero, List.getElem?_cons_succ]))
           | (refine Run.callF 20 (by kernel_rfl) (fun hS => rwithin_any D f t HD.out HBF.out HBT.out _) rfl ?_)
           | (refine Run.callG 20 (by kernel_rfl) ?_ (fun hS => rwithin_any D f t HD.out HBF.out HBT.out _) rfl ?_; (· simp only [List.getElem?_cons_zero, List.getElem?_cons_succ]))
           | (refine Run.callF 21 (by kernel_rfl) (fun hS => HKP.out _ hS) rfl ?_)
           | (refine Run.callG 21 (by kernel_rfl) ?_ (fun hS => HKP.out _ hS) rfl ?_; (· simp only [List.getElem?_cons_zero, List.getElem?_cons_succ]))
           | fail)
           (first
           | (rintro hS e w' ⟨rfl, rfl⟩; refine ⟨_, rfl, hS, ?_⟩)
           | (rintro hS e w' ⟨rfl, hb⟩; refine ⟨_, rfl, nest hS hb, ?_⟩)
           | fail))
        | fail); simp only [Act.put, List.setIfInBounds_toArray, List.set_cons_zero, List.set_cons_succ])
      refine Run.ends (fun hS => ?_)
      have HK5 := Lib.hid (nest HK2.out hS)
      clear hS
      go_wp2_with fail
      go_ret
      exact ⟨rfl, HK5.out⟩
end Go.Proofs.Ytpfdmjgojpngjaa.densityTells
