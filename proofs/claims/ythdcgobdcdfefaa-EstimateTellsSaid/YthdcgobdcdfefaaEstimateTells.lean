/- Walk of the law EstimateTells. -/
import Derived.Test.YthdcgobdcdfefaaEsLaw
import Derived.Test.YthdcgobdcdfefaaBoxOpen
set_option maxRecDepth 4000
namespace Go.Proofs.Ythdcgobdcdfefaa.estimateTells
open Go.RowKit Mem Cir
set_option linter.unusedSimpArgs false
set_option linter.unusedVariables false
attribute [local irreducible] Go.Calls

def fillD : Den := ⟨71 :: List.replicate 15 0, rfl⟩
set_option maxRecDepth 100000 in
set_option maxHeartbeats 8000000 in
theorem walk (D : List Int) (hD : okD D) (k a b : Int) (bk : -9223372036854775808 ≤ k ∧ k ≤ 9223372036854775807) (ba : 0 ≤ a ∧ a ≤ 4294967295) (bb : 0 ≤ b ∧ b ≤ 4294967295) (v2 : Value) (m : List (List Int)) (v3 : Value) (B : List (Int × Int × Int)) (w : World) (h2 : (kSlice (kVec 16 .u32)).rd w [v2] m) (h3 : Rd rngE w v3 B) (h4 : ∀ x ∈ B, (-9223372036854775808 ≤ x.1 ∧ x.1 ≤ 9223372036854775807) ∧ (0 ≤ x.2.1 ∧ x.2.1 ≤ 4294967295) ∧ 0 ≤ x.2.2 ∧ x.2.2 ≤ 4294967295) :
    Calls Try.prog 3 #[.agg (dcs D).toArray, .agg #[.int .i64 k, .int .u32 a, .int .u32 b], v2, v3] w fun e w' => e = .returned (.bool true) ∧ Below w.heap.size w w' := by
  obtain ⟨L, hLm, hL, hLB⟩ := dens_of_kd h2
  have HLR := Lib.hid hL
  have HLB := Lib.hid hLB
  have HBR := Lib.hid h3
  have HBB : Hid (∀ r ∈ B, okRn r) := Lib.hid h4
  have HD := Lib.hid hD
  have HDL : Hid (D.length = 16) := Lib.hid hD.1
  have HRG : Hid (okRn (k, a, b)) := Lib.hid ⟨bk, ba, bb⟩
  obtain ⟨a2, c2, rfl, _, _⟩ := hL.form
  obtain ⟨a3, c3, rfl, _, _⟩ := h3.form
  clear h2 hL hLB hD hLm h3 h4 bk ba bb
  go_enter Try.func3, Try.ntmps3
  go_upto_region 1 with fail
  obtain ⟨W, hW⟩ : ∃ W, W = (w.alloc (.cells (dcs D).toArray 24)).alloc (.cells #[.int .i64 k, .int .u32 a, .int .u32 b] 26) := ⟨_, rfl⟩
  have HK : Hid (Below w.heap.size w W) := Lib.hid (hW ▸ more (more (Below.refl _ _) _) _)
  have HG : Hid (Blk W w.heap.size 24 (dcs D).toArray) := Lib.hid (by rw [hW]; exact (Blk.new w _ _).keep (more (Below.refl _ _) _))
  have HR : Hid (Blk W (w.heap.size + 1) 26 #[.int .i64 k, .int .u32 a, .int .u32 b]) := Lib.hid (by rw [hW]; exact Blk.newAt _ _ _ (by rw [size_alloc]))
  rw [← hW]
  obtain ⟨r, hr⟩ : ∃ r, r = w.heap.size + 1 := ⟨_, rfl⟩
  obtain ⟨g, hg⟩ : ∃ g, g = w.heap.size := ⟨_, rfl⟩
  rw [← hr] at HR ⊢
  rw [← hg] at HG ⊢
  clear hW hr hg
  by_cases h30 : L.length > 30
  · have e30 : (L.length : Int) > 30 := by omega
    go_wp2_with (go_at_call 7; refine (eawake_any W).mono ?_; rintro e w2 ⟨rfl, hk⟩)
    go_ret
    exact ⟨rfl, nest HK.out hk⟩
  have e30 : ¬ (L.length : Int) > 30 := by omega
  by_cases h31 : B.length > 30
  · have e31 : (B.length : Int) > 30 := by omega
    go_wp2_with (go_at_call 7; refine (eawake_any W).mono ?_; rintro e w2 ⟨rfl, hk⟩)
    go_ret
    exact ⟨rfl, nest HK.out hk⟩
  have e31 : ¬ (B.length : Int) > 30 := by omega
  have HL30 : Hid (L.length ≤ 1000000 ∧ B.length ≤ 1000000) := Lib.hid (by omega)
  go_upto_region 3 with fail
  clear e30 h30 e31 h31
  go_upto_region 4 with (first | (go_at_call 8; refine (ownd_any _ L fillD W (HLR.out.keep HK.out) HL30.out.1).mono ?_; rintro e w2 ⟨go, rfl, hro, hk2⟩) | (go_at_call 9; refine (ownr_any _ B 71 0 0 w2 (HBR.out.keep (nest HK.out hk2)) HL30.out.2).mono ?_; rintro e w3 ⟨gp, rfl, hrp, hk3⟩))
  have HK3 := Lib.hid (nest (nest HK.out hk2) hk3)
  have HG3 := Lib.hid (HG.out.keep (nest hk2 hk3))
  have HR3 := Lib.hid (HR.out.keep (nest hk2 hk3))
  have HRO := Lib.hid (hro.rd.keep hk3)
  have HRO2 := Lib.hid ((own_rdE (m := [fillD, fillD, fillD]) hro.rd).keep hk3)
  have HRP := Lib.hid hrp.rd
  have HRP2 := Lib.hid (own_rdE (m := [(71, 0, 0), (71, 0, 0), (71, 0, 0)]) hrp.rd)
  have HL3 := Lib.hid (HLR.out.keep HK3.out)
  have HB3 := Lib.hid (HBR.out.keep HK3.out)
  clear hk2 hk3 hro hrp HK HG HR
  obtain ⟨x, hx⟩ : ∃ x, x = (bestR L B).1 := ⟨_, rfl⟩
  obtain ⟨y, hy⟩ : ∃ x, x = (bestR L B).2 := ⟨_, rfl⟩
  have HB1 := Lib.hid (fun z (hz : Below w3.heap.size w3 z) => ebest_any _ _ L B z (HRO2.out.keep hz) (HRP2.out.keep hz) HLB.out HBB.out HL30.out.1)
  have HB2 := Lib.hid (fun z (hz : Below w3.heap.size w3 z) => rbest_any _ _ L B z (HL3.out.keep hz) (HB3.out.keep hz) HLB.out HBB.out HL30.out.1)
  rw [← hx, ← hy] at HB1 HB2
  clear hx hy
  go_upto_region 5 with (go_at_call 10; refine (HB1.out _ (Below.refl _ _)).mono ?_; rintro e w4 ⟨rfl, hk4⟩)
  go_upto_region 6 with (go_at_call 11; refine (HB2.out _ hk4).mono ?_; rintro e w5 ⟨rfl, hk5⟩)
  have HS : Hid (Below w3.heap.size w3 w5) := Lib.hid (nest hk4 hk5)
  have HKP : Hid (∀ z, Below w3.heap.size w3 z → Calls Try.prog 14 #[.slice (some ⟨go, 0, none⟩) L.length (L.length + 3), .slice a2 L.length c2, .agg #[.int .u32 71, .int .u32 0, .int .u32 0, .int .u32 0, .int .u32 0, .int .u32 0, .int .u32 0, .int .u32 0, .int .u32 0, .int .u32 0, .int .u32 0, .int .u32 0, .int .u32 0, .int .u32 0, .int .u32 0, .int .u32 0]] z fun e w' => e = .returned (.bool true) ∧ Below z.heap.size z w') := Lib.hid (fun z hz => keptd_yes go _ L fillD z (HRO.out.keep hz) (HL3.out.keep hz) HL30.out.1)
  have HKR := Lib.hid (fun z (hz : Below w3.heap.size w3 z) => keptr_yes gp (.slice a3 B.length c3) B 71 0 0 z (HRP.out.keep hz) (HB3.out.keep hz) HL30.out.2)
  have HQ1 := Lib.hid (fun z => epart_any D (k, a, b) HD.out HRG.out z)
  have HQ2 := Lib.hid (fun z => rpart_any D (k, a, b) HD.out HRG.out z)
  generalize partR D (k, a, b) = p at HQ1 HQ2
  dsimp only at HQ1 HQ2
  clear hk4 hk5
  refine Run.region_walk (S := fun z => Below w3.heap.size w3 z)
    letells.rows6 letells.plan6 (l := ?steps1) (by kernel_rfl) (by kernel_rfl) (by kernel_rfl) (by kernel_rfl) ?written1 HS.out.drew ?onward1
  case written1 =>
    simp only [letells.plan6, Run.stepsOf, Run.stepOf, Run.guardOf, List.getElem?_toArray, List.getElem?_cons_zero, List.getElem?_cons_succ, Option.map_some, Option.map_none, Option.bind_some, Option.toList_some, List.map_cons, List.map_nil, List.cons_append, List.nil_append, List.append_eq]
    rfl
  repeat ((first
    | (refine Run.takes (v := ?_) ?_ ?_; rotate_left; (· intro w' hS'; (first | (refine exec_load_arr (n := 16) (x := .tmp 4) (l := dcs D) ?_ Try.underlying24 den_i (by rw [dcs_len]; exact HDL.out) ?_ (HG3.out.keep hS') <;> rfl) | (refine exec_load_blk (n := 3) (x := .tmp 5) (l := [.int .i64 k, .int .u32 a, .int .u32 b]) ?_ Try.underlying26 rg3_info ?_ ?_ (HR3.out.keep hS') <;> rfl) | (go_simp; (try with_reducible rfl)))))
    | (refine Run.takesG (v := ?_) ?_ ?_ ?_; rotate_left; (· simp only [List.getElem?_cons_zero, List.getElem?_cons_succ]); (· intro w' hS'; (first | (refine exec_load_arr (n := 16) (x := .tmp 4) (l := dcs D) ?_ Try.underlying24 den_i (by rw [dcs_len]; exact HDL.out) ?_ (HG3.out.keep hS') <;> rfl) | (refine exec_load_blk (n := 3) (x := .tmp 5) (l := [.int .i64 k, .int .u32 a, .int .u32 b]) ?_ Try.underlying26 rg3_info ?_ ?_ (HR3.out.keep hS') <;> rfl) | (go_simp; (try with_reducible rfl)))))
    | (refine Run.skipsT ?_ ?_; (· simp only [List.getElem?_cons_zero, List.getElem?_cons_succ]))
    | (refine Run.skipsF ?_ ?_; (· simp only [List.getElem?_cons_zero, List.getElem?_cons_succ]))
    | (refine Run.skipsU ?_ ?_; (· simp only [List.getElem?_cons_zero, List.getElem?_cons_succ]))
    | (refine Run.passT ?_ ?_; (· simp only [List.getElem?_cons_zero, List.getElem?_cons_succ]))
    | (refine Run.passF ?_ ?_; (· simp only [List.getElem?_cons_zero, List.getElem?_cons_succ]))
    | (refine Run.passU ?_ ?_; (· simp only [List.getElem?_cons_zero, List.getElem?_cons_succ]))
    | (refine Run.runs ?_
       (first
       | (refine Run.callF 7 (by kernel_rfl) (fun hS => eawake_any _) rfl ?_)
       | (refine Run.callG 7 (by kernel_rfl) ?_ (fun hS => eawake_any _) rfl ?_; (· simp only [List.getElem?_cons_zero, List.getElem?_cons_succ]))
       | (refine Run.callF 12 (by kernel_rfl) (fun hS => HQ1.out _) rfl ?_)
       | (refine Run.callG 12 (by kernel_rfl) ?_ (fun hS => HQ1.out _) rfl ?_; (· simp only [List.getElem?_cons_zero, List.getElem?_cons_succ]))
       | (refine Run.callF 13 (by kernel_rfl) (fun hS => HQ2.out _) rfl ?_)
       | (refine Run.callG 13 (by kernel_rfl) ?_ (fun hS => HQ2.out _) rfl ?_; (· simp only [List.getElem?_cons_zero, List.getElem?_cons_succ]))
       | (refine Run.callF 14 (by kernel_rfl) (fun hS => HKP.out _ hS) rfl ?_)
       | (refine Run.callG 14 (by kernel_rfl) ?_ (fun hS => HKP.out _ hS) rfl ?_; (· simp only [List.getElem?_cons_zero, List.getElem?_cons_succ]))
       | (refine Run.callF 15 (by kernel_rfl) (fun hS => HKR.out _ hS) rfl ?_)
       | (refine Run.callG 15 (by kernel_rfl) ?_ (fun hS => HKR.out _ hS) rfl ?_; (· simp only [List.getElem?_cons_zero, List.getElem?_cons_succ]))
       | fail)
       (first
       | (rintro hS e w' ⟨rfl, rfl⟩; refine ⟨_, rfl, hS, ?_⟩)
       | (rintro hS e w' ⟨rfl, hb⟩; refine ⟨_, rfl, nest hS hb, ?_⟩)
       | fail))
    | fail); simp only [Act.put, List.setIfInBounds_toArray, List.set_cons_zero, List.set_cons_succ])
  refine Run.ends (fun hS => ?_)
  have HK5 := Lib.hid (nest HK3.out hS)
  clear hS
  go_wp2_with fail
  go_ret
  exact ⟨rfl, HK5.out⟩
end Go.Proofs.Ythdcgobdcdfefaa.estimateTells
