/- Walk of the law EstimateGrows. -/
import Derived.Test.YthdcgobdcdfefaaEsLaw
set_option maxRecDepth 4000
namespace Go.Proofs.Ythdcgobdcdfefaa.estimateGrows
open Go.RowKit Mem Cir
set_option linter.unusedSimpArgs false
set_option linter.unusedVariables false
attribute [local irreducible] Go.Calls

set_option maxRecDepth 100000 in
set_option maxHeartbeats 8000000 in
theorem walk (D : List Int) (hD : okD D) (lo : Int) (blo : 0 ≤ lo ∧ lo ≤ 4294967295) (hi : Int) (bhi : 0 ≤ hi ∧ hi ≤ 4294967295) (x : Int) (bx : 0 ≤ x ∧ x ≤ 4294967295) (w : World) :
    Calls Try.prog 5 #[.agg (dcs D).toArray, .int .u32 lo, .int .u32 hi, .int .u32 x] w fun e w' => e = .returned (.bool true) ∧ Below w.heap.size w w' := by
  have HD := Lib.hid hD
  have HDL : Hid (D.length = 16) := Lib.hid hD.1
  have HBL := Lib.hid blo
  have HBH := Lib.hid bhi
  have HA1 := Lib.hid (fun z => epart_any D (2, lo, hi) hD ⟨by simp, blo, bhi⟩ z)
  have HA3 : Hid (∀ z, Calls Try.prog 12 #[.agg (dcs D).toArray, .agg #[.int .i64 3, .int .u32 0, .int .u32 0]] z fun e w' => e = .returned (.int .u32 0) ∧ Below z.heap.size z w') := Lib.hid (fun z => by have := epart_any D (3, 0, 0) hD ⟨by simp, by simp, by simp⟩ z; rw [part_none3] at this; exact this)
  have HA4 : Hid (∀ z, Calls Try.prog 12 #[.agg (dcs D).toArray, .agg #[.int .i64 1, .int .u32 0, .int .u32 0]] z fun e w' => e = .returned (.int .u32 65536) ∧ Below z.heap.size z w') := Lib.hid (fun z => by have := epart_any D (1, 0, 0) hD ⟨by simp, by simp, by simp⟩ z; rw [part_any hD] at this; exact this)
  obtain ⟨R, hR⟩ : ∃ R, R = ((lo - hi) % 4294967296 - 1) % 4294967296 := ⟨_, rfl⟩
  have HRQ : Hid (R = (lo - hi - 1) % 4294967296) := Lib.hid (by omega)
  have HBR : Hid (0 ≤ R ∧ R ≤ 4294967295) := Lib.hid (by omega)
  have HBX := Lib.hid bx
  clear hD blo bhi bx
  go_enter Try.func5, Try.ntmps5
  go_upto_region 2 with fail
  obtain ⟨W, hW⟩ : ∃ W, W = (w.alloc (.cells (dcs D).toArray 24)).alloc (.cells #[.int .i64 2, .int .u32 lo, .int .u32 hi] 26) := ⟨_, rfl⟩
  have HK1 : Hid (Below w.heap.size w W) := Lib.hid (hW ▸ more (more (Below.refl _ _) _) _)
  have HG1 : Hid (Blk W w.heap.size 24 (dcs D).toArray) := Lib.hid (by rw [hW]; exact (Blk.new w _ _).keep (more (Below.refl _ _) _))
  have HP1 : Hid (Blk W (w.heap.size + 1) 26 #[.int .i64 2, .int .u32 lo, .int .u32 hi]) := Lib.hid (by rw [hW]; exact Blk.newAt _ _ _ (by rw [size_alloc]))
  rw [← hW]
  obtain ⟨p, hp⟩ : ∃ r, r = w.heap.size + 1 := ⟨_, rfl⟩
  obtain ⟨g, hg⟩ : ∃ g, g = w.heap.size := ⟨_, rfl⟩
  rw [← hp] at HP1 ⊢
  rw [← hg] at HG1 ⊢
  clear hW hp hg
  have c0 : W.cell? ⟨p, 0, none⟩ = some (.int .i64 2) := HP1.out.cell 0
  have c1 : W.cell? ⟨p, 1, none⟩ = some (.int .u32 lo) := HP1.out.cell 1
  have c2 : W.cell? ⟨p, 2, none⟩ = some (.int .u32 hi) := HP1.out.cell 2
  go_upto_region 3 with fail
  rw [← hR]
  clear hR
  go_upto_region 4 with fail
  obtain ⟨w4, hw4⟩ : ∃ z, z = W.alloc (.cells #[.int .i64 2, .int .u32 lo, .int .u32 hi] 26) := ⟨_, rfl⟩
  have hk4 : Below W.heap.size W w4 := hw4 ▸ more (Below.refl _ _) _
  have HQ4 : Hid (Blk w4 W.heap.size 26 #[.int .i64 2, .int .u32 lo, .int .u32 hi]) := Lib.hid (by rw [hw4]; exact Blk.new _ _ _)
  have HK4 := Lib.hid (nest HK1.out hk4)
  have HG4 := Lib.hid (HG1.out.keep hk4)
  have HP4 := Lib.hid (HP1.out.keep hk4)
  have HPQ : Hid (p < W.heap.size ∧ g < W.heap.size ∧ w.heap.size ≤ W.heap.size) := Lib.hid ⟨HP1.out.lt, HG1.out.lt, HK1.out.size⟩
  rw [← hw4]
  obtain ⟨q, hq⟩ : ∃ g, g = W.heap.size := ⟨_, rfl⟩
  rw [← hq] at HQ4 HPQ ⊢
  clear hw4 hq hk4 c0 c1 c2 HK1 HG1 HP1
  by_cases hR0 : R = 0
  · have hR1 : decide (R > 0) = false := by rw [hR0]; rfl
    have hR2 : ¬ R > 0 := by omega
    clear hR0
    go_upto_region 6 with fail
    have HA2 := HA1
    have HG := HG4
    have HP := HP4
    have HQ := HQ4
    have HK := HK4
    obtain ⟨hj, hhj⟩ : ∃ h, h = hi := ⟨_, rfl⟩
    have HQ : Hid (Blk w4 q 26 #[.int .i64 2, .int .u32 lo, .int .u32 hj]) := Lib.hid (by rw [hhj]; exact HQ4.out)
    have hle : partR D (2, lo, hi) ≤ partR D (2, lo, hi) := Int.le_refl _
    have HA2 : Hid (∀ z, Calls Try.prog 12 #[.agg (dcs D).toArray, .agg #[.int .i64 2, .int .u32 lo, .int .u32 hj]] z fun e w' => e = .returned (.int .u32 (partR D (2, lo, hi))) ∧ Below z.heap.size z w') := Lib.hid (fun z => by rw [hhj]; exact HA1.out z)
    dsimp only at HA1
    generalize partR D (2, lo, hi) = p1 at HA1 HA2 hle
    have hled : decide (p1 ≤ p1) = true := by simp
    clear hhj HG4 HP4 HQ4 HK4 hle
    obtain ⟨w5, hw5⟩ : ∃ z, z = w4 := ⟨_, rfl⟩
    rw [← hw5] at HG HP HQ HK ⊢
    clear hw5
    refine Run.region_walk (S := fun z => Below w5.heap.size w5 z)
      legrows.rows6 legrows.plan6 (l := ?_) (by kernel_rfl) (by kernel_rfl) (by kernel_rfl) (by kernel_rfl) ?_ (Below.refl _ _).drew ?_
    rotate_left
    (· simp only [legrows.plan6, Run.stepsOf, Run.stepOf, Run.guardOf, List.getElem?_toArray, List.getElem?_cons_zero, List.getElem?_cons_succ, Option.map_some, Option.map_none, Option.bind_some, Option.toList_some, List.map_cons, List.map_nil, List.cons_append, List.nil_append, List.append_eq]
       rfl)
    repeat ((first
      | (refine Run.takes (v := ?_) ?_ ?_; rotate_left; (· intro w' hS'; (first | (refine exec_load_arr (n := 16) (x := .tmp 4) (l := dcs D) ?_ Try.underlying24 den_i (by rw [dcs_len]; exact HDL.out) ?_ (HG.out.keep hS') <;> rfl) | (refine exec_load_blk (n := 3) (x := .tmp 9) (l := [.int .i64 2, .int .u32 lo, .int .u32 hi]) ?_ Try.underlying26 rg3_info ?_ ?_ (HP.out.keep hS') <;> rfl) | (refine exec_load_blk (n := 3) (x := .tmp 11) (l := [.int .i64 2, .int .u32 lo, .int .u32 hj]) ?_ Try.underlying26 rg3_info ?_ ?_ (HQ.out.keep hS') <;> rfl) | (go_simp; (try with_reducible rfl)))))
      | (refine Run.takesG (v := ?_) ?_ ?_ ?_; rotate_left; (· simp only [List.getElem?_cons_zero, List.getElem?_cons_succ]); (· intro w' hS'; (first | (refine exec_load_arr (n := 16) (x := .tmp 4) (l := dcs D) ?_ Try.underlying24 den_i (by rw [dcs_len]; exact HDL.out) ?_ (HG.out.keep hS') <;> rfl) | (refine exec_load_blk (n := 3) (x := .tmp 9) (l := [.int .i64 2, .int .u32 lo, .int .u32 hi]) ?_ Try.underlying26 rg3_info ?_ ?_ (HP.out.keep hS') <;> rfl) | (refine exec_load_blk (n := 3) (x := .tmp 11) (l := [.int .i64 2, .int .u32 lo, .int .u32 hj]) ?_ Try.underlying26 rg3_info ?_ ?_ (HQ.out.keep hS') <;> rfl) | (go_simp; (try with_reducible rfl)))))
      | (refine Run.skipsT ?_ ?_; (· simp only [List.getElem?_cons_zero, List.getElem?_cons_succ]))
      | (refine Run.skipsF ?_ ?_; (· simp only [List.getElem?_cons_zero, List.getElem?_cons_succ]))
      | (refine Run.skipsU ?_ ?_; (· simp only [List.getElem?_cons_zero, List.getElem?_cons_succ]))
      | (refine Run.passT ?_ ?_; (· simp only [List.getElem?_cons_zero, List.getElem?_cons_succ]))
      | (refine Run.passF ?_ ?_; (· simp only [List.getElem?_cons_zero, List.getElem?_cons_succ]))
      | (refine Run.passU ?_ ?_; (· simp only [List.getElem?_cons_zero, List.getElem?_cons_succ]))
      | (refine Run.runs ?_
         (first
         | (refine Run.callF 7 (by kernel_rfl) (fun hS => eawake_any _) rfl ?_)
         | (refine Run.callG 7 (by kernel_rfl) ?_ (fun hS => eawake_any _) rfl ?_; (· simp only [List.getElem?_cons_zero, List.getElem?_cons_succ]))
         | (refine Run.callF 12 (by kernel_rfl) (fun hS => HA1.out _) rfl ?_)
         | (refine Run.callG 12 (by kernel_rfl) ?_ (fun hS => HA1.out _) rfl ?_; (· simp only [List.getElem?_cons_zero, List.getElem?_cons_succ]))
         | (refine Run.callF 12 (by kernel_rfl) (fun hS => HA2.out _) rfl ?_)
         | (refine Run.callG 12 (by kernel_rfl) ?_ (fun hS => HA2.out _) rfl ?_; (· simp only [List.getElem?_cons_zero, List.getElem?_cons_succ]))
         | (refine Run.callF 12 (by kernel_rfl) (fun hS => HA3.out _) rfl ?_)
         | (refine Run.callG 12 (by kernel_rfl) ?_ (fun hS => HA3.out _) rfl ?_; (· simp only [List.getElem?_cons_zero, List.getElem?_cons_succ]))
         | (refine Run.callF 12 (by kernel_rfl) (fun hS => HA4.out _) rfl ?_)
         | (refine Run.callG 12 (by kernel_rfl) ?_ (fun hS => HA4.out _) rfl ?_; (· simp only [List.getElem?_cons_zero, List.getElem?_cons_succ]))
         | fail)
         (first
         | (rintro hS e w' ⟨rfl, rfl⟩; refine ⟨_, rfl, hS, ?_⟩)
         | (rintro hS e w' ⟨rfl, hb⟩; refine ⟨_, rfl, nest hS hb, ?_⟩)
         | fail))
      | fail); simp only [Act.put, List.setIfInBounds_toArray, List.set_cons_zero, List.set_cons_succ])
    refine Run.ends (fun hS => ?_)
    have HK5 := Lib.hid (nest HK.out hS)
    clear hS
    go_wp2_with fail
    go_ret
    exact ⟨rfl, HK5.out⟩
  · have hR1 : decide (R > 0) = true := by have := HBR.out; simp; omega
    have hR2 : R > 0 := by have := HBR.out; omega
    have hR3 : ¬ R = 0 := hR0
    have hmod : x.tmod R = x % R := Int.tmod_eq_emod_of_nonneg HBX.out.1
    obtain ⟨M, hM⟩ : ∃ M, M = x % R := ⟨_, rfl⟩
    have HM : Hid (0 ≤ M ∧ M < R) := Lib.hid (by rw [hM]; exact ⟨Int.emod_nonneg _ (by omega), Int.emod_lt_of_pos _ (by omega)⟩)
    have hmod2 : x.tmod R = M := by rw [hmod, hM]
    have d2 : w4.cell? ⟨q, 2, none⟩ = some (.int .u32 hi) := HQ4.out.cell 2
    have df : w4.frozen? ⟨q, 2, none⟩ = false := HQ4.out.frozen 2
    clear hmod hM hR0
    go_upto_region 6 with fail
    obtain ⟨hj, hhj⟩ : ∃ h, h = (hi + M) % 4294967296 := ⟨_, rfl⟩
    have HJB : Hid (0 ≤ hj ∧ hj ≤ 4294967295) := Lib.hid (by omega)
    rw [← hhj]
    have HQ : Hid (Blk (w4.setCell ⟨q, 2, none⟩ (.int .u32 hj)) q 26 #[.int .i64 2, .int .u32 lo, .int .u32 hj]) := Lib.hid (HQ4.out.set_ 2 _)
    have HP : Hid (Blk (w4.setCell ⟨q, 2, none⟩ (.int .u32 hj)) p 26 #[.int .i64 2, .int .u32 lo, .int .u32 hi]) := Lib.hid (HP4.out.only (Only.set w4 2 _) (by have := HPQ.out; omega))
    have HG : Hid (Blk (w4.setCell ⟨q, 2, none⟩ (.int .u32 hj)) g 24 (dcs D).toArray) := Lib.hid (HG4.out.only (Only.set w4 2 _) (by have := HPQ.out; omega))
    have HK : Hid (Below w.heap.size w (w4.setCell ⟨q, 2, none⟩ (.int .u32 hj))) := Lib.hid (HK4.out.trans ((Only.set w4 2 _).below HPQ.out.2.2 HK4.out.size))
    have HA2 := Lib.hid (fun z => epart_any D (2, lo, hj) HD.out ⟨by simp, HBL.out, HJB.out⟩ z)
    have HLE : Hid (partR D (2, lo, hi) ≤ partR D (2, lo, hj)) := Lib.hid (by rw [hhj]; exact grows HD.out lo hi M HBL.out HBH.out (by rw [← HRQ.out]; exact HM.out))
    dsimp only at HA1 HA2
    generalize partR D (2, lo, hi) = p1 at HA1 HLE
    generalize partR D (2, lo, hj) = p2 at HA2 HLE
    have hle : p1 ≤ p2 := HLE.out
    have hled : decide (p1 ≤ p2) = true := by simpa using hle
    clear hhj HG4 HP4 HQ4 HK4 d2 df
    generalize w4.setCell ⟨q, 2, none⟩ (.int .u32 hj) = w5 at *
    refine Run.region_walk (S := fun z => Below w5.heap.size w5 z)
      legrows.rows6 legrows.plan6 (l := ?_) (by kernel_rfl) (by kernel_rfl) (by kernel_rfl) (by kernel_rfl) ?_ (Below.refl _ _).drew ?_
    rotate_left
    (· simp only [legrows.plan6, Run.stepsOf, Run.stepOf, Run.guardOf, List.getElem?_toArray, List.getElem?_cons_zero, List.getElem?_cons_succ, Option.map_some, Option.map_none, Option.bind_some, Option.toList_some, List.map_cons, List.map_nil, List.cons_append, List.nil_append, List.append_eq]
       rfl)
    repeat ((first
      | (refine Run.takes (v := ?_) ?_ ?_; rotate_left; (· intro w' hS'; (first | (refine exec_load_arr (n := 16) (x := .tmp 4) (l := dcs D) ?_ Try.underlying24 den_i (by rw [dcs_len]; exact HDL.out) ?_ (HG.out.keep hS') <;> rfl) | (refine exec_load_blk (n := 3) (x := .tmp 9) (l := [.int .i64 2, .int .u32 lo, .int .u32 hi]) ?_ Try.underlying26 rg3_info ?_ ?_ (HP.out.keep hS') <;> rfl) | (refine exec_load_blk (n := 3) (x := .tmp 11) (l := [.int .i64 2, .int .u32 lo, .int .u32 hj]) ?_ Try.underlying26 rg3_info ?_ ?_ (HQ.out.keep hS') <;> rfl) | (go_simp; (try with_reducible rfl)))))
      | (refine Run.takesG (v := ?_) ?_ ?_ ?_; rotate_left; (· simp only [List.getElem?_cons_zero, List.getElem?_cons_succ]); (· intro w' hS'; (first | (refine exec_load_arr (n := 16) (x := .tmp 4) (l := dcs D) ?_ Try.underlying24 den_i (by rw [dcs_len]; exact HDL.out) ?_ (HG.out.keep hS') <;> rfl) | (refine exec_load_blk (n := 3) (x := .tmp 9) (l := [.int .i64 2, .int .u32 lo, .int .u32 hi]) ?_ Try.underlying26 rg3_info ?_ ?_ (HP.out.keep hS') <;> rfl) | (refine exec_load_blk (n := 3) (x := .tmp 11) (l := [.int .i64 2, .int .u32 lo, .int .u32 hj]) ?_ Try.underlying26 rg3_info ?_ ?_ (HQ.out.keep hS') <;> rfl) | (go_simp; (try with_reducible rfl)))))
      | (refine Run.skipsT ?_ ?_; (· simp only [List.getElem?_cons_zero, List.getElem?_cons_succ]))
      | (refine Run.skipsF ?_ ?_; (· simp only [List.getElem?_cons_zero, List.getElem?_cons_succ]))
      | (refine Run.skipsU ?_ ?_; (· simp only [List.getElem?_cons_zero, List.getElem?_cons_succ]))
      | (refine Run.passT ?_ ?_; (· simp only [List.getElem?_cons_zero, List.getElem?_cons_succ]))
      | (refine Run.passF ?_ ?_; (· simp only [List.getElem?_cons_zero, List.getElem?_cons_succ]))
      | (refine Run.passU ?_ ?_; (· simp only [List.getElem?_cons_zero, List.getElem?_cons_succ]))
      | (refine Run.runs ?_
         (first
         | (refine Run.callF 7 (by kernel_rfl) (fun hS => eawake_any _) rfl ?_)
         | (refine Run.callG 7 (by kernel_rfl) ?_ (fun hS => eawake_any _) rfl ?_; (· simp only [List.getElem?_cons_zero, List.getElem?_cons_succ]))
         | (refine Run.callF 12 (by kernel_rfl) (fun hS => HA1.out _) rfl ?_)
         | (refine Run.callG 12 (by kernel_rfl) ?_ (fun hS => HA1.out _) rfl ?_; (· simp only [List.getElem?_cons_zero, List.getElem?_cons_succ]))
         | (refine Run.callF 12 (by kernel_rfl) (fun hS => HA2.out _) rfl ?_)
         | (refine Run.callG 12 (by kernel_rfl) ?_ (fun hS => HA2.out _) rfl ?_; (· simp only [List.getElem?_cons_zero, List.getElem?_cons_succ]))
         | (refine Run.callF 12 (by kernel_rfl) (fun hS => HA3.out _) rfl ?_)
         | (refine Run.callG 12 (by kernel_rfl) ?_ (fun hS => HA3.out _) rfl ?_; (· simp only [List.getElem?_cons_zero, List.getElem?_cons_succ]))
         | (refine Run.callF 12 (by kernel_rfl) (fun hS => HA4.out _) rfl ?_)
         | (refine Run.callG 12 (by kernel_rfl) ?_ (fun hS => HA4.out _) rfl ?_; (· simp only [List.getElem?_cons_zero, List.getElem?_cons_succ]))
         | fail)
         (first
         | (rintro hS e w' ⟨rfl, rfl⟩; refine ⟨_, rfl, hS, ?_⟩)
         | (rintro hS e w' ⟨rfl, hb⟩; refine ⟨_, rfl, nest hS hb, ?_⟩)
         | fail))
      | fail); simp only [Act.put, List.setIfInBounds_toArray, List.set_cons_zero, List.set_cons_succ])
    refine Run.ends (fun hS => ?_)
    have HK5 := Lib.hid (nest HK.out hS)
    clear hS
    go_wp2_with fail
    go_ret
    exact ⟨rfl, HK5.out⟩
end Go.Proofs.Ythdcgobdcdfefaa.estimateGrows
