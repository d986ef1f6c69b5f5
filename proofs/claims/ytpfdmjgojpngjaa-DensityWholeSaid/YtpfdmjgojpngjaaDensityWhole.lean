/- Walk of the law DensityWhole. -/
import Derived.Test.YtpfdmjgojpngjaaDnLaw
import Derived.Test.YtpfdmjgojpngjaaDnMath2
set_option maxRecDepth 4000
namespace Go.Proofs.Ytpfdmjgojpngjaa.densityWhole
open Go.RowKit Mem Cir
set_option linter.unusedSimpArgs false
set_option linter.unusedVariables false
attribute [local irreducible] Go.Calls

set_option maxRecDepth 100000 in
set_option maxHeartbeats 8000000 in
theorem walk (D : List Int) (hD : okD D) (f t : Int) (bf : 0 ≤ f ∧ f ≤ 4294967295) (bt : 0 ≤ t ∧ t ≤ 4294967295) (w : World) :
    Calls Try.prog 4 #[.agg (dcs D).toArray, .agg #[.int .u32 f, .int .u32 t]] w fun e w' => e = .returned (.bool true) ∧ Below w.heap.size w w' := by
  have HD := Lib.hid hD
  have HDL : Hid (D.length = 16) := Lib.hid hD.1
  have HBF := Lib.hid bf
  have HBT := Lib.hid bt
  clear hD bf bt
  go_enter Try.func4, Try.ntmps4
  go_upto_region 1 with fail
  obtain ⟨W, hW⟩ : ∃ W, W = (w.alloc (.cells (dcs D).toArray 24)).alloc (.cells #[.int .u32 f, .int .u32 t] 28) := ⟨_, rfl⟩
  have HK : Hid (Below w.heap.size w W) := Lib.hid (hW ▸ more (more (Below.refl _ _) _) _)
  have HG : Hid (Blk W w.heap.size 24 (dcs D).toArray) := Lib.hid (by rw [hW]; exact (Blk.new w _ _).keep (more (Below.refl _ _) _))
  have HR : Hid (Blk W (w.heap.size + 1) 28 #[.int .u32 f, .int .u32 t]) := Lib.hid (by rw [hW]; exact Blk.newAt _ _ _ (by rw [size_alloc]))
  rw [← hW]
  obtain ⟨r, hr⟩ : ∃ r, r = w.heap.size + 1 := ⟨_, rfl⟩
  obtain ⟨g, hg⟩ : ∃ g, g = w.heap.size := ⟨_, rfl⟩
  rw [← hr] at HR ⊢
  rw [← hg] at HG ⊢
  clear hW hr hg
  have c0 := HR.out.cell 0
  have c1 := HR.out.cell 1
  go_upto_region 2 with fail
  obtain ⟨W2, hW2⟩ : ∃ x, x = W.alloc (.cells #[.int .u32 f, .int .u32 f] 28) := ⟨_, rfl⟩
  have hk2 : Below W.heap.size W W2 := hW2 ▸ more (Below.refl _ _) _
  have HQ : Hid (Blk W2 W.heap.size 28 #[.int .u32 f, .int .u32 f]) := Lib.hid (by rw [hW2]; exact Blk.new _ _ _)
  have HK2 := Lib.hid (nest HK.out hk2)
  have HG2 := Lib.hid (HG.out.keep hk2)
  have HR2 := Lib.hid (HR.out.keep hk2)
  rw [← hW2]
  obtain ⟨q, hq⟩ : ∃ q, q = W.heap.size := ⟨_, rfl⟩
  rw [← hq] at HQ ⊢
  clear hW2 hq hk2 c0 c1 HK HG HR
  have c0 := HR2.out.cell 0
  have c1 := HR2.out.cell 1
  have HAL := Lib.hid (fun z => dall_any D HD.out z)
  by_cases hne : f = t
  · subst hne
    have HWI := Lib.hid (fun z => dwithin_any D f f HD.out HBF.out HBF.out z)
    rw [with_whole HD.out f HBF.out] at HWI
    go_upto_region 3 with fail
    clear c0 c1
    refine Run.region_walk (S := fun z => Below W2.heap.size W2 z)
      ldwhole.rows3 ldwhole.plan3 (l := ?steps1) (by kernel_rfl) (by kernel_rfl) (by kernel_rfl) (by kernel_rfl) ?written1 (Below.refl _ _).drew ?onward1
    case written1 =>
      simp only [ldwhole.plan3, Run.stepsOf, Run.stepOf, Run.guardOf, List.getElem?_toArray, List.getElem?_cons_zero, List.getElem?_cons_succ, Option.map_some, Option.map_none, Option.bind_some, Option.toList_some, List.map_cons, List.map_nil, List.cons_append, List.nil_append, List.append_eq]
      rfl
    repeat ((first
      | (refine Run.takes (v := ?_) ?_ ?_; rotate_left; (· intro w' hS'; (first | (refine exec_load_arr (n := 16) (x := .tmp 2) (l := dcs D) ?_ Try.underlying24 den_i (by rw [dcs_len]; exact HDL.out) ?_ (HG2.out.keep hS') <;> rfl) | (refine exec_load_blk (n := 2) (x := .tmp 3) (l := [.int .u32 f, .int .u32 f]) ?_ Try.underlying28 spn_info ?_ ?_ (HR2.out.keep hS') <;> rfl) | (go_simp; (try with_reducible rfl)))))
      | (refine Run.takesG (v := ?_) ?_ ?_ ?_; rotate_left; (· simp only [List.getElem?_cons_zero, List.getElem?_cons_succ]); (· intro w' hS'; (first | (refine exec_load_arr (n := 16) (x := .tmp 2) (l := dcs D) ?_ Try.underlying24 den_i (by rw [dcs_len]; exact HDL.out) ?_ (HG2.out.keep hS') <;> rfl) | (refine exec_load_blk (n := 2) (x := .tmp 3) (l := [.int .u32 f, .int .u32 f]) ?_ Try.underlying28 spn_info ?_ ?_ (HR2.out.keep hS') <;> rfl) | (go_simp; (try with_reducible rfl)))))
      | (refine Run.skipsT ?_ ?_; (· simp only [List.getElem?_cons_zero, List.getElem?_cons_succ]))
      | (refine Run.skipsF ?_ ?_; (· simp only [List.getElem?_cons_zero, List.getElem?_cons_succ]))
      | (refine Run.skipsU ?_ ?_; (· simp only [List.getElem?_cons_zero, List.getElem?_cons_succ]))
      | (refine Run.passT ?_ ?_; (· simp only [List.getElem?_cons_zero, List.getElem?_cons_succ]))
      | (refine Run.passF ?_ ?_; (· simp only [List.getElem?_cons_zero, List.getElem?_cons_succ]))
      | (refine Run.passU ?_ ?_; (· simp only [List.getElem?_cons_zero, List.getElem?_cons_succ]))
      | (refine Run.runs ?_
         (first
         | (refine Run.callF 9 (by kernel_rfl) (fun hS => dawake_any _) rfl ?_)
         | (refine Run.callG 9 (by kernel_rfl) ?_ (fun hS => dawake_any _) rfl ?_; (· simp only [List.getElem?_cons_zero, List.getElem?_cons_succ]))
         | (refine Run.callF 13 (by kernel_rfl) (fun hS => HAL.out _) rfl ?_)
         | (refine Run.callG 13 (by kernel_rfl) ?_ (fun hS => HAL.out _) rfl ?_; (· simp only [List.getElem?_cons_zero, List.getElem?_cons_succ]))
         | (refine Run.callF 19 (by kernel_rfl) (fun hS => HWI.out _) rfl ?_)
         | (refine Run.callG 19 (by kernel_rfl) ?_ (fun hS => HWI.out _) rfl ?_; (· simp only [List.getElem?_cons_zero, List.getElem?_cons_succ]))
         | fail)
         (first
         | (rintro hS e w' ⟨rfl, rfl⟩; refine ⟨_, rfl, hS, ?_⟩)
         | (rintro hS e w' ⟨rfl, hb⟩; refine ⟨_, rfl, nest hS hb, ?_⟩)
         | fail))
      | fail); simp only [Act.put, List.setIfInBounds_toArray, List.set_cons_zero, List.set_cons_succ])
    refine Run.ends (fun hS => ?_)
    have HK5 := Lib.hid (nest HK2.out hS)
    clear hS
    go_wp2_with fail
    go_ret
    exact ⟨rfl, HK5.out⟩
  · have hne2 : (f == t) = false := beq_eq_false_iff_ne.2 hne
    have HWI := Lib.hid (fun z => dwithin_any D f t HD.out HBF.out HBT.out z)
    have HWO := Lib.hid (fun z => dwithin_any D t f HD.out HBT.out HBF.out z)
    have HWA := Lib.hid (fun z => dwithin_any D f f HD.out HBF.out HBF.out z)
    rw [with_whole HD.out f HBF.out] at HWA
    obtain ⟨q1, q2⟩ := with_beside HD.out f t HBF.out HBT.out hne
    have q3 := with_le HD.out (f, t) HBF.out HBT.out
    have q4 := with_le HD.out (t, f) HBT.out HBF.out
    have q5 := HD.out.all_bd
    generalize withD D (f, t) = i at *
    generalize withD D (t, f) = o at *
    generalize allD D = A at *
    have s1 : IntKind.u64.wrap (i + o) = i + o := by rw [IntKind.wrap_u64]; omega
    have s2 : (i + o) % 18446744073709551616 = i + o := by omega
    have s3 : IntKind.u64.wrap (A - i) = A - i := by rw [IntKind.wrap_u64]; omega
    have s4 : IntKind.u64.wrap (A - i - o) = A - i - o := by rw [IntKind.wrap_u64]; omega
    have q6 : A - i - o ≤ 4 := q2
    have q7 := q3.2
    have d1 : decide (i + o ≤ A) = true := by simpa using q1
    have d2 : decide (A - i - o ≤ 4) = true := by simpa using q6
    have d3 : decide (i ≤ A) = true := by simpa using q7
    have HQS := Lib.hid (show i + o ≤ A from q1)
    go_upto_region 4 with fail
    have c0' : W2.drew.cell? ⟨r, 0, none⟩ = some (.int .u32 f) := c0
    have c1' : W2.drew.cell? ⟨r, 1, none⟩ = some (.int .u32 t) := c1
    clear c0 c1
    refine Run.region_walk (S := fun z => z.cell? ⟨r, 0, none⟩ = some (.int .u32 f) ∧ z.cell? ⟨r, 1, none⟩ = some (.int .u32 t) ∧ Below W2.heap.size W2 z)
      ldwhole.rows4 ldwhole.plan4 (l := ?steps2) (by kernel_rfl) (by kernel_rfl) (by kernel_rfl) (by kernel_rfl) ?written2 ⟨c0', c1', (Below.refl _ _).drew⟩ ?onward2
    case written2 =>
      simp only [ldwhole.plan4, Run.stepsOf, Run.stepOf, Run.guardOf, List.getElem?_toArray, List.getElem?_cons_zero, List.getElem?_cons_succ, Option.map_some, Option.map_none, Option.bind_some, Option.toList_some, List.map_cons, List.map_nil, List.cons_append, List.nil_append, List.append_eq]
      rfl
    repeat ((first
      | (refine Run.takes (v := ?_) ?_ ?_; rotate_left; (· intro w' hS'; (first | (refine exec_load_arr (n := 16) (x := .tmp 2) (l := dcs D) ?_ Try.underlying24 den_i (by rw [dcs_len]; exact HDL.out) ?_ (HG2.out.keep hS'.2.2) <;> rfl) | (refine exec_load_blk (n := 2) (x := .tmp 3) (l := [.int .u32 f, .int .u32 t]) ?_ Try.underlying28 spn_info ?_ ?_ (HR2.out.keep hS'.2.2) <;> rfl) | (have h1 := hS'.1; have h2 := hS'.2.1; go_simp; done) | (go_simp; (try with_reducible rfl)))))
      | (refine Run.takesG (v := ?_) ?_ ?_ ?_; rotate_left; (· simp only [List.getElem?_cons_zero, List.getElem?_cons_succ]); (· intro w' hS'; (first | (refine exec_load_arr (n := 16) (x := .tmp 2) (l := dcs D) ?_ Try.underlying24 den_i (by rw [dcs_len]; exact HDL.out) ?_ (HG2.out.keep hS'.2.2) <;> rfl) | (refine exec_load_blk (n := 2) (x := .tmp 3) (l := [.int .u32 f, .int .u32 t]) ?_ Try.underlying28 spn_info ?_ ?_ (HR2.out.keep hS'.2.2) <;> rfl) | (have h1 := hS'.1; have h2 := hS'.2.1; go_simp; done) | (go_simp; (try with_reducible rfl)))))
      | (refine Run.skipsT ?_ ?_; (· simp only [List.getElem?_cons_zero, List.getElem?_cons_succ]))
      | (refine Run.skipsF ?_ ?_; (· simp only [List.getElem?_cons_zero, List.getElem?_cons_succ]))
      | (refine Run.skipsU ?_ ?_; (· simp only [List.getElem?_cons_zero, List.getElem?_cons_succ]))
      | (refine Run.passT ?_ ?_; (· simp only [List.getElem?_cons_zero, List.getElem?_cons_succ]))
      | (refine Run.passF ?_ ?_; (· simp only [List.getElem?_cons_zero, List.getElem?_cons_succ]))
      | (refine Run.passU ?_ ?_; (· simp only [List.getElem?_cons_zero, List.getElem?_cons_succ]))
      | (refine Run.runs ?_
         (first
         | (refine Run.callF 19 (by kernel_rfl) (fun hS => HWI.out _) rfl ?_)
         | (refine Run.callG 19 (by kernel_rfl) ?_ (fun hS => HWI.out _) rfl ?_; (· simp only [List.getElem?_cons_zero, List.getElem?_cons_succ]))
         | (refine Run.callF 19 (by kernel_rfl) (fun hS => HWO.out _) rfl ?_)
         | (refine Run.callG 19 (by kernel_rfl) ?_ (fun hS => HWO.out _) rfl ?_; (· simp only [List.getElem?_cons_zero, List.getElem?_cons_succ]))
         | fail)
         (first
         | (rintro hS e w' ⟨rfl, rfl⟩; refine ⟨_, rfl, hS, ?_⟩)
         | (rintro hS e w' ⟨rfl, hb⟩; refine ⟨_, rfl, ⟨kc hb hS.1, kc hb hS.2.1, nest hS.2.2 hb⟩, ?_⟩)
         | fail))
      | fail); simp only [Act.put, List.setIfInBounds_toArray, List.set_cons_zero, List.set_cons_succ])
    refine Run.ends (fun hS => ?_)
    have HK5 := Lib.hid (nest HK2.out hS.2.2)
    have HG5 := Lib.hid (HG2.out.keep hS.2.2)
    have HQ5 := Lib.hid (HQ.out.keep hS.2.2)
    clear hS HWI HWO HK2 HG2 HR2 HQ
    go_upto_region 6 with (first | (refine at_load 2 rfl ?_; refine wpList_load_row rfl 24 (.tmp 2) rfl g rfl 24 _ (0, 0) _ HG5.out Try.underlying24 rfl (den_info _ HDL.out) ?_) | (go_at_call 13; refine (HAL.out _).mono ?_; rintro e w6 ⟨rfl, hk6⟩))
    have HK6 := Lib.hid (nest HK5.out hk6)
    have HG6 := Lib.hid (HG5.out.keep hk6)
    have HQ6 := Lib.hid (HQ5.out.keep hk6)
    clear hk6 HG5 HQ5 HK5 HAL
    refine Run.region_seq (S := fun z => Below w6.heap.size w6 z)
      [1, 0, 0, 0, 1, 0, 0, 0, 0, 0, 0, 0, 0, 0, 0, 0, 0, 0, 0, 0, 0, 0, 0, 0, 0, 0, 0, 0, 0] (l := ?_) ?_ (Below.refl _ _) ?_
    rotate_left
    (· simp only [Run.seqOf, List.toList_toArray, Run.stepsOf, Run.stepOf, Run.guardOf, List.getElem?_toArray, List.getElem?_cons_zero, List.getElem?_cons_succ, Option.map_some, Option.map_none, Option.bind_some, Option.toList_some, List.map_cons, List.map_nil, List.cons_append, List.nil_append, List.append_eq]
       rfl)
    repeat ((first
      | (refine Run.takes (v := ?_) ?_ ?_; rotate_left; (· intro w' hS'; (first | (refine exec_load_arr (n := 16) (x := .tmp 2) (l := dcs D) ?_ Try.underlying24 den_i (by rw [dcs_len]; exact HDL.out) ?_ (HG6.out.keep hS') <;> rfl) | (refine exec_load_blk (n := 2) (x := .tmp 5) (l := [.int .u32 f, .int .u32 f]) ?_ Try.underlying28 spn_info ?_ ?_ (HQ6.out.keep hS') <;> rfl) | (go_simp; (try with_reducible rfl)))))
      | (refine Run.takesG (v := ?_) ?_ ?_ ?_; rotate_left; (· simp only [List.getElem?_cons_zero, List.getElem?_cons_succ]); (· intro w' hS'; (first | (refine exec_load_arr (n := 16) (x := .tmp 2) (l := dcs D) ?_ Try.underlying24 den_i (by rw [dcs_len]; exact HDL.out) ?_ (HG6.out.keep hS') <;> rfl) | (refine exec_load_blk (n := 2) (x := .tmp 5) (l := [.int .u32 f, .int .u32 f]) ?_ Try.underlying28 spn_info ?_ ?_ (HQ6.out.keep hS') <;> rfl) | (go_simp; (try with_reducible rfl)))))
      | (refine Run.skipsT ?_ ?_; (· simp only [List.getElem?_cons_zero, List.getElem?_cons_succ]))
      | (refine Run.skipsF ?_ ?_; (· simp only [List.getElem?_cons_zero, List.getElem?_cons_succ]))
      | (refine Run.skipsU ?_ ?_; (· simp only [List.getElem?_cons_zero, List.getElem?_cons_succ]))
      | (refine Run.passT ?_ ?_; (· simp only [List.getElem?_cons_zero, List.getElem?_cons_succ]))
      | (refine Run.passF ?_ ?_; (· simp only [List.getElem?_cons_zero, List.getElem?_cons_succ]))
      | (refine Run.passU ?_ ?_; (· simp only [List.getElem?_cons_zero, List.getElem?_cons_succ]))
      | (refine Run.runs ?_
         (first
         | (refine Run.callF 9 (by kernel_rfl) (fun hS => dawake_any _) rfl ?_)
         | (refine Run.callG 9 (by kernel_rfl) ?_ (fun hS => dawake_any _) rfl ?_; (· simp only [List.getElem?_cons_zero, List.getElem?_cons_succ]))
         | (refine Run.callF 19 (by kernel_rfl) (fun hS => HWA.out _) rfl ?_)
         | (refine Run.callG 19 (by kernel_rfl) ?_ (fun hS => HWA.out _) rfl ?_; (· simp only [List.getElem?_cons_zero, List.getElem?_cons_succ]))
         | fail)
         (first
         | (rintro hS e w' ⟨rfl, rfl⟩; refine ⟨_, rfl, hS, ?_⟩)
         | (rintro hS e w' ⟨rfl, hb⟩; refine ⟨_, rfl, nest hS hb, ?_⟩)
         | fail))
      | fail); simp only [Act.put, List.setIfInBounds_toArray, List.set_cons_zero, List.set_cons_succ])
    refine Run.ends (fun hS => ?_)
    have HK7 := Lib.hid (nest HK6.out hS)
    clear hS
    go_wp2_with fail
    go_ret
    exact ⟨rfl, HK7.out⟩
end Go.Proofs.Ytpfdmjgojpngjaa.densityWhole
