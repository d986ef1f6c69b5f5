/- Walk of the law MessageBack (written by genback.py). -/
import Derived.Test.YthhelhhlofdehaaMsgBackMath
set_option maxRecDepth 4000
namespace Go.Proofs.Ythhelhhlofdehaa.messageBack
open Go.RowKit Mem
set_option linter.unusedSimpArgs false
set_option linter.unusedVariables false
attribute [local irreducible] Go.Calls
set_option maxRecDepth 100000 in
set_option maxHeartbeats 4000000 in
theorem walk (attrs : Int) (_ : -9223372036854775808 ≤ attrs ∧ attrs ≤ 9223372036854775807) (m : Msg) (v b r : Value) (vb : Value) (l : List Int) (cut : Int) (_ : -9223372036854775808 ≤ cut ∧ cut ≤ 9223372036854775807) (w : World) (h : MRd w m v b r) (hb : MB m) (hl : Rd (intE .u8) w vb l) (hlb : ∀ x ∈ l, 0 ≤ x ∧ x ≤ 255) :
    Calls Try.prog 4 #[.int .i64 attrs, .agg (mcs m v b r).toArray, vb, .int .i64 cut] w fun e w' => e = .returned (.bool true) ∧ Below w.heap.size w w' := by
  obtain ⟨av, cv, rfl, hc1, hc2⟩ := hl.form
  have hk0 : Below w.heap.size w (w.alloc (.cells (mcs m v b r).toArray 34)) := more (Below.refl _ _) _
  have HBK := Lib.hid (Blk.new w 34 (mcs m v b r).toArray)
  have HK := Lib.hid hk0
  have HM := Lib.hid (h.keep hk0)
  have HBD := Lib.hid hb
  have HV := Lib.hid (hl.keep hk0)
  have HBY : Hid (Byt l) := Lib.hid hlb
  clear hk0 h hb hl hlb hc1 hc2
  go_enter Try.func4, Try.ntmps4
  go_upto_region 1 with fail
  generalize w.alloc (.cells (mcs m v b r).toArray 34) = w1 at *
  obtain ⟨g, hg⟩ : ∃ g, g = w.heap.size := ⟨_, rfl⟩
  rw [← hg] at HBK ⊢
  clear hg
  have HC := Lib.hid (few_any m v b r w1 HM.out)
  cases hf : fewM m with
  | false =>
    rw [hf] at HC
    go_wp2_with (first | (refine at_load 5 rfl ?_; refine wpList_load_row rfl 34 (.tmp 5) rfl g rfl 34 (mcs m v b r).toArray (0, 0) _ HBK.out Try.underlying34 rfl msg_info ?_) | (go_at_call 9; refine HC.out.mono ?_; rintro e w2 ⟨rfl, hk2⟩) | (go_at_call 10; refine (mawake_any _).mono ?_; rintro e w3 ⟨rfl, hk3⟩))
    go_ret
    exact ⟨rfl, nest (nest HK.out hk2) hk3⟩
  | true =>
    rw [hf] at HC
    have HFEW := Lib.hid hf
    clear hf
    by_cases h3 : l.length ≤ 3000
    case neg =>
      have d3 : decide ((l.length : Int) > 3000) = true := decide_eq_true (by omega)
      go_wp2_with (first | (refine at_load 5 rfl ?_; refine wpList_load_row rfl 34 (.tmp 5) rfl g rfl 34 (mcs m v b r).toArray (0, 0) _ HBK.out Try.underlying34 rfl msg_info ?_) | (go_at_call 9; refine HC.out.mono ?_; rintro e w2 ⟨rfl, hk2⟩) | (go_at_call 10; refine (mawake_any _).mono ?_; rintro e w3 ⟨rfl, hk3⟩))
      go_ret
      exact ⟨rfl, nest (nest HK.out hk2) hk3⟩
    have d3 : decide ((l.length : Int) > 3000) = false := decide_eq_false (by omega)
    have HL3 : Hid (l.length ≤ 1000000) := Lib.hid (by omega)
    go_upto_region 3 with (first | (refine at_load 5 rfl ?_; refine wpList_load_row rfl 34 (.tmp 5) rfl g rfl 34 (mcs m v b r).toArray (0, 0) _ HBK.out Try.underlying34 rfl msg_info ?_) | (go_at_call 9; refine HC.out.mono ?_; rintro e w2 ⟨rfl, hk2⟩))
    have HB2 := Lib.hid (HBK.out.keep hk2)
    have HM2 := Lib.hid (HM.out.keep hk2)
    have HK2 := Lib.hid (nest HK.out hk2)
    have HV2 := Lib.hid (HV.out.keep hk2)
    clear HBK HM HK HV HC hk2 d3 h3
    have HC := Lib.hid (ompack_row attrs m v b r w2 HM2.out HBD.out)
    obtain ⟨M, F, hT⟩ : ∃ M F, takeV attrs l = (M, F) := ⟨_, _, rfl⟩
    have HT := Lib.hid hT
    clear hT
    go_upto_region 4 with (first | (refine at_load 5 rfl ?_; refine wpList_load_row rfl 34 (.tmp 5) rfl g rfl 34 (mcs m v b r).toArray (0, 0) _ HB2.out Try.underlying34 rfl msg_info ?_) | (go_at_call 12; refine HC.out.mono ?_; rintro e w3 (⟨_, rfl, hk3⟩ | ⟨hr, x, rfl, hx, hk3⟩)))
    · have HKT := Lib.hid (nest HK2.out hk3)
      have HVT := Lib.hid (HV2.out.keep hk3)
      clear HB2 HM2 HK2 HV2 HC hk3
      go_upto_region 13 with fail
      go_upto_region 14 with (first | (go_at_call 14; refine (otk_u attrs _ l _ HT.out HVT.out HL3.out HBY.out).mono ?_; rintro e u6 ⟨v9, b9, r9, rfl, hm9, hb9, hk9⟩) | (refine at_store 16 rfl ?_; refine wpList_store_row rfl 34 (.tmp 16) (.tmp 90) rfl u6.heap.size (mcs M v9 b9 r9).toArray rfl rfl 34 _ (heap_alloc_new u6 _) msg_info rfl (mcs_one hm9) ?_))
      (try rw [World.setRow_alloc_new])
      have hX9 : Below u6.heap.size u6 (u6.alloc (.cells (mcs M v9 b9 r9).toArray 34)) := more (Below.refl _ _) _
      have H16 : Hid (Blk (u6.alloc (.cells (mcs M v9 b9 r9).toArray 34)) u6.heap.size 34 (mcs M v9 b9 r9).toArray) := Lib.hid (Blk.new _ _ _)
      have HQ9 := Lib.hid (hm9.keep hX9)
      have HMB := Lib.hid hb9
      have hk9 := nest hk9 hX9
      have HKU := Lib.hid (nest HKT.out hk9)
      have HVU := Lib.hid (HVT.out.keep hk9)
      clear HKT HVT hk9 hX9 hm9 hb9
      generalize u6.alloc (.cells (mcs M v9 b9 r9).toArray 34) = u7 at *
      obtain ⟨g16, hg16⟩ : ∃ x, x = u6.heap.size := ⟨_, rfl⟩
      rw [← hg16] at H16 ⊢
      clear hg16
      by_cases hF : F = 0
      · subst hF
        have HC9 : Hid (Calls Try.prog 12 #[.int .i64 attrs, .agg (mcs M v9 b9 r9).toArray] u7 (PkU l 0 u7)) := Lib.hid (by
          have := opk_u attrs M v9 b9 r9 u7 HQ9.out HMB.out
          unfold pkV at this
          rw [if_pos (takeV_ok HT.out).2, (takeV_ok HT.out).1] at this
          exact this)
        go_upto_region 15 with (first | (refine at_load 16 rfl ?_; refine wpList_load_row rfl 34 (.tmp 16) rfl g16 rfl 34 (mcs M v9 b9 r9).toArray (0, 0) _ H16.out Try.underlying34 rfl msg_info ?_) | (go_at_call 12; refine HC9.out.mono ?_; rintro e u8 ⟨x8, rfl, hx8, hk8⟩; have HX8 := Lib.hid hx8; obtain ⟨ax8, cx8, rfl, _, _⟩ := hx8.form; clear hx8))
        have HK8 := Lib.hid (nest HKU.out hk8)
        have HV8 := Lib.hid (HVU.out.keep hk8)
        clear hk8 HKU HVU HC9
        have hk0 : Below u8.heap.size u8 u8 := Below.refl _ _
        refine Run.region_seq (S := fun z => Below u8.heap.size u8 z)
          [1, 0, 0, 0, 0, 0, 0, 0, 0, 0, 1, 0, 0, 0, 0] (l := ?_) ?_ hk0 ?_
        rotate_left
        (· simp only [Run.seqOf, List.toList_toArray, Run.stepsOf, Run.stepOf, Run.guardOf, List.getElem?_toArray, List.getElem?_cons_zero, List.getElem?_cons_succ, Option.map_some, Option.map_none, Option.bind_some, Option.toList_some, List.map_cons, List.map_nil, List.cons_append, List.nil_append]
           rfl)
        repeat ((first
          | (refine Run.takes (v := ?_) ?_ ?_; rotate_left; (· intro w' hS'; go_simp; (try with_reducible rfl)))
          | (refine Run.takesG (v := ?_) ?_ ?_ ?_; rotate_left; (· simp only [List.getElem?_cons_zero, List.getElem?_cons_succ]); (· intro w' hS'; go_simp; (try with_reducible rfl)))
          | (refine Run.skipsT ?_ ?_; (· simp only [List.getElem?_cons_zero, List.getElem?_cons_succ]))
          | (refine Run.skipsF ?_ ?_; (· simp only [List.getElem?_cons_zero, List.getElem?_cons_succ]))
          | (refine Run.skipsU ?_ ?_; (· simp only [List.getElem?_cons_zero, List.getElem?_cons_succ]))
          | (refine Run.passT ?_ ?_; (· simp only [List.getElem?_cons_zero, List.getElem?_cons_succ]))
          | (refine Run.passF ?_ ?_; (· simp only [List.getElem?_cons_zero, List.getElem?_cons_succ]))
          | (refine Run.passU ?_ ?_; (· simp only [List.getElem?_cons_zero, List.getElem?_cons_succ]))
          | (refine Run.runs ?_
             (first
             | (refine Run.callF 10 (by kernel_rfl) (fun hS => mawake_any _) rfl ?_)
             | (refine Run.callG 10 (by kernel_rfl) ?_ (fun hS => mawake_any _) rfl ?_; (· simp only [List.getElem?_cons_zero, List.getElem?_cons_succ]))
             | (refine Run.callF 18 (by kernel_rfl) (fun hS => bytes_yes _ _ l _ (HX8.out.keep hS) (HV8.out.keep hS)) rfl ?_)
             | (refine Run.callG 18 (by kernel_rfl) ?_ (fun hS => bytes_yes _ _ l _ (HX8.out.keep hS) (HV8.out.keep hS)) rfl ?_; (· simp only [List.getElem?_cons_zero, List.getElem?_cons_succ]))
             | fail)
             (first
             | (rintro hS e w' ⟨rfl, rfl⟩; refine ⟨_, rfl, hS, ?_⟩)
             | (rintro hS e w' ⟨rfl, hb⟩; refine ⟨_, rfl, nest hS hb, ?_⟩)
             | fail))
          | fail); simp only [Act.put, List.setIfInBounds_toArray, List.set_cons_zero, List.set_cons_succ])
        refine Run.ends (fun hS => ?_)
        have HX := Lib.hid hS
        clear hS
        go_wp2_with fail
        go_ret
        exact ⟨rfl, nest HK8.out HX.out⟩
      · have hF1 : (F == 0) = false := by simpa using hF
        have hF2 : decide (F = 0) = false := decide_eq_false hF
        have hF3 : (F != 0) = true := by simpa using hF
        have HC9 := Lib.hid (opk_u attrs M v9 b9 r9 u7 HQ9.out HMB.out)
        obtain ⟨P9, E9, hPE⟩ : ∃ P E, (P, E) = pkV attrs M := ⟨_, _, rfl⟩
        rw [← hPE] at HC9
        clear hPE
        go_upto_region 15 with (first | (refine at_load 16 rfl ?_; refine wpList_load_row rfl 34 (.tmp 16) rfl g16 rfl 34 (mcs M v9 b9 r9).toArray (0, 0) _ H16.out Try.underlying34 rfl msg_info ?_) | (go_at_call 12; refine HC9.out.mono ?_; rintro e u8 ⟨x8, rfl, hx8, hk8⟩; obtain ⟨ax8, cx8, rfl, _, _⟩ := hx8.form; clear hx8))
        have HK8 := Lib.hid (nest HKU.out hk8)
        clear hk8 HKU HVU HC9
        have hk0 : Below u8.heap.size u8 u8 := Below.refl _ _
        refine Run.region_seq (S := fun z => Below u8.heap.size u8 z)
          [1, 0, 0, 0, 0, 0, 0, 0, 0, 0, 1, 0, 0, 0, 0] (l := ?_) ?_ hk0 ?_
        rotate_left
        (· simp only [Run.seqOf, List.toList_toArray, Run.stepsOf, Run.stepOf, Run.guardOf, List.getElem?_toArray, List.getElem?_cons_zero, List.getElem?_cons_succ, Option.map_some, Option.map_none, Option.bind_some, Option.toList_some, List.map_cons, List.map_nil, List.cons_append, List.nil_append]
           rfl)
        repeat ((first
          | (refine Run.takes (v := ?_) ?_ ?_; rotate_left; (· intro w' hS'; go_simp; (try with_reducible rfl)))
          | (refine Run.takesG (v := ?_) ?_ ?_ ?_; rotate_left; (· simp only [List.getElem?_cons_zero, List.getElem?_cons_succ]); (· intro w' hS'; go_simp; (try with_reducible rfl)))
          | (refine Run.skipsT ?_ ?_; (· simp only [List.getElem?_cons_zero, List.getElem?_cons_succ]))
          | (refine Run.skipsF ?_ ?_; (· simp only [List.getElem?_cons_zero, List.getElem?_cons_succ]))
          | (refine Run.skipsU ?_ ?_; (· simp only [List.getElem?_cons_zero, List.getElem?_cons_succ]))
          | (refine Run.passT ?_ ?_; (· simp only [List.getElem?_cons_zero, List.getElem?_cons_succ]))
          | (refine Run.passF ?_ ?_; (· simp only [List.getElem?_cons_zero, List.getElem?_cons_succ]))
          | (refine Run.passU ?_ ?_; (· simp only [List.getElem?_cons_zero, List.getElem?_cons_succ]))
          | (refine Run.runs ?_
             (first
             | (refine Run.callF 10 (by kernel_rfl) (fun hS => mawake_any _) rfl ?_)
             | (refine Run.callG 10 (by kernel_rfl) ?_ (fun hS => mawake_any _) rfl ?_; (· simp only [List.getElem?_cons_zero, List.getElem?_cons_succ]))
             | fail)
             (first
             | (rintro hS e w' ⟨rfl, rfl⟩; refine ⟨_, rfl, hS, ?_⟩)
             | (rintro hS e w' ⟨rfl, hb⟩; refine ⟨_, rfl, nest hS hb, ?_⟩)
             | fail))
          | fail); simp only [Act.put, List.setIfInBounds_toArray, List.set_cons_zero, List.set_cons_succ])
        refine Run.ends (fun hS => ?_)
        have HX := Lib.hid hS
        clear hS
        go_wp2_with fail
        go_ret
        exact ⟨rfl, nest HK8.out HX.out⟩
    · skip
      as_aux_lemma =>
        have hp9 := packM_nine m
        have htp := takeV_pack hr HBD.out
        have HPF := Lib.hid (packM_tenk hr HFEW.out)
        obtain ⟨k, hk, hkx⟩ := index_cut cut (packM m).length (by omega)
        have hts := takeV_short hr HBD.out hk
        have htm := takeV_more hr HBD.out
        obtain ⟨P, hP⟩ : ∃ P, P = packM m := ⟨_, rfl⟩
        have HPB : Hid (Byt P) := Lib.hid (by rw [hP]; exact packM_byt m)
        rw [← hP] at hx hp9 HPF hk hkx htp hts htm
        clear hP
        have HX3 := Lib.hid hx.rd
        obtain ⟨ax, cx, rfl, hcx1, hcx2⟩ := hx.rd.form
        have HTP := Lib.hid htp
        have HTS := Lib.hid hts
        have HTM := Lib.hid htm
        have HKX := Lib.hid hkx
        have HKL := Lib.hid hk
        have HP9 := Lib.hid hp9
        have HCX := Lib.hid hcx1
        have HB3 := Lib.hid (HB2.out.keep hk3)
        have HM3 := Lib.hid (HM2.out.keep hk3)
        have HK3 := Lib.hid (nest HK2.out hk3)
        have HV3 := Lib.hid (HV2.out.keep hk3)
        clear hx hcx1 hcx2 htp hts htm hkx hk hp9 HB2 HM2 HK2 HV2 HC hk3 hr
        go_upto_region 6 with (first | (go_at_call 14; refine (otk_u attrs _ P _ HTP.out HX3.out (by have := HPF.out; omega) HPB.out).mono ?_; rintro e w4 ⟨v4, b4, r4, rfl, hm4, hb4, hk4⟩) | (refine at_store 11 rfl ?_; refine wpList_store_row rfl 34 (.tmp 11) (.tmp 41) rfl w4.heap.size (mcs m v4 b4 r4).toArray rfl rfl 34 _ (heap_alloc_new w4 _) msg_info rfl (mcs_one hm4) ?_))
        (try rw [World.setRow_alloc_new])
        have hX4 : Below w4.heap.size w4 (w4.alloc (.cells (mcs m v4 b4 r4).toArray 34)) := more (Below.refl _ _) _
        have H11 : Hid (Blk (w4.alloc (.cells (mcs m v4 b4 r4).toArray 34)) w4.heap.size 34 (mcs m v4 b4 r4).toArray) := Lib.hid (Blk.new _ _ _)
        have HQ4 := Lib.hid (hm4.keep hX4)
        have hk4 := nest hk4 hX4
        have HB4 := Lib.hid (HB3.out.keep hk4)
        have HM4 := Lib.hid (HM3.out.keep hk4)
        have HK4 := Lib.hid (nest HK3.out hk4)
        have HV4 := Lib.hid (HV3.out.keep hk4)
        have HX4 := Lib.hid (HX3.out.keep hk4)
        clear HB3 HM3 HK3 HV3 HX3 hk4 hX4 hm4 hb4
        generalize w4.alloc (.cells (mcs m v4 b4 r4).toArray 34) = w5 at *
        obtain ⟨g11, hg11⟩ : ∃ x, x = w4.heap.size := ⟨_, rfl⟩
        rw [← hg11] at H11 ⊢
        clear hg11
        have hk0 : Below w5.heap.size w5 w5 := Below.refl _ _
        have hpz : decide ((P.length : Int) = 0) = false := decide_eq_false (by have := HP9.out; omega)
        have hpz2 : ((P.length : Int) == 0) = false := by have := HP9.out; simp; intro h; subst h; simp at this
        refine Run.region_seq (S := fun z => Blk z g 34 (mcs m v b r).toArray ∧ Blk z g11 34 (mcs m v4 b4 r4).toArray ∧ Below w5.heap.size w5 z)
          [0, 0, 0, 0, 0, 1, 0, 0, 0, 0, 0, 0, 0] (l := ?_) ?_ ⟨HB4.out, H11.out, hk0⟩ ?_
        rotate_left
        (· simp only [Run.seqOf, List.toList_toArray, Run.stepsOf, Run.stepOf, Run.guardOf, List.getElem?_toArray, List.getElem?_cons_zero, List.getElem?_cons_succ, Option.map_some, Option.map_none, Option.bind_some, Option.toList_some, List.map_cons, List.map_nil, List.cons_append, List.nil_append]
           rfl)
        repeat ((first
          | (refine Run.takes (v := ?_) ?_ ?_; rotate_left; (· intro w' hS'; (first | (refine exec_load_blk (n := 18) (x := .tmp 5) (l := mcs m v b r) ?_ Try.underlying34 msg_info ?_ ?_ hS'.1 <;> rfl) | (refine exec_load_blk (n := 18) (x := .tmp 11) (l := mcs m v4 b4 r4) ?_ Try.underlying34 msg_info ?_ ?_ hS'.2.1 <;> rfl) | (go_simp; (try with_reducible rfl)))))
          | (refine Run.takesG (v := ?_) ?_ ?_ ?_; rotate_left; (· simp only [List.getElem?_cons_zero, List.getElem?_cons_succ]); (· intro w' hS'; (first | (refine exec_load_blk (n := 18) (x := .tmp 5) (l := mcs m v b r) ?_ Try.underlying34 msg_info ?_ ?_ hS'.1 <;> rfl) | (refine exec_load_blk (n := 18) (x := .tmp 11) (l := mcs m v4 b4 r4) ?_ Try.underlying34 msg_info ?_ ?_ hS'.2.1 <;> rfl) | (go_simp; (try with_reducible rfl)))))
          | (refine Run.skipsT ?_ ?_; (· simp only [List.getElem?_cons_zero, List.getElem?_cons_succ]))
          | (refine Run.skipsF ?_ ?_; (· simp only [List.getElem?_cons_zero, List.getElem?_cons_succ]))
          | (refine Run.skipsU ?_ ?_; (· simp only [List.getElem?_cons_zero, List.getElem?_cons_succ]))
          | (refine Run.passT ?_ ?_; (· simp only [List.getElem?_cons_zero, List.getElem?_cons_succ]))
          | (refine Run.passF ?_ ?_; (· simp only [List.getElem?_cons_zero, List.getElem?_cons_succ]))
          | (refine Run.passU ?_ ?_; (· simp only [List.getElem?_cons_zero, List.getElem?_cons_succ]))
          | (refine Run.runs ?_
             (first
             | (refine Run.callF 19 (by kernel_rfl) (fun hS => message_yes m v4 b4 r4 v b r _ (HQ4.out.keep hS.2.2) (HM4.out.keep hS.2.2)) rfl ?_)
             | (refine Run.callG 19 (by kernel_rfl) ?_ (fun hS => message_yes m v4 b4 r4 v b r _ (HQ4.out.keep hS.2.2) (HM4.out.keep hS.2.2)) rfl ?_; (· simp only [List.getElem?_cons_zero, List.getElem?_cons_succ]))
             | fail)
             (first
             | (rintro hS e w' ⟨rfl, rfl⟩; refine ⟨_, rfl, hS, ?_⟩)
             | (rintro hS e w' ⟨rfl, hb⟩; refine ⟨_, rfl, ⟨hS.1.keep hb, hS.2.1.keep hb, nest hS.2.2 hb⟩, ?_⟩)
             | fail))
          | fail); simp only [Act.put, List.setIfInBounds_toArray, List.set_cons_zero, List.set_cons_succ])
        refine Run.ends (fun hS => ?_)
        have HV6 := Lib.hid (HV4.out.keep hS.2.2)
        have HX6 := Lib.hid (HX4.out.keep hS.2.2)
        have HK6 := Lib.hid (nest HK4.out hS.2.2)
        clear hS hk0 hpz hpz2 HB4 HM4 HK4 HV4 HX4 H11 HQ4
        have hkx := HKX.out
        have hlw : IntKind.u64.wrap (P.length : Int) = P.length := IntWalk.u64_in _ (by have := HPF.out; omega)
        have hkw : wrap64 (k : Int) = k := by unfold wrap64; have := HPF.out; have := HKL.out; omega
        have hz : ¬ (P.length : Int) = 0 := by have := HP9.out; omega
        go_upto_region 9 with fail
        clear hkx hlw hz
        have hcut := run_cut_to (P := Try.prog) byteElem ax P.length cx k (by have := HKL.out; have := HCX.out; omega)
        rw [cutA_zero] at hcut
        have hrk := HX6.out.cutA (Nat.zero_le k) (show k ≤ P.length by have := HKL.out; omega)
        rw [cutA_zero, List.drop_zero, Nat.sub_zero, Nat.sub_zero] at hrk
        have HRK := Lib.hid hrk
        clear hrk
        go_upto_region 10 with (go_at_call 14; refine (otk_u attrs _ (P.take k) _ HTS.out HRK.out (by rw [List.length_take]; have := HPF.out; omega) (HPB.out.take k)).mono ?_; rintro e w7 ⟨v7, b7, r7, rfl, hm7, hb7, hk7⟩)
        have HV7 := Lib.hid (HV6.out.keep hk7)
        have HX7 := Lib.hid (HX6.out.keep hk7)
        have HK7 := Lib.hid (nest HK6.out hk7)
        clear hcut hk7 hm7 hb7 HRK HV6 HX6 HK6 hkw
        refine Run.region_seq (S := fun _ => True)
          [0, 0, 1, 1, 1, 1, 0, 0, 0, 1, 1, 0] (l := ?_) ?_ trivial ?_
        rotate_left
        (· simp only [Run.seqOf, List.toList_toArray, Run.stepsOf, Run.stepOf, Run.guardOf, List.getElem?_toArray, List.getElem?_cons_zero, List.getElem?_cons_succ, Option.map_some, Option.map_none, Option.bind_some, Option.toList_some, List.map_cons, List.map_nil, List.cons_append, List.nil_append]
           rfl)
        repeat ((first
          | (refine Run.takes (v := ?_) ?_ ?_; rotate_left; (· intro w' hS'; go_simp; (try with_reducible rfl)))
          | (refine Run.takesG (v := ?_) ?_ ?_ ?_; rotate_left; (· simp only [List.getElem?_cons_zero, List.getElem?_cons_succ]); (· intro w' hS'; go_simp; (try with_reducible rfl)))
          | (refine Run.skipsT ?_ ?_; (· simp only [List.getElem?_cons_zero, List.getElem?_cons_succ]))
          | (refine Run.skipsF ?_ ?_; (· simp only [List.getElem?_cons_zero, List.getElem?_cons_succ]))
          | (refine Run.skipsU ?_ ?_; (· simp only [List.getElem?_cons_zero, List.getElem?_cons_succ]))
          | (refine Run.passT ?_ ?_; (· simp only [List.getElem?_cons_zero, List.getElem?_cons_succ]))
          | (refine Run.passF ?_ ?_; (· simp only [List.getElem?_cons_zero, List.getElem?_cons_succ]))
          | (refine Run.passU ?_ ?_; (· simp only [List.getElem?_cons_zero, List.getElem?_cons_succ]))
          | fail); simp only [Act.put, List.setIfInBounds_toArray, List.set_cons_zero, List.set_cons_succ])
        refine Run.runsS (Run.one (fun hS K hK => ?_))
        refine wp_append (E := intE .u8) (B := w7.heap.size) (l := []) (m := P) (bytes := 1) byteElem Nat.zero_lt_one (.const (.slice none 0 0)) (.tmp 73) rfl rfl Row.nil rfl HX7.out (by have := HPF.out; simp [maxLen]; omega) (by have := HPF.out; simp; omega) (Nat.le_refl _) ?_
        intro vA wA hrA hkA hgA _
        rw [List.nil_append] at hrA
        have HRA := Lib.hid hrA
        have HKA : Hid (Below w7.heap.size w7 wA) := Lib.hid hkA
        obtain ⟨aA, cA, rfl, _, _⟩ := hrA.rd.form
        refine hK.out _ _ trivial (fun _ => ⟨fun _ => True, fun _ h => h, trivial, ?_⟩)
        clear hK K hS hrA hkA hgA
        try simp only [Act.put, List.setIfInBounds_toArray, List.set_cons_zero, List.set_cons_succ]
        repeat ((first
          | (refine Run.takes (v := ?_) ?_ ?_; rotate_left; (· intro w' hS'; go_simp; (try with_reducible rfl)))
          | (refine Run.takesG (v := ?_) ?_ ?_ ?_; rotate_left; (· simp only [List.getElem?_cons_zero, List.getElem?_cons_succ]); (· intro w' hS'; go_simp; (try with_reducible rfl)))
          | (refine Run.skipsT ?_ ?_; (· simp only [List.getElem?_cons_zero, List.getElem?_cons_succ]))
          | (refine Run.skipsF ?_ ?_; (· simp only [List.getElem?_cons_zero, List.getElem?_cons_succ]))
          | (refine Run.skipsU ?_ ?_; (· simp only [List.getElem?_cons_zero, List.getElem?_cons_succ]))
          | (refine Run.passT ?_ ?_; (· simp only [List.getElem?_cons_zero, List.getElem?_cons_succ]))
          | (refine Run.passF ?_ ?_; (· simp only [List.getElem?_cons_zero, List.getElem?_cons_succ]))
          | (refine Run.passU ?_ ?_; (· simp only [List.getElem?_cons_zero, List.getElem?_cons_succ]))
          | fail); simp only [Act.put, List.setIfInBounds_toArray, List.set_cons_zero, List.set_cons_succ])
        refine Run.runsS (Run.one (fun hS K hK => ?_))
        go_simp
        have hXB : Below wA.heap.size wA (wA.alloc (.cells #[.int .u8 0] 5)) := more (Below.refl _ _) _
        have HXB := Lib.hid (Row.lit (E := intE .u8) wA.heap.size wA #[.int .u8 0] [0] 1 wA.heap.size rfl rfl rfl (Nat.le_refl _) (by simp [maxLen]) : Row (intE .u8) 5 wA.heap.size (wA.alloc (.cells #[.int .u8 0] 5)) (.slice (some ⟨wA.heap.size, 0, none⟩) 1 1) [0])
        have HRB := Lib.hid (HRA.out.keep hXB)
        have HKB := Lib.hid (nest HKA.out hXB)
        refine hK.out _ _ trivial (fun _ => ⟨fun _ => True, fun _ h => h, trivial, ?_⟩)
        clear hK K hS hXB HRA HKA
        generalize wA.alloc (.cells #[.int .u8 0] 5) = wB at *
        try simp only [Act.put, List.setIfInBounds_toArray, List.set_cons_zero, List.set_cons_succ]
        repeat ((first
          | (refine Run.takes (v := ?_) ?_ ?_; rotate_left; (· intro w' hS'; go_simp; (try with_reducible rfl)))
          | (refine Run.takesG (v := ?_) ?_ ?_ ?_; rotate_left; (· simp only [List.getElem?_cons_zero, List.getElem?_cons_succ]); (· intro w' hS'; go_simp; (try with_reducible rfl)))
          | (refine Run.skipsT ?_ ?_; (· simp only [List.getElem?_cons_zero, List.getElem?_cons_succ]))
          | (refine Run.skipsF ?_ ?_; (· simp only [List.getElem?_cons_zero, List.getElem?_cons_succ]))
          | (refine Run.skipsU ?_ ?_; (· simp only [List.getElem?_cons_zero, List.getElem?_cons_succ]))
          | (refine Run.passT ?_ ?_; (· simp only [List.getElem?_cons_zero, List.getElem?_cons_succ]))
          | (refine Run.passF ?_ ?_; (· simp only [List.getElem?_cons_zero, List.getElem?_cons_succ]))
          | (refine Run.passU ?_ ?_; (· simp only [List.getElem?_cons_zero, List.getElem?_cons_succ]))
          | fail); simp only [Act.put, List.setIfInBounds_toArray, List.set_cons_zero, List.set_cons_succ])
        refine Run.runsS (Run.one (fun hS K hK => ?_))
        refine wp_append (E := intE .u8) (B := w7.heap.size) (l := P) (m := [0]) (bytes := 1) byteElem Nat.zero_lt_one (.tmp 74) (.tmp 75) rfl rfl HRB.out rfl HXB.out.rd (by have := HPF.out; simp [maxLen]; omega) (by have := HPF.out; simp; omega) HKB.out.size ?_
        intro vC wC hrC hkC hgC _
        obtain ⟨Q, hQ⟩ : ∃ Q, Q = P ++ [0] := ⟨_, rfl⟩
        rw [← hQ] at hrC HTM
        have HQB : Hid (Byt Q) := Lib.hid (by rw [hQ]; exact HPB.out.append (by intro x hx; simp at hx; subst hx; omega))
        have HQL : Hid (Q.length ≤ 1000000) := Lib.hid (by rw [hQ]; have := HPF.out; simp; omega)
        have HRC := Lib.hid hrC.rd
        have HKC : Hid (Below w7.heap.size w7 wC) := Lib.hid (HKB.out.trans hkC)
        obtain ⟨aC, cC, rfl, _, _⟩ := hrC.rd.form
        refine hK.out _ _ trivial (fun _ => ⟨fun _ => True, fun _ h => h, trivial, ?_⟩)
        clear hK K hS hrC hkC hgC HRB HKB HXB hQ
        try simp only [Act.put, List.setIfInBounds_toArray, List.set_cons_zero, List.set_cons_succ]
        repeat ((first
          | (refine Run.takes (v := ?_) ?_ ?_; rotate_left; (· intro w' hS'; go_simp; (try with_reducible rfl)))
          | (refine Run.takesG (v := ?_) ?_ ?_ ?_; rotate_left; (· simp only [List.getElem?_cons_zero, List.getElem?_cons_succ]); (· intro w' hS'; go_simp; (try with_reducible rfl)))
          | (refine Run.skipsT ?_ ?_; (· simp only [List.getElem?_cons_zero, List.getElem?_cons_succ]))
          | (refine Run.skipsF ?_ ?_; (· simp only [List.getElem?_cons_zero, List.getElem?_cons_succ]))
          | (refine Run.skipsU ?_ ?_; (· simp only [List.getElem?_cons_zero, List.getElem?_cons_succ]))
          | (refine Run.passT ?_ ?_; (· simp only [List.getElem?_cons_zero, List.getElem?_cons_succ]))
          | (refine Run.passF ?_ ?_; (· simp only [List.getElem?_cons_zero, List.getElem?_cons_succ]))
          | (refine Run.passU ?_ ?_; (· simp only [List.getElem?_cons_zero, List.getElem?_cons_succ]))
          | fail); simp only [Act.put, List.setIfInBounds_toArray, List.set_cons_zero, List.set_cons_succ])
        refine Run.runsS (Run.callF 14 (by kernel_rfl) (fun hS => otk_u attrs _ Q _ HTM.out HRC.out HQL.out HQB.out) rfl ?_)
        rintro hS e wD ⟨v7, b7, r7, rfl, hm7, hb7, hk7⟩
        have HMD := Lib.hid hm7
        have HKD := Lib.hid (nest HKC.out hk7)
        refine ⟨_, rfl, trivial, fun _ => ⟨fun _ => True, fun _ h => h, trivial, ?_⟩⟩
        clear hS hm7 hb7 hk7 HRC HKC
        try simp only [Act.put, List.setIfInBounds_toArray, List.set_cons_zero, List.set_cons_succ]
        repeat ((first
          | (refine Run.takes (v := ?_) ?_ ?_; rotate_left; (· intro w' hS'; go_simp; (try with_reducible rfl)))
          | (refine Run.takesG (v := ?_) ?_ ?_ ?_; rotate_left; (· simp only [List.getElem?_cons_zero, List.getElem?_cons_succ]); (· intro w' hS'; go_simp; (try with_reducible rfl)))
          | (refine Run.skipsT ?_ ?_; (· simp only [List.getElem?_cons_zero, List.getElem?_cons_succ]))
          | (refine Run.skipsF ?_ ?_; (· simp only [List.getElem?_cons_zero, List.getElem?_cons_succ]))
          | (refine Run.skipsU ?_ ?_; (· simp only [List.getElem?_cons_zero, List.getElem?_cons_succ]))
          | (refine Run.passT ?_ ?_; (· simp only [List.getElem?_cons_zero, List.getElem?_cons_succ]))
          | (refine Run.passF ?_ ?_; (· simp only [List.getElem?_cons_zero, List.getElem?_cons_succ]))
          | (refine Run.passU ?_ ?_; (· simp only [List.getElem?_cons_zero, List.getElem?_cons_succ]))
          | fail); simp only [Act.put, List.setIfInBounds_toArray, List.set_cons_zero, List.set_cons_succ])
        refine Run.runsS (Run.one (fun hS K hK => ?_))
        go_simp
        have hzz : wD.alloc (.cells zcs.toArray 34) = wD.alloc (.cells #[.int .i64 0, .int .i64 0, .int .u32 0, .int .i64 0, .int .i64 0, .int .u32 0, .int .i64 0, .int .u32 0, .int .i64 0, .int .u32 0, .int .u64 0, .int .u64 0, .slice none 0 0, .bool false, .int .u32 0, .int .u32 0, .slice none 0 0, .slice none 0 0] 34) := rfl
        rw [← hzz]
        clear hzz
        have hXE : Below wD.heap.size wD (wD.alloc (.cells zcs.toArray 34)) := more (Below.refl _ _) _
        have HBE : Hid (Blk (wD.alloc (.cells zcs.toArray 34)) wD.heap.size 34 zcs.toArray) := Lib.hid (heap_alloc_new wD (.cells zcs.toArray 34))
        have HME := Lib.hid (HMD.out.keep hXE)
        have HKE := Lib.hid (nest HKD.out hXE)
        have HGE := Lib.hid HKD.out.size
        refine hK.out _ _ trivial (fun _ => ⟨fun _ => True, fun _ h => h, trivial, ?_⟩)
        clear hK K hS hXE HMD HKD
        generalize wD.alloc (.cells zcs.toArray 34) = wE at *
        obtain ⟨g14, hg14⟩ : ∃ x, x = wD.heap.size := ⟨_, rfl⟩
        rw [← hg14] at HBE HGE ⊢
        clear hg14
        try simp only [Act.put, List.setIfInBounds_toArray, List.set_cons_zero, List.set_cons_succ]
        repeat ((first
          | (refine Run.takes (v := ?_) ?_ ?_; rotate_left; (· intro w' hS'; go_simp; (try with_reducible rfl)))
          | (refine Run.takesG (v := ?_) ?_ ?_ ?_; rotate_left; (· simp only [List.getElem?_cons_zero, List.getElem?_cons_succ]); (· intro w' hS'; go_simp; (try with_reducible rfl)))
          | (refine Run.skipsT ?_ ?_; (· simp only [List.getElem?_cons_zero, List.getElem?_cons_succ]))
          | (refine Run.skipsF ?_ ?_; (· simp only [List.getElem?_cons_zero, List.getElem?_cons_succ]))
          | (refine Run.skipsU ?_ ?_; (· simp only [List.getElem?_cons_zero, List.getElem?_cons_succ]))
          | (refine Run.passT ?_ ?_; (· simp only [List.getElem?_cons_zero, List.getElem?_cons_succ]))
          | (refine Run.passF ?_ ?_; (· simp only [List.getElem?_cons_zero, List.getElem?_cons_succ]))
          | (refine Run.passU ?_ ?_; (· simp only [List.getElem?_cons_zero, List.getElem?_cons_succ]))
          | fail); simp only [Act.put, List.setIfInBounds_toArray, List.set_cons_zero, List.set_cons_succ])
        refine Run.runs (Run.one (fun hS K hK => ?_))
        refine wp_store_row 34 (.tmp 14) (.tmp 78) rfl g14 (mcs zeroM v7 b7 r7).toArray rfl rfl 34 _ HBE.out msg_info rfl (mcs_one HME.out) ?_
        have HKF := Lib.hid (HKE.out.trans ((Only.row wE (mcs zeroM v7 b7 r7).toArray).below HGE.out HKE.out.size))
        refine hK.out _ _ trivial ?_
        clear hK K hS HBE HME HKE HGE
        generalize wE.setRow g14 (mcs zeroM v7 b7 r7).toArray = wF at *
        try simp only [Act.put, List.setIfInBounds_toArray, List.set_cons_zero, List.set_cons_succ]
        repeat ((first
          | (refine Run.takes (v := ?_) ?_ ?_; rotate_left; (· intro w' hS'; go_simp; (try with_reducible rfl)))
          | (refine Run.takesG (v := ?_) ?_ ?_ ?_; rotate_left; (· simp only [List.getElem?_cons_zero, List.getElem?_cons_succ]); (· intro w' hS'; go_simp; (try with_reducible rfl)))
          | (refine Run.skipsT ?_ ?_; (· simp only [List.getElem?_cons_zero, List.getElem?_cons_succ]))
          | (refine Run.skipsF ?_ ?_; (· simp only [List.getElem?_cons_zero, List.getElem?_cons_succ]))
          | (refine Run.skipsU ?_ ?_; (· simp only [List.getElem?_cons_zero, List.getElem?_cons_succ]))
          | (refine Run.passT ?_ ?_; (· simp only [List.getElem?_cons_zero, List.getElem?_cons_succ]))
          | (refine Run.passF ?_ ?_; (· simp only [List.getElem?_cons_zero, List.getElem?_cons_succ]))
          | (refine Run.passU ?_ ?_; (· simp only [List.getElem?_cons_zero, List.getElem?_cons_succ]))
          | fail); simp only [Act.put, List.setIfInBounds_toArray, List.set_cons_zero, List.set_cons_succ])
        refine Run.ends (fun _ => ?_)
        have HKT := Lib.hid (nest HK7.out HKF.out)
        have HVT := Lib.hid (HV7.out.keep HKF.out)
        clear HKF HK7 HV7 HX7 HTP HTS HTM HKX
        go_upto_region 13 with fail
        go_upto_region 14 with (first | (go_at_call 14; refine (otk_u attrs _ l _ HT.out HVT.out HL3.out HBY.out).mono ?_; rintro e u6 ⟨v9, b9, r9, rfl, hm9, hb9, hk9⟩) | (refine at_store 16 rfl ?_; refine wpList_store_row rfl 34 (.tmp 16) (.tmp 90) rfl u6.heap.size (mcs M v9 b9 r9).toArray rfl rfl 34 _ (heap_alloc_new u6 _) msg_info rfl (mcs_one hm9) ?_))
        (try rw [World.setRow_alloc_new])
        have hX9 : Below u6.heap.size u6 (u6.alloc (.cells (mcs M v9 b9 r9).toArray 34)) := more (Below.refl _ _) _
        have H16 : Hid (Blk (u6.alloc (.cells (mcs M v9 b9 r9).toArray 34)) u6.heap.size 34 (mcs M v9 b9 r9).toArray) := Lib.hid (Blk.new _ _ _)
        have HQ9 := Lib.hid (hm9.keep hX9)
        have HMB := Lib.hid hb9
        have hk9 := nest hk9 hX9
        have HKU := Lib.hid (nest HKT.out hk9)
        have HVU := Lib.hid (HVT.out.keep hk9)
        clear HKT HVT hk9 hX9 hm9 hb9
        generalize u6.alloc (.cells (mcs M v9 b9 r9).toArray 34) = u7 at *
        obtain ⟨g16, hg16⟩ : ∃ x, x = u6.heap.size := ⟨_, rfl⟩
        rw [← hg16] at H16 ⊢
        clear hg16
        by_cases hF : F = 0
        · subst hF
          have HC9 : Hid (Calls Try.prog 12 #[.int .i64 attrs, .agg (mcs M v9 b9 r9).toArray] u7 (PkU l 0 u7)) := Lib.hid (by
            have := opk_u attrs M v9 b9 r9 u7 HQ9.out HMB.out
            unfold pkV at this
            rw [if_pos (takeV_ok HT.out).2, (takeV_ok HT.out).1] at this
            exact this)
          go_upto_region 15 with (first | (refine at_load 16 rfl ?_; refine wpList_load_row rfl 34 (.tmp 16) rfl g16 rfl 34 (mcs M v9 b9 r9).toArray (0, 0) _ H16.out Try.underlying34 rfl msg_info ?_) | (go_at_call 12; refine HC9.out.mono ?_; rintro e u8 ⟨x8, rfl, hx8, hk8⟩; have HX8 := Lib.hid hx8; obtain ⟨ax8, cx8, rfl, _, _⟩ := hx8.form; clear hx8))
          have HK8 := Lib.hid (nest HKU.out hk8)
          have HV8 := Lib.hid (HVU.out.keep hk8)
          clear hk8 HKU HVU HC9
          have hk0 : Below u8.heap.size u8 u8 := Below.refl _ _
          refine Run.region_seq (S := fun z => Below u8.heap.size u8 z)
            [1, 0, 0, 0, 0, 0, 0, 0, 0, 0, 1, 0, 0, 0, 0] (l := ?_) ?_ hk0 ?_
          rotate_left
          (· simp only [Run.seqOf, List.toList_toArray, Run.stepsOf, Run.stepOf, Run.guardOf, List.getElem?_toArray, List.getElem?_cons_zero, List.getElem?_cons_succ, Option.map_some, Option.map_none, Option.bind_some, Option.toList_some, List.map_cons, List.map_nil, List.cons_append, List.nil_append]
             rfl)
          repeat ((first
            | (refine Run.takes (v := ?_) ?_ ?_; rotate_left; (· intro w' hS'; go_simp; (try with_reducible rfl)))
            | (refine Run.takesG (v := ?_) ?_ ?_ ?_; rotate_left; (· simp only [List.getElem?_cons_zero, List.getElem?_cons_succ]); (· intro w' hS'; go_simp; (try with_reducible rfl)))
            | (refine Run.skipsT ?_ ?_; (· simp only [List.getElem?_cons_zero, List.getElem?_cons_succ]))
            | (refine Run.skipsF ?_ ?_; (· simp only [List.getElem?_cons_zero, List.getElem?_cons_succ]))
            | (refine Run.skipsU ?_ ?_; (· simp only [List.getElem?_cons_zero, List.getElem?_cons_succ]))
            | (refine Run.passT ?_ ?_; (· simp only [List.getElem?_cons_zero, List.getElem?_cons_succ]))
            | (refine Run.passF ?_ ?_; (· simp only [List.getElem?_cons_zero, List.getElem?_cons_succ]))
            | (refine Run.passU ?_ ?_; (· simp only [List.getElem?_cons_zero, List.getElem?_cons_succ]))
            | (refine Run.runs ?_
               (first
               | (refine Run.callF 10 (by kernel_rfl) (fun hS => mawake_any _) rfl ?_)
               | (refine Run.callG 10 (by kernel_rfl) ?_ (fun hS => mawake_any _) rfl ?_; (· simp only [List.getElem?_cons_zero, List.getElem?_cons_succ]))
               | (refine Run.callF 18 (by kernel_rfl) (fun hS => bytes_yes _ _ l _ (HX8.out.keep hS) (HV8.out.keep hS)) rfl ?_)
               | (refine Run.callG 18 (by kernel_rfl) ?_ (fun hS => bytes_yes _ _ l _ (HX8.out.keep hS) (HV8.out.keep hS)) rfl ?_; (· simp only [List.getElem?_cons_zero, List.getElem?_cons_succ]))
               | fail)
               (first
               | (rintro hS e w' ⟨rfl, rfl⟩; refine ⟨_, rfl, hS, ?_⟩)
               | (rintro hS e w' ⟨rfl, hb⟩; refine ⟨_, rfl, nest hS hb, ?_⟩)
               | fail))
            | fail); simp only [Act.put, List.setIfInBounds_toArray, List.set_cons_zero, List.set_cons_succ])
          refine Run.ends (fun hS => ?_)
          have HX := Lib.hid hS
          clear hS
          go_wp2_with fail
          go_ret
          exact ⟨rfl, nest HK8.out HX.out⟩
        · have hF1 : (F == 0) = false := by simpa using hF
          have hF2 : decide (F = 0) = false := decide_eq_false hF
          have hF3 : (F != 0) = true := by simpa using hF
          have HC9 := Lib.hid (opk_u attrs M v9 b9 r9 u7 HQ9.out HMB.out)
          obtain ⟨P9, E9, hPE⟩ : ∃ P E, (P, E) = pkV attrs M := ⟨_, _, rfl⟩
          rw [← hPE] at HC9
          clear hPE
          go_upto_region 15 with (first | (refine at_load 16 rfl ?_; refine wpList_load_row rfl 34 (.tmp 16) rfl g16 rfl 34 (mcs M v9 b9 r9).toArray (0, 0) _ H16.out Try.underlying34 rfl msg_info ?_) | (go_at_call 12; refine HC9.out.mono ?_; rintro e u8 ⟨x8, rfl, hx8, hk8⟩; obtain ⟨ax8, cx8, rfl, _, _⟩ := hx8.form; clear hx8))
          have HK8 := Lib.hid (nest HKU.out hk8)
          clear hk8 HKU HVU HC9
          have hk0 : Below u8.heap.size u8 u8 := Below.refl _ _
          refine Run.region_seq (S := fun z => Below u8.heap.size u8 z)
            [1, 0, 0, 0, 0, 0, 0, 0, 0, 0, 1, 0, 0, 0, 0] (l := ?_) ?_ hk0 ?_
          rotate_left
          (· simp only [Run.seqOf, List.toList_toArray, Run.stepsOf, Run.stepOf, Run.guardOf, List.getElem?_toArray, List.getElem?_cons_zero, List.getElem?_cons_succ, Option.map_some, Option.map_none, Option.bind_some, Option.toList_some, List.map_cons, List.map_nil, List.cons_append, List.nil_append]
             rfl)
          repeat ((first
            | (refine Run.takes (v := ?_) ?_ ?_; rotate_left; (· intro w' hS'; go_simp; (try with_reducible rfl)))
            | (refine Run.takesG (v := ?_) ?_ ?_ ?_; rotate_left; (· simp only [List.getElem?_cons_zero, List.getElem?_cons_succ]); (· intro w' hS'; go_simp; (try with_reducible rfl)))
            | (refine Run.skipsT ?_ ?_; (· simp only [List.getElem?_cons_zero, List.getElem?_cons_succ]))
            | (refine Run.skipsF ?_ ?_; (· simp only [List.getElem?_cons_zero, List.getElem?_cons_succ]))
            | (refine Run.skipsU ?_ ?_; (· simp only [List.getElem?_cons_zero, List.getElem?_cons_succ]))
            | (refine Run.passT ?_ ?_; (· simp only [List.getElem?_cons_zero, List.getElem?_cons_succ]))
            | (refine Run.passF ?_ ?_; (· simp only [List.getElem?_cons_zero, List.getElem?_cons_succ]))
            | (refine Run.passU ?_ ?_; (· simp only [List.getElem?_cons_zero, List.getElem?_cons_succ]))
            | (refine Run.runs ?_
               (first
               | (refine Run.callF 10 (by kernel_rfl) (fun hS => mawake_any _) rfl ?_)
               | (refine Run.callG 10 (by kernel_rfl) ?_ (fun hS => mawake_any _) rfl ?_; (· simp only [List.getElem?_cons_zero, List.getElem?_cons_succ]))
               | fail)
               (first
               | (rintro hS e w' ⟨rfl, rfl⟩; refine ⟨_, rfl, hS, ?_⟩)
               | (rintro hS e w' ⟨rfl, hb⟩; refine ⟨_, rfl, nest hS hb, ?_⟩)
               | fail))
            | fail); simp only [Act.put, List.setIfInBounds_toArray, List.set_cons_zero, List.set_cons_succ])
          refine Run.ends (fun hS => ?_)
          have HX := Lib.hid hS
          clear hS
          go_wp2_with fail
          go_ret
          exact ⟨rfl, nest HK8.out HX.out⟩
end Go.Proofs.Ythhelhhlofdehaa.messageBack
