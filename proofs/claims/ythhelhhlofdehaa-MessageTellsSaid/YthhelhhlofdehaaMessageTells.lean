/- Walk of the law MessageTells. -/
import Derived.Test.YthhelhhlofdehaaMsgLaw
import Derived.Test.YthhelhhlofdehaaOwn
set_option maxRecDepth 4000
namespace Go.Proofs.Ythhelhhlofdehaa.messageTells
open Go.RowKit Mem
set_option linter.unusedSimpArgs false
set_option linter.unusedVariables false
attribute [local irreducible] Go.Calls
set_option maxRecDepth 100000 in
set_option maxHeartbeats 4000000 in
theorem walk (attrs : Int) (_ : -9223372036854775808 ≤ attrs ∧ attrs ≤ 9223372036854775807) (m : Msg) (v b r : Value) (vb : Value) (l : List Int) (w : World) (h : MRd w m v b r) (hb : MB m) (hl : Rd (intE .u8) w vb l) (hlb : ∀ x ∈ l, 0 ≤ x ∧ x ≤ 255) :
    Calls Try.prog 3 #[.int .i64 attrs, .agg (mcs m v b r).toArray, vb] w fun e w' => e = .returned (.bool true) ∧ Below w.heap.size w w' := by
  obtain ⟨av, cv, rfl, hc1, hc2⟩ := hl.form
  have hk0 : Below w.heap.size w (w.alloc (.cells (mcs m v b r).toArray 34)) := more (Below.refl _ _) _
  have HBK := Lib.hid (Blk.new w 34 (mcs m v b r).toArray)
  have HK := Lib.hid hk0
  have HM := Lib.hid (h.keep hk0)
  have HBD := Lib.hid hb
  have HV := Lib.hid (hl.keep hk0)
  have HBY : Hid (Byt l) := Lib.hid hlb
  clear hk0 h hb hl hlb hc1 hc2
  go_enter Try.func3, Try.ntmps3
  go_upto_region 1 with fail
  generalize w.alloc (.cells (mcs m v b r).toArray 34) = w1 at *
  obtain ⟨g, hg⟩ : ∃ g, g = w.heap.size := ⟨_, rfl⟩
  rw [← hg] at HBK ⊢
  clear hg
  have HC := Lib.hid (few_any m v b r w1 HM.out)
  cases hf : fewM m with
  | false =>
    rw [hf] at HC
    go_wp2_with (first | (refine at_load 4 rfl ?_; refine wpList_load_row rfl 34 (.tmp 4) rfl g rfl 34 (mcs m v b r).toArray (0, 0) _ HBK.out Try.underlying34 rfl msg_info ?_) | (go_at_call 9; refine HC.out.mono ?_; rintro e w2 ⟨rfl, hk2⟩) | (go_at_call 10; refine (mawake_any _).mono ?_; rintro e w3 ⟨rfl, hk3⟩))
    go_ret
    exact ⟨rfl, nest (nest HK.out hk2) hk3⟩
  | true =>
    rw [hf] at HC
    clear hf
    by_cases h3 : l.length ≤ 3000
    case neg =>
      have d3 : decide ((l.length : Int) > 3000) = true := decide_eq_true (by omega)
      go_wp2_with (first | (refine at_load 4 rfl ?_; refine wpList_load_row rfl 34 (.tmp 4) rfl g rfl 34 (mcs m v b r).toArray (0, 0) _ HBK.out Try.underlying34 rfl msg_info ?_) | (go_at_call 9; refine HC.out.mono ?_; rintro e w2 ⟨rfl, hk2⟩) | (go_at_call 10; refine (mawake_any _).mono ?_; rintro e w3 ⟨rfl, hk3⟩))
      go_ret
      exact ⟨rfl, nest (nest HK.out hk2) hk3⟩
    have d3 : decide ((l.length : Int) > 3000) = false := decide_eq_false (by omega)
    have HL3 := Lib.hid h3
    go_upto_region 3 with (first | (refine at_load 4 rfl ?_; refine wpList_load_row rfl 34 (.tmp 4) rfl g rfl 34 (mcs m v b r).toArray (0, 0) _ HBK.out Try.underlying34 rfl msg_info ?_) | (go_at_call 9; refine HC.out.mono ?_; rintro e w2 ⟨rfl, hk2⟩))
    have HB2 := Lib.hid (HBK.out.keep hk2)
    have HM2 := Lib.hid (HM.out.keep hk2)
    have HK2 := Lib.hid (nest HK.out hk2)
    have HV2 := Lib.hid (HV.out.keep hk2)
    clear HBK HM HK HV HC hk2 d3 h3
    go_upto_region 4 with (go_at_call 11; refine (ownb_any _ l 71 _ HV2.out (by have := HL3.out; omega)).mono ?_; rintro e w3 ⟨g7, rfl, hrow, hk3⟩)
    have HO3 := Lib.hid hrow.rd
    have HI3 : Hid (Rd (intE .u8) w3 (.slice (some ⟨g7, 0, none⟩) l.length (l.length + 3)) l) := Lib.hid (own_rd (m := [71, 71, 71]) hrow.rd)
    have HB3 := Lib.hid (HB2.out.keep hk3)
    have HM3 := Lib.hid (HM2.out.keep hk3)
    have HK3 := Lib.hid (nest HK2.out hk3)
    have HV3 := Lib.hid (HV2.out.keep hk3)
    clear HB2 HM2 HK2 HV2 hk3 hrow
    have HC := Lib.hid (opk_u attrs m v b r w3 HM3.out HBD.out)
    obtain ⟨P, E, hPE⟩ : ∃ P E, (P, E) = pkV attrs m := ⟨_, _, rfl⟩
    rw [← hPE] at HC
    go_upto_region 5 with (first | (refine at_load 4 rfl ?_; refine wpList_load_row rfl 34 (.tmp 4) rfl g rfl 34 (mcs m v b r).toArray (0, 0) _ HB3.out Try.underlying34 rfl msg_info ?_) | (go_at_call 12; refine HC.out.mono ?_; rintro e w4 ⟨x4, rfl, hx4, hk4⟩; have HX4 := Lib.hid hx4; obtain ⟨ax4, cx4, rfl, _, _⟩ := hx4.form; clear hx4))
    have HO4 := Lib.hid (HO3.out.keep hk4)
    have HI4 := Lib.hid (HI3.out.keep hk4)
    have HB4 := Lib.hid (HB3.out.keep hk4)
    have HM4 := Lib.hid (HM3.out.keep hk4)
    have HK4 := Lib.hid (nest HK3.out hk4)
    have HV4 := Lib.hid (HV3.out.keep hk4)
    clear HO3 HI3 HB3 HM3 HK3 HV3 HC hk4
    have HC := Lib.hid (rpk_u attrs m v b r w4 HM4.out HBD.out)
    rw [← hPE] at HC
    clear hPE
    go_upto_region 6 with (first | (refine at_load 4 rfl ?_; refine wpList_load_row rfl 34 (.tmp 4) rfl g rfl 34 (mcs m v b r).toArray (0, 0) _ HB4.out Try.underlying34 rfl msg_info ?_) | (go_at_call 13; refine HC.out.mono ?_; rintro e w5 ⟨x5, rfl, hx5, hk5⟩; have HX5 := Lib.hid hx5; obtain ⟨ax5, cx5, rfl, _, _⟩ := hx5.form; clear hx5))
    have HO5 := Lib.hid (HO4.out.keep hk5)
    have HI5 := Lib.hid (HI4.out.keep hk5)
    have HB5 := Lib.hid (HB4.out.keep hk5)
    have HM5 := Lib.hid (HM4.out.keep hk5)
    have HK5 := Lib.hid (nest HK4.out hk5)
    have HV5 := Lib.hid (HV4.out.keep hk5)
    have HX45 := Lib.hid (HX4.out.keep hk5)
    clear HO4 HI4 HB4 HM4 HK4 HV4 HX4 HC hk5
    obtain ⟨M, F, hT⟩ : ∃ M F, takeV attrs l = (M, F) := ⟨_, _, rfl⟩
    have HT := Lib.hid hT
    clear hT
    go_upto_region 7 with (first | (go_at_call 14; refine (otk_u attrs _ l _ HT.out HI5.out (by have := HL3.out; omega) HBY.out).mono ?_; rintro e w6 ⟨v6, b6, r6, rfl, hm6, hb6, hk6⟩) | (refine at_store 12 rfl ?_; refine wpList_store_row rfl 34 (.tmp 12) (.tmp 43) rfl w6.heap.size (mcs M v6 b6 r6).toArray rfl rfl 34 _ (heap_alloc_new w6 _) msg_info rfl (mcs_one hm6) ?_))
    (try rw [World.setRow_alloc_new])
    have hX6 : Below w6.heap.size w6 (w6.alloc (.cells (mcs M v6 b6 r6).toArray 34)) := more (Below.refl _ _) _
    have H12 : Hid (Blk (w6.alloc (.cells (mcs M v6 b6 r6).toArray 34)) w6.heap.size 34 (mcs M v6 b6 r6).toArray) := Lib.hid (Blk.new _ _ _)
    have HQ6 := Lib.hid (hm6.keep hX6)
    have hk6 := nest hk6 hX6
    have HO6 := Lib.hid (HO5.out.keep hk6)
    have HB6 := Lib.hid (HB5.out.keep hk6)
    have HM6 := Lib.hid (HM5.out.keep hk6)
    have HK6 := Lib.hid (nest HK5.out hk6)
    have HV6 := Lib.hid (HV5.out.keep hk6)
    have HX46 := Lib.hid (HX45.out.keep hk6)
    have HX56 := Lib.hid (HX5.out.keep hk6)
    clear HO5 HI5 HB5 HM5 HK5 HV5 HX45 HX5 hk6 hX6 hm6 hb6
    generalize w6.alloc (.cells (mcs M v6 b6 r6).toArray 34) = z6 at *
    obtain ⟨g12, hg12⟩ : ∃ x, x = w6.heap.size := ⟨_, rfl⟩
    rw [← hg12] at H12 ⊢
    clear hg12
    go_upto_region 8 with (first | (go_at_call 15; refine (rtk_u attrs _ l _ HT.out HV6.out (by have := HL3.out; omega) HBY.out).mono ?_; rintro e w7 ⟨v7, b7, r7, rfl, hm7, hb7, hk7⟩) | (refine at_store 14 rfl ?_; refine wpList_store_row rfl 34 (.tmp 14) (.tmp 49) rfl w7.heap.size (mcs M v7 b7 r7).toArray rfl rfl 34 _ (heap_alloc_new w7 _) msg_info rfl (mcs_one hm7) ?_))
    (try rw [World.setRow_alloc_new])
    have hX7 : Below w7.heap.size w7 (w7.alloc (.cells (mcs M v7 b7 r7).toArray 34)) := more (Below.refl _ _) _
    have H14 : Hid (Blk (w7.alloc (.cells (mcs M v7 b7 r7).toArray 34)) w7.heap.size 34 (mcs M v7 b7 r7).toArray) := Lib.hid (Blk.new _ _ _)
    have HQ7 := Lib.hid (hm7.keep hX7)
    have hk7 := nest hk7 hX7
    have HO7 := Lib.hid (HO6.out.keep hk7)
    have HB7 := Lib.hid (HB6.out.keep hk7)
    have HM7 := Lib.hid (HM6.out.keep hk7)
    have HK7 := Lib.hid (nest HK6.out hk7)
    have HV7 := Lib.hid (HV6.out.keep hk7)
    have HX47 := Lib.hid (HX46.out.keep hk7)
    have HX57 := Lib.hid (HX56.out.keep hk7)
    have HQ67 := Lib.hid (HQ6.out.keep hk7)
    have H127 := Lib.hid (H12.out.keep hk7)
    clear HO6 HB6 HM6 HK6 HV6 HX46 HX56 HQ6 H12 hk7 hX7 hm7 hb7
    generalize w7.alloc (.cells (mcs M v7 b7 r7).toArray 34) = z7 at *
    obtain ⟨g14, hg14⟩ : ∃ x, x = w7.heap.size := ⟨_, rfl⟩
    rw [← hg14] at H14 ⊢
    clear hg14
    have hD : Below z7.heap.size z7 z7.drew := (Below.refl _ _).drew
    refine Run.region_walk (S := fun z => Blk z g 34 (mcs m v b r).toArray ∧ Blk z g12 34 (mcs M v6 b6 r6).toArray ∧ Blk z g14 34 (mcs M v7 b7 r7).toArray ∧ Below z7.heap.size z7 z)
      lmtells.rows8 lmtells.plan8 (l := ?steps1) (by kernel_rfl) (by kernel_rfl) (by kernel_rfl) (by kernel_rfl) ?written1 ⟨HB7.out.keep hD, H127.out.keep hD, H14.out.keep hD, hD⟩ ?onward1
    case written1 =>
      simp only [lmtells.plan8, Run.stepsOf, Run.stepOf, Run.guardOf, List.getElem?_toArray, List.getElem?_cons_zero, List.getElem?_cons_succ, Option.map_some, Option.map_none, Option.bind_some, Option.toList_some, List.map_cons, List.map_nil, List.cons_append, List.nil_append]
      rfl
    repeat ((first
      | (refine Run.takes (v := ?_) ?_ ?_; rotate_left; (· intro w' hS'; (first | (refine exec_load_blk (n := 18) (x := .tmp 4) (l := mcs m v b r) ?_ Try.underlying34 msg_info ?_ ?_ hS'.1 <;> rfl) | (refine exec_load_blk (n := 18) (x := .tmp 12) (l := mcs M v6 b6 r6) ?_ Try.underlying34 msg_info ?_ ?_ hS'.2.1 <;> rfl) | (refine exec_load_blk (n := 18) (x := .tmp 14) (l := mcs M v7 b7 r7) ?_ Try.underlying34 msg_info ?_ ?_ hS'.2.2.1 <;> rfl) | (go_simp; (try with_reducible rfl)))))
      | (refine Run.takesG (v := ?_) ?_ ?_ ?_; rotate_left; (· simp only [List.getElem?_cons_zero, List.getElem?_cons_succ]); (· intro w' hS'; (first | (refine exec_load_blk (n := 18) (x := .tmp 4) (l := mcs m v b r) ?_ Try.underlying34 msg_info ?_ ?_ hS'.1 <;> rfl) | (refine exec_load_blk (n := 18) (x := .tmp 12) (l := mcs M v6 b6 r6) ?_ Try.underlying34 msg_info ?_ ?_ hS'.2.1 <;> rfl) | (refine exec_load_blk (n := 18) (x := .tmp 14) (l := mcs M v7 b7 r7) ?_ Try.underlying34 msg_info ?_ ?_ hS'.2.2.1 <;> rfl) | (go_simp; (try with_reducible rfl)))))
      | (refine Run.skipsT ?_ ?_; (· simp only [List.getElem?_cons_zero, List.getElem?_cons_succ]))
      | (refine Run.skipsF ?_ ?_; (· simp only [List.getElem?_cons_zero, List.getElem?_cons_succ]))
      | (refine Run.skipsU ?_ ?_; (· simp only [List.getElem?_cons_zero, List.getElem?_cons_succ]))
      | (refine Run.passT ?_ ?_; (· simp only [List.getElem?_cons_zero, List.getElem?_cons_succ]))
      | (refine Run.passF ?_ ?_; (· simp only [List.getElem?_cons_zero, List.getElem?_cons_succ]))
      | (refine Run.passU ?_ ?_; (· simp only [List.getElem?_cons_zero, List.getElem?_cons_succ]))
      | (refine Run.runs ?_
         (first
         | (refine Run.callF 10 (by kernel_rfl) (fun hS => mawake_any _) rfl ?_)
         | (refine Run.callG 10 (by kernel_rfl) ?_ (fun hS => mawake_any _) rfl ?_; (· simp only [List.getElem?_cons_zero, List.getElem?_cons_succ]))
         | (refine Run.callF 16 (by kernel_rfl) (fun hS => omright_any attrs m v b r _ (HM7.out.keep hS.2.2.2) HBD.out) rfl ?_)
         | (refine Run.callG 16 (by kernel_rfl) ?_ (fun hS => omright_any attrs m v b r _ (HM7.out.keep hS.2.2.2) HBD.out) rfl ?_; (· simp only [List.getElem?_cons_zero, List.getElem?_cons_succ]))
         | (refine Run.callF 17 (by kernel_rfl) (fun hS => rmright_any attrs m v b r _ (HM7.out.keep hS.2.2.2) HBD.out) rfl ?_)
         | (refine Run.callG 17 (by kernel_rfl) ?_ (fun hS => rmright_any attrs m v b r _ (HM7.out.keep hS.2.2.2) HBD.out) rfl ?_; (· simp only [List.getElem?_cons_zero, List.getElem?_cons_succ]))
         | (refine Run.callF 18 (by kernel_rfl) (fun hS => bytes_yes _ _ P _ (HX47.out.keep hS.2.2.2) (HX57.out.keep hS.2.2.2)) rfl ?_)
         | (refine Run.callG 18 (by kernel_rfl) ?_ (fun hS => bytes_yes _ _ P _ (HX47.out.keep hS.2.2.2) (HX57.out.keep hS.2.2.2)) rfl ?_; (· simp only [List.getElem?_cons_zero, List.getElem?_cons_succ]))
         | (refine Run.callF 19 (by kernel_rfl) (fun hS => message_yes M _ _ _ _ _ _ _ (HQ67.out.keep hS.2.2.2) (HQ7.out.keep hS.2.2.2)) rfl ?_)
         | (refine Run.callG 19 (by kernel_rfl) ?_ (fun hS => message_yes M _ _ _ _ _ _ _ (HQ67.out.keep hS.2.2.2) (HQ7.out.keep hS.2.2.2)) rfl ?_; (· simp only [List.getElem?_cons_zero, List.getElem?_cons_succ]))
         | (refine Run.callF 20 (by kernel_rfl) (fun hS => keptb_yes g7 _ l 71 _ (HO7.out.keep hS.2.2.2) (HV7.out.keep hS.2.2.2) (by have := HL3.out; omega)) rfl ?_)
         | (refine Run.callG 20 (by kernel_rfl) ?_ (fun hS => keptb_yes g7 _ l 71 _ (HO7.out.keep hS.2.2.2) (HV7.out.keep hS.2.2.2) (by have := HL3.out; omega)) rfl ?_; (· simp only [List.getElem?_cons_zero, List.getElem?_cons_succ]))
         | fail)
         (first
         | (rintro hS e w' ⟨rfl, rfl⟩; refine ⟨_, rfl, hS, ?_⟩)
         | (rintro hS e w' ⟨rfl, hb⟩; refine ⟨_, rfl, ⟨hS.1.keep hb, hS.2.1.keep hb, hS.2.2.1.keep hb, nest hS.2.2.2 hb⟩, ?_⟩)
         | fail))
      | fail); simp only [Act.put, List.setIfInBounds_toArray, List.set_cons_zero, List.set_cons_succ])
    refine Run.ends (fun hS => ?_)
    have HX := Lib.hid hS.2.2.2
    clear hS
    go_wp2_with fail
    go_ret
    exact ⟨rfl, nest HK7.out HX.out⟩
end Go.Proofs.Ythhelhhlofdehaa.messageTells
