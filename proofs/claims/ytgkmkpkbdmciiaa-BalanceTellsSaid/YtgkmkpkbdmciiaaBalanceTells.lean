/- Walk of the law BalanceTells. -/
import Derived.Test.YtgkmkpkbdmciiaaLdLaw
set_option maxRecDepth 4000
namespace Go.Proofs.Ytgkmkpkbdmciiaa.balanceTells
open Go.RowKit Mem
set_option linter.unusedSimpArgs false
set_option linter.unusedVariables false
attribute [local irreducible] Go.Calls

set_option maxRecDepth 100000 in
set_option maxHeartbeats 8000000 in
theorem walk (v1 : Value) (l : List Ld) (v2 : Value) (es : List Ent) (w : World) (h1 : (kSlice (kPair (kInt .u32) (kInt .i64))).rd w [v1] l) (h2 : entsK.rd w [v2] es) :
    Calls Try.prog 3 #[v1, v2] w fun e w' => e = .returned (.bool true) ∧ Below w.heap.size w w' := by
  obtain ⟨hL, hLB⟩ := loads_of_kd h1
  obtain ⟨hE, hEB⟩ := ents_of_kd h2
  have HE := Lib.hid hE
  have HEB := Lib.hid hEB
  have HLR := Lib.hid hL
  have HLB := Lib.hid hLB
  obtain ⟨a1, c1, rfl, _, _⟩ := hL.form
  obtain ⟨a2, g2, o2, c2, rfl, _⟩ := hE.at
  clear h1 h2 hE hEB hL hLB
  have HFEW := Lib.hid (bfew_any _ _ es w HE.out)
  obtain ⟨fw, hfw⟩ : ∃ b, b = fewD es := ⟨_, rfl⟩
  rw [← hfw] at HFEW
  have HFW := Lib.hid hfw
  clear hfw
  go_enter Try.func3, Try.ntmps3
  by_cases h80 : l.length > 80
  · have e80 : (l.length : Int) > 80 := by omega
    go_wp2_with (go_at_call 8; refine (bawake_any w).mono ?_; rintro e w2 ⟨rfl, hk⟩)
    go_ret
    exact ⟨rfl, hk⟩
  have e80 : ¬ (l.length : Int) > 80 := by omega
  have HL80 : Hid (l.length ≤ 80) := Lib.hid (by omega)
  clear h80
  cases fw with
  | false =>
    go_upto_region 2 with (go_at_call 7; refine HFEW.out.mono ?_; rintro e w1 ⟨rfl, hk⟩)
    have HK1 := Lib.hid hk
    clear hk
    go_wp2_with (go_at_call 8; refine (bawake_any w1).mono ?_; rintro e w2 ⟨rfl, hk⟩)
    go_ret
    exact ⟨rfl, nest HK1.out hk⟩
  | true =>
    have HF := Lib.hid (fewd_yes.1 HFW.out.symm)
    go_upto_region 3 with (go_at_call 7; refine HFEW.out.mono ?_; rintro e w1 ⟨rfl, hk⟩)
    have HK1 := Lib.hid hk
    clear hk e80 HFEW HFW
    go_upto_region 4 with (go_at_call 9; refine (ownl_any _ l (71, 0) w1 (HLR.out.keep HK1.out) (by have := HL80.out; omega)).mono ?_; rintro e w2 ⟨go, rfl, hro, hk⟩)
    have HK2 := Lib.hid (nest HK1.out hk)
    have HRO := Lib.hid hro.rd
    have HRO2 := Lib.hid (own_rdE (m := [(71, 0), (71, 0), (71, 0)]) hro.rd)
    have HE2 := Lib.hid (HE.out.keep HK2.out)
    have HL2 := Lib.hid (HLR.out.keep HK2.out)
    clear hk hro HK1
    have HLL : Hid (l.length ≤ 1000000 ∧ es.length ≤ 1000000) := Lib.hid ⟨by have := HL80.out; omega, by have := HF.out.1; omega⟩
    have HKP : Hid (∀ z, Below w2.heap.size w2 z → Calls Try.prog 16 #[.slice (some ⟨go, 0, none⟩) l.length (l.length + 3), .slice a1 l.length c1, .agg #[.int .u32 71, .int .i64 0]] z fun e w' => e = .returned (.bool true) ∧ Below z.heap.size z w') := Lib.hid (fun z hz => keptl_yes go _ l (71, 0) z (HRO.out.keep hz) (HL2.out.keep hz) HLL.out.1)
    have HA := Lib.hid (fun z (hz : Below w2.heap.size w2 z) => bheavy_any _ l z (HRO2.out.keep hz) HLB.out HLL.out.1)
    have HB := Lib.hid (fun z (hz : Below w2.heap.size w2 z) => rheavy_any _ l z (HL2.out.keep hz) HLL.out.1)
    have HC := Lib.hid (fun z (hz : Below w2.heap.size w2 z) => blight_any _ l z (HRO2.out.keep hz) HLB.out HLL.out.1)
    have HD := Lib.hid (fun z (hz : Below w2.heap.size w2 z) => rlight_any _ l z (HL2.out.keep hz) HLL.out.1)
    have HX := Lib.hid (fun z (hz : Below w2.heap.size w2 z) => bplan_any _ _ l es _ z (HRO2.out.keep hz) HLB.out HLL.out.1 (HE2.out.keep hz) HEB.out HLL.out.2)
    have HY := Lib.hid (fun z (hz : Below w2.heap.size w2 z) => rplan_any _ _ l es _ z (HL2.out.keep hz) HLL.out.1 (HE2.out.keep hz))
    clear HRO HRO2 HE2 HL2 HLR HE HLB HEB HLL HL80 HF
    generalize heavyV l = hv at *
    generalize lightV l = lv at *
    generalize planV l (valsE es) = pv at *
    obtain ⟨⟨ha1, ha2⟩, ha3⟩ := hv
    obtain ⟨⟨la1, la2⟩, la3⟩ := lv
    obtain ⟨⟨pa1, pa2⟩, pa3⟩ := pv
    dsimp only at HA HB HC HD HX HY
    go_upto_region 5 with (go_at_call 10; refine (HA.out _ (Below.refl _ _)).mono ?_; rintro e w3 ⟨rfl, hk⟩)
    have HK3 : Hid (Below w2.heap.size w2 (w3.alloc (.cells #[.int .u32 ha1, .int .i64 ha2] 29))) := Lib.hid (more hk _)
    have HP1 : Hid (Blk (w3.alloc (.cells #[.int .u32 ha1, .int .i64 ha2] 29)) w3.heap.size 29 #[.int .u32 ha1, .int .i64 ha2]) := Lib.hid (Blk.new _ _ _)
    clear hk HA
    generalize w3.alloc (.cells #[.int .u32 ha1, .int .i64 ha2] 29) = w4 at *
    obtain ⟨p1, hp⟩ : ∃ p, p = w3.heap.size := ⟨_, rfl⟩
    rw [← hp] at HP1 ⊢
    clear hp
    go_upto_region 6 with (go_at_call 11; refine (HB.out _ HK3.out).mono ?_; rintro e w5 ⟨rfl, hk⟩)
    have hk := more hk (.cells #[.int .u32 ha1, .int .i64 ha2] 29)
    have HP2 : Hid (Blk (w5.alloc (.cells #[.int .u32 ha1, .int .i64 ha2] 29)) w5.heap.size 29 #[.int .u32 ha1, .int .i64 ha2]) := Lib.hid (Blk.new _ _ _)
    replace HP1 := Lib.hid (HP1.out.keep hk)
    replace HK3 := Lib.hid (nest HK3.out hk)
    clear hk HB
    generalize w5.alloc (.cells #[.int .u32 ha1, .int .i64 ha2] 29) = w6 at *
    obtain ⟨p2, hp⟩ : ∃ p, p = w5.heap.size := ⟨_, rfl⟩
    rw [← hp] at HP2 ⊢
    clear hp
    go_upto_region 7 with (go_at_call 12; refine (HC.out _ HK3.out).mono ?_; rintro e w7 ⟨rfl, hk⟩)
    have hk := more hk (.cells #[.int .u32 la1, .int .i64 la2] 29)
    have HP3 : Hid (Blk (w7.alloc (.cells #[.int .u32 la1, .int .i64 la2] 29)) w7.heap.size 29 #[.int .u32 la1, .int .i64 la2]) := Lib.hid (Blk.new _ _ _)
    replace HP1 := Lib.hid (HP1.out.keep hk)
    replace HP2 := Lib.hid (HP2.out.keep hk)
    replace HK3 := Lib.hid (nest HK3.out hk)
    clear hk HC
    generalize w7.alloc (.cells #[.int .u32 la1, .int .i64 la2] 29) = w8 at *
    obtain ⟨p3, hp⟩ : ∃ p, p = w7.heap.size := ⟨_, rfl⟩
    rw [← hp] at HP3 ⊢
    clear hp
    go_upto_region 8 with (go_at_call 13; refine (HD.out _ HK3.out).mono ?_; rintro e w9 ⟨rfl, hk⟩)
    have hk := more hk (.cells #[.int .u32 la1, .int .i64 la2] 29)
    have HP4 : Hid (Blk (w9.alloc (.cells #[.int .u32 la1, .int .i64 la2] 29)) w9.heap.size 29 #[.int .u32 la1, .int .i64 la2]) := Lib.hid (Blk.new _ _ _)
    replace HP1 := Lib.hid (HP1.out.keep hk)
    replace HP2 := Lib.hid (HP2.out.keep hk)
    replace HP3 := Lib.hid (HP3.out.keep hk)
    replace HK3 := Lib.hid (nest HK3.out hk)
    clear hk HD
    generalize w9.alloc (.cells #[.int .u32 la1, .int .i64 la2] 29) = wa at *
    obtain ⟨p4, hp⟩ : ∃ p, p = w9.heap.size := ⟨_, rfl⟩
    rw [← hp] at HP4 ⊢
    clear hp
    go_upto_region 9 with (go_at_call 14; refine (HX.out _ HK3.out).mono ?_; rintro e wb ⟨rfl, hk⟩)
    have hk := more hk (.cells #[.int .u32 pa1, .int .u32 pa2] 33)
    have HP5 : Hid (Blk (wb.alloc (.cells #[.int .u32 pa1, .int .u32 pa2] 33)) wb.heap.size 33 #[.int .u32 pa1, .int .u32 pa2]) := Lib.hid (Blk.new _ _ _)
    replace HP1 := Lib.hid (HP1.out.keep hk)
    replace HP2 := Lib.hid (HP2.out.keep hk)
    replace HP3 := Lib.hid (HP3.out.keep hk)
    replace HP4 := Lib.hid (HP4.out.keep hk)
    replace HK3 := Lib.hid (nest HK3.out hk)
    clear hk HX
    generalize wb.alloc (.cells #[.int .u32 pa1, .int .u32 pa2] 33) = wc at *
    obtain ⟨p5, hp⟩ : ∃ p, p = wb.heap.size := ⟨_, rfl⟩
    rw [← hp] at HP5 ⊢
    clear hp
    go_upto_region 10 with (go_at_call 15; refine (HY.out _ HK3.out).mono ?_; rintro e wd ⟨rfl, hk⟩)
    have hk := more hk (.cells #[.int .u32 pa1, .int .u32 pa2] 33)
    have HP6 : Hid (Blk (wd.alloc (.cells #[.int .u32 pa1, .int .u32 pa2] 33)) wd.heap.size 33 #[.int .u32 pa1, .int .u32 pa2]) := Lib.hid (Blk.new _ _ _)
    replace HP1 := Lib.hid (HP1.out.keep hk)
    replace HP2 := Lib.hid (HP2.out.keep hk)
    replace HP3 := Lib.hid (HP3.out.keep hk)
    replace HP4 := Lib.hid (HP4.out.keep hk)
    replace HP5 := Lib.hid (HP5.out.keep hk)
    replace HK3 := Lib.hid (nest HK3.out hk)
    clear hk HY
    generalize wd.alloc (.cells #[.int .u32 pa1, .int .u32 pa2] 33) = we at *
    obtain ⟨p6, hp⟩ : ∃ p, p = wd.heap.size := ⟨_, rfl⟩
    rw [← hp] at HP6 ⊢
    clear hp
    refine Run.region_seq (S := fun z => Below we.heap.size we z)
      [1, 0, 0, 0, 0, 0, 0, 0, 0, 0, 0, 0, 0, 0, 0, 0, 0, 0, 0, 0, 0, 0, 0, 0, 0, 0, 0, 0, 0, 0, 0, 0, 0, 0, 0, 1, 0, 0] (l := ?_) ?_ (Below.refl _ _) ?_
    rotate_left
    (· simp only [Run.seqOf, List.toList_toArray, Run.stepsOf, Run.stepOf, Run.guardOf, List.getElem?_toArray, List.getElem?_cons_zero, List.getElem?_cons_succ, Option.map_some, Option.map_none, Option.bind_some, Option.toList_some, List.map_cons, List.map_nil, List.cons_append, List.nil_append, List.append_eq]
       rfl)
    repeat ((first
      | (refine Run.takes (v := ?_) ?_ ?_; rotate_left; (· intro w' hS'; (first | (refine exec_load_blk (n := 2) (x := .tmp 6) (l := [.int .u32 ha1, .int .i64 ha2]) ?_ Try.underlying29 ld_info ?_ ?_ (HP1.out.keep hS') <;> rfl) | (refine exec_load_blk (n := 2) (x := .tmp 8) (l := [.int .u32 ha1, .int .i64 ha2]) ?_ Try.underlying29 ld_info ?_ ?_ (HP2.out.keep hS') <;> rfl) | (refine exec_load_blk (n := 2) (x := .tmp 10) (l := [.int .u32 la1, .int .i64 la2]) ?_ Try.underlying29 ld_info ?_ ?_ (HP3.out.keep hS') <;> rfl) | (refine exec_load_blk (n := 2) (x := .tmp 12) (l := [.int .u32 la1, .int .i64 la2]) ?_ Try.underlying29 ld_info ?_ ?_ (HP4.out.keep hS') <;> rfl) | (refine exec_load_blk (n := 2) (x := .tmp 14) (l := [.int .u32 pa1, .int .u32 pa2]) ?_ Try.underlying33 mv_info ?_ ?_ (HP5.out.keep hS') <;> rfl) | (refine exec_load_blk (n := 2) (x := .tmp 16) (l := [.int .u32 pa1, .int .u32 pa2]) ?_ Try.underlying33 mv_info ?_ ?_ (HP6.out.keep hS') <;> rfl) | (go_simp; (try with_reducible rfl)))))
      | (refine Run.takesG (v := ?_) ?_ ?_ ?_; rotate_left; (· simp only [List.getElem?_cons_zero, List.getElem?_cons_succ]); (· intro w' hS'; (first | (refine exec_load_blk (n := 2) (x := .tmp 6) (l := [.int .u32 ha1, .int .i64 ha2]) ?_ Try.underlying29 ld_info ?_ ?_ (HP1.out.keep hS') <;> rfl) | (refine exec_load_blk (n := 2) (x := .tmp 8) (l := [.int .u32 ha1, .int .i64 ha2]) ?_ Try.underlying29 ld_info ?_ ?_ (HP2.out.keep hS') <;> rfl) | (refine exec_load_blk (n := 2) (x := .tmp 10) (l := [.int .u32 la1, .int .i64 la2]) ?_ Try.underlying29 ld_info ?_ ?_ (HP3.out.keep hS') <;> rfl) | (refine exec_load_blk (n := 2) (x := .tmp 12) (l := [.int .u32 la1, .int .i64 la2]) ?_ Try.underlying29 ld_info ?_ ?_ (HP4.out.keep hS') <;> rfl) | (refine exec_load_blk (n := 2) (x := .tmp 14) (l := [.int .u32 pa1, .int .u32 pa2]) ?_ Try.underlying33 mv_info ?_ ?_ (HP5.out.keep hS') <;> rfl) | (refine exec_load_blk (n := 2) (x := .tmp 16) (l := [.int .u32 pa1, .int .u32 pa2]) ?_ Try.underlying33 mv_info ?_ ?_ (HP6.out.keep hS') <;> rfl) | (go_simp; (try with_reducible rfl)))))
      | (refine Run.skipsT ?_ ?_; (· simp only [List.getElem?_cons_zero, List.getElem?_cons_succ]))
      | (refine Run.skipsF ?_ ?_; (· simp only [List.getElem?_cons_zero, List.getElem?_cons_succ]))
      | (refine Run.skipsU ?_ ?_; (· simp only [List.getElem?_cons_zero, List.getElem?_cons_succ]))
      | (refine Run.passT ?_ ?_; (· simp only [List.getElem?_cons_zero, List.getElem?_cons_succ]))
      | (refine Run.passF ?_ ?_; (· simp only [List.getElem?_cons_zero, List.getElem?_cons_succ]))
      | (refine Run.passU ?_ ?_; (· simp only [List.getElem?_cons_zero, List.getElem?_cons_succ]))
      | (refine Run.runs ?_
         (first
         | (refine Run.callF 8 (by kernel_rfl) (fun hS => bawake_any _) rfl ?_)
         | (refine Run.callG 8 (by kernel_rfl) ?_ (fun hS => bawake_any _) rfl ?_; (· simp only [List.getElem?_cons_zero, List.getElem?_cons_succ]))
         | (refine Run.callF 16 (by kernel_rfl) (fun hS => HKP.out _ (nest HK3.out hS)) rfl ?_)
         | (refine Run.callG 16 (by kernel_rfl) ?_ (fun hS => HKP.out _ (nest HK3.out hS)) rfl ?_; (· simp only [List.getElem?_cons_zero, List.getElem?_cons_succ]))
         | fail)
         (first
         | (rintro hS e w' ⟨rfl, rfl⟩; refine ⟨_, rfl, hS, ?_⟩)
         | (rintro hS e w' ⟨rfl, hb⟩; refine ⟨_, rfl, nest hS hb, ?_⟩)
         | fail))
      | fail); simp only [Act.put, List.setIfInBounds_toArray, List.set_cons_zero, List.set_cons_succ])
    refine Run.ends (fun hS => ?_)
    have HK5 := Lib.hid (nest HK2.out (nest HK3.out hS))
    clear hS
    go_wp2_with fail
    go_ret
    exact ⟨rfl, HK5.out⟩
end Go.Proofs.Ytgkmkpkbdmciiaa.balanceTells
