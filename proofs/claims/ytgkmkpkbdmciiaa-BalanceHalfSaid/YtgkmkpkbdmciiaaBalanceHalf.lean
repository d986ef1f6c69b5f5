/- Walk of the law BalanceHalf. -/
import Derived.Test.YtgkmkpkbdmciiaaLdLaw
import Derived.Test.YtgkmkpkbdmciiaaLdMid
import Derived.Test.YtgkmkpkbdmciiaaLdIn
import Derived.Test.YtgkmkpkbdmciiaaBuild3
set_option maxRecDepth 4000
namespace Go.Proofs.Ytgkmkpkbdmciiaa.balanceHalf
open Go.RowKit Mem
set_option linter.unusedSimpArgs false
set_option linter.unusedVariables false
attribute [local irreducible] Go.Calls

set_option maxRecDepth 100000 in
set_option maxHeartbeats 8000000 in
theorem walk (v : Value) (l : List Ld) (n : Int) (bn : -9223372036854775808 ≤ n ∧ n ≤ 9223372036854775807) (many : Int) (bm : -9223372036854775808 ≤ many ∧ many ≤ 9223372036854775807) (w : World) (h : (kSlice (kPair (kInt .u32) (kInt .i64))).rd w [v] l) :
    Calls Try.prog 4 #[v, .int .i64 n, .int .i64 many] w fun e w' => e = .returned (.bool true) ∧ Below w.heap.size w w' := by
  obtain ⟨hL, hLB⟩ := loads_of_kd h
  have HLR := Lib.hid hL
  have HLB := Lib.hid hLB
  obtain ⟨a, c, rfl, _, _⟩ := hL.form
  obtain ⟨N, hN, hNq⟩ : ∃ N : Int, (0 ≤ N ∧ N ≤ 2147483647) ∧ wrap64 ((IntKind.u64.wrap n).tmod 2147483648) = N := by
    have q0 : 0 ≤ IntKind.u64.wrap n := by rw [IntKind.wrap_u64]; omega
    have q1 : 0 ≤ (IntKind.u64.wrap n).tmod 2147483648 := Int.tmod_nonneg _ q0
    have q2 := Int.tmod_lt_of_pos (IntKind.u64.wrap n) (show (0 : Int) < 2147483648 by omega)
    exact ⟨_, by unfold wrap64; omega, rfl⟩
  obtain ⟨M, hM, hMq⟩ : ∃ r : Nat, r ≤ 49 ∧ wrap64 ((IntKind.u64.wrap many).tmod 50) = r := by
    have q0 : 0 ≤ IntKind.u64.wrap many := by rw [IntKind.wrap_u64]; omega
    have q1 : 0 ≤ (IntKind.u64.wrap many).tmod 50 := Int.tmod_nonneg _ q0
    have q2 := Int.tmod_lt_of_pos (IntKind.u64.wrap many) (show (0 : Int) < 50 by omega)
    exact ⟨((IntKind.u64.wrap many).tmod 50).toNat, by omega, by unfold wrap64; omega⟩
  have HN := Lib.hid hN
  have HM := Lib.hid hM
  have HNQ := Lib.hid hNq
  have HMQ := Lib.hid hMq
  clear h hL hLB bn bm hN hM hNq hMq
  go_enter Try.func4, Try.ntmps4
  by_cases h80 : l.length > 80
  · have e80 : (l.length : Int) > 80 := by omega
    go_wp2_with (go_at_call 8; refine (bawake_any w).mono ?_; rintro e w2 ⟨rfl, hk⟩)
    go_ret
    exact ⟨rfl, hk⟩
  have e80 : ¬ (l.length : Int) > 80 := by omega
  have HLL : Hid (l.length ≤ 1000000) := Lib.hid (by omega)
  clear h80
  have HA := Lib.hid (bheavy_any _ l w HLR.out HLB.out HLL.out)
  have HB := Lib.hid (fun z (hz : Below w.heap.size w z) => blight_any _ l z (HLR.out.keep hz) HLB.out HLL.out)
  have HC := Lib.hid (fun z (hz : Below w.heap.size w z) => rmean_any _ l z (HLR.out.keep hz) HLL.out)
  have HHI := Lib.hid (fun h => heavy_is (l := l) h)
  have HLI := Lib.hid (fun h => light_is (l := l) h)
  have HBD := Lib.hid (And.intro (heavy_bd l) (And.intro (light_bd l) (meanV_bd l)))
  generalize heavyV l = hv at *
  generalize lightV l = lv at *
  generalize meanV l = mn at *
  obtain ⟨⟨ha1, ha2⟩, ha3⟩ := hv
  obtain ⟨⟨la1, la2⟩, la3⟩ := lv
  dsimp only at HA HB HHI HLI HBD
  have HIN1 : Hid (ha3 = true → ∀ z, Below w.heap.size w z → Calls Try.prog 18 #[.slice a l.length c, .agg #[.int .u32 ha1, .int .i64 ha2]] z fun e w' => e = .returned (.bool true) ∧ Below z.heap.size z w') := Lib.hid (fun h z hz => inl_yes _ l (ha1, ha2) z (HLR.out.keep hz) (HHI.out h).2.1)
  have HIN2 : Hid (la3 = true → ∀ z, Below w.heap.size w z → Calls Try.prog 18 #[.slice a l.length c, .agg #[.int .u32 la1, .int .i64 la2]] z fun e w' => e = .returned (.bool true) ∧ Below z.heap.size z w') := Lib.hid (fun h z hz => inl_yes _ l (la1, la2) z (HLR.out.keep hz) (HLI.out h).2.1)
  have HD1 : Hid (ha3 = true → decide (256 * ha2 ≤ 2 * mn) = false) := Lib.hid (fun h => decide_eq_false (by have := (HHI.out h).1; omega))
  have HD2 : Hid (la3 = true → decide (512 * la2 ≥ mn) = false) := Lib.hid (fun h => decide_eq_false (by have := (HLI.out h).1; omega))
  have HW : Hid (IntKind.u64.wrap ha2 = ha2 ∧ IntKind.u64.wrap la2 = la2 ∧ IntKind.u64.wrap (256 * ha2) = 256 * ha2 ∧ IntKind.u64.wrap (512 * la2) = 512 * la2 ∧ IntKind.u64.wrap (2 * mn) = 2 * mn) := Lib.hid (by have := HBD.out; simp only [IntKind.wrap_u64]; omega)
  clear HHI HLI HBD HLR HLB HLL
  go_upto_region 4 with (go_at_call 10; refine HA.out.mono ?_; rintro e w1 ⟨rfl, hk⟩)
  have HK2 : Hid (Below w.heap.size w (w1.alloc (.cells #[.int .u32 ha1, .int .i64 ha2] 29))) := Lib.hid (more hk _)
  have HP1 : Hid (Blk (w1.alloc (.cells #[.int .u32 ha1, .int .i64 ha2] 29)) w1.heap.size 29 #[.int .u32 ha1, .int .i64 ha2]) := Lib.hid (Blk.new _ _ _)
  clear hk HA e80
  generalize w1.alloc (.cells #[.int .u32 ha1, .int .i64 ha2] 29) = w2 at *
  obtain ⟨p1, hp⟩ : ∃ p, p = w1.heap.size := ⟨_, rfl⟩
  rw [← hp] at HP1 ⊢
  clear hp
  go_upto_region 5 with (go_at_call 12; refine (HB.out _ HK2.out).mono ?_; rintro e w3 ⟨rfl, hk⟩)
  have hk := more hk (.cells #[.int .u32 la1, .int .i64 la2] 29)
  have HP2 : Hid (Blk (w3.alloc (.cells #[.int .u32 la1, .int .i64 la2] 29)) w3.heap.size 29 #[.int .u32 la1, .int .i64 la2]) := Lib.hid (Blk.new _ _ _)
  replace HP1 := Lib.hid (HP1.out.keep hk)
  have HK4 := Lib.hid (nest HK2.out hk)
  clear hk HB HK2
  generalize w3.alloc (.cells #[.int .u32 la1, .int .i64 la2] 29) = w4 at *
  obtain ⟨p2, hp⟩ : ∃ p, p = w3.heap.size := ⟨_, rfl⟩
  rw [← hp] at HP2 ⊢
  clear hp
  go_upto_region 6 with (go_at_call 17; refine (HC.out _ HK4.out).mono ?_; rintro e w6 ⟨rfl, hk⟩)
  have HK6 := Lib.hid (nest HK4.out hk)
  replace HP1 := Lib.hid (HP1.out.keep hk)
  replace HP2 := Lib.hid (HP2.out.keep hk)
  clear hk HC HK4
  have c1 : w6.cell? ⟨p1, 1, none⟩ = some (.int .i64 ha2) := HP1.out.cell 1
  have c2 : w6.cell? ⟨p2, 1, none⟩ = some (.int .i64 la2) := HP2.out.cell 1
  obtain ⟨hw1, hw2, hw3, hw4, hw5⟩ := HW.out
  clear HW
  cases ha3 <;> cases la3
  all_goals
    (try have hd1 := HD1.out rfl)
    (try have hd2 := HD2.out rfl)
    (try have HI1 := Lib.hid (HIN1.out rfl))
    (try have HI2 := Lib.hid (HIN2.out rfl))
    refine Run.region_seq (S := fun z => z.cell? ⟨p1, 1, none⟩ = some (.int .i64 ha2) ∧ z.cell? ⟨p2, 1, none⟩ = some (.int .i64 la2) ∧ Below w6.heap.size w6 z)
      [1, 0, 0, 0, 0, 0, 0, 0, 0, 0, 0, 0, 0, 0, 0, 1, 0, 0, 0, 0, 0, 0, 0, 0, 0, 0, 0, 0, 0, 0, 0, 0, 1, 0, 0, 0, 0] (l := ?_) ?_ ⟨c1, c2, Below.refl _ _⟩ ?_
    rotate_left
    (· simp only [Run.seqOf, List.toList_toArray, Run.stepsOf, Run.stepOf, Run.guardOf, List.getElem?_toArray, List.getElem?_cons_zero, List.getElem?_cons_succ, Option.map_some, Option.map_none, Option.bind_some, Option.toList_some, List.map_cons, List.map_nil, List.cons_append, List.nil_append, List.append_eq]
       rfl)
    repeat ((first
      | (refine Run.takes (v := ?_) ?_ ?_; rotate_left; (· intro w' hS'; (first | (have h1 := hS'.1; have h2 := hS'.2.1; go_simp; done) | (refine exec_load_blk (n := 2) (x := .tmp 7) (l := [.int .u32 ha1, .int .i64 ha2]) ?_ Try.underlying29 ld_info ?_ ?_ (HP1.out.keep hS'.2.2) <;> rfl) | (refine exec_load_blk (n := 2) (x := .tmp 9) (l := [.int .u32 la1, .int .i64 la2]) ?_ Try.underlying29 ld_info ?_ ?_ (HP2.out.keep hS'.2.2) <;> rfl) | (go_simp; (try with_reducible rfl)))))
      | (refine Run.takesG (v := ?_) ?_ ?_ ?_; rotate_left; (· simp only [List.getElem?_cons_zero, List.getElem?_cons_succ]); (· intro w' hS'; (first | (have h1 := hS'.1; have h2 := hS'.2.1; go_simp; done) | (refine exec_load_blk (n := 2) (x := .tmp 7) (l := [.int .u32 ha1, .int .i64 ha2]) ?_ Try.underlying29 ld_info ?_ ?_ (HP1.out.keep hS'.2.2) <;> rfl) | (refine exec_load_blk (n := 2) (x := .tmp 9) (l := [.int .u32 la1, .int .i64 la2]) ?_ Try.underlying29 ld_info ?_ ?_ (HP2.out.keep hS'.2.2) <;> rfl) | (go_simp; (try with_reducible rfl)))))
      | (refine Run.skipsT ?_ ?_; (· simp only [List.getElem?_cons_zero, List.getElem?_cons_succ]))
      | (refine Run.skipsF ?_ ?_; (· simp only [List.getElem?_cons_zero, List.getElem?_cons_succ]))
      | (refine Run.skipsU ?_ ?_; (· simp only [List.getElem?_cons_zero, List.getElem?_cons_succ]))
      | (refine Run.passT ?_ ?_; (· simp only [List.getElem?_cons_zero, List.getElem?_cons_succ]))
      | (refine Run.passF ?_ ?_; (· simp only [List.getElem?_cons_zero, List.getElem?_cons_succ]))
      | (refine Run.passU ?_ ?_; (· simp only [List.getElem?_cons_zero, List.getElem?_cons_succ]))
      | (refine Run.runs ?_
         (first
         | (refine Run.callF 8 (by kernel_rfl) (fun hS => bawake_any _) rfl ?_)
         | (refine Run.callG 8 (by kernel_rfl) ?_ (fun hS => bawake_any _) rfl ?_; (· simp only [List.getElem?_cons_zero, List.getElem?_cons_succ]))
         | (refine Run.callF 18 (by kernel_rfl) (fun hS => HI1.out _ (nest HK6.out hS.2.2)) rfl ?_)
         | (refine Run.callG 18 (by kernel_rfl) ?_ (fun hS => HI1.out _ (nest HK6.out hS.2.2)) rfl ?_; (· simp only [List.getElem?_cons_zero, List.getElem?_cons_succ]))
         | (refine Run.callF 18 (by kernel_rfl) (fun hS => HI2.out _ (nest HK6.out hS.2.2)) rfl ?_)
         | (refine Run.callG 18 (by kernel_rfl) ?_ (fun hS => HI2.out _ (nest HK6.out hS.2.2)) rfl ?_; (· simp only [List.getElem?_cons_zero, List.getElem?_cons_succ]))
         | fail)
         (first
         | (rintro hS e w' ⟨rfl, rfl⟩; refine ⟨_, rfl, hS, ?_⟩)
         | (rintro hS e w' ⟨rfl, hb⟩; refine ⟨_, rfl, ⟨kc hb hS.1, kc hb hS.2.1, nest hS.2.2 hb⟩, ?_⟩)
         | fail))
      | fail); simp only [Act.put, List.setIfInBounds_toArray, List.set_cons_zero, List.set_cons_succ])
    refine Run.ends (fun hS => ?_)
    have HK7 := Lib.hid (nest HK6.out hS.2.2)
    clear hS c1 c2 hw1 hw2 hw3 hw4 hw5 HD1 HD2 HIN1 HIN2
    (try clear hd1)
    (try clear hd2)
    (try clear HI1)
    (try clear HI2)
    clear HP1 HP2 HK6 hk
    as_aux_lemma =>
      have hNq := HNQ.out
      have hMq := HMQ.out
      go_upto_region 9 with fail
      rw [hNq, hMq]
      clear hNq hMq HNQ HMQ
      go_wp2_with fail
      go_loopw [12, 13] (fun sv iv wr => ∃ i : Nat, i ≤ M ∧ iv = .int .i64 i ∧ Row ldE 29 w'.heap.size wr sv (alikeL N i) ∧ Below w'.heap.size w' wr) (fun _ iv _ => M - (intOf iv).toNat)
      case atStart => exact ⟨0, Nat.zero_le _, rfl, Row.nil, Below.refl _ _⟩
      case round =>
        obtain ⟨i, hi, rfl, hrow, hkl⟩ := hrel
        have HKL := Lib.hid hkl
        obtain ⟨aL, cL, rfl, _, _⟩ := hrow.rd.form
        have HRL := Lib.hid hrow
        obtain ⟨wp, hwp⟩ : ∃ z, z = wr := ⟨_, rfl⟩
        rw [← hwp] at HRL HKL ⊢
        clear hrow hkl hwp
        have HLN : Hid ((alikeL N i).length ≤ 49) := Lib.hid (by rw [alike_len]; have := HM.out; omega)
        have HMS := Lib.hid (alike_step N i)
        by_cases hlt : i < M
        · have e3 : (i : Int) < (M : Int) := by omega
          have e4 : (i : Int) < 50 := by have := HM.out; omega
          have h32 : (i : Int) % 4294967296 = (i : Int) := by omega
          obtain ⟨A, hAA⟩ : ∃ A, A = alikeL N i := ⟨_, rfl⟩
          rw [← hAA] at HRL HLN HMS ⊢
          clear hAA
          have HX := Lib.hid (Row.lit (E := ldE) wp.heap.size wp #[.int .u32 i, .int .i64 N] [((i : Int), N)] 1 wp.heap.size rfl rfl rfl (Nat.le_refl _) (by simp [maxLen]) : Row ldE 29 wp.heap.size (wp.alloc (.cells #[.int .u32 i, .int .i64 N] 29)) (.slice (some ⟨wp.heap.size, 0, none⟩) 1 1) [((i : Int), N)])
          have HX4 : Hid (Below wp.heap.size wp (wp.alloc (.cells #[.int .u32 i, .int .i64 N] 29))) := Lib.hid (more (Below.refl _ _) _)
          have HROWX := Lib.hid (HRL.out.keep HX4.out)
          have HKX := Lib.hid (nest HKL.out HX4.out)
          go_upto_if 99 with (at_builtin; go_must (refine wpList_append (E := ldE) (B := w'.heap.size) (l := A) (m := [((i : Int), N)]) (bytes := 16) ldElem Nat.zero_lt_two rfl (.tmp 86) (.tmp 91) rfl rfl HROWX.out rfl HX.out.rd (by have := HLN.out; simp [maxLen]; omega) (by have := HLN.out; simp; omega) HKX.out.size ?_); intro v9 y9 hr9 hk9 hg9 _)
          have hrf := hr9
          rw [← HMS.out] at hrf
          exact ⟨⟨i + 1, by omega, by go_num, hrf, HKX.out.trans hk9⟩, by simp [intOf]; omega⟩
        · have him : i = M := by omega
          subst him
          have e3 : ¬ (i : Int) < (i : Int) := by omega
          have HOK : Hid (∀ x ∈ alikeL N i, okLd x) := Lib.hid (by
            intro x hx
            have h1 := alike_mem hx
            have hm := HM.out
            have hn := HN.out
            unfold okLd
            omega)
          have HL4 : Hid ((alikeL N i).length ≤ 1000000) := Lib.hid (by have := HLN.out; omega)
          have HAN := Lib.hid (alike_none N HN.out i [1, 2, 3])
          have HKF := Lib.hid (nest HK7.out HKL.out)
          obtain ⟨A, hAA⟩ : ∃ A, A = alikeL N i := ⟨_, rfl⟩
          rw [← hAA] at HRL HOK HL4 HAN ⊢
          clear hAA HLN HMS HKL HK7 hlt hi
          have HHV := Lib.hid (fun z (hz : Below wp.heap.size wp z) => bheavy_any _ A z (HRL.out.rd.keep hz) HOK.out HL4.out)
          have HLV := Lib.hid (fun z (hz : Below wp.heap.size wp z) => blight_any _ A z (HRL.out.rd.keep hz) HOK.out HL4.out)
          rw [HAN.out.1] at HHV
          rw [HAN.out.2.1] at HLV
          dsimp only at HHV HLV
          go_upto_region 15 with (go_at_call 10; refine (HHV.out _ (Below.refl _ _)).mono ?_; rintro e w8 ⟨rfl, hk⟩)
          have HK9 : Hid (Below wp.heap.size wp (w8.alloc (.cells #[.int .u32 0, .int .i64 0] 29))) := Lib.hid (more hk _)
          clear hk e3
          generalize w8.alloc (.cells #[.int .u32 0, .int .i64 0] 29) = w9 at *
          go_upto_region 16 with (go_at_call 12; refine (HLV.out _ HK9.out).mono ?_; rintro e wa ⟨rfl, hk⟩)
          replace HK9 := Lib.hid (nest HK9.out (more hk (.cells #[.int .u32 0, .int .i64 0] 29)))
          clear hk
          generalize wa.alloc (.cells #[.int .u32 0, .int .i64 0] 29) = wb at *
          obtain ⟨CS, hCS⟩ : ∃ cs : Array Value, cs = #[.int .u32 1, .int .u64 0, .int .u64 0, .slice none 0 0, .bool false, .int .u32 2, .int .u64 0, .int .u64 0, .slice none 0 0, .bool false, .int .u32 3, .int .u64 0, .int .u64 0, .slice none 0 0, .bool false] := ⟨_, rfl⟩
          have HE8 : Hid (EntsIn (fun j => j = wb.heap.size) (wb.alloc (.cells CS 47)) (.slice (some ⟨wb.heap.size, 0, none⟩) 3 3) ([1, 2, 3].map plainE)) := Lib.hid (ents_plain [1, 2, 3] _ _ (by rw [hCS]; exact Blk.new wb _ _) 3 rfl (by decide))
          have hk8 : Below wb.heap.size wb (wb.alloc (.cells CS 47)) := more_one _ _
          have HPL := Lib.hid (bplan_any _ _ A ([1, 2, 3].map plainE) _ _ (HRL.out.rd.keep (nest HK9.out hk8)) HOK.out HL4.out HE8.out (by intro y hy; simp at hy; rcases hy with rfl | rfl | rfl <;> simp [entB, plainE]) (by decide))
          rw [show valsE ([1, 2, 3].map plainE) = [1, 2, 3] from rfl, HAN.out.2.2] at HPL
          dsimp only at HPL
          have HK8 := Lib.hid (nest HKF.out (nest HK9.out hk8))
          have HCS := Lib.hid hCS
          clear hk8 hCS
          go_upto_region 17 with (first | (refine at_build3 105 rfl ?_; refine wpList_build_three entElem (by decide) (by decide) rfl (.tmp 105) (.tmp 106) (.tmp 107) rfl [.int .u32 1, .int .u64 0, .int .u64 0, .slice none 0 0, .bool false] [.int .u32 2, .int .u64 0, .int .u64 0, .slice none 0 0, .bool false] [.int .u32 3, .int .u64 0, .int .u64 0, .slice none 0 0, .bool false] CS HCS.out rfl rfl rfl rfl rfl rfl ?_) | (go_at_call 14; refine HPL.out.mono ?_; rintro e wd ⟨rfl, hk⟩))
          have HKZ := Lib.hid (nest HK8.out (more hk (.cells #[.int .u32 0, .int .u32 0] 33)))
          clear hk
          generalize wd.alloc (.cells #[.int .u32 0, .int .u32 0] 33) = we at *
          go_wp2_with fail
          go_ret
          exact ⟨rfl, HKZ.out⟩
end Go.Proofs.Ytgkmkpkbdmciiaa.balanceHalf
