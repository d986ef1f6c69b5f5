/- Walk of the law BalanceRefuses. -/
import Derived.Test.YtgkmkpkbdmciiaaLdLaw
set_option maxRecDepth 4000
namespace Go.Proofs.Ytgkmkpkbdmciiaa.balanceRefuses
open Go.RowKit Mem
set_option linter.unusedSimpArgs false
set_option linter.unusedVariables false
attribute [local irreducible] Go.Calls

theorem may_bad (l : List Ld) (p e : Int) (h : e < 0 ∨ e > 2147483647) : mayB (l ++ [(p, e)]) = false := by
  unfold mayB
  have h2 : (decide (0 ≤ e) && decide (e ≤ 2147483647)) = false := by
    rcases h with h | h
    · rw [decide_eq_false (by omega : ¬ 0 ≤ e), Bool.false_and]
    · rw [decide_eq_false (by omega : ¬ e ≤ 2147483647), Bool.and_false]
  rw [List.all_append, List.all_cons]
  dsimp only
  rw [h2, Bool.false_and, Bool.and_false, Bool.false_and]
theorem may_twice (l : List Ld) (p e : Int) : mayB (l ++ [(p, e), (p, e)]) = false := by
  unfold mayB
  have : ¬ ((l ++ [(p, e), (p, e)]).map (·.1)).Nodup := by
    rw [List.map_append, List.nodup_append]
    intro h
    have := h.2.1
    simp at this
  rw [decide_eq_false this, Bool.and_false]
theorem heavy_bad {l : List Ld} (h : mayB l = false) : heavyV l = ((0, 0), false) := by
  unfold heavyV
  rw [mostV_no (.inl h), if_pos (.inl rfl)]
theorem light_bad {l : List Ld} (h : mayB l = false) : lightV l = ((0, 0), false) := by
  unfold lightV
  rw [mostV_no (.inl h), if_pos (.inl rfl)]
theorem plan_bad {l : List Ld} {vs : List Int} (h : mayB l = false) : planV l vs = ((0, 0), 1) := by
  unfold planV
  rw [if_pos h]
set_option maxRecDepth 100000 in
set_option maxHeartbeats 8000000 in
theorem walk (v1 : Value) (l : List Ld) (what : Int) (bw : -9223372036854775808 ≤ what ∧ what ≤ 9223372036854775807) (p : Int) (bp : 0 ≤ p ∧ p ≤ 4294967295) (w : World) (h1 : (kSlice (kPair (kInt .u32) (kInt .i64))).rd w [v1] l) :
    Calls Try.prog 6 #[v1, .int .i64 what, .int .u32 p] w fun e w' => e = .returned (.bool true) ∧ Below w.heap.size w w' := by
  obtain ⟨hL, hLB⟩ := loads_of_kd h1
  have HLR := Lib.hid hL
  have HLB := Lib.hid hLB
  have HBP := Lib.hid bp
  obtain ⟨a1, c1, rfl, _, _⟩ := hL.form
  have hw3 : (IntKind.u64.wrap what).tmod 3 = 0 ∨ (IntKind.u64.wrap what).tmod 3 = 1 ∨ (IntKind.u64.wrap what).tmod 3 = 2 := by
    have q0 : 0 ≤ IntKind.u64.wrap what := by rw [IntKind.wrap_u64]; omega
    have q1 : 0 ≤ (IntKind.u64.wrap what).tmod 3 := Int.tmod_nonneg _ q0
    have q2 := Int.tmod_lt_of_pos (IntKind.u64.wrap what) (show (0 : Int) < 3 by omega)
    omega
  clear h1 hL hLB bp bw
  go_enter Try.func6, Try.ntmps6
  by_cases h40 : l.length > 40
  · have e40 : (l.length : Int) > 40 := by omega
    clear hw3
    go_wp2_with (go_at_call 8; refine (bawake_any w).mono ?_; rintro e w2 ⟨rfl, hk⟩)
    go_ret
    exact ⟨rfl, hk⟩
  have e40 : ¬ (l.length : Int) > 40 := by omega
  have HL40 : Hid (l.length ≤ 40) := Lib.hid (by omega)
  clear h40
  go_upto_region 4 with (at_builtin; go_must (refine wpList_append (E := ldE) (B := w.heap.size) (v := .slice none 0 0) (l := []) (m := l) (bytes := 16) ldElem Nat.zero_lt_two rfl (.const (.slice none 0 0)) (.tmp 18) rfl rfl Row.nil rfl HLR.out (by have := HL40.out; simp [maxLen]; omega) (by have := HL40.out; simp; omega) (Nat.le_refl _) ?_); intro v3 w3 hr3 hk3 hg3 _)
  rw [List.nil_append] at hr3
  have HR3 := Lib.hid hr3
  have HK3 : Hid (Below w.heap.size w w3) := Lib.hid hk3
  obtain ⟨a3, c3, rfl, _, _⟩ := hr3.rd.form
  clear hr3 hk3 hg3 HLR e40
  have hlit1 (x : Ld) : Hid (Below w.heap.size w (w3.alloc (.cells #[.int .u32 x.1, .int .i64 x.2] 29)) ∧ Rd ldE (w3.alloc (.cells #[.int .u32 x.1, .int .i64 x.2] 29)) (.slice (some ⟨w3.heap.size, 0, none⟩) 1 1) [x] ∧ Row ldE 29 w.heap.size (w3.alloc (.cells #[.int .u32 x.1, .int .i64 x.2] 29)) (.slice a3 l.length c3) l) :=
    Lib.hid ⟨nest HK3.out (more_one _ _), Row.rd (T := 29) (B := w3.heap.size) (Row.lit (E := ldE) (T := 29) w3.heap.size w3 #[.int .u32 x.1, .int .i64 x.2] [x] 1 w3.heap.size rfl rfl rfl (Nat.le_refl _) (by simp [maxLen])), HR3.out.keep (more_one _ _)⟩
  have hlit2 : Hid (Below w.heap.size w (w3.alloc (.cells #[.int .u32 p, .int .i64 0, .int .u32 p, .int .i64 0] 29)) ∧ Rd ldE (w3.alloc (.cells #[.int .u32 p, .int .i64 0, .int .u32 p, .int .i64 0] 29)) (.slice (some ⟨w3.heap.size, 0, none⟩) 2 2) [(p, 0), (p, 0)] ∧ Row ldE 29 w.heap.size (w3.alloc (.cells #[.int .u32 p, .int .i64 0, .int .u32 p, .int .i64 0] 29)) (.slice a3 l.length c3) l) :=
    Lib.hid ⟨nest HK3.out (more_one _ _), Row.rd (T := 29) (B := w3.heap.size) (Row.lit (E := ldE) (T := 29) w3.heap.size w3 #[.int .u32 p, .int .i64 0, .int .u32 p, .int .i64 0] [(p, 0), (p, 0)] 2 w3.heap.size rfl rfl rfl (Nat.le_refl _) (by simp [maxLen])), HR3.out.keep (more_one _ _)⟩
  have HA1 := hlit1 (p, -1)
  have HA2 := hlit1 (p, 2147483648)
  have HA3 := hlit2
  have HMB : Hid (mayB (l ++ [(p, -1)]) = false ∧ mayB (l ++ [(p, 2147483648)]) = false ∧ mayB (l ++ [(p, 0), (p, 0)]) = false) := Lib.hid ⟨may_bad l p _ (by omega), may_bad l p _ (by omega), may_twice l p 0⟩
  have HOK : Hid ((∀ x ∈ l ++ [(p, -1)], okLd x) ∧ (∀ x ∈ l ++ [(p, 2147483648)], okLd x) ∧ (∀ x ∈ l ++ [(p, 0), (p, 0)], okLd x)) := Lib.hid (by
    have hp := HBP.out
    refine ⟨fun x hx => ?_, fun x hx => ?_, fun x hx => ?_⟩ <;> (rw [List.mem_append] at hx; rcases hx with hx | hx; exact HLB.out x hx; simp at hx; first | (subst hx; exact ⟨hp, by simp⟩) | (rcases hx with rfl | rfl <;> exact ⟨hp, by simp⟩)))
  clear hlit1 hlit2 HR3 HLB
  dsimp only at HA1 HA2
  rcases hw3 with h0 | h0 | h0
  case' inl =>
    go_upto_region 10 with (at_builtin; go_must (refine wpList_append (E := ldE) (B := w.heap.size) (l := l) (m := [(p, -1)]) (bytes := 16) ldElem Nat.zero_lt_two rfl (.tmp 32) (.tmp 35) rfl rfl HA1.out.2.2 rfl HA1.out.2.1 (by have := HL40.out; simp [maxLen]; omega) (by have := HL40.out; simp; omega) HA1.out.1.size ?_); intro v4 w4 hr4 hk4 hg4 _)
    have HK4 : Hid (Below w.heap.size w w4) := Lib.hid (HA1.out.1.trans hk4)
    have HR4 := Lib.hid hr4.rd
    have HM4 := Lib.hid HMB.out.1
    have HO4 := Lib.hid HOK.out.1
    have HL4 : Hid ((l ++ [(p, -1)]).length ≤ 1000000) := Lib.hid (by have := HL40.out; simp; omega)
    obtain ⟨a4, c4, rfl, _, _⟩ := hr4.rd.form
    generalize (l ++ [(p, -1)]) = L at *
  case' inr.inl =>
    go_upto_region 10 with (at_builtin; go_must (refine wpList_append (E := ldE) (B := w.heap.size) (l := l) (m := [(p, 2147483648)]) (bytes := 16) ldElem Nat.zero_lt_two rfl (.tmp 39) (.tmp 42) rfl rfl HA2.out.2.2 rfl HA2.out.2.1 (by have := HL40.out; simp [maxLen]; omega) (by have := HL40.out; simp; omega) HA2.out.1.size ?_); intro v4 w4 hr4 hk4 hg4 _)
    have HK4 : Hid (Below w.heap.size w w4) := Lib.hid (HA2.out.1.trans hk4)
    have HR4 := Lib.hid hr4.rd
    have HM4 := Lib.hid HMB.out.2.1
    have HO4 := Lib.hid HOK.out.2.1
    have HL4 : Hid ((l ++ [(p, 2147483648)]).length ≤ 1000000) := Lib.hid (by have := HL40.out; simp; omega)
    obtain ⟨a4, c4, rfl, _, _⟩ := hr4.rd.form
    generalize (l ++ [(p, 2147483648)]) = L at *
  case' inr.inr =>
    go_upto_region 10 with (at_builtin; go_must (refine wpList_append (E := ldE) (B := w.heap.size) (l := l) (m := [(p, 0), (p, 0)]) (bytes := 16) ldElem Nat.zero_lt_two rfl (.tmp 23) (.tmp 28) rfl rfl HA3.out.2.2 rfl HA3.out.2.1 (by have := HL40.out; simp [maxLen]; omega) (by have := HL40.out; simp; omega) HA3.out.1.size ?_); intro v4 w4 hr4 hk4 hg4 _)
    have HK4 : Hid (Below w.heap.size w w4) := Lib.hid (HA3.out.1.trans hk4)
    have HR4 := Lib.hid hr4.rd
    have HM4 := Lib.hid HMB.out.2.2
    have HO4 := Lib.hid HOK.out.2.2
    have HL4 : Hid ((l ++ [(p, 0), (p, 0)]).length ≤ 1000000) := Lib.hid (by have := HL40.out; simp; omega)
    obtain ⟨a4, c4, rfl, _, _⟩ := hr4.rd.form
    generalize (l ++ [(p, 0), (p, 0)]) = L at *
  all_goals
    clear h0 HMB HOK HA1 HA2 HA3 hr4 hk4 hg4 HL40 HBP
    have HHV := Lib.hid (fun z (hz : Below w4.heap.size w4 z) => bheavy_any _ L z (HR4.out.keep hz) HO4.out HL4.out)
    have HLV := Lib.hid (fun z (hz : Below w4.heap.size w4 z) => blight_any _ L z (HR4.out.keep hz) HO4.out HL4.out)
    rw [heavy_bad HM4.out] at HHV
    rw [light_bad HM4.out] at HLV
    dsimp only at HHV HLV
    go_upto_region 11 with (go_at_call 10; refine (HHV.out _ (Below.refl _ _)).mono ?_; rintro e w5 ⟨rfl, hk⟩)
    have HK5 : Hid (Below w4.heap.size w4 (w5.alloc (.cells #[.int .u32 0, .int .i64 0] 29))) := Lib.hid (more hk _)
    clear hk
    generalize w5.alloc (.cells #[.int .u32 0, .int .i64 0] 29) = w6 at *
    go_upto_region 12 with (go_at_call 12; refine (HLV.out _ HK5.out).mono ?_; rintro e w7 ⟨rfl, hk⟩)
    replace HK5 := Lib.hid (nest HK5.out (more hk (.cells #[.int .u32 0, .int .i64 0] 29)))
    clear hk
    generalize w7.alloc (.cells #[.int .u32 0, .int .i64 0] 29) = w8 at *
    have HE8 : Hid (EntsIn (fun j => j = w8.heap.size) (w8.alloc (.cells #[.int .u32 1, .int .u64 0, .int .u64 0, .slice none 0 0, .bool false, .int .u32 2, .int .u64 0, .int .u64 0, .slice none 0 0, .bool false] 47)) (.slice (some ⟨w8.heap.size, 0, none⟩) 2 2) ([1, 2].map plainE)) := Lib.hid (ents_plain [1, 2] _ _ (Blk.new w8 _ _) 2 rfl (by decide))
    have hk8 : Below w8.heap.size w8 (w8.alloc (.cells #[.int .u32 1, .int .u64 0, .int .u64 0, .slice none 0 0, .bool false, .int .u32 2, .int .u64 0, .int .u64 0, .slice none 0 0, .bool false] 47)) := more_one _ _
    have HPL := Lib.hid (bplan_any _ _ L ([1, 2].map plainE) _ _ (HR4.out.keep (nest HK5.out hk8)) HO4.out HL4.out HE8.out (by intro y hy; simp at hy; rcases hy with rfl | rfl <;> simp [entB, plainE]) (by decide))
    rw [plan_bad HM4.out] at HPL
    dsimp only at HPL
    have HK8 := Lib.hid (nest HK5.out hk8)
    clear hk8
    go_upto_region 13 with (go_at_call 14; refine HPL.out.mono ?_; rintro e w9 ⟨rfl, hk⟩)
    have HKA := Lib.hid (nest HK8.out (more hk (.cells #[.int .u32 0, .int .u32 0] 33)))
    have HPA : Hid (Blk (w9.alloc (.cells #[.int .u32 0, .int .u32 0] 33)) w9.heap.size 33 #[.int .u32 0, .int .u32 0]) := Lib.hid (Blk.new _ _ _)
    clear hk HPL HE8 HK8 HK5 HHV HLV
    generalize w9.alloc (.cells #[.int .u32 0, .int .u32 0] 33) = wa at *
    obtain ⟨q, hq⟩ : ∃ p, p = w9.heap.size := ⟨_, rfl⟩
    rw [← hq] at HPA ⊢
    clear hq
    refine Run.region_seq (S := fun z => Below wa.heap.size wa z)
      [1, 0, 0, 0, 0, 0, 0, 0, 0, 0, 0, 0, 0, 0, 0, 0, 0, 0, 0] (l := ?_) ?_ (Below.refl _ _) ?_
    rotate_left
    (· simp only [Run.seqOf, List.toList_toArray, Run.stepsOf, Run.stepOf, Run.guardOf, List.getElem?_toArray, List.getElem?_cons_zero, List.getElem?_cons_succ, Option.map_some, Option.map_none, Option.bind_some, Option.toList_some, List.map_cons, List.map_nil, List.cons_append, List.nil_append, List.append_eq]
       rfl)
    repeat ((first
      | (refine Run.takes (v := ?_) ?_ ?_; rotate_left; (· intro w' hS'; (first | (refine exec_load_blk (n := 2) (x := .tmp 12) (l := [.int .u32 0, .int .u32 0]) ?_ Try.underlying33 mv_info ?_ ?_ (HPA.out.keep hS') <;> rfl) | (go_simp; (try with_reducible rfl)))))
      | (refine Run.takesG (v := ?_) ?_ ?_ ?_; rotate_left; (· simp only [List.getElem?_cons_zero, List.getElem?_cons_succ]); (· intro w' hS'; (first | (refine exec_load_blk (n := 2) (x := .tmp 12) (l := [.int .u32 0, .int .u32 0]) ?_ Try.underlying33 mv_info ?_ ?_ (HPA.out.keep hS') <;> rfl) | (go_simp; (try with_reducible rfl)))))
      | (refine Run.skipsT ?_ ?_; (· simp only [List.getElem?_cons_zero, List.getElem?_cons_succ]))
      | (refine Run.skipsF ?_ ?_; (· simp only [List.getElem?_cons_zero, List.getElem?_cons_succ]))
      | (refine Run.skipsU ?_ ?_; (· simp only [List.getElem?_cons_zero, List.getElem?_cons_succ]))
      | (refine Run.passT ?_ ?_; (· simp only [List.getElem?_cons_zero, List.getElem?_cons_succ]))
      | (refine Run.passF ?_ ?_; (· simp only [List.getElem?_cons_zero, List.getElem?_cons_succ]))
      | (refine Run.passU ?_ ?_; (· simp only [List.getElem?_cons_zero, List.getElem?_cons_succ]))
      | (refine Run.runs ?_
         (first
         | (refine Run.callF 8 (by kernel_rfl) (fun hS => bawake_any _) rfl ?_)
         | (refine Run.callG 8 (by kernel_rfl) ?_ (fun hS => bawake_any _) rfl ?_; (· simp only [List.getElem?_cons_zero, List.getElem?_cons_succ]))
         | fail)
         (first
         | (rintro hS e w' ⟨rfl, rfl⟩; refine ⟨_, rfl, hS, ?_⟩)
         | (rintro hS e w' ⟨rfl, hb⟩; refine ⟨_, rfl, nest hS hb, ?_⟩)
         | fail))
      | fail); simp only [Act.put, List.setIfInBounds_toArray, List.set_cons_zero, List.set_cons_succ])
    refine Run.ends (fun hS => ?_)
    have HKE := Lib.hid (nest HK4.out (nest HKA.out hS))
    clear hS
    go_wp2_with fail
    go_ret
    exact ⟨rfl, HKE.out⟩
end Go.Proofs.Ytgkmkpkbdmciiaa.balanceRefuses
