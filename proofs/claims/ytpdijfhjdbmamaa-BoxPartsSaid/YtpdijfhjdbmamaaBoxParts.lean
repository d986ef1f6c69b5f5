/- Walk of the law BoxParts. -/
import Derived.Test.YtpdijfhjdbmamaaBoxAwake
namespace Go.Proofs.Ytpdijfhjdbmamaa.boxParts
open Go.RowKit Mem
set_option linter.unusedSimpArgs false
set_option linter.unusedVariables false
attribute [local irreducible] Go.Calls

theorem in2 (lo hi v : Int) : inV (2, lo, hi) v = decide ((v - lo) % 4294967296 ≤ (hi - lo) % 4294967296) := by simp [inV]
theorem math (lo hi at' v : Int) (bl : 0 ≤ lo ∧ lo ≤ 4294967295) (bh : 0 ≤ hi ∧ hi ≤ 4294967295) (bt : 0 ≤ at' ∧ at' ≤ 4294967295) (bv : 0 ≤ v ∧ v ≤ 4294967295) (h1 : inV (2, lo, hi) at' = true) (h2 : at' ≠ hi) :
    inV (2, lo, hi) v = (inV (2, lo, at') v || inV (2, (at' + 1) % 4294967296, hi) v) ∧ (inV (2, lo, at') v && inV (2, (at' + 1) % 4294967296, hi) v) = false := by
  rw [in2] at h1
  have h1 := of_decide_eq_true h1
  rw [in2, in2, in2]
  constructor
  · rw [Bool.eq_iff_iff]
    simp only [decide_eq_true_eq, Bool.or_eq_true]
    omega
  · rw [Bool.and_eq_false_iff]
    simp only [decide_eq_false_iff_not]
    omega
theorem msub (b a : Int) (hb : 0 ≤ b ∧ b ≤ 4294967295) (ha : 0 ≤ a ∧ a ≤ 4294967295) : (a - b) % 4294967296 = if b ≤ a then a - b else a - b + 4294967296 := by split <;> omega
theorem math2 (lo hi v : Int) (bl : 0 ≤ lo ∧ lo ≤ 4294967295) (bh : 0 ≤ hi ∧ hi ≤ 4294967295) (bv : 0 ≤ v ∧ v ≤ 4294967295) (hne : lo ≠ hi) (h : ((hi + 1) % 4294967296 == lo) = false) :
    inV (2, hi, lo) v = ((!inV (2, lo, hi) v) || (v == lo) || (v == hi)) := by
  rw [in2, in2, Bool.eq_iff_iff]
  simp only [beq_eq_false_iff_ne, ne_eq] at h
  simp only [decide_eq_true_eq, Bool.or_eq_true, Bool.not_eq_true', decide_eq_false_iff_not, beq_iff_eq]
  rw [msub hi v bh bv, msub hi lo bh bl, msub lo v bl bv, msub lo hi bl bh]
  split <;> split <;> split <;> split <;> omega
theorem three : ∀ (ir ia ib : Bool), (ir = (ia || ib) ∧ (ia && ib) = false) → (ia = true ∧ ib = false ∧ ir = true) ∨ (ia = false ∧ ib = true ∧ ir = true) ∨ (ia = false ∧ ib = false ∧ ir = false) := by decide
theorem range_info : (Try.prog.info? 26).map (·.size) = some 3 := by kernel_rfl
abbrev rg (lo hi : Int) : List Value := [.int .i64 2, .int .u32 lo, .int .u32 hi]
set_option maxHeartbeats 4000000 in
theorem walk (lo : Int) (bl : 0 ≤ lo ∧ lo ≤ 4294967295) (hi : Int) (bh : 0 ≤ hi ∧ hi ≤ 4294967295) (at' : Int) (bt : 0 ≤ at' ∧ at' ≤ 4294967295) (v : Int) (bv : 0 ≤ v ∧ v ≤ 4294967295) (w : World) :
    Calls Try.prog 7 #[.int .u32 lo, .int .u32 hi, .int .u32 at', .int .u32 v] w fun e w' => e = .returned (.bool true) ∧ Below w.heap.size w w' := by
  have hB := Blk.new w 26 #[.int .i64 2, .int .u32 lo, .int .u32 hi]
  have hX := more (Below.refl w.heap.size w) (.cells #[.int .i64 2, .int .u32 lo, .int .u32 hi] 26)
  have HB := Lib.hid hB
  have HX := Lib.hid hX
  clear hB hX
  have hcase : inV (2, lo, hi) at' = false ∨ (inV (2, lo, hi) at' = true ∧ at' = hi) ∨ (inV (2, lo, hi) at' = true ∧ at' ≠ hi) := by
    cases inV (2, lo, hi) at'
    · exact .inl rfl
    · by_cases h : at' = hi
      · exact .inr (.inl ⟨rfl, h⟩)
      · exact .inr (.inr ⟨rfl, h⟩)
  rcases hcase with hc | ⟨hc, he⟩ | ⟨hc, hne⟩
  · have HC := Lib.hid hc
    clear hc
    go_enter Try.func7, Try.ntmps7
    go_wp2_with fail
    refine (oin_any 2 lo hi at' bl bh bt _).mono ?_
    rintro e w1 ⟨rfl, hk1⟩
    rw [HC.out]
    have HX1 := Lib.hid (nest HX.out hk1)
    clear hk1
    go_wp2_with fail
    refine (bawake_any _).mono ?_
    rintro e w2 ⟨rfl, hk2⟩
    go_wp2_with fail
    go_ret
    exact ⟨rfl, nest HX1.out hk2⟩
  · subst he
    have HC := Lib.hid hc
    clear hc
    go_enter Try.func7, Try.ntmps7
    go_wp2_with fail
    refine (oin_any 2 lo at' at' bl bh bt _).mono ?_
    rintro e w1 ⟨rfl, hk1⟩
    rw [HC.out]
    have HX1 := Lib.hid (nest HX.out hk1)
    clear hk1
    go_wp2_with fail
    refine (bawake_any _).mono ?_
    rintro e w2 ⟨rfl, hk2⟩
    go_wp2_with fail
    go_ret
    exact ⟨rfl, nest HX1.out hk2⟩
  have hm := math lo hi at' v bl bh bt bv hc hne
  have hlh : lo ≠ hi := fun e => by
    rw [in2] at hc
    have := of_decide_eq_true hc
    omega
  have hm2 := math2 lo hi v bl bh bv hlh
  clear hlh
  have HC := Lib.hid hc
  have dne : (at' == hi) = false := by simpa using hne
  have bq : 0 ≤ (at' + 1) % 4294967296 ∧ (at' + 1) % 4294967296 ≤ 4294967295 := by omega
  have CR : Hid (∀ z, Calls Try.prog 23 #[.agg #[.int .i64 2, .int .u32 lo, .int .u32 hi], .int .u32 v] z fun e w' => e = .returned (.bool (inV (2, lo, hi) v)) ∧ Below z.heap.size z w') := Lib.hid (fun z => oin_any 2 lo hi v bl bh bv z)
  have CA : Hid (∀ z, Calls Try.prog 23 #[.agg #[.int .i64 2, .int .u32 lo, .int .u32 at'], .int .u32 v] z fun e w' => e = .returned (.bool (inV (2, lo, at') v)) ∧ Below z.heap.size z w') := Lib.hid (fun z => oin_any 2 lo at' v bl bt bv z)
  have CB : Hid (∀ z, Calls Try.prog 23 #[.agg #[.int .i64 2, .int .u32 ((at' + 1) % 4294967296), .int .u32 hi], .int .u32 v] z fun e w' => e = .returned (.bool (inV (2, (at' + 1) % 4294967296, hi) v)) ∧ Below z.heap.size z w') := Lib.hid (fun z => oin_any 2 _ hi v bq bh bv z)
  have CT : Hid (∀ z, Calls Try.prog 23 #[.agg #[.int .i64 2, .int .u32 hi, .int .u32 lo], .int .u32 v] z fun e w' => e = .returned (.bool (inV (2, hi, lo) v)) ∧ Below z.heap.size z w') := Lib.hid (fun z => oin_any 2 hi lo v bh bl bv z)
  generalize inV (2, lo, hi) v = ir at *
  generalize inV (2, lo, at') v = ia at *
  generalize inV (2, (at' + 1) % 4294967296, hi) v = ib at *
  generalize inV (2, hi, lo) v = it at *
  generalize hp : (v == lo) = p at *
  generalize hq : (v == hi) = q at *
  generalize hall : ((hi + 1) % 4294967296 == lo) = all at *
  have HM := Lib.hid hm
  have HM2 := Lib.hid hm2
  clear hm hm2 hc hne
  go_enter Try.func7, Try.ntmps7
  go_wp2_with fail
  refine (oin_any 2 lo hi at' bl bh bt _).mono ?_
  rintro e w1 ⟨rfl, hk1⟩
  rw [HC.out]
  have A1 := (HB.out.keep hk1).keep (more (more (more (Below.refl _ _) (.cells #[.int .i64 2, .int .u32 lo, .int .u32 at'] 26)) (.cells #[.int .i64 2, .int .u32 ((at' + 1) % 4294967296), .int .u32 hi] 26)) (.cells #[.int .i64 2, .int .u32 hi, .int .u32 lo] 26))
  have A2 := (Blk.newAt w1 26 #[.int .i64 2, .int .u32 lo, .int .u32 at'] rfl).keep (more (more (Below.refl _ _) (.cells #[.int .i64 2, .int .u32 ((at' + 1) % 4294967296), .int .u32 hi] 26)) (.cells #[.int .i64 2, .int .u32 hi, .int .u32 lo] 26))
  have A3 := (Blk.newAt (w1.alloc (.cells #[.int .i64 2, .int .u32 lo, .int .u32 at'] 26)) 26 #[.int .i64 2, .int .u32 ((at' + 1) % 4294967296), .int .u32 hi] (n := w1.heap.size + 1) (by rw [size_alloc])).keep (more (Below.refl _ _) (.cells #[.int .i64 2, .int .u32 hi, .int .u32 lo] 26))
  have A4 := Blk.newAt ((w1.alloc (.cells #[.int .i64 2, .int .u32 lo, .int .u32 at'] 26)).alloc (.cells #[.int .i64 2, .int .u32 ((at' + 1) % 4294967296), .int .u32 hi] 26)) 26 #[.int .i64 2, .int .u32 hi, .int .u32 lo] (n := w1.heap.size + 1 + 1) (by rw [size_alloc, size_alloc])
  have hX4 := nest (nest HX.out hk1) (more (more (more (Below.refl _ _) (.cells #[.int .i64 2, .int .u32 lo, .int .u32 at'] 26)) (.cells #[.int .i64 2, .int .u32 ((at' + 1) % 4294967296), .int .u32 hi] 26)) (.cells #[.int .i64 2, .int .u32 hi, .int .u32 lo] 26))
  have B1 := Lib.hid A1
  have B2 := Lib.hid A2
  have B3 := Lib.hid A3
  have B4 := Lib.hid A4
  have BX := Lib.hid hX4
  clear A1 A2 A3 A4 hX4 hk1 HB HX HC
  go_wp2_with fail
  generalize ((w1.alloc (.cells #[.int .i64 2, .int .u32 lo, .int .u32 at'] 26)).alloc (.cells #[.int .i64 2, .int .u32 ((at' + 1) % 4294967296), .int .u32 hi] 26)).alloc (.cells #[.int .i64 2, .int .u32 hi, .int .u32 lo] 26) = w2 at *
  have hb3 : (ia = true ∧ ib = false ∧ ir = true) ∨ (ia = false ∧ ib = true ∧ ir = true) ∨ (ia = false ∧ ib = false ∧ ir = false) := three _ _ _ HM.out
  have HT : Hid (all = true ∨ (all = false ∧ it = ((!ir || p) || q))) := Lib.hid (by
    have h := HM2.out
    cases all
    · exact .inr ⟨rfl, h rfl⟩
    · exact .inl rfl)
  clear HM HM2
  clear hall
  rcases HT.out with rfl | ⟨rfl, rfl⟩ <;> rcases hb3 with ⟨rfl, rfl, rfl⟩ | ⟨rfl, rfl, rfl⟩ | ⟨rfl, rfl, rfl⟩ <;> cases p <;> cases q
  all_goals
    refine Run.region_walk (S := fun z => Below w2.heap.size w2 z)
      lbparts.rows7 lbparts.plan7 (l := ?_) (by kernel_rfl) (by kernel_rfl) (by kernel_rfl) (by kernel_rfl) ?_ (Below.refl _ _).drew ?_
    rotate_left
    (· simp only [lbparts.plan7, Run.stepsOf, Run.stepOf, Run.guardOf, List.getElem?_toArray, List.getElem?_cons_zero, List.getElem?_cons_succ, Option.map_some, Option.map_none, Option.bind_some, Option.toList_some, List.map_cons, List.map_nil, List.cons_append, List.nil_append]
       rfl)
    repeat ((first
      | (refine Run.takes (v := ?_) ?_ ?_; rotate_left; (· intro w' hS'; (first | (refine exec_load_blk (n := 3) (x := .tmp 9) (l := [.int .i64 2, .int .u32 lo, .int .u32 hi]) ?_ Try.underlying26 range_info ?_ ?_ (B1.out.keep hS') <;> rfl) | (refine exec_load_blk (n := 3) (x := .tmp 10) (l := [.int .i64 2, .int .u32 lo, .int .u32 at']) ?_ Try.underlying26 range_info ?_ ?_ (B2.out.keep hS') <;> rfl) | (refine exec_load_blk (n := 3) (x := .tmp 11) (l := [.int .i64 2, .int .u32 ((at' + 1) % 4294967296), .int .u32 hi]) ?_ Try.underlying26 range_info ?_ ?_ (B3.out.keep hS') <;> rfl) | (refine exec_load_blk (n := 3) (x := .tmp 12) (l := [.int .i64 2, .int .u32 hi, .int .u32 lo]) ?_ Try.underlying26 range_info ?_ ?_ (B4.out.keep hS') <;> rfl) | (go_simp; (try with_reducible rfl)))))
      | (refine Run.takesG (v := ?_) ?_ ?_ ?_; rotate_left; (· simp only [List.getElem?_cons_zero, List.getElem?_cons_succ]); (· intro w' hS'; (first | (refine exec_load_blk (n := 3) (x := .tmp 9) (l := [.int .i64 2, .int .u32 lo, .int .u32 hi]) ?_ Try.underlying26 range_info ?_ ?_ (B1.out.keep hS') <;> rfl) | (refine exec_load_blk (n := 3) (x := .tmp 10) (l := [.int .i64 2, .int .u32 lo, .int .u32 at']) ?_ Try.underlying26 range_info ?_ ?_ (B2.out.keep hS') <;> rfl) | (refine exec_load_blk (n := 3) (x := .tmp 11) (l := [.int .i64 2, .int .u32 ((at' + 1) % 4294967296), .int .u32 hi]) ?_ Try.underlying26 range_info ?_ ?_ (B3.out.keep hS') <;> rfl) | (refine exec_load_blk (n := 3) (x := .tmp 12) (l := [.int .i64 2, .int .u32 hi, .int .u32 lo]) ?_ Try.underlying26 range_info ?_ ?_ (B4.out.keep hS') <;> rfl) | (go_simp; (try with_reducible rfl)))))
      | (refine Run.skipsT ?_ ?_; (· simp only [List.getElem?_cons_zero, List.getElem?_cons_succ]))
      | (refine Run.skipsF ?_ ?_; (· simp only [List.getElem?_cons_zero, List.getElem?_cons_succ]))
      | (refine Run.skipsU ?_ ?_; (· simp only [List.getElem?_cons_zero, List.getElem?_cons_succ]))
      | (refine Run.passT ?_ ?_; (· simp only [List.getElem?_cons_zero, List.getElem?_cons_succ]))
      | (refine Run.passF ?_ ?_; (· simp only [List.getElem?_cons_zero, List.getElem?_cons_succ]))
      | (refine Run.passU ?_ ?_; (· simp only [List.getElem?_cons_zero, List.getElem?_cons_succ]))
      | (refine Run.runs ?_
         (first
         | (refine Run.callF 9 (by kernel_rfl) (fun hS => bawake_any _) rfl ?_)
         | (refine Run.callG 9 (by kernel_rfl) ?_ (fun hS => bawake_any _) rfl ?_; (· simp only [List.getElem?_cons_zero, List.getElem?_cons_succ]))
         | (refine Run.callF 23 (by kernel_rfl) (fun hS => CR.out _) rfl ?_)
         | (refine Run.callG 23 (by kernel_rfl) ?_ (fun hS => CR.out _) rfl ?_; (· simp only [List.getElem?_cons_zero, List.getElem?_cons_succ]))
         | (refine Run.callF 23 (by kernel_rfl) (fun hS => CA.out _) rfl ?_)
         | (refine Run.callG 23 (by kernel_rfl) ?_ (fun hS => CA.out _) rfl ?_; (· simp only [List.getElem?_cons_zero, List.getElem?_cons_succ]))
         | (refine Run.callF 23 (by kernel_rfl) (fun hS => CB.out _) rfl ?_)
         | (refine Run.callG 23 (by kernel_rfl) ?_ (fun hS => CB.out _) rfl ?_; (· simp only [List.getElem?_cons_zero, List.getElem?_cons_succ]))
         | (refine Run.callF 23 (by kernel_rfl) (fun hS => CT.out _) rfl ?_)
         | (refine Run.callG 23 (by kernel_rfl) ?_ (fun hS => CT.out _) rfl ?_; (· simp only [List.getElem?_cons_zero, List.getElem?_cons_succ]))
         | fail)
         (first
         | (rintro hS e w' ⟨rfl, rfl⟩; refine ⟨_, rfl, hS, ?_⟩)
         | (rintro hS e w' ⟨rfl, hb⟩; refine ⟨_, rfl, nest hS hb, ?_⟩)
         | fail))
      | fail); simp only [Act.put, List.setIfInBounds_toArray, List.set_cons_zero, List.set_cons_succ])
    refine Run.ends (fun hS => ?_)
    have DX := Lib.hid hS
    clear hS
    go_wp2_with fail
    refine Run.region_walk (S := fun z => Below w2.heap.size w2 z)
      lbparts.rows8 lbparts.plan8 (l := ?_) (by kernel_rfl) (by kernel_rfl) (by kernel_rfl) (by kernel_rfl) ?_ DX.out.drew ?_
    rotate_left
    (· simp only [lbparts.plan8, Run.stepsOf, Run.stepOf, Run.guardOf, List.getElem?_toArray, List.getElem?_cons_zero, List.getElem?_cons_succ, Option.map_some, Option.map_none, Option.bind_some, Option.toList_some, List.map_cons, List.map_nil, List.cons_append, List.nil_append]
       rfl)
    repeat ((first
      | (refine Run.takes (v := ?_) ?_ ?_; rotate_left; (· intro w' hS'; (first | (refine exec_load_blk (n := 3) (x := .tmp 9) (l := [.int .i64 2, .int .u32 lo, .int .u32 hi]) ?_ Try.underlying26 range_info ?_ ?_ (B1.out.keep hS') <;> rfl) | (refine exec_load_blk (n := 3) (x := .tmp 10) (l := [.int .i64 2, .int .u32 lo, .int .u32 at']) ?_ Try.underlying26 range_info ?_ ?_ (B2.out.keep hS') <;> rfl) | (refine exec_load_blk (n := 3) (x := .tmp 11) (l := [.int .i64 2, .int .u32 ((at' + 1) % 4294967296), .int .u32 hi]) ?_ Try.underlying26 range_info ?_ ?_ (B3.out.keep hS') <;> rfl) | (go_simp; (try with_reducible rfl)))))
      | (refine Run.takesG (v := ?_) ?_ ?_ ?_; rotate_left; (· simp only [List.getElem?_cons_zero, List.getElem?_cons_succ]); (· intro w' hS'; (first | (refine exec_load_blk (n := 3) (x := .tmp 9) (l := [.int .i64 2, .int .u32 lo, .int .u32 hi]) ?_ Try.underlying26 range_info ?_ ?_ (B1.out.keep hS') <;> rfl) | (refine exec_load_blk (n := 3) (x := .tmp 10) (l := [.int .i64 2, .int .u32 lo, .int .u32 at']) ?_ Try.underlying26 range_info ?_ ?_ (B2.out.keep hS') <;> rfl) | (refine exec_load_blk (n := 3) (x := .tmp 11) (l := [.int .i64 2, .int .u32 ((at' + 1) % 4294967296), .int .u32 hi]) ?_ Try.underlying26 range_info ?_ ?_ (B3.out.keep hS') <;> rfl) | (go_simp; (try with_reducible rfl)))))
      | (refine Run.skipsT ?_ ?_; (· simp only [List.getElem?_cons_zero, List.getElem?_cons_succ]))
      | (refine Run.skipsF ?_ ?_; (· simp only [List.getElem?_cons_zero, List.getElem?_cons_succ]))
      | (refine Run.skipsU ?_ ?_; (· simp only [List.getElem?_cons_zero, List.getElem?_cons_succ]))
      | (refine Run.passT ?_ ?_; (· simp only [List.getElem?_cons_zero, List.getElem?_cons_succ]))
      | (refine Run.passF ?_ ?_; (· simp only [List.getElem?_cons_zero, List.getElem?_cons_succ]))
      | (refine Run.passU ?_ ?_; (· simp only [List.getElem?_cons_zero, List.getElem?_cons_succ]))
      | (refine Run.runs ?_
         (first
         | (refine Run.callF 9 (by kernel_rfl) (fun hS => bawake_any _) rfl ?_)
         | (refine Run.callG 9 (by kernel_rfl) ?_ (fun hS => bawake_any _) rfl ?_; (· simp only [List.getElem?_cons_zero, List.getElem?_cons_succ]))
         | (refine Run.callF 23 (by kernel_rfl) (fun hS => CR.out _) rfl ?_)
         | (refine Run.callG 23 (by kernel_rfl) ?_ (fun hS => CR.out _) rfl ?_; (· simp only [List.getElem?_cons_zero, List.getElem?_cons_succ]))
         | (refine Run.callF 23 (by kernel_rfl) (fun hS => CA.out _) rfl ?_)
         | (refine Run.callG 23 (by kernel_rfl) ?_ (fun hS => CA.out _) rfl ?_; (· simp only [List.getElem?_cons_zero, List.getElem?_cons_succ]))
         | (refine Run.callF 23 (by kernel_rfl) (fun hS => CB.out _) rfl ?_)
         | (refine Run.callG 23 (by kernel_rfl) ?_ (fun hS => CB.out _) rfl ?_; (· simp only [List.getElem?_cons_zero, List.getElem?_cons_succ]))
         | fail)
         (first
         | (rintro hS e w' ⟨rfl, rfl⟩; refine ⟨_, rfl, hS, ?_⟩)
         | (rintro hS e w' ⟨rfl, hb⟩; refine ⟨_, rfl, nest hS hb, ?_⟩)
         | fail))
      | fail); simp only [Act.put, List.setIfInBounds_toArray, List.set_cons_zero, List.set_cons_succ])
    refine Run.ends (fun hS => ?_)
    have EX := Lib.hid (nest BX.out hS)
    clear hS
    go_wp2_with fail
    go_ret
    exact ⟨rfl, EX.out⟩
end Go.Proofs.Ytpdijfhjdbmamaa.boxParts
