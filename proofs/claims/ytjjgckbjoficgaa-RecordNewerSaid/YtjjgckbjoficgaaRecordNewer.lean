/- Walk of the law RecordNewer. -/
import Derived.Test.YtjjgckbjoficgaaRecAwake
import Derived.Test.YtjjgckbjoficgaaRecPlans
import Derived.Test.YtjjgckbjoficgaaStructs
import Derived.Test.YtjjgckbjoficgaaRun
namespace Go.Proofs.Ytjjgckbjoficgaa.recordNewer
open Go.RowKit Mem
set_option linter.unusedSimpArgs false
set_option linter.unusedVariables false
attribute [local irreducible] Go.Calls

theorem newer_law (v1 v2 v3 : Int) (g1 g2 g3 : Bool) :
    (newerV v1 g1 v2 g2 && newerV v2 g2 v1 g1) = false ∧ ((newerV v1 g1 v2 g2 || newerV v2 g2 v1 g1) = !((v1 == v2) && (g1 == g2))) ∧ (newerV v1 g1 v2 g2 = true → newerV v2 g2 v3 g3 = true → newerV v1 g1 v3 g3 = true) ∧ newerV v1 g1 v1 g1 = false := by
  unfold newerV
  refine ⟨?_, ?_, ?_, ?_⟩
  · rcases Int.lt_trichotomy v1 v2 with h | h | h
    · rw [if_neg (by omega), if_neg (by omega)]; simp; omega
    · rw [if_pos h, if_pos h.symm]; cases g1 <;> cases g2 <;> rfl
    · rw [if_neg (by omega), if_neg (by omega)]; simp; omega
  · rcases Int.lt_trichotomy v1 v2 with h | h | h
    · rw [if_neg (by omega), if_neg (by omega)]
      have e : (v1 == v2) = false := by simp; omega
      rw [e]; simp; omega
    · rw [if_pos h, if_pos h.symm]
      have e : (v1 == v2) = true := by simpa using h
      rw [e]; cases g1 <;> cases g2 <;> rfl
    · rw [if_neg (by omega), if_neg (by omega)]
      have e : (v1 == v2) = false := by simp; omega
      rw [e]; simp; omega
  · intro h1 h2
    by_cases e1 : v1 = v2
    · subst e1
      rw [if_pos rfl] at h1
      by_cases e2 : v1 = v3
      · subst e2
        rw [if_pos rfl] at h2 ⊢
        cases g1 <;> cases g2 <;> cases g3 <;> simp_all
      · rw [if_neg e2] at h2 ⊢
        exact h2
    · rw [if_neg e1] at h1
      have h1 := of_decide_eq_true h1
      by_cases e2 : v2 = v3
      · subst e2
        rw [if_neg e1]
        exact decide_eq_true h1
      · rw [if_neg e2] at h2
        have h2 := of_decide_eq_true h2
        rw [if_neg (by omega)]
        exact decide_eq_true (by omega)
  · rw [if_pos rfl]
    cases g1 <;> rfl
def eb (x i v : Int) (a : Option Addr) (n c : Nat) (g : Bool) : List Value := [.int .u32 x, .int .u64 i, .int .u64 v, .slice a n c, .bool g]
theorem entry_info : (Try.prog.info? 28).map (·.size) = some 5 := by kernel_rfl
set_option maxHeartbeats 4000000 in
theorem walk (x1 i1 v1 : Int) (s1 : Value) (l1 : List Int) (g1 : Bool) (bx1 : 0 ≤ x1 ∧ x1 ≤ 4294967295) (bi1 : 0 ≤ i1 ∧ i1 ≤ 18446744073709551615) (bv1 : 0 ≤ v1 ∧ v1 ≤ 18446744073709551615)
    (x2 i2 v2 : Int) (s2 : Value) (l2 : List Int) (g2 : Bool) (bx2 : 0 ≤ x2 ∧ x2 ≤ 4294967295) (bi2 : 0 ≤ i2 ∧ i2 ≤ 18446744073709551615) (bv2 : 0 ≤ v2 ∧ v2 ≤ 18446744073709551615)
    (x3 i3 v3 : Int) (s3 : Value) (l3 : List Int) (g3 : Bool) (bx3 : 0 ≤ x3 ∧ x3 ≤ 4294967295) (bi3 : 0 ≤ i3 ∧ i3 ≤ 18446744073709551615) (bv3 : 0 ≤ v3 ∧ v3 ≤ 18446744073709551615) (w : World)
    (h1 : Rd (intE .u32) w s1 l1) (hb1 : ∀ x ∈ l1, 0 ≤ x ∧ x ≤ 4294967295) (h2 : Rd (intE .u32) w s2 l2) (hb2 : ∀ x ∈ l2, 0 ≤ x ∧ x ≤ 4294967295) (h3 : Rd (intE .u32) w s3 l3) (hb3 : ∀ x ∈ l3, 0 ≤ x ∧ x ≤ 4294967295) :
    Calls Try.prog 4 #[.agg #[.int .u32 x1, .int .u64 i1, .int .u64 v1, s1, .bool g1], .agg #[.int .u32 x2, .int .u64 i2, .int .u64 v2, s2, .bool g2], .agg #[.int .u32 x3, .int .u64 i3, .int .u64 v3, s3, .bool g3]] w fun e w' => e = .returned (.bool true) ∧ Below w.heap.size w w' := by
  obtain ⟨a1, c1, rfl, _⟩ := h1.form
  obtain ⟨a2, c2, rfl, _⟩ := h2.form
  obtain ⟨a3, c3, rfl, _⟩ := h3.form
  obtain ⟨q1, q2, q3, q4⟩ := newer_law v1 v2 v3 g1 g2 g3
  clear h1 h2 h3 hb1 hb2 hb3
  have Q1 := Lib.hid q1
  have Q2 := Lib.hid q2
  have Q3 := Lib.hid q3
  have Q4 := Lib.hid q4
  clear q1 q2 q3 q4
  go_enter Try.func4, Try.ntmps4
  go_wp2_with fail
  have A1 := (Blk.new w 28 #[.int .u32 x1, .int .u64 i1, .int .u64 v1, .slice a1 l1.length c1, .bool g1]).keep (more (more (Below.refl _ _) (.cells #[.int .u32 x2, .int .u64 i2, .int .u64 v2, .slice a2 l2.length c2, .bool g2] 28)) (.cells #[.int .u32 x3, .int .u64 i3, .int .u64 v3, .slice a3 l3.length c3, .bool g3] 28))
  have A2 := (Blk.newAt (w.alloc (.cells #[.int .u32 x1, .int .u64 i1, .int .u64 v1, .slice a1 l1.length c1, .bool g1] 28)) 28 #[.int .u32 x2, .int .u64 i2, .int .u64 v2, .slice a2 l2.length c2, .bool g2] (size_alloc _ _).symm).keep (more (Below.refl _ _) (.cells #[.int .u32 x3, .int .u64 i3, .int .u64 v3, .slice a3 l3.length c3, .bool g3] 28))
  have A3 := Blk.newAt ((w.alloc (.cells #[.int .u32 x1, .int .u64 i1, .int .u64 v1, .slice a1 l1.length c1, .bool g1] 28)).alloc (.cells #[.int .u32 x2, .int .u64 i2, .int .u64 v2, .slice a2 l2.length c2, .bool g2] 28)) 28 #[.int .u32 x3, .int .u64 i3, .int .u64 v3, .slice a3 l3.length c3, .bool g3] (n := w.heap.size + 1 + 1) (by rw [size_alloc, size_alloc])
  have hX := more (more (more (Below.refl w.heap.size w) (.cells #[.int .u32 x1, .int .u64 i1, .int .u64 v1, .slice a1 l1.length c1, .bool g1] 28)) (.cells #[.int .u32 x2, .int .u64 i2, .int .u64 v2, .slice a2 l2.length c2, .bool g2] 28)) (.cells #[.int .u32 x3, .int .u64 i3, .int .u64 v3, .slice a3 l3.length c3, .bool g3] 28)
  generalize ((w.alloc (.cells #[.int .u32 x1, .int .u64 i1, .int .u64 v1, .slice a1 l1.length c1, .bool g1] 28)).alloc (.cells #[.int .u32 x2, .int .u64 i2, .int .u64 v2, .slice a2 l2.length c2, .bool g2] 28)).alloc (.cells #[.int .u32 x3, .int .u64 i3, .int .u64 v3, .slice a3 l3.length c3, .bool g3] 28) = w3 at *
  obtain ⟨b1, hb1⟩ : ∃ b, b = w.heap.size := ⟨_, rfl⟩
  rw [← hb1] at A1 A2 A3
  have HB1 := Lib.hid hb1
  rw [← hb1]
  clear hb1
  generalize b1 + 1 = b2 at *
  generalize b2 + 1 = b3 at *
  refine Run.region_walk (S := fun z => Blk z b1 28 #[.int .u32 x1, .int .u64 i1, .int .u64 v1, .slice a1 l1.length c1, .bool g1] ∧ Blk z b2 28 #[.int .u32 x2, .int .u64 i2, .int .u64 v2, .slice a2 l2.length c2, .bool g2] ∧ Blk z b3 28 #[.int .u32 x3, .int .u64 i3, .int .u64 v3, .slice a3 l3.length c3, .bool g3] ∧ Below w.heap.size w z)
    lnewer.rows1 lnewer.plan1 (l := ?steps1) (by kernel_rfl) (by kernel_rfl) (by kernel_rfl) (by kernel_rfl) ?written1 ⟨A1, A2, A3, hX.drew⟩ ?onward1
  case written1 =>
    simp only [lnewer.plan1, Run.stepsOf, Run.stepOf, Run.guardOf, List.getElem?_toArray, List.getElem?_cons_zero, List.getElem?_cons_succ, Option.map_some, Option.map_none, Option.bind_some, Option.toList_some, List.map_cons, List.map_nil, List.cons_append, List.nil_append]
    rfl
  repeat ((first
    | (refine Run.takes (v := ?_) ?_ ?_; rotate_left; (· intro w' hS'; (first | (refine exec_load_blk (n := 5) (x := .tmp 3) ?_ Try.underlying28 entry_info (l := [.int .u32 x1, .int .u64 i1, .int .u64 v1, .slice a1 l1.length c1, .bool g1]) ?_ ?_ hS'.1 <;> rfl) | (refine exec_load_blk (n := 5) (x := .tmp 4) ?_ Try.underlying28 entry_info (l := [.int .u32 x2, .int .u64 i2, .int .u64 v2, .slice a2 l2.length c2, .bool g2]) ?_ ?_ hS'.2.1 <;> rfl) | (refine exec_load_blk (n := 5) (x := .tmp 5) ?_ Try.underlying28 entry_info (l := [.int .u32 x3, .int .u64 i3, .int .u64 v3, .slice a3 l3.length c3, .bool g3]) ?_ ?_ hS'.2.2.1 <;> rfl) | (go_simp; (try with_reducible rfl)))))
    | (refine Run.takesG (v := ?_) ?_ ?_ ?_; rotate_left; (· simp only [List.getElem?_cons_zero, List.getElem?_cons_succ]); (· intro w' hS'; (first | (refine exec_load_blk (n := 5) (x := .tmp 3) ?_ Try.underlying28 entry_info (l := [.int .u32 x1, .int .u64 i1, .int .u64 v1, .slice a1 l1.length c1, .bool g1]) ?_ ?_ hS'.1 <;> rfl) | (refine exec_load_blk (n := 5) (x := .tmp 4) ?_ Try.underlying28 entry_info (l := [.int .u32 x2, .int .u64 i2, .int .u64 v2, .slice a2 l2.length c2, .bool g2]) ?_ ?_ hS'.2.1 <;> rfl) | (refine exec_load_blk (n := 5) (x := .tmp 5) ?_ Try.underlying28 entry_info (l := [.int .u32 x3, .int .u64 i3, .int .u64 v3, .slice a3 l3.length c3, .bool g3]) ?_ ?_ hS'.2.2.1 <;> rfl) | (go_simp; (try with_reducible rfl)))))
    | (refine Run.skipsT ?_ ?_; (· simp only [List.getElem?_cons_zero, List.getElem?_cons_succ]))
    | (refine Run.skipsF ?_ ?_; (· simp only [List.getElem?_cons_zero, List.getElem?_cons_succ]))
    | (refine Run.skipsU ?_ ?_; (· simp only [List.getElem?_cons_zero, List.getElem?_cons_succ]))
    | (refine Run.passT ?_ ?_; (· simp only [List.getElem?_cons_zero, List.getElem?_cons_succ]))
    | (refine Run.passF ?_ ?_; (· simp only [List.getElem?_cons_zero, List.getElem?_cons_succ]))
    | (refine Run.passU ?_ ?_; (· simp only [List.getElem?_cons_zero, List.getElem?_cons_succ]))
    | (refine Run.runs ?_
       (first
       | (refine Run.callF 15 (by kernel_rfl) (fun hS => newer_any _ _ _ _ _ _ _ _ bv1.1 bv2.1 _ _ _ _ _ _ _) rfl ?_)
       | (refine Run.callG 15 (by kernel_rfl) ?_ (fun hS => newer_any _ _ _ _ _ _ _ _ bv1.1 bv2.1 _ _ _ _ _ _ _) rfl ?_; (· simp only [List.getElem?_cons_zero, List.getElem?_cons_succ]))
       | (refine Run.callF 15 (by kernel_rfl) (fun hS => newer_any _ _ _ _ _ _ _ _ bv2.1 bv3.1 _ _ _ _ _ _ _) rfl ?_)
       | (refine Run.callG 15 (by kernel_rfl) ?_ (fun hS => newer_any _ _ _ _ _ _ _ _ bv2.1 bv3.1 _ _ _ _ _ _ _) rfl ?_; (· simp only [List.getElem?_cons_zero, List.getElem?_cons_succ]))
       | (refine Run.callF 15 (by kernel_rfl) (fun hS => newer_any _ _ _ _ _ _ _ _ bv1.1 bv3.1 _ _ _ _ _ _ _) rfl ?_)
       | (refine Run.callG 15 (by kernel_rfl) ?_ (fun hS => newer_any _ _ _ _ _ _ _ _ bv1.1 bv3.1 _ _ _ _ _ _ _) rfl ?_; (· simp only [List.getElem?_cons_zero, List.getElem?_cons_succ]))
       | fail)
       (first
       | (rintro hS e w' ⟨rfl, rfl⟩; refine ⟨_, rfl, hS, ?_⟩)
       | (rintro hS e w' ⟨rfl, hb⟩; refine ⟨_, rfl, ⟨hS.1.keep hb, hS.2.1.keep hb, hS.2.2.1.keep hb, nest hS.2.2.2 hb⟩, ?_⟩)
       | fail))
    | fail); simp only [Act.put, List.setIfInBounds_toArray, List.set_cons_zero, List.set_cons_succ])
  refine Run.ends (fun hS => ?_)
  obtain ⟨A1, A2, A3, hX⟩ := id hS
  clear hS
  have c10 : w'.cell? ⟨b1, 0, none⟩ = some (.int .u32 x1) := A1.cell 0
  have c11 : w'.cell? ⟨b1, 1, none⟩ = some (.int .u64 i1) := A1.cell 1
  have c12 : w'.cell? ⟨b1, 2, none⟩ = some (.int .u64 v1) := A1.cell 2
  have c13 : w'.cell? ⟨b1, 3, none⟩ = some (.slice a1 l1.length c1) := A1.cell 3
  have c14 : w'.cell? ⟨b1, 4, none⟩ = some (.bool g1) := A1.cell 4
  have c20 : w'.cell? ⟨b2, 0, none⟩ = some (.int .u32 x2) := A2.cell 0
  have c21 : w'.cell? ⟨b2, 1, none⟩ = some (.int .u64 i2) := A2.cell 1
  have c22 : w'.cell? ⟨b2, 2, none⟩ = some (.int .u64 v2) := A2.cell 2
  have c23 : w'.cell? ⟨b2, 3, none⟩ = some (.slice a2 l2.length c2) := A2.cell 3
  have c24 : w'.cell? ⟨b2, 4, none⟩ = some (.bool g2) := A2.cell 4
  have HA1 := Lib.hid A1
  have HA2 := Lib.hid A2
  clear A1 A2 A3
  go_wp2_with fail
  refine (newer_any _ _ _ _ _ _ _ _ bv2.1 bv1.1 _ _ _ _ _ _ w').mono ?_
  rintro e z2 ⟨rfl, hk2⟩
  have A1 := HA1.out.keep hk2
  have A2 := HA2.out.keep hk2
  have hX2 := nest hX hk2
  clear c10 c11 c12 c13 c14 c20 c21 c22 c23 c24 hX hk2 HA1 HA2
  have c10 : z2.cell? ⟨b1, 0, none⟩ = some (.int .u32 x1) := A1.cell 0
  have c11 : z2.cell? ⟨b1, 1, none⟩ = some (.int .u64 i1) := A1.cell 1
  have c12 : z2.cell? ⟨b1, 2, none⟩ = some (.int .u64 v1) := A1.cell 2
  have c13 : z2.cell? ⟨b1, 3, none⟩ = some (.slice a1 l1.length c1) := A1.cell 3
  have c14 : z2.cell? ⟨b1, 4, none⟩ = some (.bool g1) := A1.cell 4
  have c22 : z2.cell? ⟨b2, 2, none⟩ = some (.int .u64 v2) := A2.cell 2
  have c24 : z2.cell? ⟨b2, 4, none⟩ = some (.bool g2) := A2.cell 4
  have HA1 := Lib.hid A1
  have HX2 := Lib.hid hX2
  clear A1 A2 hX2
  have q1 := Q1.out
  have q2 := Q2.out
  have q3 := Q3.out
  have Q4' := Lib.hid Q4.out
  clear Q1 Q2 Q3 Q4
  generalize newerV v1 g1 v2 g2 = n12 at *
  generalize newerV v2 g2 v1 g1 = n21 at *
  generalize newerV v2 g2 v3 g3 = n23 at *
  generalize newerV v1 g1 v3 g3 = n13 at *
  by_cases hv : v1 = v2
  · have e1 : (v1 == v2) = true := by simpa using hv
    rw [e1, Bool.true_and] at q2
    clear hv
    generalize hal : (g1 == g2) = al at *
    have Q1 := Lib.hid q1
    have Q2 := Lib.hid q2
    have Q3 := Lib.hid q3
    clear q1 q2 q3
    go_wp2_with fail
    refine (ecawake_any _).mono ?_
    rintro e z3 ⟨rfl, hk3⟩
    have hB := HA1.out.keep hk3
    have HX3 := Lib.hid (nest HX2.out hk3)
    clear c10 c11 c12 c13 c14 c22 c24 HX2 hk3
    have c10 : z3.cell? ⟨b1, 0, none⟩ = some (.int .u32 x1) := hB.cell 0
    have c11 : z3.cell? ⟨b1, 1, none⟩ = some (.int .u64 i1) := hB.cell 1
    have c12 : z3.cell? ⟨b1, 2, none⟩ = some (.int .u64 v1) := hB.cell 2
    have c13 : z3.cell? ⟨b1, 3, none⟩ = some (.slice a1 l1.length c1) := hB.cell 3
    have c14 : z3.cell? ⟨b1, 4, none⟩ = some (.bool g1) := hB.cell 4
    clear hB HA1
    cases n12 <;> cases n21 <;> cases al <;> cases n23 <;> cases n13 <;>
      (first
        | exact absurd Q1.out (by decide)
        | exact absurd Q2.out (by decide)
        | exact absurd Q3.out (by decide)
        | (clear Q1 Q2 Q3
           go_wp2_with fail
           refine (newer_any _ _ _ _ _ _ _ _ bv1.1 bv1.1 _ _ _ _ _ _ z3).mono ?_
           rintro e z4 ⟨rfl, hk4⟩
           rw [Q4'.out]
           go_wp2_with fail
           go_ret
           exact ⟨rfl, nest HX3.out hk4⟩))
  · have e1 : (v1 == v2) = false := by simpa using hv
    rw [e1, Bool.false_and] at q2
    clear hv
    generalize hal : false = al at q2
    have Q1 := Lib.hid q1
    have Q2 := Lib.hid q2
    have Q3 := Lib.hid q3
    have HAL := Lib.hid hal
    clear q1 q2 q3 hal
    go_wp2_with fail
    cases HAL.out
    clear HAL
    refine (ecawake_any _).mono ?_
    rintro e z3 ⟨rfl, hk3⟩
    have hB := HA1.out.keep hk3
    have HX3 := Lib.hid (nest HX2.out hk3)
    clear c10 c11 c12 c13 c14 c22 c24 HX2 hk3
    have c10 : z3.cell? ⟨b1, 0, none⟩ = some (.int .u32 x1) := hB.cell 0
    have c11 : z3.cell? ⟨b1, 1, none⟩ = some (.int .u64 i1) := hB.cell 1
    have c12 : z3.cell? ⟨b1, 2, none⟩ = some (.int .u64 v1) := hB.cell 2
    have c13 : z3.cell? ⟨b1, 3, none⟩ = some (.slice a1 l1.length c1) := hB.cell 3
    have c14 : z3.cell? ⟨b1, 4, none⟩ = some (.bool g1) := hB.cell 4
    clear hB HA1
    cases n12 <;> cases n21 <;> cases n23 <;> cases n13 <;>
      (first
        | exact absurd Q1.out (by decide)
        | exact absurd Q2.out (by decide)
        | exact absurd Q3.out (by decide)
        | (clear Q1 Q2 Q3
           go_wp2_with fail
           refine (newer_any _ _ _ _ _ _ _ _ bv1.1 bv1.1 _ _ _ _ _ _ z3).mono ?_
           rintro e z4 ⟨rfl, hk4⟩
           rw [Q4'.out]
           go_wp2_with fail
           go_ret
           exact ⟨rfl, nest HX3.out hk4⟩))
end Go.Proofs.Ytjjgckbjoficgaa.recordNewer
