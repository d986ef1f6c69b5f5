/- petasoshelp.In of loads: of one that is there. -/
import Derived.Test.YtgkmkpkbdmciiaaOwnL
import Derived.Test.YtgkmkpkbdmciiaaLdRef2
set_option maxRecDepth 4000
namespace Go.Proofs.Ytgkmkpkbdmciiaa
open Go.RowKit Mem
set_option linter.unusedSimpArgs false
set_option linter.unusedVariables false
attribute [local irreducible] Go.Calls

theorem ld_eql (x y : Ld) (w : World) : (binOp .eql 29 (.agg (lcs x).toArray) (.agg (lcs y).toArray)).run Try.prog w = .ok (.bool (decide (x = y))) w := by
  obtain ⟨p, q⟩ := x
  obtain ⟨r, s⟩ := y
  unfold lcs
  dsimp only
  by_cases h1 : p = r
  · subst h1
    by_cases h2 : q = s
    · subst h2
      rw [decide_eq_true rfl]
      go_simp
    · have e2 : (q == s) = false := beq_eq_false_iff_ne.2 h2
      rw [decide_eq_false (fun h => h2 (by injection h))]
      go_simp
  · have e1 : (p == r) = false := beq_eq_false_iff_ne.2 h1
    rw [decide_eq_false (fun h => h1 (by injection h))]
    go_simp
set_option maxHeartbeats 2000000 in
theorem inl_yes (v : Value) (L : List Ld) (x : Ld) (w : World) (h : Rd ldE w v L) (hx : x ∈ L) :
    Calls Try.prog 18 #[v, .agg (lcs x).toArray] w fun e w' => e = .returned (.bool true) ∧ Below w.heap.size w w' := by
  obtain ⟨a1, g1, o1, c1, rfl, hc1, hm1, ha1, k1⟩ := ld_row h
  have hm1' : c1 ≤ 9223372036854775807 := hm1
  have H1 := Lib.hid k1
  have HA1 := Lib.hid ha1
  have HIN : Hid (∃ k, k < L.length ∧ L.getD k (0, 0) = x) := Lib.hid (by
    obtain ⟨i, hi, rfl⟩ := List.getElem_of_mem hx
    exact ⟨i, hi, by simp [List.getD, hi]⟩)
  have HK0 : Hid (Below w.heap.size w (w.alloc (.cells (lcs x).toArray 29))) := Lib.hid (more_one _ _)
  have HB0 : Hid (Blk (w.alloc (.cells (lcs x).toArray 29)) w.heap.size 29 (lcs x).toArray) := Lib.hid (Blk.new _ _ _)
  clear h hx ha1 k1 hm1
  go_enter Try.func18, Try.ntmps18
  go_wp2_with fail
  generalize w.alloc (.cells (lcs x).toArray 29) = w1 at *
  obtain ⟨b, hb0⟩ : ∃ b, b = w.heap.size := ⟨_, rfl⟩
  rw [← hb0] at HB0 ⊢
  clear hb0
  go_loopw [5] (fun i wr => ∃ k : Nat, k ≤ L.length ∧ i = .int .i64 k ∧ (∀ t, t < k → L.getD t (0, 0) ≠ x) ∧ Below w1.heap.size w1 wr) (fun i _ => L.length - (intOf i).toNat)
  case atStart => exact ⟨0, Nat.zero_le _, rfl, fun t ht => absurd ht (Nat.not_lt_zero _), Below.refl _ _⟩
  case round =>
    obtain ⟨k, hk, rfl, hno, hb⟩ := hrel
    have HB := Lib.hid hb
    have HNO := Lib.hid hno
    obtain ⟨wo, hwo⟩ : ∃ z, z = wr := ⟨_, rfl⟩
    rw [← hwo] at HB ⊢
    clear hb hno hwo
    by_cases hlt : k < L.length
    · obtain rfl := HA1.out (by omega)
      have q1 := Lib.hid (H1.out k hlt)
      have HGK : Hid (L.getD k (0, 0) = L[k]) := Lib.hid (by simp [List.getD, hlt])
      obtain ⟨X, hX⟩ : ∃ X, X = L[k] := ⟨_, rfl⟩
      rw [← hX] at q1 HGK
      clear hX
      have heq := fun z => ld_eql X x z
      obtain ⟨eb, heb⟩ : ∃ e, e = decide (X = x) := ⟨_, rfl⟩
      rw [← heb] at heq
      have HEB := Lib.hid heb
      clear heb
      have hkl : (k : Int) < (L.length : Int) := by omega
      have HKA := Lib.hid (nest HK0.out HB.out)
      go_upto_region 4 with fail
      refine Run.region_walk (S := fun z => (∀ (j : Nat) (u : Value), (lcs X)[j]? = some u → z.cell? ⟨g1, o1 + k * 2 + j, none⟩ = some u) ∧ Blk z b 29 (lcs x).toArray ∧ Below w1.heap.size w1 z)
        inl.rows3 inl.plan3 (l := ?steps1) (by kernel_rfl) (by kernel_rfl) (by kernel_rfl) (by kernel_rfl) ?written1 ⟨fun j u hu => (HKA.out.cell (World.block_lt_of_cell? w _ (q1.out j u hu))).trans (q1.out j u hu), HB0.out.keep HB.out.drew, HB.out.drew⟩ ?onward1
      case written1 =>
        simp only [inl.plan3, Run.stepsOf, Run.stepOf, Run.guardOf, List.getElem?_toArray, List.getElem?_cons_zero, List.getElem?_cons_succ, Option.map_some, Option.map_none, Option.bind_some, Option.toList_some, List.map_cons, List.map_nil, List.cons_append, List.nil_append, List.append_eq]
        rfl
      repeat ((first
        | (refine Run.takes (v := ?_) ?_ ?_; rotate_left; (· intro w' hS'; (first | (refine exec_load_agg (n := 2) (x := .tmp 14) (l := lcs X) ?_ Try.underlying29 ld_info ?_ ?_ hS'.1 <;> rfl) | (refine exec_load_blk (n := 2) (x := .tmp 3) (l := lcs x) ?_ Try.underlying29 ld_info ?_ ?_ hS'.2.1 <;> rfl) | (go_simp; (try with_reducible rfl)))))
        | (refine Run.takesG (v := ?_) ?_ ?_ ?_; rotate_left; (· simp only [List.getElem?_cons_zero, List.getElem?_cons_succ]); (· intro w' hS'; (first | (refine exec_load_agg (n := 2) (x := .tmp 14) (l := lcs X) ?_ Try.underlying29 ld_info ?_ ?_ hS'.1 <;> rfl) | (refine exec_load_blk (n := 2) (x := .tmp 3) (l := lcs x) ?_ Try.underlying29 ld_info ?_ ?_ hS'.2.1 <;> rfl) | (go_simp; (try with_reducible rfl)))))
        | (refine Run.skipsT ?_ ?_; (· simp only [List.getElem?_cons_zero, List.getElem?_cons_succ]))
        | (refine Run.skipsF ?_ ?_; (· simp only [List.getElem?_cons_zero, List.getElem?_cons_succ]))
        | (refine Run.skipsU ?_ ?_; (· simp only [List.getElem?_cons_zero, List.getElem?_cons_succ]))
        | (refine Run.passT ?_ ?_; (· simp only [List.getElem?_cons_zero, List.getElem?_cons_succ]))
        | (refine Run.passF ?_ ?_; (· simp only [List.getElem?_cons_zero, List.getElem?_cons_succ]))
        | (refine Run.passU ?_ ?_; (· simp only [List.getElem?_cons_zero, List.getElem?_cons_succ]))
        | fail); simp only [Act.put, List.setIfInBounds_toArray, List.set_cons_zero, List.set_cons_succ])
      refine Run.ends (fun hS => ?_)
      have HB2 := Lib.hid hS.2.2
      clear hS heq
      cases eb with
      | true =>
        go_wp2_with fail
        go_ret
        exact ⟨rfl, nest HK0.out HB2.out⟩
      | false =>
        have HNX : Hid (L.getD k (0, 0) ≠ x) := Lib.hid (by rw [HGK.out]; exact of_decide_eq_false HEB.out.symm)
        go_wp2_with fail
        exact ⟨⟨k + 1, by omega, by go_num, fun t ht => by rcases Nat.lt_or_ge t k with h | h; exact HNO.out t h; rw [show t = k by omega]; exact HNX.out, HB2.out⟩, by simp [intOf]; omega⟩
    · have hkn : k = L.length := by omega
      subst hkn
      exact absurd HIN.out (by rintro ⟨t, ht, e⟩; exact HNO.out t ht e)
end Go.Proofs.Ytgkmkpkbdmciiaa
