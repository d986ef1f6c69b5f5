/- petasoshelp.Plain, Own and Kept of ranges. -/
import Derived.Test.YthhelhhlofdehaaMem
import Derived.Test.YthhelhhlofdehaaBoxPlans
import Derived.Test.YthhelhhlofdehaaRun
set_option maxRecDepth 4000
namespace Go.Proofs.Ythhelhhlofdehaa
open Go.RowKit Mem
set_option linter.unusedSimpArgs false
set_option linter.unusedVariables false
attribute [local irreducible] Go.Calls

abbrev rngE : Enc (Int × Int × Int) := tripE .i64 .u32 .u32
theorem rngElem : Elem Try.prog 31 65 3 16 := elem_of (z := .agg #[.int .i64 0, .int .u32 0, .int .u32 0]) Try.underlying31 (by kernel_rfl) rfl
theorem eqR_yes (k a b : Int) (w : World) :
    Calls Try.prog 70 #[.agg #[.int .i64 k, .int .u32 a, .int .u32 b], .agg #[.int .i64 k, .int .u32 a, .int .u32 b]] w fun e w' => e = .returned (.bool true) ∧ Below w.heap.size w w' := by
  go_enter Try.func70, Try.ntmps70
  go_wp2
  go_ret
  exact ⟨rfl, more (more (Below.refl _ _) _) _⟩
set_option maxHeartbeats 1000000 in
theorem sameR_yes (v1 v2 : Value) (l : List (Int × Int × Int)) (w : World) (h1 : Rd rngE w v1 l) (h2 : Rd rngE w v2 l) :
    Calls Try.prog 69 #[v1, v2, .func (.func 70) #[] #[]] w fun e w' => e = .returned (.bool true) ∧ Below w.heap.size w w' := by
  obtain ⟨a1, g1, o1, c1, rfl, hc1, hm1, ha1, k1⟩ := Rd.loop3 h1
  obtain ⟨a2, g2, o2, c2, rfl, hc2, hm2, ha2, k2⟩ := Rd.loop3 h2
  have hm1' : c1 ≤ 9223372036854775807 := hm1
  have hm2' : c2 ≤ 9223372036854775807 := hm2
  have H1 := Lib.hid k1
  have H2 := Lib.hid k2
  have HA1 := Lib.hid ha1
  have HA2 := Lib.hid ha2
  clear h1 h2 ha1 ha2 k1 k2
  go_enter Try.func69, Try.ntmps69
  go_wp2_with fail
  go_loopw [7] (fun i wr => ∃ k : Nat, k ≤ l.length ∧ i = .int .i64 k ∧ Below w.heap.size w wr) (fun i _ => l.length - (intOf i).toNat)
  case atStart => exact ⟨0, Nat.zero_le _, rfl, Below.refl _ _⟩
  case round =>
    obtain ⟨k, hk, rfl, hb⟩ := hrel
    by_cases hlt : k < l.length
    · obtain ⟨rfl, hg1⟩ := HA1.out (by omega)
      obtain ⟨rfl, hg2⟩ := HA2.out (by omega)
      have d1 := (hb.cell (p := ⟨g1, o1 + k * 3, none⟩) hg1).trans (H1.out k hlt).1
      have d2 := (hb.cell (p := ⟨g1, o1 + k * 3 + 1, none⟩) hg1).trans (H1.out k hlt).2.1
      have d3 := (hb.cell (p := ⟨g1, o1 + k * 3 + 2, none⟩) hg1).trans (H1.out k hlt).2.2
      have d4 := (hb.cell (p := ⟨g2, o2 + k * 3, none⟩) hg2).trans (H2.out k hlt).1
      have d5 := (hb.cell (p := ⟨g2, o2 + k * 3 + 1, none⟩) hg2).trans (H2.out k hlt).2.1
      have d6 := (hb.cell (p := ⟨g2, o2 + k * 3 + 2, none⟩) hg2).trans (H2.out k hlt).2.2
      go_wp2_with fail
      generalize (l.getD k (0, 0, 0)).1 = x at *
      generalize (l.getD k (0, 0, 0)).2.1 = y at *
      generalize (l.getD k (0, 0, 0)).2.2 = u at *
      refine Run.region_walk (S := fun z => z.cell? ⟨g1, o1 + k * 3, none⟩ = some (.int .i64 x) ∧ z.cell? ⟨g1, o1 + k * 3 + 1, none⟩ = some (.int .u32 y) ∧ z.cell? ⟨g1, o1 + k * 3 + 2, none⟩ = some (.int .u32 u) ∧ z.cell? ⟨g2, o2 + k * 3, none⟩ = some (.int .i64 x) ∧ z.cell? ⟨g2, o2 + k * 3 + 1, none⟩ = some (.int .u32 y) ∧ z.cell? ⟨g2, o2 + k * 3 + 2, none⟩ = some (.int .u32 u) ∧ Below w.heap.size w z)
        samer.rows5 samer.plan5 (l := ?steps1) (by kernel_rfl) (by kernel_rfl) (by kernel_rfl) (by kernel_rfl) ?written1 ⟨d1, d2, d3, d4, d5, d6, hb.drew⟩ ?onward1
      case written1 =>
        simp only [samer.plan5, Run.stepsOf, Run.stepOf, Run.guardOf, List.getElem?_toArray, List.getElem?_cons_zero, List.getElem?_cons_succ, Option.map_some, Option.map_none, Option.bind_some, Option.toList_some, List.map_cons, List.map_nil, List.cons_append, List.nil_append]
        rfl
      repeat ((first
        | (refine Run.takes (v := ?_) ?_ ?_; rotate_left; (· intro w' hS'; go_simp; (try with_reducible rfl)))
        | (refine Run.takesG (v := ?_) ?_ ?_ ?_; rotate_left; (· simp only [List.getElem?_cons_zero, List.getElem?_cons_succ]); (· intro w' hS'; go_simp; (try with_reducible rfl)))
        | (refine Run.skipsT ?_ ?_; (· simp only [List.getElem?_cons_zero, List.getElem?_cons_succ]))
        | (refine Run.skipsF ?_ ?_; (· simp only [List.getElem?_cons_zero, List.getElem?_cons_succ]))
        | (refine Run.skipsU ?_ ?_; (· simp only [List.getElem?_cons_zero, List.getElem?_cons_succ]))
        | (refine Run.passT ?_ ?_; (· simp only [List.getElem?_cons_zero, List.getElem?_cons_succ]))
        | (refine Run.passF ?_ ?_; (· simp only [List.getElem?_cons_zero, List.getElem?_cons_succ]))
        | (refine Run.passU ?_ ?_; (· simp only [List.getElem?_cons_zero, List.getElem?_cons_succ]))
        | fail); simp only [Act.put, List.setIfInBounds_toArray, List.set_cons_zero, List.set_cons_succ])
      refine Run.runs (Run.one (fun hS K hK => ?_))
      go_simp
      refine (eqR_yes _ _ _ _).mono ?_
      rintro e z ⟨rfl, hz⟩
      have hS1 := hS
      refine hK.out _ _ ⟨kc hz hS.1, kc hz hS.2.1, kc hz hS.2.2.1, kc hz hS.2.2.2.1, kc hz hS.2.2.2.2.1, kc hz hS.2.2.2.2.2.1, nest hS.2.2.2.2.2.2 hz⟩ ?_
      clear hK hS1
      repeat ((first
        | (refine Run.takes (v := ?_) ?_ ?_; rotate_left; (· intro w' hS'; go_simp; (try with_reducible rfl)))
        | (refine Run.takesG (v := ?_) ?_ ?_ ?_; rotate_left; (· simp only [List.getElem?_cons_zero, List.getElem?_cons_succ]); (· intro w' hS'; go_simp; (try with_reducible rfl)))
        | (refine Run.skipsT ?_ ?_; (· simp only [List.getElem?_cons_zero, List.getElem?_cons_succ]))
        | (refine Run.skipsF ?_ ?_; (· simp only [List.getElem?_cons_zero, List.getElem?_cons_succ]))
        | (refine Run.skipsU ?_ ?_; (· simp only [List.getElem?_cons_zero, List.getElem?_cons_succ]))
        | (refine Run.passT ?_ ?_; (· simp only [List.getElem?_cons_zero, List.getElem?_cons_succ]))
        | (refine Run.passF ?_ ?_; (· simp only [List.getElem?_cons_zero, List.getElem?_cons_succ]))
        | (refine Run.passU ?_ ?_; (· simp only [List.getElem?_cons_zero, List.getElem?_cons_succ]))
        | fail); simp only [Act.put, List.setIfInBounds_toArray, List.set_cons_zero, List.set_cons_succ])
      refine Run.ends (fun hS2 => ?_)
      clear K d1 d2 d3 d4 d5 d6
      obtain ⟨_, _, _, _, _, _, hb2⟩ := hS2
      go_wp2
      go_roundw
      case rel => exact ⟨k + 1, by omega, by go_num, hb2⟩
      case measure => simp [intOf]; omega
    · have hkn : k = l.length := by omega
      subst hkn
      go_wp2
      go_ret
      exact ⟨rfl, hb⟩
theorem plainR_yes (v1 v2 : Value) (l : List (Int × Int × Int)) (w : World) (h1 : Rd rngE w v1 l) (h2 : Rd rngE w v2 l) :
    Calls Try.prog 49 #[v1, v2] w fun e w' => e = .returned (.bool true) ∧ Below w.heap.size w w' := by
  have HC := Lib.hid (sameR_yes v1 v2 l w h1 h2)
  obtain ⟨a1, c1, rfl, _⟩ := h1.form
  obtain ⟨a2, c2, rfl, _⟩ := h2.form
  clear h1 h2
  go_enter Try.func49, Try.ntmps49
  go_wp2_with (go_at_call 69; refine HC.out.mono ?_; rintro e w' ⟨rfl, hk⟩)
  go_ret
  exact ⟨rfl, hk⟩

def OwnPostR (w : World) (l : List (Int × Int × Int)) (x : Int × Int × Int) (e : Ending) (w' : World) : Prop :=
  ∃ g, e = .returned (.slice (some ⟨g, 0, none⟩) l.length (l.length + 3)) ∧ Row rngE 65 w.heap.size w' (.slice (some ⟨g, 0, none⟩) (l.length + 3) (l.length + 3)) (l ++ [x, x, x]) ∧ Below w.heap.size w w'
end Go.Proofs.Ythhelhhlofdehaa
