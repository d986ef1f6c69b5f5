/- The document's answers for package dice (petasosref07): Step, Roll. -/
import Derived.Test.YtgkfioloceemcaaMem
import Derived.Test.YtgkfioloceemcaaDicePlans
import Derived.Test.YtgkfioloceemcaaRun
import Derived.Lib.EndianBits
set_option maxRecDepth 4000
namespace Go.Proofs.Ytgkfioloceemcaa
open Go.RowKit Mem
set_option linter.unusedSimpArgs false
set_option linter.unusedVariables false
attribute [local irreducible] Go.Calls

/-- the next state -/
def dnext (s : Int) : Int := (s + 11400714819323198485) % 18446744073709551616
theorem dnext_bd (s : Int) : 0 ≤ dnext s ∧ dnext s ≤ 18446744073709551615 := by unfold dnext; omega
/-- what a state tells -/
def xr (x d : Int) : Int := bits .xor .u64 x (x / d)
def dmix (x : Int) : Int := xr (IntKind.u64.wrap (xr (IntKind.u64.wrap (xr x 1073741824 * 13787848793156543929)) 134217728 * 10723151780598845931)) 2147483648
theorem xr_bd (x d : Int) : 0 ≤ xr x d ∧ xr x d ≤ 18446744073709551615 := by
  unfold xr bits
  rw [IntKind.wrap_u64]
  omega
attribute [irreducible] dnext
theorem dmix_bd (x : Int) : 0 ≤ dmix x ∧ dmix x ≤ 18446744073709551615 := xr_bd _ _
set_option maxHeartbeats 1000000 in
theorem rdstep_any (b : Nat) (s : Int) (bs : 0 ≤ s ∧ s ≤ 18446744073709551615) (w : World) (h : Blk w b 39 #[.int .u64 s]) :
    Calls Try.prog 18 #[.pointer (some ⟨b, 0, none⟩)] w fun e w' => e = .returned (.int .u64 (dmix (dnext s))) ∧ Blk w' b 39 #[.int .u64 (dnext s)] ∧ Only b w w' := by
  have hc : w.cell? ⟨b, 0, none⟩ = some (.int .u64 s) := h.cell 0
  have hf : w.frozen? ⟨b, 0, none⟩ = false := h.frozen 0
  have hw : IntKind.u64.wrap (s + 11400714819323198485) = dnext s := by rw [IntKind.wrap_u64]; unfold dnext; rfl
  go_enter Try.func18, Try.ntmps18
  go_wp2_with fail
  have hB := h.set_ 0 (.int .u64 (dnext s))
  have hO : Only b w (w.setCell ⟨b, 0, none⟩ (.int .u64 (dnext s))) := Only.set _ _ _
  have HB : Hid (Blk (w.setCell ⟨b, 0, none⟩ (.int .u64 (dnext s))) b 39 #[.int .u64 (dnext s)]) := Lib.hid hB
  have HO := Lib.hid hO
  have bn := dnext_bd s
  clear hB hO h hc hf hw
  generalize w.setCell ⟨b, 0, none⟩ (.int .u64 (dnext s)) = w1 at *
  have q : w1.drew.cell? ⟨b, 0, none⟩ = some (.int .u64 (dnext s)) := HB.out.cell 0
  refine Run.region_walk (S := fun z => z.cell? ⟨b, 0, none⟩ = some (.int .u64 (dnext s)))
    rdstep.rows2 rdstep.plan2 (l := ?steps1) (by kernel_rfl) (by kernel_rfl) (by kernel_rfl) (by kernel_rfl) ?written1 q ?onward1
  case written1 =>
    simp only [rdstep.plan2, Run.stepsOf, Run.stepOf, Run.guardOf, List.getElem?_toArray, List.getElem?_cons_zero, List.getElem?_cons_succ, Option.map_some, Option.map_none, Option.bind_some, Option.toList_some, List.map_cons, List.map_nil, List.cons_append, List.nil_append, List.append_eq]
    rfl
  repeat ((first
    | (refine Run.takes (v := ?_) ?_ ?_; rotate_left; (· intro w' hS'; go_simp; (try with_reducible rfl)))
    | (refine Run.takesG (v := ?_) ?_ ?_ ?_; rotate_left; (· simp only [List.getElem?_cons_zero, List.getElem?_cons_succ]); (· intro w' hS'; go_simp; (try with_reducible rfl)))
    | (refine Run.skipsT ?_ ?_; (· simp only [List.getElem?_cons_zero, List.getElem?_cons_succ]))
    | (refine Run.skipsF ?_ ?_; (· simp only [List.getElem?_cons_zero, List.getElem?_cons_succ]))
    | (refine Run.skipsU ?_ ?_; (· simp only [List.getElem?_cons_zero, List.getElem?_cons_succ]))
    | (refine Run.passT ?_ ?_; (· simp only [List.getElem?_cons_zero, List.getElem?_cons_succ]))
    | (refine Run.passF ?_ ?_; (· simp only [List.getElem?_cons_zero, List.getElem?_cons_succ]))
    | (refine Run.passU ?_ ?_; (· simp only [List.getElem?_cons_zero, List.getElem?_cons_succ]))
    | fail); simp only [Act.put, List.setIfInBounds_toArray, List.set_cons_zero, List.set_cons_succ])
  refine Run.ends (fun hS => ?_)
  clear q hS
  go_wp2_with fail
  go_ret
  exact ⟨by unfold dmix xr; rfl, HB.out, HO.out.drew⟩
/-- what a roll of n tells, and the state behind it -/
def droll (s n : Int) : Int := if n < 1 then 0 else dmix (dnext s) % n
def dafter (s n : Int) : Int := if n < 1 then s else dnext s
theorem dafter_bd (s n : Int) (bs : 0 ≤ s ∧ s ≤ 18446744073709551615) : 0 ≤ dafter s n ∧ dafter s n ≤ 18446744073709551615 := by
  unfold dafter
  split
  · exact bs
  · exact dnext_bd s
set_option maxHeartbeats 400000 in
theorem rdroll_any (b : Nat) (s : Int) (bs : 0 ≤ s ∧ s ≤ 18446744073709551615) (n : Int) (bn : -9223372036854775808 ≤ n ∧ n ≤ 9223372036854775807) (w : World) (h : Blk w b 39 #[.int .u64 s]) :
    Calls Try.prog 15 #[.pointer (some ⟨b, 0, none⟩), .int .i64 n] w fun e w' => e = .returned (.int .i64 (droll s n)) ∧ Blk w' b 39 #[.int .u64 (dafter s n)] ∧ Only b w w' := by
  unfold droll dafter
  by_cases hn : n < 1
  · rw [if_pos hn, if_pos hn]
    go_enter Try.func15, Try.ntmps15
    go_wp2_with fail
    go_ret
    exact ⟨rfl, h, Only.refl _ _⟩
  · rw [if_neg hn, if_neg hn]
    have HB := Lib.hid h
    have e1 : IntKind.u64.wrap n = n := by rw [IntKind.wrap_u64]; omega
    have hbd := dmix_bd (dnext s)
    have h1 := Int.emod_nonneg (dmix (dnext s)) (show n ≠ 0 by omega)
    have h2 := Int.emod_lt_of_pos (dmix (dnext s)) (show 0 < n by omega)
    have e2 : wrap64 (dmix (dnext s) % n) = dmix (dnext s) % n := by unfold wrap64; omega
    have hn0 : ¬ n = 0 := by omega
    clear h
    go_enter Try.func15, Try.ntmps15
    go_wp2_with fail
    refine (rdstep_any b s bs w HB.out).mono ?_
    rintro e w1 ⟨rfl, hb1, ho1⟩
    have HB1 := Lib.hid hb1
    have HO1 := Lib.hid ho1
    clear hb1 ho1
    go_wp2_with fail
    go_ret
    exact ⟨rfl, HB1.out, HO1.out⟩
end Go.Proofs.Ytgkfioloceemcaa
