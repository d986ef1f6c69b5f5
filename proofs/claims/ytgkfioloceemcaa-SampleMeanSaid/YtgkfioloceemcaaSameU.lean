/- Two lists of uint32 held against each other, one by one: petasoshelp.Plain, slices.Equal; two records: petasoshelp.Record, record.Same. -/
import Derived.Test.YtgkfioloceemcaaBytes
import Derived.Test.YtgkfioloceemcaaSameUPlans
import Derived.Test.YtgkfioloceemcaaRun
set_option maxRecDepth 4000
namespace Go.Proofs.Ytgkfioloceemcaa
open Go.RowKit Mem
set_option linter.unusedSimpArgs false
set_option linter.unusedVariables false
attribute [local irreducible] Go.Calls

theorem eqU_any (a b : Int) (w : World) :
    Calls Try.prog 28 #[.int .u32 a, .int .u32 b] w fun e w' => e = .returned (.bool (a == b)) ∧ Below w.heap.size w w' := by
  go_enter Try.func28, Try.ntmps28
  go_wp2
  go_ret
  exact ⟨by simp, Below.refl _ _⟩
/-- alike up to the k-th -/
def upTo (l m : List Int) (k : Nat) : Prop := ∀ i, i < k → l.getD i 0 = m.getD i 0
theorem upTo_all {l m : List Int} (h : l.length = m.length) (hk : upTo l m l.length) : l = m := by
  apply List.ext_getElem h
  intro i h1 h2
  have := hk i h1
  simpa [List.getD, h1, h2] using this
theorem upTo_ne {l m : List Int} {k : Nat} (hk : l.getD k 0 ≠ m.getD k 0) : l ≠ m := fun e => hk (by rw [e])

set_option maxHeartbeats 1000000 in
theorem sameU_any (v1 v2 : Value) (l m : List Int) (w : World) (h1 : Rd (intE .u32) w v1 l) (h2 : Rd (intE .u32) w v2 m) :
    Calls Try.prog 27 #[v1, v2, .func (.func 28) #[] #[]] w fun e w' => e = .returned (.bool (decide (l = m))) ∧ Below w.heap.size w w' := by
  obtain ⟨a1, g1, o1, c1, rfl, hc1, hm1, ha1, k1⟩ := Mem.Rd.loopI h1
  obtain ⟨a2, g2, o2, c2, rfl, hc2, hm2, ha2, k2⟩ := Mem.Rd.loopI h2
  have hm1' : c1 ≤ 9223372036854775807 := hm1
  have hm2' : c2 ≤ 9223372036854775807 := hm2
  by_cases hn : l.length = m.length
  case neg =>
    have hne : decide (l = m) = false := decide_eq_false (fun e => hn (by rw [e]))
    rw [hne]
    have e1 : ((l.length : Int) == m.length) = false := by simp; omega
    clear h1 h2 ha1 ha2 k1 k2
    go_enter Try.func27, Try.ntmps27
    go_wp2_with fail
    go_ret
    exact ⟨rfl, Below.refl _ _⟩
  have H1 := Lib.hid k1
  have H2 := Lib.hid k2
  have HN := Lib.hid hn
  have HA1 := Lib.hid ha1
  have HA2 := Lib.hid ha2
  have HALL : Hid (upTo l m l.length → l = m) := Lib.hid (fun h => upTo_all hn h)
  have HNE : Hid (∀ k, l.getD k 0 ≠ m.getD k 0 → l ≠ m) := Lib.hid (fun k h => upTo_ne h)
  rw [← hn] at hc2 ⊢
  clear h1 h2 ha1 ha2 k1 k2 hn
  go_enter Try.func27, Try.ntmps27
  go_wp2_with fail
  go_loopw [7] (fun i wr => ∃ k : Nat, k ≤ l.length ∧ i = .int .i64 k ∧ upTo l m k ∧ Below w.heap.size w wr) (fun i _ => l.length - (intOf i).toNat)
  case atStart => exact ⟨0, Nat.zero_le _, rfl, fun i hi => absurd hi (Nat.not_lt_zero _), Below.refl _ _⟩
  case round =>
    obtain ⟨k, hk, rfl, hu, hb⟩ := hrel
    have HU := Lib.hid hu
    clear hu
    by_cases hlt : k < l.length
    · obtain ⟨rfl, hg1⟩ := HA1.out (by omega)
      obtain ⟨rfl, hg2⟩ := HA2.out (by have := HN.out; omega)
      have d1 := (hb.cell (p := ⟨g1, o1 + k, none⟩) hg1).trans (H1.out k (by omega))
      have d2 := (hb.cell (p := ⟨g2, o2 + k, none⟩) hg2).trans (H2.out k (by have := HN.out; omega))
      go_wp2_with fail
      have HX : Hid (l.getD k 0 = m.getD k 0 → upTo l m (k + 1)) := Lib.hid (fun h i hi => by
        rcases Nat.lt_or_ge i k with h' | h'
        · exact HU.out i h'
        · rw [show i = k by omega]; exact h)
      have HY : Hid (l.getD k 0 ≠ m.getD k 0 → l ≠ m) := Lib.hid (HNE.out k)
      generalize l.getD k 0 = x at *
      generalize m.getD k 0 = y at *
      refine Run.region_walk (S := fun z => z.cell? ⟨g1, o1 + k, none⟩ = some (.int .u32 x) ∧ z.cell? ⟨g2, o2 + k, none⟩ = some (.int .u32 y) ∧ Below w.heap.size w z)
        sameu.rows5 sameu.plan5 (l := ?steps1) (by kernel_rfl) (by kernel_rfl) (by kernel_rfl) (by kernel_rfl) ?written1 ⟨d1, d2, hb.drew⟩ ?onward1
      case written1 =>
        simp only [sameu.plan5, Run.stepsOf, Run.stepOf, Run.guardOf, List.getElem?_toArray, List.getElem?_cons_zero, List.getElem?_cons_succ, Option.map_some, Option.map_none, Option.bind_some, Option.toList_some, List.map_cons, List.map_nil, List.cons_append, List.nil_append, List.append_eq]
        rfl
      repeat ((first
        | (refine Run.takes (v := ?_) ?_ ?_; rotate_left; (· intro w' hS'; go_simp; (try with_reducible rfl)))
        | (refine Run.takesG (v := ?_) ?_ ?_ ?_; rotate_left; (· simp only [List.getElem?_cons_zero, List.getElem?_cons_succ]); (· intro w' hS'; go_simp; (try with_reducible rfl)))
        | (refine Run.skipsT ?_ ?_; (· simp only [List.getElem?_cons_zero, List.getElem?_cons_succ]))
        | (refine Run.skipsF ?_ ?_; (· simp only [List.getElem?_cons_zero, List.getElem?_cons_succ]))
        | (refine Run.skipsU ?_ ?_; (· simp only [List.getElem?_cons_zero, List.getElem?_cons_succ]))
        | (refine Run.passT ?_ ?_; (· simp only [List.getElem?_cons_zero, List.getElem?_cons_succ]))
        | (refine Run.passF ?_ ?_; (· simp only [List.getElem?_cons_zero, List.getElem?_cons_succ]))
        | (refine Run.passU ?_ ?_; (· simp only [List.getElem?_cons_zero, List.getElem?_cons_succ]))
        | fail); simp only [Act.put, List.setIfInBounds_toArray, List.set_cons_zero, List.set_cons_succ])
      refine Run.runs (Run.one (fun hS K hK => ?_))
      go_simp
      refine (eqU_any _ _ _).mono ?_
      rintro e z ⟨rfl, hz⟩
      have hS1 := hS
      refine hK.out _ _ ⟨kc hz hS.1, kc hz hS.2.1, nest hS.2.2 hz⟩ ?_
      clear hK hS1
      repeat ((first
        | (refine Run.takes (v := ?_) ?_ ?_; rotate_left; (· intro w' hS'; go_simp; (try with_reducible rfl)))
        | (refine Run.takesG (v := ?_) ?_ ?_ ?_; rotate_left; (· simp only [List.getElem?_cons_zero, List.getElem?_cons_succ]); (· intro w' hS'; go_simp; (try with_reducible rfl)))
        | (refine Run.skipsT ?_ ?_; (· simp only [List.getElem?_cons_zero, List.getElem?_cons_succ]))
        | (refine Run.skipsF ?_ ?_; (· simp only [List.getElem?_cons_zero, List.getElem?_cons_succ]))
        | (refine Run.skipsU ?_ ?_; (· simp only [List.getElem?_cons_zero, List.getElem?_cons_succ]))
        | (refine Run.passT ?_ ?_; (· simp only [List.getElem?_cons_zero, List.getElem?_cons_succ]))
        | (refine Run.passF ?_ ?_; (· simp only [List.getElem?_cons_zero, List.getElem?_cons_succ]))
        | (refine Run.passU ?_ ?_; (· simp only [List.getElem?_cons_zero, List.getElem?_cons_succ]))
        | fail); simp only [Act.put, List.setIfInBounds_toArray, List.set_cons_zero, List.set_cons_succ])
      refine Run.ends (fun hS2 => ?_)
      clear K d1 d2
      obtain ⟨_, _, hb2⟩ := hS2
      by_cases hxy : x = y
      · have e2 : (x == y) = true := by simpa using hxy
        have HB2 := Lib.hid hb2
        clear hb2
        simp only [e2, Bool.not_true]
        go_wp2
        go_roundw
        case rel => exact ⟨k + 1, by omega, by go_num, HX.out hxy, HB2.out⟩
        case measure => simp [intOf]; omega
      · have e2 : (x == y) = false := by simpa using hxy
        have e3 := decide_eq_false (HY.out hxy)
        have HB2 := Lib.hid hb2
        clear hb2
        simp only [e2, Bool.not_false]
        go_wp2
        go_ret
        exact ⟨by rw [e3]; rfl, HB2.out⟩
    · have hkn : k = l.length := by omega
      subst hkn
      have e3 := decide_eq_true (HALL.out HU.out)
      go_wp2
      go_ret
      exact ⟨by rw [e3]; rfl, hb⟩
set_option maxHeartbeats 400000 in
theorem plainU_any (v1 v2 : Value) (l m : List Int) (w : World) (h1 : Rd (intE .u32) w v1 l) (h2 : Rd (intE .u32) w v2 m) :
    Calls Try.prog 16 #[v1, v2] w fun e w' => e = .returned (.bool (decide (l = m))) ∧ Below w.heap.size w w' := by
  have HC := Lib.hid (sameU_any v1 v2 l m w h1 h2)
  obtain ⟨a1, c1, rfl, _⟩ := h1.form
  obtain ⟨a2, c2, rfl, _⟩ := h2.form
  clear h1 h2
  go_enter Try.func16, Try.ntmps16
  go_wp2_with (go_at_call 27; refine HC.out.mono ?_; rintro e w' ⟨rfl, hk⟩)
  go_ret
  exact ⟨rfl, hk⟩
theorem plainU_yes (v1 v2 : Value) (l : List Int) (w : World) (h1 : Rd (intE .u32) w v1 l) (h2 : Rd (intE .u32) w v2 l) :
    Calls Try.prog 16 #[v1, v2] w fun e w' => e = .returned (.bool true) ∧ Below w.heap.size w w' :=
  (plainU_any v1 v2 l l w h1 h2).mono fun e w' h => ⟨by rw [h.1, decide_eq_true rfl], h.2⟩

/-- two records alike -/
def sameV (i1 v1 : Int) (l1 : List Int) (i2 v2 : Int) (l2 : List Int) : Bool := (i1 == i2) && (v1 == v2) && decide (l1 = l2)
end Go.Proofs.Ytgkfioloceemcaa
