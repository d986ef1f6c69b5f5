/- petasoshelp.Records of any two slices of records. -/
import Derived.Test.YthhelhhlofdehaaMsg
import Derived.Test.YthhelhhlofdehaaMsgPlans
import Derived.Test.YthhelhhlofdehaaSameU
import Derived.Test.YthhelhhlofdehaaMem
set_option maxRecDepth 4000
namespace Go.Proofs.Ythhelhhlofdehaa
open Go.RowKit Mem
set_option linter.unusedSimpArgs false
set_option linter.unusedVariables false
attribute [local irreducible] Go.Calls

abbrev Rec := Int × Int × List Int
def upToR (l m : List Rec) (k : Nat) : Prop := ∀ i, i < k → l.getD i (0, 0, []) = m.getD i (0, 0, [])
theorem upToR_all {l m : List Rec} (h : l.length = m.length) (hk : upToR l m l.length) : l = m := by
  apply List.ext_getElem h
  intro i h1 h2
  have := hk i h1
  simpa [List.getD, h1, h2] using this
theorem sameV_iff (x y : Rec) : sameV x.1 x.2.1 x.2.2 y.1 y.2.1 y.2.2 = decide (x = y) := by
  obtain ⟨a, b, c⟩ := x
  obtain ⟨d, e, f⟩ := y
  unfold sameV
  rw [Bool.eq_iff_iff]
  simp [and_assoc]
set_option maxHeartbeats 2000000 in
theorem sameR_any (v1 v2 : Value) (l m : List Rec) (w : World) (h1 : recsK.rd w [v1] l) (h2 : recsK.rd w [v2] m) :
    Calls Try.prog 71 #[v1, v2, .func (.func 67) #[] #[]] w fun e w' => e = .returned (.bool (decide (l = m))) ∧ Below w.heap.size w w' := by
  obtain ⟨a1, g1, o1, c1, rfl, hc1, hm1, ha1, k1⟩ := kd_loop h1
  obtain ⟨a2, g2, o2, c2, rfl, hc2, hm2, ha2, k2⟩ := kd_loop h2
  have hm1' : c1 ≤ 9223372036854775807 := hm1
  have hm2' : c2 ≤ 9223372036854775807 := hm2
  by_cases hn : l.length = m.length
  case neg =>
    have hne : decide (l = m) = false := decide_eq_false (fun e => hn (by rw [e]))
    rw [hne]
    have e1 : ((l.length : Int) == m.length) = false := by simp; omega
    clear h1 h2 ha1 ha2 k1 k2
    go_enter Try.func71, Try.ntmps71
    go_wp2_with fail
    go_ret
    exact ⟨rfl, Below.refl _ _⟩
  have H1 := Lib.hid k1
  have H2 := Lib.hid k2
  have HN := Lib.hid hn
  have HA1 := Lib.hid ha1
  have HA2 := Lib.hid ha2
  have HALL : Hid (upToR l m l.length → l = m) := Lib.hid (fun h => upToR_all hn h)
  have HNE : Hid (∀ k, l.getD k (0, 0, []) ≠ m.getD k (0, 0, []) → l ≠ m) := Lib.hid (fun k h e => h (by rw [e]))
  rw [← hn] at hc2 ⊢
  clear h1 h2 ha1 ha2 k1 k2 hn
  go_enter Try.func71, Try.ntmps71
  go_wp2_with fail
  go_loopw [7] (fun i wr => ∃ k : Nat, k ≤ l.length ∧ i = .int .i64 k ∧ upToR l m k ∧ Below w.heap.size w wr) (fun i _ => l.length - (intOf i).toNat)
  case atStart => exact ⟨0, Nat.zero_le _, rfl, fun i hi => absurd hi (Nat.not_lt_zero _), Below.refl _ _⟩
  case round =>
    obtain ⟨k, hk, rfl, hu, hb⟩ := hrel
    have HU := Lib.hid hu
    have HB := Lib.hid hb
    clear hu
    by_cases hlt : k < l.length
    · have hb1 := HA1.out (by omega)
      have hb2 := HA2.out (by have := HN.out; omega)
      subst hb1 hb2
      have hy1 : l[k]? = some (l.getD k (0, 0, [])) := by simp [List.getD, List.getElem?_eq_getElem hlt]
      have hy2 : m[k]? = some (m.getD k (0, 0, [])) := by simp [List.getD, List.getElem?_eq_getElem (show k < m.length by have := HN.out; omega)]
      obtain ⟨es1, he1, hre1⟩ := H1.out k _ hy1
      obtain ⟨es2, he2, hre2⟩ := H2.out k _ hy2
      have HX : Hid (l.getD k (0, 0, []) = m.getD k (0, 0, []) → upToR l m (k + 1)) := Lib.hid (fun h i hi => by
        rcases Nat.lt_or_ge i k with h' | h'
        · exact HU.out i h'
        · rw [show i = k by omega]; exact h)
      have HY : Hid (l.getD k (0, 0, []) ≠ m.getD k (0, 0, []) → l ≠ m) := Lib.hid (HNE.out k)
      clear hy1 hy2
      generalize l.getD k (0, 0, []) = x at *
      generalize m.getD k (0, 0, []) = y at *
      obtain ⟨x1, rfl, _, _, hrd1, _⟩ := record_cells hre1
      obtain ⟨y1, rfl, _, _, hrd2, _⟩ := record_cells hre2
      have HC : Hid (∀ z, Below w.heap.size w z → Calls Try.prog 67 #[.agg #[.int .u64 x.1, .int .u64 x.2.1, x1], .agg #[.int .u64 y.1, .int .u64 y.2.1, y1]] z fun e w' => e = .returned (.bool (decide (x = y))) ∧ Below z.heap.size z w') := Lib.hid (fun z hz => by rw [← sameV_iff]; exact record_any x.1 x.2.1 y.1 y.2.1 x1 y1 x.2.2 y.2.2 z (hrd1.keep hz) (hrd2.keep hz))
      obtain ⟨ax, cx, hax, _, _⟩ := hrd1.form
      obtain ⟨ay, cy, hay, _, _⟩ := hrd2.form
      rw [hax, hay] at HC
      rw [hax] at he1
      rw [hay] at he2
      have d0 := kc hb (he1 0 (by decide))
      have d1 := kc hb (he1 1 (by decide))
      have d2 := kc hb (he1 2 (by decide))
      have f0 := kc hb (he2 0 (by decide))
      have f1 := kc hb (he2 1 (by decide))
      have f2 := kc hb (he2 2 (by decide))
      have hs3 : recordK.size = 3 := rfl
      rw [hs3] at d0 d1 d2 f0 f1 f2
      simp only [List.getElem?_cons_zero, List.getElem?_cons_succ, Nat.add_zero] at d0 d1 d2 f0 f1 f2
      rw [← Nat.add_assoc] at d1 d2 f1 f2
      clear he1 he2 hre1 hre2 hrd1 hrd2 hax hay
      go_wp2_with fail
      refine Run.region_walk (S := fun z => z.cell? ⟨g1, o1 + k * 3, none⟩ = some (.int .u64 x.1) ∧ z.cell? ⟨g1, o1 + k * 3 + 1, none⟩ = some (.int .u64 x.2.1) ∧ z.cell? ⟨g1, o1 + k * 3 + 2, none⟩ = some (.slice ax x.2.2.length cx) ∧ z.cell? ⟨g2, o2 + k * 3, none⟩ = some (.int .u64 y.1) ∧ z.cell? ⟨g2, o2 + k * 3 + 1, none⟩ = some (.int .u64 y.2.1) ∧ z.cell? ⟨g2, o2 + k * 3 + 2, none⟩ = some (.slice ay y.2.2.length cy) ∧ Below w.heap.size w z)
        hsamerec.rows5 hsamerec.plan5 (l := ?steps1) (by kernel_rfl) (by kernel_rfl) (by kernel_rfl) (by kernel_rfl) ?written1 ⟨d0, d1, d2, f0, f1, f2, hb.drew⟩ ?onward1
      case written1 =>
        simp only [hsamerec.plan5, Run.stepsOf, Run.stepOf, Run.guardOf, List.getElem?_toArray, List.getElem?_cons_zero, List.getElem?_cons_succ, Option.map_some, Option.map_none, Option.bind_some, Option.toList_some, List.map_cons, List.map_nil, List.cons_append, List.nil_append]
        rfl
      repeat ((first
        | (refine Run.takes (v := ?_) ?_ ?_; rotate_left; (· intro w' hS'; go_simp; (try with_reducible rfl)))
        | (refine Run.takesG (v := ?_) ?_ ?_ ?_; rotate_left; (· simp only [List.getElem?_cons_zero, List.getElem?_cons_succ]); (· intro w' hS'; go_simp; (try with_reducible rfl)))
        | (refine Run.skipsT ?_ ?_; (· simp only [List.getElem?_cons_zero, List.getElem?_cons_succ]))
        | (refine Run.skipsF ?_ ?_; (· simp only [List.getElem?_cons_zero, List.getElem?_cons_succ]))
        | (refine Run.skipsU ?_ ?_; (· simp only [List.getElem?_cons_zero, List.getElem?_cons_succ]))
        | (refine Run.passT ?_ ?_; (· simp only [List.getElem?_cons_zero, List.getElem?_cons_succ]))
        | (refine Run.passF ?_ ?_; (· simp only [List.getElem?_cons_zero, List.getElem?_cons_succ]))
        | (refine Run.passU ?_ ?_; (· simp only [List.getElem?_cons_zero, List.getElem?_cons_succ]))
        | fail); simp only [Act.put, List.setIfInBounds_toArray, List.set_cons_zero, List.set_cons_succ])
      refine Run.runs (Run.one (fun hS K hK => ?_))
      go_simp
      refine (HC.out _ hS.2.2.2.2.2.2).mono ?_
      rintro e z ⟨rfl, hz⟩
      have hS1 := hS
      refine hK.out _ _ ⟨kc hz hS.1, kc hz hS.2.1, kc hz hS.2.2.1, kc hz hS.2.2.2.1, kc hz hS.2.2.2.2.1, kc hz hS.2.2.2.2.2.1, nest hS.2.2.2.2.2.2 hz⟩ ?_
      clear hK hS1
      repeat ((first
        | (refine Run.takes (v := ?_) ?_ ?_; rotate_left; (· intro w' hS'; go_simp; (try with_reducible rfl)))
        | (refine Run.takesG (v := ?_) ?_ ?_ ?_; rotate_left; (· simp only [List.getElem?_cons_zero, List.getElem?_cons_succ]); (· intro w' hS'; go_simp; (try with_reducible rfl)))
        | (refine Run.skipsT ?_ ?_; (· simp only [List.getElem?_cons_zero, List.getElem?_cons_succ]))
        | (refine Run.skipsF ?_ ?_; (· simp only [List.getElem?_cons_zero, List.getElem?_cons_succ]))
        | (refine Run.skipsU ?_ ?_; (· simp only [List.getElem?_cons_zero, List.getElem?_cons_succ]))
        | (refine Run.passT ?_ ?_; (· simp only [List.getElem?_cons_zero, List.getElem?_cons_succ]))
        | (refine Run.passF ?_ ?_; (· simp only [List.getElem?_cons_zero, List.getElem?_cons_succ]))
        | (refine Run.passU ?_ ?_; (· simp only [List.getElem?_cons_zero, List.getElem?_cons_succ]))
        | fail); simp only [Act.put, List.setIfInBounds_toArray, List.set_cons_zero, List.set_cons_succ])
      refine Run.ends (fun hS2 => ?_)
      clear K d0 d1 d2 f0 f1 f2
      have HB2 := Lib.hid hS2.2.2.2.2.2.2
      clear hS2 hb
      by_cases hxy : x = y
      · have e2 : decide (x = y) = true := decide_eq_true hxy
        have HXY := Lib.hid (HX.out hxy)
        clear hxy
        simp only [e2, Bool.not_true]
        go_wp2
        go_roundw
        case rel => exact ⟨k + 1, by omega, by go_num, HXY.out, HB2.out⟩
        case measure => simp [intOf]; omega
      · have e2 : decide (x = y) = false := decide_eq_false hxy
        have e3 := decide_eq_false (HY.out hxy)
        clear hxy
        simp only [e2, Bool.not_false]
        go_wp2
        go_ret
        exact ⟨by rw [e3]; rfl, HB2.out⟩
    · have hkn : k = l.length := by omega
      subst hkn
      have e3 := decide_eq_true (HALL.out HU.out)
      clear hb
      go_wp2
      go_ret
      exact ⟨by rw [e3]; rfl, HB.out⟩
theorem records_any (v1 v2 : Value) (l m : List Rec) (w : World) (h1 : recsK.rd w [v1] l) (h2 : recsK.rd w [v2] m) :
    Calls Try.prog 50 #[v1, v2] w fun e w' => e = .returned (.bool (decide (l = m))) ∧ Below w.heap.size w w' := by
  have HC := Lib.hid (sameR_any v1 v2 l m w h1 h2)
  obtain ⟨a1, g1, o1, c1, rfl, _⟩ := kd_loop h1
  obtain ⟨a2, g2, o2, c2, rfl, _⟩ := kd_loop h2
  clear h1 h2
  go_enter Try.func50, Try.ntmps50
  go_wp2_with (go_at_call 71; refine HC.out.mono ?_; rintro e w' ⟨rfl, hk⟩)
  go_ret
  exact ⟨rfl, hk⟩
end Go.Proofs.Ythhelhhlofdehaa
