/- petasoshelp.Entries of any two slices of entries. -/
import Derived.Test.YtihfkjodjaoocaaEnts
import Derived.Test.YtihfkjodjaoocaaSameE
import Derived.Test.YtihfkjodjaoocaaRun
import Derived.Test.YtihfkjodjaoocaaShPlans
import Derived.Test.YtihfkjodjaoocaaSameU
import Derived.Test.YtihfkjodjaoocaaMem
set_option maxRecDepth 4000
namespace Go.Proofs.Ytihfkjodjaoocaa
open Go.RowKit Mem
set_option linter.unusedSimpArgs false
set_option linter.unusedVariables false
attribute [local irreducible] Go.Calls

def upToE (l m : List Ent) (k : Nat) : Prop := ∀ i, i < k → l.getD i e0 = m.getD i e0
theorem upToE_all {l m : List Ent} (h : l.length = m.length) (hk : upToE l m l.length) : l = m := by
  apply List.ext_getElem h
  intro i h1 h2
  have := hk i h1
  simpa [List.getD, h1, h2] using this
theorem sameE_iff (x y : Ent) : sameE x.1 x.2.1.1 x.2.1.2.1 x.2.1.2.2 x.2.2 y.1 y.2.1.1 y.2.1.2.1 y.2.1.2.2 y.2.2 = decide (x = y) := by
  obtain ⟨a, ⟨b, c, d⟩, e⟩ := x
  obtain ⟨a', ⟨b', c', d'⟩, e'⟩ := y
  unfold sameE sameV
  rw [Bool.eq_iff_iff]
  simp only [Bool.and_eq_true, beq_iff_eq, decide_eq_true_eq, Prod.mk.injEq]
  constructor
  · rintro ⟨h1, h2, ⟨h3, h4⟩, h5⟩; exact ⟨h1, ⟨h3, h4, h5⟩, h2⟩
  · rintro ⟨h1, ⟨h3, h4, h5⟩, h2⟩; exact ⟨h1, h2, ⟨h3, h4⟩, h5⟩
set_option maxHeartbeats 2000000 in
theorem sameEs_any (v1 v2 : Value) (l m : List Ent) (w : World) (h1 : entsK.rd w [v1] l) (h2 : entsK.rd w [v2] m) :
    Calls Try.prog 30 #[v1, v2, .func (.func 31) #[] #[]] w fun e w' => e = .returned (.bool (decide (l = m))) ∧ Below w.heap.size w w' := by
  obtain ⟨a1, g1, o1, c1, rfl, hc1, hm1, ha1, k1⟩ := kd_loop h1
  obtain ⟨a2, g2, o2, c2, rfl, hc2, hm2, ha2, k2⟩ := kd_loop h2
  have hm1' : c1 ≤ 9223372036854775807 := hm1
  have hm2' : c2 ≤ 9223372036854775807 := hm2
  by_cases hn : l.length = m.length
  case neg =>
    have hne : decide (l = m) = false := decide_eq_false (fun e => hn (by rw [e]))
    rw [hne]
    have e1 : ((l.length : Int) == m.length) = false := by simp; omega
    clear h1 h2 ha1 ha2 k1 k2
    go_enter Try.func30, Try.ntmps30
    go_wp2_with fail
    go_ret
    exact ⟨rfl, Below.refl _ _⟩
  have H1 := Lib.hid k1
  have H2 := Lib.hid k2
  have HN := Lib.hid hn
  have HA1 := Lib.hid ha1
  have HA2 := Lib.hid ha2
  have HALL : Hid (upToE l m l.length → l = m) := Lib.hid (fun h => upToE_all hn h)
  have HNE : Hid (∀ k, l.getD k e0 ≠ m.getD k e0 → l ≠ m) := Lib.hid (fun k h e => h (by rw [e]))
  rw [← hn] at hc2 ⊢
  clear h1 h2 ha1 ha2 k1 k2 hn
  go_enter Try.func30, Try.ntmps30
  go_wp2_with fail
  go_loopw [7] (fun i wr => ∃ k : Nat, k ≤ l.length ∧ i = .int .i64 k ∧ upToE l m k ∧ Below w.heap.size w wr) (fun i _ => l.length - (intOf i).toNat)
  case atStart => exact ⟨0, Nat.zero_le _, rfl, fun i hi => absurd hi (Nat.not_lt_zero _), Below.refl _ _⟩
  case round =>
    obtain ⟨k, hk, rfl, hu, hb⟩ := hrel
    have HU := Lib.hid hu
    have HB := Lib.hid hb
    clear hu
    by_cases hlt : k < l.length
    · have hb1 := HA1.out (by omega)
      have hb2 := HA2.out (by have := HN.out; omega)
      subst hb1 hb2
      have hy1 : l[k]? = some (l.getD k e0) := by simp [List.getD, List.getElem?_eq_getElem hlt]
      have hy2 : m[k]? = some (m.getD k e0) := by simp [List.getD, List.getElem?_eq_getElem (show k < m.length by have := HN.out; omega)]
      obtain ⟨es1, he1, hre1⟩ := H1.out k _ hy1
      obtain ⟨es2, he2, hre2⟩ := H2.out k _ hy2
      have HX : Hid (l.getD k e0 = m.getD k e0 → upToE l m (k + 1)) := Lib.hid (fun h i hi => by
        rcases Nat.lt_or_ge i k with h' | h'
        · exact HU.out i h'
        · rw [show i = k by omega]; exact h)
      have HY : Hid (l.getD k e0 ≠ m.getD k e0 → l ≠ m) := Lib.hid (HNE.out k)
      clear hy1 hy2
      generalize l.getD k e0 = x at *
      generalize m.getD k e0 = y at *
      obtain ⟨x1, rfl, _, _, _, hrd1, _⟩ := entry_cells hre1
      obtain ⟨y1, rfl, _, _, _, hrd2, _⟩ := entry_cells hre2
      have HC : Hid (∀ z, Below w.heap.size w z → Calls Try.prog 31 #[.agg #[.int .u32 x.1, .int .u64 x.2.1.1, .int .u64 x.2.1.2.1, x1, .bool x.2.2], .agg #[.int .u32 y.1, .int .u64 y.2.1.1, .int .u64 y.2.1.2.1, y1, .bool y.2.2]] z fun e w' => e = .returned (.bool (decide (x = y))) ∧ Below z.heap.size z w') := Lib.hid (fun z hz => by rw [← sameE_iff]; exact entry_any x.1 x.2.1.1 x.2.1.2.1 y.1 y.2.1.1 y.2.1.2.1 x1 y1 x.2.1.2.2 y.2.1.2.2 x.2.2 y.2.2 z (hrd1.keep hz) (hrd2.keep hz))
      obtain ⟨ax, cx, hax, _, _⟩ := hrd1.form
      obtain ⟨ay, cy, hay, _, _⟩ := hrd2.form
      rw [hax, hay] at HC
      rw [hax] at he1
      rw [hay] at he2
      have d0 := kc hb (he1 0 (by decide))
      have d1 := kc hb (he1 1 (by decide))
      have d2 := kc hb (he1 2 (by decide))
      have d3 := kc hb (he1 3 (by decide))
      have d4 := kc hb (he1 4 (by decide))
      have f0 := kc hb (he2 0 (by decide))
      have f1 := kc hb (he2 1 (by decide))
      have f2 := kc hb (he2 2 (by decide))
      have f3 := kc hb (he2 3 (by decide))
      have f4 := kc hb (he2 4 (by decide))
      have hs5 : entryK.size = 5 := rfl
      rw [hs5] at d0 d1 d2 d3 d4 f0 f1 f2 f3 f4
      simp only [List.getElem?_cons_zero, List.getElem?_cons_succ, Nat.add_zero] at d0 d1 d2 d3 d4 f0 f1 f2 f3 f4
      rw [← Nat.add_assoc] at d1 d2 d3 d4 f1 f2 f3 f4
      generalize x.2.1.2.2.length = nx at *
      generalize y.2.1.2.2.length = ny at *
      clear he1 he2 hre1 hre2 hrd1 hrd2 hax hay
      go_wp2_with fail
      refine Run.region_walk (S := fun z => z.cell? ⟨g1, o1 + k * 5, none⟩ = some (.int .u32 x.1) ∧ z.cell? ⟨g1, o1 + k * 5 + 1, none⟩ = some (.int .u64 x.2.1.1) ∧ z.cell? ⟨g1, o1 + k * 5 + 2, none⟩ = some (.int .u64 x.2.1.2.1) ∧ z.cell? ⟨g1, o1 + k * 5 + 3, none⟩ = some (.slice ax nx cx) ∧ z.cell? ⟨g1, o1 + k * 5 + 4, none⟩ = some (.bool x.2.2) ∧ z.cell? ⟨g2, o2 + k * 5, none⟩ = some (.int .u32 y.1) ∧ z.cell? ⟨g2, o2 + k * 5 + 1, none⟩ = some (.int .u64 y.2.1.1) ∧ z.cell? ⟨g2, o2 + k * 5 + 2, none⟩ = some (.int .u64 y.2.1.2.1) ∧ z.cell? ⟨g2, o2 + k * 5 + 3, none⟩ = some (.slice ay ny cy) ∧ z.cell? ⟨g2, o2 + k * 5 + 4, none⟩ = some (.bool y.2.2) ∧ Below w.heap.size w z)
        hsameent.rows5 hsameent.plan5 (l := ?steps1) (by kernel_rfl) (by kernel_rfl) (by kernel_rfl) (by kernel_rfl) ?written1 ⟨d0, d1, d2, d3, d4, f0, f1, f2, f3, f4, hb.drew⟩ ?onward1
      case written1 =>
        simp only [hsameent.plan5, Run.stepsOf, Run.stepOf, Run.guardOf, List.getElem?_toArray, List.getElem?_cons_zero, List.getElem?_cons_succ, Option.map_some, Option.map_none, Option.bind_some, Option.toList_some, List.map_cons, List.map_nil, List.cons_append, List.nil_append, List.append_eq]
        rfl
      repeat ((first
        | (refine Run.takes (v := ?_) ?_ ?_; rotate_left; (· intro w' hS'; go_simp; (try with_reducible rfl)))
        | (refine Run.takesG (v := ?_) ?_ ?_ ?_; rotate_left; (· simp only [List.getElem?_cons_zero, List.getElem?_cons_succ]); (· intro w' hS'; go_simp; (try with_reducible rfl)))
        | (refine Run.skipsT ?_ ?_; (· simp only [List.getElem?_cons_zero, List.getElem?_cons_succ]))
        | (refine Run.skipsF ?_ ?_; (· simp only [List.getElem?_cons_zero, List.getElem?_cons_succ]))
        | (refine Run.skipsU ?_ ?_; (· simp only [List.getElem?_cons_zero, List.getElem?_cons_succ]))
        | (refine Run.passT ?_ ?_; (· simp only [List.getElem?_cons_zero, List.getElem?_cons_succ]))
        | (refine Run.passF ?_ ?_; (· simp only [List.getElem?_cons_zero, List.getElem?_cons_succ]))
        | (refine Run.passU ?_ ?_; (· simp only [List.getElem?_cons_zero, List.getElem?_cons_succ]))
        | fail); simp only [Act.put, List.setIfInBounds_toArray, List.set_cons_zero, List.set_cons_succ])
      refine Run.runs (Run.one (fun hS K hK => ?_))
      go_simp
      refine (HC.out _ hS.2.2.2.2.2.2.2.2.2.2).mono ?_
      rintro e z ⟨rfl, hz⟩
      have hS1 := hS
      refine hK.out _ _ ⟨kc hz hS.1, kc hz hS.2.1, kc hz hS.2.2.1, kc hz hS.2.2.2.1, kc hz hS.2.2.2.2.1, kc hz hS.2.2.2.2.2.1, kc hz hS.2.2.2.2.2.2.1, kc hz hS.2.2.2.2.2.2.2.1, kc hz hS.2.2.2.2.2.2.2.2.1, kc hz hS.2.2.2.2.2.2.2.2.2.1, nest hS.2.2.2.2.2.2.2.2.2.2 hz⟩ ?_
      clear hK hS1
      repeat ((first
        | (refine Run.takes (v := ?_) ?_ ?_; rotate_left; (· intro w' hS'; go_simp; (try with_reducible rfl)))
        | (refine Run.takesG (v := ?_) ?_ ?_ ?_; rotate_left; (· simp only [List.getElem?_cons_zero, List.getElem?_cons_succ]); (· intro w' hS'; go_simp; (try with_reducible rfl)))
        | (refine Run.skipsT ?_ ?_; (· simp only [List.getElem?_cons_zero, List.getElem?_cons_succ]))
        | (refine Run.skipsF ?_ ?_; (· simp only [List.getElem?_cons_zero, List.getElem?_cons_succ]))
        | (refine Run.skipsU ?_ ?_; (· simp only [List.getElem?_cons_zero, List.getElem?_cons_succ]))
        | (refine Run.passT ?_ ?_; (· simp only [List.getElem?_cons_zero, List.getElem?_cons_succ]))
        | (refine Run.passF ?_ ?_; (· simp only [List.getElem?_cons_zero, List.getElem?_cons_succ]))
        | (refine Run.passU ?_ ?_; (· simp only [List.getElem?_cons_zero, List.getElem?_cons_succ]))
        | fail); simp only [Act.put, List.setIfInBounds_toArray, List.set_cons_zero, List.set_cons_succ])
      refine Run.ends (fun hS2 => ?_)
      clear K d0 d1 d2 d3 d4 f0 f1 f2 f3 f4
      have HB2 := Lib.hid hS2.2.2.2.2.2.2.2.2.2.2
      clear hS2 hb
      by_cases hxy : x = y
      · have e2 : decide (x = y) = true := decide_eq_true hxy
        have HXY := Lib.hid (HX.out hxy)
        clear hxy
        simp only [e2, Bool.not_true]
        go_wp2
        go_roundw
        case rel => exact ⟨k + 1, by omega, by go_num, HXY.out, HB2.out⟩
        case measure => simp [intOf]; omega
      · have e2 : decide (x = y) = false := decide_eq_false hxy
        have e3 := decide_eq_false (HY.out hxy)
        clear hxy
        simp only [e2, Bool.not_false]
        go_wp2
        go_ret
        exact ⟨by rw [e3]; rfl, HB2.out⟩
    · have hkn : k = l.length := by omega
      subst hkn
      have e3 := decide_eq_true (HALL.out HU.out)
      clear hb
      go_wp2
      go_ret
      exact ⟨by rw [e3]; rfl, HB.out⟩
theorem entries_any (v1 v2 : Value) (l m : List Ent) (w : World) (h1 : entsK.rd w [v1] l) (h2 : entsK.rd w [v2] m) :
    Calls Try.prog 16 #[v1, v2] w fun e w' => e = .returned (.bool (decide (l = m))) ∧ Below w.heap.size w w' := by
  have HC := Lib.hid (sameEs_any v1 v2 l m w h1 h2)
  obtain ⟨a1, g1, o1, c1, rfl, _⟩ := kd_loop h1
  obtain ⟨a2, g2, o2, c2, rfl, _⟩ := kd_loop h2
  clear h1 h2
  go_enter Try.func16, Try.ntmps16
  go_wp2_with (go_at_call 30; refine HC.out.mono ?_; rintro e w' ⟨rfl, hk⟩)
  go_ret
  exact ⟨rfl, hk⟩
theorem entries_yes {Q Q' : Nat → Prop} (v1 v2 : Value) (l : List Ent) (w : World) (h1 : EntsIn Q w v1 l) (h2 : EntsIn Q' w v2 l) (hb : ∀ y ∈ l, entB y) :
    Calls Try.prog 16 #[v1, v2] w fun e w' => e = .returned (.bool true) ∧ Below w.heap.size w w' := by
  have := entries_any v1 v2 l l w (h1.kd hb) (h2.kd hb)
  rwa [decide_eq_true rfl] at this
end Go.Proofs.Ytihfkjodjaoocaa
