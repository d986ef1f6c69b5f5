/- The document's answers for package box: Right, Match, Empty, Pack. -/
import Derived.Test.YtpdijfhjdbmamaaBoxRef
namespace Go.Proofs.Ytpdijfhjdbmamaa
open Go.RowKit Mem
set_option linter.unusedSimpArgs false
set_option linter.unusedVariables false
attribute [local irreducible] Go.Calls

theorem all_yes {α : Type} {l : List α} {d : α} {f : α → Bool} (h : ∀ i, i < l.length → f (l.getD i d) = true) : l.all f = true := by
  rw [List.all_eq_true]
  intro x hx
  obtain ⟨i, hi, rfl⟩ := List.getElem_of_mem hx
  have := h i hi
  simpa [List.getD, hi] using this
theorem all_no {α : Type} {l : List α} {d : α} {f : α → Bool} {k : Nat} (hk : k < l.length) (h : f (l.getD k d) = false) : l.all f = false := by
  rw [List.all_eq_false]
  exact ⟨l[k], List.getElem_mem hk, by rw [show l.getD k d = l[k] by simp [List.getD, hk]] at h; rw [h]; simp⟩
theorem any_no {α : Type} {l : List α} {d : α} {f : α → Bool} (h : ∀ i, i < l.length → f (l.getD i d) = false) : l.any f = false := by
  rw [List.any_eq_false]
  intro x hx
  obtain ⟨i, hi, rfl⟩ := List.getElem_of_mem hx
  have := h i hi
  rw [show l.getD i d = l[i] by simp [List.getD, hi]] at this
  rw [this]
  simp
theorem any_yes {α : Type} {l : List α} {d : α} {f : α → Bool} {k : Nat} (hk : k < l.length) (h : f (l.getD k d) = true) : l.any f = true := by
  rw [List.any_eq_true]
  exact ⟨l[k], List.getElem_mem hk, by rwa [show l.getD k d = l[k] by simp [List.getD, hk]] at h⟩
theorem next_all {k : Nat} {p : Nat → Prop} (h : ∀ i, i < k → p i) (hk : p k) : ∀ i, i < k + 1 → p i := fun i hi => by
  rcases Nat.lt_or_ge i k with h' | h'
  · exact h i h'
  · rw [show i = k by omega]; exact hk
/-- the bounds of ranges -/
def RB (l : List (Int × Int × Int)) : Prop := ∀ x ∈ l, (0 ≤ x.2.1 ∧ x.2.1 ≤ 4294967295) ∧ (0 ≤ x.2.2 ∧ x.2.2 ≤ 4294967295)
theorem RB.at {l : List (Int × Int × Int)} (h : RB l) {k : Nat} (hk : k < l.length) : (0 ≤ (l.getD k (0, 0, 0)).2.1 ∧ (l.getD k (0, 0, 0)).2.1 ≤ 4294967295) ∧ (0 ≤ (l.getD k (0, 0, 0)).2.2 ∧ (l.getD k (0, 0, 0)).2.2 ≤ 4294967295) := by
  rw [show l.getD k (0, 0, 0) = l[k] by simp [List.getD, hk]]
  exact h _ (List.getElem_mem hk)
theorem ub_at {l : List Int} (h : ∀ x ∈ l, 0 ≤ x ∧ x ≤ 4294967295) {k : Nat} (hk : k < l.length) : 0 ≤ l.getD k 0 ∧ l.getD k 0 ≤ 4294967295 := by
  rw [show l.getD k 0 = l[k] by simp [List.getD, hk]]
  exact h _ (List.getElem_mem hk)
/-- may it be a box of so many attributes? -/
def rightB (attrs : Int) (l : List (Int × Int × Int)) : Bool := decide (1 ≤ attrs) && decide (attrs ≤ 8) && decide ((l.length : Int) = attrs) && l.all (fun (r : Int × Int × Int) => kindV r.1)
set_option maxHeartbeats 1000000 in
theorem rrightb_any (attrs : Int) (v : Value) (l : List (Int × Int × Int)) (w : World) (h : Rd rngE w v l) :
    Calls Try.prog 15 #[.int .i64 attrs, v] w fun e w' => e = .returned (.bool (rightB attrs l)) ∧ Below w.heap.size w w' := by
  obtain ⟨a, g, off, c, rfl, hc1, hm1, ha, hcell⟩ := Rd.loop3 h
  have hm1' : c ≤ 9223372036854775807 := hm1
  have HA := Lib.hid ha
  have HC := Lib.hid hcell
  clear h ha hcell
  by_cases h1 : attrs < 1
  · have e : rightB attrs l = false := by simp [rightB]; omega
    rw [e]
    go_enter Try.func15, Try.ntmps15
    go_wp2_with fail
    go_ret
    exact ⟨rfl, Below.refl _ _⟩
  by_cases h2 : attrs > 8
  · have e : rightB attrs l = false := by simp [rightB]; omega
    rw [e]
    go_enter Try.func15, Try.ntmps15
    go_wp2_with fail
    go_ret
    exact ⟨rfl, Below.refl _ _⟩
  by_cases h3 : (l.length : Int) = attrs
  case neg =>
    have e : rightB attrs l = false := by simp [rightB]; omega
    rw [e]
    have d3 : ((l.length : Int) == attrs) = false := by simpa using h3
    go_enter Try.func15, Try.ntmps15
    go_wp2_with fail
    go_ret
    exact ⟨rfl, Below.refl _ _⟩
  subst h3
  have e : rightB l.length l = l.all (fun (r : Int × Int × Int) => kindV r.1) := by
    have h1' : (1 : Int) ≤ l.length := by omega
    have h2' : (l.length : Int) ≤ 8 := by omega
    unfold rightB
    rw [decide_eq_true h1', decide_eq_true h2', decide_eq_true rfl]
    simp
  rw [e]
  have HY : Hid ((∀ i, i < l.length → kindV (l.getD i (0, 0, 0)).1 = true) → l.all (fun (r : Int × Int × Int) => kindV r.1) = true) := Lib.hid (fun h => all_yes (f := fun (r : Int × Int × Int) => kindV r.1) h)
  have HN : Hid (∀ k, k < l.length → kindV (l.getD k (0, 0, 0)).1 = false → l.all (fun (r : Int × Int × Int) => kindV r.1) = false) := Lib.hid (fun k hk h => all_no (f := fun (r : Int × Int × Int) => kindV r.1) hk h)
  generalize l.all (fun (r : Int × Int × Int) => kindV r.1) = res at *
  clear e
  go_enter Try.func15, Try.ntmps15
  go_wp2_with fail
  go_loopw [5] (fun i wr => ∃ k : Nat, k ≤ l.length ∧ i = .int .i64 k ∧ (∀ i, i < k → kindV (l.getD i (0, 0, 0)).1 = true) ∧ Below w.heap.size w wr) (fun i _ => l.length - (intOf i).toNat)
  case atStart => exact ⟨0, Nat.zero_le _, rfl, fun i hi => absurd hi (Nat.not_lt_zero _), Below.refl _ _⟩
  case round =>
    obtain ⟨k, hk, rfl, hu, hb⟩ := hrel
    have HU := Lib.hid hu
    clear hu
    by_cases hlt : k < l.length
    · obtain ⟨rfl, hg⟩ := HA.out (by omega)
      have d1 := (hb.cell (p := ⟨g, off + k * 3, none⟩) hg).trans (HC.out k hlt).1
      have d2 := (hb.cell (p := ⟨g, off + k * 3 + 1, none⟩) hg).trans (HC.out k hlt).2.1
      have d3 := (hb.cell (p := ⟨g, off + k * 3 + 2, none⟩) hg).trans (HC.out k hlt).2.2
      have HX : Hid (kindV (l.getD k (0, 0, 0)).1 = true → ∀ i, i < k + 1 → kindV (l.getD i (0, 0, 0)).1 = true) := Lib.hid (fun h => next_all HU.out h)
      have HNk := Lib.hid (HN.out k hlt)
      generalize (l.getD k (0, 0, 0)).1 = x at *
      generalize (l.getD k (0, 0, 0)).2.1 = y at *
      generalize (l.getD k (0, 0, 0)).2.2 = u at *
      have HB := Lib.hid hb
      clear hb
      go_wp2_with fail
      refine (rkind_any x y u wr).mono ?_
      rintro e w1 ⟨rfl, hb1⟩
      have HB1 := Lib.hid (nest HB.out hb1)
      clear hb1 d1 d2 d3
      cases hx : kindV x with
      | true =>
        have H2 := Lib.hid (HX.out hx)
        clear hx
        go_wp2_with fail
        exact ⟨⟨k + 1, by omega, by go_num, H2.out, HB1.out⟩, by simp [intOf]; omega⟩
      | false =>
        have H2 := Lib.hid (HNk.out hx)
        clear hx
        go_wp2_with fail
        go_ret
        exact ⟨by rw [H2.out]; rfl, HB1.out⟩
    · have hkn : k = l.length := by omega
      subst hkn
      have HR := Lib.hid (HY.out HU.out)
      go_wp2_with fail
      go_ret
      exact ⟨by rw [HR.out]; rfl, hb⟩
/-- does a box match values? -/
def matchV (l : List (Int × Int × Int)) (vs : List Int) : Bool := decide (l.length = vs.length) && (List.range l.length).all (fun i => inV (l.getD i (0, 0, 0)) (vs.getD i 0))
theorem match_yes {l : List (Int × Int × Int)} {vs : List Int} (hn : l.length = vs.length) (h : ∀ i, i < l.length → inV (l.getD i (0, 0, 0)) (vs.getD i 0) = true) : matchV l vs = true := by
  unfold matchV
  rw [decide_eq_true hn, Bool.true_and, List.all_eq_true]
  intro i hi
  exact h i (List.mem_range.1 hi)
theorem match_no {l : List (Int × Int × Int)} {vs : List Int} {k : Nat} (hk : k < l.length) (h : inV (l.getD k (0, 0, 0)) (vs.getD k 0) = false) : matchV l vs = false := by
  unfold matchV
  have : (List.range l.length).all (fun i => inV (l.getD i (0, 0, 0)) (vs.getD i 0)) = false := by
    rw [List.all_eq_false]
    exact ⟨k, List.mem_range.2 hk, by rw [h]; simp⟩
  rw [this, Bool.and_false]
set_option maxHeartbeats 1000000 in
theorem rmatch_any (v1 v2 : Value) (l : List (Int × Int × Int)) (vs : List Int) (w : World) (h1 : Rd rngE w v1 l) (h2 : Rd (intE .u32) w v2 vs) (bl : RB l) (bv : ∀ x ∈ vs, 0 ≤ x ∧ x ≤ 4294967295) :
    Calls Try.prog 17 #[v1, v2] w fun e w' => e = .returned (.bool (matchV l vs)) ∧ Below w.heap.size w w' := by
  obtain ⟨a1, g1, o1, c1, rfl, hc1, hm1, ha1, k1⟩ := Rd.loop3 h1
  obtain ⟨a2, g2, o2, c2, rfl, hc2, hm2, ha2, k2⟩ := Mem.Rd.loopI h2
  have hm1' : c1 ≤ 9223372036854775807 := hm1
  have hm2' : c2 ≤ 9223372036854775807 := hm2
  have H1 := Lib.hid k1
  have H2 := Lib.hid k2
  have HA1 := Lib.hid ha1
  have HA2 := Lib.hid ha2
  have HBL := Lib.hid bl
  have HBV := Lib.hid bv
  clear h1 h2 ha1 ha2 k1 k2 bl bv
  by_cases hn : l.length = vs.length
  case neg =>
    have hne : matchV l vs = false := by unfold matchV; rw [decide_eq_false hn, Bool.false_and]
    rw [hne]
    have e1 : ((l.length : Int) == vs.length) = false := by simp; omega
    go_enter Try.func17, Try.ntmps17
    go_wp2_with fail
    go_ret
    exact ⟨rfl, Below.refl _ _⟩
  have HY : Hid ((∀ i, i < l.length → inV (l.getD i (0, 0, 0)) (vs.getD i 0) = true) → matchV l vs = true) := Lib.hid (fun h => match_yes hn h)
  have HNO : Hid (∀ k, k < l.length → inV (l.getD k (0, 0, 0)) (vs.getD k 0) = false → matchV l vs = false) := Lib.hid (fun k hk h => match_no hk h)
  have HN := Lib.hid hn
  rw [← hn] at hc2 ⊢
  clear hn
  generalize matchV l vs = res at *
  go_enter Try.func17, Try.ntmps17
  go_wp2_with fail
  go_loopw [5] (fun i wr => ∃ k : Nat, k ≤ l.length ∧ i = .int .i64 k ∧ (∀ i, i < k → inV (l.getD i (0, 0, 0)) (vs.getD i 0) = true) ∧ Below w.heap.size w wr) (fun i _ => l.length - (intOf i).toNat)
  case atStart => exact ⟨0, Nat.zero_le _, rfl, fun i hi => absurd hi (Nat.not_lt_zero _), Below.refl _ _⟩
  case round =>
    obtain ⟨k, hk, rfl, hu, hb⟩ := hrel
    have HU := Lib.hid hu
    clear hu
    by_cases hlt : k < l.length
    · obtain ⟨rfl, hg1⟩ := HA1.out (by omega)
      obtain ⟨rfl, hg2⟩ := HA2.out (by have := HN.out; omega)
      have d1 := (hb.cell (p := ⟨g1, o1 + k * 3, none⟩) hg1).trans (H1.out k hlt).1
      have d2 := (hb.cell (p := ⟨g1, o1 + k * 3 + 1, none⟩) hg1).trans (H1.out k hlt).2.1
      have d3 := (hb.cell (p := ⟨g1, o1 + k * 3 + 2, none⟩) hg1).trans (H1.out k hlt).2.2
      have d4 := (hb.cell (p := ⟨g2, o2 + k, none⟩) hg2).trans (H2.out k (by have := HN.out; omega))
      have hbl := HBL.out.at hlt
      have hbv := ub_at HBV.out (k := k) (by have := HN.out; omega)
      have HX : Hid (inV (l.getD k (0, 0, 0)) (vs.getD k 0) = true → ∀ i, i < k + 1 → inV (l.getD i (0, 0, 0)) (vs.getD i 0) = true) := Lib.hid (fun h => next_all HU.out h)
      have HNk := Lib.hid (HNO.out k hlt)
      go_wp2_with fail
      generalize vs.getD k 0 = q at *
      generalize l.getD k (0, 0, 0) = r at *
      obtain ⟨x, y, u⟩ := r
      simp only [] at d1 d2 d3 hbl
      refine Run.region_walk (S := fun z => z.cell? ⟨g1, o1 + k * 3, none⟩ = some (.int .i64 x) ∧ z.cell? ⟨g1, o1 + k * 3 + 1, none⟩ = some (.int .u32 y) ∧ z.cell? ⟨g1, o1 + k * 3 + 2, none⟩ = some (.int .u32 u) ∧ z.cell? ⟨g2, o2 + k, none⟩ = some (.int .u32 q) ∧ Below w.heap.size w z)
        rmatch.rows5 rmatch.plan5 (l := ?steps4) (by kernel_rfl) (by kernel_rfl) (by kernel_rfl) (by kernel_rfl) ?written4 ⟨d1, d2, d3, d4, hb.drew⟩ ?onward4
      case written4 =>
        simp only [rmatch.plan5, Run.stepsOf, Run.stepOf, Run.guardOf, List.getElem?_toArray, List.getElem?_cons_zero, List.getElem?_cons_succ, Option.map_some, Option.map_none, Option.bind_some, Option.toList_some, List.map_cons, List.map_nil, List.cons_append, List.nil_append]
        rfl
      repeat ((first
        | (refine Run.takes (v := ?_) ?_ ?_; rotate_left; (· intro w' hS'; go_simp; (try with_reducible rfl)))
        | (refine Run.takesG (v := ?_) ?_ ?_ ?_; rotate_left; (· simp only [List.getElem?_cons_zero, List.getElem?_cons_succ]); (· intro w' hS'; go_simp; (try with_reducible rfl)))
        | (refine Run.skipsT ?_ ?_; (· simp only [List.getElem?_cons_zero, List.getElem?_cons_succ]))
        | (refine Run.skipsF ?_ ?_; (· simp only [List.getElem?_cons_zero, List.getElem?_cons_succ]))
        | (refine Run.skipsU ?_ ?_; (· simp only [List.getElem?_cons_zero, List.getElem?_cons_succ]))
        | (refine Run.passT ?_ ?_; (· simp only [List.getElem?_cons_zero, List.getElem?_cons_succ]))
        | (refine Run.passF ?_ ?_; (· simp only [List.getElem?_cons_zero, List.getElem?_cons_succ]))
        | (refine Run.passU ?_ ?_; (· simp only [List.getElem?_cons_zero, List.getElem?_cons_succ]))
        | (refine Run.runs ?_
           (first
           | (refine Run.callF 24 (by kernel_rfl) (fun hS => rin_any x y u q hbl.1 hbl.2 hbv _) rfl ?_)
           | (refine Run.callG 24 (by kernel_rfl) ?_ (fun hS => rin_any x y u q hbl.1 hbl.2 hbv _) rfl ?_; (· simp only [List.getElem?_cons_zero, List.getElem?_cons_succ]))
           | fail)
           (first
           | (rintro hS e w' ⟨rfl, rfl⟩; refine ⟨_, rfl, hS, ?_⟩)
           | (rintro hS e w' ⟨rfl, hb⟩; refine ⟨_, rfl, ⟨kc hb hS.1, kc hb hS.2.1, kc hb hS.2.2.1, kc hb hS.2.2.2.1, nest hS.2.2.2.2 hb⟩, ?_⟩)
           | fail))
        | fail); simp only [Act.put, List.setIfInBounds_toArray, List.set_cons_zero, List.set_cons_succ])
      refine Run.ends (fun hS2 => ?_)
      have HB1 := Lib.hid hS2.2.2.2.2
      clear d1 d2 d3 d4 hS2
      cases hx : inV (x, y, u) q with
      | true =>
        have H3 := Lib.hid (HX.out hx)
        clear hx
        go_wp2_with fail
        exact ⟨⟨k + 1, by omega, by go_num, H3.out, HB1.out⟩, by simp [intOf]; omega⟩
      | false =>
        have H3 := Lib.hid (HNk.out hx)
        clear hx
        go_wp2_with fail
        go_ret
        exact ⟨by rw [H3.out]; rfl, HB1.out⟩
    · have hkn : k = l.length := by omega
      subst hkn
      have HR := Lib.hid (HY.out HU.out)
      go_wp2_with fail
      go_ret
      exact ⟨by rw [HR.out]; rfl, hb⟩
/-- has a box nothing? -/
def emptyV (l : List (Int × Int × Int)) : Bool := l.any (fun (r : Int × Int × Int) => (r.1 == 3) || !kindV r.1)
set_option maxHeartbeats 1000000 in
theorem rempty_any (v : Value) (l : List (Int × Int × Int)) (w : World) (h : Rd rngE w v l) :
    Calls Try.prog 19 #[v] w fun e w' => e = .returned (.bool (emptyV l)) ∧ Below w.heap.size w w' := by
  obtain ⟨a, g, off, c, rfl, hc1, hm1, ha, hcell⟩ := Rd.loop3 h
  have hm1' : c ≤ 9223372036854775807 := hm1
  have HA := Lib.hid ha
  have HC := Lib.hid hcell
  clear h ha hcell
  have HY : Hid ((∀ i, i < l.length → ((l.getD i (0, 0, 0)).1 == 3 || !kindV (l.getD i (0, 0, 0)).1) = false) → emptyV l = false) := Lib.hid (fun h => any_no (f := fun (r : Int × Int × Int) => (r.1 == 3) || !kindV r.1) h)
  have HN : Hid (∀ k, k < l.length → ((l.getD k (0, 0, 0)).1 == 3 || !kindV (l.getD k (0, 0, 0)).1) = true → emptyV l = true) := Lib.hid (fun k hk h => any_yes (f := fun (r : Int × Int × Int) => (r.1 == 3) || !kindV r.1) hk h)
  generalize emptyV l = res at *
  go_enter Try.func19, Try.ntmps19
  go_wp2_with fail
  go_loopw [3] (fun i wr => ∃ k : Nat, k ≤ l.length ∧ i = .int .i64 k ∧ (∀ i, i < k → ((l.getD i (0, 0, 0)).1 == 3 || !kindV (l.getD i (0, 0, 0)).1) = false) ∧ Below w.heap.size w wr) (fun i _ => l.length - (intOf i).toNat)
  case atStart => exact ⟨0, Nat.zero_le _, rfl, fun i hi => absurd hi (Nat.not_lt_zero _), Below.refl _ _⟩
  case round =>
    obtain ⟨k, hk, rfl, hu, hb⟩ := hrel
    have HU := Lib.hid hu
    clear hu
    by_cases hlt : k < l.length
    · obtain ⟨rfl, hg⟩ := HA.out (by omega)
      have d1 := (hb.cell (p := ⟨g, off + k * 3, none⟩) hg).trans (HC.out k hlt).1
      have d2 := (hb.cell (p := ⟨g, off + k * 3 + 1, none⟩) hg).trans (HC.out k hlt).2.1
      have d3 := (hb.cell (p := ⟨g, off + k * 3 + 2, none⟩) hg).trans (HC.out k hlt).2.2
      have HX : Hid (((l.getD k (0, 0, 0)).1 == 3 || !kindV (l.getD k (0, 0, 0)).1) = false → ∀ i, i < k + 1 → ((l.getD i (0, 0, 0)).1 == 3 || !kindV (l.getD i (0, 0, 0)).1) = false) := Lib.hid (fun h => next_all HU.out h)
      have HNk := Lib.hid (HN.out k hlt)
      generalize (l.getD k (0, 0, 0)).1 = x at *
      generalize (l.getD k (0, 0, 0)).2.1 = y at *
      generalize (l.getD k (0, 0, 0)).2.2 = u at *
      have HB := Lib.hid hb
      clear hb
      by_cases hx3 : x = 3
      · subst hx3
        have H2 := Lib.hid (HNk.out rfl)
        go_wp2_with fail
        go_ret
        exact ⟨by rw [H2.out]; rfl, HB.out⟩
      · have e3 : (x == 3) = false := by simpa using hx3
        rw [e3, Bool.false_or] at HX HNk
        go_wp2_with fail
        refine (rkind_any x y u wr).mono ?_
        rintro e w1 ⟨rfl, hb1⟩
        have HB1 := Lib.hid (nest HB.out hb1)
        clear hb1 d1 d2 d3
        cases hx : kindV x with
        | true =>
          have H2 := Lib.hid (HX.out (by rw [hx]; rfl))
          clear hx
          go_wp2_with fail
          exact ⟨⟨k + 1, by omega, by go_num, H2.out, HB1.out⟩, by simp [intOf]; omega⟩
        | false =>
          have H2 := Lib.hid (HNk.out (by rw [hx]; rfl))
          clear hx
          go_wp2_with fail
          go_ret
          exact ⟨by rw [H2.out]; rfl, HB1.out⟩
    · have hkn : k = l.length := by omega
      subst hkn
      have HR := Lib.hid (HY.out HU.out)
      go_wp2_with fail
      go_ret
      exact ⟨by rw [HR.out]; rfl, hb⟩
/-- the bytes of a range -/
def packR (r : Int × Int × Int) : List Int := be 1 (IntKind.u64.wrap r.1) ++ (be 4 (if r.1 = 2 then r.2.1 else 0) ++ be 4 (if r.1 = 2 then r.2.2 else 0))
def packs (l : List (Int × Int × Int)) : List Int := l.flatMap packR
def packV (l : List (Int × Int × Int)) : List Int := be 1 l.length ++ packs l
theorem packR_len (r : Int × Int × Int) : (packR r).length = 9 := by simp [packR, be_len]
theorem packs_len (l : List (Int × Int × Int)) : (packs l).length = 9 * l.length := by
  induction l with
  | nil => rfl
  | cons r l ih => simp [packs, packR_len] at *; omega
theorem packV_len (l : List (Int × Int × Int)) : (packV l).length = 1 + 9 * l.length := by simp [packV, be_len, packs_len]
theorem packs_step {l : List (Int × Int × Int)} {k : Nat} (hk : k < l.length) : packs (l.take (k + 1)) = packs (l.take k) ++ packR (l.getD k (0, 0, 0)) := by
  rw [show l.getD k (0, 0, 0) = l[k] by simp [List.getD, hk], List.take_add_one, List.getElem?_eq_getElem hk, Option.toList_some, packs, packs, List.flatMap_append, List.flatMap_cons, List.flatMap_nil, List.append_nil]
end Go.Proofs.Ytpdijfhjdbmamaa
