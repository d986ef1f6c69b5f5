/- The document's answers for package box (petasosref05): kind, In, Span, Right, Match, Empty, Pack. -/
import Derived.Test.YthhelhhlofdehaaOwnR
import Derived.Test.YthhelhhlofdehaaBoxPlans
import Derived.Test.YthhelhhlofdehaaRun
import Derived.Test.YthhelhhlofdehaaMem
import Derived.Test.YthhelhhlofdehaaRefOctet
set_option maxRecDepth 4000
namespace Go.Proofs.Ythhelhhlofdehaa
open Go.RowKit Mem
set_option linter.unusedSimpArgs false
set_option linter.unusedVariables false
attribute [local irreducible] Go.Calls

/-- a kind that there is -/
def kindV (k : Int) : Bool := decide (1 ≤ k) && decide (k ≤ 3)
/-- is it in that range? -/
def inV (r : Int × Int × Int) (v : Int) : Bool := (r.1 == 1) || ((r.1 == 2) && decide ((v - r.2.1) % 4294967296 ≤ (r.2.2 - r.2.1) % 4294967296))
theorem rkind_any (k a b : Int) (w : World) : Calls Try.prog 68 #[.agg #[.int .i64 k, .int .u32 a, .int .u32 b]] w fun e w' => e = .returned (.bool (kindV k)) ∧ Below w.heap.size w w' := by
  by_cases h1 : 1 ≤ k
  · have e : kindV k = decide (k ≤ 3) := by simp [kindV, h1]
    rw [e]
    go_enter Try.func68, Try.ntmps68
    go_wp2_with fail
    go_ret
    exact ⟨rfl, more (Below.refl _ _) _⟩
  · have e : kindV k = false := by simp [kindV, h1]
    rw [e]
    go_enter Try.func68, Try.ntmps68
    go_wp2_with fail
    go_ret
    exact ⟨rfl, more (Below.refl _ _) _⟩
theorem span_info : (Try.prog.info? 30).map (·.size) = some 2 := by kernel_rfl
/-- the span of a range -/
def spanV (r : Int × Int × Int) : Int × Int × Bool := if r.1 = 1 then (4294967295, 4294967295, true) else if r.1 = 2 then ((r.2.1 - 1) % 4294967296, r.2.2, true) else (0, 0, false)
end Go.Proofs.Ythhelhhlofdehaa
/- The document's answers for package box: Right, Match, Empty, Pack. -/
namespace Go.Proofs.Ythhelhhlofdehaa
open Go.RowKit Mem
set_option linter.unusedSimpArgs false
set_option linter.unusedVariables false
attribute [local irreducible] Go.Calls

theorem all_yes {α : Type} {l : List α} {d : α} {f : α → Bool} (h : ∀ i, i < l.length → f (l.getD i d) = true) : l.all f = true := by
  rw [List.all_eq_true]
  intro x hx
  obtain ⟨i, hi, rfl⟩ := List.getElem_of_mem hx
  have := h i hi
  simpa [List.getD, hi] using this
theorem all_no {α : Type} {l : List α} {d : α} {f : α → Bool} {k : Nat} (hk : k < l.length) (h : f (l.getD k d) = false) : l.all f = false := by
  rw [List.all_eq_false]
  exact ⟨l[k], List.getElem_mem hk, by rw [show l.getD k d = l[k] by simp [List.getD, hk]] at h; rw [h]; simp⟩
theorem any_no {α : Type} {l : List α} {d : α} {f : α → Bool} (h : ∀ i, i < l.length → f (l.getD i d) = false) : l.any f = false := by
  rw [List.any_eq_false]
  intro x hx
  obtain ⟨i, hi, rfl⟩ := List.getElem_of_mem hx
  have := h i hi
  rw [show l.getD i d = l[i] by simp [List.getD, hi]] at this
  rw [this]
  simp
theorem any_yes {α : Type} {l : List α} {d : α} {f : α → Bool} {k : Nat} (hk : k < l.length) (h : f (l.getD k d) = true) : l.any f = true := by
  rw [List.any_eq_true]
  exact ⟨l[k], List.getElem_mem hk, by rwa [show l.getD k d = l[k] by simp [List.getD, hk]] at h⟩
theorem next_all {k : Nat} {p : Nat → Prop} (h : ∀ i, i < k → p i) (hk : p k) : ∀ i, i < k + 1 → p i := fun i hi => by
  rcases Nat.lt_or_ge i k with h' | h'
  · exact h i h'
  · rw [show i = k by omega]; exact hk
/-- the bounds of ranges -/
def RB (l : List (Int × Int × Int)) : Prop := ∀ x ∈ l, (0 ≤ x.2.1 ∧ x.2.1 ≤ 4294967295) ∧ (0 ≤ x.2.2 ∧ x.2.2 ≤ 4294967295)
theorem RB.at {l : List (Int × Int × Int)} (h : RB l) {k : Nat} (hk : k < l.length) : (0 ≤ (l.getD k (0, 0, 0)).2.1 ∧ (l.getD k (0, 0, 0)).2.1 ≤ 4294967295) ∧ (0 ≤ (l.getD k (0, 0, 0)).2.2 ∧ (l.getD k (0, 0, 0)).2.2 ≤ 4294967295) := by
  rw [show l.getD k (0, 0, 0) = l[k] by simp [List.getD, hk]]
  exact h _ (List.getElem_mem hk)
theorem ub_at {l : List Int} (h : ∀ x ∈ l, 0 ≤ x ∧ x ≤ 4294967295) {k : Nat} (hk : k < l.length) : 0 ≤ l.getD k 0 ∧ l.getD k 0 ≤ 4294967295 := by
  rw [show l.getD k 0 = l[k] by simp [List.getD, hk]]
  exact h _ (List.getElem_mem hk)
/-- may it be a box of so many attributes? -/
def rightB (attrs : Int) (l : List (Int × Int × Int)) : Bool := decide (1 ≤ attrs) && decide (attrs ≤ 8) && decide ((l.length : Int) = attrs) && l.all (fun (r : Int × Int × Int) => kindV r.1)
set_option maxHeartbeats 1000000 in
theorem rrightb_any (attrs : Int) (v : Value) (l : List (Int × Int × Int)) (w : World) (h : Rd rngE w v l) :
    Calls Try.prog 48 #[.int .i64 attrs, v] w fun e w' => e = .returned (.bool (rightB attrs l)) ∧ Below w.heap.size w w' := by
  obtain ⟨a, g, off, c, rfl, hc1, hm1, ha, hcell⟩ := Rd.loop3 h
  have hm1' : c ≤ 9223372036854775807 := hm1
  have HA := Lib.hid ha
  have HC := Lib.hid hcell
  clear h ha hcell
  by_cases h1 : attrs < 1
  · have e : rightB attrs l = false := by simp [rightB]; omega
    rw [e]
    go_enter Try.func48, Try.ntmps48
    go_wp2_with fail
    go_ret
    exact ⟨rfl, Below.refl _ _⟩
  by_cases h2 : attrs > 8
  · have e : rightB attrs l = false := by simp [rightB]; omega
    rw [e]
    go_enter Try.func48, Try.ntmps48
    go_wp2_with fail
    go_ret
    exact ⟨rfl, Below.refl _ _⟩
  by_cases h3 : (l.length : Int) = attrs
  case neg =>
    have e : rightB attrs l = false := by simp [rightB]; omega
    rw [e]
    have d3 : ((l.length : Int) == attrs) = false := by simpa using h3
    go_enter Try.func48, Try.ntmps48
    go_wp2_with fail
    go_ret
    exact ⟨rfl, Below.refl _ _⟩
  subst h3
  have e : rightB l.length l = l.all (fun (r : Int × Int × Int) => kindV r.1) := by
    have h1' : (1 : Int) ≤ l.length := by omega
    have h2' : (l.length : Int) ≤ 8 := by omega
    unfold rightB
    rw [decide_eq_true h1', decide_eq_true h2', decide_eq_true rfl]
    simp
  rw [e]
  have HY : Hid ((∀ i, i < l.length → kindV (l.getD i (0, 0, 0)).1 = true) → l.all (fun (r : Int × Int × Int) => kindV r.1) = true) := Lib.hid (fun h => all_yes (f := fun (r : Int × Int × Int) => kindV r.1) h)
  have HN : Hid (∀ k, k < l.length → kindV (l.getD k (0, 0, 0)).1 = false → l.all (fun (r : Int × Int × Int) => kindV r.1) = false) := Lib.hid (fun k hk h => all_no (f := fun (r : Int × Int × Int) => kindV r.1) hk h)
  generalize l.all (fun (r : Int × Int × Int) => kindV r.1) = res at *
  clear e
  go_enter Try.func48, Try.ntmps48
  go_wp2_with fail
  go_loopw [5] (fun i wr => ∃ k : Nat, k ≤ l.length ∧ i = .int .i64 k ∧ (∀ i, i < k → kindV (l.getD i (0, 0, 0)).1 = true) ∧ Below w.heap.size w wr) (fun i _ => l.length - (intOf i).toNat)
  case atStart => exact ⟨0, Nat.zero_le _, rfl, fun i hi => absurd hi (Nat.not_lt_zero _), Below.refl _ _⟩
  case round =>
    obtain ⟨k, hk, rfl, hu, hb⟩ := hrel
    have HU := Lib.hid hu
    clear hu
    by_cases hlt : k < l.length
    · obtain ⟨rfl, hg⟩ := HA.out (by omega)
      have d1 := (hb.cell (p := ⟨g, off + k * 3, none⟩) hg).trans (HC.out k hlt).1
      have d2 := (hb.cell (p := ⟨g, off + k * 3 + 1, none⟩) hg).trans (HC.out k hlt).2.1
      have d3 := (hb.cell (p := ⟨g, off + k * 3 + 2, none⟩) hg).trans (HC.out k hlt).2.2
      have HX : Hid (kindV (l.getD k (0, 0, 0)).1 = true → ∀ i, i < k + 1 → kindV (l.getD i (0, 0, 0)).1 = true) := Lib.hid (fun h => next_all HU.out h)
      have HNk := Lib.hid (HN.out k hlt)
      generalize (l.getD k (0, 0, 0)).1 = x at *
      generalize (l.getD k (0, 0, 0)).2.1 = y at *
      generalize (l.getD k (0, 0, 0)).2.2 = u at *
      have HB := Lib.hid hb
      clear hb
      go_wp2_with fail
      refine (rkind_any x y u wr).mono ?_
      rintro e w1 ⟨rfl, hb1⟩
      have HB1 := Lib.hid (nest HB.out hb1)
      clear hb1 d1 d2 d3
      cases hx : kindV x with
      | true =>
        have H2 := Lib.hid (HX.out hx)
        clear hx
        go_wp2_with fail
        exact ⟨⟨k + 1, by omega, by go_num, H2.out, HB1.out⟩, by simp [intOf]; omega⟩
      | false =>
        have H2 := Lib.hid (HNk.out hx)
        clear hx
        go_wp2_with fail
        go_ret
        exact ⟨by rw [H2.out]; rfl, HB1.out⟩
    · have hkn : k = l.length := by omega
      subst hkn
      have HR := Lib.hid (HY.out HU.out)
      go_wp2_with fail
      go_ret
      exact ⟨by rw [HR.out]; rfl, hb⟩
/-- does a box match values? -/
def matchV (l : List (Int × Int × Int)) (vs : List Int) : Bool := decide (l.length = vs.length) && (List.range l.length).all (fun i => inV (l.getD i (0, 0, 0)) (vs.getD i 0))
theorem match_yes {l : List (Int × Int × Int)} {vs : List Int} (hn : l.length = vs.length) (h : ∀ i, i < l.length → inV (l.getD i (0, 0, 0)) (vs.getD i 0) = true) : matchV l vs = true := by
  unfold matchV
  rw [decide_eq_true hn, Bool.true_and, List.all_eq_true]
  intro i hi
  exact h i (List.mem_range.1 hi)
theorem match_no {l : List (Int × Int × Int)} {vs : List Int} {k : Nat} (hk : k < l.length) (h : inV (l.getD k (0, 0, 0)) (vs.getD k 0) = false) : matchV l vs = false := by
  unfold matchV
  have : (List.range l.length).all (fun i => inV (l.getD i (0, 0, 0)) (vs.getD i 0)) = false := by
    rw [List.all_eq_false]
    exact ⟨k, List.mem_range.2 hk, by rw [h]; simp⟩
  rw [this, Bool.and_false]
/-- has a box nothing? -/
def emptyV (l : List (Int × Int × Int)) : Bool := l.any (fun (r : Int × Int × Int) => (r.1 == 3) || !kindV r.1)
/-- the bytes of a range -/
def packR (r : Int × Int × Int) : List Int := be 1 (IntKind.u64.wrap r.1) ++ (be 4 (if r.1 = 2 then r.2.1 else 0) ++ be 4 (if r.1 = 2 then r.2.2 else 0))
def packs (l : List (Int × Int × Int)) : List Int := l.flatMap packR
def packV (l : List (Int × Int × Int)) : List Int := be 1 l.length ++ packs l
theorem packR_len (r : Int × Int × Int) : (packR r).length = 9 := by simp [packR, be_len]
theorem packs_len (l : List (Int × Int × Int)) : (packs l).length = 9 * l.length := by
  induction l with
  | nil => rfl
  | cons r l ih => simp [packs, packR_len] at *; omega
theorem packV_len (l : List (Int × Int × Int)) : (packV l).length = 1 + 9 * l.length := by simp [packV, be_len, packs_len]
theorem packs_step {l : List (Int × Int × Int)} {k : Nat} (hk : k < l.length) : packs (l.take (k + 1)) = packs (l.take k) ++ packR (l.getD k (0, 0, 0)) := by
  rw [show l.getD k (0, 0, 0) = l[k] by simp [List.getD, hk], List.take_add_one, List.getElem?_eq_getElem hk, Option.toList_some, packs, packs, List.flatMap_append, List.flatMap_cons, List.flatMap_nil, List.append_nil]
end Go.Proofs.Ythhelhhlofdehaa
/- The document's answer for package box: Pack. -/
namespace Go.Proofs.Ythhelhhlofdehaa
open Go.RowKit Mem
set_option linter.unusedSimpArgs false
set_option linter.unusedVariables false
attribute [local irreducible] Go.Calls

/-- what package box's Pack hands out -/
def PackPost (w : World) (l : List Int) (e : Ending) (w' : World) : Prop := ∃ v, e = .returned v ∧ Rd (intE .u8) w' v l ∧ Below w.heap.size w w'
theorem sz1 : szN 1 = 1 := by decide
theorem sz4' : szN 4 = 4 := by decide
theorem u64_bd (x : Int) : 0 ≤ IntKind.u64.wrap x ∧ IntKind.u64.wrap x ≤ 18446744073709551615 := by rw [show IntKind.u64.wrap x = x % 18446744073709551616 by simp [IntKind.wrap, IntKind.bits, IntKind.signed]]; omega
theorem wrap2 : IntKind.u64.wrap 2 = 2 := by decide
set_option maxHeartbeats 2000000 in
theorem rpack_any (v : Value) (l : List (Int × Int × Int)) (w : World) (h : Rd rngE w v l) (bl : RB l) (hl : l.length ≤ 100000) :
    Calls Try.prog 34 #[v] w (PutPost w (packV l)) := by
  obtain ⟨a, g, off, c, rfl, hc1, hm1, ha, hcell⟩ := Rd.loop3 h
  have hm1' : c ≤ 9223372036854775807 := hm1
  have HA := Lib.hid ha
  have HC := Lib.hid hcell
  have HBL := Lib.hid bl
  clear h ha hcell bl
  have hw : IntKind.u64.wrap (l.length : Int) = l.length := by rw [show IntKind.u64.wrap (l.length : Int) = (l.length : Int) % 18446744073709551616 by simp [IntKind.wrap, IntKind.bits, IntKind.signed]]; omega
  go_enter Try.func34, Try.ntmps34
  go_wp2_with fail
  refine (rput_any (.slice none 0 0) [] l.length 1 (by omega) w (Rd.nil _ _ (by unfold maxLen; omega)) (by simp)).mono ?_
  rintro e w1 ⟨v1, rfl, hr1, hb1⟩
  rw [sz1, List.nil_append] at hr1
  obtain ⟨a1, c1, rfl, _, _⟩ := hr1.rd.form
  go_wp2_with fail
  go_loopw [3, 4] (fun o i wr => ∃ k : Nat, k ≤ l.length ∧ i = .int .i64 k ∧ (∃ a c n, o = .slice a n c) ∧ Row (intE .u8) 5 w.heap.size wr o (be 1 l.length ++ packs (l.take k)) ∧ Below w.heap.size w wr) (fun _ i _ => l.length - (intOf i).toNat)
  case atStart => exact ⟨0, Nat.zero_le _, rfl, ⟨_, _, _, rfl⟩, by simpa [packs] using hr1, hb1⟩
  case round =>
    obtain ⟨k, hk, rfl, ⟨ao, co, no, rfl⟩, hr, hb⟩ := hrel
    by_cases hlt : k < l.length
    · obtain ⟨rfl, hg⟩ := HA.out (by omega)
      have d1 := (hb.cell (p := ⟨g, off + k * 3, none⟩) hg).trans (HC.out k hlt).1
      have d2 := (hb.cell (p := ⟨g, off + k * 3 + 1, none⟩) hg).trans (HC.out k hlt).2.1
      have d3 := (hb.cell (p := ⟨g, off + k * 3 + 2, none⟩) hg).trans (HC.out k hlt).2.2
      have hbl := HBL.out.at hlt
      have HST : Hid (be 1 l.length ++ packs (l.take (k + 1)) = (be 1 l.length ++ packs (l.take k)) ++ packR (l.getD k (0, 0, 0))) := Lib.hid (by rw [packs_step hlt, List.append_assoc])
      have hlen : (be 1 l.length ++ packs (l.take k)).length = 1 + 9 * k := by rw [List.length_append, be_len, packs_len, List.length_take]; omega
      have HR := Lib.hid hr
      have HB := Lib.hid hb
      have HLEN := Lib.hid hlen
      generalize l.getD k (0, 0, 0) = r at *
      generalize be 1 l.length ++ packs (l.take k) = Q at *
      obtain ⟨x, y, u⟩ := r
      simp only [] at d1 d2 d3 hbl
      clear hr hb hlen
      go_wp2_with fail
      refine Run.region_walk (S := fun z => z.cell? ⟨g, off + k * 3, none⟩ = some (.int .i64 x) ∧ z.cell? ⟨g, off + k * 3 + 1, none⟩ = some (.int .u32 y) ∧ z.cell? ⟨g, off + k * 3 + 2, none⟩ = some (.int .u32 u) ∧ Below wr.heap.size wr z)
        rpack.rows4 rpack.plan4 (l := ?steps1) (by kernel_rfl) (by kernel_rfl) (by kernel_rfl) (by kernel_rfl) ?written1 ⟨d1, d2, d3, (Below.refl _ _).drew⟩ ?onward1
      case written1 =>
        simp only [rpack.plan4, Run.stepsOf, Run.stepOf, Run.guardOf, List.getElem?_toArray, List.getElem?_cons_zero, List.getElem?_cons_succ, Option.map_some, Option.map_none, Option.bind_some, Option.toList_some, List.map_cons, List.map_nil, List.cons_append, List.nil_append]
        rfl
      repeat ((first
        | (refine Run.takes (v := ?_) ?_ ?_; rotate_left; (· intro w' hS'; go_simp; (try with_reducible rfl)))
        | (refine Run.takesG (v := ?_) ?_ ?_ ?_; rotate_left; (· simp only [List.getElem?_cons_zero, List.getElem?_cons_succ]); (· intro w' hS'; go_simp; (try with_reducible rfl)))
        | (refine Run.skipsT ?_ ?_; (· simp only [List.getElem?_cons_zero, List.getElem?_cons_succ]))
        | (refine Run.skipsF ?_ ?_; (· simp only [List.getElem?_cons_zero, List.getElem?_cons_succ]))
        | (refine Run.skipsU ?_ ?_; (· simp only [List.getElem?_cons_zero, List.getElem?_cons_succ]))
        | (refine Run.passT ?_ ?_; (· simp only [List.getElem?_cons_zero, List.getElem?_cons_succ]))
        | (refine Run.passF ?_ ?_; (· simp only [List.getElem?_cons_zero, List.getElem?_cons_succ]))
        | (refine Run.passU ?_ ?_; (· simp only [List.getElem?_cons_zero, List.getElem?_cons_succ]))
        | fail); simp only [Act.put, List.setIfInBounds_toArray, List.set_cons_zero, List.set_cons_succ])
      refine Run.ends (fun hS2 => ?_)
      have HZ := Lib.hid hS2.2.2.2
      have d1 := hS2.1
      clear hS2
      by_cases hx2 : x = 2
      · subst hx2
        obtain ⟨ao2, co2, hao, hco1, hco2⟩ := HR.out.rd.form
        cases hao
        go_wp2_with fail
        refine (rput_any _ _ (2) 1 (by omega) _ (HR.out.rd.keep HZ.out) (by rw [HLEN.out]; omega)).mono ?_
        rintro e z1 ⟨p1, rfl, hp1, hz1⟩
        rw [sz1] at hp1
        obtain ⟨Q1, hQ1⟩ : ∃ Q1, Q1 = Q ++ be 1 (2) := ⟨_, rfl⟩
        rw [← hQ1] at hp1
        have HQ1 := Lib.hid hQ1
        have HL1 : Hid (Q1.length = 2 + 9 * k) := Lib.hid (by rw [hQ1, List.length_append, be_len, HLEN.out]; omega)
        obtain ⟨b1, f1, rfl, _, _⟩ := hp1.rd.form
        have HP1 := Lib.hid hp1.rd
        have HZ1 := Lib.hid (nest HZ.out hz1)
        clear hp1 hz1 hQ1
        go_wp2_with fail
        refine (rput_any _ _ (y) 4 (by omega) z1 HP1.out (by rw [HL1.out]; omega)).mono ?_
        rintro e z2 ⟨p2, rfl, hp2, hz2⟩
        rw [sz4'] at hp2
        obtain ⟨Q2, hQ2⟩ : ∃ Q2, Q2 = Q1 ++ be 4 (y) := ⟨_, rfl⟩
        rw [← hQ2] at hp2
        have HQ2 := Lib.hid hQ2
        have HL2 : Hid (Q2.length = 6 + 9 * k) := Lib.hid (by rw [hQ2, List.length_append, be_len, HL1.out]; omega)
        obtain ⟨b2, f2, rfl, _, _⟩ := hp2.rd.form
        have HP2 := Lib.hid hp2.rd
        have HZ2 := Lib.hid (nest HZ1.out hz2)
        clear hp2 hz2 hQ2
        go_wp2_with fail
        refine (rput_any _ _ (u) 4 (by omega) z2 HP2.out (by rw [HL2.out]; omega)).mono ?_
        rintro e z3 ⟨p3, rfl, hp3, hz3⟩
        rw [sz4'] at hp3
        obtain ⟨Q3, hQ3⟩ : ∃ Q3, Q3 = Q2 ++ be 4 (u) := ⟨_, rfl⟩
        rw [← hQ3] at hp3
        have HQ3 := Lib.hid hQ3
        have HP3 := Lib.hid (hp3.mono (show w.heap.size ≤ z2.heap.size by have := HB.out.size; have := HZ2.out.size; omega))
        have HZ3 := Lib.hid (nest HB.out (nest HZ2.out hz3))
        obtain ⟨b3, f3, rfl, _, _⟩ := hp3.rd.form
        clear hp3 hz3 hQ3
        go_wp2_with fail
        refine ⟨⟨k + 1, by omega, by go_num, ⟨_, _, _, rfl⟩, ?_, HZ3.out⟩, by simp [intOf]; omega⟩
        rw [HST.out]
        have := HP3.out
        have e : Q3 = Q ++ packR (2, y, u) := by rw [HQ3.out, HQ2.out, HQ1.out]; simp [packR, wrap2]
        rw [← e]
        exact this
      · have e2 : (x == 2) = false := by simpa using hx2
        obtain ⟨ao2, co2, hao, hco1, hco2⟩ := HR.out.rd.form
        cases hao
        go_wp2_with fail
        refine (rput_any _ _ (IntKind.u64.wrap x) 1 (u64_bd x) _ (HR.out.rd.keep HZ.out) (by rw [HLEN.out]; omega)).mono ?_
        rintro e z1 ⟨p1, rfl, hp1, hz1⟩
        rw [sz1] at hp1
        obtain ⟨Q1, hQ1⟩ : ∃ Q1, Q1 = Q ++ be 1 (IntKind.u64.wrap x) := ⟨_, rfl⟩
        rw [← hQ1] at hp1
        have HQ1 := Lib.hid hQ1
        have HL1 : Hid (Q1.length = 2 + 9 * k) := Lib.hid (by rw [hQ1, List.length_append, be_len, HLEN.out]; omega)
        obtain ⟨b1, f1, rfl, _, _⟩ := hp1.rd.form
        have HP1 := Lib.hid hp1.rd
        have HZ1 := Lib.hid (nest HZ.out hz1)
        clear hp1 hz1 hQ1
        go_wp2_with fail
        refine (rput_any _ _ (0) 4 (by omega) z1 HP1.out (by rw [HL1.out]; omega)).mono ?_
        rintro e z2 ⟨p2, rfl, hp2, hz2⟩
        rw [sz4'] at hp2
        obtain ⟨Q2, hQ2⟩ : ∃ Q2, Q2 = Q1 ++ be 4 (0) := ⟨_, rfl⟩
        rw [← hQ2] at hp2
        have HQ2 := Lib.hid hQ2
        have HL2 : Hid (Q2.length = 6 + 9 * k) := Lib.hid (by rw [hQ2, List.length_append, be_len, HL1.out]; omega)
        obtain ⟨b2, f2, rfl, _, _⟩ := hp2.rd.form
        have HP2 := Lib.hid hp2.rd
        have HZ2 := Lib.hid (nest HZ1.out hz2)
        clear hp2 hz2 hQ2
        go_wp2_with fail
        refine (rput_any _ _ (0) 4 (by omega) z2 HP2.out (by rw [HL2.out]; omega)).mono ?_
        rintro e z3 ⟨p3, rfl, hp3, hz3⟩
        rw [sz4'] at hp3
        obtain ⟨Q3, hQ3⟩ : ∃ Q3, Q3 = Q2 ++ be 4 (0) := ⟨_, rfl⟩
        rw [← hQ3] at hp3
        have HQ3 := Lib.hid hQ3
        have HP3 := Lib.hid (hp3.mono (show w.heap.size ≤ z2.heap.size by have := HB.out.size; have := HZ2.out.size; omega))
        have HZ3 := Lib.hid (nest HB.out (nest HZ2.out hz3))
        obtain ⟨b3, f3, rfl, _, _⟩ := hp3.rd.form
        clear hp3 hz3 hQ3
        go_wp2_with fail
        refine ⟨⟨k + 1, by omega, by go_num, ⟨_, _, _, rfl⟩, ?_, HZ3.out⟩, by simp [intOf]; omega⟩
        rw [HST.out]
        have := HP3.out
        have e : Q3 = Q ++ packR (x, y, u) := by rw [HQ3.out, HQ2.out, HQ1.out]; simp [packR, hx2]
        rw [← e]
        exact this
    · have hkn : k = l.length := by omega
      subst hkn
      have HR := Lib.hid hr
      have HB := Lib.hid hb
      clear hr hb
      go_wp2_with fail
      go_ret
      exact ⟨_, rfl, by have := HR.out; rw [List.take_length] at this; exact this, HB.out⟩
end Go.Proofs.Ythhelhhlofdehaa
