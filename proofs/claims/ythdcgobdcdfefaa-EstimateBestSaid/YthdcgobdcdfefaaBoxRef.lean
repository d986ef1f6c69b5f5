/- The document's answers for package box (petasosref05): kind, In, Span, Right, Match, Empty, Pack. -/
import Derived.Test.YthdcgobdcdfefaaOwnR
import Derived.Test.YthdcgobdcdfefaaBoxPlans
import Derived.Test.YthdcgobdcdfefaaRun
import Derived.Test.YthdcgobdcdfefaaMem
import Derived.Test.YthdcgobdcdfefaaRefOctet
set_option maxRecDepth 4000
namespace Go.Proofs.Ythdcgobdcdfefaa
open Go.RowKit Mem
set_option linter.unusedSimpArgs false
set_option linter.unusedVariables false
attribute [local irreducible] Go.Calls

/-- a kind that there is -/
def kindV (k : Int) : Bool := decide (1 ≤ k) && decide (k ≤ 3)
/-- is it in that range? -/
def inV (r : Int × Int × Int) (v : Int) : Bool := (r.1 == 1) || ((r.1 == 2) && decide ((v - r.2.1) % 4294967296 ≤ (r.2.2 - r.2.1) % 4294967296))
theorem rkind_any (k a b : Int) (w : World) : Calls Try.prog 28 #[.agg #[.int .i64 k, .int .u32 a, .int .u32 b]] w fun e w' => e = .returned (.bool (kindV k)) ∧ Below w.heap.size w w' := by
  by_cases h1 : 1 ≤ k
  · have e : kindV k = decide (k ≤ 3) := by simp [kindV, h1]
    rw [e]
    go_enter Try.func28, Try.ntmps28
    go_wp2_with fail
    go_ret
    exact ⟨rfl, more (Below.refl _ _) _⟩
  · have e : kindV k = false := by simp [kindV, h1]
    rw [e]
    go_enter Try.func28, Try.ntmps28
    go_wp2_with fail
    go_ret
    exact ⟨rfl, more (Below.refl _ _) _⟩
theorem span_info : (Try.prog.info? 46).map (·.size) = some 2 := by kernel_rfl
/-- the span of a range -/
def spanV (r : Int × Int × Int) : Int × Int × Bool := if r.1 = 1 then (4294967295, 4294967295, true) else if r.1 = 2 then ((r.2.1 - 1) % 4294967296, r.2.2, true) else (0, 0, false)
set_option maxHeartbeats 400000 in
theorem rspan_any (k a b : Int) (ba : 0 ≤ a ∧ a ≤ 4294967295) (w : World) : Calls Try.prog 22 #[.agg #[.int .i64 k, .int .u32 a, .int .u32 b]] w fun e w' =>
    e = .returned (.tuple #[.agg #[.int .u32 (spanV (k, a, b)).1, .int .u32 (spanV (k, a, b)).2.1], .bool (spanV (k, a, b)).2.2]) ∧ Below w.heap.size w w' := by
  by_cases h1 : k = 1
  · subst h1
    have e : spanV (1, a, b) = (4294967295, 4294967295, true) := by simp [spanV]
    rw [e]
    go_enter Try.func22, Try.ntmps22
    go_wp2_with fail
    refine bodyPost_ret (results_blk_tmp (l := [.int .u32 4294967295, .int .u32 4294967295]) rfl Try.underlying46 span_info rfl rfl (Blk.newAt _ _ _ (size_alloc _ _).symm)) rfl ?_
    exact ⟨rfl, more (more (Below.refl _ _) _) _⟩
  · have d1 : (k == 1) = false := by simpa using h1
    by_cases h2 : k = 2
    · subst h2
      have e : spanV (2, a, b) = ((a - 1) % 4294967296, b, true) := by simp [spanV]
      rw [e]
      go_enter Try.func22, Try.ntmps22
      go_wp2_with fail
      refine bodyPost_ret (results_blk_tmp (l := [.int .u32 (IntKind.u32.wrap (a - 1)), .int .u32 b]) rfl Try.underlying46 span_info rfl rfl (Blk.newAt _ _ _ (size_alloc _ _).symm)) rfl ?_
      exact ⟨by simp [IntKind.wrap, IntKind.bits, IntKind.signed], more (more (Below.refl _ _) _) _⟩
    · have d2 : (k == 2) = false := by simpa using h2
      have e : spanV (k, a, b) = (0, 0, false) := by unfold spanV; rw [if_neg h1, if_neg h2]
      rw [e]
      go_enter Try.func22, Try.ntmps22
      go_wp2_with fail
      refine bodyPost_ret (results_blk_tmp (l := [.int .u32 0, .int .u32 0]) rfl Try.underlying46 span_info rfl rfl (Blk.newAt _ _ _ (size_alloc _ _).symm)) rfl ?_
      exact ⟨rfl, more (more (Below.refl _ _) _) _⟩
end Go.Proofs.Ythdcgobdcdfefaa
/- The document's answers for package box: Right, Match, Empty, Pack. -/
namespace Go.Proofs.Ythdcgobdcdfefaa
open Go.RowKit Mem
set_option linter.unusedSimpArgs false
set_option linter.unusedVariables false
attribute [local irreducible] Go.Calls

theorem all_yes {α : Type} {l : List α} {d : α} {f : α → Bool} (h : ∀ i, i < l.length → f (l.getD i d) = true) : l.all f = true := by
  rw [List.all_eq_true]
  intro x hx
  obtain ⟨i, hi, rfl⟩ := List.getElem_of_mem hx
  have := h i hi
  simpa [List.getD, hi] using this
theorem all_no {α : Type} {l : List α} {d : α} {f : α → Bool} {k : Nat} (hk : k < l.length) (h : f (l.getD k d) = false) : l.all f = false := by
  rw [List.all_eq_false]
  exact ⟨l[k], List.getElem_mem hk, by rw [show l.getD k d = l[k] by simp [List.getD, hk]] at h; rw [h]; simp⟩
theorem any_no {α : Type} {l : List α} {d : α} {f : α → Bool} (h : ∀ i, i < l.length → f (l.getD i d) = false) : l.any f = false := by
  rw [List.any_eq_false]
  intro x hx
  obtain ⟨i, hi, rfl⟩ := List.getElem_of_mem hx
  have := h i hi
  rw [show l.getD i d = l[i] by simp [List.getD, hi]] at this
  rw [this]
  simp
theorem any_yes {α : Type} {l : List α} {d : α} {f : α → Bool} {k : Nat} (hk : k < l.length) (h : f (l.getD k d) = true) : l.any f = true := by
  rw [List.any_eq_true]
  exact ⟨l[k], List.getElem_mem hk, by rwa [show l.getD k d = l[k] by simp [List.getD, hk]] at h⟩
theorem next_all {k : Nat} {p : Nat → Prop} (h : ∀ i, i < k → p i) (hk : p k) : ∀ i, i < k + 1 → p i := fun i hi => by
  rcases Nat.lt_or_ge i k with h' | h'
  · exact h i h'
  · rw [show i = k by omega]; exact hk
/-- the bounds of ranges -/
def RB (l : List (Int × Int × Int)) : Prop := ∀ x ∈ l, (0 ≤ x.2.1 ∧ x.2.1 ≤ 4294967295) ∧ (0 ≤ x.2.2 ∧ x.2.2 ≤ 4294967295)
theorem RB.at {l : List (Int × Int × Int)} (h : RB l) {k : Nat} (hk : k < l.length) : (0 ≤ (l.getD k (0, 0, 0)).2.1 ∧ (l.getD k (0, 0, 0)).2.1 ≤ 4294967295) ∧ (0 ≤ (l.getD k (0, 0, 0)).2.2 ∧ (l.getD k (0, 0, 0)).2.2 ≤ 4294967295) := by
  rw [show l.getD k (0, 0, 0) = l[k] by simp [List.getD, hk]]
  exact h _ (List.getElem_mem hk)
theorem ub_at {l : List Int} (h : ∀ x ∈ l, 0 ≤ x ∧ x ≤ 4294967295) {k : Nat} (hk : k < l.length) : 0 ≤ l.getD k 0 ∧ l.getD k 0 ≤ 4294967295 := by
  rw [show l.getD k 0 = l[k] by simp [List.getD, hk]]
  exact h _ (List.getElem_mem hk)
/-- may it be a box of so many attributes? -/
def rightB (attrs : Int) (l : List (Int × Int × Int)) : Bool := decide (1 ≤ attrs) && decide (attrs ≤ 8) && decide ((l.length : Int) = attrs) && l.all (fun (r : Int × Int × Int) => kindV r.1)
set_option maxHeartbeats 1000000 in
theorem rrightb_any (attrs : Int) (v : Value) (l : List (Int × Int × Int)) (w : World) (h : Rd rngE w v l) :
    Calls Try.prog 16 #[.int .i64 attrs, v] w fun e w' => e = .returned (.bool (rightB attrs l)) ∧ Below w.heap.size w w' := by
  obtain ⟨a, g, off, c, rfl, hc1, hm1, ha, hcell⟩ := Rd.loop3 h
  have hm1' : c ≤ 9223372036854775807 := hm1
  have HA := Lib.hid ha
  have HC := Lib.hid hcell
  clear h ha hcell
  by_cases h1 : attrs < 1
  · have e : rightB attrs l = false := by simp [rightB]; omega
    rw [e]
    go_enter Try.func16, Try.ntmps16
    go_wp2_with fail
    go_ret
    exact ⟨rfl, Below.refl _ _⟩
  by_cases h2 : attrs > 8
  · have e : rightB attrs l = false := by simp [rightB]; omega
    rw [e]
    go_enter Try.func16, Try.ntmps16
    go_wp2_with fail
    go_ret
    exact ⟨rfl, Below.refl _ _⟩
  by_cases h3 : (l.length : Int) = attrs
  case neg =>
    have e : rightB attrs l = false := by simp [rightB]; omega
    rw [e]
    have d3 : ((l.length : Int) == attrs) = false := by simpa using h3
    go_enter Try.func16, Try.ntmps16
    go_wp2_with fail
    go_ret
    exact ⟨rfl, Below.refl _ _⟩
  subst h3
  have e : rightB l.length l = l.all (fun (r : Int × Int × Int) => kindV r.1) := by
    have h1' : (1 : Int) ≤ l.length := by omega
    have h2' : (l.length : Int) ≤ 8 := by omega
    unfold rightB
    rw [decide_eq_true h1', decide_eq_true h2', decide_eq_true rfl]
    simp
  rw [e]
  have HY : Hid ((∀ i, i < l.length → kindV (l.getD i (0, 0, 0)).1 = true) → l.all (fun (r : Int × Int × Int) => kindV r.1) = true) := Lib.hid (fun h => all_yes (f := fun (r : Int × Int × Int) => kindV r.1) h)
  have HN : Hid (∀ k, k < l.length → kindV (l.getD k (0, 0, 0)).1 = false → l.all (fun (r : Int × Int × Int) => kindV r.1) = false) := Lib.hid (fun k hk h => all_no (f := fun (r : Int × Int × Int) => kindV r.1) hk h)
  generalize l.all (fun (r : Int × Int × Int) => kindV r.1) = res at *
  clear e
  go_enter Try.func16, Try.ntmps16
  go_wp2_with fail
  go_loopw [5] (fun i wr => ∃ k : Nat, k ≤ l.length ∧ i = .int .i64 k ∧ (∀ i, i < k → kindV (l.getD i (0, 0, 0)).1 = true) ∧ Below w.heap.size w wr) (fun i _ => l.length - (intOf i).toNat)
  case atStart => exact ⟨0, Nat.zero_le _, rfl, fun i hi => absurd hi (Nat.not_lt_zero _), Below.refl _ _⟩
  case round =>
    obtain ⟨k, hk, rfl, hu, hb⟩ := hrel
    have HU := Lib.hid hu
    clear hu
    by_cases hlt : k < l.length
    · obtain ⟨rfl, hg⟩ := HA.out (by omega)
      have d1 := (hb.cell (p := ⟨g, off + k * 3, none⟩) hg).trans (HC.out k hlt).1
      have d2 := (hb.cell (p := ⟨g, off + k * 3 + 1, none⟩) hg).trans (HC.out k hlt).2.1
      have d3 := (hb.cell (p := ⟨g, off + k * 3 + 2, none⟩) hg).trans (HC.out k hlt).2.2
      have HX : Hid (kindV (l.getD k (0, 0, 0)).1 = true → ∀ i, i < k + 1 → kindV (l.getD i (0, 0, 0)).1 = true) := Lib.hid (fun h => next_all HU.out h)
      have HNk := Lib.hid (HN.out k hlt)
      generalize (l.getD k (0, 0, 0)).1 = x at *
      generalize (l.getD k (0, 0, 0)).2.1 = y at *
      generalize (l.getD k (0, 0, 0)).2.2 = u at *
      have HB := Lib.hid hb
      clear hb
      go_wp2_with fail
      refine (rkind_any x y u wr).mono ?_
      rintro e w1 ⟨rfl, hb1⟩
      have HB1 := Lib.hid (nest HB.out hb1)
      clear hb1 d1 d2 d3
      cases hx : kindV x with
      | true =>
        have H2 := Lib.hid (HX.out hx)
        clear hx
        go_wp2_with fail
        exact ⟨⟨k + 1, by omega, by go_num, H2.out, HB1.out⟩, by simp [intOf]; omega⟩
      | false =>
        have H2 := Lib.hid (HNk.out hx)
        clear hx
        go_wp2_with fail
        go_ret
        exact ⟨by rw [H2.out]; rfl, HB1.out⟩
    · have hkn : k = l.length := by omega
      subst hkn
      have HR := Lib.hid (HY.out HU.out)
      go_wp2_with fail
      go_ret
      exact ⟨by rw [HR.out]; rfl, hb⟩
/-- does a box match values? -/
def matchV (l : List (Int × Int × Int)) (vs : List Int) : Bool := decide (l.length = vs.length) && (List.range l.length).all (fun i => inV (l.getD i (0, 0, 0)) (vs.getD i 0))
theorem match_yes {l : List (Int × Int × Int)} {vs : List Int} (hn : l.length = vs.length) (h : ∀ i, i < l.length → inV (l.getD i (0, 0, 0)) (vs.getD i 0) = true) : matchV l vs = true := by
  unfold matchV
  rw [decide_eq_true hn, Bool.true_and, List.all_eq_true]
  intro i hi
  exact h i (List.mem_range.1 hi)
theorem match_no {l : List (Int × Int × Int)} {vs : List Int} {k : Nat} (hk : k < l.length) (h : inV (l.getD k (0, 0, 0)) (vs.getD k 0) = false) : matchV l vs = false := by
  unfold matchV
  have : (List.range l.length).all (fun i => inV (l.getD i (0, 0, 0)) (vs.getD i 0)) = false := by
    rw [List.all_eq_false]
    exact ⟨k, List.mem_range.2 hk, by rw [h]; simp⟩
  rw [this, Bool.and_false]
/-- has a box nothing? -/
def emptyV (l : List (Int × Int × Int)) : Bool := l.any (fun (r : Int × Int × Int) => (r.1 == 3) || !kindV r.1)
/-- the bytes of a range -/
def packR (r : Int × Int × Int) : List Int := be 1 (IntKind.u64.wrap r.1) ++ (be 4 (if r.1 = 2 then r.2.1 else 0) ++ be 4 (if r.1 = 2 then r.2.2 else 0))
def packs (l : List (Int × Int × Int)) : List Int := l.flatMap packR
def packV (l : List (Int × Int × Int)) : List Int := be 1 l.length ++ packs l
theorem packR_len (r : Int × Int × Int) : (packR r).length = 9 := by simp [packR, be_len]
theorem packs_len (l : List (Int × Int × Int)) : (packs l).length = 9 * l.length := by
  induction l with
  | nil => rfl
  | cons r l ih => simp [packs, packR_len] at *; omega
theorem packV_len (l : List (Int × Int × Int)) : (packV l).length = 1 + 9 * l.length := by simp [packV, be_len, packs_len]
theorem packs_step {l : List (Int × Int × Int)} {k : Nat} (hk : k < l.length) : packs (l.take (k + 1)) = packs (l.take k) ++ packR (l.getD k (0, 0, 0)) := by
  rw [show l.getD k (0, 0, 0) = l[k] by simp [List.getD, hk], List.take_add_one, List.getElem?_eq_getElem hk, Option.toList_some, packs, packs, List.flatMap_append, List.flatMap_cons, List.flatMap_nil, List.append_nil]
end Go.Proofs.Ythdcgobdcdfefaa
/- The document's answer for package box: Pack. -/
namespace Go.Proofs.Ythdcgobdcdfefaa
open Go.RowKit Mem
set_option linter.unusedSimpArgs false
set_option linter.unusedVariables false
attribute [local irreducible] Go.Calls

/-- what package box's Pack hands out -/
def PackPost (w : World) (l : List Int) (e : Ending) (w' : World) : Prop := ∃ v, e = .returned v ∧ Rd (intE .u8) w' v l ∧ Below w.heap.size w w'
theorem sz1 : szN 1 = 1 := by decide
theorem sz4' : szN 4 = 4 := by decide
theorem u64_bd (x : Int) : 0 ≤ IntKind.u64.wrap x ∧ IntKind.u64.wrap x ≤ 18446744073709551615 := by rw [show IntKind.u64.wrap x = x % 18446744073709551616 by simp [IntKind.wrap, IntKind.bits, IntKind.signed]]; omega
theorem wrap2 : IntKind.u64.wrap 2 = 2 := by decide
end Go.Proofs.Ythdcgobdcdfefaa
