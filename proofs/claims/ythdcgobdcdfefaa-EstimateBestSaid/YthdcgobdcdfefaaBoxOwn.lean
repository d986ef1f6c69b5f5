/- Package box: is, Span, In. -/
import Derived.Test.YthdcgobdcdfefaaBoxRef
import Derived.Test.YthdcgobdcdfefaaWalk
import Derived.Test.YthdcgobdcdfefaaOctW
set_option maxRecDepth 4000
namespace Go.Proofs.Ythdcgobdcdfefaa
open Go.RowKit Mem Cir
set_option linter.unusedSimpArgs false
set_option linter.unusedVariables false
attribute [local irreducible] Go.Calls

theorem ois_any (k : Int) (w : World) : Calls Try.prog 29 #[.int .i64 k] w fun e w' => e = .returned (.bool (kindV k)) ∧ Below w.heap.size w w' := by
  by_cases h1 : k = 1
  · subst h1
    go_enter Try.func29, Try.ntmps29
    go_wp2_with fail
    go_ret
    exact ⟨rfl, Below.refl _ _⟩
  have d1 : (k == 1) = false := by simpa using h1
  by_cases h2 : k = 2
  · subst h2
    go_enter Try.func29, Try.ntmps29
    go_wp2_with fail
    go_ret
    exact ⟨rfl, Below.refl _ _⟩
  have d2 : (k == 2) = false := by simpa using h2
  by_cases h3 : k = 3
  · subst h3
    go_enter Try.func29, Try.ntmps29
    go_wp2_with fail
    go_ret
    exact ⟨rfl, Below.refl _ _⟩
  have d3 : (k == 3) = false := by simpa using h3
  have e : kindV k = false := by simp [kindV]; omega
  rw [e]
  go_enter Try.func29, Try.ntmps29
  go_wp2_with fail
  go_ret
  exact ⟨rfl, Below.refl _ _⟩
set_option maxHeartbeats 400000 in
theorem ospan_any (k a b : Int) (ba : 0 ≤ a ∧ a ≤ 4294967295) (bb : 0 ≤ b ∧ b ≤ 4294967295) (w : World) : Calls Try.prog 18 #[.agg #[.int .i64 k, .int .u32 a, .int .u32 b]] w fun e w' =>
    e = .returned (.tuple #[.agg #[.int .u32 (spanV (k, a, b)).1, .int .u32 (spanV (k, a, b)).2.1], .bool (spanV (k, a, b)).2.2]) ∧ Below w.heap.size w w' := by
  by_cases h1 : k = 1
  · subst h1
    have e : spanV (1, a, b) = (4294967295, 4294967295, true) := by simp [spanV]
    rw [e]
    go_enter Try.func18, Try.ntmps18
    go_wp2_with fail
    refine bodyPost_ret (results_blk_tmp (l := [.int .u32 4294967295, .int .u32 4294967295]) rfl Try.underlying46 span_info rfl rfl (Blk.newAt _ _ _ (size_alloc _ _).symm)) rfl ?_
    exact ⟨rfl, more (more (Below.refl _ _) _) _⟩
  · have d1 : (k == 1) = false := by simpa using h1
    by_cases h2 : k = 2
    · subst h2
      have e : spanV (2, a, b) = ((a - 1) % 4294967296, b, true) := by simp [spanV]
      rw [e]
      go_enter Try.func18, Try.ntmps18
      go_wp2_with fail
      refine bodyPost_ret (results_blk_tmp (l := [.int .u32 (IntKind.u32.wrap (a - 1)), .int .u32 b]) rfl Try.underlying46 span_info rfl rfl (Blk.newAt _ _ _ (size_alloc _ _).symm)) rfl ?_
      exact ⟨by simp [IntKind.wrap, IntKind.bits, IntKind.signed], more (more (Below.refl _ _) _) _⟩
    · have d2 : (k == 2) = false := by simpa using h2
      have e : spanV (k, a, b) = (0, 0, false) := by unfold spanV; rw [if_neg h1, if_neg h2]
      rw [e]
      go_enter Try.func18, Try.ntmps18
      go_wp2_with fail
      refine bodyPost_ret (results_blk_tmp (l := [.int .u32 0, .int .u32 0]) rfl Try.underlying46 span_info rfl rfl (Blk.newAt _ _ _ (size_alloc _ _).symm)) rfl ?_
      exact ⟨rfl, more (more (Below.refl _ _) _) _⟩
theorem span_in (k a b v : Int) : inV (k, a, b) v = ((spanV (k, a, b)).2.2 && decide (beh (spanV (k, a, b)).1 v ≤ beh (spanV (k, a, b)).1 (spanV (k, a, b)).2.1)) := by
  by_cases h1 : k = 1
  · subst h1
    have e : spanV (1, a, b) = (4294967295, 4294967295, true) := by simp [spanV]
    have e2 : inV (1, a, b) v = true := by simp [inV]
    rw [e, e2]
    have : beh 4294967295 v ≤ beh 4294967295 4294967295 := by unfold beh; omega
    rw [decide_eq_true this]
    rfl
  · have d1 : (k == 1) = false := by simpa using h1
    by_cases h2 : k = 2
    · subst h2
      have e : spanV (2, a, b) = ((a - 1) % 4294967296, b, true) := by simp [spanV]
      have e2 : inV (2, a, b) v = decide ((v - a) % 4294967296 ≤ (b - a) % 4294967296) := by simp [inV]
      rw [e, e2, Bool.true_and]
      show _ = decide (beh ((a - 1) % 4294967296) v ≤ beh ((a - 1) % 4294967296) b)
      have : ((v - a) % 4294967296 ≤ (b - a) % 4294967296) ↔ (beh ((a - 1) % 4294967296) v ≤ beh ((a - 1) % 4294967296) b) := by unfold beh; omega
      simp only [this]
    · have d2 : (k == 2) = false := by simpa using h2
      have e : spanV (k, a, b) = (0, 0, false) := by unfold spanV; rw [if_neg h1, if_neg h2]
      have e2 : inV (k, a, b) v = false := by simp [inV, d1, d2]
      rw [e, e2, Bool.false_and]
end Go.Proofs.Ythdcgobdcdfefaa
/- Package box: Right, Match, Empty. -/
namespace Go.Proofs.Ythdcgobdcdfefaa
open Go.RowKit Mem Cir
set_option linter.unusedSimpArgs false
set_option linter.unusedVariables false
attribute [local irreducible] Go.Calls

theorem rinfo3 : (Try.prog.info? 26).map (·.size) = some 3 := by kernel_rfl
set_option maxHeartbeats 1000000 in
theorem orightb_any (attrs : Int) (v : Value) (l : List (Int × Int × Int)) (w : World) (h : Rd rngE w v l) :
    Calls Try.prog 17 #[.int .i64 attrs, v] w fun e w' => e = .returned (.bool (rightB attrs l)) ∧ Below w.heap.size w w' := by
  obtain ⟨a, g, off, c, rfl, hc1, hm1, ha, hcell⟩ := Rd.loop3 h
  have hm1' : c ≤ 9223372036854775807 := hm1
  have HA := Lib.hid ha
  have HC := Lib.hid hcell
  clear h ha hcell
  by_cases h1 : attrs < 1
  · have e : rightB attrs l = false := by simp [rightB]; omega
    rw [e]
    go_enter Try.func17, Try.ntmps17
    go_wp2_with fail
    go_ret
    exact ⟨rfl, Below.refl _ _⟩
  by_cases h2 : attrs > 8
  · have e : rightB attrs l = false := by simp [rightB]; omega
    rw [e]
    go_enter Try.func17, Try.ntmps17
    go_wp2_with fail
    go_ret
    exact ⟨rfl, Below.refl _ _⟩
  by_cases h3 : (l.length : Int) = attrs
  case neg =>
    have e : rightB attrs l = false := by simp [rightB]; omega
    rw [e]
    have d3 : ((l.length : Int) == attrs) = false := by simpa using h3
    go_enter Try.func17, Try.ntmps17
    go_wp2_with fail
    go_ret
    exact ⟨rfl, Below.refl _ _⟩
  subst h3
  have e : rightB l.length l = l.all (fun (r : Int × Int × Int) => kindV r.1) := by
    have h1' : (1 : Int) ≤ l.length := by omega
    have h2' : (l.length : Int) ≤ 8 := by omega
    unfold rightB
    rw [decide_eq_true h1', decide_eq_true h2', decide_eq_true rfl]
    simp
  rw [e]
  have HY : Hid ((∀ i, i < l.length → kindV (l.getD i (0, 0, 0)).1 = true) → l.all (fun (r : Int × Int × Int) => kindV r.1) = true) := Lib.hid (fun h => all_yes (f := fun (r : Int × Int × Int) => kindV r.1) h)
  have HN : Hid (∀ k, k < l.length → kindV (l.getD k (0, 0, 0)).1 = false → l.all (fun (r : Int × Int × Int) => kindV r.1) = false) := Lib.hid (fun k hk h => all_no (f := fun (r : Int × Int × Int) => kindV r.1) hk h)
  generalize l.all (fun (r : Int × Int × Int) => kindV r.1) = res at *
  clear e
  go_enter Try.func17, Try.ntmps17
  go_wp2_with fail
  go_loopw [21] (fun i wr => ∃ k : Nat, k ≤ l.length ∧ i = .int .i64 k ∧ (∀ i, i < k → kindV (l.getD i (0, 0, 0)).1 = true) ∧ Below w.heap.size w wr) (fun i _ => l.length - (intOf i).toNat)
  case atStart => exact ⟨0, Nat.zero_le _, rfl, fun i hi => absurd hi (Nat.not_lt_zero _), Below.refl _ _⟩
  case round =>
    obtain ⟨k, hk, rfl, hu, hb⟩ := hrel
    have HU := Lib.hid hu
    clear hu
    by_cases hlt : k < l.length
    · obtain ⟨rfl, hg⟩ := HA.out (by omega)
      have d1 := (hb.cell (p := ⟨g, off + k * 3, none⟩) hg).trans (HC.out k hlt).1
      have d2 := (hb.cell (p := ⟨g, off + k * 3 + 1, none⟩) hg).trans (HC.out k hlt).2.1
      have d3 := (hb.cell (p := ⟨g, off + k * 3 + 2, none⟩) hg).trans (HC.out k hlt).2.2
      have HX : Hid (kindV (l.getD k (0, 0, 0)).1 = true → ∀ i, i < k + 1 → kindV (l.getD i (0, 0, 0)).1 = true) := Lib.hid (fun h => next_all HU.out h)
      have HNk := Lib.hid (HN.out k hlt)
      generalize (l.getD k (0, 0, 0)).1 = x at *
      generalize (l.getD k (0, 0, 0)).2.1 = y at *
      generalize (l.getD k (0, 0, 0)).2.2 = u at *
      have HB := Lib.hid hb
      clear hb
      go_wp2_with fail
      refine (ois_any x _).mono ?_
      rintro e w1 ⟨rfl, hb1⟩
      have HB1 := Lib.hid (nest (nest HB.out (more (Below.refl _ _) _)) hb1)
      clear hb1 d1 d2 d3
      cases hx : kindV x with
      | true =>
        have H2 := Lib.hid (HX.out hx)
        clear hx
        go_wp2_with fail
        exact ⟨⟨k + 1, by omega, by go_num, H2.out, HB1.out⟩, by simp [intOf]; omega⟩
      | false =>
        have H2 := Lib.hid (HNk.out hx)
        clear hx
        go_wp2_with fail
        go_ret
        exact ⟨by rw [H2.out]; rfl, HB1.out⟩
    · have hkn : k = l.length := by omega
      subst hkn
      have HR := Lib.hid (HY.out HU.out)
      go_wp2_with fail
      go_ret
      exact ⟨by rw [HR.out]; rfl, hb⟩
end Go.Proofs.Ythdcgobdcdfefaa
/- Package box: Pack. -/
namespace Go.Proofs.Ythdcgobdcdfefaa
open Go.RowKit Mem Cir
set_option linter.unusedSimpArgs false
set_option linter.unusedVariables false
attribute [local irreducible] Go.Calls

end Go.Proofs.Ythdcgobdcdfefaa
