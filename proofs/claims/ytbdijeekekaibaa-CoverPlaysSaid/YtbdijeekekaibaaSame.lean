/- Two lists of spans held against each other, one by one: petasoshelp.Plain. -/
import Derived.Test.YtbdijeekekaibaaSpan
import Derived.Test.YtbdijeekekaibaaSamePlans
import Derived.Lib.Hide
namespace Go.Proofs.Ytbdijeekekaibaa
open Go.RowKit Cir
set_option linter.unusedSimpArgs false

theorem eq_yes (a b : Int) (w : World) :
    Calls Try.prog 29 #[.agg #[.int .u32 a, .int .u32 b], .agg #[.int .u32 a, .int .u32 b]] w fun e w' => e = .returned (.bool true) ∧ Below w.heap.size w w' := by
  go_enter Try.func29, Try.ntmps29
  go_wp2
  go_ret
  exact ⟨rfl, more (more (Below.refl _ _) _) _⟩

theorem SpansAt.cells {B : Nat} {w : World} {v : Value} {l : List (Int × Int)} (h : SpansAt B w v l) (hl : 0 < l.length) :
    ∃ g c, v = .slice (some ⟨g, 0, none⟩) l.length c ∧ g < w.heap.size ∧ ∀ i, i < l.length → w.cell? ⟨g, i * 2, none⟩ = some (.int .u32 (l.getD i (0, 0)).1) ∧ w.cell? ⟨g, i * 2 + 1, none⟩ = some (.int .u32 (l.getD i (0, 0)).2) := by
  rcases h.2 with ⟨_, hn⟩ | ⟨g, cap, cur, hv, hg, hc, hr⟩
  · omega
  · subst hv
    have hlt : g < w.heap.size := (Array.getElem?_eq_some_iff.1 hc).1
    refine ⟨g, cap, rfl, hlt, fun i hi => ?_⟩
    have hf : ∀ (l : List (Int × Int)) (i : Nat), i < l.length → (flat l)[i * 2]? = some (.int .u32 (l.getD i (0, 0)).1) ∧ (flat l)[i * 2 + 1]? = some (.int .u32 (l.getD i (0, 0)).2) := by
      intro l
      induction l with
      | nil => intro i hi; simp at hi
      | cons x l ih =>
        intro i hi
        cases i with
        | zero => simp [flat]
        | succ i =>
          have := ih i (by simpa using hi)
          have e : flat (x :: l) = .int .u32 x.1 :: .int .u32 x.2 :: flat l := by simp [flat]
          rw [e, show (i + 1) * 2 = i * 2 + 1 + 1 from by omega, show i * 2 + 1 + 1 + 1 = (i * 2 + 1) + 1 + 1 from by omega]
          simpa using this
    have hfi := hf l i hi
    exact ⟨(World.ownsRow.cellAt h (i * 2) (by omega)).trans hfi.1, (World.ownsRow.cellAt h (i * 2 + 1) (by omega)).trans hfi.2⟩

theorem same_none (a1 a2 : Option Addr) (c1 c2 : Nat) (w : World) :
    Calls Try.prog 28 #[.slice a1 0 c1, .slice a2 0 c2, .func (.func 29) #[] #[]] w fun e w' => e = .returned (.bool true) ∧ w = w' := by
  go_enter Try.func28, Try.ntmps28
  go_wp2
  go_loop [7] (fun i => i = .int .i64 0) (fun _ => 0)
  case atStart => rfl
  case round =>
    subst hrel
    go_wp2
    go_ret
    exact ⟨rfl, rfl⟩

set_option maxHeartbeats 1000000 in
theorem same_some (g1 g2 n c1 c2 : Nat) (l : List (Int × Int)) (hn : l.length = n) (hn0 : n ≤ 1000) (w : World) (hg1 : g1 < w.heap.size) (hg2 : g2 < w.heap.size)
    (h1 : ∀ i, i < n → w.cell? ⟨g1, i * 2, none⟩ = some (.int .u32 (l.getD i (0, 0)).1) ∧ w.cell? ⟨g1, i * 2 + 1, none⟩ = some (.int .u32 (l.getD i (0, 0)).2))
    (h2 : ∀ i, i < n → w.cell? ⟨g2, i * 2, none⟩ = some (.int .u32 (l.getD i (0, 0)).1) ∧ w.cell? ⟨g2, i * 2 + 1, none⟩ = some (.int .u32 (l.getD i (0, 0)).2)) :
    Calls Try.prog 28 #[.slice (some ⟨g1, 0, none⟩) n c1, .slice (some ⟨g2, 0, none⟩) n c2, .func (.func 29) #[] #[]] w fun e w' => e = .returned (.bool true) ∧ Below w.heap.size w w' := by
  have H1 := Lib.hid h1
  have H2 := Lib.hid h2
  have HN := Lib.hid hn
  clear h1 h2 hn
  go_enter Try.func28, Try.ntmps28
  go_wp2
  go_loopw [7] (fun i wr => ∃ k : Nat, k ≤ n ∧ i = .int .i64 k ∧ Below w.heap.size w wr) (fun i _ => n - (intOf i).toNat)
  case atStart => exact ⟨0, Nat.zero_le _, rfl, Below.refl _ _⟩
  case round =>
    obtain ⟨k, hk, rfl, hb⟩ := hrel
    by_cases hlt : k < n
    · have d1 := (hb.cell (p := ⟨g1, k * 2, none⟩) hg1).trans (H1.out k hlt).1
      have d2 := (hb.cell (p := ⟨g1, k * 2 + 1, none⟩) hg1).trans (H1.out k hlt).2
      have d3 := (hb.cell (p := ⟨g2, k * 2, none⟩) hg2).trans (H2.out k hlt).1
      have d4 := (hb.cell (p := ⟨g2, k * 2 + 1, none⟩) hg2).trans (H2.out k hlt).2
      go_wp2_with fail
      generalize hx : (l.getD k (0, 0)).1 = x at *
      generalize hy : (l.getD k (0, 0)).2 = y at *
      clear hx hy
      refine Run.region_walk (S := fun z => z.cell? ⟨g1, k * 2, none⟩ = some (.int .u32 x) ∧ z.cell? ⟨g1, k * 2 + 1, none⟩ = some (.int .u32 y) ∧ z.cell? ⟨g2, k * 2, none⟩ = some (.int .u32 x) ∧ z.cell? ⟨g2, k * 2 + 1, none⟩ = some (.int .u32 y) ∧ Below w.heap.size w z)
        same.rows5 same.plan5 (l := ?steps3) (by kernel_rfl) (by kernel_rfl) (by kernel_rfl) (by kernel_rfl) ?written3 ⟨d1, d2, d3, d4, hb.drew⟩ ?onward3
      case written3 =>
        simp only [same.plan5, Run.stepsOf, Run.stepOf, Run.guardOf, List.getElem?_toArray, List.getElem?_cons_zero, List.getElem?_cons_succ, Option.map_some, Option.map_none, Option.bind_some, Option.toList_some, List.map_cons, List.map_nil, List.cons_append, List.nil_append]
        rfl
      repeat ((first
        | (refine Run.takes (v := ?_) ?_ ?_; rotate_left; (· intro w' hS'; go_simp; (try with_reducible rfl)))
        | (refine Run.takesG (v := ?_) ?_ ?_ ?_; rotate_left; (· simp only [List.getElem?_cons_zero, List.getElem?_cons_succ]); (· intro w' hS'; go_simp; (try with_reducible rfl)))
        | (refine Run.skipsT ?_ ?_; (· simp only [List.getElem?_cons_zero, List.getElem?_cons_succ]))
        | (refine Run.skipsF ?_ ?_; (· simp only [List.getElem?_cons_zero, List.getElem?_cons_succ]))
        | (refine Run.skipsU ?_ ?_; (· simp only [List.getElem?_cons_zero, List.getElem?_cons_succ]))
        | (refine Run.passT ?_ ?_; (· simp only [List.getElem?_cons_zero, List.getElem?_cons_succ]))
        | (refine Run.passF ?_ ?_; (· simp only [List.getElem?_cons_zero, List.getElem?_cons_succ]))
        | (refine Run.passU ?_ ?_; (· simp only [List.getElem?_cons_zero, List.getElem?_cons_succ]))
        | fail); simp only [Act.put, List.setIfInBounds_toArray, List.set_cons_zero, List.set_cons_succ])
      refine Run.runs (Run.one (fun hS K hK => ?_))
      go_simp
      refine (eq_yes _ _ _).mono ?_
      rintro e z ⟨rfl, hz⟩
      have hS1 := hS
      refine hK.out _ _ ⟨kc hz hS.1, kc hz hS.2.1, kc hz hS.2.2.1, kc hz hS.2.2.2.1, nest hS.2.2.2.2 hz⟩ ?_
      clear hK hS1
      repeat ((first
        | (refine Run.takes (v := ?_) ?_ ?_; rotate_left; (· intro w' hS'; go_simp; (try with_reducible rfl)))
        | (refine Run.takesG (v := ?_) ?_ ?_ ?_; rotate_left; (· simp only [List.getElem?_cons_zero, List.getElem?_cons_succ]); (· intro w' hS'; go_simp; (try with_reducible rfl)))
        | (refine Run.skipsT ?_ ?_; (· simp only [List.getElem?_cons_zero, List.getElem?_cons_succ]))
        | (refine Run.skipsF ?_ ?_; (· simp only [List.getElem?_cons_zero, List.getElem?_cons_succ]))
        | (refine Run.skipsU ?_ ?_; (· simp only [List.getElem?_cons_zero, List.getElem?_cons_succ]))
        | (refine Run.passT ?_ ?_; (· simp only [List.getElem?_cons_zero, List.getElem?_cons_succ]))
        | (refine Run.passF ?_ ?_; (· simp only [List.getElem?_cons_zero, List.getElem?_cons_succ]))
        | (refine Run.passU ?_ ?_; (· simp only [List.getElem?_cons_zero, List.getElem?_cons_succ]))
        | fail); simp only [Act.put, List.setIfInBounds_toArray, List.set_cons_zero, List.set_cons_succ])
      refine Run.ends (fun hS2 => ?_)
      clear K d1 d2 d3 d4
      obtain ⟨_, _, _, _, hb2⟩ := hS2
      go_wp2
      go_roundw
      case rel => exact ⟨k + 1, by omega, by go_num, hb2⟩
      case measure => simp [intOf]; omega
    · have hkn : k = n := by omega
      subst hkn
      go_wp2
      go_ret
      exact ⟨rfl, hb⟩

theorem plain_yes (B1 B2 : Nat) (v1 v2 : Value) (l : List (Int × Int)) (hl : l.length ≤ 1000) (w : World) (h1 : SpansAt B1 w v1 l) (h2 : SpansAt B2 w v2 l) :
    Calls Try.prog 14 #[v1, v2] w fun e w' => e = .returned (.bool true) ∧ Below w.heap.size w w' := by
  by_cases h0 : 0 < l.length
  · obtain ⟨g1, c1, rfl, hg1, k1⟩ := h1.cells h0
    obtain ⟨g2, c2, rfl, hg2, k2⟩ := h2.cells h0
    have hc := same_some g1 g2 l.length c1 c2 l rfl hl w hg1 hg2 k1 k2
    have HC := Lib.hid hc
    clear hc k1 k2 h1 h2
    go_enter Try.func14, Try.ntmps14
    go_wp2_with (go_at_call 28; refine HC.out.mono ?_; rintro e w' ⟨rfl, hk⟩)
    go_ret
    exact ⟨rfl, hk⟩
  · obtain ⟨a1, c1, rfl⟩ := h1.form
    obtain ⟨a2, c2, rfl⟩ := h2.form
    have hz : l.length = 0 := by omega
    rw [hz]
    clear h1 h2
    go_enter Try.func14, Try.ntmps14
    go_wp2_with (go_at_call 28; refine (same_none _ _ _ _ _).mono ?_; rintro e w' ⟨rfl, rfl⟩)
    go_ret
    exact ⟨rfl, Below.refl _ _⟩
end Go.Proofs.Ytbdijeekekaibaa
