/- The document's own Meet and Less answer the same lists. -/
import Derived.Test.YthdcgobdcdfefaaRefMath
set_option maxRecDepth 4000
namespace Go.Proofs.Ythdcgobdcdfefaa
open Go.RowKit Cir
set_option linter.unusedSimpArgs false
set_option linter.unusedVariables false
namespace Cir
theorem pce_bd (n a b : Int) (hn : 1 ≤ n ∧ n ≤ 4294967296) (ha : 0 ≤ a ∧ a ≤ 4294967296) (hb : 0 ≤ b ∧ b ≤ 4294967296) : (pce n a b).length ≤ 1 ∧ ∀ x ∈ pce n a b, 0 ≤ x.1 ∧ x.1 ≤ 4294967296 ∧ 0 ≤ x.2 ∧ x.2 ≤ 4294967296 := by
  have : 0 ≤ hiP n b ∧ hiP n b ≤ 4294967296 := by unfold hiP; split <;> omega
  unfold pce
  split
  · simp
  · simp; omega
theorem pces_bd (n d m : Int) (hn : 1 ≤ n ∧ n ≤ 4294967296) (hd : 0 ≤ d ∧ d ≤ 4294967295) (hm : 1 ≤ m ∧ m ≤ 4294967295) :
    (if d + m ≤ 4294967296 then pce n d (d + m) else pce n 0 (d + m - 4294967296) ++ pce n d 4294967296).length ≤ 2 ∧
    ∀ x ∈ (if d + m ≤ 4294967296 then pce n d (d + m) else pce n 0 (d + m - 4294967296) ++ pce n d 4294967296), 0 ≤ x.1 ∧ x.1 ≤ 4294967296 ∧ 0 ≤ x.2 ∧ x.2 ≤ 4294967296 := by
  split
  · have h := pce_bd n d (d + m) hn (by omega) (by omega)
    exact ⟨by omega, h.2⟩
  · have h1 := pce_bd n 0 (d + m - 4294967296) hn (by omega) (by omega)
    have h2 := pce_bd n d 4294967296 hn (by omega) (by omega)
    refine ⟨by rw [List.length_append]; omega, fun x hx => ?_⟩
    rcases List.mem_append.1 hx with hx | hx
    · exact h1.2 x hx
    · exact h2.2 x hx
theorem prts_bd (f t g u : Int) (hg : 0 ≤ g ∧ g ≤ 4294967295) (hu : 0 ≤ u ∧ u ≤ 4294967295) : (prts f t g u).length ≤ 2 ∧ ∀ x ∈ prts f t g u, 0 ≤ x.1 ∧ x.1 ≤ 4294967296 ∧ 0 ≤ x.2 ∧ x.2 ≤ 4294967296 := by
  have b1 := far_bd f g
  have b3 := beh_bd f t
  by_cases h : g = u
  · subst h; rw [prts_whole]; simp; omega
  · have b2 : 1 ≤ beh g u ∧ beh g u ≤ 4294967295 := by unfold beh; omega
    rw [prts_cut f t g u h hg hu]
    exact pces_bd _ _ _ b3 b1 b2
theorem oths_bd (f t g u : Int) (hg : 0 ≤ g ∧ g ≤ 4294967295) (hu : 0 ≤ u ∧ u ≤ 4294967295) : (othP (beh f t) (prts f t g u)).length ≤ 2 ∧ ∀ x ∈ othP (beh f t) (prts f t g u), 0 ≤ x.1 ∧ x.1 ≤ 4294967296 ∧ 0 ≤ x.2 ∧ x.2 ≤ 4294967296 := by
  have b1 := far_bd f g
  have b3 := beh_bd f t
  by_cases h : g = u
  · subst h; rw [prts_whole, oth_one _ _ _ (by omega) (Int.le_refl _)]; simp
  · have b2 : 1 ≤ beh g u ∧ beh g u ≤ 4294967295 := by unfold beh; omega
    have e1 : beh u g = 4294967296 - beh g u := by unfold beh; omega
    have e2 : far f u = if far f g + beh g u < 4294967296 then far f g + beh g u else far f g + beh g u - 4294967296 := by unfold far beh; split <;> omega
    have b5 := far_bd f u
    rw [prts_cut f t g u h hg hu, less_parts _ _ _ (far f u) (beh u g) b3 b1 b2 e1 e2]
    exact pces_bd _ _ _ b3 b5 (by omega)
theorem at_bd {l : List (Int × Int)} (h : ∀ x ∈ l, 0 ≤ x.1 ∧ x.1 ≤ 4294967296 ∧ 0 ≤ x.2 ∧ x.2 ≤ 4294967296) : ∀ i, i < l.length → 0 ≤ (l.getD i (0, 0)).1 ∧ (l.getD i (0, 0)).1 ≤ 4294967296 ∧ 0 ≤ (l.getD i (0, 0)).2 ∧ (l.getD i (0, 0)).2 ≤ 4294967296 := by
  intro i hi
  exact h _ (by simp [List.getD, hi])
end Cir

def PartsPost (B : Nat) (w : World) (l : List (Int × Int)) (e : Ending) (w' : World) : Prop := ∃ v, e = .returned v ∧ PartsAt B w' v l ∧ Below B w w'
theorem rparts_any (f t g u : Int) (bf : 0 ≤ f ∧ f ≤ 4294967295) (bt : 0 ≤ t ∧ t ≤ 4294967295) (bg : 0 ≤ g ∧ g ≤ 4294967295) (bu : 0 ≤ u ∧ u ≤ 4294967295) (w : World) :
    Calls Try.prog 39 #[.agg #[.int .u32 f, .int .u32 t], .agg #[.int .u32 g, .int .u32 u]] w (PartsPost w.heap.size w (prts f t g u)) := by
  by_cases hf : far f g + beh g u ≤ 4294967296
  · have e : prts f t g u = outP (beh f t) [(far f g, far f g + beh g u)] := by unfold prts; rw [if_pos hf]
    rw [e]; exact parts_one f t g u bf bt bg bu hf w
  · have e : prts f t g u = outP (beh f t) [(0, far f g + beh g u - 4294967296), (far f g, 4294967296)] := by unfold prts; rw [if_neg hf]
    rw [e]; exact parts_two f t g u bf bt bg bu (by omega) w
theorem kept4' {W a b : World} {p0 p1 p2 p3 : Addr} {x0 x1 x2 x3 : Value} (h : a.cell? p0 = some x0 ∧ a.cell? p1 = some x1 ∧ a.cell? p2 = some x2 ∧ a.cell? p3 = some x3 ∧ Below W.heap.size W a) (k : Below a.heap.size a b) :
    b.cell? p0 = some x0 ∧ b.cell? p1 = some x1 ∧ b.cell? p2 = some x2 ∧ b.cell? p3 = some x3 ∧ Below W.heap.size W b := ⟨kc k h.1, kc k h.2.1, kc k h.2.2.1, kc k h.2.2.2.1, nest h.2.2.2.2 k⟩

set_option maxHeartbeats 1000000 in
theorem rmeet_any (f t g u : Int) (bf : 0 ≤ f ∧ f ≤ 4294967295) (bt : 0 ≤ t ∧ t ≤ 4294967295) (bg : 0 ≤ g ∧ g ≤ 4294967295) (bu : 0 ≤ u ∧ u ≤ 4294967295) (w : World) :
    Calls Try.prog 32 #[.agg #[.int .u32 f, .int .u32 t], .agg #[.int .u32 g, .int .u32 u]] w (CutPost w.heap.size w (meetL f t g u)) := by
  have HB := Lib.hid (prts_bd f t g u bg bu)
  have HM := Lib.hid (meet_prts f t g u bf bt bg bu)
  go_enter Try.func32, Try.ntmps32
  go_wp2_with fail
  generalize hW : (w.alloc (Obj.cells #[Value.int IntKind.u32 f, Value.int IntKind.u32 t] 46)).alloc (Obj.cells #[Value.int IntKind.u32 g, Value.int IntKind.u32 u] 46) = W
  have hb0 : Below w.heap.size w W := hW ▸ more (more (Below.refl _ _) _) _
  have hc0 : W.cell? ⟨w.heap.size, 0, none⟩ = some (.int .u32 f) := by rw [← hW]; simp
  have hc1 : W.cell? ⟨w.heap.size, 1, none⟩ = some (.int .u32 t) := by rw [← hW]; simp
  have hc2 : W.cell? ⟨w.heap.size + 1, 0, none⟩ = some (.int .u32 g) := by rw [← hW]; simp
  have hc3 : W.cell? ⟨w.heap.size + 1, 1, none⟩ = some (.int .u32 u) := by rw [← hW]; simp
  clear hW
  refine Run.region_walk (S := fun z => z.cell? ⟨w.heap.size, 0, none⟩ = some (.int .u32 f) ∧ z.cell? ⟨w.heap.size, 1, none⟩ = some (.int .u32 t) ∧ z.cell? ⟨w.heap.size + 1, 0, none⟩ = some (.int .u32 g) ∧ z.cell? ⟨w.heap.size + 1, 1, none⟩ = some (.int .u32 u) ∧ Below W.heap.size W z)
    rmeet.rows1 rmeet.plan1 (l := ?steps1) (by kernel_rfl) (by kernel_rfl) (by kernel_rfl) (by kernel_rfl) ?written1 ⟨hc0, hc1, hc2, hc3, (Below.refl _ _).drew⟩ ?onward1
  case written1 =>
    simp only [rmeet.plan1, Run.stepsOf, Run.stepOf, Run.guardOf, List.getElem?_toArray, List.getElem?_cons_zero, List.getElem?_cons_succ, Option.map_some, Option.map_none, Option.bind_some, Option.toList_some, List.map_cons, List.map_nil, List.cons_append, List.nil_append, List.append_eq]
    rfl
  repeat ((first
    | (refine Run.takes (v := ?_) ?_ ?_; rotate_left; (· intro w' hS'; go_simp; (try with_reducible rfl)))
    | (refine Run.takesG (v := ?_) ?_ ?_ ?_; rotate_left; (· simp only [List.getElem?_cons_zero, List.getElem?_cons_succ]); (· intro w' hS'; go_simp; (try with_reducible rfl)))
    | (refine Run.skipsT ?_ ?_; (· simp only [List.getElem?_cons_zero, List.getElem?_cons_succ]))
    | (refine Run.skipsF ?_ ?_; (· simp only [List.getElem?_cons_zero, List.getElem?_cons_succ]))
    | (refine Run.skipsU ?_ ?_; (· simp only [List.getElem?_cons_zero, List.getElem?_cons_succ]))
    | (refine Run.passT ?_ ?_; (· simp only [List.getElem?_cons_zero, List.getElem?_cons_succ]))
    | (refine Run.passF ?_ ?_; (· simp only [List.getElem?_cons_zero, List.getElem?_cons_succ]))
    | (refine Run.passU ?_ ?_; (· simp only [List.getElem?_cons_zero, List.getElem?_cons_succ]))
    | fail); simp only [Act.put, List.setIfInBounds_toArray, List.set_cons_zero, List.set_cons_succ])
  refine Run.runs (Run.callF 39 (by kernel_rfl) (fun hS => rparts_any f t g u bf bt bg bu _) rfl ?_)
  rintro hS e z1 ⟨v1, rfl, hp1, hz1⟩
  refine ⟨_, rfl, kept4' hS hz1, ?_⟩
  simp only [Act.put, List.setIfInBounds_toArray, List.set_cons_zero, List.set_cons_succ]
  refine Run.runs (Run.callF 38 (by kernel_rfl) (fun hS => rspans_any f t _ _ (prts f t g u) (by have := HB.out.1; omega) (at_bd HB.out.2) _ hp1) rfl ?_)
  rintro hS2 e z2 ⟨v2, rfl, hp2, hz2⟩
  have hS3 := kept4' hS2 hz2
  refine ⟨_, rfl, hS3, ?_⟩
  simp only [Act.put, List.setIfInBounds_toArray, List.set_cons_zero, List.set_cons_succ]
  repeat ((first
    | (refine Run.takes (v := ?_) ?_ ?_; rotate_left; (· intro w' hS'; go_simp; (try with_reducible rfl)))
    | (refine Run.takesG (v := ?_) ?_ ?_ ?_; rotate_left; (· simp only [List.getElem?_cons_zero, List.getElem?_cons_succ]); (· intro w' hS'; go_simp; (try with_reducible rfl)))
    | (refine Run.skipsT ?_ ?_; (· simp only [List.getElem?_cons_zero, List.getElem?_cons_succ]))
    | (refine Run.skipsF ?_ ?_; (· simp only [List.getElem?_cons_zero, List.getElem?_cons_succ]))
    | (refine Run.skipsU ?_ ?_; (· simp only [List.getElem?_cons_zero, List.getElem?_cons_succ]))
    | (refine Run.passT ?_ ?_; (· simp only [List.getElem?_cons_zero, List.getElem?_cons_succ]))
    | (refine Run.passF ?_ ?_; (· simp only [List.getElem?_cons_zero, List.getElem?_cons_succ]))
    | (refine Run.passU ?_ ?_; (· simp only [List.getElem?_cons_zero, List.getElem?_cons_succ]))
    | fail); simp only [Act.put, List.setIfInBounds_toArray, List.set_cons_zero, List.set_cons_succ])
  refine Run.ends (fun _ => ?_)
  rw [HM.out] at hp2
  go_wp2_with fail
  go_ret
  exact ⟨v2, rfl, hp2.mono (nest hb0 hS2.2.2.2.2).size, nest hb0 hS3.2.2.2.2⟩

end Go.Proofs.Ythdcgobdcdfefaa
