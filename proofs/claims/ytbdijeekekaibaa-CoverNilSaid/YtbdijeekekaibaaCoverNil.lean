/- Walk of CoverNil. -/
import Derived.Test.YtbdijeekekaibaaCoverAwake
namespace Go.Proofs.Ytbdijeekekaibaa.coverNil
open Go.RowKit Cir Mem
set_option linter.unusedSimpArgs false
set_option linter.unusedVariables false
attribute [local irreducible] Go.Calls

theorem keep3 {W a b : World} {p0 p1 : Addr} {x0 x1 : Value} (h : a.cell? p0 = some x0 ∧ a.cell? p1 = some x1 ∧ Below W.heap.size W a) (k : Below a.heap.size a b) : b.cell? p0 = some x0 ∧ b.cell? p1 = some x1 ∧ Below W.heap.size W b := ⟨kc k h.1, kc k h.2.1, nest h.2.2 k⟩

set_option maxHeartbeats 4000000 in
theorem walk (f t : Int) (bf : 0 ≤ f ∧ f ≤ 4294967295) (bt : 0 ≤ t ∧ t ≤ 4294967295) (w : World) :
    Calls Try.prog 5 #[.agg #[.int .u32 f, .int .u32 t]] w fun e w' => e = .returned (.bool true) ∧ Below w.heap.size w w' := by
  go_enter Try.func5, Try.ntmps5
  go_wp2_with fail
  generalize hW : w.alloc (Obj.cells #[Value.int IntKind.u32 f, Value.int IntKind.u32 t] 24) = W
  have hb0 : Below w.heap.size w W := hW ▸ more (Below.refl _ _) _
  have hc0 : W.cell? ⟨w.heap.size, 0, none⟩ = some (.int .u32 f) := by rw [← hW]; simp
  have hc1 : W.cell? ⟨w.heap.size, 1, none⟩ = some (.int .u32 t) := by rw [← hW]; simp
  clear hW
  refine (cnew_any f f W).mono ?_
  rintro e w1 ⟨b, rfl, hcv, hk1⟩
  rw [beh_self] at hcv
  have hbW : W.heap.size ≤ b := hcv.1
  have hwW : w.heap.size < W.heap.size := World.block_lt_of_cell? W _ hc0
  have d0 := kc hk1 hc0
  have d1 := kc hk1 hc1
  have hb1 := nest hb0 hk1
  have hnm : Norm (beh f f) 0 [(0, 4294967296)] := by rw [beh_self]; simp [Norm]
  have hnm' : Norm 4294967296 0 [(0, 4294967296)] := by simp [Norm]
  have hfin : sumL [(0, 4294967296)] - sumL (addL (prts f f f t) [(0, 4294967296)]) = beh f t := by
    have hn2 := prts_norm f f f t bf bt
    have hp : ∀ p ∈ prts f f f t, p.1 < p.2 := fun p hp => (hn2.all p hp).2.1
    have e : addL (prts f f f t) [(0, 4294967296)] = if beh f t < 4294967296 then [(beh f t, 4294967296)] else [] := by
      have bd := beh_bd f t
      refine norm_ext (n := beh f f) (n' := 4294967296) (lo := 0) (lo' := 0) (addL_norm _ hp hnm) (by split <;> simp [Norm] <;> omega) (fun v => ?_)
      have hin : inL (prts f f f t) v ↔ 0 < v ∧ v ≤ beh f t := by
        rw [prts_in f f f t bf bf bt v, beh_self]
        have : 0 < v → v ≤ 4294967296 → beh f ((f + v) % 4294967296) = v := by intro h1 h2; unfold beh; omega
        constructor
        · rintro ⟨⟨h1, h2⟩, h3⟩; rw [this h1 h2] at h3; exact ⟨h1, h3⟩
        · rintro ⟨h1, h2⟩
          have h4 : v ≤ 4294967296 := by omega
          rw [this h1 h4]; exact ⟨⟨h1, h4⟩, h2⟩
      rw [addL_in v _ hp hnm, hin, inL_cons]
      by_cases hlt : beh f t < 4294967296
      · rw [if_pos hlt, inL_cons]; simp only [inL_nil, or_false]; omega
      · rw [if_neg hlt]; simp only [inL_nil, or_false, iff_false]; omega
    have bd := beh_bd f t
    rw [e]
    split
    · simp only [sumL_cons, sumL_nil]; omega
    · simp only [sumL_cons, sumL_nil]; omega
  have HF := Lib.hid hfin
  clear hfin hc0 hc1
  have bd := beh_bd f t
  replace hcv : CoverAt W.heap.size w1.drew b f f [(0, 4294967296)] := hcv.keep (Below.refl _ _).drew
  go_wp2_with fail
  refine Run.region_walk (S := fun z => z.cell? ⟨w.heap.size, 0, none⟩ = some (.int .u32 f) ∧ z.cell? ⟨w.heap.size, 1, none⟩ = some (.int .u32 t) ∧ Below w.heap.size w z)
    lnil.rows3 lnil.plan3 (l := ?steps1) (by kernel_rfl) (by kernel_rfl) (by kernel_rfl) (by kernel_rfl) ?written1 ⟨d0, d1, hb1.drew⟩ ?onward1
  case written1 =>
    simp only [lnil.plan3, Run.stepsOf, Run.stepOf, Run.guardOf, List.getElem?_toArray, List.getElem?_cons_zero, List.getElem?_cons_succ, Option.map_some, Option.map_none, Option.bind_some, Option.toList_some, List.map_cons, List.map_nil, List.cons_append, List.nil_append]
    rfl
  repeat ((first
    | (refine Run.takes (v := ?_) ?_ ?_; rotate_left; (· intro w' hS'; go_simp; (try with_reducible rfl)))
    | (refine Run.takesG (v := ?_) ?_ ?_ ?_; rotate_left; (· simp only [List.getElem?_cons_zero, List.getElem?_cons_succ]); (· intro w' hS'; go_simp; (try with_reducible rfl)))
    | (refine Run.skipsT ?_ ?_; (· simp only [List.getElem?_cons_zero, List.getElem?_cons_succ]))
    | (refine Run.skipsF ?_ ?_; (· simp only [List.getElem?_cons_zero, List.getElem?_cons_succ]))
    | (refine Run.skipsU ?_ ?_; (· simp only [List.getElem?_cons_zero, List.getElem?_cons_succ]))
    | (refine Run.passT ?_ ?_; (· simp only [List.getElem?_cons_zero, List.getElem?_cons_succ]))
    | (refine Run.passF ?_ ?_; (· simp only [List.getElem?_cons_zero, List.getElem?_cons_succ]))
    | (refine Run.passU ?_ ?_; (· simp only [List.getElem?_cons_zero, List.getElem?_cons_succ]))
    | (refine Run.runs ?_
       (first
       | (refine Run.callF 9 (by kernel_rfl) (fun hS => cawake_any _) rfl ?_)
       | (refine Run.callG 9 (by kernel_rfl) ?_ (fun hS => cawake_any _) rfl ?_; (· simp only [List.getElem?_cons_zero, List.getElem?_cons_succ]))
       | (refine Run.callF 10 (by kernel_rfl) (fun hS => cadd_nil f t _) rfl ?_)
       | (refine Run.callG 10 (by kernel_rfl) ?_ (fun hS => cadd_nil f t _) rfl ?_; (· simp only [List.getElem?_cons_zero, List.getElem?_cons_succ]))
       | (refine Run.callF 15 (by kernel_rfl) (fun hS => cgaps_none _) rfl ?_)
       | (refine Run.callG 15 (by kernel_rfl) ?_ (fun hS => cgaps_none _) rfl ?_; (· simp only [List.getElem?_cons_zero, List.getElem?_cons_succ]))
       | (refine Run.callF 17 (by kernel_rfl) (fun hS => cwhole_nil _) rfl ?_)
       | (refine Run.callG 17 (by kernel_rfl) ?_ (fun hS => cwhole_nil _) rfl ?_; (· simp only [List.getElem?_cons_zero, List.getElem?_cons_succ]))
       | (refine Run.callF 12 (by kernel_rfl) (fun hS => cleft_nil _) rfl ?_)
       | (refine Run.callG 12 (by kernel_rfl) ?_ (fun hS => cleft_nil _) rfl ?_; (· simp only [List.getElem?_cons_zero, List.getElem?_cons_succ]))
       | (refine Run.callF 18 (by kernel_rfl) (fun hS => cfork_nil _) rfl ?_)
       | (refine Run.callG 18 (by kernel_rfl) ?_ (fun hS => cfork_nil _) rfl ?_; (· simp only [List.getElem?_cons_zero, List.getElem?_cons_succ]))
       | fail)
       (first
       | (rintro hS e w' ⟨rfl, rfl⟩; refine ⟨_, rfl, hS, ?_⟩)
       | (rintro hS e w' ⟨rfl, hb⟩; refine ⟨_, rfl, keep3 hS hb, ?_⟩; replace hcv := hcv.keep hb)
       | fail))
    | fail); simp only [Act.put, List.setIfInBounds_toArray, List.set_cons_zero, List.set_cons_succ])
  refine Run.runs (Run.callG 12 (by kernel_rfl) ?_ (fun hS => cleft_any W.heap.size b f f 4294967296 _ _ hcv hnm' (by omega)) rfl ?_)
  · simp only [List.getElem?_cons_zero, List.getElem?_cons_succ]
  rintro hS e x ⟨rfl, hkx⟩
  rw [show sumL [((0 : Int), (4294967296 : Int))] = 4294967296 from by simp [sumL_cons, sumL_nil]]
  refine ⟨_, rfl, keep3 hS hkx, ?_⟩
  replace hcv := hcv.keep hkx
  clear hS
  simp only [Act.put, List.setIfInBounds_toArray, List.set_cons_zero, List.set_cons_succ]
  repeat ((first
    | (refine Run.takes (v := ?_) ?_ ?_; rotate_left; (· intro w' hS'; go_simp; (try with_reducible rfl)))
    | (refine Run.takesG (v := ?_) ?_ ?_ ?_; rotate_left; (· simp only [List.getElem?_cons_zero, List.getElem?_cons_succ]); (· intro w' hS'; go_simp; (try with_reducible rfl)))
    | (refine Run.skipsT ?_ ?_; (· simp only [List.getElem?_cons_zero, List.getElem?_cons_succ]))
    | (refine Run.skipsF ?_ ?_; (· simp only [List.getElem?_cons_zero, List.getElem?_cons_succ]))
    | (refine Run.skipsU ?_ ?_; (· simp only [List.getElem?_cons_zero, List.getElem?_cons_succ]))
    | (refine Run.passT ?_ ?_; (· simp only [List.getElem?_cons_zero, List.getElem?_cons_succ]))
    | (refine Run.passF ?_ ?_; (· simp only [List.getElem?_cons_zero, List.getElem?_cons_succ]))
    | (refine Run.passU ?_ ?_; (· simp only [List.getElem?_cons_zero, List.getElem?_cons_succ]))
    | fail); simp only [Act.put, List.setIfInBounds_toArray, List.set_cons_zero, List.set_cons_succ])
  refine Run.runs (Run.callG 10 (by kernel_rfl) ?_ (fun hS => cadd_any W.heap.size b f f f t bf bf bf bt _ _ hcv hnm (by simp)) rfl ?_)
  · simp only [List.getElem?_cons_zero, List.getElem?_cons_succ]
  rintro hS e y ⟨rfl, hcy, hoy⟩
  rw [HF.out]
  have hy0 := World.grownBy.cell hoy hS.1 (by simp; omega)
  have hy1 := World.grownBy.cell hoy hS.2.1 (by simp; omega)
  have hyb := hS.2.2.trans (hoy.below (show w.heap.size ≤ b by omega) hS.2.2.size)
  refine ⟨_, rfl, ⟨hy0, hy1, hyb⟩, ?_⟩
  clear hS hcy hoy
  simp only [Act.put, List.setIfInBounds_toArray, List.set_cons_zero, List.set_cons_succ]
  repeat ((first
    | (refine Run.takes (v := ?_) ?_ ?_; rotate_left; (· intro w' hS'; go_simp; (try with_reducible rfl)))
    | (refine Run.takesG (v := ?_) ?_ ?_ ?_; rotate_left; (· simp only [List.getElem?_cons_zero, List.getElem?_cons_succ]); (· intro w' hS'; go_simp; (try with_reducible rfl)))
    | (refine Run.skipsT ?_ ?_; (· simp only [List.getElem?_cons_zero, List.getElem?_cons_succ]))
    | (refine Run.skipsF ?_ ?_; (· simp only [List.getElem?_cons_zero, List.getElem?_cons_succ]))
    | (refine Run.skipsU ?_ ?_; (· simp only [List.getElem?_cons_zero, List.getElem?_cons_succ]))
    | (refine Run.passT ?_ ?_; (· simp only [List.getElem?_cons_zero, List.getElem?_cons_succ]))
    | (refine Run.passF ?_ ?_; (· simp only [List.getElem?_cons_zero, List.getElem?_cons_succ]))
    | (refine Run.passU ?_ ?_; (· simp only [List.getElem?_cons_zero, List.getElem?_cons_succ]))
    | fail); simp only [Act.put, List.setIfInBounds_toArray, List.set_cons_zero, List.set_cons_succ])
  refine Run.runs (Run.callG 19 (by kernel_rfl) ?_ (fun hS => rsize_any f t bf bt _) rfl ?_)
  · simp only [List.getElem?_cons_zero, List.getElem?_cons_succ]
  rintro hS e z ⟨rfl, hkz⟩
  refine ⟨_, rfl, keep3 hS hkz, ?_⟩
  clear hS
  simp only [Act.put, List.setIfInBounds_toArray, List.set_cons_zero, List.set_cons_succ]
  repeat ((first
    | (refine Run.takes (v := ?_) ?_ ?_; rotate_left; (· intro w' hS'; go_simp; (try with_reducible rfl)))
    | (refine Run.takesG (v := ?_) ?_ ?_ ?_; rotate_left; (· simp only [List.getElem?_cons_zero, List.getElem?_cons_succ]); (· intro w' hS'; go_simp; (try with_reducible rfl)))
    | (refine Run.skipsT ?_ ?_; (· simp only [List.getElem?_cons_zero, List.getElem?_cons_succ]))
    | (refine Run.skipsF ?_ ?_; (· simp only [List.getElem?_cons_zero, List.getElem?_cons_succ]))
    | (refine Run.skipsU ?_ ?_; (· simp only [List.getElem?_cons_zero, List.getElem?_cons_succ]))
    | (refine Run.passT ?_ ?_; (· simp only [List.getElem?_cons_zero, List.getElem?_cons_succ]))
    | (refine Run.passF ?_ ?_; (· simp only [List.getElem?_cons_zero, List.getElem?_cons_succ]))
    | (refine Run.passU ?_ ?_; (· simp only [List.getElem?_cons_zero, List.getElem?_cons_succ]))
    | fail); simp only [Act.put, List.setIfInBounds_toArray, List.set_cons_zero, List.set_cons_succ])
  refine Run.ends (fun hS => ?_)
  go_wp2_with fail
  go_ret
  exact ⟨rfl, hS.2.2⟩
end Go.Proofs.Ytbdijeekekaibaa.coverNil
