/- Walks of package ring, the small ones: steps, how two points are compared, who comes first; the others, sorted. -/
import Derived.Test.YtgkfioloceemcaaNum32
import Derived.Test.YtgkfioloceemcaaRgcPlans
import Derived.Test.YtgkfioloceemcaaRun
import Derived.Test.YtgkfioloceemcaaWalk
import Derived.Test.YtgkfioloceemcaaSortU
import Derived.Test.YtgkfioloceemcaaDelU
import Derived.Shelf.SlSortCmp.NoneTotal
set_option maxRecDepth 4000
namespace Go.Proofs.Ytgkfioloceemcaa
open Go.RowKit Mem
open Go.Sort (grow Holds putRow PermIn SortedIn SWO)
open Go.Shelf
set_option linter.unusedSimpArgs false
set_option linter.unusedVariables false
attribute [local irreducible] Go.Calls

/-- steps from one to another that lies behind it, less one -/
def stR (f t : Int) : Int := (t - f - 1) % 4294967296
theorem stR_bd (f t : Int) : 0 ≤ stR f t ∧ stR f t ≤ 4294967295 := by unfold stR; omega
theorem rgsteps_any (f t : Int) (w : World) :
    Calls Try.prog 40 #[.int .u32 f, .int .u32 t] w fun e w' => e = .returned (.int .u64 (stR f t + 1)) ∧ w' = w := by
  have hb := stR_bd f t
  obtain ⟨x, hx⟩ : ∃ x, x = stR f t := ⟨_, rfl⟩
  have he : Cir.far ((f + 1) % 4294967296) t = x := by rw [hx]; unfold Cir.far stR; omega
  rw [← hx] at hb ⊢
  clear hx
  go_enter Try.func40, Try.ntmps40
  go_wp2_with fail
  refine (far_any _ _ _).mono ?_
  rintro e w' ⟨rfl, rfl⟩
  rw [he]
  clear he
  go_wp2_with fail
  go_ret
  exact ⟨by simp, rfl⟩
set_option maxRecDepth 100000 in
theorem rgcmp_any (gp : Nat) (p x y : Int) (w : World) (h : w.cell? ⟨gp, 0, none⟩ = some (.int .u32 p)) :
    Calls Try.prog 38 #[.int .u32 x, .int .u32 y, .pointer (some ⟨gp, 0, none⟩)] w fun e w' => e = .returned (.int .i64 (Lib.compareInt (stR p x + 1) (stR p y + 1))) ∧ Gr w w' := by
  obtain ⟨CV, hCV⟩ : ∃ r, r = Lib.compareInt (stR p x + 1) (stR p y + 1) := ⟨_, rfl⟩
  have HCV := Lib.hid hCV
  rw [← hCV]
  clear hCV
  have HG := Lib.hid (Gr.refl w)
  go_enter Try.func38, Try.ntmps38
  go_upto_region 1 with fail
  refine Run.region_walk (S := fun z => z.cell? ⟨gp, 0, none⟩ = some (.int .u32 p) ∧ Gr w z)
    orbeh.rows1 orbeh.plan1 (l := ?steps1) (by kernel_rfl) (by kernel_rfl) (by kernel_rfl) (by kernel_rfl) ?written1 ⟨h, HG.out.drew⟩ ?onward1
  case written1 =>
    simp only [orbeh.plan1, Run.stepsOf, Run.stepOf, Run.guardOf, List.getElem?_toArray, List.getElem?_cons_zero, List.getElem?_cons_succ, Option.map_some, Option.map_none, Option.bind_some, Option.toList_some, List.map_cons, List.map_nil, List.cons_append, List.nil_append, List.append_eq]
    rfl
  repeat ((first
    | (refine Run.takes (v := ?_) ?_ ?_; rotate_left; (· intro w' hS'; go_simp; (try with_reducible rfl)))
    | (refine Run.takesG (v := ?_) ?_ ?_ ?_; rotate_left; (· simp only [List.getElem?_cons_zero, List.getElem?_cons_succ]); (· intro w' hS'; go_simp; (try with_reducible rfl)))
    | (refine Run.skipsT ?_ ?_; (· simp only [List.getElem?_cons_zero, List.getElem?_cons_succ]))
    | (refine Run.skipsF ?_ ?_; (· simp only [List.getElem?_cons_zero, List.getElem?_cons_succ]))
    | (refine Run.skipsU ?_ ?_; (· simp only [List.getElem?_cons_zero, List.getElem?_cons_succ]))
    | (refine Run.passT ?_ ?_; (· simp only [List.getElem?_cons_zero, List.getElem?_cons_succ]))
    | (refine Run.passF ?_ ?_; (· simp only [List.getElem?_cons_zero, List.getElem?_cons_succ]))
    | (refine Run.passU ?_ ?_; (· simp only [List.getElem?_cons_zero, List.getElem?_cons_succ]))
    | (refine Run.runs ?_
       (first
       | (refine Run.callF 40 (by kernel_rfl) (fun hS => rgsteps_any _ _ _) rfl ?_)
       | (refine Run.callG 40 (by kernel_rfl) ?_ (fun hS => rgsteps_any _ _ _) rfl ?_; (· simp only [List.getElem?_cons_zero, List.getElem?_cons_succ]))
       | (refine Run.callF 39 (by kernel_rfl) (fun hS => cmp64_any _ _ _) rfl ?_)
       | (refine Run.callG 39 (by kernel_rfl) ?_ (fun hS => cmp64_any _ _ _) rfl ?_; (· simp only [List.getElem?_cons_zero, List.getElem?_cons_succ]))
       | fail)
       (first
       | (rintro hS e w' ⟨rfl, rfl⟩; exact ⟨_, rfl, hS, by assumption⟩)
       | (rintro hS e w' ⟨rfl, rfl⟩; refine ⟨_, rfl, hS, ?_⟩)
       | fail))
    | fail); simp only [Act.put, List.setIfInBounds_toArray, List.set_cons_zero, List.set_cons_succ])
  refine Run.ends (fun hZ => ?_)
  have HZ := Lib.hid hZ.2
  clear hZ h
  go_wp2_with fail
  go_ret
  exact ⟨by rw [HCV.out]; rfl, HZ.out⟩
theorem rgbehind_any (p : Int) (w : World) :
    Calls Try.prog 37 #[.int .u32 p] w fun e w' => e = .returned (.func (.func 38) #[] #[.pointer (some ⟨w.heap.size, 0, none⟩)]) ∧ w' = w.alloc (.cells #[.int .u32 p] 24) := by
  go_enter Try.func37, Try.ntmps37
  go_wp2_with fail
  go_ret
  exact ⟨rfl, rfl⟩
/-! ### a row of numbers, as the library speaks of one -/
theorem only_sortU (w : World) (g m : Nat) (d : Array Int) (os : Array Obj) : Only g w (sortWorld (Value.int .u32) w g 0 m d os) := by
  unfold sortWorld
  refine ⟨rfl, rfl, rfl, by simp [Go.Sort.grow, Go.Sort.putRow, Go.Sort.mapBlock, Go.Sort.ahead], fun j hj hne => ?_⟩
  have hne : g ≠ j := fun e => hne (by rw [e])
  show ((Go.Sort.putRow (Value.int .u32) (Go.Sort.ahead w m) g 0 d).heap ++ os)[j]? = w.heap[j]?
  rw [Array.getElem?_append_left (by simpa [Go.Sort.putRow, Go.Sort.mapBlock, Go.Sort.ahead] using hj)]
  simp [Go.Sort.putRow, Go.Sort.mapBlock, Go.Sort.ahead, Array.getElem?_modify, hne]
theorem holdsU_of_row {w : World} {g : Nat} {l : List Int} {c N : Nat} (h : Row (intE .u32) 24 N w (.slice (some ⟨g, 0, none⟩) l.length c) l) : Holds (Value.int .u32) w g 0 l.toArray := by
  intro j hj
  have hj : j < l.length := by simpa using hj
  refine ⟨?_, by rw [Nat.zero_add]; exact World.ownsRow.frozenAt h j⟩
  obtain ⟨a, g', o, c', hv, _, _, ha, hc⟩ := Mem.Rd.loopI h.rd
  obtain ⟨e1, _⟩ := ha (by omega)
  injection hv with h1 h2 h3
  rw [← h1] at e1
  injection e1 with e1
  injection e1 with e2 e3
  have := hc j hj
  rw [← e2, ← e3] at this
  rw [this, show l.toArray[j]! = l[j] by simp [hj], show l.getD j 0 = l[j] by simp [List.getD, hj]]
theorem rdU_of_holds {w : World} {g : Nat} {l : List Int} {c : Nat} (h : Holds (Value.int .u32) w g 0 l.toArray) (h1 : l.length ≤ c) (h2 : c ≤ maxLen) : Rd (intE .u32) w (.slice (some ⟨g, 0, none⟩) l.length c) l := by
  refine ⟨_, c, rfl, h1, h2, fun hl => ⟨g, 0, rfl, fun j u hu => ?_⟩⟩
  have hj : j < l.length := by
    have := (List.getElem?_eq_some_iff.1 hu).1
    rw [Enc.flat_len] at this
    have e : (intE .u32).size = 1 := rfl
    rw [e, Nat.mul_one] at this
    exact this
  have := (h j (by simpa using hj)).1
  rw [this, show l.toArray[j]! = l[j] by simp [hj]]
  have hf := (intE .u32).flat_at (l := l) (i := j) (j := 0) hj (by show 0 < 1; omega)
  have e : (intE .u32).size = 1 := rfl
  rw [e, show j * 1 + 0 = j by omega, hu] at hf
  rw [hf]
  rfl
theorem holdsU_take {w : World} {g : Nat} {l m : List Int} (h : Holds (Value.int .u32) w g 0 (l ++ m).toArray) : Holds (Value.int .u32) w g 0 l.toArray := by
  intro j hj
  have hj : j < l.length := by simpa using hj
  have := h j (by simp; omega)
  rw [show (l ++ m).toArray[j]! = l.toArray[j]! by simp [hj, List.getElem?_append_left hj]] at this
  exact this
/-! ### the others -/
theorem ltR (p x y : Int) : ltOf (fun x y => Lib.compareInt (stR p x + 1) (stR p y + 1)) x y = decide (stR p x < stR p y) := by
  unfold ltOf
  rw [decide_eq_decide, cmpInt_lt]
  omega
theorem swoR (p : Int) : SWO (ltOf (fun x y => Lib.compareInt (stR p x + 1) (stR p y + 1))) where
  irrefl x := by rw [ltR]; simp
  trans x y z h1 h2 := by rw [ltR] at *; simp only [decide_eq_true_eq, decide_eq_false_iff_not] at *; omega
  ntrans x y z h1 h2 := by rw [ltR] at *; simp only [decide_eq_true_eq, decide_eq_false_iff_not] at *; omega
theorem stR_inj {p x y : Int} (hx : 0 ≤ x ∧ x ≤ 4294967295) (hy : 0 ≤ y ∧ y ≤ 4294967295) (h : stR p x = stR p y) : x = y := by unfold stR at h; omega
/-- the others, in their order -/
theorem oth_sorted {L : List Int} (h : okR L) (p : Int) (bp : 0 ≤ p ∧ p ≤ 4294967295) : (othR L p).Pairwise fun x y => stR p x < stR p y := by
  unfold othR
  rw [List.pairwise_append]
  refine ⟨(h.1.sublist List.filter_sublist).imp_of_mem ?_, (h.1.sublist List.filter_sublist).imp_of_mem ?_, ?_⟩
  · intro x y hx hy hlt
    have h1 := upR_mem.1 hx
    have h2 := upR_mem.1 hy
    have b1 := h.2.1 x h1.1
    have b2 := h.2.1 y h2.1
    unfold stR; omega
  · intro x y hx hy hlt
    have h1 := lowR_mem.1 hx
    have h2 := lowR_mem.1 hy
    have b1 := h.2.1 x h1.1
    have b2 := h.2.1 y h2.1
    unfold stR; omega
  · intro x hx y hy
    have h1 := upR_mem.1 hx
    have h2 := lowR_mem.1 hy
    have b1 := h.2.1 x h1.1
    have b2 := h.2.1 y h2.1
    unfold stR; omega
theorem oth_perm {L : List Int} (h : okR L) (p : Int) : (L.filter fun x => !(x == p)).Perm (othR L p) := by
  have hn : L.Nodup := h.1.imp (fun hlt e => by omega)
  refine (List.perm_ext_iff_of_nodup (hn.sublist List.filter_sublist) ?_).2 (fun x => ?_)
  · unfold othR
    rw [List.nodup_append]
    refine ⟨hn.sublist List.filter_sublist, hn.sublist List.filter_sublist, fun x hx y hy e => ?_⟩
    have h1 := (upR_mem.1 hx).2
    have h2 := (lowR_mem.1 hy).2
    omega
  · unfold othR
    rw [List.mem_filter, List.mem_append, upR_mem, lowR_mem]
    have : (!(x == p)) = true ↔ x ≠ p := by simp
    rw [this]
    constructor
    · rintro ⟨h1, h2⟩
      rcases Int.lt_or_gt_of_ne h2 with h3 | h3
      · exact .inr ⟨h1, h3⟩
      · exact .inl ⟨h1, h3⟩
    · rintro (⟨h1, h2⟩ | ⟨h1, h2⟩)
      · exact ⟨h1, by omega⟩
      · exact ⟨h1, by omega⟩
theorem oth_is {L l' : List Int} (h : okR L) (p : Int) (bp : 0 ≤ p ∧ p ≤ 4294967295) (hp : l'.Perm (L.filter fun x => !(x == p))) (hs : l'.Pairwise fun x y => stR p x < stR p y) : l' = othR L p :=
  List.Perm.eq_of_pairwise (le := fun x y => stR p x < stR p y) (fun a b _ _ h1 h2 => by omega) hs (oth_sorted h p bp) (hp.trans (oth_perm h p))
end Go.Proofs.Ytgkfioloceemcaa
