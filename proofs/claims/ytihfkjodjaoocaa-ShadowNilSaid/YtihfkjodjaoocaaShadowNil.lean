/- Walk of the law ShadowNil. -/
import Derived.Test.YtihfkjodjaoocaaShwLaw
set_option maxRecDepth 4000
namespace Go.Proofs.Ytihfkjodjaoocaa.shadowNil
open Go.RowKit Mem
set_option linter.unusedSimpArgs false
set_option linter.unusedVariables false
attribute [local irreducible] Go.Calls

set_option maxRecDepth 100000 in
set_option maxHeartbeats 4000000 in
theorem walk (o : Int) (bo : 0 ≤ o ∧ o ≤ 4294967295) (x i u : Int) (s : Value) (m : List Int) (g : Bool) (bx : 0 ≤ x ∧ x ≤ 4294967295) (bi : 0 ≤ i ∧ i ≤ 18446744073709551615) (bu : 0 ≤ u ∧ u ≤ 18446744073709551615) (w : World)
    (h : Rd (intE .u32) w s m) (hb : ∀ x ∈ m, 0 ≤ x ∧ x ≤ 4294967295) :
    Calls Try.prog 3 #[.int .u32 o, .agg #[.int .u32 x, .int .u64 i, .int .u64 u, s, .bool g]] w fun e w' => e = .returned (.bool true) ∧ Below w.heap.size w w' := by
  obtain ⟨a, c, rfl, _⟩ := h.form
  have hk0 : Below w.heap.size w (w.alloc (.cells #[.int .u32 x, .int .u64 i, .int .u64 u, .slice a m.length c, .bool g] 28)) := more (Below.refl _ _) _
  have HB3 := Lib.hid (Blk.new w 28 #[.int .u32 x, .int .u64 i, .int .u64 u, .slice a m.length c, .bool g])
  have HK := Lib.hid hk0
  clear h hk0 hb
  go_enter Try.func3, Try.ntmps3
  go_upto_region 2 with fail
  generalize w.alloc (.cells #[.int .u32 x, .int .u64 i, .int .u64 u, .slice a m.length c, .bool g] 28) = w1 at *
  obtain ⟨g3, hg3⟩ : ∃ g, g = w.heap.size := ⟨_, rfl⟩
  rw [← hg3] at HB3 ⊢
  clear hg3
  have HX : Hid (Below w1.heap.size w1 (w1.alloc (.cells #[.int .u32 x, .int .u64 i, .int .u64 u, .slice a m.length c, .bool g] 28))) := Lib.hid (more (Below.refl _ _) _)
  go_upto_region 3 with (first
    | (refine at_load 3 rfl ?_; refine wpList_load_row rfl 28 (.tmp 3) rfl g3 rfl 28 _ (0, 0) _ HB3.out Try.underlying28 rfl ent_info' ?_)
    | (refine at_build 8 rfl ?_; refine wpList_build_one (size := 5) (bytes := 56) entElem (by decide) (by decide) rfl _ rfl (C := #[.int .u32 x, .int .u64 i, .int .u64 u, .slice a m.length c, .bool g]) rfl rfl ?_)
    | (go_at_call 6; refine (shwset_nil o _ _).mono ?_; rintro e w2 ⟨⟨uu, rfl⟩, hk2⟩))
  have HB32 := Lib.hid ((HB3.out.keep HX.out).keep hk2)
  have HK2 := Lib.hid (nest (nest HK.out HX.out) hk2)
  clear hk2 HB3 HX HK
  refine Run.region_seq (S := fun z => Blk z g3 28 #[.int .u32 x, .int .u64 i, .int .u64 u, .slice a m.length c, .bool g] ∧ Below w2.heap.size w2 z)
    [1, 0, 0, 0, 0, 1, 0, 0, 0, 0, 0, 1, 0, 0, 0, 0, 0, 0, 1, 0, 0, 0, 0, 1, 0, 0, 0, 0, 0, 1, 0, 0, 0] (l := ?_) ?_ ⟨HB32.out, Below.refl _ _⟩ ?_
  rotate_left
  (· simp only [Run.seqOf, List.toList_toArray, Run.stepsOf, Run.stepOf, Run.guardOf, List.getElem?_toArray, List.getElem?_cons_zero, List.getElem?_cons_succ, Option.map_some, Option.map_none, Option.bind_some, Option.toList_some, List.map_cons, List.map_nil, List.cons_append, List.nil_append, List.append_eq]
     rfl)
  repeat ((first
    | (refine Run.takes (v := ?_) ?_ ?_; rotate_left; (· intro w' hS'; (first | (refine exec_load_blk (n := 5) (x := .tmp 3) (l := [.int .u32 x, .int .u64 i, .int .u64 u, .slice a m.length c, .bool g]) ?_ Try.underlying28 ent_info' ?_ ?_ hS'.1 <;> rfl) | (go_simp; (try with_reducible rfl)))))
    | (refine Run.takesG (v := ?_) ?_ ?_ ?_; rotate_left; (· simp only [List.getElem?_cons_zero, List.getElem?_cons_succ]); (· intro w' hS'; (first | (refine exec_load_blk (n := 5) (x := .tmp 3) (l := [.int .u32 x, .int .u64 i, .int .u64 u, .slice a m.length c, .bool g]) ?_ Try.underlying28 ent_info' ?_ ?_ hS'.1 <;> rfl) | (go_simp; (try with_reducible rfl)))))
    | (refine Run.skipsT ?_ ?_; (· simp only [List.getElem?_cons_zero, List.getElem?_cons_succ]))
    | (refine Run.skipsF ?_ ?_; (· simp only [List.getElem?_cons_zero, List.getElem?_cons_succ]))
    | (refine Run.skipsU ?_ ?_; (· simp only [List.getElem?_cons_zero, List.getElem?_cons_succ]))
    | (refine Run.passT ?_ ?_; (· simp only [List.getElem?_cons_zero, List.getElem?_cons_succ]))
    | (refine Run.passF ?_ ?_; (· simp only [List.getElem?_cons_zero, List.getElem?_cons_succ]))
    | (refine Run.passU ?_ ?_; (· simp only [List.getElem?_cons_zero, List.getElem?_cons_succ]))
    | (refine Run.runs ?_
       (first
       | (refine Run.callF 7 (by kernel_rfl) (fun hS => shwawake_any _) rfl ?_)
       | (refine Run.callG 7 (by kernel_rfl) ?_ (fun hS => shwawake_any _) rfl ?_; (· simp only [List.getElem?_cons_zero, List.getElem?_cons_succ]))
       | (refine Run.callF 8 (by kernel_rfl) (fun hS => shwput_nil o (x, (i, u, m), g) (.slice a m.length c) _) rfl ?_)
       | (refine Run.callG 8 (by kernel_rfl) ?_ (fun hS => shwput_nil o (x, (i, u, m), g) (.slice a m.length c) _) rfl ?_; (· simp only [List.getElem?_cons_zero, List.getElem?_cons_succ]))
       | (refine Run.callF 9 (by kernel_rfl) (fun hS => shwof_nil o _) rfl ?_)
       | (refine Run.callG 9 (by kernel_rfl) ?_ (fun hS => shwof_nil o _) rfl ?_; (· simp only [List.getElem?_cons_zero, List.getElem?_cons_succ]))
       | (refine Run.callF 10 (by kernel_rfl) (fun hS => shwdrop_nil o _) rfl ?_)
       | (refine Run.callG 10 (by kernel_rfl) ?_ (fun hS => shwdrop_nil o _) rfl ?_; (· simp only [List.getElem?_cons_zero, List.getElem?_cons_succ]))
       | (refine Run.callF 11 (by kernel_rfl) (fun hS => shwowners_nil _) rfl ?_)
       | (refine Run.callG 11 (by kernel_rfl) ?_ (fun hS => shwowners_nil _) rfl ?_; (· simp only [List.getElem?_cons_zero, List.getElem?_cons_succ]))
       | (refine Run.callF 12 (by kernel_rfl) (fun hS => shwfork_nil _) rfl ?_)
       | (refine Run.callG 12 (by kernel_rfl) ?_ (fun hS => shwfork_nil _) rfl ?_; (· simp only [List.getElem?_cons_zero, List.getElem?_cons_succ]))
       | fail)
       (first
       | (rintro hS e w' ⟨ax, cx, rfl, hcx, hb⟩; refine ⟨_, rfl, ⟨hS.1.keep hb, nest hS.2 hb⟩, ?_⟩)
       | (rintro hS e w' ⟨rfl, rfl⟩; refine ⟨_, rfl, hS, ?_⟩)
       | (rintro hS e w' ⟨rfl, hb⟩; refine ⟨_, rfl, ⟨hS.1.keep hb, nest hS.2 hb⟩, ?_⟩)
       | fail))
    | fail); simp only [Act.put, List.setIfInBounds_toArray, List.set_cons_zero, List.set_cons_succ])
  refine Run.ends (fun hS => ?_)
  have HE := Lib.hid (nest HK2.out hS.2)
  clear hS
  go_wp2_with fail
  go_ret
  exact ⟨rfl, HE.out⟩
end Go.Proofs.Ytihfkjodjaoocaa.shadowNil
