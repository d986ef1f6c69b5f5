/- Walk of the law ShelfNil. -/
import Derived.Test.YtmcnfndebmcapaaShAwake
set_option maxRecDepth 4000
namespace Go.Proofs.Ytmcnfndebmcapaa.shelfNil
open Go.RowKit Mem
set_option linter.unusedSimpArgs false
set_option linter.unusedVariables false
attribute [local irreducible] Go.Calls

set_option maxRecDepth 100000 in
set_option maxHeartbeats 4000000 in
theorem walk (x i u : Int) (s : Value) (m : List Int) (g : Bool) (bx : 0 ≤ x ∧ x ≤ 4294967295) (bi : 0 ≤ i ∧ i ≤ 18446744073709551615) (bu : 0 ≤ u ∧ u ≤ 18446744073709551615) (f t : Int) (bf : 0 ≤ f ∧ f ≤ 4294967295) (bt : 0 ≤ t ∧ t ≤ 4294967295) (w : World)
    (h : Rd (intE .u32) w s m) (hb : ∀ x ∈ m, 0 ≤ x ∧ x ≤ 4294967295) :
    Calls Try.prog 6 #[.agg #[.int .u32 x, .int .u64 i, .int .u64 u, s, .bool g], .agg #[.int .u32 f, .int .u32 t]] w fun e w' => e = .returned (.bool true) ∧ Below w.heap.size w w' := by
  obtain ⟨a, c, rfl, _⟩ := h.form
  have hk0 : Below w.heap.size w ((w.alloc (.cells #[.int .u32 x, .int .u64 i, .int .u64 u, .slice a m.length c, .bool g] 40)).alloc (.cells #[.int .u32 f, .int .u32 t] 25)) := more (more (Below.refl _ _) _) _
  have HB2 : Hid (Blk ((w.alloc (.cells #[.int .u32 x, .int .u64 i, .int .u64 u, .slice a m.length c, .bool g] 40)).alloc (.cells #[.int .u32 f, .int .u32 t] 25)) w.heap.size 40 #[.int .u32 x, .int .u64 i, .int .u64 u, .slice a m.length c, .bool g]) := Lib.hid ((Blk.new w _ _).keep (more (Below.refl _ _) _))
  have HB3 : Hid (Blk ((w.alloc (.cells #[.int .u32 x, .int .u64 i, .int .u64 u, .slice a m.length c, .bool g] 40)).alloc (.cells #[.int .u32 f, .int .u32 t] 25)) (w.heap.size + 1) 25 #[.int .u32 f, .int .u32 t]) := Lib.hid (Blk.newAt _ _ _ (size_alloc _ _).symm)
  have HX := Lib.hid (h.keep hk0)
  have HK := Lib.hid hk0
  clear h hk0 hb
  go_enter Try.func6, Try.ntmps6
  go_upto_region 1 with fail
  generalize (w.alloc (.cells #[.int .u32 x, .int .u64 i, .int .u64 u, .slice a m.length c, .bool g] 40)).alloc (.cells #[.int .u32 f, .int .u32 t] 25) = w1 at *
  obtain ⟨g2, hg2⟩ : ∃ g, g = w.heap.size := ⟨_, rfl⟩
  have HG2 := Lib.hid hg2
  rw [← hg2] at HB2 HB3 ⊢
  clear hg2
  go_upto_region 3 with (first | (refine at_load 2 rfl ?_; refine wpList_load_row rfl 40 (.tmp 2) rfl g2 rfl 40 _ (0, 0) _ HB2.out Try.underlying40 rfl ent_info' ?_) | (go_at_call 18; refine (shput_nil (x, (i, u, m), g) (.slice a m.length c) _).mono ?_; rintro e w2 ⟨rfl, hk2⟩))
  have HB22 := Lib.hid (HB2.out.keep hk2)
  have HB32 := Lib.hid (HB3.out.keep hk2)
  have HX2 := Lib.hid (HX.out.keep hk2)
  have HK2 := Lib.hid (nest HK.out hk2)
  clear hk2 HB2 HB3 HX HK
  go_upto_region 4 with (first | (go_at_call 23; refine (shget_nil 0 0 _).mono ?_; rintro e w3 ⟨xg, rfl, hxg, hk3⟩; obtain ⟨ag, cg, rfl, _, _⟩ := hxg.form) | (refine at_store 8 rfl ?_; refine wpList_store_row rfl 40 (.tmp 8) (.tmp 20) rfl w3.heap.size #[.int .u32 0, .int .u64 0, .int .u64 0, .slice ag 0 cg, .bool false] rfl rfl 40 _ (heap_alloc_new w3 _) ent_info' rfl (by simp [Value.oneCell']) ?_))
  (try rw [World.setRow_alloc_new])
  have hX : Below w3.heap.size w3 (w3.alloc (.cells #[.int .u32 0, .int .u64 0, .int .u64 0, .slice ag 0 cg, .bool false] 40)) := more (Below.refl _ _) _
  have HB8 := Lib.hid (Blk.new w3 40 #[.int .u32 0, .int .u64 0, .int .u64 0, .slice ag 0 cg, .bool false])
  have HB24 := Lib.hid ((HB22.out.keep hk3).keep hX)
  have HB34 := Lib.hid ((HB32.out.keep hk3).keep hX)
  have HX4 := Lib.hid ((HX2.out.keep hk3).keep hX)
  have HG4 : Hid (Rd (intE .u32) (w3.alloc (.cells #[.int .u32 0, .int .u64 0, .int .u64 0, .slice ag 0 cg, .bool false] 40)) (.slice ag 0 cg) []) := Lib.hid (hxg.keep hX)
  have HK4 := Lib.hid (nest (nest HK2.out hk3) hX)
  clear hk3 hX HB22 HB32 HX2 HK2 hxg
  have e0l : ([] : List Int).length = 0 := rfl
  (try rw [e0l])
  clear e0l
  generalize w3.alloc (.cells #[.int .u32 0, .int .u64 0, .int .u64 0, .slice ag 0 cg, .bool false] 40) = w4 at *
  obtain ⟨g8, hg8⟩ : ∃ g, g = w3.heap.size := ⟨_, rfl⟩
  rw [← hg8] at HB8 ⊢
  clear hg8
  refine Run.region_seq (S := fun z => Blk z g2 40 #[.int .u32 x, .int .u64 i, .int .u64 u, .slice a m.length c, .bool g] ∧ Blk z (g2 + 1) 25 #[.int .u32 f, .int .u32 t] ∧ Blk z g8 40 #[.int .u32 0, .int .u64 0, .int .u64 0, .slice ag 0 cg, .bool false] ∧ Below w4.heap.size w4 z)
    [1, 0, 0, 0, 0, 0, 0, 0, 0, 0, 0, 0, 1, 0, 0, 0, 0, 0, 0, 0, 0, 1, 0, 0, 0, 0, 0, 0, 1, 0, 0, 0, 0, 0, 0, 1, 1, 0, 0, 0, 0, 1, 0, 0, 0, 0, 1, 0, 0, 0, 0, 1, 0, 0, 0] (l := ?_) ?_ ⟨HB24.out, HB34.out, HB8.out, Below.refl _ _⟩ ?_
  rotate_left
  (· simp only [Run.seqOf, List.toList_toArray, Run.stepsOf, Run.stepOf, Run.guardOf, List.getElem?_toArray, List.getElem?_cons_zero, List.getElem?_cons_succ, Option.map_some, Option.map_none, Option.bind_some, Option.toList_some, List.map_cons, List.map_nil, List.cons_append, List.nil_append, List.append_eq]
     rfl)
  repeat ((first
    | (refine Run.takes (v := ?_) ?_ ?_; rotate_left; (· intro w' hS'; (first | (refine exec_load_blk (n := 5) (x := .tmp 2) (l := [.int .u32 x, .int .u64 i, .int .u64 u, .slice a m.length c, .bool g]) ?_ Try.underlying40 ent_info' ?_ ?_ hS'.1 <;> rfl) | (refine exec_load_blk (n := 2) (x := .tmp 3) (l := [.int .u32 f, .int .u32 t]) ?_ Try.underlying25 span_info9 ?_ ?_ hS'.2.1 <;> rfl) | (refine exec_load_blk (n := 5) (x := .tmp 8) (l := [.int .u32 0, .int .u64 0, .int .u64 0, .slice ag 0 cg, .bool false]) ?_ Try.underlying40 ent_info' ?_ ?_ hS'.2.2.1 <;> rfl) | (go_simp; (try with_reducible rfl)))))
    | (refine Run.takesG (v := ?_) ?_ ?_ ?_; rotate_left; (· simp only [List.getElem?_cons_zero, List.getElem?_cons_succ]); (· intro w' hS'; (first | (refine exec_load_blk (n := 5) (x := .tmp 2) (l := [.int .u32 x, .int .u64 i, .int .u64 u, .slice a m.length c, .bool g]) ?_ Try.underlying40 ent_info' ?_ ?_ hS'.1 <;> rfl) | (refine exec_load_blk (n := 2) (x := .tmp 3) (l := [.int .u32 f, .int .u32 t]) ?_ Try.underlying25 span_info9 ?_ ?_ hS'.2.1 <;> rfl) | (refine exec_load_blk (n := 5) (x := .tmp 8) (l := [.int .u32 0, .int .u64 0, .int .u64 0, .slice ag 0 cg, .bool false]) ?_ Try.underlying40 ent_info' ?_ ?_ hS'.2.2.1 <;> rfl) | (go_simp; (try with_reducible rfl)))))
    | (refine Run.skipsT ?_ ?_; (· simp only [List.getElem?_cons_zero, List.getElem?_cons_succ]))
    | (refine Run.skipsF ?_ ?_; (· simp only [List.getElem?_cons_zero, List.getElem?_cons_succ]))
    | (refine Run.skipsU ?_ ?_; (· simp only [List.getElem?_cons_zero, List.getElem?_cons_succ]))
    | (refine Run.passT ?_ ?_; (· simp only [List.getElem?_cons_zero, List.getElem?_cons_succ]))
    | (refine Run.passF ?_ ?_; (· simp only [List.getElem?_cons_zero, List.getElem?_cons_succ]))
    | (refine Run.passU ?_ ?_; (· simp only [List.getElem?_cons_zero, List.getElem?_cons_succ]))
    | (refine Run.runs ?_
       (first
       | (refine Run.callF 10 (by kernel_rfl) (fun hS => shawake_any _) rfl ?_)
       | (refine Run.callG 10 (by kernel_rfl) ?_ (fun hS => shawake_any _) rfl ?_; (· simp only [List.getElem?_cons_zero, List.getElem?_cons_succ]))
       | (refine Run.callF 27 (by kernel_rfl) (fun hS => entry_yes e0 (.slice ag 0 cg) (.slice none 0 0) _ (HG4.out.keep hS.2.2.2) (Rd.nil _ _ (Nat.zero_le _))) rfl ?_)
       | (refine Run.callG 27 (by kernel_rfl) ?_ (fun hS => entry_yes e0 (.slice ag 0 cg) (.slice none 0 0) _ (HG4.out.keep hS.2.2.2) (Rd.nil _ _ (Nat.zero_le _))) rfl ?_; (· simp only [List.getElem?_cons_zero, List.getElem?_cons_succ]))
       | (refine Run.callF 25 (by kernel_rfl) (fun hS => shscan_nil f t _) rfl ?_)
       | (refine Run.callG 25 (by kernel_rfl) ?_ (fun hS => shscan_nil f t _) rfl ?_; (· simp only [List.getElem?_cons_zero, List.getElem?_cons_succ]))
       | (refine Run.callF 13 (by kernel_rfl) (fun hS => shcut_nil f t _) rfl ?_)
       | (refine Run.callG 13 (by kernel_rfl) ?_ (fun hS => shcut_nil f t _) rfl ?_; (· simp only [List.getElem?_cons_zero, List.getElem?_cons_succ]))
       | fail)
       (first
       | (rintro hS e w' ⟨ax, cx, rfl, hcx, hb⟩; refine ⟨_, rfl, ⟨hS.1.keep hb, hS.2.1.keep hb, hS.2.2.1.keep hb, nest hS.2.2.2 hb⟩, ?_⟩)
       | (rintro hS e w' ⟨rfl, rfl⟩; refine ⟨_, rfl, hS, ?_⟩)
       | (rintro hS e w' ⟨rfl, hb⟩; refine ⟨_, rfl, ⟨hS.1.keep hb, hS.2.1.keep hb, hS.2.2.1.keep hb, nest hS.2.2.2 hb⟩, ?_⟩)
       | fail))
    | fail); simp only [Act.put, List.setIfInBounds_toArray, List.set_cons_zero, List.set_cons_succ])
  refine Run.runsS (Run.oneG (t := 54) (b := true) (by simp only [List.getElem?_cons_zero, List.getElem?_cons_succ]) (fun hS K1 hK1 => ?_))
  refine wp_build_one (size := 5) (bytes := 56) entElem (by decide) (by decide) _ rfl (C := #[.int .u32 x, .int .u64 i, .int .u64 u, .slice a m.length c, .bool g]) rfl rfl ?_
  have hX := more (Below.refl w'.heap.size w') (.cells #[.int .u32 x, .int .u64 i, .int .u64 u, .slice a m.length c, .bool g] 40)
  have HJ : Hid (EntsIn (fun _ => True) (w'.alloc (.cells #[.int .u32 x, .int .u64 i, .int .u64 u, .slice a m.length c, .bool g] 40)) (.slice (some ⟨w'.heap.size, 0, none⟩) 1 1) [(x, (i, u, m), g)]) := Lib.hid ⟨[rawEnt (x, (i, u, m), g) (.slice a m.length c) rfl], rfl, (Row.lit (E := rawE 5) w'.heap.size w' #[.int .u32 x, .int .u64 i, .int .u64 u, .slice a m.length c, .bool g] [rawEnt (x, (i, u, m), g) (.slice a m.length c) rfl] 1 w'.heap.size rfl rfl rfl (Nat.le_refl _) (by simp [maxLen]) : Row (rawE 5) 40 w'.heap.size (w'.alloc (.cells #[.int .u32 x, .int .u64 i, .int .u64 u, .slice a m.length c, .bool g] 40)) (.slice (some ⟨w'.heap.size, 0, none⟩) 1 1) _).rd, fun _ _ _ => trivial, (PW.one (P := fun p q => EntIn (fun _ => True) (w'.alloc (.cells #[.int .u32 x, .int .u64 i, .int .u64 u, .slice a m.length c, .bool g] 40)) p q) ⟨_, rfl, (HX4.out.keep hS.2.2.2).keep hX, fun _ _ _ => trivial⟩).2⟩
  refine hK1.out _ _ ⟨hS.1.keep hX, hS.2.1.keep hX, hS.2.2.1.keep hX, nest hS.2.2.2 hX⟩ (fun _ => ⟨fun z => Blk z g2 40 #[.int .u32 x, .int .u64 i, .int .u64 u, .slice a m.length c, .bool g] ∧ Blk z (g2 + 1) 25 #[.int .u32 f, .int .u32 t] ∧ Blk z g8 40 #[.int .u32 0, .int .u64 0, .int .u64 0, .slice ag 0 cg, .bool false] ∧ Below w4.heap.size w4 z, fun z h => h, ⟨hS.1.keep hX, hS.2.1.keep hX, hS.2.2.1.keep hX, nest hS.2.2.2 hX⟩, ?_⟩)
  clear hS K1 hK1 hX
  try simp only [Act.put, List.setIfInBounds_toArray, List.set_cons_zero, List.set_cons_succ]
  repeat ((first
    | (refine Run.takes (v := ?_) ?_ ?_; rotate_left; (· intro w' hS'; go_simp; (try with_reducible rfl)))
    | (refine Run.takesG (v := ?_) ?_ ?_ ?_; rotate_left; (· simp only [List.getElem?_cons_zero, List.getElem?_cons_succ]); (· intro w' hS'; go_simp; (try with_reducible rfl)))
    | (refine Run.skipsT ?_ ?_; (· simp only [List.getElem?_cons_zero, List.getElem?_cons_succ]))
    | (refine Run.skipsF ?_ ?_; (· simp only [List.getElem?_cons_zero, List.getElem?_cons_succ]))
    | (refine Run.skipsU ?_ ?_; (· simp only [List.getElem?_cons_zero, List.getElem?_cons_succ]))
    | (refine Run.passT ?_ ?_; (· simp only [List.getElem?_cons_zero, List.getElem?_cons_succ]))
    | (refine Run.passF ?_ ?_; (· simp only [List.getElem?_cons_zero, List.getElem?_cons_succ]))
    | (refine Run.passU ?_ ?_; (· simp only [List.getElem?_cons_zero, List.getElem?_cons_succ]))
    | (refine Run.runs ?_
       (first
       | (refine Run.callF 15 (by kernel_rfl) (fun hS => shjoin_nil (fun _ => True) _ _ _ HJ.out (by simp)) rfl ?_)
       | (refine Run.callG 15 (by kernel_rfl) ?_ (fun hS => shjoin_nil (fun _ => True) _ _ _ HJ.out (by simp)) rfl ?_; (· simp only [List.getElem?_cons_zero, List.getElem?_cons_succ]))
       | (refine Run.callF 20 (by kernel_rfl) (fun hS => shlen_nil _) rfl ?_)
       | (refine Run.callG 20 (by kernel_rfl) ?_ (fun hS => shlen_nil _) rfl ?_; (· simp only [List.getElem?_cons_zero, List.getElem?_cons_succ]))
       | (refine Run.callF 21 (by kernel_rfl) (fun hS => shlive_nil _) rfl ?_)
       | (refine Run.callG 21 (by kernel_rfl) ?_ (fun hS => shlive_nil _) rfl ?_; (· simp only [List.getElem?_cons_zero, List.getElem?_cons_succ]))
       | (refine Run.callF 17 (by kernel_rfl) (fun hS => shfork_nil _) rfl ?_)
       | (refine Run.callG 17 (by kernel_rfl) ?_ (fun hS => shfork_nil _) rfl ?_; (· simp only [List.getElem?_cons_zero, List.getElem?_cons_succ]))
       | fail)
       (first
       | (rintro hS e w' ⟨rfl, rfl⟩; refine ⟨_, rfl, hS, ?_⟩)
       | (rintro hS e w' ⟨rfl, hb⟩; refine ⟨_, rfl, ⟨hS.1.keep hb, hS.2.1.keep hb, hS.2.2.1.keep hb, nest hS.2.2.2 hb⟩, ?_⟩)
       | fail))
    | fail); simp only [Act.put, List.setIfInBounds_toArray, List.set_cons_zero, List.set_cons_succ])
  refine Run.ends (fun hS => ?_)
  have HE := Lib.hid (nest HK4.out hS.2.2.2)
  clear hS
  go_wp2_with fail
  go_ret
  exact ⟨rfl, HE.out⟩
end Go.Proofs.Ytmcnfndebmcapaa.shelfNil
