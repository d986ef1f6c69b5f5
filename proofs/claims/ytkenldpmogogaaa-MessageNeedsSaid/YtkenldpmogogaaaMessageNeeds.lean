/- Walk of the law MessageNeeds. -/
import Derived.Test.YtkenldpmogogaaaMsgFew
import Derived.Test.YtkenldpmogogaaaRaw
import Derived.Laws.Tables
import Derived.Test.YtkenldpmogogaaaPages
import Derived.Test.YtkenldpmogogaaaOwnR
import Derived.Test.YtkenldpmogogaaaSeq
import Derived.Test.YtkenldpmogogaaaMsgOpen
set_option maxRecDepth 4000
namespace Go.Proofs.Ytkenldpmogogaaa.messageNeeds
open Go.RowKit Mem
set_option linter.unusedSimpArgs false
set_option linter.unusedVariables false
attribute [local irreducible] Go.Calls

theorem wrap_u32 (x : Int) : IntKind.u32.wrap x = x % 4294967296 := by simp [IntKind.wrap, IntKind.bits, IntKind.signed]
theorem not_right {attrs : Int} {m : Msg} (h : ¬ RightF attrs m) : rightM attrs m = false := by
  cases hr : rightM attrs m with
  | false => rfl
  | true => exact absurd (right_f hr) h
theorem bad0 {m : Msg} (h : rightM 1 m = true) : rightM 1 { m with hub := 1 } = false := not_right (fun f => by have := f.hub.2; simp at this)
theorem bad1 {m : Msg} (h : rightM 1 m = true) : rightM 1 { m with op := 0 } = false := not_right (fun f => by have := f.op.1; simp at this)
theorem bad2 {m : Msg} (h : rightM 1 m = true) : rightM 1 { m with client := 16 } = false := not_right (fun f => by have := f.client.2; simp at this)
theorem bad3 {m : Msg} (h : rightM 1 m = true) : rightM 1 { m with hops := 101 } = false := not_right (fun f => by have := f.hops.2; simp at this)
theorem bad4 {m : Msg} (h : rightM 1 m = true) : rightM 1 { m with kind := 0 } = false := not_right (fun f => by have := f.kind.1; simp at this)
theorem s2_of {attrs : Int} {m : Msg} (h : rightM attrs m = true) : s2M attrs m = true := by
  unfold rightM at h
  simp only [Bool.and_eq_true] at h
  exact h.2.1
theorem s2_no {attrs : Int} {m : Msg} (h : s2M attrs m = false) : rightM attrs m = false := by
  unfold rightM
  rw [h]
  simp
theorem bad5 {m : Msg} (h : rightM 1 m = true) : rightM 1 { m with target := (m.target + 1) % 4294967296 } = false := by
  refine s2_no ?_
  have h2 := s2_of h
  unfold s2M at h2 ⊢
  by_cases hk : 1 ≤ m.kind ∧ m.kind ≤ 4
  · rw [if_pos hk] at h2 ⊢
    simp only [Bool.and_eq_true, beq_iff_eq] at h2
    have : ((m.target + 1) % 4294967296 == m.ev) = false := by simp; omega
    simp only [this, Bool.and_false]
  · rw [if_neg hk] at h2 ⊢
    simp only [Bool.and_eq_true, beq_iff_eq] at h2
    have : ((m.target + 1) % 4294967296 == 0) = false := by simp; omega
    simp only [this, Bool.and_false]
theorem bad6 {m : Msg} (h : rightM 1 m = true) : rightM 1 { m with ev := (m.ev + 1) % 4294967296 } = false := by
  refine s2_no ?_
  have h2 := s2_of h
  unfold s2M at h2 ⊢
  by_cases hk : 1 ≤ m.kind ∧ m.kind ≤ 4
  · rw [if_pos hk] at h2 ⊢
    simp only [Bool.and_eq_true, beq_iff_eq] at h2
    have : (m.target == (m.ev + 1) % 4294967296) = false := by simp; omega
    simp only [this, Bool.and_false]
  · rw [if_neg hk] at h2 ⊢
    simp only [Bool.and_eq_true, beq_iff_eq, decide_eq_true_eq] at h2
    have : decide ((m.ev + 1) % 4294967296 = 0 ∧ m.gone = false ∧ m.eid = 0 ∧ m.ever = 0 ∧ m.vals = []) = false := decide_eq_false (fun h => by omega)
    simp only [this, Bool.false_and]
theorem bad0_b {m : Msg} (h : MB m) : MB { m with hub := 1 } := ⟨h.kind, (by simp [i64B]), h.point, h.client, h.op, h.target, h.hops, h.owner, h.turn, h.ev, h.eid, h.ever, h.vals, h.sf, h.st, h.box, h.recs⟩
theorem bad1_b {m : Msg} (h : MB m) : MB { m with op := 0 } := ⟨h.kind, h.hub, h.point, h.client, (by simp [i64B]), h.target, h.hops, h.owner, h.turn, h.ev, h.eid, h.ever, h.vals, h.sf, h.st, h.box, h.recs⟩
theorem bad2_b {m : Msg} (h : MB m) : MB { m with client := 16 } := ⟨h.kind, h.hub, h.point, (by simp [i64B]), h.op, h.target, h.hops, h.owner, h.turn, h.ev, h.eid, h.ever, h.vals, h.sf, h.st, h.box, h.recs⟩
theorem bad3_b {m : Msg} (h : MB m) : MB { m with hops := 101 } := ⟨h.kind, h.hub, h.point, h.client, h.op, h.target, (by simp [i64B]), h.owner, h.turn, h.ev, h.eid, h.ever, h.vals, h.sf, h.st, h.box, h.recs⟩
theorem bad4_b {m : Msg} (h : MB m) : MB { m with kind := 0 } := ⟨(by simp [i64B]), h.hub, h.point, h.client, h.op, h.target, h.hops, h.owner, h.turn, h.ev, h.eid, h.ever, h.vals, h.sf, h.st, h.box, h.recs⟩
theorem bad5_b {m : Msg} (h : MB m) : MB { m with target := ((m.target + 1) % 4294967296) } := ⟨h.kind, h.hub, h.point, h.client, h.op, (by show u32B ((m.target + 1) % 4294967296); unfold u32B; omega), h.hops, h.owner, h.turn, h.ev, h.eid, h.ever, h.vals, h.sf, h.st, h.box, h.recs⟩
theorem bad6_b {m : Msg} (h : MB m) : MB { m with ev := ((m.ev + 1) % 4294967296) } := ⟨h.kind, h.hub, h.point, h.client, h.op, h.target, h.hops, h.owner, h.turn, (by show u32B ((m.ev + 1) % 4294967296); unfold u32B; omega), h.eid, h.ever, h.vals, h.sf, h.st, h.box, h.recs⟩

theorem rb_one : (0 ≤ ((1 : Int), (0 : Int), (0 : Int)).2.1 ∧ ((1 : Int), (0 : Int), (0 : Int)).2.1 ≤ 4294967295) ∧ (0 ≤ ((1 : Int), (0 : Int), (0 : Int)).2.2 ∧ ((1 : Int), (0 : Int), (0 : Int)).2.2 ≤ 4294967295) := by simp
theorem s3_no {attrs : Int} {m : Msg} (h : s3M attrs m = false) : rightM attrs m = false := by
  unfold rightM
  rw [h]
  simp
theorem s4_no {attrs : Int} {m : Msg} (h : s4M attrs m = false) : rightM attrs m = false := by
  unfold rightM
  rw [h]
  simp
theorem bad7 {m : Msg} (h : rightM 1 m = true) : rightM 1 { m with box := m.box ++ [(1, 0, 0)] } = false := by
  by_cases hk : m.kind = 5
  · refine not_right (fun f => ?_)
    have h1 := ((right_f h).box hk).1
    have h2 := (f.box hk).1
    simp only [List.length_append, List.length_cons, List.length_nil] at h2
    omega
  · refine s3_no ?_
    unfold s3M
    rw [if_neg hk]
    exact decide_eq_false (by simp)
theorem bad8 {m : Msg} (h : rightM 1 m = true) : rightM 1 { m with recs := m.recs ++ [(0, 0, [])] } = false := by
  by_cases hk : m.kind = 6
  · refine not_right (fun f => ?_)
    have h2 := (f.recs hk).2 (0, 0, []) (by simp)
    simp at h2
  · refine s4_no ?_
    unfold s4M
    rw [if_neg hk]
    exact decide_eq_false (by simp)
theorem bad7_b {m : Msg} (h : MB m) : MB { m with box := m.box ++ [(1, 0, 0)] } := ⟨h.kind, h.hub, h.point, h.client, h.op, h.target, h.hops, h.owner, h.turn, h.ev, h.eid, h.ever, h.vals, h.sf, h.st, (fun x hx => by
  rcases List.mem_append.1 hx with hx | hx
  · exact h.box x hx
  · simp only [List.mem_singleton] at hx
    subst hx
    exact rb_one), h.recs⟩
theorem bad8_b {m : Msg} (h : MB m) : MB { m with recs := m.recs ++ [(0, 0, [])] } := ⟨h.kind, h.hub, h.point, h.client, h.op, h.target, h.hops, h.owner, h.turn, h.ev, h.eid, h.ever, h.vals, h.sf, h.st, h.box, (fun x hx => by
  rcases List.mem_append.1 hx with hx | hx
  · exact h.recs x hx
  · simp only [List.mem_singleton] at hx
    subst hx
    exact ⟨by simp [u64B], by simp [u64B], fun y hy => by simp at hy⟩)⟩
theorem recElem : Elem Try.prog 32 26 3 40 := elem_of (z := .agg #[.int .u64 0, .int .u64 0, .slice none 0 0]) Try.underlying32 (by kernel_rfl) rfl
theorem one_record : KdOne recordK := one_pair (one_int _) (one_pair (one_int _) (one_slice _))
def z0 : Raw recordK.size := ⟨[.int .u64 0, .int .u64 0, .slice none 0 0], rfl, by intro u hu; simp at hu; rcases hu with rfl | rfl <;> rfl⟩
theorem z0_rd (w : World) : recordK.rd w z0.1 (0, 0, []) := ⟨⟨rfl, by decide⟩, ⟨rfl, by decide⟩, ⟨none, 0, rfl, Nat.le_refl _, Nat.zero_le _, fun h => absurd h (by simp)⟩⟩

set_option maxRecDepth 100000 in
set_option maxHeartbeats 4000000 in
theorem walk (m : Msg) (v b r : Value) (what : Int) (bw : -9223372036854775808 ≤ what ∧ what ≤ 9223372036854775807) (w : World) (h : MRd w m v b r) (hb : MB m) :
    Calls Try.prog 5 #[.agg (mcs m v b r).toArray, .int .i64 what] w fun e w' => e = .returned (.bool true) ∧ Below w.heap.size w w' := by
  obtain ⟨av, cv, rfl, _, _⟩ := h.vals.form
  obtain ⟨ab, cb, rfl, _, _⟩ := h.box.form
  obtain ⟨ar, gr, or', cr, rfl, _, _, _, _⟩ := kd_loop h.recs
  have hk0 : Below w.heap.size w (w.alloc (.cells #[.int .i64 m.kind, .int .i64 m.hub, .int .u32 m.point, .int .i64 m.client, .int .i64 m.op, .int .u32 m.target, .int .i64 m.hops, .int .u32 m.owner, .int .i64 m.turn, .int .u32 m.ev, .int .u64 m.eid, .int .u64 m.ever, (.slice av m.vals.length cv), .bool m.gone, .int .u32 m.sf, .int .u32 m.st, (.slice ab m.box.length cb), (.slice ar m.recs.length cr)] 34)) := more (Below.refl _ _) _
  have HBK := Lib.hid (Blk.new w 34 #[.int .i64 m.kind, .int .i64 m.hub, .int .u32 m.point, .int .i64 m.client, .int .i64 m.op, .int .u32 m.target, .int .i64 m.hops, .int .u32 m.owner, .int .i64 m.turn, .int .u32 m.ev, .int .u64 m.eid, .int .u64 m.ever, (.slice av m.vals.length cv), .bool m.gone, .int .u32 m.sf, .int .u32 m.st, (.slice ab m.box.length cb), (.slice ar m.recs.length cr)])
  have HK := Lib.hid hk0
  have HM := Lib.hid (h.keep hk0)
  have HBD := Lib.hid hb
  clear hk0 h hb
  have emcs : (mcs m (.slice av m.vals.length cv) (.slice ab m.box.length cb) (.slice ar m.recs.length cr)).toArray = #[.int .i64 m.kind, .int .i64 m.hub, .int .u32 m.point, .int .i64 m.client, .int .i64 m.op, .int .u32 m.target, .int .i64 m.hops, .int .u32 m.owner, .int .i64 m.turn, .int .u32 m.ev, .int .u64 m.eid, .int .u64 m.ever, (.slice av m.vals.length cv), .bool m.gone, .int .u32 m.sf, .int .u32 m.st, (.slice ab m.box.length cb), (.slice ar m.recs.length cr)] := rfl
  rw [emcs]
  clear emcs
  go_enter Try.func5, Try.ntmps5
  go_upto_region 1 with fail
  generalize w.alloc (.cells #[.int .i64 m.kind, .int .i64 m.hub, .int .u32 m.point, .int .i64 m.client, .int .i64 m.op, .int .u32 m.target, .int .i64 m.hops, .int .u32 m.owner, .int .i64 m.turn, .int .u32 m.ev, .int .u64 m.eid, .int .u64 m.ever, (.slice av m.vals.length cv), .bool m.gone, .int .u32 m.sf, .int .u32 m.st, (.slice ab m.box.length cb), (.slice ar m.recs.length cr)] 34) = w1 at *
  obtain ⟨g, hg⟩ : ∃ g, g = w.heap.size := ⟨_, rfl⟩
  rw [← hg] at HBK ⊢
  clear hg
  have HC := Lib.hid (few_any m _ _ _ w1 HM.out)
  cases hf : fewM m with
  | false =>
    rw [hf] at HC
    clear hf
    go_wp2_with (first | (refine wpList_load_row rfl 34 (.tmp 2) rfl g rfl 34 _ (0, 0) _ HBK.out Try.underlying34 rfl msg_info ?_) | (go_at_call 8; refine HC.out.mono ?_; rintro e w2 ⟨rfl, hk2⟩) | (go_at_call 9; refine (mawake_any _).mono ?_; rintro e w3 ⟨rfl, hk3⟩))
    go_ret
    exact ⟨rfl, nest (nest HK.out hk2) hk3⟩
  | true =>
  rw [hf] at HC
  have HFEW : Hid (m.recs.length ≤ 40 ∧ m.box.length ≤ 300) := Lib.hid (by unfold fewM at hf; simp only [Bool.and_eq_true, decide_eq_true_eq] at hf; exact ⟨hf.2.1, hf.2.2.1⟩)
  clear hf
  cases hr : rightM 1 m with
  | false =>
    have HC2 := Lib.hid (fun z hz => rmright_any 1 m _ _ _ z (HM.out.keep hz) HBD.out)
    rw [hr] at HC2
    clear hr
    go_upto_region 2 with (first | (refine wpList_load_row rfl 34 (.tmp 2) rfl g rfl 34 _ (0, 0) _ HBK.out Try.underlying34 rfl msg_info ?_) | (refine wp_load_row 34 (.tmp 2) rfl g rfl 34 _ (0, 0) _ (HBK.out.keep hk2) Try.underlying34 rfl msg_info ?_) | (go_at_call 8; refine HC.out.mono ?_; rintro e w2 ⟨rfl, hk2⟩) | (go_at_call 16; refine (HC2.out _ hk2).mono ?_; rintro e w3 ⟨rfl, hk3⟩))
    go_wp2_with (go_at_call 9; refine (mawake_any _).mono ?_; rintro e w4 ⟨rfl, hk4⟩)
    go_ret
    exact ⟨rfl, nest (nest (nest HK.out hk2) hk3) hk4⟩
  | true =>
  have HC2 := Lib.hid (fun z hz => rmright_any 1 m _ _ _ z (HM.out.keep hz) HBD.out)
  rw [hr] at HC2
  have HR := Lib.hid hr
  clear hr
  go_upto_region 3 with (first | (refine wpList_load_row rfl 34 (.tmp 2) rfl g rfl 34 _ (0, 0) _ HBK.out Try.underlying34 rfl msg_info ?_) | (refine wp_load_row 34 (.tmp 2) rfl g rfl 34 _ (0, 0) _ (HBK.out.keep hk2) Try.underlying34 rfl msg_info ?_) | (go_at_call 8; refine HC.out.mono ?_; rintro e w2 ⟨rfl, hk2⟩) | (go_at_call 16; refine (HC2.out _ hk2).mono ?_; rintro e w3 ⟨rfl, hk3⟩))
  have HB3 := Lib.hid ((HBK.out.keep hk2).keep hk3)
  have HM3 := Lib.hid ((HM.out.keep hk2).keep hk3)
  have HK3 := Lib.hid (nest (nest HK.out hk2) hk3)
  clear HBK HM HK HC HC2 hk2 hk3
  have hst := heap_alloc_new w3 (.cells #[.int .i64 0, .int .i64 0, .int .u32 0, .int .i64 0, .int .i64 0, .int .u32 0, .int .i64 0, .int .u32 0, .int .i64 0, .int .u32 0, .int .u64 0, .int .u64 0, .slice none 0 0, .bool false, .int .u32 0, .int .u32 0, .slice none 0 0, .slice none 0 0] 34)
  go_upto_region 4 with (first | (refine wpList_load_row rfl 34 (.tmp 2) rfl g rfl 34 _ (0, 0) _ HB3.out Try.underlying34 rfl msg_info ?_) | (refine wpList_store_row rfl 34 (.tmp 5) (.tmp 15) rfl w3.heap.size #[.int .i64 m.kind, .int .i64 m.hub, .int .u32 m.point, .int .i64 m.client, .int .i64 m.op, .int .u32 m.target, .int .i64 m.hops, .int .u32 m.owner, .int .i64 m.turn, .int .u32 m.ev, .int .u64 m.eid, .int .u64 m.ever, (.slice av m.vals.length cv), .bool m.gone, .int .u32 m.sf, .int .u32 m.st, (.slice ab m.box.length cb), (.slice ar m.recs.length cr)] rfl rfl 34 _ hst msg_info rfl rfl ?_))
  have hb4 : Blk (w3.alloc (.cells #[.int .i64 m.kind, .int .i64 m.hub, .int .u32 m.point, .int .i64 m.client, .int .i64 m.op, .int .u32 m.target, .int .i64 m.hops, .int .u32 m.owner, .int .i64 m.turn, .int .u32 m.ev, .int .u64 m.eid, .int .u64 m.ever, (.slice av m.vals.length cv), .bool m.gone, .int .u32 m.sf, .int .u32 m.st, (.slice ab m.box.length cb), (.slice ar m.recs.length cr)] 34)) w3.heap.size 34 #[.int .i64 m.kind, .int .i64 m.hub, .int .u32 m.point, .int .i64 m.client, .int .i64 m.op, .int .u32 m.target, .int .i64 m.hops, .int .u32 m.owner, .int .i64 m.turn, .int .u32 m.ev, .int .u64 m.eid, .int .u64 m.ever, (.slice av m.vals.length cv), .bool m.gone, .int .u32 m.sf, .int .u32 m.st, (.slice ab m.box.length cb), (.slice ar m.recs.length cr)] := Blk.new _ _ _
  have hk4 : Below w3.heap.size w3 (w3.alloc (.cells #[.int .i64 m.kind, .int .i64 m.hub, .int .u32 m.point, .int .i64 m.client, .int .i64 m.op, .int .u32 m.target, .int .i64 m.hops, .int .u32 m.owner, .int .i64 m.turn, .int .u32 m.ev, .int .u64 m.eid, .int .u64 m.ever, (.slice av m.vals.length cv), .bool m.gone, .int .u32 m.sf, .int .u32 m.st, (.slice ab m.box.length cb), (.slice ar m.recs.length cr)] 34)) := more (Below.refl _ _) _
  generalize w3.alloc (.cells #[.int .i64 m.kind, .int .i64 m.hub, .int .u32 m.point, .int .i64 m.client, .int .i64 m.op, .int .u32 m.target, .int .i64 m.hops, .int .u32 m.owner, .int .i64 m.turn, .int .u32 m.ev, .int .u64 m.eid, .int .u64 m.ever, (.slice av m.vals.length cv), .bool m.gone, .int .u32 m.sf, .int .u32 m.st, (.slice ab m.box.length cb), (.slice ar m.recs.length cr)] 34) = w4 at *
  clear hst
  obtain ⟨g4, hg4⟩ : ∃ g4, g4 = w3.heap.size := ⟨_, rfl⟩
  have HB4 : Hid (Blk w4 g4 34 #[.int .i64 m.kind, .int .i64 m.hub, .int .u32 m.point, .int .i64 m.client, .int .i64 m.op, .int .u32 m.target, .int .i64 m.hops, .int .u32 m.owner, .int .i64 m.turn, .int .u32 m.ev, .int .u64 m.eid, .int .u64 m.ever, (.slice av m.vals.length cv), .bool m.gone, .int .u32 m.sf, .int .u32 m.st, (.slice ab m.box.length cb), (.slice ar m.recs.length cr)]) := Lib.hid (by rw [hg4]; exact hb4)
  have HG4 := Lib.hid hg4
  have HK4 := Lib.hid hk4
  rw [← hg4]
  clear hg4 hb4 hk4
  have hW0 : 0 ≤ IntKind.u64.wrap what := (u64_bd what).1
  obtain ⟨W0, hW⟩ : ∃ W0, IntKind.u64.wrap what = W0 := ⟨_, rfl⟩
  rw [hW] at hW0
  have hT : W0.tmod 9 = W0 % 9 := Int.tmod_eq_emod_of_nonneg hW0
  have hq9 : W0 % 9 = 0 ∨ W0 % 9 = 1 ∨ W0 % 9 = 2 ∨ W0 % 9 = 3 ∨ W0 % 9 = 4 ∨ W0 % 9 = 5 ∨ W0 % 9 = 6 ∨ W0 % 9 = 7 ∨ W0 % 9 = 8 := by omega
  have HF := Lib.hid (right_f HR.out)
  have HOK := Lib.hid (fun z hz => omright_any 1 m _ _ _ z (HM3.out.keep hz) HBD.out)
  rw [HR.out] at HOK
  rcases hq9 with hq | hq | hq | hq | hq | hq | hq | hq | hq
  · skip
    as_aux_lemma =>
      have ec : w4.cell? ⟨g4, 1, none⟩ = some (.int .i64 m.hub) := HB4.out.cell 1
      have fc : w4.frozen? ⟨g4, 1, none⟩ = false := HB4.out.frozen 1
      have HBAD : Hid (Blk (w4.setCell ⟨g4, 1, none⟩ (.int .i64 1)) g4 34 #[.int .i64 m.kind, .int .i64 1, .int .u32 m.point, .int .i64 m.client, .int .i64 m.op, .int .u32 m.target, .int .i64 m.hops, .int .u32 m.owner, .int .i64 m.turn, .int .u32 m.ev, .int .u64 m.eid, .int .u64 m.ever, (.slice av m.vals.length cv), .bool m.gone, .int .u32 m.sf, .int .u32 m.st, (.slice ab m.box.length cb), (.slice ar m.recs.length cr)]) := Lib.hid (HB4.out.set_ 1 (.int .i64 1))
      have hK5 : Below w3.heap.size w3 (w4.setCell ⟨g4, 1, none⟩ (.int .i64 1)) := HK4.out.trans ((Only.set w4 1 _).below (by rw [HG4.out]; exact Nat.le_refl _) HK4.out.size)
      have HK5 := Lib.hid hK5
      have HBR : Hid (∀ z, Below w3.heap.size w3 z → Calls Try.prog 15 #[.int .i64 1, .agg #[.int .i64 m.kind, .int .i64 1, .int .u32 m.point, .int .i64 m.client, .int .i64 m.op, .int .u32 m.target, .int .i64 m.hops, .int .u32 m.owner, .int .i64 m.turn, .int .u32 m.ev, .int .u64 m.eid, .int .u64 m.ever, (.slice av m.vals.length cv), .bool m.gone, .int .u32 m.sf, .int .u32 m.st, (.slice ab m.box.length cb), (.slice ar m.recs.length cr)]] z fun e w' => e = .returned (.bool false) ∧ Below z.heap.size z w') := Lib.hid (fun z hz => by
        have := omright_any 1 { m with hub := 1 } (.slice av m.vals.length cv) (.slice ab m.box.length cb) (.slice ar m.recs.length cr) z ⟨(HM3.out.keep hz).vals, (HM3.out.keep hz).box, (HM3.out.keep hz).recs⟩ (bad0_b HBD.out)
        rw [bad0 HR.out] at this
        exact this)
      clear hK5
      go_upto_region 22 with fail
      generalize w4.setCell ⟨g4, 1, none⟩ (.int .i64 1) = w5 at *
      clear ec fc
      go_upto_if 99 with (first | (go_at_call 9; refine (mawake_any _).mono ?_; rintro e w6 ⟨rfl, hk6⟩) | (refine wp_load_row 34 (.tmp 2) rfl g rfl 34 _ (0, 0) _ (HB3.out.keep (nest HK5.out hk6)) Try.underlying34 rfl msg_info ?_) | (go_at_call 15; refine (HOK.out _ (nest HK5.out hk6)).mono ?_; rintro e w7 ⟨rfl, hk7⟩) | (refine wp_load_row 34 (.tmp 5) rfl g4 rfl 34 _ (0, 0) _ ((HBAD.out.keep hk6).keep hk7) Try.underlying34 rfl msg_info ?_) | (go_at_call 15; refine (HBR.out _ (nest (nest HK5.out hk6) hk7)).mono ?_; rintro e w8 ⟨rfl, hk8⟩))
      go_ret
      exact ⟨rfl, nest (nest (nest (nest HK3.out HK5.out) hk6) hk7) hk8⟩
  · skip
    as_aux_lemma =>
      have ec : w4.cell? ⟨g4, 4, none⟩ = some (.int .i64 m.op) := HB4.out.cell 4
      have fc : w4.frozen? ⟨g4, 4, none⟩ = false := HB4.out.frozen 4
      have HBAD : Hid (Blk (w4.setCell ⟨g4, 4, none⟩ (.int .i64 0)) g4 34 #[.int .i64 m.kind, .int .i64 m.hub, .int .u32 m.point, .int .i64 m.client, .int .i64 0, .int .u32 m.target, .int .i64 m.hops, .int .u32 m.owner, .int .i64 m.turn, .int .u32 m.ev, .int .u64 m.eid, .int .u64 m.ever, (.slice av m.vals.length cv), .bool m.gone, .int .u32 m.sf, .int .u32 m.st, (.slice ab m.box.length cb), (.slice ar m.recs.length cr)]) := Lib.hid (HB4.out.set_ 4 (.int .i64 0))
      have hK5 : Below w3.heap.size w3 (w4.setCell ⟨g4, 4, none⟩ (.int .i64 0)) := HK4.out.trans ((Only.set w4 4 _).below (by rw [HG4.out]; exact Nat.le_refl _) HK4.out.size)
      have HK5 := Lib.hid hK5
      have HBR : Hid (∀ z, Below w3.heap.size w3 z → Calls Try.prog 15 #[.int .i64 1, .agg #[.int .i64 m.kind, .int .i64 m.hub, .int .u32 m.point, .int .i64 m.client, .int .i64 0, .int .u32 m.target, .int .i64 m.hops, .int .u32 m.owner, .int .i64 m.turn, .int .u32 m.ev, .int .u64 m.eid, .int .u64 m.ever, (.slice av m.vals.length cv), .bool m.gone, .int .u32 m.sf, .int .u32 m.st, (.slice ab m.box.length cb), (.slice ar m.recs.length cr)]] z fun e w' => e = .returned (.bool false) ∧ Below z.heap.size z w') := Lib.hid (fun z hz => by
        have := omright_any 1 { m with op := 0 } (.slice av m.vals.length cv) (.slice ab m.box.length cb) (.slice ar m.recs.length cr) z ⟨(HM3.out.keep hz).vals, (HM3.out.keep hz).box, (HM3.out.keep hz).recs⟩ (bad1_b HBD.out)
        rw [bad1 HR.out] at this
        exact this)
      clear hK5
      go_upto_region 22 with fail
      generalize w4.setCell ⟨g4, 4, none⟩ (.int .i64 0) = w5 at *
      clear ec fc
      go_upto_if 99 with (first | (go_at_call 9; refine (mawake_any _).mono ?_; rintro e w6 ⟨rfl, hk6⟩) | (refine wp_load_row 34 (.tmp 2) rfl g rfl 34 _ (0, 0) _ (HB3.out.keep (nest HK5.out hk6)) Try.underlying34 rfl msg_info ?_) | (go_at_call 15; refine (HOK.out _ (nest HK5.out hk6)).mono ?_; rintro e w7 ⟨rfl, hk7⟩) | (refine wp_load_row 34 (.tmp 5) rfl g4 rfl 34 _ (0, 0) _ ((HBAD.out.keep hk6).keep hk7) Try.underlying34 rfl msg_info ?_) | (go_at_call 15; refine (HBR.out _ (nest (nest HK5.out hk6) hk7)).mono ?_; rintro e w8 ⟨rfl, hk8⟩))
      go_ret
      exact ⟨rfl, nest (nest (nest (nest HK3.out HK5.out) hk6) hk7) hk8⟩
  · skip
    as_aux_lemma =>
      have ec : w4.cell? ⟨g4, 3, none⟩ = some (.int .i64 m.client) := HB4.out.cell 3
      have fc : w4.frozen? ⟨g4, 3, none⟩ = false := HB4.out.frozen 3
      have HBAD : Hid (Blk (w4.setCell ⟨g4, 3, none⟩ (.int .i64 16)) g4 34 #[.int .i64 m.kind, .int .i64 m.hub, .int .u32 m.point, .int .i64 16, .int .i64 m.op, .int .u32 m.target, .int .i64 m.hops, .int .u32 m.owner, .int .i64 m.turn, .int .u32 m.ev, .int .u64 m.eid, .int .u64 m.ever, (.slice av m.vals.length cv), .bool m.gone, .int .u32 m.sf, .int .u32 m.st, (.slice ab m.box.length cb), (.slice ar m.recs.length cr)]) := Lib.hid (HB4.out.set_ 3 (.int .i64 16))
      have hK5 : Below w3.heap.size w3 (w4.setCell ⟨g4, 3, none⟩ (.int .i64 16)) := HK4.out.trans ((Only.set w4 3 _).below (by rw [HG4.out]; exact Nat.le_refl _) HK4.out.size)
      have HK5 := Lib.hid hK5
      have HBR : Hid (∀ z, Below w3.heap.size w3 z → Calls Try.prog 15 #[.int .i64 1, .agg #[.int .i64 m.kind, .int .i64 m.hub, .int .u32 m.point, .int .i64 16, .int .i64 m.op, .int .u32 m.target, .int .i64 m.hops, .int .u32 m.owner, .int .i64 m.turn, .int .u32 m.ev, .int .u64 m.eid, .int .u64 m.ever, (.slice av m.vals.length cv), .bool m.gone, .int .u32 m.sf, .int .u32 m.st, (.slice ab m.box.length cb), (.slice ar m.recs.length cr)]] z fun e w' => e = .returned (.bool false) ∧ Below z.heap.size z w') := Lib.hid (fun z hz => by
        have := omright_any 1 { m with client := 16 } (.slice av m.vals.length cv) (.slice ab m.box.length cb) (.slice ar m.recs.length cr) z ⟨(HM3.out.keep hz).vals, (HM3.out.keep hz).box, (HM3.out.keep hz).recs⟩ (bad2_b HBD.out)
        rw [bad2 HR.out] at this
        exact this)
      clear hK5
      go_upto_region 22 with fail
      generalize w4.setCell ⟨g4, 3, none⟩ (.int .i64 16) = w5 at *
      clear ec fc
      go_upto_if 99 with (first | (go_at_call 9; refine (mawake_any _).mono ?_; rintro e w6 ⟨rfl, hk6⟩) | (refine wp_load_row 34 (.tmp 2) rfl g rfl 34 _ (0, 0) _ (HB3.out.keep (nest HK5.out hk6)) Try.underlying34 rfl msg_info ?_) | (go_at_call 15; refine (HOK.out _ (nest HK5.out hk6)).mono ?_; rintro e w7 ⟨rfl, hk7⟩) | (refine wp_load_row 34 (.tmp 5) rfl g4 rfl 34 _ (0, 0) _ ((HBAD.out.keep hk6).keep hk7) Try.underlying34 rfl msg_info ?_) | (go_at_call 15; refine (HBR.out _ (nest (nest HK5.out hk6) hk7)).mono ?_; rintro e w8 ⟨rfl, hk8⟩))
      go_ret
      exact ⟨rfl, nest (nest (nest (nest HK3.out HK5.out) hk6) hk7) hk8⟩
  · skip
    as_aux_lemma =>
      have ec : w4.cell? ⟨g4, 6, none⟩ = some (.int .i64 m.hops) := HB4.out.cell 6
      have fc : w4.frozen? ⟨g4, 6, none⟩ = false := HB4.out.frozen 6
      have HBAD : Hid (Blk (w4.setCell ⟨g4, 6, none⟩ (.int .i64 101)) g4 34 #[.int .i64 m.kind, .int .i64 m.hub, .int .u32 m.point, .int .i64 m.client, .int .i64 m.op, .int .u32 m.target, .int .i64 101, .int .u32 m.owner, .int .i64 m.turn, .int .u32 m.ev, .int .u64 m.eid, .int .u64 m.ever, (.slice av m.vals.length cv), .bool m.gone, .int .u32 m.sf, .int .u32 m.st, (.slice ab m.box.length cb), (.slice ar m.recs.length cr)]) := Lib.hid (HB4.out.set_ 6 (.int .i64 101))
      have hK5 : Below w3.heap.size w3 (w4.setCell ⟨g4, 6, none⟩ (.int .i64 101)) := HK4.out.trans ((Only.set w4 6 _).below (by rw [HG4.out]; exact Nat.le_refl _) HK4.out.size)
      have HK5 := Lib.hid hK5
      have HBR : Hid (∀ z, Below w3.heap.size w3 z → Calls Try.prog 15 #[.int .i64 1, .agg #[.int .i64 m.kind, .int .i64 m.hub, .int .u32 m.point, .int .i64 m.client, .int .i64 m.op, .int .u32 m.target, .int .i64 101, .int .u32 m.owner, .int .i64 m.turn, .int .u32 m.ev, .int .u64 m.eid, .int .u64 m.ever, (.slice av m.vals.length cv), .bool m.gone, .int .u32 m.sf, .int .u32 m.st, (.slice ab m.box.length cb), (.slice ar m.recs.length cr)]] z fun e w' => e = .returned (.bool false) ∧ Below z.heap.size z w') := Lib.hid (fun z hz => by
        have := omright_any 1 { m with hops := 101 } (.slice av m.vals.length cv) (.slice ab m.box.length cb) (.slice ar m.recs.length cr) z ⟨(HM3.out.keep hz).vals, (HM3.out.keep hz).box, (HM3.out.keep hz).recs⟩ (bad3_b HBD.out)
        rw [bad3 HR.out] at this
        exact this)
      clear hK5
      go_upto_region 22 with fail
      generalize w4.setCell ⟨g4, 6, none⟩ (.int .i64 101) = w5 at *
      clear ec fc
      go_upto_if 99 with (first | (go_at_call 9; refine (mawake_any _).mono ?_; rintro e w6 ⟨rfl, hk6⟩) | (refine wp_load_row 34 (.tmp 2) rfl g rfl 34 _ (0, 0) _ (HB3.out.keep (nest HK5.out hk6)) Try.underlying34 rfl msg_info ?_) | (go_at_call 15; refine (HOK.out _ (nest HK5.out hk6)).mono ?_; rintro e w7 ⟨rfl, hk7⟩) | (refine wp_load_row 34 (.tmp 5) rfl g4 rfl 34 _ (0, 0) _ ((HBAD.out.keep hk6).keep hk7) Try.underlying34 rfl msg_info ?_) | (go_at_call 15; refine (HBR.out _ (nest (nest HK5.out hk6) hk7)).mono ?_; rintro e w8 ⟨rfl, hk8⟩))
      go_ret
      exact ⟨rfl, nest (nest (nest (nest HK3.out HK5.out) hk6) hk7) hk8⟩
  · skip
    as_aux_lemma =>
      have ec : w4.cell? ⟨g4, 0, none⟩ = some (.int .i64 m.kind) := HB4.out.cell 0
      have fc : w4.frozen? ⟨g4, 0, none⟩ = false := HB4.out.frozen 0
      have HBAD : Hid (Blk (w4.setCell ⟨g4, 0, none⟩ (.int .i64 0)) g4 34 #[.int .i64 0, .int .i64 m.hub, .int .u32 m.point, .int .i64 m.client, .int .i64 m.op, .int .u32 m.target, .int .i64 m.hops, .int .u32 m.owner, .int .i64 m.turn, .int .u32 m.ev, .int .u64 m.eid, .int .u64 m.ever, (.slice av m.vals.length cv), .bool m.gone, .int .u32 m.sf, .int .u32 m.st, (.slice ab m.box.length cb), (.slice ar m.recs.length cr)]) := Lib.hid (HB4.out.set_ 0 (.int .i64 0))
      have hK5 : Below w3.heap.size w3 (w4.setCell ⟨g4, 0, none⟩ (.int .i64 0)) := HK4.out.trans ((Only.set w4 0 _).below (by rw [HG4.out]; exact Nat.le_refl _) HK4.out.size)
      have HK5 := Lib.hid hK5
      have HBR : Hid (∀ z, Below w3.heap.size w3 z → Calls Try.prog 15 #[.int .i64 1, .agg #[.int .i64 0, .int .i64 m.hub, .int .u32 m.point, .int .i64 m.client, .int .i64 m.op, .int .u32 m.target, .int .i64 m.hops, .int .u32 m.owner, .int .i64 m.turn, .int .u32 m.ev, .int .u64 m.eid, .int .u64 m.ever, (.slice av m.vals.length cv), .bool m.gone, .int .u32 m.sf, .int .u32 m.st, (.slice ab m.box.length cb), (.slice ar m.recs.length cr)]] z fun e w' => e = .returned (.bool false) ∧ Below z.heap.size z w') := Lib.hid (fun z hz => by
        have := omright_any 1 { m with kind := 0 } (.slice av m.vals.length cv) (.slice ab m.box.length cb) (.slice ar m.recs.length cr) z ⟨(HM3.out.keep hz).vals, (HM3.out.keep hz).box, (HM3.out.keep hz).recs⟩ (bad4_b HBD.out)
        rw [bad4 HR.out] at this
        exact this)
      clear hK5
      go_upto_region 22 with fail
      generalize w4.setCell ⟨g4, 0, none⟩ (.int .i64 0) = w5 at *
      clear ec fc
      go_upto_if 99 with (first | (go_at_call 9; refine (mawake_any _).mono ?_; rintro e w6 ⟨rfl, hk6⟩) | (refine wp_load_row 34 (.tmp 2) rfl g rfl 34 _ (0, 0) _ (HB3.out.keep (nest HK5.out hk6)) Try.underlying34 rfl msg_info ?_) | (go_at_call 15; refine (HOK.out _ (nest HK5.out hk6)).mono ?_; rintro e w7 ⟨rfl, hk7⟩) | (refine wp_load_row 34 (.tmp 5) rfl g4 rfl 34 _ (0, 0) _ ((HBAD.out.keep hk6).keep hk7) Try.underlying34 rfl msg_info ?_) | (go_at_call 15; refine (HBR.out _ (nest (nest HK5.out hk6) hk7)).mono ?_; rintro e w8 ⟨rfl, hk8⟩))
      go_ret
      exact ⟨rfl, nest (nest (nest (nest HK3.out HK5.out) hk6) hk7) hk8⟩
  · skip
    as_aux_lemma =>
      have ec : w4.cell? ⟨g4, 5, none⟩ = some (.int .u32 m.target) := HB4.out.cell 5
      have fc : w4.frozen? ⟨g4, 5, none⟩ = false := HB4.out.frozen 5
      have HBAD : Hid (Blk (w4.setCell ⟨g4, 5, none⟩ (.int .u32 ((m.target + 1) % 4294967296))) g4 34 #[.int .i64 m.kind, .int .i64 m.hub, .int .u32 m.point, .int .i64 m.client, .int .i64 m.op, .int .u32 ((m.target + 1) % 4294967296), .int .i64 m.hops, .int .u32 m.owner, .int .i64 m.turn, .int .u32 m.ev, .int .u64 m.eid, .int .u64 m.ever, (.slice av m.vals.length cv), .bool m.gone, .int .u32 m.sf, .int .u32 m.st, (.slice ab m.box.length cb), (.slice ar m.recs.length cr)]) := Lib.hid (HB4.out.set_ 5 (.int .u32 ((m.target + 1) % 4294967296)))
      have hK5 : Below w3.heap.size w3 (w4.setCell ⟨g4, 5, none⟩ (.int .u32 ((m.target + 1) % 4294967296))) := HK4.out.trans ((Only.set w4 5 _).below (by rw [HG4.out]; exact Nat.le_refl _) HK4.out.size)
      have HK5 := Lib.hid hK5
      have HBR : Hid (∀ z, Below w3.heap.size w3 z → Calls Try.prog 15 #[.int .i64 1, .agg #[.int .i64 m.kind, .int .i64 m.hub, .int .u32 m.point, .int .i64 m.client, .int .i64 m.op, .int .u32 ((m.target + 1) % 4294967296), .int .i64 m.hops, .int .u32 m.owner, .int .i64 m.turn, .int .u32 m.ev, .int .u64 m.eid, .int .u64 m.ever, (.slice av m.vals.length cv), .bool m.gone, .int .u32 m.sf, .int .u32 m.st, (.slice ab m.box.length cb), (.slice ar m.recs.length cr)]] z fun e w' => e = .returned (.bool false) ∧ Below z.heap.size z w') := Lib.hid (fun z hz => by
        have := omright_any 1 { m with target := ((m.target + 1) % 4294967296) } (.slice av m.vals.length cv) (.slice ab m.box.length cb) (.slice ar m.recs.length cr) z ⟨(HM3.out.keep hz).vals, (HM3.out.keep hz).box, (HM3.out.keep hz).recs⟩ (bad5_b HBD.out)
        rw [bad5 HR.out] at this
        exact this)
      clear hK5
      go_upto_region 22 with fail
      generalize w4.setCell ⟨g4, 5, none⟩ (.int .u32 ((m.target + 1) % 4294967296)) = w5 at *
      clear ec fc
      go_upto_if 99 with (first | (go_at_call 9; refine (mawake_any _).mono ?_; rintro e w6 ⟨rfl, hk6⟩) | (refine wp_load_row 34 (.tmp 2) rfl g rfl 34 _ (0, 0) _ (HB3.out.keep (nest HK5.out hk6)) Try.underlying34 rfl msg_info ?_) | (go_at_call 15; refine (HOK.out _ (nest HK5.out hk6)).mono ?_; rintro e w7 ⟨rfl, hk7⟩) | (refine wp_load_row 34 (.tmp 5) rfl g4 rfl 34 _ (0, 0) _ ((HBAD.out.keep hk6).keep hk7) Try.underlying34 rfl msg_info ?_) | (go_at_call 15; refine (HBR.out _ (nest (nest HK5.out hk6) hk7)).mono ?_; rintro e w8 ⟨rfl, hk8⟩))
      go_ret
      exact ⟨rfl, nest (nest (nest (nest HK3.out HK5.out) hk6) hk7) hk8⟩
  · skip
    as_aux_lemma =>
      have ec : w4.cell? ⟨g4, 9, none⟩ = some (.int .u32 m.ev) := HB4.out.cell 9
      have fc : w4.frozen? ⟨g4, 9, none⟩ = false := HB4.out.frozen 9
      have HBAD : Hid (Blk (w4.setCell ⟨g4, 9, none⟩ (.int .u32 ((m.ev + 1) % 4294967296))) g4 34 #[.int .i64 m.kind, .int .i64 m.hub, .int .u32 m.point, .int .i64 m.client, .int .i64 m.op, .int .u32 m.target, .int .i64 m.hops, .int .u32 m.owner, .int .i64 m.turn, .int .u32 ((m.ev + 1) % 4294967296), .int .u64 m.eid, .int .u64 m.ever, (.slice av m.vals.length cv), .bool m.gone, .int .u32 m.sf, .int .u32 m.st, (.slice ab m.box.length cb), (.slice ar m.recs.length cr)]) := Lib.hid (HB4.out.set_ 9 (.int .u32 ((m.ev + 1) % 4294967296)))
      have hK5 : Below w3.heap.size w3 (w4.setCell ⟨g4, 9, none⟩ (.int .u32 ((m.ev + 1) % 4294967296))) := HK4.out.trans ((Only.set w4 9 _).below (by rw [HG4.out]; exact Nat.le_refl _) HK4.out.size)
      have HK5 := Lib.hid hK5
      have HBR : Hid (∀ z, Below w3.heap.size w3 z → Calls Try.prog 15 #[.int .i64 1, .agg #[.int .i64 m.kind, .int .i64 m.hub, .int .u32 m.point, .int .i64 m.client, .int .i64 m.op, .int .u32 m.target, .int .i64 m.hops, .int .u32 m.owner, .int .i64 m.turn, .int .u32 ((m.ev + 1) % 4294967296), .int .u64 m.eid, .int .u64 m.ever, (.slice av m.vals.length cv), .bool m.gone, .int .u32 m.sf, .int .u32 m.st, (.slice ab m.box.length cb), (.slice ar m.recs.length cr)]] z fun e w' => e = .returned (.bool false) ∧ Below z.heap.size z w') := Lib.hid (fun z hz => by
        have := omright_any 1 { m with ev := ((m.ev + 1) % 4294967296) } (.slice av m.vals.length cv) (.slice ab m.box.length cb) (.slice ar m.recs.length cr) z ⟨(HM3.out.keep hz).vals, (HM3.out.keep hz).box, (HM3.out.keep hz).recs⟩ (bad6_b HBD.out)
        rw [bad6 HR.out] at this
        exact this)
      clear hK5
      go_upto_region 22 with fail
      generalize w4.setCell ⟨g4, 9, none⟩ (.int .u32 ((m.ev + 1) % 4294967296)) = w5 at *
      clear ec fc
      go_upto_if 99 with (first | (go_at_call 9; refine (mawake_any _).mono ?_; rintro e w6 ⟨rfl, hk6⟩) | (refine wp_load_row 34 (.tmp 2) rfl g rfl 34 _ (0, 0) _ (HB3.out.keep (nest HK5.out hk6)) Try.underlying34 rfl msg_info ?_) | (go_at_call 15; refine (HOK.out _ (nest HK5.out hk6)).mono ?_; rintro e w7 ⟨rfl, hk7⟩) | (refine wp_load_row 34 (.tmp 5) rfl g4 rfl 34 _ (0, 0) _ ((HBAD.out.keep hk6).keep hk7) Try.underlying34 rfl msg_info ?_) | (go_at_call 15; refine (HBR.out _ (nest (nest HK5.out hk6) hk7)).mono ?_; rintro e w8 ⟨rfl, hk8⟩))
      go_ret
      exact ⟨rfl, nest (nest (nest (nest HK3.out HK5.out) hk6) hk7) hk8⟩
  · skip
    as_aux_lemma =>
      have ec : w4.cell? ⟨g, 16, none⟩ = some (.slice ab m.box.length cb) := (HB3.out.keep HK4.out).cell 16
      have hln : m.box.length ≤ 300 := HFEW.out.2
      obtain ⟨S, hS⟩ : ∃ S, S = m.box := ⟨_, rfl⟩
      have HSRC : Hid (Rd rngE w4 (.slice ab m.box.length cb) S) := Lib.hid (by rw [hS]; exact HM3.out.box.keep HK4.out)
      have HSL : Hid (S.length ≤ 300) := Lib.hid (by rw [hS]; exact hln)
      have HSS := Lib.hid hS
      clear hln hS
      have HG4W : Hid (g4 < w4.heap.size) := Lib.hid HB4.out.lt
      go_upto_region 21 with fail
      refine Run.region_seq (S := fun z => z.cell? ⟨g, 16, none⟩ = some (.slice ab m.box.length cb) ∧ Below w3.heap.size w3 z)
        [0, 0, 1, 0, 1, 1, 0, 1] (l := ?_) ?_ ⟨ec, HK4.out⟩ ?_
      rotate_left
      (· simp only [Run.seqOf, List.toList_toArray, Run.stepsOf, Run.stepOf, Run.guardOf, List.getElem?_toArray, List.getElem?_cons_zero, List.getElem?_cons_succ, Option.map_some, Option.map_none, Option.bind_some, Option.toList_some, List.map_cons, List.map_nil, List.cons_append, List.nil_append]
         rfl)
      repeat ((first
        | (refine Run.takes (v := ?_) ?_ ?_; rotate_left; (· intro w' hS'; go_simp; (try with_reducible rfl)))
        | (refine Run.takesG (v := ?_) ?_ ?_ ?_; rotate_left; (· simp only [List.getElem?_cons_zero, List.getElem?_cons_succ]); (· intro w' hS'; go_simp; (try with_reducible rfl)))
        | (refine Run.skipsT ?_ ?_; (· simp only [List.getElem?_cons_zero, List.getElem?_cons_succ]))
        | (refine Run.skipsF ?_ ?_; (· simp only [List.getElem?_cons_zero, List.getElem?_cons_succ]))
        | (refine Run.skipsU ?_ ?_; (· simp only [List.getElem?_cons_zero, List.getElem?_cons_succ]))
        | (refine Run.passT ?_ ?_; (· simp only [List.getElem?_cons_zero, List.getElem?_cons_succ]))
        | (refine Run.passF ?_ ?_; (· simp only [List.getElem?_cons_zero, List.getElem?_cons_succ]))
        | (refine Run.passU ?_ ?_; (· simp only [List.getElem?_cons_zero, List.getElem?_cons_succ]))
        | fail); simp only [Act.put, List.setIfInBounds_toArray, List.set_cons_zero, List.set_cons_succ])
      refine Run.runsS (Run.one (fun hS K hK => ?_))
      refine wp_append (E := rngE) (B := w4.heap.size) (l := []) (m := S) (bytes := 16) rngElem (Nat.zero_lt_succ 2) (.const (.slice none 0 0)) (.tmp 58) rfl rfl Row.nil rfl HSRC.out (by have := HSL.out; simp [maxLen]; omega) (by have := HSL.out; simp; omega) (Nat.le_refl _) ?_
      intro v5 w5 hr5 hk5 hg5 _
      rw [List.nil_append] at hr5
      have HR5 := Lib.hid hr5
      have HK5 : Hid (Below w4.heap.size w4 w5) := Lib.hid hk5
      have HK35 : Hid (Below w3.heap.size w3 w5) := Lib.hid (nest HK4.out hk5)
      obtain ⟨a5, c5, rfl, _, _⟩ := hr5.rd.form
      have ec5 : w5.cell? ⟨g, 16, none⟩ = some (.slice ab m.box.length cb) := (HB3.out.keep HK35.out).cell 16
      refine hK.out _ _ ⟨ec5, HK35.out⟩ (fun _ => ⟨fun z => z.cell? ⟨g, 16, none⟩ = some (.slice ab m.box.length cb) ∧ Below w3.heap.size w3 z, fun z h => h, ⟨ec5, HK35.out⟩, ?_⟩)
      clear hK K hS hr5 hk5 hg5 ec
      simp only [Act.put, List.setIfInBounds_toArray, List.set_cons_zero, List.set_cons_succ]
      repeat ((first
        | (refine Run.takes (v := ?_) ?_ ?_; rotate_left; (· intro w' hS'; go_simp; (try with_reducible rfl)))
        | (refine Run.takesG (v := ?_) ?_ ?_ ?_; rotate_left; (· simp only [List.getElem?_cons_zero, List.getElem?_cons_succ]); (· intro w' hS'; go_simp; (try with_reducible rfl)))
        | (refine Run.skipsT ?_ ?_; (· simp only [List.getElem?_cons_zero, List.getElem?_cons_succ]))
        | (refine Run.skipsF ?_ ?_; (· simp only [List.getElem?_cons_zero, List.getElem?_cons_succ]))
        | (refine Run.skipsU ?_ ?_; (· simp only [List.getElem?_cons_zero, List.getElem?_cons_succ]))
        | (refine Run.passT ?_ ?_; (· simp only [List.getElem?_cons_zero, List.getElem?_cons_succ]))
        | (refine Run.passF ?_ ?_; (· simp only [List.getElem?_cons_zero, List.getElem?_cons_succ]))
        | (refine Run.passU ?_ ?_; (· simp only [List.getElem?_cons_zero, List.getElem?_cons_succ]))
        | fail); simp only [Act.put, List.setIfInBounds_toArray, List.set_cons_zero, List.set_cons_succ])
      refine Run.runsS (Run.one (fun hS K hK => ?_))
      go_simp
      have hX6 : Below w5.heap.size w5 (w5.alloc (.cells #[.int .i64 1, .int .u32 0, .int .u32 0] 52)) := more (Below.refl _ _) _
      have HX6 := Lib.hid (Row.lit (E := rngE) w5.heap.size w5 #[.int .i64 1, .int .u32 0, .int .u32 0] [(1, 0, 0)] 1 w5.heap.size (by simp [Enc.flat, tripE]) rfl rfl (Nat.le_refl _) (by simp [maxLen]) : Row rngE 52 w5.heap.size (w5.alloc (.cells #[.int .i64 1, .int .u32 0, .int .u32 0] 52)) (.slice (some ⟨w5.heap.size, 0, none⟩) 1 1) [(1, 0, 0)])
      have HR6 := Lib.hid (HR5.out.keep hX6)
      have HK6 := Lib.hid (nest HK5.out hX6)
      have HK36 := Lib.hid (nest HK35.out hX6)
      have ec6 : (w5.alloc (.cells #[.int .i64 1, .int .u32 0, .int .u32 0] 52)).cell? ⟨g, 16, none⟩ = some (.slice ab m.box.length cb) := (HB3.out.keep HK36.out).cell 16
      refine hK.out _ _ ⟨ec6, HK36.out⟩ (fun _ => ⟨fun z => z.cell? ⟨g, 16, none⟩ = some (.slice ab m.box.length cb) ∧ Below w3.heap.size w3 z, fun z h => h, ⟨ec6, HK36.out⟩, ?_⟩)
      clear hK K hS hX6 ec5 ec6
      generalize w5.alloc (.cells #[.int .i64 1, .int .u32 0, .int .u32 0] 52) = w6 at *
      try simp only [Act.put, List.setIfInBounds_toArray, List.set_cons_zero, List.set_cons_succ]
      repeat ((first
        | (refine Run.takes (v := ?_) ?_ ?_; rotate_left; (· intro w' hS'; go_simp; (try with_reducible rfl)))
        | (refine Run.takesG (v := ?_) ?_ ?_ ?_; rotate_left; (· simp only [List.getElem?_cons_zero, List.getElem?_cons_succ]); (· intro w' hS'; go_simp; (try with_reducible rfl)))
        | (refine Run.skipsT ?_ ?_; (· simp only [List.getElem?_cons_zero, List.getElem?_cons_succ]))
        | (refine Run.skipsF ?_ ?_; (· simp only [List.getElem?_cons_zero, List.getElem?_cons_succ]))
        | (refine Run.skipsU ?_ ?_; (· simp only [List.getElem?_cons_zero, List.getElem?_cons_succ]))
        | (refine Run.passT ?_ ?_; (· simp only [List.getElem?_cons_zero, List.getElem?_cons_succ]))
        | (refine Run.passF ?_ ?_; (· simp only [List.getElem?_cons_zero, List.getElem?_cons_succ]))
        | (refine Run.passU ?_ ?_; (· simp only [List.getElem?_cons_zero, List.getElem?_cons_succ]))
        | fail); simp only [Act.put, List.setIfInBounds_toArray, List.set_cons_zero, List.set_cons_succ])
      refine Run.runsS (Run.one (fun hS K hK => ?_))
      refine wp_append (E := rngE) (B := w4.heap.size) (l := S) (m := [(1, 0, 0)]) (bytes := 16) rngElem (Nat.zero_lt_succ 2) (.tmp 59) (.tmp 61) rfl rfl HR6.out rfl HX6.out.rd (by have := HSL.out; simp [maxLen]; omega) (by have := HSL.out; simp; omega) HK6.out.size ?_
      intro v7 w7 hr7 hk7 hg7 _
      obtain ⟨L7, hL7⟩ : ∃ L, L = S ++ [(1, 0, 0)] := ⟨_, rfl⟩
      rw [← hL7] at hr7
      have HL7 := Lib.hid hL7
      have HR7 := Lib.hid hr7
      have HK7 : Hid (Below w4.heap.size w4 w7) := Lib.hid (HK6.out.trans hk7)
      have HK37 : Hid (Below w3.heap.size w3 w7) := Lib.hid (nest HK4.out HK7.out)
      have ec7 : w7.cell? ⟨g, 16, none⟩ = some (.slice ab m.box.length cb) := (HB3.out.keep HK37.out).cell 16
      have fe := (HB4.out.below HK7.out HG4W.out).cell 16
      have ff := (HB4.out.below HK7.out HG4W.out).frozen 16
      obtain ⟨a7, c7, rfl, _, _⟩ := hr7.rd.form
      refine hK.out _ _ ⟨ec7, HK37.out⟩ (fun _ => ⟨fun z => z.cell? ⟨g, 16, none⟩ = some (.slice ab m.box.length cb) ∧ Below w3.heap.size w3 z, fun z h => h, ⟨ec7, HK37.out⟩, ?_⟩)
      clear hK K hS hr7 hk7 hg7 hL7 ec7
      simp only [Act.put, List.setIfInBounds_toArray, List.set_cons_zero, List.set_cons_succ]
      repeat ((first
        | (refine Run.takes (v := ?_) ?_ ?_; rotate_left; (· intro w' hS'; go_simp; (try with_reducible rfl)))
        | (refine Run.takesG (v := ?_) ?_ ?_ ?_; rotate_left; (· simp only [List.getElem?_cons_zero, List.getElem?_cons_succ]); (· intro w' hS'; go_simp; (try with_reducible rfl)))
        | (refine Run.skipsT ?_ ?_; (· simp only [List.getElem?_cons_zero, List.getElem?_cons_succ]))
        | (refine Run.skipsF ?_ ?_; (· simp only [List.getElem?_cons_zero, List.getElem?_cons_succ]))
        | (refine Run.skipsU ?_ ?_; (· simp only [List.getElem?_cons_zero, List.getElem?_cons_succ]))
        | (refine Run.passT ?_ ?_; (· simp only [List.getElem?_cons_zero, List.getElem?_cons_succ]))
        | (refine Run.passF ?_ ?_; (· simp only [List.getElem?_cons_zero, List.getElem?_cons_succ]))
        | (refine Run.passU ?_ ?_; (· simp only [List.getElem?_cons_zero, List.getElem?_cons_succ]))
        | fail); simp only [Act.put, List.setIfInBounds_toArray, List.set_cons_zero, List.set_cons_succ])
      refine Run.runs (Run.one (fun hS K hK => ?_))
      go_simp
      have hK38 : Below w3.heap.size w3 (w7.setCell ⟨g4, 16, none⟩ (.slice a7 L7.length c7)) := HK37.out.trans ((Only.set w7 16 _).below (by rw [HG4.out]; exact Nat.le_refl _) HK37.out.size)
      refine hK.out _ _ ⟨(HB3.out.keep hK38).cell 16, hK38⟩ ?_
      clear hK K hS hK38
      try simp only [Act.put, List.setIfInBounds_toArray, List.set_cons_zero, List.set_cons_succ]
      refine Run.ends (fun _ => ?_)
      have HBAD : Hid (Blk (w7.setCell ⟨g4, 16, none⟩ (.slice a7 L7.length c7)) g4 34 #[.int .i64 m.kind, .int .i64 m.hub, .int .u32 m.point, .int .i64 m.client, .int .i64 m.op, .int .u32 m.target, .int .i64 m.hops, .int .u32 m.owner, .int .i64 m.turn, .int .u32 m.ev, .int .u64 m.eid, .int .u64 m.ever, (.slice av m.vals.length cv), .bool m.gone, .int .u32 m.sf, .int .u32 m.st, (.slice a7 L7.length c7), (.slice ar m.recs.length cr)]) := Lib.hid ((HB4.out.below HK7.out HG4W.out).set_ 16 (.slice a7 L7.length c7))
      have hK8 : Below w3.heap.size w3 (w7.setCell ⟨g4, 16, none⟩ (.slice a7 L7.length c7)) := (nest HK4.out HK7.out).trans ((Only.set w7 16 _).below (by rw [HG4.out]; exact Nat.le_refl _) (nest HK4.out HK7.out).size)
      have hne : (Value.slice a7 L7.length c7).ownBlock ≠ some g4 := fun e => by have := (HR7.out.block g4 e).1; have := HG4W.out; omega
      have HRB : Hid (Rd rngE (w7.setCell ⟨g4, 16, none⟩ (.slice a7 L7.length c7)) (.slice a7 L7.length c7) L7) := Lib.hid (HR7.out.rd.only (Only.set w7 16 _) hne)
      have HK5' := Lib.hid hK8
      have HSS' : Hid (m.box ++ [(1, 0, 0)] = L7) := Lib.hid (by rw [HL7.out, HSS.out])
      clear hK8 hne fe ff
      generalize w7.setCell ⟨g4, 16, none⟩ (.slice a7 L7.length c7) = w5' at *
      have HBR : Hid (∀ z, Below w5'.heap.size w5' z → Calls Try.prog 15 #[.int .i64 1, .agg #[.int .i64 m.kind, .int .i64 m.hub, .int .u32 m.point, .int .i64 m.client, .int .i64 m.op, .int .u32 m.target, .int .i64 m.hops, .int .u32 m.owner, .int .i64 m.turn, .int .u32 m.ev, .int .u64 m.eid, .int .u64 m.ever, (.slice av m.vals.length cv), .bool m.gone, .int .u32 m.sf, .int .u32 m.st, (.slice a7 L7.length c7), (.slice ar m.recs.length cr)]] z fun e w' => e = .returned (.bool false) ∧ Below z.heap.size z w') := Lib.hid (fun z hz => by
        have := omright_any 1 { m with box := m.box ++ [(1, 0, 0)] } (.slice av m.vals.length cv) (.slice a7 L7.length c7) (.slice ar m.recs.length cr) z ⟨(HM3.out.keep (nest HK5'.out hz)).vals, by rw [HSS'.out]; exact HRB.out.keep hz, (HM3.out.keep (nest HK5'.out hz)).recs⟩ (bad7_b HBD.out)
        rw [bad7 HR.out] at this
        exact this)
      go_upto_if 99 with (first | (go_at_call 9; refine (mawake_any _).mono ?_; rintro e w6 ⟨rfl, hk6⟩) | (refine wp_load_row 34 (.tmp 2) rfl g rfl 34 _ (0, 0) _ (HB3.out.keep (nest HK5'.out hk6)) Try.underlying34 rfl msg_info ?_) | (go_at_call 15; refine (HOK.out _ (nest HK5'.out hk6)).mono ?_; rintro e w8 ⟨rfl, hk8⟩) | (refine wp_load_row 34 (.tmp 5) rfl g4 rfl 34 _ (0, 0) _ ((HBAD.out.keep hk6).keep hk8) Try.underlying34 rfl msg_info ?_) | (go_at_call 15; refine (HBR.out _ (nest hk6 hk8)).mono ?_; rintro e w9 ⟨rfl, hk9⟩))
      go_ret
      exact ⟨rfl, nest (nest (nest (nest HK3.out HK5'.out) hk6) hk8) hk9⟩
  · skip
    as_aux_lemma =>
      have ec : w4.cell? ⟨g, 17, none⟩ = some (.slice ar m.recs.length cr) := (HB3.out.keep HK4.out).cell 17
      obtain ⟨S, hn, hrd, hel⟩ := kd_raw one_record (by decide) HM3.out.recs
      have HSRC : Hid (Rd (rawE recordK.size) w4 (.slice ar m.recs.length cr) S) := Lib.hid (hrd.keep HK4.out)
      have HSL : Hid (S.length ≤ 300) := Lib.hid (by have := HFEW.out.1; omega)
      have HSN := Lib.hid hn
      have HEL := Lib.hid hel
      clear hn hrd hel
      have HG4W : Hid (g4 < w4.heap.size) := Lib.hid HB4.out.lt
      go_upto_region 5 with fail
      refine Run.region_seq (S := fun z => z.cell? ⟨g, 17, none⟩ = some (.slice ar m.recs.length cr) ∧ Below w3.heap.size w3 z)
        [0, 0, 1, 0, 1, 1, 0, 1] (l := ?_) ?_ ⟨ec, HK4.out⟩ ?_
      rotate_left
      (· simp only [Run.seqOf, List.toList_toArray, Run.stepsOf, Run.stepOf, Run.guardOf, List.getElem?_toArray, List.getElem?_cons_zero, List.getElem?_cons_succ, Option.map_some, Option.map_none, Option.bind_some, Option.toList_some, List.map_cons, List.map_nil, List.cons_append, List.nil_append]
         rfl)
      repeat ((first
        | (refine Run.takes (v := ?_) ?_ ?_; rotate_left; (· intro w' hS'; go_simp; (try with_reducible rfl)))
        | (refine Run.takesG (v := ?_) ?_ ?_ ?_; rotate_left; (· simp only [List.getElem?_cons_zero, List.getElem?_cons_succ]); (· intro w' hS'; go_simp; (try with_reducible rfl)))
        | (refine Run.skipsT ?_ ?_; (· simp only [List.getElem?_cons_zero, List.getElem?_cons_succ]))
        | (refine Run.skipsF ?_ ?_; (· simp only [List.getElem?_cons_zero, List.getElem?_cons_succ]))
        | (refine Run.skipsU ?_ ?_; (· simp only [List.getElem?_cons_zero, List.getElem?_cons_succ]))
        | (refine Run.passT ?_ ?_; (· simp only [List.getElem?_cons_zero, List.getElem?_cons_succ]))
        | (refine Run.passF ?_ ?_; (· simp only [List.getElem?_cons_zero, List.getElem?_cons_succ]))
        | (refine Run.passU ?_ ?_; (· simp only [List.getElem?_cons_zero, List.getElem?_cons_succ]))
        | fail); simp only [Act.put, List.setIfInBounds_toArray, List.set_cons_zero, List.set_cons_succ])
      refine Run.runsS (Run.one (fun hS K hK => ?_))
      refine wp_append (E := (rawE recordK.size)) (B := w4.heap.size) (l := []) (m := S) (bytes := 40) recElem (Nat.zero_lt_succ 2) (.const (.slice none 0 0)) (.tmp 20) rfl rfl Row.nil rfl HSRC.out (by have := HSL.out; simp [maxLen]; omega) (by have := HSL.out; simp; omega) (Nat.le_refl _) ?_
      intro v5 w5 hr5 hk5 hg5 _
      rw [List.nil_append] at hr5
      have HR5 := Lib.hid hr5
      have HK5 : Hid (Below w4.heap.size w4 w5) := Lib.hid hk5
      have HK35 : Hid (Below w3.heap.size w3 w5) := Lib.hid (nest HK4.out hk5)
      obtain ⟨a5, c5, rfl, _, _⟩ := hr5.rd.form
      have ec5 : w5.cell? ⟨g, 17, none⟩ = some (.slice ar m.recs.length cr) := (HB3.out.keep HK35.out).cell 17
      refine hK.out _ _ ⟨ec5, HK35.out⟩ (fun _ => ⟨fun z => z.cell? ⟨g, 17, none⟩ = some (.slice ar m.recs.length cr) ∧ Below w3.heap.size w3 z, fun z h => h, ⟨ec5, HK35.out⟩, ?_⟩)
      clear hK K hS hr5 hk5 hg5 ec
      simp only [Act.put, List.setIfInBounds_toArray, List.set_cons_zero, List.set_cons_succ]
      repeat ((first
        | (refine Run.takes (v := ?_) ?_ ?_; rotate_left; (· intro w' hS'; go_simp; (try with_reducible rfl)))
        | (refine Run.takesG (v := ?_) ?_ ?_ ?_; rotate_left; (· simp only [List.getElem?_cons_zero, List.getElem?_cons_succ]); (· intro w' hS'; go_simp; (try with_reducible rfl)))
        | (refine Run.skipsT ?_ ?_; (· simp only [List.getElem?_cons_zero, List.getElem?_cons_succ]))
        | (refine Run.skipsF ?_ ?_; (· simp only [List.getElem?_cons_zero, List.getElem?_cons_succ]))
        | (refine Run.skipsU ?_ ?_; (· simp only [List.getElem?_cons_zero, List.getElem?_cons_succ]))
        | (refine Run.passT ?_ ?_; (· simp only [List.getElem?_cons_zero, List.getElem?_cons_succ]))
        | (refine Run.passF ?_ ?_; (· simp only [List.getElem?_cons_zero, List.getElem?_cons_succ]))
        | (refine Run.passU ?_ ?_; (· simp only [List.getElem?_cons_zero, List.getElem?_cons_succ]))
        | fail); simp only [Act.put, List.setIfInBounds_toArray, List.set_cons_zero, List.set_cons_succ])
      refine Run.runsS (Run.one (fun hS K hK => ?_))
      go_simp
      have hX6 : Below w5.heap.size w5 (w5.alloc (.cells #[.int .u64 0, .int .u64 0, .slice none 0 0] 26)) := more (Below.refl _ _) _
      have HX6 := Lib.hid (Row.lit (E := (rawE recordK.size)) w5.heap.size w5 #[.int .u64 0, .int .u64 0, .slice none 0 0] [z0] 1 w5.heap.size rfl rfl rfl (Nat.le_refl _) (by simp [maxLen]) : Row (rawE recordK.size) 26 w5.heap.size (w5.alloc (.cells #[.int .u64 0, .int .u64 0, .slice none 0 0] 26)) (.slice (some ⟨w5.heap.size, 0, none⟩) 1 1) [z0])
      have HR6 := Lib.hid (HR5.out.keep hX6)
      have HK6 := Lib.hid (nest HK5.out hX6)
      have HK36 := Lib.hid (nest HK35.out hX6)
      have ec6 : (w5.alloc (.cells #[.int .u64 0, .int .u64 0, .slice none 0 0] 26)).cell? ⟨g, 17, none⟩ = some (.slice ar m.recs.length cr) := (HB3.out.keep HK36.out).cell 17
      refine hK.out _ _ ⟨ec6, HK36.out⟩ (fun _ => ⟨fun z => z.cell? ⟨g, 17, none⟩ = some (.slice ar m.recs.length cr) ∧ Below w3.heap.size w3 z, fun z h => h, ⟨ec6, HK36.out⟩, ?_⟩)
      clear hK K hS hX6 ec5 ec6
      generalize w5.alloc (.cells #[.int .u64 0, .int .u64 0, .slice none 0 0] 26) = w6 at *
      try simp only [Act.put, List.setIfInBounds_toArray, List.set_cons_zero, List.set_cons_succ]
      repeat ((first
        | (refine Run.takes (v := ?_) ?_ ?_; rotate_left; (· intro w' hS'; go_simp; (try with_reducible rfl)))
        | (refine Run.takesG (v := ?_) ?_ ?_ ?_; rotate_left; (· simp only [List.getElem?_cons_zero, List.getElem?_cons_succ]); (· intro w' hS'; go_simp; (try with_reducible rfl)))
        | (refine Run.skipsT ?_ ?_; (· simp only [List.getElem?_cons_zero, List.getElem?_cons_succ]))
        | (refine Run.skipsF ?_ ?_; (· simp only [List.getElem?_cons_zero, List.getElem?_cons_succ]))
        | (refine Run.skipsU ?_ ?_; (· simp only [List.getElem?_cons_zero, List.getElem?_cons_succ]))
        | (refine Run.passT ?_ ?_; (· simp only [List.getElem?_cons_zero, List.getElem?_cons_succ]))
        | (refine Run.passF ?_ ?_; (· simp only [List.getElem?_cons_zero, List.getElem?_cons_succ]))
        | (refine Run.passU ?_ ?_; (· simp only [List.getElem?_cons_zero, List.getElem?_cons_succ]))
        | fail); simp only [Act.put, List.setIfInBounds_toArray, List.set_cons_zero, List.set_cons_succ])
      refine Run.runsS (Run.one (fun hS K hK => ?_))
      refine wp_append (E := (rawE recordK.size)) (B := w4.heap.size) (l := S) (m := [z0]) (bytes := 40) recElem (Nat.zero_lt_succ 2) (.tmp 21) (.tmp 23) rfl rfl HR6.out rfl HX6.out.rd (by have := HSL.out; simp [maxLen]; omega) (by have := HSL.out; simp; omega) HK6.out.size ?_
      intro v7 w7 hr7 hk7 hg7 _
      obtain ⟨L7, hL7⟩ : ∃ L, L = S ++ [z0] := ⟨_, rfl⟩
      rw [← hL7] at hr7
      have HL7 := Lib.hid hL7
      have HR7 := Lib.hid hr7
      have HK7 : Hid (Below w4.heap.size w4 w7) := Lib.hid (HK6.out.trans hk7)
      have HK37 : Hid (Below w3.heap.size w3 w7) := Lib.hid (nest HK4.out HK7.out)
      have ec7 : w7.cell? ⟨g, 17, none⟩ = some (.slice ar m.recs.length cr) := (HB3.out.keep HK37.out).cell 17
      have fe := (HB4.out.below HK7.out HG4W.out).cell 17
      have ff := (HB4.out.below HK7.out HG4W.out).frozen 17
      obtain ⟨a7, c7, rfl, _, _⟩ := hr7.rd.form
      refine hK.out _ _ ⟨ec7, HK37.out⟩ (fun _ => ⟨fun z => z.cell? ⟨g, 17, none⟩ = some (.slice ar m.recs.length cr) ∧ Below w3.heap.size w3 z, fun z h => h, ⟨ec7, HK37.out⟩, ?_⟩)
      clear hK K hS hr7 hk7 hg7 hL7 ec7
      simp only [Act.put, List.setIfInBounds_toArray, List.set_cons_zero, List.set_cons_succ]
      repeat ((first
        | (refine Run.takes (v := ?_) ?_ ?_; rotate_left; (· intro w' hS'; go_simp; (try with_reducible rfl)))
        | (refine Run.takesG (v := ?_) ?_ ?_ ?_; rotate_left; (· simp only [List.getElem?_cons_zero, List.getElem?_cons_succ]); (· intro w' hS'; go_simp; (try with_reducible rfl)))
        | (refine Run.skipsT ?_ ?_; (· simp only [List.getElem?_cons_zero, List.getElem?_cons_succ]))
        | (refine Run.skipsF ?_ ?_; (· simp only [List.getElem?_cons_zero, List.getElem?_cons_succ]))
        | (refine Run.skipsU ?_ ?_; (· simp only [List.getElem?_cons_zero, List.getElem?_cons_succ]))
        | (refine Run.passT ?_ ?_; (· simp only [List.getElem?_cons_zero, List.getElem?_cons_succ]))
        | (refine Run.passF ?_ ?_; (· simp only [List.getElem?_cons_zero, List.getElem?_cons_succ]))
        | (refine Run.passU ?_ ?_; (· simp only [List.getElem?_cons_zero, List.getElem?_cons_succ]))
        | fail); simp only [Act.put, List.setIfInBounds_toArray, List.set_cons_zero, List.set_cons_succ])
      refine Run.runs (Run.one (fun hS K hK => ?_))
      go_simp
      have hK38 : Below w3.heap.size w3 (w7.setCell ⟨g4, 17, none⟩ (.slice a7 L7.length c7)) := HK37.out.trans ((Only.set w7 17 _).below (by rw [HG4.out]; exact Nat.le_refl _) HK37.out.size)
      refine hK.out _ _ ⟨(HB3.out.keep hK38).cell 17, hK38⟩ ?_
      clear hK K hS hK38
      try simp only [Act.put, List.setIfInBounds_toArray, List.set_cons_zero, List.set_cons_succ]
      refine Run.ends (fun _ => ?_)
      have HBAD : Hid (Blk (w7.setCell ⟨g4, 17, none⟩ (.slice a7 L7.length c7)) g4 34 #[.int .i64 m.kind, .int .i64 m.hub, .int .u32 m.point, .int .i64 m.client, .int .i64 m.op, .int .u32 m.target, .int .i64 m.hops, .int .u32 m.owner, .int .i64 m.turn, .int .u32 m.ev, .int .u64 m.eid, .int .u64 m.ever, (.slice av m.vals.length cv), .bool m.gone, .int .u32 m.sf, .int .u32 m.st, (.slice ab m.box.length cb), (.slice a7 L7.length c7)]) := Lib.hid ((HB4.out.below HK7.out HG4W.out).set_ 17 (.slice a7 L7.length c7))
      have hK8 : Below w3.heap.size w3 (w7.setCell ⟨g4, 17, none⟩ (.slice a7 L7.length c7)) := (nest HK4.out HK7.out).trans ((Only.set w7 17 _).below (by rw [HG4.out]; exact Nat.le_refl _) (nest HK4.out HK7.out).size)
      have hne : (Value.slice a7 L7.length c7).ownBlock ≠ some g4 := fun e => by have := (HR7.out.block g4 e).1; have := HG4W.out; omega
      have HRB : Hid (Rd (rawE recordK.size) (w7.setCell ⟨g4, 17, none⟩ (.slice a7 L7.length c7)) (.slice a7 L7.length c7) L7) := Lib.hid (HR7.out.rd.only (Only.set w7 17 _) hne)
      have HK5' := Lib.hid hK8
      have HKD : Hid (recsK.rd (w7.setCell ⟨g4, 17, none⟩ (.slice a7 L7.length c7)) [.slice a7 L7.length c7] (m.recs ++ [(0, 0, [])])) := Lib.hid (by
        refine raw_kd (hs := L7) (by rw [HL7.out]; simp [HSN.out]) HRB.out (fun i x y hx hy => ?_)
        rw [HL7.out] at hx
        by_cases hi : i < m.recs.length
        · rw [List.getElem?_append_left (by rw [HSN.out]; exact hi)] at hx
          rw [List.getElem?_append_left hi] at hy
          refine recordK.keep (HEL.out i x y hx hy) ?_
          exact HK5'.out
        · rw [List.getElem?_append_right (by rw [HSN.out]; omega), HSN.out] at hx
          rw [List.getElem?_append_right (by omega)] at hy
          by_cases hi2 : i - m.recs.length = 0
          · rw [hi2] at hx hy
            simp only [List.getElem?_cons_zero, Option.some.injEq] at hx hy
            subst hx hy
            exact z0_rd _
          · rw [List.getElem?_eq_none (by simp; omega)] at hx
            cases hx)
      clear hK8 hne fe ff
      generalize w7.setCell ⟨g4, 17, none⟩ (.slice a7 L7.length c7) = w5' at *
      have HBR : Hid (∀ z, Below w5'.heap.size w5' z → Calls Try.prog 15 #[.int .i64 1, .agg #[.int .i64 m.kind, .int .i64 m.hub, .int .u32 m.point, .int .i64 m.client, .int .i64 m.op, .int .u32 m.target, .int .i64 m.hops, .int .u32 m.owner, .int .i64 m.turn, .int .u32 m.ev, .int .u64 m.eid, .int .u64 m.ever, (.slice av m.vals.length cv), .bool m.gone, .int .u32 m.sf, .int .u32 m.st, (.slice ab m.box.length cb), (.slice a7 L7.length c7)]] z fun e w' => e = .returned (.bool false) ∧ Below z.heap.size z w') := Lib.hid (fun z hz => by
        have := omright_any 1 { m with recs := m.recs ++ [(0, 0, [])] } (.slice av m.vals.length cv) (.slice ab m.box.length cb) (.slice a7 L7.length c7) z ⟨(HM3.out.keep (nest HK5'.out hz)).vals, (HM3.out.keep (nest HK5'.out hz)).box, recsK.keep HKD.out hz⟩ (bad8_b HBD.out)
        rw [bad8 HR.out] at this
        exact this)
      go_upto_if 99 with (first | (go_at_call 9; refine (mawake_any _).mono ?_; rintro e w6 ⟨rfl, hk6⟩) | (refine wp_load_row 34 (.tmp 2) rfl g rfl 34 _ (0, 0) _ (HB3.out.keep (nest HK5'.out hk6)) Try.underlying34 rfl msg_info ?_) | (go_at_call 15; refine (HOK.out _ (nest HK5'.out hk6)).mono ?_; rintro e w8 ⟨rfl, hk8⟩) | (refine wp_load_row 34 (.tmp 5) rfl g4 rfl 34 _ (0, 0) _ ((HBAD.out.keep hk6).keep hk8) Try.underlying34 rfl msg_info ?_) | (go_at_call 15; refine (HBR.out _ (nest hk6 hk8)).mono ?_; rintro e w9 ⟨rfl, hk9⟩))
      go_ret
      exact ⟨rfl, nest (nest (nest (nest HK3.out HK5'.out) hk6) hk8) hk9⟩
end Go.Proofs.Ytkenldpmogogaaa.messageNeeds
