/- Walks of the message laws' awake and few. -/
import Derived.Test.YtkenldpmogogaaaMsgOwn
import Derived.Test.YtkenldpmogogaaaMsgPlans
set_option maxRecDepth 4000
namespace Go.Proofs.Ytkenldpmogogaaa
open Go.RowKit Mem
set_option linter.unusedSimpArgs false
set_option linter.unusedVariables false
attribute [local irreducible] Go.Calls

theorem recs_nil (w : World) : recsK.rd w [.slice none 0 0] [] := ⟨none, 0, rfl, Nat.le_refl _, Nat.zero_le _, fun h => absurd h (by simp)⟩
def mA : Msg := ⟨5, 0, 0, 0, 1, 0, 0, 0, 0, 0, 0, 0, [], false, 0, 0, [(1, 0, 0)], []⟩
theorem mA_right : rightM 1 mA = true := by kernel_rfl
theorem mA_b : MB mA := by
  constructor <;> simp [mA, i64B, u32B, u64B, RB, recB]
theorem mA_gt : 15 < (packM mA).length := by
  have h1 : tailM mA = be 1 mA.hops ++ (be 4 mA.sf ++ (be 4 mA.st ++ packV mA.box)) := by
    unfold tailM
    rw [if_neg (by decide), if_neg (by decide), if_neg (by decide), if_pos (by decide)]
  unfold packM headM
  rw [h1]
  simp only [List.length_append, be_len, packV_len]
  omega
theorem mA_pack (v b r : Value) (w : World) (h : MRd w mA v b r) : Calls Try.prog 11 #[.int .i64 1, .agg (mcs mA v b r).toArray] w fun e w' => ∃ a c n, e = .returned (.tuple #[.slice a n c, .int .i64 0]) ∧ 15 < n ∧ Below w.heap.size w w' := by
  refine (ompack_any 1 mA v b r w h mA_b).mono ?_
  rintro e w' (⟨hf, _⟩ | ⟨_, ⟨x, rfl, hx⟩, hk⟩)
  · rw [mA_right] at hf
    cases hf
  · obtain ⟨a, c, rfl, _, _⟩ := hx.form
    exact ⟨a, c, _, rfl, mA_gt, hk⟩
theorem mA_ok (v b r : Value) (w : World) (h : MRd w mA v b r) : Calls Try.prog 15 #[.int .i64 1, .agg (mcs mA v b r).toArray] w fun e w' => e = .returned (.bool true) ∧ Below w.heap.size w w' := by
  have := omright_any 1 mA v b r w h mA_b
  rwa [mA_right] at this
set_option maxRecDepth 100000 in
set_option maxHeartbeats 2000000 in
theorem mawake_any (w : World) : Calls Try.prog 9 #[] w fun e w' => e = .returned (.bool true) ∧ Below w.heap.size w w' := by
  have hrow : Row rngE 52 w.heap.size (w.alloc (.cells #[.int .i64 1, .int .u32 0, .int .u32 0] 52)) (.slice (some ⟨w.heap.size, 0, none⟩) 1 1) [(1, 0, 0)] :=
    Row.lit (E := rngE) _ _ _ _ 1 _ (by simp [Enc.flat, tripE]) rfl rfl (Nat.le_refl _) (by simp [maxLen])
  have hX : Below (w.alloc (.cells #[.int .i64 1, .int .u32 0, .int .u32 0] 52)).heap.size (w.alloc (.cells #[.int .i64 1, .int .u32 0, .int .u32 0] 52)) ((w.alloc (.cells #[.int .i64 1, .int .u32 0, .int .u32 0] 52)).alloc (.cells #[.int .i64 5, .int .i64 0, .int .u32 0, .int .i64 0, .int .i64 1, .int .u32 0, .int .i64 0, .int .u32 0, .int .i64 0, .int .u32 0, .int .u64 0, .int .u64 0, .slice none 0 0, .bool false, .int .u32 0, .int .u32 0, .slice (some ⟨w.heap.size, 0, none⟩) 1 1, .slice none 0 0] 34)) := more (Below.refl _ _) _
  have HM : Hid (MRd ((w.alloc (.cells #[.int .i64 1, .int .u32 0, .int .u32 0] 52)).alloc (.cells #[.int .i64 5, .int .i64 0, .int .u32 0, .int .i64 0, .int .i64 1, .int .u32 0, .int .i64 0, .int .u32 0, .int .i64 0, .int .u32 0, .int .u64 0, .int .u64 0, .slice none 0 0, .bool false, .int .u32 0, .int .u32 0, .slice (some ⟨w.heap.size, 0, none⟩) 1 1, .slice none 0 0] 34)) mA (.slice none 0 0) (.slice (some ⟨w.heap.size, 0, none⟩) 1 1) (.slice none 0 0)) :=
    Lib.hid ⟨Rd.nil _ _ (by unfold maxLen; omega), (hrow.rd).keep hX, recs_nil _⟩
  have HB := Lib.hid (Blk.new (w.alloc (.cells #[.int .i64 1, .int .u32 0, .int .u32 0] 52)) 34 #[.int .i64 5, .int .i64 0, .int .u32 0, .int .i64 0, .int .i64 1, .int .u32 0, .int .i64 0, .int .u32 0, .int .i64 0, .int .u32 0, .int .u64 0, .int .u64 0, .slice none 0 0, .bool false, .int .u32 0, .int .u32 0, .slice (some ⟨w.heap.size, 0, none⟩) 1 1, .slice none 0 0])
  have HK := Lib.hid (nest (more (Below.refl _ _) (.cells #[.int .i64 1, .int .u32 0, .int .u32 0] 52)) hX)
  clear hrow hX
  go_enter Try.func9, Try.ntmps9
  go_upto_region 2 with fail
  generalize (w.alloc (.cells #[.int .i64 1, .int .u32 0, .int .u32 0] 52)).alloc (.cells #[.int .i64 5, .int .i64 0, .int .u32 0, .int .i64 0, .int .i64 1, .int .u32 0, .int .i64 0, .int .u32 0, .int .i64 0, .int .u32 0, .int .u64 0, .int .u64 0, .slice none 0 0, .bool false, .int .u32 0, .int .u32 0, .slice (some ⟨w.heap.size, 0, none⟩) 1 1, .slice none 0 0] 34) = w2 at *
  have hb0 : (w.alloc (.cells #[.int .i64 1, .int .u32 0, .int .u32 0] 52)).heap.size = w.heap.size + 1 := by simp
  rw [hb0] at HB
  clear hb0
  obtain ⟨g, hg⟩ : ∃ g, g = w.heap.size := ⟨_, rfl⟩
  rw [← hg] at HM HB ⊢
  clear hg
  have HC := Lib.hid (mA_pack _ _ _ w2 HM.out)
  go_wp2_with (first | (refine wpList_load_row rfl 34 (.tmp 1) rfl (g + 1) rfl 34 _ (0, 0) _ HB.out Try.underlying34 rfl msg_info ?_) | (go_at_call 11; refine HC.out.mono ?_; rintro e w3 ⟨ax, cx, n, rfl, hn, hk3⟩))
  as_aux_lemma =>
    refine (omtake_nil w3).mono ?_
    rintro e w4 ⟨⟨v4, b4, r4, rfl, hm4⟩, hk4⟩
    obtain ⟨av4, cv4, rfl, _, _⟩ := hm4.vals.form
    obtain ⟨ab4, cb4, rfl, _, _⟩ := hm4.box.form
    obtain ⟨ar4, cr4, hr4, _, _, _⟩ := hm4.recs
    injection hr4 with hr4
    subst hr4
    clear hm4
    have e : (mcs zeroM (.slice av4 zeroM.vals.length cv4) (.slice ab4 zeroM.box.length cb4) (.slice ar4 zeroM.recs.length cr4)).toArray = #[.int .i64 0, .int .i64 0, .int .u32 0, .int .i64 0, .int .i64 0, .int .u32 0, .int .i64 0, .int .u32 0, .int .i64 0, .int .u32 0, .int .u64 0, .int .u64 0, (.slice av4 0 cv4), .bool false, .int .u32 0, .int .u32 0, (.slice ab4 0 cb4), (.slice ar4 0 cr4)] := rfl
    rw [e]
    clear e
    have hX : Below w2.heap.size w2 (w4.alloc (.cells #[.int .i64 0, .int .i64 0, .int .u32 0, .int .i64 0, .int .i64 0, .int .u32 0, .int .i64 0, .int .u32 0, .int .i64 0, .int .u32 0, .int .u64 0, .int .u64 0, (.slice av4 0 cv4), .bool false, .int .u32 0, .int .u32 0, (.slice ab4 0 cb4), (.slice ar4 0 cr4)] 34)) := nest (nest hk3 hk4) (more (Below.refl _ _) _)
    have HB4 := Lib.hid (HB.out.keep hX)
    have HM4 := Lib.hid (HM.out.keep hX)
    have HK4 := Lib.hid (nest HK.out hX)
    have hd : decide ((n : Int) > 15) = true := decide_eq_true (by omega)
    clear HB HM HK HC hk3 hk4 hX
    have HC := Lib.hid (mA_ok _ _ _ _ HM4.out)
    as_aux_lemma =>
      go_upto_region 4 with fail
      generalize w4.alloc (.cells #[.int .i64 0, .int .i64 0, .int .u32 0, .int .i64 0, .int .i64 0, .int .u32 0, .int .i64 0, .int .u32 0, .int .i64 0, .int .u32 0, .int .u64 0, .int .u64 0, (.slice av4 0 cv4), .bool false, .int .u32 0, .int .u32 0, (.slice ab4 0 cb4), (.slice ar4 0 cr4)] 34) = w5 at *
      go_wp2_with (first | (refine wpList_load_row rfl 34 (.tmp 1) rfl (g + 1) rfl 34 _ (0, 0) _ HB4.out Try.underlying34 rfl msg_info ?_) | (go_at_call 15; refine HC.out.mono ?_; rintro e w6 ⟨rfl, hk6⟩))
      go_ret
      exact ⟨rfl, nest HK4.out hk6⟩
end Go.Proofs.Ytkenldpmogogaaa
/- Walk of the message laws' few; how long the bytes of a message are. -/
namespace Go.Proofs.Ytkenldpmogogaaa
open Go.RowKit Mem
set_option linter.unusedSimpArgs false
set_option linter.unusedVariables false
attribute [local irreducible] Go.Calls

/-- not too much -/
def fewM (m : Msg) : Bool := m.recs.all (fun (x : Int × Int × List Int) => decide (x.2.2.length ≤ 20)) && decide (m.recs.length ≤ 40 ∧ m.box.length ≤ 300 ∧ m.vals.length ≤ 20)
set_option maxRecDepth 100000 in
set_option maxHeartbeats 2000000 in
theorem few_any (m : Msg) (v b r : Value) (w : World) (h : MRd w m v b r) : Calls Try.prog 8 #[.agg (mcs m v b r).toArray] w fun e w' => e = .returned (.bool (fewM m)) ∧ Below w.heap.size w w' := by
  obtain ⟨av, cv, hv0, hv1, hv2⟩ := h.vals.form
  obtain ⟨ab, cb, hb0, hb1, hb2⟩ := h.box.form
  have hk0 : Below w.heap.size w (w.alloc (.cells (mcs m v b r).toArray 34)) := more (Below.refl _ _) _
  have HBK := Lib.hid (Blk.new w 34 (mcs m v b r).toArray)
  have HK := Lib.hid hk0
  obtain ⟨ar', gr', or'', cr', hrv, hc1, hc2, ha, hcell⟩ := kd_loop (recsK.keep h.recs hk0)
  have HBC := Lib.hid hcell
  have HBA := Lib.hid ha
  have hcb : cr' ≤ 9223372036854775807 := hc2
  have HV := Lib.hid hv0
  have HBX := Lib.hid hb0
  have HRV := Lib.hid hrv
  clear hk0 h hcell ha hc2 hrv hv0 hb0
  go_enter Try.func8, Try.ntmps8
  go_upto_region 1 with fail
  generalize w.alloc (.cells (mcs m v b r).toArray 34) = w1 at *
  obtain ⟨g, hg⟩ : ∃ g, g = w.heap.size := ⟨_, rfl⟩
  rw [← hg] at HBK ⊢
  clear hg
  have c17 : w1.cell? ⟨g, 17, none⟩ = some (.slice ar' m.recs.length cr') := by rw [← HRV.out]; exact HBK.out.cell 17
  have c16 : w1.cell? ⟨g, 16, none⟩ = some (.slice ab m.box.length cb) := by rw [← HBX.out]; exact HBK.out.cell 16
  have c12 : w1.cell? ⟨g, 12, none⟩ = some (.slice av m.vals.length cv) := by rw [← HV.out]; exact HBK.out.cell 12
  have HY : Hid ((∀ i, i < m.recs.length → decide ((m.recs.getD i (0, 0, [])).2.2.length ≤ 20) = true) → m.recs.all (fun (x : Int × Int × List Int) => decide (x.2.2.length ≤ 20)) = true) := Lib.hid (fun h => all_yes (f := fun (x : Int × Int × List Int) => decide (x.2.2.length ≤ 20)) h)
  have HN : Hid (∀ k, k < m.recs.length → decide ((m.recs.getD k (0, 0, [])).2.2.length ≤ 20) = false → m.recs.all (fun (x : Int × Int × List Int) => decide (x.2.2.length ≤ 20)) = false) := Lib.hid (fun k hk h => all_no (f := fun (x : Int × Int × List Int) => decide (x.2.2.length ≤ 20)) hk h)
  have HF : Hid (fewM m = (m.recs.all (fun (x : Int × Int × List Int) => decide (x.2.2.length ≤ 20)) && decide (m.recs.length ≤ 40 ∧ m.box.length ≤ 300 ∧ m.vals.length ≤ 20))) := Lib.hid rfl
  generalize m.recs.all (fun (x : Int × Int × List Int) => decide (x.2.2.length ≤ 20)) = res at *
  go_wp2_with fail
  go_loopw [3] (fun i wr => ∃ k : Nat, k ≤ m.recs.length ∧ i = .int .i64 k ∧ (∀ i, i < k → decide ((m.recs.getD i (0, 0, [])).2.2.length ≤ 20) = true) ∧ wr = w1) (fun i _ => m.recs.length - (intOf i).toNat)
  case atStart => exact ⟨0, Nat.zero_le _, rfl, fun i hi => absurd hi (Nat.not_lt_zero _), rfl⟩
  case round =>
    obtain ⟨k, hk, rfl, hu, rfl⟩ := hrel
    have HU := Lib.hid hu
    clear hu
    by_cases hlt : k < m.recs.length
    · have hbk := HBA.out (by omega)
      subst hbk
      have HX : Hid (decide ((m.recs.getD k (0, 0, [])).2.2.length ≤ 20) = true → ∀ i, i < k + 1 → decide ((m.recs.getD i (0, 0, [])).2.2.length ≤ 20) = true) := Lib.hid (fun h => next_all HU.out h)
      have HNk := Lib.hid (HN.out k hlt)
      have hy : m.recs[k]? = some (m.recs.getD k (0, 0, [])) := by simp [List.getD, List.getElem?_eq_getElem hlt]
      obtain ⟨es, he, hre⟩ := HBC.out k _ hy
      clear hy
      generalize m.recs.getD k (0, 0, []) = q at *
      obtain ⟨x, y, u⟩ := q
      obtain ⟨vq, rfl, _, _, hrd, _⟩ := record_cells hre
      obtain ⟨aq, cq, rfl, _, _⟩ := hrd.form
      have e3 := he 2 (by decide)
      have hs3 : recordK.size = 3 := rfl
      rw [hs3] at e3
      simp only [List.getElem?_cons_zero, List.getElem?_cons_succ, Nat.add_zero] at e3
      rw [← Nat.add_assoc] at e3
      clear he hre hrd
      by_cases hu : u.length ≤ 20
      · have HQ := Lib.hid (HX.out (decide_eq_true hu))
        go_wp2_with fail
        exact ⟨⟨k + 1, by omega, by go_num, HQ.out, by trivial⟩, by simp [intOf]; omega⟩
      · have HQ := Lib.hid (HNk.out (decide_eq_false hu))
        go_wp2_with fail
        go_ret
        exact ⟨by rw [HF.out, HQ.out]; rfl, HK.out⟩
    · have hkn : k = m.recs.length := by omega
      subst hkn
      have HQ := Lib.hid (HY.out HU.out)
      go_wp2_with fail
      all_goals
        go_ret
        exact ⟨by rw [HF.out, HQ.out, Bool.true_and]; exact congrArg (fun q => Ending.returned (Value.bool q)) (by rw [Bool.eq_iff_iff]; simp only [decide_eq_true_eq, beq_iff_eq, Bool.false_eq_true, true_iff, false_iff]; omega), HK.out⟩
end Go.Proofs.Ytkenldpmogogaaa
