/- Walks of the message laws' awake and few. -/
import Derived.Test.YthhelhhlofdehaaMsgOwn
import Derived.Test.YthhelhhlofdehaaMsgPlans
import Derived.Test.YthhelhhlofdehaaMsg
import Derived.Test.YthhelhhlofdehaaMem
set_option maxRecDepth 4000
namespace Go.Proofs.Ythhelhhlofdehaa
open Go.RowKit Mem
set_option linter.unusedSimpArgs false
set_option linter.unusedVariables false
attribute [local irreducible] Go.Calls

theorem recs_nil (w : World) : recsK.rd w [.slice none 0 0] [] := ⟨none, 0, rfl, Nat.le_refl _, Nat.zero_le _, fun h => absurd h (by simp)⟩
def mA : Msg := ⟨5, 0, 0, 0, 1, 0, 0, 0, 0, 0, 0, 0, [], false, 0, 0, [(1, 0, 0)], []⟩
theorem mA_right : rightM 1 mA = true := by kernel_rfl
theorem mA_b : MB mA := by
  constructor <;> simp [mA, i64B, u32B, u64B, RB, recB]
theorem mA_gt : 15 < (packM mA).length := by
  have h1 : tailM mA = be 1 mA.hops ++ (be 4 mA.sf ++ (be 4 mA.st ++ packV mA.box)) := by
    unfold tailM
    rw [if_neg (by decide), if_neg (by decide), if_neg (by decide), if_pos (by decide)]
  unfold packM headM
  rw [h1]
  simp only [List.length_append, be_len, packV_len]
  omega
theorem mA_pack (v b r : Value) (w : World) (h : MRd w mA v b r) : Calls Try.prog 12 #[.int .i64 1, .agg (mcs mA v b r).toArray] w fun e w' => ∃ a c n, e = .returned (.tuple #[.slice a n c, .int .i64 0]) ∧ 15 < n ∧ Below w.heap.size w w' := by
  refine (ompack_any 1 mA v b r w h mA_b).mono ?_
  rintro e w' (⟨hf, _⟩ | ⟨_, ⟨x, rfl, hx⟩, hk⟩)
  · rw [mA_right] at hf
    cases hf
  · obtain ⟨a, c, rfl, _, _⟩ := hx.form
    exact ⟨a, c, _, rfl, mA_gt, hk⟩
theorem mA_ok (v b r : Value) (w : World) (h : MRd w mA v b r) : Calls Try.prog 16 #[.int .i64 1, .agg (mcs mA v b r).toArray] w fun e w' => e = .returned (.bool true) ∧ Below w.heap.size w w' := by
  have := omright_any 1 mA v b r w h mA_b
  rwa [mA_right] at this
set_option maxRecDepth 100000 in
set_option maxHeartbeats 2000000 in
theorem mawake_any (w : World) : Calls Try.prog 10 #[] w fun e w' => e = .returned (.bool true) ∧ Below w.heap.size w w' := by
  have hrow : Row rngE 65 w.heap.size (w.alloc (.cells #[.int .i64 1, .int .u32 0, .int .u32 0] 65)) (.slice (some ⟨w.heap.size, 0, none⟩) 1 1) [(1, 0, 0)] :=
    Row.lit (E := rngE) _ _ _ _ 1 _ (by simp [Enc.flat, tripE]) rfl rfl (Nat.le_refl _) (by simp [maxLen])
  have hX : Below (w.alloc (.cells #[.int .i64 1, .int .u32 0, .int .u32 0] 65)).heap.size (w.alloc (.cells #[.int .i64 1, .int .u32 0, .int .u32 0] 65)) ((w.alloc (.cells #[.int .i64 1, .int .u32 0, .int .u32 0] 65)).alloc (.cells #[.int .i64 5, .int .i64 0, .int .u32 0, .int .i64 0, .int .i64 1, .int .u32 0, .int .i64 0, .int .u32 0, .int .i64 0, .int .u32 0, .int .u64 0, .int .u64 0, .slice none 0 0, .bool false, .int .u32 0, .int .u32 0, .slice (some ⟨w.heap.size, 0, none⟩) 1 1, .slice none 0 0] 34)) := more (Below.refl _ _) _
  have HM : Hid (MRd ((w.alloc (.cells #[.int .i64 1, .int .u32 0, .int .u32 0] 65)).alloc (.cells #[.int .i64 5, .int .i64 0, .int .u32 0, .int .i64 0, .int .i64 1, .int .u32 0, .int .i64 0, .int .u32 0, .int .i64 0, .int .u32 0, .int .u64 0, .int .u64 0, .slice none 0 0, .bool false, .int .u32 0, .int .u32 0, .slice (some ⟨w.heap.size, 0, none⟩) 1 1, .slice none 0 0] 34)) mA (.slice none 0 0) (.slice (some ⟨w.heap.size, 0, none⟩) 1 1) (.slice none 0 0)) :=
    Lib.hid ⟨Rd.nil _ _ (by unfold maxLen; omega), (hrow.rd).keep hX, recs_nil _⟩
  have HB := Lib.hid (Blk.new (w.alloc (.cells #[.int .i64 1, .int .u32 0, .int .u32 0] 65)) 34 #[.int .i64 5, .int .i64 0, .int .u32 0, .int .i64 0, .int .i64 1, .int .u32 0, .int .i64 0, .int .u32 0, .int .i64 0, .int .u32 0, .int .u64 0, .int .u64 0, .slice none 0 0, .bool false, .int .u32 0, .int .u32 0, .slice (some ⟨w.heap.size, 0, none⟩) 1 1, .slice none 0 0])
  have HK := Lib.hid (nest (more (Below.refl _ _) (.cells #[.int .i64 1, .int .u32 0, .int .u32 0] 65)) hX)
  clear hrow hX
  go_enter Try.func10, Try.ntmps10
  go_upto_region 2 with fail
  generalize (w.alloc (.cells #[.int .i64 1, .int .u32 0, .int .u32 0] 65)).alloc (.cells #[.int .i64 5, .int .i64 0, .int .u32 0, .int .i64 0, .int .i64 1, .int .u32 0, .int .i64 0, .int .u32 0, .int .i64 0, .int .u32 0, .int .u64 0, .int .u64 0, .slice none 0 0, .bool false, .int .u32 0, .int .u32 0, .slice (some ⟨w.heap.size, 0, none⟩) 1 1, .slice none 0 0] 34) = w2 at *
  have hb0 : (w.alloc (.cells #[.int .i64 1, .int .u32 0, .int .u32 0] 65)).heap.size = w.heap.size + 1 := by simp
  rw [hb0] at HB
  clear hb0
  obtain ⟨g, hg⟩ : ∃ g, g = w.heap.size := ⟨_, rfl⟩
  rw [← hg] at HM HB ⊢
  clear hg
  have HC := Lib.hid (mA_pack _ _ _ w2 HM.out)
  go_wp2_with (first | (refine wpList_load_row rfl 34 (.tmp 1) rfl (g + 1) rfl 34 _ (0, 0) _ HB.out Try.underlying34 rfl msg_info ?_) | (go_at_call 12; refine HC.out.mono ?_; rintro e w3 ⟨ax, cx, n, rfl, hn, hk3⟩))
  as_aux_lemma =>
    refine (omtake_nil w3).mono ?_
    rintro e w4 ⟨⟨v4, b4, r4, rfl, hm4⟩, hk4⟩
    obtain ⟨av4, cv4, rfl, _, _⟩ := hm4.vals.form
    obtain ⟨ab4, cb4, rfl, _, _⟩ := hm4.box.form
    obtain ⟨ar4, cr4, hr4, _, _, _⟩ := hm4.recs
    injection hr4 with hr4
    subst hr4
    clear hm4
    have e : (mcs zeroM (.slice av4 zeroM.vals.length cv4) (.slice ab4 zeroM.box.length cb4) (.slice ar4 zeroM.recs.length cr4)).toArray = #[.int .i64 0, .int .i64 0, .int .u32 0, .int .i64 0, .int .i64 0, .int .u32 0, .int .i64 0, .int .u32 0, .int .i64 0, .int .u32 0, .int .u64 0, .int .u64 0, (.slice av4 0 cv4), .bool false, .int .u32 0, .int .u32 0, (.slice ab4 0 cb4), (.slice ar4 0 cr4)] := rfl
    rw [e]
    clear e
    have hX : Below w2.heap.size w2 (w4.alloc (.cells #[.int .i64 0, .int .i64 0, .int .u32 0, .int .i64 0, .int .i64 0, .int .u32 0, .int .i64 0, .int .u32 0, .int .i64 0, .int .u32 0, .int .u64 0, .int .u64 0, (.slice av4 0 cv4), .bool false, .int .u32 0, .int .u32 0, (.slice ab4 0 cb4), (.slice ar4 0 cr4)] 34)) := nest (nest hk3 hk4) (more (Below.refl _ _) _)
    have HB4 := Lib.hid (HB.out.keep hX)
    have HM4 := Lib.hid (HM.out.keep hX)
    have HK4 := Lib.hid (nest HK.out hX)
    have hd : decide ((n : Int) > 15) = true := decide_eq_true (by omega)
    clear HB HM HK HC hk3 hk4 hX
    have HC := Lib.hid (mA_ok _ _ _ _ HM4.out)
    as_aux_lemma =>
      go_upto_region 4 with fail
      generalize w4.alloc (.cells #[.int .i64 0, .int .i64 0, .int .u32 0, .int .i64 0, .int .i64 0, .int .u32 0, .int .i64 0, .int .u32 0, .int .i64 0, .int .u32 0, .int .u64 0, .int .u64 0, (.slice av4 0 cv4), .bool false, .int .u32 0, .int .u32 0, (.slice ab4 0 cb4), (.slice ar4 0 cr4)] 34) = w5 at *
      go_wp2_with (first | (refine wpList_load_row rfl 34 (.tmp 1) rfl (g + 1) rfl 34 _ (0, 0) _ HB4.out Try.underlying34 rfl msg_info ?_) | (go_at_call 16; refine HC.out.mono ?_; rintro e w6 ⟨rfl, hk6⟩))
      go_ret
      exact ⟨rfl, nest HK4.out hk6⟩
end Go.Proofs.Ythhelhhlofdehaa
/- Walk of the message laws' few; how long the bytes of a message are. -/
namespace Go.Proofs.Ythhelhhlofdehaa
open Go.RowKit Mem
set_option linter.unusedSimpArgs false
set_option linter.unusedVariables false
attribute [local irreducible] Go.Calls

/-- not too much -/
def fewM (m : Msg) : Bool := m.recs.all (fun (x : Int × Int × List Int) => decide (x.2.2.length ≤ 20)) && decide (m.recs.length ≤ 40 ∧ m.box.length ≤ 300 ∧ m.vals.length ≤ 20)
set_option maxRecDepth 100000 in
set_option maxHeartbeats 2000000 in
theorem few_any (m : Msg) (v b r : Value) (w : World) (h : MRd w m v b r) : Calls Try.prog 9 #[.agg (mcs m v b r).toArray] w fun e w' => e = .returned (.bool (fewM m)) ∧ Below w.heap.size w w' := by
  obtain ⟨av, cv, hv0, hv1, hv2⟩ := h.vals.form
  obtain ⟨ab, cb, hb0, hb1, hb2⟩ := h.box.form
  have hk0 : Below w.heap.size w (w.alloc (.cells (mcs m v b r).toArray 34)) := more (Below.refl _ _) _
  have HBK := Lib.hid (Blk.new w 34 (mcs m v b r).toArray)
  have HK := Lib.hid hk0
  obtain ⟨ar', gr', or'', cr', hrv, hc1, hc2, ha, hcell⟩ := kd_loop (recsK.keep h.recs hk0)
  have HBC := Lib.hid hcell
  have HBA := Lib.hid ha
  have hcb : cr' ≤ 9223372036854775807 := hc2
  have HV := Lib.hid hv0
  have HBX := Lib.hid hb0
  have HRV := Lib.hid hrv
  clear hk0 h hcell ha hc2 hrv hv0 hb0
  go_enter Try.func9, Try.ntmps9
  go_upto_region 1 with fail
  generalize w.alloc (.cells (mcs m v b r).toArray 34) = w1 at *
  obtain ⟨g, hg⟩ : ∃ g, g = w.heap.size := ⟨_, rfl⟩
  rw [← hg] at HBK ⊢
  clear hg
  have c17 : w1.cell? ⟨g, 17, none⟩ = some (.slice ar' m.recs.length cr') := by rw [← HRV.out]; exact HBK.out.cell 17
  have c16 : w1.cell? ⟨g, 16, none⟩ = some (.slice ab m.box.length cb) := by rw [← HBX.out]; exact HBK.out.cell 16
  have c12 : w1.cell? ⟨g, 12, none⟩ = some (.slice av m.vals.length cv) := by rw [← HV.out]; exact HBK.out.cell 12
  have HY : Hid ((∀ i, i < m.recs.length → decide ((m.recs.getD i (0, 0, [])).2.2.length ≤ 20) = true) → m.recs.all (fun (x : Int × Int × List Int) => decide (x.2.2.length ≤ 20)) = true) := Lib.hid (fun h => all_yes (f := fun (x : Int × Int × List Int) => decide (x.2.2.length ≤ 20)) h)
  have HN : Hid (∀ k, k < m.recs.length → decide ((m.recs.getD k (0, 0, [])).2.2.length ≤ 20) = false → m.recs.all (fun (x : Int × Int × List Int) => decide (x.2.2.length ≤ 20)) = false) := Lib.hid (fun k hk h => all_no (f := fun (x : Int × Int × List Int) => decide (x.2.2.length ≤ 20)) hk h)
  have HF : Hid (fewM m = (m.recs.all (fun (x : Int × Int × List Int) => decide (x.2.2.length ≤ 20)) && decide (m.recs.length ≤ 40 ∧ m.box.length ≤ 300 ∧ m.vals.length ≤ 20))) := Lib.hid rfl
  generalize m.recs.all (fun (x : Int × Int × List Int) => decide (x.2.2.length ≤ 20)) = res at *
  go_wp2_with fail
  go_loopw [3] (fun i wr => ∃ k : Nat, k ≤ m.recs.length ∧ i = .int .i64 k ∧ (∀ i, i < k → decide ((m.recs.getD i (0, 0, [])).2.2.length ≤ 20) = true) ∧ wr = w1) (fun i _ => m.recs.length - (intOf i).toNat)
  case atStart => exact ⟨0, Nat.zero_le _, rfl, fun i hi => absurd hi (Nat.not_lt_zero _), rfl⟩
  case round =>
    obtain ⟨k, hk, rfl, hu, rfl⟩ := hrel
    have HU := Lib.hid hu
    clear hu
    by_cases hlt : k < m.recs.length
    · have hbk := HBA.out (by omega)
      subst hbk
      have HX : Hid (decide ((m.recs.getD k (0, 0, [])).2.2.length ≤ 20) = true → ∀ i, i < k + 1 → decide ((m.recs.getD i (0, 0, [])).2.2.length ≤ 20) = true) := Lib.hid (fun h => next_all HU.out h)
      have HNk := Lib.hid (HN.out k hlt)
      have hy : m.recs[k]? = some (m.recs.getD k (0, 0, [])) := by simp [List.getD, List.getElem?_eq_getElem hlt]
      obtain ⟨es, he, hre⟩ := HBC.out k _ hy
      clear hy
      generalize m.recs.getD k (0, 0, []) = q at *
      obtain ⟨x, y, u⟩ := q
      obtain ⟨vq, rfl, _, _, hrd, _⟩ := record_cells hre
      obtain ⟨aq, cq, rfl, _, _⟩ := hrd.form
      have e3 := he 2 (by decide)
      have hs3 : recordK.size = 3 := rfl
      rw [hs3] at e3
      simp only [List.getElem?_cons_zero, List.getElem?_cons_succ, Nat.add_zero] at e3
      rw [← Nat.add_assoc] at e3
      clear he hre hrd
      by_cases hu : u.length ≤ 20
      · have HQ := Lib.hid (HX.out (decide_eq_true hu))
        go_wp2_with fail
        exact ⟨⟨k + 1, by omega, by go_num, HQ.out, by trivial⟩, by simp [intOf]; omega⟩
      · have HQ := Lib.hid (HNk.out (decide_eq_false hu))
        go_wp2_with fail
        go_ret
        exact ⟨by rw [HF.out, HQ.out]; rfl, HK.out⟩
    · have hkn : k = m.recs.length := by omega
      subst hkn
      have HQ := Lib.hid (HY.out HU.out)
      go_wp2_with fail
      all_goals
        go_ret
        exact ⟨by rw [HF.out, HQ.out, Bool.true_and]; exact congrArg (fun q => Ending.returned (Value.bool q)) (by rw [Bool.eq_iff_iff]; simp only [decide_eq_true_eq, beq_iff_eq, Bool.false_eq_true, true_iff, false_iff]; omega), HK.out⟩
end Go.Proofs.Ythhelhhlofdehaa
/- An argument that is a message. -/
namespace Go.Proofs.Ythhelhhlofdehaa
open Go.RowKit Mem
set_option linter.unusedVariables false

def spanK : Kd (Int × Int) := kPair (kInt .u32) (kInt .u32)
abbrev boxK : Kd (List (Int × Int × Int)) := kSlice rangeK
def messageK : Kd (Int × Int × Int × Int × Int × Int × Int × Int × Int × (Int × (Int × Int × List Int) × Bool) × (Int × Int) × List (Int × Int × Int) × List (Int × Int × List Int)) :=
  kPair (kInt .i64) (kPair (kInt .i64) (kPair (kInt .u32) (kPair (kInt .i64) (kPair (kInt .i64) (kPair (kInt .u32) (kPair (kInt .i64) (kPair (kInt .u32) (kPair (kInt .i64) (kPair entryK (kPair spanK (kPair boxK recsK)))))))))))
section
variable {H : Type} {enc : TypeId × Value → H}
theorem opens_spanK : Opens enc Try.prog 30 spanK :=
  opens_struct Try.underlying30 (by kernel_rfl) (fields_cons rfl (opens_int Try.underlying22 (by kernel_rfl)) (fields_one rfl (opens_int Try.underlying22 (by kernel_rfl))))
theorem opens_recs : Opens enc Try.prog 32 recsK := opens_slice Try.underlying32 (by kernel_rfl) (by decide) opens_record
theorem opens_message : Opens enc Try.prog 34 messageK :=
  opens_struct Try.underlying34 (by kernel_rfl) (fields_cons rfl (opens_int Try.underlying3 (by kernel_rfl)) (fields_cons rfl (opens_int Try.underlying3 (by kernel_rfl)) (fields_cons rfl (opens_int Try.underlying22 (by kernel_rfl)) (fields_cons rfl (opens_int Try.underlying3 (by kernel_rfl)) (fields_cons rfl (opens_int Try.underlying3 (by kernel_rfl)) (fields_cons rfl (opens_int Try.underlying22 (by kernel_rfl)) (fields_cons rfl (opens_int Try.underlying3 (by kernel_rfl)) (fields_cons rfl (opens_int Try.underlying22 (by kernel_rfl)) (fields_cons rfl (opens_int Try.underlying3 (by kernel_rfl)) (fields_cons rfl opens_entry (fields_cons rfl opens_spanK (fields_cons rfl opens_ranges (fields_one rfl opens_recs)))))))))))))
end
theorem u32_of {a : Int} (h : (Lit.int .u32 a).wf = true) : u32B a := bd32 h
theorem u64_of {a : Int} (h : (Lit.int .u64 a).wf = true) : u64B a := bdu64 h
theorem i64_of {a : Int} (h : (Lit.int .i64 a).wf = true) : i64B a := bd64 h
theorem recs_bd {w : World} {v : Value} {l : List (Int × Int × List Int)} (h : recsK.rd w [v] l) : ∀ x ∈ l, recB x := by
  obtain ⟨a, g, off, c, _, _, _, _, hi⟩ := kd_loop h
  intro x hx
  obtain ⟨i, hi', rfl⟩ := List.getElem_of_mem hx
  obtain ⟨es, _, hr⟩ := hi i _ (List.getElem?_eq_getElem hi')
  obtain ⟨v, _, w1, w2, _, hb⟩ := record_cells hr
  exact ⟨u64_of w1, u64_of w2, fun y hy => u32_of (hb y hy)⟩
/-- a message, cell by cell -/
theorem message_cells {w : World} {es : List Value} {y : Int × Int × Int × Int × Int × Int × Int × Int × Int × (Int × (Int × Int × List Int) × Bool) × (Int × Int) × List (Int × Int × Int) × List (Int × Int × List Int)} (h : messageK.rd w es y) :
    ∃ m v b r, es = mcs m v b r ∧ MRd w m v b r ∧ MB m := by
  have hl := messageK.len h
  obtain ⟨k, hub, point, client, op, target, hops, owner, turn, en, ⟨sf, st⟩, box, recs⟩ := y
  obtain ⟨⟨h0, w0⟩, ⟨h1, w1⟩, ⟨h2, w2⟩, ⟨h3, w3⟩, ⟨h4, w4⟩, ⟨h5, w5⟩, ⟨h6, w6⟩, ⟨h7, w7⟩, ⟨h8, w8⟩, he, hs, hbx, hrc⟩ := h
  match es, hl with
  | [c0, c1, c2, c3, c4, c5, c6, c7, c8, c9, c10, c11, c12, c13, c14, c15, c16, c17], _ =>
    have e0 : c0 = .int .i64 k := by simpa [kInt] using h0
    have e1 : c1 = .int .i64 hub := by simpa [kInt] using h1
    have e2 : c2 = .int .u32 point := by simpa [kInt] using h2
    have e3 : c3 = .int .i64 client := by simpa [kInt] using h3
    have e4 : c4 = .int .i64 op := by simpa [kInt] using h4
    have e5 : c5 = .int .u32 target := by simpa [kInt] using h5
    have e6 : c6 = .int .i64 hops := by simpa [kInt] using h6
    have e7 : c7 = .int .u32 owner := by simpa [kInt] using h7
    have e8 : c8 = .int .i64 turn := by simpa [kInt] using h8
    have he' : entryK.rd w [c9, c10, c11, c12, c13] en := he
    have hs' : spanK.rd w [c14, c15] (sf, st) := hs
    have hb' : boxK.rd w [c16] box := hbx
    have hr' : recsK.rd w [c17] recs := hrc
    obtain ⟨v, hv, x1, x2, x3, hrd, hvb⟩ := entry_cells he'
    simp only [List.cons.injEq, and_true] at hv
    obtain ⟨rfl, rfl, rfl, rfl, rfl⟩ := hv
    obtain ⟨⟨s1, y1⟩, ⟨s2, y2⟩⟩ := hs'
    have e14 : c14 = .int .u32 sf := by simpa [kInt] using s1
    have e15 : c15 = .int .u32 st := by simpa [kInt] using s2
    subst e0 e1 e2 e3 e4 e5 e6 e7 e8 e14 e15
    obtain ⟨en1, ⟨en2, en3, en4⟩, en5⟩ := en
    obtain ⟨rdb, wrb⟩ := kd_trips hb'
    exact ⟨⟨k, hub, point, client, op, target, hops, owner, turn, en1, en2, en3, en4, en5, sf, st, box, recs⟩, _, _, _, rfl, ⟨hrd, rdb, hr'⟩,
      ⟨i64_of w0, i64_of w1, u32_of w2, i64_of w3, i64_of w4, u32_of w5, i64_of w6, u32_of w7, i64_of w8, u32_of x1, u64_of x2, u64_of x3, fun x hx => u32_of (hvb x hx), u32_of y1, u32_of y2, fun x hx => ⟨u32_of (wrb x hx).2.1, u32_of (wrb x hx).2.2⟩, recs_bd hr'⟩⟩
end Go.Proofs.Ythhelhhlofdehaa
namespace Go.Proofs.Ythhelhhlofdehaa
open Go.RowKit Mem
/-! how long the bytes of a message are -/
theorem entM_len (m : Msg) : (entM m).length = 17 + 4 * m.vals.length := by
  unfold entM
  rw [List.length_append, be_len, recP_len]
  simp only []
  omega
theorem recsP_len {l : List (Int × Int × List Int)} {n : Nat} (h : ∀ x ∈ l, x.2.2.length = n) : (recsP l).length = l.length * (16 + 4 * n) := by
  induction l with
  | nil => simp [recsP]
  | cons x l ih =>
    have h1 := h x (by simp)
    have h2 := ih (fun y hy => h y (by simp [hy]))
    have e : recsP (x :: l) = recP x ++ recsP l := rfl
    rw [e, List.length_append, recP_len, List.length_cons, Nat.add_mul, Nat.one_mul]
    omega
theorem headM_len (m : Msg) : (headM m).length = 9 := by simp only [headM, List.length_append, be_len]
theorem packM_len {attrs : Int} {m : Msg} (h : RightF attrs m) : ((packM m).length : Int) =
    if m.kind = 1 then 27 + 4 * attrs else if m.kind = 2 ∨ m.kind = 3 then 34 + 4 * attrs else if m.kind = 4 then 26 + 4 * attrs else if m.kind = 5 then 19 + 9 * attrs else 19 + m.recs.length * (16 + 4 * attrs) := by
  have hk := h.kind
  unfold packM tailM
  rw [List.length_append, headM_len]
  by_cases h1 : m.kind = 1
  · have := (h.vals (by omega)).1
    rw [if_pos h1, if_pos h1, List.length_append, entM_len, be_len]
    omega
  rw [if_neg h1, if_neg h1]
  by_cases h2 : m.kind = 2 ∨ m.kind = 3
  · have := (h.vals (by omega)).1
    rw [if_pos h2, if_pos h2, List.length_append, List.length_append, entM_len, be_len, be_len]
    omega
  rw [if_neg h2, if_neg h2]
  by_cases h4 : m.kind = 4
  · have := (h.vals (by omega)).1
    rw [if_pos h4, if_pos h4, entM_len]
    omega
  rw [if_neg h4, if_neg h4]
  by_cases h5 : m.kind = 5
  · have := (h.box h5).1
    rw [if_pos h5, if_pos h5, List.length_append, List.length_append, List.length_append, be_len, be_len, be_len, packV_len]
    omega
  rw [if_neg h5, if_neg h5]
  have h6 := (h.recs (by omega)).2
  have ha := h.a
  obtain ⟨n, hn⟩ := Int.eq_ofNat_of_zero_le (show 0 ≤ attrs by omega)
  have e := recsP_len (l := m.recs) (n := n) (fun x hx => by have := h6 x hx; omega)
  rw [List.length_append, List.length_append, List.length_append, be_len, be_len, be_len, e, hn]
  push_cast
  omega
theorem packM_first {m : Msg} (h : 0 ≤ m.kind ∧ m.kind ≤ 255) : (packM m).getD 0 0 = m.kind ∧ 0 < (packM m).length := by
  have e : be 1 m.kind = [m.kind] := by
    unfold be be
    simp
    omega
  have e2 : packM m = m.kind :: ((be 1 m.hub ++ (be 1 m.client ++ (be 2 m.op ++ be 4 m.point))) ++ tailM m) := by
    unfold packM headM
    rw [e]
    rfl
  rw [e2]
  exact ⟨rfl, by simp⟩
end Go.Proofs.Ythhelhhlofdehaa
