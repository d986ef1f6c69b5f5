/- Package message: what messages of a kind have; attributes; the head; owner and turn. -/
import Derived.Test.YthhelhhlofdehaaMsg
import Derived.Test.YthhelhhlofdehaaMem
import Derived.Laws.Tables
import Derived.Deep.DeepCutAuto
import Derived.Deep.CutBlock
set_option maxRecDepth 4000
namespace Go.Proofs.Ythhelhhlofdehaa
open Go.RowKit Mem
set_option linter.unusedSimpArgs false
set_option linter.unusedVariables false
attribute [local irreducible] Go.Calls

/-- what messages of a kind have -/
structure Prt where
  (point entry owner hops span box recs : Bool)
def pcs (p : Prt) : List Value := [.bool p.point, .bool p.entry, .bool p.owner, .bool p.hops, .bool p.span, .bool p.box, .bool p.recs]
def prt (k : Int) : Prt := ⟨decide (k = 1 ∨ k = 2 ∨ k = 3 ∨ k = 5), decide (k = 1 ∨ k = 2 ∨ k = 3 ∨ k = 4), decide (k = 2 ∨ k = 3), decide (k = 1 ∨ k = 5), decide (k = 5 ∨ k = 6), decide (k = 5), decide (k = 6)⟩
def isK (k : Int) : Bool := decide (1 ≤ k ∧ k ≤ 6)
theorem parts_info : (Try.prog.info? 84).map (·.size) = some 7 := by kernel_rfl
def PartsPost (k : Int) (w : World) (e : Ending) (w' : World) : Prop := e = .returned (.tuple #[.agg (pcs (prt k)).toArray, .bool (isK k)]) ∧ Below w.heap.size w w'
theorem prt_none {k : Int} (h1 : k ≠ 1) (h2 : k ≠ 2) (h3 : k ≠ 3) (h4 : k ≠ 4) (h5 : k ≠ 5) (h6 : k ≠ 6) : prt k = ⟨false, false, false, false, false, false, false⟩ ∧ isK k = false := by
  unfold prt isK
  refine ⟨?_, decide_eq_false (by omega)⟩
  simp [h1, h2, h3, h4, h5, h6]
theorem parts_ret {e2 : Bool} {p : Prt} {k : Int} (w : World) (h : Calls Try.prog 40 #[.int .i64 k] w fun e w' => e = .returned (.tuple #[.agg (pcs p).toArray, .bool e2]) ∧ Below w.heap.size w w') :
    Calls Try.prog 40 #[.int .i64 k] w fun e w' => e = .returned (.tuple #[.agg (pcs p).toArray, .bool e2]) ∧ Below w.heap.size w w' := h
set_option maxHeartbeats 2000000 in
theorem oparts_any (k : Int) (w : World) : Calls Try.prog 40 #[.int .i64 k] w (PartsPost k w) := by
  unfold PartsPost
  by_cases h1 : k = 1
  · subst h1
    have e : prt 1 = ⟨true, true, false, true, false, false, false⟩ := rfl
    have e2 : isK 1 = true := rfl
    rw [e, e2]
    exact parts_ret _ (by
      go_enter Try.func40, Try.ntmps40
      go_wp2_with fail
      refine bodyPost_ret (results_blk_tmp (l := [.bool true, .bool true, .bool false, .bool true, .bool false, .bool false, .bool false]) rfl Try.underlying84 parts_info rfl rfl (Blk.new _ _ _)) rfl ?_
      exact ⟨rfl, more (Below.refl _ _) _⟩)
  have d1 : (k == 1) = false := by simpa using h1
  by_cases h2 : k = 2
  · subst h2
    have e : prt 2 = ⟨true, true, true, false, false, false, false⟩ := rfl
    have e2 : isK 2 = true := rfl
    rw [e, e2]
    exact parts_ret _ (by
      go_enter Try.func40, Try.ntmps40
      go_wp2_with fail
      refine bodyPost_ret (results_blk_tmp (l := [.bool true, .bool true, .bool true, .bool false, .bool false, .bool false, .bool false]) rfl Try.underlying84 parts_info rfl rfl (Blk.new _ _ _)) rfl ?_
      exact ⟨rfl, more (Below.refl _ _) _⟩)
  have d2 : (k == 2) = false := by simpa using h2
  by_cases h3 : k = 3
  · subst h3
    have e : prt 3 = ⟨true, true, true, false, false, false, false⟩ := rfl
    have e2 : isK 3 = true := rfl
    rw [e, e2]
    exact parts_ret _ (by
      go_enter Try.func40, Try.ntmps40
      go_wp2_with fail
      refine bodyPost_ret (results_blk_tmp (l := [.bool true, .bool true, .bool true, .bool false, .bool false, .bool false, .bool false]) rfl Try.underlying84 parts_info rfl rfl (Blk.new _ _ _)) rfl ?_
      exact ⟨rfl, more (Below.refl _ _) _⟩)
  have d3 : (k == 3) = false := by simpa using h3
  by_cases h4 : k = 4
  · subst h4
    have e : prt 4 = ⟨false, true, false, false, false, false, false⟩ := rfl
    have e2 : isK 4 = true := rfl
    rw [e, e2]
    exact parts_ret _ (by
      go_enter Try.func40, Try.ntmps40
      go_wp2_with fail
      refine bodyPost_ret (results_blk_tmp (l := [.bool false, .bool true, .bool false, .bool false, .bool false, .bool false, .bool false]) rfl Try.underlying84 parts_info rfl rfl (Blk.new _ _ _)) rfl ?_
      exact ⟨rfl, more (Below.refl _ _) _⟩)
  have d4 : (k == 4) = false := by simpa using h4
  by_cases h5 : k = 5
  · subst h5
    have e : prt 5 = ⟨true, false, false, true, true, true, false⟩ := rfl
    have e2 : isK 5 = true := rfl
    rw [e, e2]
    exact parts_ret _ (by
      go_enter Try.func40, Try.ntmps40
      go_wp2_with fail
      refine bodyPost_ret (results_blk_tmp (l := [.bool true, .bool false, .bool false, .bool true, .bool true, .bool true, .bool false]) rfl Try.underlying84 parts_info rfl rfl (Blk.new _ _ _)) rfl ?_
      exact ⟨rfl, more (Below.refl _ _) _⟩)
  have d5 : (k == 5) = false := by simpa using h5
  by_cases h6 : k = 6
  · subst h6
    have e : prt 6 = ⟨false, false, false, false, true, false, true⟩ := rfl
    have e2 : isK 6 = true := rfl
    rw [e, e2]
    exact parts_ret _ (by
      go_enter Try.func40, Try.ntmps40
      go_wp2_with fail
      refine bodyPost_ret (results_blk_tmp (l := [.bool false, .bool false, .bool false, .bool false, .bool true, .bool false, .bool true]) rfl Try.underlying84 parts_info rfl rfl (Blk.new _ _ _)) rfl ?_
      exact ⟨rfl, more (Below.refl _ _) _⟩)
  have d6 : (k == 6) = false := by simpa using h6
  obtain ⟨e, e2⟩ := prt_none h1 h2 h3 h4 h5 h6
  rw [e, e2]
  go_enter Try.func40, Try.ntmps40
  go_wp2_with fail
  refine bodyPost_ret (results_blk_tmp (l := [.bool false, .bool false, .bool false, .bool false, .bool false, .bool false, .bool false]) rfl Try.underlying84 parts_info rfl rfl (Blk.new _ _ _)) rfl ?_
  exact ⟨rfl, more (Below.refl _ _) _⟩
theorem orattrs_any (a : Int) (w : World) : Calls Try.prog 35 #[.int .i64 a] w fun e w' => e = .returned (.bool (decide (1 ≤ a ∧ a ≤ 8))) ∧ Below w.heap.size w w' := by
  by_cases h1 : 1 ≤ a
  · by_cases h2 : a ≤ 8
    · rw [decide_eq_true ⟨h1, h2⟩]
      go_enter Try.func35, Try.ntmps35
      go_wp2_with fail
      go_ret
      exact ⟨rfl, Below.refl _ _⟩
    · rw [decide_eq_false (by omega)]
      go_enter Try.func35, Try.ntmps35
      go_wp2_with fail
      go_ret
      exact ⟨rfl, Below.refl _ _⟩
  · rw [decide_eq_false (by omega)]
    go_enter Try.func35, Try.ntmps35
    go_wp2_with fail
    go_ret
    exact ⟨rfl, Below.refl _ _⟩
theorem number_any (g : Bool) (w : World) : Calls Try.prog 55 #[.bool g] w fun e w' => e = .returned (.int .u64 (if g then 1 else 0)) ∧ Below w.heap.size w w' := by
  cases g
  · go_enter Try.func55, Try.ntmps55
    go_wp2_with fail
    go_ret
    exact ⟨rfl, Below.refl _ _⟩
  · go_enter Try.func55, Try.ntmps55
    go_wp2_with fail
    go_ret
    exact ⟨rfl, Below.refl _ _⟩
/-- the head of a message -/
def headV (attrs : Int) (m : Msg) (p : Prt) : Bool := decide (0 ≤ m.hub ∧ m.hub < attrs ∧ 0 ≤ m.client ∧ m.client < 16 ∧ 1 ≤ m.op ∧ m.op ≤ 500 ∧ 0 ≤ m.hops ∧ m.hops ≤ 100 ∧ (p.hops = true ∨ m.hops = 0) ∧ (p.point = true ∨ m.point = 0))
def ownerV (m : Msg) (p : Prt) : Bool := if p.owner then decide (0 ≤ m.turn ∧ m.turn ≤ 2147483647) else decide (m.owner = 0 ∧ m.turn = 0)
set_option maxRecDepth 100000 in
set_option maxHeartbeats 4000000 in
theorem orhead_any (attrs : Int) (m : Msg) (p : Prt) (v b r : Value) (w : World) :
    Calls Try.prog 41 #[.int .i64 attrs, .agg (mcs m v b r).toArray, .agg (pcs p).toArray] w fun e w' => e = .returned (.bool (headV attrs m p)) ∧ Below w.heap.size w w' := by
  have hk0 : Below w.heap.size w ((w.alloc (.cells (mcs m v b r).toArray 34)).alloc (.cells (pcs p).toArray 84)) := more (more (Below.refl _ _) _) _
  have hbk : Blk ((w.alloc (.cells (mcs m v b r).toArray 34)).alloc (.cells (pcs p).toArray 84)) w.heap.size 34 (mcs m v b r).toArray := (Blk.new w _ _).keep (more (Below.refl _ _) _)
  have hpk : Blk ((w.alloc (.cells (mcs m v b r).toArray 34)).alloc (.cells (pcs p).toArray 84)) (w.heap.size + 1) 84 (pcs p).toArray := Blk.newAt _ _ _ (size_alloc _ _).symm
  have HBK := Lib.hid hbk
  have HPK := Lib.hid hpk
  have HK := Lib.hid hk0
  clear hk0 hbk hpk
  go_enter Try.func41, Try.ntmps41
  go_upto_region 1 with fail
  generalize (w.alloc (.cells (mcs m v b r).toArray 34)).alloc (.cells (pcs p).toArray 84) = w1 at *
  obtain ⟨g, hg⟩ : ∃ g, g = w.heap.size := ⟨_, rfl⟩
  rw [← hg] at HBK HPK ⊢
  clear hg
  have c1 : w1.cell? ⟨g, 1, none⟩ = some (.int .i64 m.hub) := HBK.out.cell 1
  have c2 : w1.cell? ⟨g, 2, none⟩ = some (.int .u32 m.point) := HBK.out.cell 2
  have c3 : w1.cell? ⟨g, 3, none⟩ = some (.int .i64 m.client) := HBK.out.cell 3
  have c4 : w1.cell? ⟨g, 4, none⟩ = some (.int .i64 m.op) := HBK.out.cell 4
  have c6 : w1.cell? ⟨g, 6, none⟩ = some (.int .i64 m.hops) := HBK.out.cell 6
  have p0 : w1.cell? ⟨g + 1, 0, none⟩ = some (.bool p.point) := HPK.out.cell 0
  have p3 : w1.cell? ⟨g + 1, 3, none⟩ = some (.bool p.hops) := HPK.out.cell 3
  generalize hhp : p.hops = ph at p3
  generalize hpp : p.point = pp at p0
  have HV : Hid (headV attrs m p = decide (0 ≤ m.hub ∧ m.hub < attrs ∧ 0 ≤ m.client ∧ m.client < 16 ∧ 1 ≤ m.op ∧ m.op ≤ 500 ∧ 0 ≤ m.hops ∧ m.hops ≤ 100 ∧ (ph = true ∨ m.hops = 0) ∧ (pp = true ∨ m.point = 0))) := Lib.hid (by unfold headV; rw [hhp, hpp])
  clear hhp hpp
  cases ph <;> cases pp
  all_goals
    go_wp2_with fail
    all_goals
      go_ret
      exact ⟨by rw [HV.out]; refine congrArg (fun x => Ending.returned (Value.bool x)) ?_; rw [Bool.eq_iff_iff]; simp <;> omega, HK.out⟩
theorem orowner_any (m : Msg) (p : Prt) (v b r : Value) (w : World) :
    Calls Try.prog 43 #[.agg (mcs m v b r).toArray, .agg (pcs p).toArray] w fun e w' => e = .returned (.bool (ownerV m p)) ∧ Below w.heap.size w w' := by
  have hk0 : Below w.heap.size w ((w.alloc (.cells (mcs m v b r).toArray 34)).alloc (.cells (pcs p).toArray 84)) := more (more (Below.refl _ _) _) _
  have hbk : Blk ((w.alloc (.cells (mcs m v b r).toArray 34)).alloc (.cells (pcs p).toArray 84)) w.heap.size 34 (mcs m v b r).toArray := (Blk.new w _ _).keep (more (Below.refl _ _) _)
  have hpk : Blk ((w.alloc (.cells (mcs m v b r).toArray 34)).alloc (.cells (pcs p).toArray 84)) (w.heap.size + 1) 84 (pcs p).toArray := Blk.newAt _ _ _ (size_alloc _ _).symm
  have HBK := Lib.hid hbk
  have HPK := Lib.hid hpk
  have HK := Lib.hid hk0
  clear hk0 hbk hpk
  go_enter Try.func43, Try.ntmps43
  go_upto_region 1 with fail
  generalize (w.alloc (.cells (mcs m v b r).toArray 34)).alloc (.cells (pcs p).toArray 84) = w1 at *
  obtain ⟨g, hg⟩ : ∃ g, g = w.heap.size := ⟨_, rfl⟩
  rw [← hg] at HBK HPK ⊢
  clear hg
  have c7 : w1.cell? ⟨g, 7, none⟩ = some (.int .u32 m.owner) := HBK.out.cell 7
  have c8 : w1.cell? ⟨g, 8, none⟩ = some (.int .i64 m.turn) := HBK.out.cell 8
  have p2 : w1.cell? ⟨g + 1, 2, none⟩ = some (.bool p.owner) := HPK.out.cell 2
  generalize hhp : p.owner = po at p2
  have HV : Hid (ownerV m p = if po then decide (0 ≤ m.turn ∧ m.turn ≤ 2147483647) else decide (m.owner = 0 ∧ m.turn = 0)) := Lib.hid (by unfold ownerV; rw [hhp])
  clear hhp
  cases po
  all_goals
    go_wp2_with fail
    all_goals
      go_ret
      exact ⟨by rw [HV.out]; refine congrArg (fun x => Ending.returned (Value.bool x)) ?_; rw [Bool.eq_iff_iff]; simp <;> omega, HK.out⟩
end Go.Proofs.Ythhelhhlofdehaa
