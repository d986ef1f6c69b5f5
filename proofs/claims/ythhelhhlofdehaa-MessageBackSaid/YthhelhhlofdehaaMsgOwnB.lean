/- Plans of the regions whose order is open (made by program; what they say is checked where they are used). -/
import Derived.Test.YthhelhhlofdehaaMsgOwnA
import Derived.Test.YthhelhhlofdehaaRun
import Derived.Test.YthhelhhlofdehaaBoxOwn
set_option maxRecDepth 4000
namespace Go.Proofs.Ythhelhhlofdehaa
namespace omentry
def rows4 : List (Nat × Nat × Nat) := [(0, 1, 35184372088832), (0, 128, 70368744177664), (2, 70368744177664, 140737488355328), (5, 175921860444160, 281474976710656), (8, 281474976710656, 562949953421312), (16, 562949953421440, 1125899906842624), (48, 1688849860263936, 2251799813685248), (16, 562949953421440, 4503599627370496), (144, 5066549580791808, 9007199254740992), (272, 9570149208162304, 18014398509481984), (16, 562949953421328, 36028797018963968), (1040, 36591746972385280, 72057594037927936), (2576, 90634942500831232, 144115188075855872), (4112, 144678138029277184, 288230376151711744), (8272, 291045125918818304, 576460752303423488), (16400, 577023702256844800, 1152921504606846976), (32784, 1152921504606846976, 2305843009213693952), (65536, 2305843009213693968, 4611686018427387904), (196608, 6917529027641081856, 9223372036854775808), (65536, 2305843009213694080, 18446744073709551616), (589824, 20752587082923245568, 36893488147419103232), (1376256, 48422703193487572992, 73786976294838206464), (2162688, 76092819304051900416, 147573952589676412928), (8388607, 147573952589676412928, 64)]
def plan4 : List (Nat × Nat) := [(0, 0), (1, 0), (2, 0), (3, 1), (4, 0), (5, 0), (6, 0), (7, 0), (8, 0), (9, 0), (10, 0), (11, 0), (12, 0), (13, 0), (14, 0), (15, 0), (16, 0), (17, 0), (18, 0), (19, 0), (20, 0), (21, 0), (22, 0), (23, 0)]
end omentry
namespace omread
def rows14 : List (Nat × Nat × Nat) := [(0, 128, 562949953421312), (0, 64, 1125899906842624), (2, 1125899906842624, 2251799813685248), (5, 562949953421328, 0), (15, 2251799813685248, 32)]
def plan14 : List (Nat × Nat) := [(0, 0), (1, 0), (2, 1), (3, 1), (4, 0)]
end omread
namespace omrec
def rows2 : List (Nat × Nat × Nat) := [(0, 32, 1024), (0, 2, 2048), (2, 2048, 4096), (0, 1, 8192), (8, 8192, 16384), (21, 21504, 32768), (0, 0, 64), (127, 32832, 0)]
def plan2 : List (Nat × Nat) := [(0, 0), (1, 0), (3, 0)]
def rows6 : List (Nat × Nat × Nat) := [(0, 64, 4194304), (1, 4194304, 8388608), (0, 128, 16777216), (0, 2, 33554432), (8, 33554432, 67108864), (16, 67108864, 134217728), (63, 25165824, 268435456), (127, 402653184, 0)]
def plan6 : List (Nat × Nat) := [(0, 0), (1, 0), (2, 0), (3, 0), (4, 1), (5, 0), (6, 0), (7, 1)]
def plan6z : List (Nat × Nat) := [(0, 0), (1, 0), (2, 0), (3, 0), (4, 1), (5, 0), (6, 0)]
end omrec
end Go.Proofs.Ythhelhhlofdehaa
/- Package message: rightEntry. -/
namespace Go.Proofs.Ythhelhhlofdehaa
open Go.RowKit Mem
set_option linter.unusedSimpArgs false
set_option linter.unusedVariables false
attribute [local irreducible] Go.Calls

def ecs (m : Msg) (v : Value) : List Value := [.int .u32 m.ev, .int .u64 m.eid, .int .u64 m.ever, v, .bool m.gone]
def entryV (attrs : Int) (m : Msg) (p : Prt) : Bool := if p.entry then rightV attrs m.eid m.ever m.vals.length && ((m.ev == m.vals.getD m.hub.toNat 0) && (m.target == m.ev)) else decide (m.ev = 0 ∧ m.gone = false ∧ m.eid = 0 ∧ m.ever = 0 ∧ m.vals = [] ∧ m.target = 0)
set_option maxRecDepth 100000 in
set_option maxHeartbeats 4000000 in
theorem orentry_any (attrs : Int) (m : Msg) (p : Prt) (v b r : Value) (w : World) (h : MRd w m v b r) (hb : MB m) (hh : 0 ≤ m.hub ∧ m.hub < attrs) :
    Calls Try.prog 42 #[.int .i64 attrs, .agg (mcs m v b r).toArray, .agg (pcs p).toArray] w fun e w' => e = .returned (.bool (entryV attrs m p)) ∧ Below w.heap.size w w' := by
  obtain ⟨av, cv, rfl, hv1, hv2⟩ := h.vals.form
  obtain ⟨v, hv⟩ : ∃ v, v = Value.slice av m.vals.length cv := ⟨_, rfl⟩
  rw [← hv] at h ⊢
  have HV := Lib.hid hv
  have HBD := Lib.hid hb
  clear hv hv1 hv2 hb
  have hk0 : Below w.heap.size w ((w.alloc (.cells (mcs m v b r).toArray 34)).alloc (.cells (pcs p).toArray 84)) := more (more (Below.refl _ _) _) _
  have hbk : Blk ((w.alloc (.cells (mcs m v b r).toArray 34)).alloc (.cells (pcs p).toArray 84)) w.heap.size 34 (mcs m v b r).toArray := (Blk.new w _ _).keep (more (Below.refl _ _) _)
  have hpk : Blk ((w.alloc (.cells (mcs m v b r).toArray 34)).alloc (.cells (pcs p).toArray 84)) (w.heap.size + 1) 84 (pcs p).toArray := Blk.newAt _ _ _ (size_alloc _ _).symm
  have HM := Lib.hid (h.keep hk0)
  have HBK := Lib.hid hbk
  have HPK := Lib.hid hpk
  have HK := Lib.hid hk0
  clear hk0 hbk hpk h
  go_enter Try.func42, Try.ntmps42
  go_upto_region 1 with fail
  generalize (w.alloc (.cells (mcs m v b r).toArray 34)).alloc (.cells (pcs p).toArray 84) = w1 at *
  obtain ⟨g, hg⟩ : ∃ g, g = w.heap.size := ⟨_, rfl⟩
  rw [← hg] at HBK HPK ⊢
  clear hg
  have c9 : w1.cell? ⟨g, 9, none⟩ = some (.int .u32 m.ev) := HBK.out.cell 9
  have c10 : w1.cell? ⟨g, 10, none⟩ = some (.int .u64 m.eid) := HBK.out.cell 10
  have c11 : w1.cell? ⟨g, 11, none⟩ = some (.int .u64 m.ever) := HBK.out.cell 11
  have c12 : w1.cell? ⟨g, 12, none⟩ = some (.slice av m.vals.length cv) := by rw [← HV.out]; exact HBK.out.cell 12
  have c13 : w1.cell? ⟨g, 13, none⟩ = some (.bool m.gone) := HBK.out.cell 13
  have hX : Below w1.heap.size w1 (w1.alloc (.cells #[.int .u32 m.ev, .int .u64 m.eid, .int .u64 m.ever, .slice av m.vals.length cv, .bool m.gone] 28)) := more (Below.refl _ _) _
  have HE : Hid (Blk (w1.alloc (.cells #[.int .u32 m.ev, .int .u64 m.eid, .int .u64 m.ever, .slice av m.vals.length cv, .bool m.gone] 28)) w1.heap.size 28 (ecs m v).toArray) := Lib.hid (by rw [HV.out]; exact Blk.new _ _ _)
  have HBK := Lib.hid (HBK.out.keep hX)
  have HPK := Lib.hid (HPK.out.keep hX)
  have HM := Lib.hid (HM.out.keep hX)
  have HK := Lib.hid (nest HK.out hX)
  clear hX
  go_upto_region 2 with fail
  generalize w1.alloc (.cells #[.int .u32 m.ev, .int .u64 m.eid, .int .u64 m.ever, .slice av m.vals.length cv, .bool m.gone] 28) = w2 at *
  obtain ⟨g2, hg2⟩ : ∃ g2, g2 = w1.heap.size := ⟨_, rfl⟩
  rw [← hg2] at HE ⊢
  clear hg2 c9 c10 c11 c12 c13
  have p1 : w2.cell? ⟨g + 1, 1, none⟩ = some (.bool p.entry) := HPK.out.cell 1
  have e0 : w2.cell? ⟨g2, 0, none⟩ = some (.int .u32 m.ev) := HE.out.cell 0
  have e3 : w2.cell? ⟨g2, 3, none⟩ = some (.slice av m.vals.length cv) := by rw [← HV.out]; exact HE.out.cell 3
  have c5 : w2.cell? ⟨g, 5, none⟩ = some (.int .u32 m.target) := HBK.out.cell 5
  cases hpe : p.entry with
  | false =>
    rw [hpe] at p1
    have HS : Hid (entryV attrs m p = decide (m.ev = 0 ∧ m.gone = false ∧ m.eid = 0 ∧ m.ever = 0 ∧ m.vals = [] ∧ m.target = 0)) := Lib.hid (by unfold entryV; rw [if_neg (by simp [hpe])])
    have e1 : w2.cell? ⟨g2, 1, none⟩ = some (.int .u64 m.eid) := HE.out.cell 1
    have e2 : w2.cell? ⟨g2, 2, none⟩ = some (.int .u64 m.ever) := HE.out.cell 2
    have e4 : w2.cell? ⟨g2, 4, none⟩ = some (.bool m.gone) := HE.out.cell 4
    have HL : Hid (m.vals = [] ↔ (m.vals.length : Int) = 0) := Lib.hid (by rw [← List.length_eq_zero_iff]; omega)
    clear hpe
    generalize m.gone = gn at e4 HS
    cases gn
    all_goals
      go_wp2_with fail
      all_goals
        go_ret
        exact ⟨by rw [HS.out]; refine congrArg (fun x => Ending.returned (Value.bool x)) ?_; rw [Bool.eq_iff_iff]; by_cases hq : m.vals = [] <;> simp [hq] at * <;> omega, HK.out⟩
  | true =>
    rw [hpe] at p1
    have HS : Hid (entryV attrs m p = (rightV attrs m.eid m.ever m.vals.length && ((m.ev == m.vals.getD m.hub.toNat 0) && (m.target == m.ev)))) := Lib.hid (by unfold entryV; rw [if_pos hpe])
    have HC : Hid (∀ z, Calls Try.prog 64 #[.int .i64 attrs, .agg #[.int .u64 m.eid, .int .u64 m.ever, v]] z fun e w' => e = .returned (.bool (rightV attrs m.eid m.ever m.vals.length)) ∧ Below z.heap.size z w') := Lib.hid (fun z => by rw [HV.out]; exact right_any attrs m.eid m.ever HBD.out.eid.1 HBD.out.ever.1 av m.vals.length cv z)
    clear hpe
    cases hrv : rightV attrs m.eid m.ever m.vals.length with
    | false =>
      rw [hrv] at HC HS
      go_wp2_with fail
      refine Run.region_walk (S := fun z => Below w2.heap.size w2 z)
        omentry.rows4 omentry.plan4 (l := ?steps1) (by kernel_rfl) (by kernel_rfl) (by kernel_rfl) (by kernel_rfl) ?written1 (Below.refl _ _).drew ?onward1
      case written1 =>
        simp only [omentry.plan4, Run.stepsOf, Run.stepOf, Run.guardOf, List.getElem?_toArray, List.getElem?_cons_zero, List.getElem?_cons_succ, Option.map_some, Option.map_none, Option.bind_some, Option.toList_some, List.map_cons, List.map_nil, List.cons_append, List.nil_append]
        rfl
      repeat ((first
        | (refine Run.takes (v := ?_) ?_ ?_; rotate_left; (· intro w' hS'; (first | (refine exec_load_sub (n := 3) (off := 1) (x := .tmp 46) (l := [.int .u64 m.eid, .int .u64 m.ever, v]) (m := ecs m v) ?_ Try.underlying26 rec_info ?_ ?_ (HE.out.keep hS') ?_ <;> rfl) | (go_simp; (try with_reducible rfl)))))
        | (refine Run.takesG (v := ?_) ?_ ?_ ?_; rotate_left; (· simp only [List.getElem?_cons_zero, List.getElem?_cons_succ]); (· intro w' hS'; (first | (refine exec_load_sub (n := 3) (off := 1) (x := .tmp 46) (l := [.int .u64 m.eid, .int .u64 m.ever, v]) (m := ecs m v) ?_ Try.underlying26 rec_info ?_ ?_ (HE.out.keep hS') ?_ <;> rfl) | (go_simp; (try with_reducible rfl)))))
        | (refine Run.skipsT ?_ ?_; (· simp only [List.getElem?_cons_zero, List.getElem?_cons_succ]))
        | (refine Run.skipsF ?_ ?_; (· simp only [List.getElem?_cons_zero, List.getElem?_cons_succ]))
        | (refine Run.skipsU ?_ ?_; (· simp only [List.getElem?_cons_zero, List.getElem?_cons_succ]))
        | (refine Run.passT ?_ ?_; (· simp only [List.getElem?_cons_zero, List.getElem?_cons_succ]))
        | (refine Run.passF ?_ ?_; (· simp only [List.getElem?_cons_zero, List.getElem?_cons_succ]))
        | (refine Run.passU ?_ ?_; (· simp only [List.getElem?_cons_zero, List.getElem?_cons_succ]))
        | (refine Run.runs ?_
           (first
           | (refine Run.callF 64 (by kernel_rfl) (fun hS => HC.out _) rfl ?_)
           | (refine Run.callG 64 (by kernel_rfl) ?_ (fun hS => HC.out _) rfl ?_; (· simp only [List.getElem?_cons_zero, List.getElem?_cons_succ]))
           | fail)
           (first
           | (rintro hS e w' ⟨rfl, rfl⟩; refine ⟨_, rfl, hS, ?_⟩)
           | (rintro hS e w' ⟨rfl, hb⟩; refine ⟨_, rfl, nest hS hb, ?_⟩)
           | fail))
        | fail); simp only [Act.put, List.setIfInBounds_toArray, List.set_cons_zero, List.set_cons_succ])
      refine Run.ends (fun hS2 => ?_)
      have HX := Lib.hid hS2
      clear hS2
      go_wp2_with fail
      go_ret
      exact ⟨by rw [HS.out]; rfl, nest HK.out HX.out⟩
    | true =>
      rw [hrv] at HC HS
      have hvl : (m.vals.length : Int) = attrs := by
        have := hrv
        unfold rightV at this
        simp at this
        omega
      obtain ⟨k, hk⟩ := Int.eq_ofNat_of_zero_le hh.1
      obtain ⟨av', gv, ov, cv', hv1, hv2, hv3, hv4, hv5⟩ := Mem.Rd.loopI HM.out.vals
      have hkl : k < m.vals.length := by omega
      have hav : v = .slice (some ⟨gv, ov, none⟩) m.vals.length cv := by
        have h1 := hv1
        rw [HV.out] at h1
        injection h1 with h1 h2 h3
        rw [HV.out, h1, (hv4 (by omega)).1]
      have c1 : w2.cell? ⟨g, 1, none⟩ = some (.int .i64 (k : Int)) := by rw [← hk]; exact HBK.out.cell 1
      have e3' : w2.cell? ⟨g2, 3, none⟩ = some (.slice (some ⟨gv, ov, none⟩) m.vals.length cv) := by rw [← hav]; exact HE.out.cell 3
      have ev : w2.cell? ⟨gv, ov + k, none⟩ = some (.int .u32 (m.vals.getD k 0)) := hv5 k hkl
      have htn : m.hub.toNat = k := by omega
      rw [htn] at HS
      generalize m.vals.getD k 0 = x at ev HS
      have HVL := Lib.hid hvl
      clear hv1 hv2 hv3 hv4 hv5 hav htn hvl e3
      go_wp2_with fail
      cases hx1 : (m.ev == x) with
      | false =>
        rw [hx1] at HS
        refine Run.region_walk (S := fun z => z.cell? ⟨g, 1, none⟩ = some (.int .i64 (k : Int)) ∧ z.cell? ⟨g, 5, none⟩ = some (.int .u32 m.target) ∧ z.cell? ⟨g2, 0, none⟩ = some (.int .u32 m.ev) ∧ z.cell? ⟨g2, 3, none⟩ = some (.slice (some ⟨gv, ov, none⟩) m.vals.length cv) ∧ z.cell? ⟨gv, ov + k, none⟩ = some (.int .u32 x) ∧ Below w2.heap.size w2 z)
          omentry.rows4 omentry.plan4 (l := ?steps2) (by kernel_rfl) (by kernel_rfl) (by kernel_rfl) (by kernel_rfl) ?written2 ⟨c1, c5, e0, e3', ev, (Below.refl _ _).drew⟩ ?onward2
        case written2 =>
          simp only [omentry.plan4, Run.stepsOf, Run.stepOf, Run.guardOf, List.getElem?_toArray, List.getElem?_cons_zero, List.getElem?_cons_succ, Option.map_some, Option.map_none, Option.bind_some, Option.toList_some, List.map_cons, List.map_nil, List.cons_append, List.nil_append]
          rfl
        repeat ((first
          | (refine Run.takes (v := ?_) ?_ ?_; rotate_left; (· intro w' hS'; (first | (refine exec_load_sub (n := 3) (off := 1) (x := .tmp 46) (l := [.int .u64 m.eid, .int .u64 m.ever, v]) (m := ecs m v) ?_ Try.underlying26 rec_info ?_ ?_ (HE.out.keep hS'.2.2.2.2.2) ?_ <;> rfl) | (go_simp; (try with_reducible rfl)))))
          | (refine Run.takesG (v := ?_) ?_ ?_ ?_; rotate_left; (· simp only [List.getElem?_cons_zero, List.getElem?_cons_succ]); (· intro w' hS'; (first | (refine exec_load_sub (n := 3) (off := 1) (x := .tmp 46) (l := [.int .u64 m.eid, .int .u64 m.ever, v]) (m := ecs m v) ?_ Try.underlying26 rec_info ?_ ?_ (HE.out.keep hS'.2.2.2.2.2) ?_ <;> rfl) | (go_simp; (try with_reducible rfl)))))
          | (refine Run.skipsT ?_ ?_; (· simp only [List.getElem?_cons_zero, List.getElem?_cons_succ]))
          | (refine Run.skipsF ?_ ?_; (· simp only [List.getElem?_cons_zero, List.getElem?_cons_succ]))
          | (refine Run.skipsU ?_ ?_; (· simp only [List.getElem?_cons_zero, List.getElem?_cons_succ]))
          | (refine Run.passT ?_ ?_; (· simp only [List.getElem?_cons_zero, List.getElem?_cons_succ]))
          | (refine Run.passF ?_ ?_; (· simp only [List.getElem?_cons_zero, List.getElem?_cons_succ]))
          | (refine Run.passU ?_ ?_; (· simp only [List.getElem?_cons_zero, List.getElem?_cons_succ]))
          | (refine Run.runs ?_
             (first
             | (refine Run.callF 64 (by kernel_rfl) (fun hS => HC.out _) rfl ?_)
             | (refine Run.callG 64 (by kernel_rfl) ?_ (fun hS => HC.out _) rfl ?_; (· simp only [List.getElem?_cons_zero, List.getElem?_cons_succ]))
             | fail)
             (first
             | (rintro hS e w' ⟨rfl, rfl⟩; refine ⟨_, rfl, hS, ?_⟩)
             | (rintro hS e w' ⟨rfl, hb⟩; refine ⟨_, rfl, ⟨kc hb hS.1, kc hb hS.2.1, kc hb hS.2.2.1, kc hb hS.2.2.2.1, kc hb hS.2.2.2.2.1, nest hS.2.2.2.2.2 hb⟩, ?_⟩)
             | fail))
          | fail); simp only [Act.put, List.setIfInBounds_toArray, List.set_cons_zero, List.set_cons_succ])
        refine Run.ends (fun hS2 => ?_)
        have HX := Lib.hid hS2.2.2.2.2.2
        clear hS2
        go_wp2_with fail
        go_ret
        exact ⟨by rw [HS.out]; rfl, nest HK.out HX.out⟩
      | true =>
        rw [hx1] at HS
        cases hx2 : (m.target == m.ev) with
        | false =>
          rw [hx2] at HS
          refine Run.region_walk (S := fun z => z.cell? ⟨g, 1, none⟩ = some (.int .i64 (k : Int)) ∧ z.cell? ⟨g, 5, none⟩ = some (.int .u32 m.target) ∧ z.cell? ⟨g2, 0, none⟩ = some (.int .u32 m.ev) ∧ z.cell? ⟨g2, 3, none⟩ = some (.slice (some ⟨gv, ov, none⟩) m.vals.length cv) ∧ z.cell? ⟨gv, ov + k, none⟩ = some (.int .u32 x) ∧ Below w2.heap.size w2 z)
            omentry.rows4 omentry.plan4 (l := ?steps3) (by kernel_rfl) (by kernel_rfl) (by kernel_rfl) (by kernel_rfl) ?written3 ⟨c1, c5, e0, e3', ev, (Below.refl _ _).drew⟩ ?onward3
          case written3 =>
            simp only [omentry.plan4, Run.stepsOf, Run.stepOf, Run.guardOf, List.getElem?_toArray, List.getElem?_cons_zero, List.getElem?_cons_succ, Option.map_some, Option.map_none, Option.bind_some, Option.toList_some, List.map_cons, List.map_nil, List.cons_append, List.nil_append]
            rfl
          repeat ((first
            | (refine Run.takes (v := ?_) ?_ ?_; rotate_left; (· intro w' hS'; (first | (refine exec_load_sub (n := 3) (off := 1) (x := .tmp 46) (l := [.int .u64 m.eid, .int .u64 m.ever, v]) (m := ecs m v) ?_ Try.underlying26 rec_info ?_ ?_ (HE.out.keep hS'.2.2.2.2.2) ?_ <;> rfl) | (go_simp; (try with_reducible rfl)))))
            | (refine Run.takesG (v := ?_) ?_ ?_ ?_; rotate_left; (· simp only [List.getElem?_cons_zero, List.getElem?_cons_succ]); (· intro w' hS'; (first | (refine exec_load_sub (n := 3) (off := 1) (x := .tmp 46) (l := [.int .u64 m.eid, .int .u64 m.ever, v]) (m := ecs m v) ?_ Try.underlying26 rec_info ?_ ?_ (HE.out.keep hS'.2.2.2.2.2) ?_ <;> rfl) | (go_simp; (try with_reducible rfl)))))
            | (refine Run.skipsT ?_ ?_; (· simp only [List.getElem?_cons_zero, List.getElem?_cons_succ]))
            | (refine Run.skipsF ?_ ?_; (· simp only [List.getElem?_cons_zero, List.getElem?_cons_succ]))
            | (refine Run.skipsU ?_ ?_; (· simp only [List.getElem?_cons_zero, List.getElem?_cons_succ]))
            | (refine Run.passT ?_ ?_; (· simp only [List.getElem?_cons_zero, List.getElem?_cons_succ]))
            | (refine Run.passF ?_ ?_; (· simp only [List.getElem?_cons_zero, List.getElem?_cons_succ]))
            | (refine Run.passU ?_ ?_; (· simp only [List.getElem?_cons_zero, List.getElem?_cons_succ]))
            | (refine Run.runs ?_
               (first
               | (refine Run.callF 64 (by kernel_rfl) (fun hS => HC.out _) rfl ?_)
               | (refine Run.callG 64 (by kernel_rfl) ?_ (fun hS => HC.out _) rfl ?_; (· simp only [List.getElem?_cons_zero, List.getElem?_cons_succ]))
               | fail)
               (first
               | (rintro hS e w' ⟨rfl, rfl⟩; refine ⟨_, rfl, hS, ?_⟩)
               | (rintro hS e w' ⟨rfl, hb⟩; refine ⟨_, rfl, ⟨kc hb hS.1, kc hb hS.2.1, kc hb hS.2.2.1, kc hb hS.2.2.2.1, kc hb hS.2.2.2.2.1, nest hS.2.2.2.2.2 hb⟩, ?_⟩)
               | fail))
            | fail); simp only [Act.put, List.setIfInBounds_toArray, List.set_cons_zero, List.set_cons_succ])
          refine Run.ends (fun hS2 => ?_)
          have HX := Lib.hid hS2.2.2.2.2.2
          clear hS2
          go_wp2_with fail
          go_ret
          exact ⟨by rw [HS.out]; rfl, nest HK.out HX.out⟩
        | true =>
          rw [hx2] at HS
          refine Run.region_walk (S := fun z => z.cell? ⟨g, 1, none⟩ = some (.int .i64 (k : Int)) ∧ z.cell? ⟨g, 5, none⟩ = some (.int .u32 m.target) ∧ z.cell? ⟨g2, 0, none⟩ = some (.int .u32 m.ev) ∧ z.cell? ⟨g2, 3, none⟩ = some (.slice (some ⟨gv, ov, none⟩) m.vals.length cv) ∧ z.cell? ⟨gv, ov + k, none⟩ = some (.int .u32 x) ∧ Below w2.heap.size w2 z)
            omentry.rows4 omentry.plan4 (l := ?steps4) (by kernel_rfl) (by kernel_rfl) (by kernel_rfl) (by kernel_rfl) ?written4 ⟨c1, c5, e0, e3', ev, (Below.refl _ _).drew⟩ ?onward4
          case written4 =>
            simp only [omentry.plan4, Run.stepsOf, Run.stepOf, Run.guardOf, List.getElem?_toArray, List.getElem?_cons_zero, List.getElem?_cons_succ, Option.map_some, Option.map_none, Option.bind_some, Option.toList_some, List.map_cons, List.map_nil, List.cons_append, List.nil_append]
            rfl
          repeat ((first
            | (refine Run.takes (v := ?_) ?_ ?_; rotate_left; (· intro w' hS'; (first | (refine exec_load_sub (n := 3) (off := 1) (x := .tmp 46) (l := [.int .u64 m.eid, .int .u64 m.ever, v]) (m := ecs m v) ?_ Try.underlying26 rec_info ?_ ?_ (HE.out.keep hS'.2.2.2.2.2) ?_ <;> rfl) | (go_simp; (try with_reducible rfl)))))
            | (refine Run.takesG (v := ?_) ?_ ?_ ?_; rotate_left; (· simp only [List.getElem?_cons_zero, List.getElem?_cons_succ]); (· intro w' hS'; (first | (refine exec_load_sub (n := 3) (off := 1) (x := .tmp 46) (l := [.int .u64 m.eid, .int .u64 m.ever, v]) (m := ecs m v) ?_ Try.underlying26 rec_info ?_ ?_ (HE.out.keep hS'.2.2.2.2.2) ?_ <;> rfl) | (go_simp; (try with_reducible rfl)))))
            | (refine Run.skipsT ?_ ?_; (· simp only [List.getElem?_cons_zero, List.getElem?_cons_succ]))
            | (refine Run.skipsF ?_ ?_; (· simp only [List.getElem?_cons_zero, List.getElem?_cons_succ]))
            | (refine Run.skipsU ?_ ?_; (· simp only [List.getElem?_cons_zero, List.getElem?_cons_succ]))
            | (refine Run.passT ?_ ?_; (· simp only [List.getElem?_cons_zero, List.getElem?_cons_succ]))
            | (refine Run.passF ?_ ?_; (· simp only [List.getElem?_cons_zero, List.getElem?_cons_succ]))
            | (refine Run.passU ?_ ?_; (· simp only [List.getElem?_cons_zero, List.getElem?_cons_succ]))
            | (refine Run.runs ?_
               (first
               | (refine Run.callF 64 (by kernel_rfl) (fun hS => HC.out _) rfl ?_)
               | (refine Run.callG 64 (by kernel_rfl) ?_ (fun hS => HC.out _) rfl ?_; (· simp only [List.getElem?_cons_zero, List.getElem?_cons_succ]))
               | fail)
               (first
               | (rintro hS e w' ⟨rfl, rfl⟩; refine ⟨_, rfl, hS, ?_⟩)
               | (rintro hS e w' ⟨rfl, hb⟩; refine ⟨_, rfl, ⟨kc hb hS.1, kc hb hS.2.1, kc hb hS.2.2.1, kc hb hS.2.2.2.1, kc hb hS.2.2.2.2.1, nest hS.2.2.2.2.2 hb⟩, ?_⟩)
               | fail))
            | fail); simp only [Act.put, List.setIfInBounds_toArray, List.set_cons_zero, List.set_cons_succ])
          refine Run.ends (fun hS2 => ?_)
          have HX := Lib.hid hS2.2.2.2.2.2
          clear hS2
          go_wp2_with fail
          go_ret
          exact ⟨by rw [HS.out]; rfl, nest HK.out HX.out⟩
end Go.Proofs.Ythhelhhlofdehaa
/- Package message: rightBox, rightRecords. -/
namespace Go.Proofs.Ythhelhhlofdehaa
open Go.RowKit Mem
set_option linter.unusedSimpArgs false
set_option linter.unusedVariables false
attribute [local irreducible] Go.Calls

def boxV (attrs : Int) (m : Msg) (p : Prt) : Bool := if p.box then rightB attrs m.box && m.box.all bareR else decide (m.box.length = 0)
def recsV (attrs : Int) (m : Msg) (p : Prt) : Bool := if p.recs then decide (m.recs.length ≤ 10000) && m.recs.all (rightR attrs) else decide (m.recs.length = 0)
set_option maxRecDepth 100000 in
set_option maxHeartbeats 4000000 in
theorem orbox_any (attrs : Int) (m : Msg) (p : Prt) (v b r : Value) (w : World) (h : MRd w m v b r) (hb : MB m) :
    Calls Try.prog 44 #[.int .i64 attrs, .agg (mcs m v b r).toArray, .agg (pcs p).toArray] w fun e w' => e = .returned (.bool (boxV attrs m p)) ∧ Below w.heap.size w w' := by
  have hk0 : Below w.heap.size w ((w.alloc (.cells (mcs m v b r).toArray 34)).alloc (.cells (pcs p).toArray 84)) := more (more (Below.refl _ _) _) _
  have hbk : Blk ((w.alloc (.cells (mcs m v b r).toArray 34)).alloc (.cells (pcs p).toArray 84)) w.heap.size 34 (mcs m v b r).toArray := (Blk.new w _ _).keep (more (Below.refl _ _) _)
  have hpk : Blk ((w.alloc (.cells (mcs m v b r).toArray 34)).alloc (.cells (pcs p).toArray 84)) (w.heap.size + 1) 84 (pcs p).toArray := Blk.newAt _ _ _ (size_alloc _ _).symm
  have HM := Lib.hid (h.keep hk0)
  have HBK := Lib.hid hbk
  have HPK := Lib.hid hpk
  have HK := Lib.hid hk0
  clear hk0 hbk hpk h hb
  go_enter Try.func44, Try.ntmps44
  go_upto_region 1 with fail
  generalize (w.alloc (.cells (mcs m v b r).toArray 34)).alloc (.cells (pcs p).toArray 84) = w1 at *
  obtain ⟨g, hg⟩ : ∃ g, g = w.heap.size := ⟨_, rfl⟩
  rw [← hg] at HBK HPK ⊢
  clear hg
  have p5 : w1.cell? ⟨g + 1, 5, none⟩ = some (.bool p.box) := HPK.out.cell 5
  have HRB := Lib.hid (fun z hz => orightb_any attrs b m.box z (HM.out.box.keep hz))
  obtain ⟨ab', gb, ob, cb', hbv, hc1, hc2, ha, hcell⟩ := Rd.loop3 HM.out.box
  have c11 : w1.cell? ⟨g, 16, none⟩ = some b := HBK.out.cell 16
  have HBC := Lib.hid hcell
  have HBA := Lib.hid ha
  have hcb : cb' ≤ 9223372036854775807 := hc2
  rw [hbv] at c11 HRB
  have HBV := Lib.hid hbv
  clear hcell ha hc2 hbv
  cases hpb : p.box with
  | false =>
    rw [hpb] at p5
    have HS : Hid (boxV attrs m p = decide (m.box.length = 0)) := Lib.hid (by unfold boxV; rw [if_neg (by simp [hpb])])
    clear hpb
    go_wp2_with fail
    go_ret
    exact ⟨by rw [HS.out]; refine congrArg (fun x => Ending.returned (Value.bool x)) ?_; rw [Bool.eq_iff_iff]; simp <;> omega, HK.out⟩
  | true =>
    rw [hpb] at p5
    have HS : Hid (boxV attrs m p = (rightB attrs m.box && m.box.all bareR)) := Lib.hid (by unfold boxV; rw [if_pos hpb])
    clear hpb
    cases hrb : rightB attrs m.box with
    | false =>
      rw [hrb] at HS HRB
      go_wp2_with (go_at_call 65; refine (HRB.out _ (Below.refl _ _)).mono ?_; rintro e w3 ⟨rfl, hk3⟩)
      go_ret
      exact ⟨by rw [HS.out]; rfl, nest HK.out hk3⟩
    | true =>
      rw [hrb, Bool.true_and] at HS
      rw [hrb] at HRB
      have HY : Hid ((∀ i, i < m.box.length → bareR (m.box.getD i (0, 0, 0)) = true) → m.box.all bareR = true) := Lib.hid (fun h => all_yes h)
      have HN : Hid (∀ k, k < m.box.length → bareR (m.box.getD k (0, 0, 0)) = false → m.box.all bareR = false) := Lib.hid (fun k hk h => all_no hk h)
      have hlen8 : m.box.length ≤ 8 := by
        have := hrb
        unfold rightB at this
        simp at this
        omega
      generalize m.box.all bareR = res at HS HY HN
      clear hrb
      go_wp2_with (go_at_call 65; refine (HRB.out _ (Below.refl _ _)).mono ?_; rintro e w3 ⟨rfl, hk3⟩; have d11 := kc hk3 c11)
      have HK3' := Lib.hid hk3
      clear hk3
      go_loopw [24] (fun i wr => ∃ k : Nat, k ≤ m.box.length ∧ i = .int .i64 k ∧ (∀ i, i < k → bareR (m.box.getD i (0, 0, 0)) = true) ∧ Below w1.heap.size w1 wr) (fun i _ => m.box.length - (intOf i).toNat)
      case atStart => exact ⟨0, Nat.zero_le _, rfl, fun i hi => absurd hi (Nat.not_lt_zero _), HK3'.out⟩
      case round =>
        obtain ⟨k, hk, rfl, hu, hkr⟩ := hrel
        have HKR := Lib.hid hkr
        have HU := Lib.hid hu
        clear hu hkr
        by_cases hlt : k < m.box.length
        · obtain ⟨rfl, hg⟩ := HBA.out (by omega)
          have e1 := kc HKR.out (HBC.out k hlt).1
          have e2 := kc HKR.out (HBC.out k hlt).2.1
          have e3 := kc HKR.out (HBC.out k hlt).2.2
          have HX : Hid (bareR (m.box.getD k (0, 0, 0)) = true → ∀ i, i < k + 1 → bareR (m.box.getD i (0, 0, 0)) = true) := Lib.hid (fun h => next_all HU.out h)
          have HNk := Lib.hid (HN.out k hlt)
          generalize m.box.getD k (0, 0, 0) = q at *
          obtain ⟨x, y, u⟩ := q
          simp only [] at e1 e2 e3
          by_cases hx2 : x = 2
          · subst hx2
            have hbr : bareR (2, y, u) = true := rfl
            have HBR := Lib.hid hbr
            clear hbr
            go_wp2_with fail
            go_roundw
            case rel =>
              exact ⟨k + 1, by omega, by go_num, HX.out HBR.out, more HKR.out _⟩
            case measure => simp [intOf]; omega
          have ex : (x == 2) = false := by simpa using hx2
          have enx : (x != 2) = true := by simpa using hx2
          by_cases hy : y = 0
          · subst hy
            by_cases hu0 : u = 0
            · subst hu0
              have HBR : Hid (bareR (x, 0, 0) = true) := Lib.hid (by simp [bareR])
              go_wp2_with fail
              go_roundw
              case rel =>
                exact ⟨k + 1, by omega, by go_num, HX.out HBR.out, more HKR.out _⟩
              case measure => simp [intOf]; omega
            · have eu : (u == 0) = false := by simpa using hu0
              have enu : (u != 0) = true := by simpa using hu0
              have HBR : Hid (bareR (x, 0, u) = false) := Lib.hid (by simp [bareR, ex, eu, hx2, hu0])
              go_wp2_with fail
              go_ret
              exact ⟨by rw [HS.out, HNk.out HBR.out]; rfl, nest HK.out (more HKR.out _)⟩
          · have ey : (y == 0) = false := by simpa using hy
            have eny : (y != 0) = true := by simpa using hy
            have HBR : Hid (bareR (x, y, u) = false) := Lib.hid (by simp [bareR, ex, ey, hx2, hy])
            go_wp2_with fail
            go_ret
            exact ⟨by rw [HS.out, HNk.out HBR.out]; rfl, nest HK.out (more HKR.out _)⟩
        · have hkn : k = m.box.length := by omega
          subst hkn
          have HF := Lib.hid (HY.out HU.out)
          go_wp2_with fail
          go_ret
          exact ⟨by rw [HS.out, HF.out]; rfl, nest HK.out HKR.out⟩
set_option maxRecDepth 100000 in
set_option maxHeartbeats 4000000 in
theorem orrecs_any (attrs : Int) (m : Msg) (p : Prt) (v b r : Value) (w : World) (h : MRd w m v b r) (hb : MB m) :
    Calls Try.prog 45 #[.int .i64 attrs, .agg (mcs m v b r).toArray, .agg (pcs p).toArray] w fun e w' => e = .returned (.bool (recsV attrs m p)) ∧ Below w.heap.size w w' := by
  have hk0 : Below w.heap.size w ((w.alloc (.cells (mcs m v b r).toArray 34)).alloc (.cells (pcs p).toArray 84)) := more (more (Below.refl _ _) _) _
  have hbk : Blk ((w.alloc (.cells (mcs m v b r).toArray 34)).alloc (.cells (pcs p).toArray 84)) w.heap.size 34 (mcs m v b r).toArray := (Blk.new w _ _).keep (more (Below.refl _ _) _)
  have hpk : Blk ((w.alloc (.cells (mcs m v b r).toArray 34)).alloc (.cells (pcs p).toArray 84)) (w.heap.size + 1) 84 (pcs p).toArray := Blk.newAt _ _ _ (size_alloc _ _).symm
  have HM := Lib.hid (h.keep hk0)
  have HBK := Lib.hid hbk
  have HPK := Lib.hid hpk
  have HK := Lib.hid hk0
  clear hk0 hbk hpk h hb
  go_enter Try.func45, Try.ntmps45
  go_upto_region 1 with fail
  generalize (w.alloc (.cells (mcs m v b r).toArray 34)).alloc (.cells (pcs p).toArray 84) = w1 at *
  obtain ⟨g, hg⟩ : ∃ g, g = w.heap.size := ⟨_, rfl⟩
  rw [← hg] at HBK HPK ⊢
  clear hg
  have p6 : w1.cell? ⟨g + 1, 6, none⟩ = some (.bool p.recs) := HPK.out.cell 6
  obtain ⟨ar', gr', or'', cr', hrv, hc1, hc2, ha, hcell⟩ := kd_loop HM.out.recs
  have c17 : w1.cell? ⟨g, 17, none⟩ = some r := HBK.out.cell 17
  have HBC := Lib.hid hcell
  have HBA := Lib.hid ha
  have hcb : cr' ≤ 9223372036854775807 := hc2
  rw [hrv] at c17
  have HRV := Lib.hid hrv
  clear hcell ha hc2 hrv
  cases hpb : p.recs with
  | false =>
    rw [hpb] at p6
    have HS : Hid (recsV attrs m p = decide (m.recs.length = 0)) := Lib.hid (by unfold recsV; rw [if_neg (by simp [hpb])])
    clear hpb
    go_wp2_with fail
    go_ret
    exact ⟨by rw [HS.out]; refine congrArg (fun x => Ending.returned (Value.bool x)) ?_; rw [Bool.eq_iff_iff]; simp <;> omega, HK.out⟩
  | true =>
    rw [hpb] at p6
    have HS : Hid (recsV attrs m p = (decide (m.recs.length ≤ 10000) && m.recs.all (rightR attrs))) := Lib.hid (by unfold recsV; rw [if_pos hpb])
    clear hpb
    by_cases hl4 : m.recs.length ≤ 10000
    case neg =>
      rw [decide_eq_false hl4] at HS
      go_wp2_with fail
      go_ret
      exact ⟨by rw [HS.out]; rfl, HK.out⟩
    rw [decide_eq_true hl4, Bool.true_and] at HS
    have HY : Hid ((∀ i, i < m.recs.length → rightR attrs (m.recs.getD i (0, 0, [])) = true) → m.recs.all (rightR attrs) = true) := Lib.hid (fun h => all_yes h)
    have HN : Hid (∀ k, k < m.recs.length → rightR attrs (m.recs.getD k (0, 0, [])) = false → m.recs.all (rightR attrs) = false) := Lib.hid (fun k hk h => all_no hk h)
    generalize m.recs.all (rightR attrs) = res at HS HY HN
    go_wp2_with fail
    go_loopw [23] (fun i wr => ∃ k : Nat, k ≤ m.recs.length ∧ i = .int .i64 k ∧ (∀ i, i < k → rightR attrs (m.recs.getD i (0, 0, [])) = true) ∧ Below w1.heap.size w1 wr) (fun i _ => m.recs.length - (intOf i).toNat)
    case atStart => exact ⟨0, Nat.zero_le _, rfl, fun i hi => absurd hi (Nat.not_lt_zero _), Below.refl _ _⟩
    case round =>
      obtain ⟨k, hk, rfl, hu, hkr⟩ := hrel
      have HKR := Lib.hid hkr
      have HU := Lib.hid hu
      clear hu hkr
      by_cases hlt : k < m.recs.length
      · have hbk := HBA.out (by omega)
        subst hbk
        have HX : Hid (rightR attrs (m.recs.getD k (0, 0, [])) = true → ∀ i, i < k + 1 → rightR attrs (m.recs.getD i (0, 0, [])) = true) := Lib.hid (fun h => next_all HU.out h)
        have HNk := Lib.hid (HN.out k hlt)
        have hy : m.recs[k]? = some (m.recs.getD k (0, 0, [])) := by simp [List.getD, List.getElem?_eq_getElem hlt]
        obtain ⟨es, he, hre⟩ := HBC.out k _ hy
        clear hy
        generalize m.recs.getD k (0, 0, []) = q at *
        obtain ⟨x, y, u⟩ := q
        obtain ⟨vq, rfl, w1', w2', hrd, hbq⟩ := record_cells hre
        obtain ⟨aq, cq, rfl, _, _⟩ := hrd.form
        have e1 := kc HKR.out (he 0 (by decide))
        have e2 := kc HKR.out (he 1 (by decide))
        have e3 := kc HKR.out (he 2 (by decide))
        have hx0 := (bdu64 w1').1
        have hy0 := (bdu64 w2').1
        simp only [] at hx0 hy0
        have HC : Hid (∀ z, Calls Try.prog 64 #[.int .i64 attrs, .agg #[.int .u64 x, .int .u64 y, .slice aq u.length cq]] z fun e w' => e = .returned (.bool (rightR attrs (x, y, u))) ∧ Below z.heap.size z w') := Lib.hid (fun z => right_any attrs x y hx0 hy0 aq u.length cq z)
        have hs3 : recordK.size = 3 := rfl
        rw [hs3] at e1 e2 e3
        simp only [List.getElem?_cons_zero, List.getElem?_cons_succ, Nat.add_zero] at e1 e2 e3
        rw [← Nat.add_assoc] at e2 e3
        clear he hre w1' w2' hrd hbq hx0 hy0
        cases hr : rightR attrs (x, y, u) with
        | true =>
          rw [hr] at HC
          have HQ := Lib.hid (HX.out hr)
          clear hr
          go_wp2_with (go_at_call 64; refine (HC.out _).mono ?_; rintro e w3 ⟨rfl, hk3⟩)
          go_roundw
          case rel =>
            exact ⟨k + 1, by omega, by go_num, HQ.out, nest (more HKR.out _) hk3⟩
          case measure => simp [intOf]; omega
        | false =>
          rw [hr] at HC
          have HQ := Lib.hid (HNk.out hr)
          clear hr
          go_wp2_with (go_at_call 64; refine (HC.out _).mono ?_; rintro e w3 ⟨rfl, hk3⟩)
          go_ret
          exact ⟨by rw [HS.out, HQ.out]; rfl, nest HK.out (nest (more HKR.out _) hk3)⟩
      · have hkn : k = m.recs.length := by omega
        subst hkn
        have HF := Lib.hid (HY.out HU.out)
        go_wp2_with fail
        go_ret
        exact ⟨by rw [HS.out, HF.out]; rfl, nest HK.out HKR.out⟩
end Go.Proofs.Ythhelhhlofdehaa
