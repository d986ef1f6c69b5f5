/- The document's answer for package message: first, Right. -/
import Derived.Test.YthhelhhlofdehaaMsg
import Derived.Test.YthhelhhlofdehaaMsgPlans
import Derived.Test.YthhelhhlofdehaaRun
import Derived.Deep.DeepCutAuto
import Derived.Deep.CutBlock
import Derived.Deep.Light
set_option maxRecDepth 4000
namespace Go.Proofs.Ythhelhhlofdehaa
open Go.RowKit Mem
set_option linter.unusedSimpArgs false
set_option linter.unusedVariables false
attribute [local irreducible] Go.Calls

def okN : Value → Nat
  | .bool true => 1
  | _ => 0
theorem entry_zero (m : Msg) : sameE m.ev m.eid m.ever m.vals m.gone 0 0 0 [] false = decide (m.ev = 0 ∧ m.gone = false ∧ m.eid = 0 ∧ m.ever = 0 ∧ m.vals = []) := by
  unfold sameE sameV
  by_cases h1 : m.ev = 0 <;> by_cases h2 : m.eid = 0 <;> by_cases h3 : m.ever = 0 <;> by_cases h4 : m.vals = [] <;> cases hg : m.gone <;> simp [h1, h2, h3, h4]
theorem rfirst_any (m : Msg) (v b r : Value) (w : World) : Calls Try.prog 32 #[.agg (mcs m v b r).toArray] w fun e w' => e = .returned (.bool (firstM m)) ∧ Below w.heap.size w w' := by
  unfold firstM
  by_cases h1 : 1 ≤ m.kind
  · by_cases h2 : m.kind ≤ 4
    · rw [decide_eq_true ⟨h1, h2⟩]
      unfold mcs
      go_enter Try.func32, Try.ntmps32
      go_wp2_with fail
      go_ret
      exact ⟨rfl, more (Below.refl _ _) _⟩
    · rw [decide_eq_false (by omega)]
      unfold mcs
      go_enter Try.func32, Try.ntmps32
      go_wp2_with fail
      go_ret
      exact ⟨rfl, more (Below.refl _ _) _⟩
  · rw [decide_eq_false (by omega)]
    unfold mcs
    go_enter Try.func32, Try.ntmps32
    go_wp2_with fail
    go_ret
    exact ⟨rfl, more (Below.refl _ _) _⟩

set_option maxRecDepth 100000 in
set_option maxHeartbeats 4000000 in
theorem rmright_any (attrs : Int) (m : Msg) (v b r : Value) (w : World) (h : MRd w m v b r) (hb : MB m) :
    Calls Try.prog 17 #[.int .i64 attrs, .agg (mcs m v b r).toArray] w fun e w' => e = .returned (.bool (rightM attrs m)) ∧ Below w.heap.size w w' := by
  obtain ⟨av, cv, rfl, hv1, hv2⟩ := h.vals.form
  obtain ⟨ab, cb, rfl, hb1, hb2⟩ := h.box.form
  obtain ⟨ar, gr, or', cr, rfl, hr1, hr2, hr3, hr4⟩ := kd_loop h.recs
  obtain ⟨v, hv⟩ : ∃ v, v = Value.slice av m.vals.length cv := ⟨_, rfl⟩
  obtain ⟨b, hb'⟩ : ∃ b, b = Value.slice ab m.box.length cb := ⟨_, rfl⟩
  obtain ⟨r, hr'⟩ : ∃ r, r = Value.slice ar m.recs.length cr := ⟨_, rfl⟩
  rw [← hv, ← hb', ← hr'] at h ⊢
  have HV := Lib.hid hv
  have HBX := Lib.hid hb'
  have HRC := Lib.hid hr'
  have HBD := Lib.hid hb
  clear hv hb' hr' hr1 hr2 hr3 hr4 hb1 hb2 hv1 hv2 hb
  have hk0 : Below w.heap.size w (w.alloc (.cells (mcs m v b r).toArray 34)) := more (Below.refl _ _) _
  have HBK := Lib.hid (Blk.new w 34 (mcs m v b r).toArray)
  have HK := Lib.hid hk0
  have HM := Lib.hid (h.keep hk0)
  clear hk0 h
  go_enter Try.func17, Try.ntmps17
  go_upto_region 1 with fail
  rename_i K0 hK0
  generalize w.alloc (.cells (mcs m v b r).toArray 34) = w1 at *
  obtain ⟨g, hg⟩ : ∃ g, g = w.heap.size := ⟨_, rfl⟩
  rw [← hg] at HBK ⊢
  clear hg
  have c0 : w1.cell? ⟨g, 0, none⟩ = some (.int .i64 m.kind) := HBK.out.cell 0
  have c1 : w1.cell? ⟨g, 1, none⟩ = some (.int .i64 m.hub) := HBK.out.cell 1
  have c3 : w1.cell? ⟨g, 3, none⟩ = some (.int .i64 m.client) := HBK.out.cell 3
  have c4 : w1.cell? ⟨g, 4, none⟩ = some (.int .i64 m.op) := HBK.out.cell 4
  have c6 : w1.cell? ⟨g, 6, none⟩ = some (.int .i64 m.hops) := HBK.out.cell 6
  go_cut [5] from 8 to 64 (fun ok wx => ok = .bool (s1M attrs m) ∧ wx = w1)
  case first =>
    clear hK0
    skip
    go_wp2_with fail
    all_goals
      go_meet
      case rel => exact ⟨congrArg Value.bool (by unfold s1M; first | exact (decide_eq_true (by omega)).symm | exact (decide_eq_false (by omega)).symm | (by_cases hq : m.kind ≤ 6; (· rw [decide_eq_true hq]; exact (decide_eq_true (by omega)).symm); (· rw [decide_eq_false hq]; exact (decide_eq_false (by omega)).symm))), rfl⟩
  case rest =>
    obtain ⟨rfl, rfl⟩ := hcut
    clear c1 c3 c4 c6
    cases hs1 : s1M attrs m with
    | false =>
      have HR : Hid (rightM attrs m = false) := Lib.hid (by unfold rightM; rw [hs1]; rfl)
      go_wp2_with fail
      go_ret
      exact ⟨by rw [HR.out]; rfl, HK.out⟩
    | true =>
    have HR : Hid (rightM attrs m = (s2M attrs m && (s3M attrs m && (s4M attrs m && (s5M m && (s6M m && (s7M m && s8M m))))))) := Lib.hid (by unfold rightM; rw [hs1, Bool.true_and])
    obtain ⟨b1, b2, b3, b4, b5, b6, b7, b8, b9, b10, b11, b12⟩ := of_decide_eq_true hs1
    clear hs1
    go_upto_if 68 with (first | (refine wpList_load_row rfl 34 (.tmp 3) rfl g rfl 34 (mcs m v b r).toArray (0, 0) _ HBK.out Try.underlying34 rfl msg_info ?_) | (go_at_call 32; refine (rfirst_any m v b r _).mono ?_; rintro e w2 ⟨rfl, hk2⟩))
    rename_i K1 hK1
    have HB2 := Lib.hid (HBK.out.keep hk2)
    have HM2 := Lib.hid (HM.out.keep hk2)
    have HK2 := Lib.hid (nest HK.out hk2)
    have d0 := (HB2.out).cell 0
    clear hk2 HBK HM HK c0
    go_cut [5] from 68 to 104 (fun ok wx => ok = .bool (s2M attrs m) ∧ Below w2.heap.size w2 wx)
    case first =>
      clear hK1
      by_cases hf : 1 ≤ m.kind ∧ m.kind ≤ 4
      · have hfm : firstM m = true := decide_eq_true hf
        have HS : Hid (s2M attrs m = (rightV attrs m.eid m.ever m.vals.length && ((m.vals.getD m.hub.toNat 0 == m.ev) && (m.target == m.ev)))) := Lib.hid (by unfold s2M; rw [if_pos hf])
        have HC : Hid (∀ z, Calls Try.prog 46 #[.int .i64 attrs, .agg #[.int .u64 m.eid, .int .u64 m.ever, v]] z fun e w' => e = .returned (.bool (rightV attrs m.eid m.ever m.vals.length)) ∧ Below z.heap.size z w') := Lib.hid (fun z => by rw [HV.out]; exact rright_any attrs m.eid m.ever HBD.out.eid.1 HBD.out.ever.1 av m.vals.length cv z)
        cases hrv : rightV attrs m.eid m.ever m.vals.length with
        | false =>
          rw [hrv] at HC HS
          rw [hfm]
          go_wp2_with fail
          refine Run.region_walk (S := fun z => Below w2.heap.size w2 z)
            rmright.rows5 rmright.plan5 (l := ?steps1) (by kernel_rfl) (by kernel_rfl) (by kernel_rfl) (by kernel_rfl) ?written1 (Below.refl _ _).drew ?onward1
          case written1 =>
            simp only [rmright.plan5, Run.stepsOf, Run.stepOf, Run.guardOf, List.getElem?_toArray, List.getElem?_cons_zero, List.getElem?_cons_succ, Option.map_some, Option.map_none, Option.bind_some, Option.toList_some, List.map_cons, List.map_nil, List.cons_append, List.nil_append]
            rfl
          repeat ((first
            | (refine Run.takes (v := ?_) ?_ ?_; rotate_left; (· intro w' hS'; (first | (refine exec_load_sub (n := 3) (off := 10) (x := .tmp 71) (l := [.int .u64 m.eid, .int .u64 m.ever, v]) (m := mcs m v b r) ?_ Try.underlying26 rec_info ?_ ?_ (HB2.out.keep hS') ?_ <;> rfl) | (go_simp; (try with_reducible rfl)))))
            | (refine Run.takesG (v := ?_) ?_ ?_ ?_; rotate_left; (· simp only [List.getElem?_cons_zero, List.getElem?_cons_succ]); (· intro w' hS'; (first | (refine exec_load_sub (n := 3) (off := 10) (x := .tmp 71) (l := [.int .u64 m.eid, .int .u64 m.ever, v]) (m := mcs m v b r) ?_ Try.underlying26 rec_info ?_ ?_ (HB2.out.keep hS') ?_ <;> rfl) | (go_simp; (try with_reducible rfl)))))
            | (refine Run.skipsT ?_ ?_; (· simp only [List.getElem?_cons_zero, List.getElem?_cons_succ]))
            | (refine Run.skipsF ?_ ?_; (· simp only [List.getElem?_cons_zero, List.getElem?_cons_succ]))
            | (refine Run.skipsU ?_ ?_; (· simp only [List.getElem?_cons_zero, List.getElem?_cons_succ]))
            | (refine Run.passT ?_ ?_; (· simp only [List.getElem?_cons_zero, List.getElem?_cons_succ]))
            | (refine Run.passF ?_ ?_; (· simp only [List.getElem?_cons_zero, List.getElem?_cons_succ]))
            | (refine Run.passU ?_ ?_; (· simp only [List.getElem?_cons_zero, List.getElem?_cons_succ]))
            | (refine Run.runs ?_
               (first
               | (refine Run.callF 46 (by kernel_rfl) (fun hS => HC.out _) rfl ?_)
               | (refine Run.callG 46 (by kernel_rfl) ?_ (fun hS => HC.out _) rfl ?_; (· simp only [List.getElem?_cons_zero, List.getElem?_cons_succ]))
               | fail)
               (first
               | (rintro hS e w' ⟨rfl, rfl⟩; refine ⟨_, rfl, hS, ?_⟩)
               | (rintro hS e w' ⟨rfl, hb⟩; refine ⟨_, rfl, nest hS hb, ?_⟩)
               | fail))
            | fail); simp only [Act.put, List.setIfInBounds_toArray, List.set_cons_zero, List.set_cons_succ])
          refine Run.ends (fun hS2 => ?_)
          have HX := Lib.hid hS2
          clear hS2
          go_wp2_with fail
          go_meet
          case rel => exact ⟨by rw [HS.out]; rfl, HX.out⟩
        | true =>
          rw [hrv] at HC HS
          rw [hfm]
          have hvl : (m.vals.length : Int) = attrs := by
            have := hrv
            unfold rightV at this
            simp at this
            omega
          obtain ⟨k, hk⟩ := Int.eq_ofNat_of_zero_le b3
          obtain ⟨av', gv, ov, cv', hv1, hv2, hv3, hv4, hv5⟩ := Mem.Rd.loopI HM2.out.vals
          have hkl : k < m.vals.length := by omega
          have hav : v = .slice (some ⟨gv, ov, none⟩) m.vals.length cv := by
            have h1 := hv1
            rw [HV.out] at h1
            injection h1 with h1 h2 h3
            rw [HV.out, h1, (hv4 (by omega)).1]
          have e1 : w2.cell? ⟨g, 1, none⟩ = some (.int .i64 (k : Int)) := by rw [← hk]; exact HB2.out.cell 1
          have e5 : w2.cell? ⟨g, 5, none⟩ = some (.int .u32 m.target) := HB2.out.cell 5
          have e9 : w2.cell? ⟨g, 9, none⟩ = some (.int .u32 m.ev) := HB2.out.cell 9
          have e12 : w2.cell? ⟨g, 12, none⟩ = some (.slice (some ⟨gv, ov, none⟩) m.vals.length cv) := by rw [← hav]; exact HB2.out.cell 12
          have ev : w2.cell? ⟨gv, ov + k, none⟩ = some (.int .u32 (m.vals.getD k 0)) := hv5 k hkl
          have htn : m.hub.toNat = k := by omega
          rw [htn] at HS
          generalize m.vals.getD k 0 = x at ev HS
          have HVL := Lib.hid hvl
          clear hv1 hv2 hv3 hv4 hv5 hav htn hvl
          go_wp2_with fail
          cases hx1 : (x == m.ev) with
          | false =>
            rw [hx1] at HS
            refine Run.region_walk (S := fun z => z.cell? ⟨g, 1, none⟩ = some (.int .i64 (k : Int)) ∧ z.cell? ⟨g, 5, none⟩ = some (.int .u32 m.target) ∧ z.cell? ⟨g, 9, none⟩ = some (.int .u32 m.ev) ∧ z.cell? ⟨g, 12, none⟩ = some (.slice (some ⟨gv, ov, none⟩) m.vals.length cv) ∧ z.cell? ⟨gv, ov + k, none⟩ = some (.int .u32 x) ∧ Below w2.heap.size w2 z)
              rmright.rows5 rmright.plan5 (l := ?steps2) (by kernel_rfl) (by kernel_rfl) (by kernel_rfl) (by kernel_rfl) ?written2 ⟨e1, e5, e9, e12, ev, (Below.refl _ _).drew⟩ ?onward2
            case written2 =>
              simp only [rmright.plan5, Run.stepsOf, Run.stepOf, Run.guardOf, List.getElem?_toArray, List.getElem?_cons_zero, List.getElem?_cons_succ, Option.map_some, Option.map_none, Option.bind_some, Option.toList_some, List.map_cons, List.map_nil, List.cons_append, List.nil_append]
              rfl
            repeat ((first
              | (refine Run.takes (v := ?_) ?_ ?_; rotate_left; (· intro w' hS'; (first | (refine exec_load_sub (n := 3) (off := 10) (x := .tmp 71) (l := [.int .u64 m.eid, .int .u64 m.ever, v]) (m := mcs m v b r) ?_ Try.underlying26 rec_info ?_ ?_ (HB2.out.keep hS'.2.2.2.2.2) ?_ <;> rfl) | (go_simp; (try with_reducible rfl)))))
              | (refine Run.takesG (v := ?_) ?_ ?_ ?_; rotate_left; (· simp only [List.getElem?_cons_zero, List.getElem?_cons_succ]); (· intro w' hS'; (first | (refine exec_load_sub (n := 3) (off := 10) (x := .tmp 71) (l := [.int .u64 m.eid, .int .u64 m.ever, v]) (m := mcs m v b r) ?_ Try.underlying26 rec_info ?_ ?_ (HB2.out.keep hS'.2.2.2.2.2) ?_ <;> rfl) | (go_simp; (try with_reducible rfl)))))
              | (refine Run.skipsT ?_ ?_; (· simp only [List.getElem?_cons_zero, List.getElem?_cons_succ]))
              | (refine Run.skipsF ?_ ?_; (· simp only [List.getElem?_cons_zero, List.getElem?_cons_succ]))
              | (refine Run.skipsU ?_ ?_; (· simp only [List.getElem?_cons_zero, List.getElem?_cons_succ]))
              | (refine Run.passT ?_ ?_; (· simp only [List.getElem?_cons_zero, List.getElem?_cons_succ]))
              | (refine Run.passF ?_ ?_; (· simp only [List.getElem?_cons_zero, List.getElem?_cons_succ]))
              | (refine Run.passU ?_ ?_; (· simp only [List.getElem?_cons_zero, List.getElem?_cons_succ]))
              | (refine Run.runs ?_
                 (first
                 | (refine Run.callF 46 (by kernel_rfl) (fun hS => HC.out _) rfl ?_)
                 | (refine Run.callG 46 (by kernel_rfl) ?_ (fun hS => HC.out _) rfl ?_; (· simp only [List.getElem?_cons_zero, List.getElem?_cons_succ]))
                 | fail)
                 (first
                 | (rintro hS e w' ⟨rfl, rfl⟩; refine ⟨_, rfl, hS, ?_⟩)
                 | (rintro hS e w' ⟨rfl, hb⟩; refine ⟨_, rfl, ⟨kc hb hS.1, kc hb hS.2.1, kc hb hS.2.2.1, kc hb hS.2.2.2.1, kc hb hS.2.2.2.2.1, nest hS.2.2.2.2.2 hb⟩, ?_⟩)
                 | fail))
              | fail); simp only [Act.put, List.setIfInBounds_toArray, List.set_cons_zero, List.set_cons_succ])
            refine Run.ends (fun hS2 => ?_)
            have HX := Lib.hid hS2.2.2.2.2.2
            clear hS2
            go_wp2_with fail
            go_meet
            case rel => exact ⟨by rw [HS.out]; rfl, HX.out⟩
          | true =>
            rw [hx1] at HS
            cases hx2 : (m.target == m.ev) with
            | false =>
              rw [hx2] at HS
              refine Run.region_walk (S := fun z => z.cell? ⟨g, 1, none⟩ = some (.int .i64 (k : Int)) ∧ z.cell? ⟨g, 5, none⟩ = some (.int .u32 m.target) ∧ z.cell? ⟨g, 9, none⟩ = some (.int .u32 m.ev) ∧ z.cell? ⟨g, 12, none⟩ = some (.slice (some ⟨gv, ov, none⟩) m.vals.length cv) ∧ z.cell? ⟨gv, ov + k, none⟩ = some (.int .u32 x) ∧ Below w2.heap.size w2 z)
                rmright.rows5 rmright.plan5 (l := ?steps3) (by kernel_rfl) (by kernel_rfl) (by kernel_rfl) (by kernel_rfl) ?written3 ⟨e1, e5, e9, e12, ev, (Below.refl _ _).drew⟩ ?onward3
              case written3 =>
                simp only [rmright.plan5, Run.stepsOf, Run.stepOf, Run.guardOf, List.getElem?_toArray, List.getElem?_cons_zero, List.getElem?_cons_succ, Option.map_some, Option.map_none, Option.bind_some, Option.toList_some, List.map_cons, List.map_nil, List.cons_append, List.nil_append]
                rfl
              repeat ((first
                | (refine Run.takes (v := ?_) ?_ ?_; rotate_left; (· intro w' hS'; (first | (refine exec_load_sub (n := 3) (off := 10) (x := .tmp 71) (l := [.int .u64 m.eid, .int .u64 m.ever, v]) (m := mcs m v b r) ?_ Try.underlying26 rec_info ?_ ?_ (HB2.out.keep hS'.2.2.2.2.2) ?_ <;> rfl) | (go_simp; (try with_reducible rfl)))))
                | (refine Run.takesG (v := ?_) ?_ ?_ ?_; rotate_left; (· simp only [List.getElem?_cons_zero, List.getElem?_cons_succ]); (· intro w' hS'; (first | (refine exec_load_sub (n := 3) (off := 10) (x := .tmp 71) (l := [.int .u64 m.eid, .int .u64 m.ever, v]) (m := mcs m v b r) ?_ Try.underlying26 rec_info ?_ ?_ (HB2.out.keep hS'.2.2.2.2.2) ?_ <;> rfl) | (go_simp; (try with_reducible rfl)))))
                | (refine Run.skipsT ?_ ?_; (· simp only [List.getElem?_cons_zero, List.getElem?_cons_succ]))
                | (refine Run.skipsF ?_ ?_; (· simp only [List.getElem?_cons_zero, List.getElem?_cons_succ]))
                | (refine Run.skipsU ?_ ?_; (· simp only [List.getElem?_cons_zero, List.getElem?_cons_succ]))
                | (refine Run.passT ?_ ?_; (· simp only [List.getElem?_cons_zero, List.getElem?_cons_succ]))
                | (refine Run.passF ?_ ?_; (· simp only [List.getElem?_cons_zero, List.getElem?_cons_succ]))
                | (refine Run.passU ?_ ?_; (· simp only [List.getElem?_cons_zero, List.getElem?_cons_succ]))
                | (refine Run.runs ?_
                   (first
                   | (refine Run.callF 46 (by kernel_rfl) (fun hS => HC.out _) rfl ?_)
                   | (refine Run.callG 46 (by kernel_rfl) ?_ (fun hS => HC.out _) rfl ?_; (· simp only [List.getElem?_cons_zero, List.getElem?_cons_succ]))
                   | fail)
                   (first
                   | (rintro hS e w' ⟨rfl, rfl⟩; refine ⟨_, rfl, hS, ?_⟩)
                   | (rintro hS e w' ⟨rfl, hb⟩; refine ⟨_, rfl, ⟨kc hb hS.1, kc hb hS.2.1, kc hb hS.2.2.1, kc hb hS.2.2.2.1, kc hb hS.2.2.2.2.1, nest hS.2.2.2.2.2 hb⟩, ?_⟩)
                   | fail))
                | fail); simp only [Act.put, List.setIfInBounds_toArray, List.set_cons_zero, List.set_cons_succ])
              refine Run.ends (fun hS2 => ?_)
              have HX := Lib.hid hS2.2.2.2.2.2
              clear hS2
              go_wp2_with fail
              go_meet
              case rel => exact ⟨by rw [HS.out]; rfl, HX.out⟩
            | true =>
              rw [hx2] at HS
              refine Run.region_walk (S := fun z => z.cell? ⟨g, 1, none⟩ = some (.int .i64 (k : Int)) ∧ z.cell? ⟨g, 5, none⟩ = some (.int .u32 m.target) ∧ z.cell? ⟨g, 9, none⟩ = some (.int .u32 m.ev) ∧ z.cell? ⟨g, 12, none⟩ = some (.slice (some ⟨gv, ov, none⟩) m.vals.length cv) ∧ z.cell? ⟨gv, ov + k, none⟩ = some (.int .u32 x) ∧ Below w2.heap.size w2 z)
                rmright.rows5 rmright.plan5 (l := ?steps4) (by kernel_rfl) (by kernel_rfl) (by kernel_rfl) (by kernel_rfl) ?written4 ⟨e1, e5, e9, e12, ev, (Below.refl _ _).drew⟩ ?onward4
              case written4 =>
                simp only [rmright.plan5, Run.stepsOf, Run.stepOf, Run.guardOf, List.getElem?_toArray, List.getElem?_cons_zero, List.getElem?_cons_succ, Option.map_some, Option.map_none, Option.bind_some, Option.toList_some, List.map_cons, List.map_nil, List.cons_append, List.nil_append]
                rfl
              repeat ((first
                | (refine Run.takes (v := ?_) ?_ ?_; rotate_left; (· intro w' hS'; (first | (refine exec_load_sub (n := 3) (off := 10) (x := .tmp 71) (l := [.int .u64 m.eid, .int .u64 m.ever, v]) (m := mcs m v b r) ?_ Try.underlying26 rec_info ?_ ?_ (HB2.out.keep hS'.2.2.2.2.2) ?_ <;> rfl) | (go_simp; (try with_reducible rfl)))))
                | (refine Run.takesG (v := ?_) ?_ ?_ ?_; rotate_left; (· simp only [List.getElem?_cons_zero, List.getElem?_cons_succ]); (· intro w' hS'; (first | (refine exec_load_sub (n := 3) (off := 10) (x := .tmp 71) (l := [.int .u64 m.eid, .int .u64 m.ever, v]) (m := mcs m v b r) ?_ Try.underlying26 rec_info ?_ ?_ (HB2.out.keep hS'.2.2.2.2.2) ?_ <;> rfl) | (go_simp; (try with_reducible rfl)))))
                | (refine Run.skipsT ?_ ?_; (· simp only [List.getElem?_cons_zero, List.getElem?_cons_succ]))
                | (refine Run.skipsF ?_ ?_; (· simp only [List.getElem?_cons_zero, List.getElem?_cons_succ]))
                | (refine Run.skipsU ?_ ?_; (· simp only [List.getElem?_cons_zero, List.getElem?_cons_succ]))
                | (refine Run.passT ?_ ?_; (· simp only [List.getElem?_cons_zero, List.getElem?_cons_succ]))
                | (refine Run.passF ?_ ?_; (· simp only [List.getElem?_cons_zero, List.getElem?_cons_succ]))
                | (refine Run.passU ?_ ?_; (· simp only [List.getElem?_cons_zero, List.getElem?_cons_succ]))
                | (refine Run.runs ?_
                   (first
                   | (refine Run.callF 46 (by kernel_rfl) (fun hS => HC.out _) rfl ?_)
                   | (refine Run.callG 46 (by kernel_rfl) ?_ (fun hS => HC.out _) rfl ?_; (· simp only [List.getElem?_cons_zero, List.getElem?_cons_succ]))
                   | fail)
                   (first
                   | (rintro hS e w' ⟨rfl, rfl⟩; refine ⟨_, rfl, hS, ?_⟩)
                   | (rintro hS e w' ⟨rfl, hb⟩; refine ⟨_, rfl, ⟨kc hb hS.1, kc hb hS.2.1, kc hb hS.2.2.1, kc hb hS.2.2.2.1, kc hb hS.2.2.2.2.1, nest hS.2.2.2.2.2 hb⟩, ?_⟩)
                   | fail))
                | fail); simp only [Act.put, List.setIfInBounds_toArray, List.set_cons_zero, List.set_cons_succ])
              refine Run.ends (fun hS2 => ?_)
              have HX := Lib.hid hS2.2.2.2.2.2
              clear hS2
              go_wp2_with fail
              go_meet
              case rel => exact ⟨by rw [HS.out]; rfl, HX.out⟩
      · have hfm : firstM m = false := decide_eq_false hf
        rw [hfm]
        have HS : Hid (s2M attrs m = (decide (m.ev = 0 ∧ m.gone = false ∧ m.eid = 0 ∧ m.ever = 0 ∧ m.vals = []) && (m.target == 0))) := Lib.hid (by unfold s2M; rw [if_neg hf])
        have HC : Hid (∀ z, Below w2.heap.size w2 z → Calls Try.prog 47 #[.agg #[.int .u32 m.ev, .int .u64 m.eid, .int .u64 m.ever, v, .bool m.gone], .agg #[.int .u32 0, .int .u64 0, .int .u64 0, .slice none 0 0, .bool false]] z fun e w' => e = .returned (.bool (decide (m.ev = 0 ∧ m.gone = false ∧ m.eid = 0 ∧ m.ever = 0 ∧ m.vals = []))) ∧ Below z.heap.size z w') := Lib.hid (fun z hz => by
          have := entry_any m.ev m.eid m.ever 0 0 0 v (.slice none 0 0) m.vals [] m.gone false z (HM2.out.vals.keep hz) (Rd.nil _ _ (by unfold maxLen; omega))
          rwa [entry_zero] at this)
        have e5 : w2.cell? ⟨g, 5, none⟩ = some (.int .u32 m.target) := HB2.out.cell 5
        have e9 : w2.cell? ⟨g, 9, none⟩ = some (.int .u32 m.ev) := HB2.out.cell 9
        have e10 : w2.cell? ⟨g, 10, none⟩ = some (.int .u64 m.eid) := HB2.out.cell 10
        have e11 : w2.cell? ⟨g, 11, none⟩ = some (.int .u64 m.ever) := HB2.out.cell 11
        have e12 : w2.cell? ⟨g, 12, none⟩ = some v := HB2.out.cell 12
        have e13 : w2.cell? ⟨g, 13, none⟩ = some (.bool m.gone) := HB2.out.cell 13
        clear hfm
        generalize decide (m.ev = 0 ∧ m.gone = false ∧ m.eid = 0 ∧ m.ever = 0 ∧ m.vals = []) = q at HC HS
        cases q with
        | false =>
          go_wp2_with (go_at_call 47; refine (HC.out _ (Below.refl _ _)).mono ?_; rintro e w3 ⟨rfl, hk3⟩)
          go_meet
          case rel => exact ⟨by rw [HS.out]; rfl, hk3⟩
        | true =>
          cases hx : (m.target == 0) with
          | false =>
            rw [hx] at HS
            go_wp2_with (go_at_call 47; refine (HC.out _ (Below.refl _ _)).mono ?_; rintro e w3 ⟨rfl, hk3⟩; have f5 := (hk3.cell (p := ⟨g, 5, none⟩) (World.block_lt_of_cell? _ _ e5)).trans e5)
            go_meet
            case rel => exact ⟨by rw [HS.out]; rfl, hk3⟩
          | true =>
            rw [hx] at HS
            go_wp2_with (go_at_call 47; refine (HC.out _ (Below.refl _ _)).mono ?_; rintro e w3 ⟨rfl, hk3⟩; have f5 := (hk3.cell (p := ⟨g, 5, none⟩) (World.block_lt_of_cell? _ _ e5)).trans e5)
            go_meet
            case rel => exact ⟨by rw [HS.out]; rfl, hk3⟩
    case rest =>
      obtain ⟨rfl, hk3⟩ := hcut
      have HB3 := Lib.hid (HB2.out.keep hk3)
      have HM3 := Lib.hid (HM2.out.keep hk3)
      have HK3 := Lib.hid (nest HK2.out hk3)
      have d0 : wc.cell? ⟨g, 0, none⟩ = some (.int .i64 m.kind) := HB3.out.cell 0
      clear hk3 HB2 HM2 HK2
      go_upto_if 107 with fail
      rename_i K2 hK2
      go_cut [5] from 105 to 156 (fun ok wx => ok = .bool (s2M attrs m && s3M attrs m) ∧ Below wc.heap.size wc wx)
      case first =>
        clear hK2
        have HRB := Lib.hid (fun z hz => rrightb_any attrs b m.box z (HM3.out.box.keep hz))
        obtain ⟨ab', gb, ob, cb', hbv, hc1, hc2, ha, hcell⟩ := Rd.loop3 HM3.out.box
        have hb16 : wc.cell? ⟨g, 16, none⟩ = some b := HB3.out.cell 16
        have HBC := Lib.hid hcell
        have HBA := Lib.hid ha
        have hcb : cb' ≤ 9223372036854775807 := hc2
        have H16 := Lib.hid hb16
        rw [hbv] at hb16 HRB
        clear hcell ha hc2 hbv
        by_cases hk5 : m.kind = 5
        · have HS : Hid (s3M attrs m = (rightB attrs m.box && m.box.all bareR)) := Lib.hid (by unfold s3M; rw [if_pos hk5])
          rw [hk5] at d0 ⊢
          cases hs2 : s2M attrs m with
          | false =>
            go_wp2_with fail
            go_loopw [5, 6] (fun o i wr => o = .bool false ∧ i = .int .i64 0 ∧ wr = wc) (fun _ _ _ => 0)
            case atStart => exact ⟨rfl, rfl, rfl⟩
            case round =>
              obtain ⟨rfl, rfl, rfl⟩ := hrel
              go_wp2_with fail
              go_meet
              case rel => exact ⟨by rw [hs2]; rfl, Below.refl _ _⟩
          | true =>
            cases hrb : rightB attrs m.box with
            | false =>
              rw [hrb] at HS HRB
              go_wp2_with (go_at_call 48; refine (HRB.out _ (Below.refl _ _)).mono ?_; rintro e w3 ⟨rfl, hk3⟩)
              have HK3' := Lib.hid hk3
              clear hk3
              go_loopw [5, 6] (fun o i wr => o = .bool false ∧ i = .int .i64 0 ∧ wr = w3) (fun _ _ _ => 0)
              case atStart => exact ⟨rfl, rfl, rfl⟩
              case round =>
                obtain ⟨rfl, rfl, rfl⟩ := hrel
                go_wp2_with fail
                go_meet
                case rel => exact ⟨by rw [HS.out, hs2]; rfl, HK3'.out⟩
            | true =>
              rw [hrb, Bool.true_and] at HS
              rw [hrb] at HRB
              have HY : Hid ((∀ i, i < m.box.length → bareR (m.box.getD i (0, 0, 0)) = true) → m.box.all bareR = true) := Lib.hid (fun h => all_yes h)
              have HN : Hid (∀ k, k < m.box.length → bareR (m.box.getD k (0, 0, 0)) = false → m.box.all bareR = false) := Lib.hid (fun k hk h => all_no hk h)
              have hlen8 : m.box.length ≤ 8 := by
                have := hrb
                unfold rightB at this
                simp at this
                omega
              generalize m.box.all bareR = res at HS HY HN
              have HS2 := Lib.hid hs2
              clear hs2 hrb
              go_wp2_with (go_at_call 48; refine (HRB.out _ (Below.refl _ _)).mono ?_; rintro e w3 ⟨rfl, hk3⟩)
              have HK3' := Lib.hid hk3
              clear hk3
              go_loopw [5, 6] (fun o i wr => ∃ k : Nat, k ≤ m.box.length ∧ i = .int .i64 k ∧ ((o = .bool true ∧ ∀ i, i < k → bareR (m.box.getD i (0, 0, 0)) = true) ∨ (o = .bool false ∧ res = false)) ∧ wr = w3) (fun o i _ => okN o + (m.box.length - (intOf i).toNat))
              case atStart => exact ⟨0, Nat.zero_le _, rfl, .inl ⟨rfl, fun i hi => absurd hi (Nat.not_lt_zero _)⟩, rfl⟩
              case round =>
                obtain ⟨k, hk, rfl, hq, rfl⟩ := hrel
                have hb16' : wr.cell? ⟨g, 16, none⟩ = some (.slice ab' m.box.length cb') := kc HK3'.out hb16
                rcases hq with ⟨rfl, hu⟩ | ⟨rfl, hres⟩
                · have HU := Lib.hid hu
                  clear hu
                  by_cases hlt : k < m.box.length
                  · obtain ⟨rfl, hg⟩ := HBA.out (by omega)
                    have e1 := kc HK3'.out (HBC.out k hlt).1
                    have e2 := kc HK3'.out (HBC.out k hlt).2.1
                    have e3 := kc HK3'.out (HBC.out k hlt).2.2
                    have HX : Hid (bareR (m.box.getD k (0, 0, 0)) = true → ∀ i, i < k + 1 → bareR (m.box.getD i (0, 0, 0)) = true) := Lib.hid (fun h => next_all HU.out h)
                    have HNk := Lib.hid (HN.out k hlt)
                    generalize m.box.getD k (0, 0, 0) = q at *
                    obtain ⟨x, y, u⟩ := q
                    simp only [] at e1 e2 e3
                    by_cases hx2 : x = 2
                    · subst hx2
                      have hbr : bareR (2, y, u) = true := rfl
                      have HBR := Lib.hid hbr
                      clear hbr
                      go_wp2_with fail
                      exact ⟨⟨k + 1, by omega, by go_num, .inl ⟨rfl, HX.out HBR.out⟩, by trivial⟩, by simp [intOf, okN]; omega⟩
                    have ex : (x == 2) = false := by simpa using hx2
                    by_cases hy : y = 0
                    · subst hy
                      by_cases hu0 : u = 0
                      · subst hu0
                        have HBR : Hid (bareR (x, 0, 0) = true) := Lib.hid (by simp [bareR])
                        go_wp2_with fail
                        exact ⟨⟨k + 1, by omega, by go_num, .inl ⟨rfl, HX.out HBR.out⟩, by trivial⟩, by simp [intOf, okN]; omega⟩
                      · have eu : (u == 0) = false := by simpa using hu0
                        have HBR : Hid (bareR (x, 0, u) = false) := Lib.hid (by simp [bareR, ex, eu, hx2, hu0])
                        go_wp2_with fail
                        exact ⟨⟨k + 1, by omega, by go_num, .inr ⟨rfl, HNk.out HBR.out⟩, by trivial⟩, by simp [intOf, okN]; omega⟩
                    · have ey : (y == 0) = false := by simpa using hy
                      have HBR : Hid (bareR (x, y, u) = false) := Lib.hid (by simp [bareR, ex, ey, hx2, hy])
                      go_wp2_with fail
                      exact ⟨⟨k + 1, by omega, by go_num, .inr ⟨rfl, HNk.out HBR.out⟩, by trivial⟩, by simp [intOf, okN]; omega⟩
                  · have hkn : k = m.box.length := by omega
                    subst hkn
                    have HF := Lib.hid (HY.out HU.out)
                    go_wp2_with fail
                    go_meet
                    case rel => exact ⟨by rw [HS.out, HF.out, HS2.out]; rfl, HK3'.out⟩
                · have HF := Lib.hid hres
                  go_wp2_with fail
                  go_meet
                  case rel => exact ⟨by rw [HS.out, HF.out, HS2.out]; rfl, HK3'.out⟩
        · have HS : Hid (s3M attrs m = decide (m.box.length = 0)) := Lib.hid (by unfold s3M; rw [if_neg hk5])
          have hkq : (m.kind == 5) = false := by simpa using hk5
          rw [hkq]
          cases hs2 : s2M attrs m with
          | false =>
            go_wp2_with fail
            go_meet
            case rel => exact ⟨by rw [hs2]; rfl, Below.refl _ _⟩
          | true =>
            by_cases hl : m.box.length = 0
            · rw [decide_eq_true hl] at HS
              go_wp2_with fail
              go_meet
              case rel => exact ⟨by rw [HS.out, hs2]; simp [hl], Below.refl _ _⟩
            · rw [decide_eq_false hl] at HS
              go_wp2_with fail
              go_meet
              case rel => exact ⟨by rw [HS.out, hs2]; simp [hl], Below.refl _ _⟩
      case rest =>
        obtain ⟨rfl, hk4⟩ := hcut
        have HB4 := Lib.hid (HB3.out.keep hk4)
        have HM4 := Lib.hid (HM3.out.keep hk4)
        have HK4 := Lib.hid (nest HK3.out hk4)
        have e0 : wc.cell? ⟨g, 0, none⟩ = some (.int .i64 m.kind) := HB4.out.cell 0
        clear hk4 HB3 HM3 HK3 d0
        go_upto_if 159 with fail
        rename_i K3 hK3
        go_cut [5] from 157 to 190 (fun ok wx => ok = .bool (s2M attrs m && s3M attrs m && s4M attrs m) ∧ Below wc.heap.size wc wx)
        case first =>
          clear hK3
          generalize (s2M attrs m && s3M attrs m) = p23 at *
          obtain ⟨ar', gr', or'', cr', hrv, hc1, hc2, ha, hcell⟩ := kd_loop HM4.out.recs
          have hb17 : wc.cell? ⟨g, 17, none⟩ = some r := HB4.out.cell 17
          have HBC := Lib.hid hcell
          have HBA := Lib.hid ha
          have hcb : cr' ≤ 9223372036854775807 := hc2
          rw [hrv] at hb17
          clear hcell ha hc2 hrv
          by_cases hk6 : m.kind = 6
          · have HS : Hid (s4M attrs m = (decide (m.recs.length ≤ 10000) && m.recs.all (rightR attrs))) := Lib.hid (by unfold s4M; rw [if_pos hk6])
            rw [hk6] at e0 ⊢
            cases p23 with
            | false =>
              go_wp2_with fail
              go_loopw [5, 7] (fun o i wr => o = .bool false ∧ i = .int .i64 0 ∧ wr = wc) (fun _ _ _ => 0)
              case atStart => exact ⟨rfl, rfl, rfl⟩
              case round =>
                obtain ⟨rfl, rfl, rfl⟩ := hrel
                go_wp2_with fail
                go_meet
                case rel => exact ⟨rfl, Below.refl _ _⟩
            | true =>
              by_cases hl4 : m.recs.length ≤ 10000
              case neg =>
                rw [decide_eq_false hl4] at HS
                go_wp2_with fail
                go_loopw [5, 7] (fun o i wr => o = .bool false ∧ i = .int .i64 0 ∧ wr = wc) (fun _ _ _ => 0)
                case atStart => exact ⟨congrArg Value.bool (decide_eq_false (by omega)), rfl, rfl⟩
                case round =>
                  obtain ⟨rfl, rfl, rfl⟩ := hrel
                  go_wp2_with fail
                  go_meet
                  case rel => exact ⟨by rw [HS.out]; rfl, Below.refl _ _⟩
              rw [decide_eq_true hl4, Bool.true_and] at HS
              have HY : Hid ((∀ i, i < m.recs.length → rightR attrs (m.recs.getD i (0, 0, [])) = true) → m.recs.all (rightR attrs) = true) := Lib.hid (fun h => all_yes h)
              have HN : Hid (∀ k, k < m.recs.length → rightR attrs (m.recs.getD k (0, 0, [])) = false → m.recs.all (rightR attrs) = false) := Lib.hid (fun k hk h => all_no hk h)
              generalize m.recs.all (rightR attrs) = res at HS HY HN
              go_wp2_with fail
              go_loopw [5, 7] (fun o i wr => ∃ k : Nat, k ≤ m.recs.length ∧ i = .int .i64 k ∧ ((o = .bool true ∧ ∀ i, i < k → rightR attrs (m.recs.getD i (0, 0, [])) = true) ∨ (o = .bool false ∧ res = false)) ∧ Below wc.heap.size wc wr) (fun o i _ => okN o + (m.recs.length - (intOf i).toNat))
              case atStart => exact ⟨0, Nat.zero_le _, rfl, .inl ⟨congrArg Value.bool (decide_eq_true (by omega)), fun i hi => absurd hi (Nat.not_lt_zero _)⟩, Below.refl _ _⟩
              case round =>
                obtain ⟨k, hk, rfl, hq, hkr⟩ := hrel
                have hb17' : wr.cell? ⟨g, 17, none⟩ = some (.slice ar' m.recs.length cr') := kc hkr hb17
                have HKR := Lib.hid hkr
                clear hkr
                rcases hq with ⟨rfl, hu⟩ | ⟨rfl, hres⟩
                · have HU := Lib.hid hu
                  clear hu
                  by_cases hlt : k < m.recs.length
                  · have hbk := HBA.out (by omega)
                    subst hbk
                    have HX : Hid (rightR attrs (m.recs.getD k (0, 0, [])) = true → ∀ i, i < k + 1 → rightR attrs (m.recs.getD i (0, 0, [])) = true) := Lib.hid (fun h => next_all HU.out h)
                    have HNk := Lib.hid (HN.out k hlt)
                    have hy : m.recs[k]? = some (m.recs.getD k (0, 0, [])) := by simp [List.getD, List.getElem?_eq_getElem hlt]
                    obtain ⟨es, he, hre⟩ := HBC.out k _ hy
                    clear hy
                    generalize m.recs.getD k (0, 0, []) = q at *
                    obtain ⟨x, y, u⟩ := q
                    obtain ⟨vq, rfl, w1, w2', hrd, hbq⟩ := record_cells hre
                    obtain ⟨aq, cq, rfl, _, _⟩ := hrd.form
                    have e1 := kc HKR.out (he 0 (by decide))
                    have e2 := kc HKR.out (he 1 (by decide))
                    have e3 := kc HKR.out (he 2 (by decide))
                    have hx0 := (bdu64 w1).1
                    have hy0 := (bdu64 w2').1
                    simp only [] at hx0 hy0
                    have HC : Hid (∀ z, Calls Try.prog 46 #[.int .i64 attrs, .agg #[.int .u64 x, .int .u64 y, .slice aq u.length cq]] z fun e w' => e = .returned (.bool (rightR attrs (x, y, u))) ∧ Below z.heap.size z w') := Lib.hid (fun z => rright_any attrs x y hx0 hy0 aq u.length cq z)
                    have hs3 : recordK.size = 3 := rfl
                    rw [hs3] at e1 e2 e3
                    simp only [List.getElem?_cons_zero, List.getElem?_cons_succ, Nat.add_zero] at e1 e2 e3
                    rw [← Nat.add_assoc] at e2 e3
                    clear he hre w1 w2' hrd hbq hx0 hy0
                    cases hr : rightR attrs (x, y, u) with
                    | true =>
                      rw [hr] at HC
                      have HQ := Lib.hid (HX.out hr)
                      clear hr
                      go_wp2_with (go_at_call 46; refine (HC.out _).mono ?_; rintro e w3 ⟨rfl, hk3⟩)
                      go_roundw
                      case rel =>
                        (repeat apply Exists.intro)
                        exact ⟨⟨k + 1, by omega, by go_num, .inl ⟨rfl, HQ.out⟩, nest HKR.out hk3⟩, rfl⟩
                      case measure => simp [intOf, okN]; omega
                    | false =>
                      rw [hr] at HC
                      have HQ := Lib.hid (HNk.out hr)
                      clear hr
                      go_wp2_with (go_at_call 46; refine (HC.out _).mono ?_; rintro e w3 ⟨rfl, hk3⟩)
                      go_roundw
                      case rel =>
                        (repeat apply Exists.intro)
                        exact ⟨⟨k + 1, by omega, by go_num, .inr ⟨rfl, HQ.out⟩, nest HKR.out hk3⟩, rfl⟩
                      case measure => simp [intOf, okN]; omega
                  · have hkn : k = m.recs.length := by omega
                    subst hkn
                    have HF := Lib.hid (HY.out HU.out)
                    go_wp2_with fail
                    go_meet
                    case rel => exact ⟨by rw [HS.out, HF.out]; rfl, HKR.out⟩
                · have HF := Lib.hid hres
                  go_wp2_with fail
                  go_meet
                  case rel => exact ⟨by rw [HS.out, HF.out]; rfl, HKR.out⟩
          · have HS : Hid (s4M attrs m = decide (m.recs.length = 0)) := Lib.hid (by unfold s4M; rw [if_neg hk6])
            have hkq : (m.kind == 6) = false := by simpa using hk6
            rw [hkq]
            cases p23 with
            | false =>
              go_wp2_with fail
              go_meet
              case rel => exact ⟨rfl, Below.refl _ _⟩
            | true =>
              by_cases hl : m.recs.length = 0
              · rw [decide_eq_true hl] at HS
                go_wp2_with fail
                go_meet
                case rel => exact ⟨by rw [HS.out]; simp [hl], Below.refl _ _⟩
              · rw [decide_eq_false hl] at HS
                go_wp2_with fail
                go_meet
                case rel => exact ⟨by rw [HS.out]; simp [hl], Below.refl _ _⟩
        case rest =>
          obtain ⟨rfl, hk5⟩ := hcut
          have HB5 := Lib.hid (HB4.out.keep hk5)
          have HK5 := Lib.hid (nest HK4.out hk5)
          have f0 : wc.cell? ⟨g, 0, none⟩ = some (.int .i64 m.kind) := HB5.out.cell 0
          have f14 : wc.cell? ⟨g, 14, none⟩ = some (.int .u32 m.sf) := HB5.out.cell 14
          have f2 : wc.cell? ⟨g, 2, none⟩ = some (.int .u32 m.point) := HB5.out.cell 2
          have f6 : wc.cell? ⟨g, 6, none⟩ = some (.int .i64 m.hops) := HB5.out.cell 6
          have f7 : wc.cell? ⟨g, 7, none⟩ = some (.int .u32 m.owner) := HB5.out.cell 7
          have f8 : wc.cell? ⟨g, 8, none⟩ = some (.int .i64 m.turn) := HB5.out.cell 8
          have f15 : wc.cell? ⟨g, 15, none⟩ = some (.int .u32 m.st) := HB5.out.cell 15
          clear hk5 HB4 HM4 HK4 e0
          have HP : Hid (rightM attrs m = (s2M attrs m && s3M attrs m && s4M attrs m && (s5M m && (s6M m && (s7M m && s8M m))))) := Lib.hid (by rw [HR.out]; simp only [Bool.and_assoc])
          generalize (s2M attrs m && s3M attrs m && s4M attrs m) = p at *
          cases p with
          | false =>
            go_wp2_with fail
            go_ret
            exact ⟨by rw [HP.out]; rfl, HK5.out⟩
          | true =>
          rw [Bool.true_and] at HP
          go_upto_region 21 with fail
          rename_i K4 hK4
          go_cut [5] from 191 to 207 (fun ok wx => ok = .bool (s5M m) ∧ wx = wc)
          case first =>
            clear hK4
            by_cases h5 : m.kind = 5
            · have d5 : (m.kind == 5) = true := by simpa using h5
              go_wp2_with fail
              all_goals
                go_meet
                case rel => exact ⟨congrArg Value.bool (by (try unfold s5M); (try unfold s6M); (try unfold s7M); (try unfold s8M); rw [Bool.eq_iff_iff]; simp only [decide_eq_true_eq, beq_iff_eq, Bool.false_eq_true, true_iff, false_iff]; omega), rfl⟩
            have d5 : (m.kind == 5) = false := by simpa using h5
            by_cases h6 : m.kind = 6
            · have d6 : (m.kind == 6) = true := by simpa using h6
              go_wp2_with fail
              all_goals
                go_meet
                case rel => exact ⟨congrArg Value.bool (by (try unfold s5M); (try unfold s6M); (try unfold s7M); (try unfold s8M); rw [Bool.eq_iff_iff]; simp only [decide_eq_true_eq, beq_iff_eq, Bool.false_eq_true, true_iff, false_iff]; omega), rfl⟩
            have d6 : (m.kind == 6) = false := by simpa using h6
            go_wp2_with fail
            all_goals
              go_meet
              case rel => exact ⟨congrArg Value.bool (by (try unfold s5M); (try unfold s6M); (try unfold s7M); (try unfold s8M); rw [Bool.eq_iff_iff]; simp only [decide_eq_true_eq, beq_iff_eq, Bool.false_eq_true, true_iff, false_iff]; omega), rfl⟩
          case rest =>
          obtain ⟨rfl, hwx⟩ := hcut
          subst hwx
          cases hq4 : s5M m with
          | false =>
            rw [hq4] at HP
            go_wp2_with fail
            go_ret
            exact ⟨by rw [HP.out]; rfl, HK5.out⟩
          | true =>
          rw [hq4, Bool.true_and] at HP
          clear hq4
          go_upto_region 22 with fail
          rename_i K5 hK5
          go_cut [5] from 208 to 238 (fun ok wx => ok = .bool (s6M m) ∧ wx = wc)
          case first =>
            clear hK5
            by_cases h2 : m.kind = 2
            · have d2 : (m.kind == 2) = true := by simpa using h2
              go_wp2_with fail
              all_goals
                go_meet
                case rel => exact ⟨congrArg Value.bool (by (try unfold s5M); (try unfold s6M); (try unfold s7M); (try unfold s8M); rw [Bool.eq_iff_iff]; simp only [decide_eq_true_eq, beq_iff_eq, Bool.false_eq_true, true_iff, false_iff]; omega), rfl⟩
            have d2 : (m.kind == 2) = false := by simpa using h2
            by_cases h3 : m.kind = 3
            · have d3 : (m.kind == 3) = true := by simpa using h3
              go_wp2_with fail
              all_goals
                go_meet
                case rel => exact ⟨congrArg Value.bool (by (try unfold s5M); (try unfold s6M); (try unfold s7M); (try unfold s8M); rw [Bool.eq_iff_iff]; simp only [decide_eq_true_eq, beq_iff_eq, Bool.false_eq_true, true_iff, false_iff]; omega), rfl⟩
            have d3 : (m.kind == 3) = false := by simpa using h3
            go_wp2_with fail
            all_goals
              go_meet
              case rel => exact ⟨congrArg Value.bool (by (try unfold s5M); (try unfold s6M); (try unfold s7M); (try unfold s8M); rw [Bool.eq_iff_iff]; simp only [decide_eq_true_eq, beq_iff_eq, Bool.false_eq_true, true_iff, false_iff]; omega), rfl⟩
          case rest =>
          obtain ⟨rfl, hwx⟩ := hcut
          subst hwx
          cases hq5 : s6M m with
          | false =>
            rw [hq5] at HP
            go_wp2_with fail
            go_ret
            exact ⟨by rw [HP.out]; rfl, HK5.out⟩
          | true =>
          rw [hq5, Bool.true_and] at HP
          clear hq5
          go_upto_region 23 with fail
          rename_i K6 hK6
          go_cut [5] from 239 to 254 (fun ok wx => ok = .bool (s7M m) ∧ wx = wc)
          case first =>
            clear hK6
            by_cases h1 : m.kind = 1
            · have d1 : (m.kind == 1) = true := by simpa using h1
              go_wp2_with fail
              all_goals
                go_meet
                case rel => exact ⟨congrArg Value.bool (by (try unfold s5M); (try unfold s6M); (try unfold s7M); (try unfold s8M); rw [Bool.eq_iff_iff]; simp only [decide_eq_true_eq, beq_iff_eq, Bool.false_eq_true, true_iff, false_iff]; omega), rfl⟩
            have d1 : (m.kind == 1) = false := by simpa using h1
            by_cases h5 : m.kind = 5
            · have d5 : (m.kind == 5) = true := by simpa using h5
              go_wp2_with fail
              all_goals
                go_meet
                case rel => exact ⟨congrArg Value.bool (by (try unfold s5M); (try unfold s6M); (try unfold s7M); (try unfold s8M); rw [Bool.eq_iff_iff]; simp only [decide_eq_true_eq, beq_iff_eq, Bool.false_eq_true, true_iff, false_iff]; omega), rfl⟩
            have d5 : (m.kind == 5) = false := by simpa using h5
            go_wp2_with fail
            all_goals
              go_meet
              case rel => exact ⟨congrArg Value.bool (by (try unfold s5M); (try unfold s6M); (try unfold s7M); (try unfold s8M); rw [Bool.eq_iff_iff]; simp only [decide_eq_true_eq, beq_iff_eq, Bool.false_eq_true, true_iff, false_iff]; omega), rfl⟩
          case rest =>
          obtain ⟨rfl, hwx⟩ := hcut
          subst hwx
          cases hq6 : s7M m with
          | false =>
            rw [hq6] at HP
            go_wp2_with fail
            go_ret
            exact ⟨by rw [HP.out]; rfl, HK5.out⟩
          | true =>
          rw [hq6, Bool.true_and] at HP
          clear hq6
          by_cases h4 : m.kind = 4
          · have d4 : (m.kind == 4) = true := by simpa using h4
            go_wp2_with fail
            all_goals
              go_ret
              exact ⟨by rw [HP.out]; exact congrArg (fun q => Ending.returned (Value.bool q)) (by (try unfold s5M); (try unfold s6M); (try unfold s7M); (try unfold s8M); rw [Bool.eq_iff_iff]; simp only [decide_eq_true_eq, beq_iff_eq, Bool.false_eq_true, true_iff, false_iff]; omega), HK5.out⟩
          have d4 : (m.kind == 4) = false := by simpa using h4
          by_cases h6 : m.kind = 6
          · have d6 : (m.kind == 6) = true := by simpa using h6
            go_wp2_with fail
            all_goals
              go_ret
              exact ⟨by rw [HP.out]; exact congrArg (fun q => Ending.returned (Value.bool q)) (by (try unfold s5M); (try unfold s6M); (try unfold s7M); (try unfold s8M); rw [Bool.eq_iff_iff]; simp only [decide_eq_true_eq, beq_iff_eq, Bool.false_eq_true, true_iff, false_iff]; omega), HK5.out⟩
          have d6 : (m.kind == 6) = false := by simpa using h6
          go_wp2_with fail
          all_goals
            go_ret
            exact ⟨by rw [HP.out]; exact congrArg (fun q => Ending.returned (Value.bool q)) (by (try unfold s5M); (try unfold s6M); (try unfold s7M); (try unfold s8M); rw [Bool.eq_iff_iff]; simp only [decide_eq_true_eq, beq_iff_eq, Bool.false_eq_true, true_iff, false_iff]; omega), HK5.out⟩
end Go.Proofs.Ythhelhhlofdehaa
