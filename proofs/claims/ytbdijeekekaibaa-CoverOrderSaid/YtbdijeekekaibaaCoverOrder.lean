/- Walk of CoverOrder. -/
import Derived.Test.YtbdijeekekaibaaCoverAwake
import Derived.Test.YtbdijeekekaibaaOrderMath
namespace Go.Proofs.Ytbdijeekekaibaa.coverOrder
open Go.RowKit Cir Mem
set_option linter.unusedSimpArgs false
set_option linter.unusedVariables false
attribute [local irreducible] Go.Calls

def plan7m : List (Nat × Nat) := [(0, 0), (1, 0), (2, 0), (3, 0), (4, 0), (5, 0), (6, 0), (7, 0), (8, 0), (9, 0), (11, 0), (12, 0), (13, 0), (14, 0), (15, 0), (16, 0), (10, 19), (18, 0), (19, 1), (20, 0), (21, 1)]
theorem norm0 (f t : Int) : Norm (beh f t) 0 [(0, beh f t)] := by
  have := beh_bd f t
  exact ⟨Int.le_refl _, by show (0 : Int) < _; omega, Int.le_refl _, trivial⟩
theorem keep3 {W a b : World} {p0 p1 : Addr} {x0 x1 : Value} (h : a.cell? p0 = some x0 ∧ a.cell? p1 = some x1 ∧ Below W.heap.size W a) (k : Below a.heap.size a b) : b.cell? p0 = some x0 ∧ b.cell? p1 = some x1 ∧ Below W.heap.size W b := ⟨kc k h.1, kc k h.2.1, nest h.2.2 k⟩

set_option maxRecDepth 100000 in
set_option maxHeartbeats 8000000 in
theorem walk (f t : Int) (bf : 0 ≤ f ∧ f ≤ 4294967295) (bt : 0 ≤ t ∧ t ≤ 4294967295) (v : Value) (ls : List (Int × Int)) (v' : Value) (ts : List Int) (w : World)
    (hv : Rd (pairE .u32) w v ls) (hw : ∀ x ∈ ls, (0 ≤ x.1 ∧ x.1 ≤ 4294967295) ∧ (0 ≤ x.2 ∧ x.2 ≤ 4294967295)) (hv2 : Rd (intE .i64) w v' ts) (hw2 : ∀ x ∈ ts, -9223372036854775808 ≤ x ∧ x ≤ 9223372036854775807) :
    Calls Try.prog 4 #[.agg #[.int .u32 f, .int .u32 t], v, v'] w fun e w' => e = .returned (.bool true) ∧ Below w.heap.size w w' := by
  obtain ⟨a0, c0, rfl, hc1, hc2⟩ := hv.form
  obtain ⟨a1, c1, rfl, hc3, hc4⟩ := hv2.form
  have HV := Lib.hid hv
  have HW := Lib.hid hw
  have HV2 := Lib.hid hv2
  have HW2 := Lib.hid hw2
  clear hv hw hv2 hw2
  by_cases hlong : 40 < ls.length
  · have hl1 : (40 : Int) < (ls.length : Int) := by omega
    go_enter Try.func4, Try.ntmps4
    go_wp2_with fail
    refine (cawake_any _).mono ?_
    rintro e w3 ⟨rfl, hk3⟩
    go_wp2_with fail
    go_ret
    exact ⟨rfl, nest (more (Below.refl _ _) _) hk3⟩
  · have hl1 : ¬ (40 : Int) < (ls.length : Int) := by omega
    have hX : Below w.heap.size w (w.alloc (Obj.cells #[Value.int IntKind.u32 f, Value.int IntKind.u32 t] 24)) := more (Below.refl _ _) _
    go_enter Try.func4, Try.ntmps4
    go_wp2_with (at_builtin; go_must (refine wpList_append (E := pairE .u32) (T := 24) (B := w.heap.size + 1) (l := []) (m := ls) (bytes := 8) spanElem Nat.zero_lt_two rfl (.const (.slice none 0 0)) (.tmp 20) rfl rfl Row.nil rfl (HV.out.keep hX) (by simp only [maxLen, List.length_nil]; omega) (by simp only [List.length_nil]; omega) (by simp) ?_); intro vm w1 hrm hk1 _ _)
    have m0 : w1.cell? ⟨w.heap.size, 0, none⟩ = some (.int .u32 f) := (hk1.cell (by simp)).trans (by simp)
    have m1 : w1.cell? ⟨w.heap.size, 1, none⟩ = some (.int .u32 t) := (hk1.cell (by simp)).trans (by simp)
    have hb1 : Below w.heap.size w w1 := hX.trans (hk1.mono (by omega))
    rw [List.nil_append] at hrm
    clear hk1 hX
    go_loopw [8, 9] (fun i kv wr => ∃ (k : Nat) (M : List (Int × Int)), (k ≤ ts.length ∧ k ≤ 60) ∧ i = .int .i64 k ∧ Row (pairE .u32) 24 (w.heap.size + 1) wr vm M ∧ M.length = ls.length ∧ (∀ s, s ∈ M ↔ s ∈ ls) ∧
      wr.cell? ⟨w.heap.size, 0, none⟩ = some (.int .u32 f) ∧ wr.cell? ⟨w.heap.size, 1, none⟩ = some (.int .u32 t) ∧ Below w.heap.size w wr) (fun i _ _ => ts.length - (intOf i).toNat)
    case atStart => exact ⟨0, ls, ⟨Nat.zero_le _, Nat.zero_le _⟩, rfl, hrm, rfl, fun s => Iff.rfl, m0, m1, hb1⟩
    case round =>
      obtain ⟨k, M, ⟨hk, hk60⟩, rfl, hrw, hml, hmm, q0, q1, hb⟩ := hrel
      have HML := Lib.hid hml
      have HMM := Lib.hid hmm
      clear hml hmm m0 m1 hrm
      by_cases hgo : k < ts.length ∧ k < 60 ∧ 0 < M.length
      · obtain ⟨h1, h2, h3⟩ := hgo
        obtain ⟨gt, off, c', hvt, _, _, hcell⟩ := (HV2.out.keep hb).cells (by omega)
        injection hvt with e1 e2 e3
        subst e1 e3
        have d1 : wr.cell? ⟨gt, off + k, none⟩ = some (.int .i64 ts[k]) := by have := hcell k h1 0 (show 0 < 1 by omega); simpa [intE] using this
        have hz := HW2.out ts[k] (List.getElem_mem h1)
        generalize ts[k] = s at *
        obtain ⟨gm, cm, rfl, hgm, hm1, hm2, hmc⟩ := hrw.pairs h3
        have hk1 : (k : Int) < 60 := by omega
        have hk2 : (k : Int) < (ts.length : Int) := by omega
        have hk3 : (0 : Int) < (M.length : Int) := by omega
        have HMC := Lib.hid hmc
        have hk4 : (M.length : Int) ≤ 40 := by have := HML.out; omega
        have hwl : IntKind.u64.wrap (M.length : Int) = (M.length : Int) := IntWalk.u64_in _ (by omega)
        have hw0 : 0 ≤ IntKind.u64.wrap s := by rw [IntKind.wrap_u64]; omega
        have hj0 : ∃ j : Nat, j < M.length ∧ wrap64 (IntKind.u64.wrap s % (M.length : Int)) = (j : Int) := by
          have e2 := Int.emod_nonneg (IntKind.u64.wrap s) (show (M.length : Int) ≠ 0 by omega)
          have e3 := Int.emod_lt_of_pos (IntKind.u64.wrap s) hk3
          refine ⟨(IntKind.u64.wrap s % (M.length : Int)).toNat, by omega, ?_⟩
          rw [Int.toNat_of_nonneg e2]
          exact IntWalk.wrap64_in _ (by omega)
        have HJ := Lib.hid hj0
        clear hcell e2 hmc hj0
        go_wp2_with fail
        obtain ⟨j, hj, hje⟩ := HJ.out
        rw [hje]
        clear HJ hwl hw0 hje
        have hi0 : ∃ i : Nat, i < M.length ∧ ((k : Int)).tmod (M.length : Int) = (i : Int) := ⟨k % M.length, Nat.mod_lt _ h3, by rw [Int.tmod_eq_emod_of_nonneg (by omega)]; omega⟩
        obtain ⟨i, hi, hie⟩ := hi0
        have hie2 : (k : Int) % (M.length : Int) = (i : Int) := by rw [← Int.tmod_eq_emod_of_nonneg (show (0 : Int) ≤ (k : Int) by omega)]; exact hie
        have p1 := (HMC.out j hj).1
        have p2 := (HMC.out j hj).2
        have p3 := (HMC.out i hi).1
        have p4 := (HMC.out i hi).2
        have HSW := Lib.hid (swap_mem M i j hi hj)
        have hsw : swapL M i j = (M.set i (M.getD j (0, 0))).set j (M.getD i (0, 0)) := by unfold swapL; rfl
        have HSE := Lib.hid hsw
        clear hsw
        generalize hgj : M.getD j (0, 0) = sj at *
        generalize hgi : M.getD i (0, 0) = si at *
        obtain ⟨x1, x2⟩ := sj
        obtain ⟨y1, y2⟩ := si
        simp only [] at p1 p2 p3 p4
        clear hgj hgi
        have hMn : ¬ M = [] := by intro e; subst e; simp at h3
        have z1 := hrw.frozen rfl (i * 2)
        have z2 := hrw.frozen rfl (i * 2 + 1)
        have n1 : (j : Int) < (M.length : Int) := by omega
        have n2 : (i : Int) < (M.length : Int) := by omega
        clear d1
        refine Run.region_walk (S := fun z => True)
          lorder.rows7 plan7m (l := ?steps1) (by kernel_rfl) (by kernel_rfl) (by kernel_rfl) (by kernel_rfl) ?written1 trivial ?onward1
        case written1 =>
          simp only [plan7m, Run.stepsOf, Run.stepOf, Run.guardOf, List.getElem?_toArray, List.getElem?_cons_zero, List.getElem?_cons_succ, Option.map_some, Option.map_none, Option.bind_some, Option.toList_some, List.map_cons, List.map_nil, List.cons_append, List.nil_append]
          rfl
        repeat ((first
          | (refine Run.takes (v := ?_) ?_ ?_; rotate_left; (· intro w' hS'; go_simp; (try with_reducible rfl)))
          | (refine Run.takesG (v := ?_) ?_ ?_ ?_; rotate_left; (· simp only [List.getElem?_cons_zero, List.getElem?_cons_succ]); (· intro w' hS'; go_simp; (try with_reducible rfl)))
          | (refine Run.skipsT ?_ ?_; (· simp only [List.getElem?_cons_zero, List.getElem?_cons_succ]))
          | (refine Run.skipsF ?_ ?_; (· simp only [List.getElem?_cons_zero, List.getElem?_cons_succ]))
          | (refine Run.skipsU ?_ ?_; (· simp only [List.getElem?_cons_zero, List.getElem?_cons_succ]))
          | (refine Run.passT ?_ ?_; (· simp only [List.getElem?_cons_zero, List.getElem?_cons_succ]))
          | (refine Run.passF ?_ ?_; (· simp only [List.getElem?_cons_zero, List.getElem?_cons_succ]))
          | (refine Run.passU ?_ ?_; (· simp only [List.getElem?_cons_zero, List.getElem?_cons_succ]))
          | fail); simp only [Act.put, List.setIfInBounds_toArray, List.set_cons_zero, List.set_cons_succ])
        refine Run.both ?_ ?_
        all_goals
          refine Run.one (fun hS K hK => ?_)
          go_simp
          refine hK.out _ _ trivial ?_
          clear hK K hS
          refine Run.one (fun hS K hK => ?_)
          go_simp
          refine hK.out _ _ trivial ?_
          clear hK K hS
        all_goals
          repeat ((first
            | (refine Run.takes (v := ?_) ?_ ?_; rotate_left; (· intro w' hS'; go_simp; (try with_reducible rfl)))
            | (refine Run.takesG (v := ?_) ?_ ?_ ?_; rotate_left; (· simp only [List.getElem?_cons_zero, List.getElem?_cons_succ]); (· intro w' hS'; go_simp; (try with_reducible rfl)))
            | (refine Run.skipsT ?_ ?_; (· simp only [List.getElem?_cons_zero, List.getElem?_cons_succ]))
            | (refine Run.skipsF ?_ ?_; (· simp only [List.getElem?_cons_zero, List.getElem?_cons_succ]))
            | (refine Run.skipsU ?_ ?_; (· simp only [List.getElem?_cons_zero, List.getElem?_cons_succ]))
            | (refine Run.passT ?_ ?_; (· simp only [List.getElem?_cons_zero, List.getElem?_cons_succ]))
            | (refine Run.passF ?_ ?_; (· simp only [List.getElem?_cons_zero, List.getElem?_cons_succ]))
            | (refine Run.passU ?_ ?_; (· simp only [List.getElem?_cons_zero, List.getElem?_cons_succ]))
            | fail); simp only [Act.put, List.setIfInBounds_toArray, List.set_cons_zero, List.set_cons_succ])
        all_goals
          refine Run.runs (Run.one (fun hS K hK => ?_))
          go_simp
          have R1 : Row (pairE .u32) 24 (w.heap.size + 1) ((wr.setCell ⟨gm, i * 2, none⟩ (.int .u32 x1)).setCell ⟨gm, i * 2 + 1, none⟩ (.int .u32 x2)).drew (.slice (some ⟨gm, 0, none⟩) M.length cm) (M.set i (x1, x2)) := hrw.put rfl hi x1 x2
          have hon : Only gm wr ((wr.setCell ⟨gm, i * 2, none⟩ (.int .u32 x1)).setCell ⟨gm, i * 2 + 1, none⟩ (.int .u32 x2)).drew := ((Only.set wr _ _).trans (Only.set _ _ _)).drew
          have hgB : w.heap.size + 1 ≤ gm := (hrw.block gm rfl).1
          refine hK.out _ _ trivial ?_
          clear hK K hS
          generalize ((wr.setCell ⟨gm, i * 2, none⟩ (.int .u32 x1)).setCell ⟨gm, i * 2 + 1, none⟩ (.int .u32 x2)).drew = V1 at *
          have hlm1 : (M.set i (x1, x2)).length = M.length := List.length_set ..
          obtain ⟨g9, c9, hv9, _, _, _, hc9⟩ := R1.pairs (by rw [hlm1]; exact h3)
          injection hv9 with e1 e2 e3
          injection e1 with e1
          injection e1 with e1 _ _
          subst e1
          have r1 := (hc9 j (by rw [hlm1]; exact hj)).1
          have r2 := (hc9 j (by rw [hlm1]; exact hj)).2
          have r3 := R1.frozen hlm1.symm (j * 2)
          have r4 := R1.frozen hlm1.symm (j * 2 + 1)
          generalize ((M.set i (x1, x2)).getD j (0, 0)).1 = o1 at *
          generalize ((M.set i (x1, x2)).getD j (0, 0)).2 = o2 at *
          clear hc9 p1 p2 p3 p4 z1 z2 e2 e3
        all_goals
          repeat ((first
            | (refine Run.takes (v := ?_) ?_ ?_; rotate_left; (· intro w' hS'; go_simp; (try with_reducible rfl)))
            | (refine Run.takesG (v := ?_) ?_ ?_ ?_; rotate_left; (· simp only [List.getElem?_cons_zero, List.getElem?_cons_succ]); (· intro w' hS'; go_simp; (try with_reducible rfl)))
            | (refine Run.skipsT ?_ ?_; (· simp only [List.getElem?_cons_zero, List.getElem?_cons_succ]))
            | (refine Run.skipsF ?_ ?_; (· simp only [List.getElem?_cons_zero, List.getElem?_cons_succ]))
            | (refine Run.skipsU ?_ ?_; (· simp only [List.getElem?_cons_zero, List.getElem?_cons_succ]))
            | (refine Run.passT ?_ ?_; (· simp only [List.getElem?_cons_zero, List.getElem?_cons_succ]))
            | (refine Run.passF ?_ ?_; (· simp only [List.getElem?_cons_zero, List.getElem?_cons_succ]))
            | (refine Run.passU ?_ ?_; (· simp only [List.getElem?_cons_zero, List.getElem?_cons_succ]))
            | fail); simp only [Act.put, List.setIfInBounds_toArray, List.set_cons_zero, List.set_cons_succ])
        all_goals
          refine Run.runs (Run.one (fun hS K hK => ?_))
          go_simp
          refine hK.out _ _ trivial ?_
          clear hK K hS
          have R2 : Row (pairE .u32) 24 (w.heap.size + 1) ((V1.setCell ⟨gm, j * 2, none⟩ (.int .u32 y1)).setCell ⟨gm, j * 2 + 1, none⟩ (.int .u32 y2)) (.slice (some ⟨gm, 0, none⟩) M.length cm) ((M.set i (x1, x2)).set j (y1, y2)) := R1.put hlm1.symm (by rw [hlm1]; exact hj) y1 y2
          have hon2 : Only gm wr ((V1.setCell ⟨gm, j * 2, none⟩ (.int .u32 y1)).setCell ⟨gm, j * 2 + 1, none⟩ (.int .u32 y2)) := hon.trans ((Only.set V1 _ _).trans (Only.set _ _ _))
          rw [← HSE.out] at R2
          generalize (V1.setCell ⟨gm, j * 2, none⟩ (.int .u32 y1)).setCell ⟨gm, j * 2 + 1, none⟩ (.int .u32 y2) = V2 at *
          have q2 := World.grownBy.cell hon2 q0 (by simp; omega)
          have q3 := World.grownBy.cell hon2 q1 (by simp; omega)
          have hb2 := hb.trans (hon2.below (show w.heap.size ≤ gm by omega) hb.size)
          have hln := swap_len M i j
          clear R1 hon hon2 r1 r2 r3 r4 hlm1 q0 q1 hb hrw
        all_goals refine Run.ends (fun _ => ?_)
        all_goals clear hie hie2
        all_goals go_wp2_with fail
        all_goals
          go_roundw
          case rel => exact ⟨k + 1, swapL M i j, ⟨by omega, by omega⟩, by go_num, R2, by rw [hln]; exact HML.out, fun s => (HSW.out s).trans (HMM.out s), q2, q3, hb2⟩
          case measure => simp [intOf]; omega
      · have hends : (¬ k < ts.length) ∨ (k < ts.length ∧ ¬ k < 60) ∨ (k < ts.length ∧ k < 60 ∧ M.length = 0) := by omega
        obtain ⟨am, cm, rfl, _, _⟩ := hrw.rd.form
        have HRW := Lib.hid hrw
        have hlm : ls.length ≤ 40 := by omega
        clear hrw hgo
        rcases hends with h1 | ⟨h1, h2⟩ | ⟨h1, h2, h3⟩
        · have e1 : ¬ (k : Int) < (ts.length : Int) := by omega
          go_wp2_with fail
          refine Run.region_walk (S := fun z => z.cell? ⟨w.heap.size, 0, none⟩ = some (.int .u32 f) ∧ z.cell? ⟨w.heap.size, 1, none⟩ = some (.int .u32 t) ∧ Below wr.heap.size wr z)
            lorder.rows9 lorder.plan9 (l := ?_) (by kernel_rfl) (by kernel_rfl) (by kernel_rfl) (by kernel_rfl) ?_ ⟨q0, q1, (Below.refl _ _).drew⟩ ?_
          rotate_left
          (· simp only [lorder.plan9, Run.stepsOf, Run.stepOf, Run.guardOf, List.getElem?_toArray, List.getElem?_cons_zero, List.getElem?_cons_succ, Option.map_some, Option.map_none, Option.bind_some, Option.toList_some, List.map_cons, List.map_nil, List.cons_append, List.nil_append]
             rfl)
          repeat ((first
            | (refine Run.takes (v := ?_) ?_ ?_; rotate_left; (· intro w' hS'; go_simp; (try with_reducible rfl)))
            | (refine Run.takesG (v := ?_) ?_ ?_ ?_; rotate_left; (· simp only [List.getElem?_cons_zero, List.getElem?_cons_succ]); (· intro w' hS'; go_simp; (try with_reducible rfl)))
            | (refine Run.skipsT ?_ ?_; (· simp only [List.getElem?_cons_zero, List.getElem?_cons_succ]))
            | (refine Run.skipsF ?_ ?_; (· simp only [List.getElem?_cons_zero, List.getElem?_cons_succ]))
            | (refine Run.skipsU ?_ ?_; (· simp only [List.getElem?_cons_zero, List.getElem?_cons_succ]))
            | (refine Run.passT ?_ ?_; (· simp only [List.getElem?_cons_zero, List.getElem?_cons_succ]))
            | (refine Run.passF ?_ ?_; (· simp only [List.getElem?_cons_zero, List.getElem?_cons_succ]))
            | (refine Run.passU ?_ ?_; (· simp only [List.getElem?_cons_zero, List.getElem?_cons_succ]))
            | fail); simp only [Act.put, List.setIfInBounds_toArray, List.set_cons_zero, List.set_cons_succ])
          refine Run.runs (Run.callF 8 (by kernel_rfl) (fun hS => cnew_any f t _) rfl ?_)
          rintro hS e wa ⟨ba, rfl, hca, hka⟩
          refine ⟨_, rfl, keep3 hS hka, ?_⟩
          have hsz1 := hS.2.2.size
          clear hS
          simp only [Act.put, List.setIfInBounds_toArray, List.set_cons_zero, List.set_cons_succ]
          refine Run.runs (Run.callF 8 (by kernel_rfl) (fun hS => cnew_any f t _) rfl ?_)
          rintro hS e wb ⟨bb, rfl, hcb, hkb⟩
          refine ⟨_, rfl, keep3 hS hkb, ?_⟩
          have hne : ba ≠ bb := by have := hca.lt; have := hcb.1; omega
          replace hca := (hca.keep hkb).mono (Nat.le_trans hb.size hsz1)
          replace hcb := hcb.mono (Nat.le_trans hb.size (Nat.le_trans hsz1 hka.size))
          have hW2 := nest hS.2.2 hkb
          clear hS hka hkb
          simp only [Act.put, List.setIfInBounds_toArray, List.set_cons_zero, List.set_cons_succ]
          repeat ((first
            | (refine Run.takes (v := ?_) ?_ ?_; rotate_left; (· intro w' hS'; go_simp; (try with_reducible rfl)))
            | (refine Run.takesG (v := ?_) ?_ ?_ ?_; rotate_left; (· simp only [List.getElem?_cons_zero, List.getElem?_cons_succ]); (· intro w' hS'; go_simp; (try with_reducible rfl)))
            | (refine Run.skipsT ?_ ?_; (· simp only [List.getElem?_cons_zero, List.getElem?_cons_succ]))
            | (refine Run.skipsF ?_ ?_; (· simp only [List.getElem?_cons_zero, List.getElem?_cons_succ]))
            | (refine Run.skipsU ?_ ?_; (· simp only [List.getElem?_cons_zero, List.getElem?_cons_succ]))
            | (refine Run.passT ?_ ?_; (· simp only [List.getElem?_cons_zero, List.getElem?_cons_succ]))
            | (refine Run.passF ?_ ?_; (· simp only [List.getElem?_cons_zero, List.getElem?_cons_succ]))
            | (refine Run.passU ?_ ?_; (· simp only [List.getElem?_cons_zero, List.getElem?_cons_succ]))
            | fail); simp only [Act.put, List.setIfInBounds_toArray, List.set_cons_zero, List.set_cons_succ])
          refine Run.ends (fun _ => ?_)
          have hb2 := nest hb hW2
          have hrm2 := HRW.out.keep hW2
          have hwa := hca.1
          have hwb := hcb.1
          have bd := beh_bd f t
          clear hW2 q0 q1 hb hsz1
          go_wp2_with fail
          refine (cawake_any wb).mono ?_
          rintro e wc ⟨rfl, hkc⟩
          replace hca := hca.keep hkc
          replace hcb := hcb.keep hkc
          replace hrm2 := hrm2.keep hkc
          have hb3 := nest hb2 hkc
          clear hkc hb2
          go_wp2_with fail
          go_loopw [12] (fun i wr => ∃ (k : Nat) (La Lb : List (Int × Int)), k ≤ ls.length ∧ i = .int .i64 k ∧ CoverAt w.heap.size wr ba f t La ∧ CoverAt w.heap.size wr bb f t Lb ∧ Norm (beh f t) 0 La ∧ Norm (beh f t) 0 Lb ∧ La.length ≤ 1 + 2 * k ∧ Lb.length ≤ 1 + 2 * k ∧
            CRest f (beh f t) La (ls.take k) ∧ CRest f (beh f t) Lb (M.take k) ∧ Row (pairE .u32) 24 (w.heap.size + 1) wr (.slice am M.length cm) M ∧ Below w.heap.size w wr) (fun i _ => ls.length - (intOf i).toNat)
          case atStart => exact ⟨0, _, _, Nat.zero_le _, rfl, hca, hcb, norm0 f t, norm0 f t, by simp, by simp, by rw [List.take_zero]; exact rest_begin _ _, by rw [List.take_zero]; exact rest_begin _ _, hrm2, hb3⟩
          case round =>
            obtain ⟨k2, La, Lb, hk2, rfl, hca2, hcb2, hna, hnb, hla, hlb, hra, hrb, hrm, hb⟩ := hrel
            have HNA := Lib.hid hna
            have HNB := Lib.hid hnb
            have HRA := Lib.hid hra
            have HRB := Lib.hid hrb
            have HRM := Lib.hid hrm
            clear hna hnb hra hrb hrm hca hcb hrm2 hb3
            by_cases hlt : k2 < ls.length
            · obtain ⟨ga, off, c', hv', _, _, hcell⟩ := (HV.out.keep hb).pairs (by omega)
              injection hv' with f1 f2 f3
              subst f1 f3
              obtain ⟨d1, d2⟩ := hcell k2 hlt
              have hz := HW.out (ls.getD k2 (0, 0)) (by simp [List.getD, hlt])
              have hltm : k2 < M.length := by rw [HML.out]; exact hlt
              obtain ⟨gm, c9, hv9, hgm, _, _, hcm9⟩ := HRM.out.pairs (by omega)
              injection hv9 with f1 f4 f3
              subst f1 f3
              obtain ⟨d3, d4⟩ := hcm9 k2 hltm
              have hzm := HW.out (M.getD k2 (0, 0)) ((HMM.out _).1 (by simp [List.getD, hltm]))
              have htl : ls.take (k2 + 1) = ls.take k2 ++ [ls.getD k2 (0, 0)] := by rw [List.take_succ_eq_append_getElem hlt]; simp [List.getD, hlt]
              have htm : M.take (k2 + 1) = M.take k2 ++ [M.getD k2 (0, 0)] := by rw [List.take_succ_eq_append_getElem hltm]; simp [List.getD, hltm]
              have HTL := Lib.hid htl
              have HTM := Lib.hid htm
              clear hcell hcm9 f2 f4 htl htm
              generalize ls.getD k2 (0, 0) = s9 at *
              generalize M.getD k2 (0, 0) = s8 at *
              obtain ⟨g, u⟩ := s9
              obtain ⟨g', u'⟩ := s8
              simp only [] at d1 d2 d3 d4 hz hzm
              have hltI : (k2 : Int) < (M.length : Int) := by omega
              go_wp2_with fail
              refine (cadd_any w.heap.size ba f t g u bf bt hz.1 hz.2 La wr hca2 HNA.out (by omega)).mono ?_
              rintro e x1 ⟨rfl, hc3, ho3⟩
              have lt1 := prts_lt f t g u hz.1 hz.2
              have l1 := Nat.le_trans (addL_len _ lt1 HNA.out) (Nat.add_le_add_left (prts_bd f t g u hz.1 hz.2).1 _)
              have HN1 := Lib.hid (addL_norm _ lt1 HNA.out)
              have HR1 := Lib.hid (rest_add f t La _ g u bf hz.1 hz.2 HNA.out HRA.out)
              obtain ⟨_, vv, hblk, _⟩ := id hca2
              have hrm3 := HRM.out.only ho3 (HRM.out.ne_blk hblk (by decide))
              have hcb3 := hcb2.only ho3 hca2 (fun e => hne e.symm)
              have hgne : gm ≠ ba := fun e => (HRM.out.ne_blk hblk (by decide)) (by rw [e]; rfl)
              have d5 := World.grownBy.cell ho3 d3 (by simp; exact hgne)
              have d6 := World.grownBy.cell ho3 d4 (by simp; exact hgne)
              have hb4 := hb.trans (ho3.below hwa hb.size)
              clear d1 d2 d3 d4 ho3 hca2 hcb2 hblk hgne hb HRM HNA HRA
              generalize addL (prts f t g u) La = La1 at *
              go_wp2_with fail
              refine (cadd_any w.heap.size bb f t g' u' bf bt hzm.1 hzm.2 Lb x1 hcb3 HNB.out (by omega)).mono ?_
              rintro e x2 ⟨rfl, hc4, ho4⟩
              have lt2 := prts_lt f t g' u' hzm.1 hzm.2
              have l2 := Nat.le_trans (addL_len _ lt2 HNB.out) (Nat.add_le_add_left (prts_bd f t g' u' hzm.1 hzm.2).1 _)
              have HN2 := Lib.hid (addL_norm _ lt2 HNB.out)
              have hr2 := rest_add f t Lb _ g' u' bf hzm.1 hzm.2 HNB.out HRB.out
              have hag := rest_again bf hzm.1 hzm.2 HN2.out hr2
              have HR2 := Lib.hid hr2
              have HAG := Lib.hid hag
              clear hr2 hag
              obtain ⟨_, vv, hblk, _⟩ := id hcb3
              have hrm4 := hrm3.only ho4 (hrm3.ne_blk hblk (by decide))
              have hca4 := hc3.only ho4 hcb3 hne
              have hgne : gm ≠ bb := fun e => (hrm3.ne_blk hblk (by decide)) (by rw [e]; rfl)
              have d7 := World.grownBy.cell ho4 d5 (by simp; exact hgne)
              have d8 := World.grownBy.cell ho4 d6 (by simp; exact hgne)
              have hb5 := hb4.trans (ho4.below hwb hb4.size)
              clear d5 d6 ho4 hcb3 hblk hb4 hrm3 hc3 HNB HRB
              generalize addL (prts f t g' u') Lb = Lb1 at *
              go_wp2_with fail
              refine (cadd_any w.heap.size bb f t g' u' bf bt hzm.1 hzm.2 Lb1 x2 hc4 HN2.out (by omega)).mono ?_
              rintro e x3 ⟨rfl, hc5, ho5⟩
              rw [HAG.out] at hc5 ⊢
              rw [Int.sub_self]
              obtain ⟨_, vv, hblk, _⟩ := id hc4
              have hrm5 := hrm4.only ho5 (hrm4.ne_blk hblk (by decide))
              have hca5 := hca4.only ho5 hc4 hne
              have hb6 := hb5.trans (ho5.below hwb hb5.size)
              clear d7 d8 ho5 hc4 hblk hb5 hrm4 hca4 hgne
              go_wp2_with fail
              go_roundw
              case rel => exact ⟨k2 + 1, La1, Lb1, by omega, by go_num, hca5, hc5, HN1.out, HN2.out, by omega, by omega, by rw [HTL.out]; exact HR1.out, by rw [HTM.out]; exact HR2.out, hrm5, hb6⟩
              case measure => simp [intOf]; omega
            · have hkk : k2 = ls.length := by omega
              subst hkk
              have hab : Lb = La := (rest_one HRA.out HRB.out (mem_take_same HMM.out HML.out) HNA.out HNB.out).symm
              subst hab
              clear HRA HRB HRM HNB
              have hll : Lb.length ≤ 100 := by omega
              go_wp2_with fail
              refine (cgaps_any w.heap.size ba f t (beh f t) Lb wr hca2 HNA.out (by omega) (by omega)).mono ?_
              rintro e y1 ⟨v7, rfl, hr7, hk7⟩
              have HSZ := Lib.hid hb.size
              obtain ⟨a7, c7, rfl, _, _⟩ := hr7.rd.form
              rw [List.length_map]
              replace hca2 := hca2.keep hk7
              replace hcb2 := hcb2.keep hk7
              have hb1 := nest hb hk7
              clear hb hk7
              go_wp2_with fail
              refine (cgaps_any w.heap.size bb f t (beh f t) Lb y1 hcb2 HNA.out (by omega) (by omega)).mono ?_
              rintro e y2 ⟨v8, rfl, hr8, hk8⟩
              replace hca2 := hca2.keep hk8
              replace hcb2 := hcb2.keep hk8
              have hb2 := nest hb1 hk8
              replace hr7 := hr7.keep hk8
              clear hb1 hk8
              go_wp2_with fail
              rw [List.length_map] at hr7
              refine (plain_yes _ _ (.slice a7 Lb.length c7) v8 (Lb.map (spanP f)) (by rw [List.length_map]; omega) _ hr7 hr8).mono ?_
              rintro e y3 ⟨rfl, hk9⟩
              replace hca2 := hca2.keep hk9
              replace hcb2 := hcb2.keep hk9
              have hb3 := nest hb2 hk9
              replace hr7 := hr7.keep hk9
              clear hb2 hk9 hr8
              go_wp2_with fail
              refine (cleft_any w.heap.size ba f t (beh f t) Lb y3 hca2 HNA.out (by omega)).mono ?_
              rintro e y4 ⟨rfl, hk9⟩
              replace hca2 := hca2.keep hk9
              replace hcb2 := hcb2.keep hk9
              have hb4 := nest hb3 hk9
              replace hr7 := hr7.keep hk9
              clear hb3 hk9
              go_wp2_with fail
              refine (cleft_any w.heap.size bb f t (beh f t) Lb y4 hcb2 HNA.out (by omega)).mono ?_
              rintro e y5 ⟨rfl, hk9⟩
              replace hca2 := hca2.keep hk9
              have hb5 := nest hb4 hk9
              replace hr7 := hr7.keep hk9
              clear hb4 hk9 hcb2
              go_wp2_with fail
              refine (cleft_any w.heap.size ba f t (beh f t) Lb y5 hca2 HNA.out (by omega)).mono ?_
              rintro e y6 ⟨rfl, hk9⟩
              replace hca2 := hca2.keep hk9
              have hb6 := nest hb5 hk9
              replace hr7 := hr7.keep hk9
              clear hb5 hk9
              go_wp2_with fail
              go_loopw [14, 15] (fun s i wr => ∃ k : Nat, k ≤ Lb.length ∧ i = .int .i64 k ∧ s = .int .u64 (sumL (Lb.drop k)) ∧ CoverAt w.heap.size wr ba f t (Lb.drop k) ∧ Row (pairE .u32) 24 w.heap.size wr (.slice a7 Lb.length c7) (Lb.map (spanP f)) ∧ Below w.heap.size w wr) (fun _ i _ => Lb.length - (intOf i).toNat)
              case atStart => exact ⟨0, Nat.zero_le _, rfl, by rw [List.drop_zero], by rw [List.drop_zero]; exact hca2, hr7.mono HSZ.out, hb6⟩
              case round =>
                obtain ⟨k3, hk3, rfl, rfl, hcw, hrw, hb⟩ := hrel
                by_cases hlt : k3 < Lb.length
                · obtain ⟨gg, c9, hv9, hgg, _, _, hcm9⟩ := hrw.pairs (by rw [List.length_map]; omega)
                  injection hv9 with f1 f4 f3
                  subst f1 f3
                  obtain ⟨d1, d2⟩ := hcm9 k3 (by rw [List.length_map]; exact hlt)
                  have hss : ((Lb.map (spanP f)).getD k3 (0, 0)) = spanP f (Lb.getD k3 (0, 0)) := by simp [List.getD, hlt]
                  rw [hss] at d1 d2
                  have b1 := HNA.out.at hlt
                  have HSD := Lib.hid (sum_drop hlt)
                  have nd0 := Norm.drop (show 0 ≤ beh f t by omega) k3 HNA.out (Int.le_refl _)
                  have nd1 := Norm.drop (show 0 ≤ beh f t by omega) (k3 + 1) HNA.out (Int.le_refl _)
                  have s0 := sumL_bd nd0 (by omega)
                  have s1 := sumL_bd nd1 (by omega)
                  have ND0 := Lib.hid nd0
                  have HAF := Lib.hid (fun p q => add_first (p := p) (q := q) bf HNA.out hlt)
                  have hdl : (Lb.drop k3).length ≤ 100 := by rw [List.length_drop]; omega
                  clear hcm9 hss f4 nd0 nd1
                  generalize hpq : Lb.getD k3 (0, 0) = s9 at *
                  obtain ⟨p, q⟩ := s9
                  simp only [spanP] at d1 d2 b1
                  have HAF2 := Lib.hid (HAF.out p q rfl)
                  have hsd : sumL (Lb.drop (k3 + 1)) ≤ sumL (Lb.drop k3) := by have h := HSD.out; simp only [] at h; omega
                  clear hpq
                  go_wp2_with fail
                  refine (cadd_any w.heap.size ba f t _ _ bf bt (step_bd f p) (step_bd f q) (Lb.drop k3) wr hcw ND0.out (by omega)).mono ?_
                  rintro e x1 ⟨rfl, hc3, ho3⟩
                  rw [HAF2.out] at hc3 ⊢
                  obtain ⟨_, vv, hblk, _⟩ := id hcw
                  have hrm3 := hrw.only ho3 (hrw.ne_blk hblk (by decide))
                  have hb4 := hb.trans (ho3.below hwa hb.size)
                  clear d1 d2 ho3 hcw hrw hblk hb
                  generalize hs0 : sumL (Lb.drop k3) = n0 at *
                  generalize hs1 : sumL (Lb.drop (k3 + 1)) = n1 at *
                  have HS1 := Lib.hid hs1
                  clear hs0 hs1
                  have j1 : 0 ≤ n0 - n1 := by omega
                  have j2 : n0 - (n0 - n1) = n1 := by omega
                  have J2 := Lib.hid j2
                  have j3 : 0 ≤ n0 - (n0 - n1) := by omega
                  have j4 : n0 - (n0 - n1) ≤ 4294967296 := by omega
                  clear j2
                  go_wp2_with fail
                  go_roundw
                  case rel => exact ⟨k3 + 1, by omega, by go_num, by rw [J2.out, HS1.out], hc3, hrm3, hb4⟩
                  case measure => simp [intOf]; omega
                · have hkk : k3 = Lb.length := by omega
                  have e0 : Lb.drop k3 = [] := by rw [hkk, List.drop_length]
                  rw [e0] at hcw ⊢
                  rw [sumL_nil]
                  clear e0
                  go_wp2_with fail
                  refine (cwhole_any w.heap.size ba f t [] wr hcw).mono ?_
                  rintro e z1 ⟨rfl, hk9⟩
                  replace hcw := hcw.keep hk9
                  have hb7 := nest hb hk9
                  go_wp2_with fail
                  refine (cgaps_any w.heap.size ba f t (beh f t) [] z1 hcw trivial (by omega) (by simp)).mono ?_
                  rintro e z2 ⟨v9, rfl, hr9, hk10⟩
                  obtain ⟨a9, c9, rfl, _, _⟩ := hr9.rd.form
                  go_wp2_with fail
                  go_ret
                  exact ⟨rfl, nest hb7 hk10⟩
        · have e1 : (k : Int) < (ts.length : Int) := by omega
          have e2 : ¬ (k : Int) < 60 := by omega
          go_wp2_with fail
          refine Run.region_walk (S := fun z => z.cell? ⟨w.heap.size, 0, none⟩ = some (.int .u32 f) ∧ z.cell? ⟨w.heap.size, 1, none⟩ = some (.int .u32 t) ∧ Below wr.heap.size wr z)
            lorder.rows9 lorder.plan9 (l := ?_) (by kernel_rfl) (by kernel_rfl) (by kernel_rfl) (by kernel_rfl) ?_ ⟨q0, q1, (Below.refl _ _).drew⟩ ?_
          rotate_left
          (· simp only [lorder.plan9, Run.stepsOf, Run.stepOf, Run.guardOf, List.getElem?_toArray, List.getElem?_cons_zero, List.getElem?_cons_succ, Option.map_some, Option.map_none, Option.bind_some, Option.toList_some, List.map_cons, List.map_nil, List.cons_append, List.nil_append]
             rfl)
          repeat ((first
            | (refine Run.takes (v := ?_) ?_ ?_; rotate_left; (· intro w' hS'; go_simp; (try with_reducible rfl)))
            | (refine Run.takesG (v := ?_) ?_ ?_ ?_; rotate_left; (· simp only [List.getElem?_cons_zero, List.getElem?_cons_succ]); (· intro w' hS'; go_simp; (try with_reducible rfl)))
            | (refine Run.skipsT ?_ ?_; (· simp only [List.getElem?_cons_zero, List.getElem?_cons_succ]))
            | (refine Run.skipsF ?_ ?_; (· simp only [List.getElem?_cons_zero, List.getElem?_cons_succ]))
            | (refine Run.skipsU ?_ ?_; (· simp only [List.getElem?_cons_zero, List.getElem?_cons_succ]))
            | (refine Run.passT ?_ ?_; (· simp only [List.getElem?_cons_zero, List.getElem?_cons_succ]))
            | (refine Run.passF ?_ ?_; (· simp only [List.getElem?_cons_zero, List.getElem?_cons_succ]))
            | (refine Run.passU ?_ ?_; (· simp only [List.getElem?_cons_zero, List.getElem?_cons_succ]))
            | fail); simp only [Act.put, List.setIfInBounds_toArray, List.set_cons_zero, List.set_cons_succ])
          refine Run.runs (Run.callF 8 (by kernel_rfl) (fun hS => cnew_any f t _) rfl ?_)
          rintro hS e wa ⟨ba, rfl, hca, hka⟩
          refine ⟨_, rfl, keep3 hS hka, ?_⟩
          have hsz1 := hS.2.2.size
          clear hS
          simp only [Act.put, List.setIfInBounds_toArray, List.set_cons_zero, List.set_cons_succ]
          refine Run.runs (Run.callF 8 (by kernel_rfl) (fun hS => cnew_any f t _) rfl ?_)
          rintro hS e wb ⟨bb, rfl, hcb, hkb⟩
          refine ⟨_, rfl, keep3 hS hkb, ?_⟩
          have hne : ba ≠ bb := by have := hca.lt; have := hcb.1; omega
          replace hca := (hca.keep hkb).mono (Nat.le_trans hb.size hsz1)
          replace hcb := hcb.mono (Nat.le_trans hb.size (Nat.le_trans hsz1 hka.size))
          have hW2 := nest hS.2.2 hkb
          clear hS hka hkb
          simp only [Act.put, List.setIfInBounds_toArray, List.set_cons_zero, List.set_cons_succ]
          repeat ((first
            | (refine Run.takes (v := ?_) ?_ ?_; rotate_left; (· intro w' hS'; go_simp; (try with_reducible rfl)))
            | (refine Run.takesG (v := ?_) ?_ ?_ ?_; rotate_left; (· simp only [List.getElem?_cons_zero, List.getElem?_cons_succ]); (· intro w' hS'; go_simp; (try with_reducible rfl)))
            | (refine Run.skipsT ?_ ?_; (· simp only [List.getElem?_cons_zero, List.getElem?_cons_succ]))
            | (refine Run.skipsF ?_ ?_; (· simp only [List.getElem?_cons_zero, List.getElem?_cons_succ]))
            | (refine Run.skipsU ?_ ?_; (· simp only [List.getElem?_cons_zero, List.getElem?_cons_succ]))
            | (refine Run.passT ?_ ?_; (· simp only [List.getElem?_cons_zero, List.getElem?_cons_succ]))
            | (refine Run.passF ?_ ?_; (· simp only [List.getElem?_cons_zero, List.getElem?_cons_succ]))
            | (refine Run.passU ?_ ?_; (· simp only [List.getElem?_cons_zero, List.getElem?_cons_succ]))
            | fail); simp only [Act.put, List.setIfInBounds_toArray, List.set_cons_zero, List.set_cons_succ])
          refine Run.ends (fun _ => ?_)
          have hb2 := nest hb hW2
          have hrm2 := HRW.out.keep hW2
          have hwa := hca.1
          have hwb := hcb.1
          have bd := beh_bd f t
          clear hW2 q0 q1 hb hsz1
          go_wp2_with fail
          refine (cawake_any wb).mono ?_
          rintro e wc ⟨rfl, hkc⟩
          replace hca := hca.keep hkc
          replace hcb := hcb.keep hkc
          replace hrm2 := hrm2.keep hkc
          have hb3 := nest hb2 hkc
          clear hkc hb2
          go_wp2_with fail
          go_loopw [12] (fun i wr => ∃ (k : Nat) (La Lb : List (Int × Int)), k ≤ ls.length ∧ i = .int .i64 k ∧ CoverAt w.heap.size wr ba f t La ∧ CoverAt w.heap.size wr bb f t Lb ∧ Norm (beh f t) 0 La ∧ Norm (beh f t) 0 Lb ∧ La.length ≤ 1 + 2 * k ∧ Lb.length ≤ 1 + 2 * k ∧
            CRest f (beh f t) La (ls.take k) ∧ CRest f (beh f t) Lb (M.take k) ∧ Row (pairE .u32) 24 (w.heap.size + 1) wr (.slice am M.length cm) M ∧ Below w.heap.size w wr) (fun i _ => ls.length - (intOf i).toNat)
          case atStart => exact ⟨0, _, _, Nat.zero_le _, rfl, hca, hcb, norm0 f t, norm0 f t, by simp, by simp, by rw [List.take_zero]; exact rest_begin _ _, by rw [List.take_zero]; exact rest_begin _ _, hrm2, hb3⟩
          case round =>
            obtain ⟨k2, La, Lb, hk2, rfl, hca2, hcb2, hna, hnb, hla, hlb, hra, hrb, hrm, hb⟩ := hrel
            have HNA := Lib.hid hna
            have HNB := Lib.hid hnb
            have HRA := Lib.hid hra
            have HRB := Lib.hid hrb
            have HRM := Lib.hid hrm
            clear hna hnb hra hrb hrm hca hcb hrm2 hb3
            by_cases hlt : k2 < ls.length
            · obtain ⟨ga, off, c', hv', _, _, hcell⟩ := (HV.out.keep hb).pairs (by omega)
              injection hv' with f1 f2 f3
              subst f1 f3
              obtain ⟨d1, d2⟩ := hcell k2 hlt
              have hz := HW.out (ls.getD k2 (0, 0)) (by simp [List.getD, hlt])
              have hltm : k2 < M.length := by rw [HML.out]; exact hlt
              obtain ⟨gm, c9, hv9, hgm, _, _, hcm9⟩ := HRM.out.pairs (by omega)
              injection hv9 with f1 f4 f3
              subst f1 f3
              obtain ⟨d3, d4⟩ := hcm9 k2 hltm
              have hzm := HW.out (M.getD k2 (0, 0)) ((HMM.out _).1 (by simp [List.getD, hltm]))
              have htl : ls.take (k2 + 1) = ls.take k2 ++ [ls.getD k2 (0, 0)] := by rw [List.take_succ_eq_append_getElem hlt]; simp [List.getD, hlt]
              have htm : M.take (k2 + 1) = M.take k2 ++ [M.getD k2 (0, 0)] := by rw [List.take_succ_eq_append_getElem hltm]; simp [List.getD, hltm]
              have HTL := Lib.hid htl
              have HTM := Lib.hid htm
              clear hcell hcm9 f2 f4 htl htm
              generalize ls.getD k2 (0, 0) = s9 at *
              generalize M.getD k2 (0, 0) = s8 at *
              obtain ⟨g, u⟩ := s9
              obtain ⟨g', u'⟩ := s8
              simp only [] at d1 d2 d3 d4 hz hzm
              have hltI : (k2 : Int) < (M.length : Int) := by omega
              go_wp2_with fail
              refine (cadd_any w.heap.size ba f t g u bf bt hz.1 hz.2 La wr hca2 HNA.out (by omega)).mono ?_
              rintro e x1 ⟨rfl, hc3, ho3⟩
              have lt1 := prts_lt f t g u hz.1 hz.2
              have l1 := Nat.le_trans (addL_len _ lt1 HNA.out) (Nat.add_le_add_left (prts_bd f t g u hz.1 hz.2).1 _)
              have HN1 := Lib.hid (addL_norm _ lt1 HNA.out)
              have HR1 := Lib.hid (rest_add f t La _ g u bf hz.1 hz.2 HNA.out HRA.out)
              obtain ⟨_, vv, hblk, _⟩ := id hca2
              have hrm3 := HRM.out.only ho3 (HRM.out.ne_blk hblk (by decide))
              have hcb3 := hcb2.only ho3 hca2 (fun e => hne e.symm)
              have hgne : gm ≠ ba := fun e => (HRM.out.ne_blk hblk (by decide)) (by rw [e]; rfl)
              have d5 := World.grownBy.cell ho3 d3 (by simp; exact hgne)
              have d6 := World.grownBy.cell ho3 d4 (by simp; exact hgne)
              have hb4 := hb.trans (ho3.below hwa hb.size)
              clear d1 d2 d3 d4 ho3 hca2 hcb2 hblk hgne hb HRM HNA HRA
              generalize addL (prts f t g u) La = La1 at *
              go_wp2_with fail
              refine (cadd_any w.heap.size bb f t g' u' bf bt hzm.1 hzm.2 Lb x1 hcb3 HNB.out (by omega)).mono ?_
              rintro e x2 ⟨rfl, hc4, ho4⟩
              have lt2 := prts_lt f t g' u' hzm.1 hzm.2
              have l2 := Nat.le_trans (addL_len _ lt2 HNB.out) (Nat.add_le_add_left (prts_bd f t g' u' hzm.1 hzm.2).1 _)
              have HN2 := Lib.hid (addL_norm _ lt2 HNB.out)
              have hr2 := rest_add f t Lb _ g' u' bf hzm.1 hzm.2 HNB.out HRB.out
              have hag := rest_again bf hzm.1 hzm.2 HN2.out hr2
              have HR2 := Lib.hid hr2
              have HAG := Lib.hid hag
              clear hr2 hag
              obtain ⟨_, vv, hblk, _⟩ := id hcb3
              have hrm4 := hrm3.only ho4 (hrm3.ne_blk hblk (by decide))
              have hca4 := hc3.only ho4 hcb3 hne
              have hgne : gm ≠ bb := fun e => (hrm3.ne_blk hblk (by decide)) (by rw [e]; rfl)
              have d7 := World.grownBy.cell ho4 d5 (by simp; exact hgne)
              have d8 := World.grownBy.cell ho4 d6 (by simp; exact hgne)
              have hb5 := hb4.trans (ho4.below hwb hb4.size)
              clear d5 d6 ho4 hcb3 hblk hb4 hrm3 hc3 HNB HRB
              generalize addL (prts f t g' u') Lb = Lb1 at *
              go_wp2_with fail
              refine (cadd_any w.heap.size bb f t g' u' bf bt hzm.1 hzm.2 Lb1 x2 hc4 HN2.out (by omega)).mono ?_
              rintro e x3 ⟨rfl, hc5, ho5⟩
              rw [HAG.out] at hc5 ⊢
              rw [Int.sub_self]
              obtain ⟨_, vv, hblk, _⟩ := id hc4
              have hrm5 := hrm4.only ho5 (hrm4.ne_blk hblk (by decide))
              have hca5 := hca4.only ho5 hc4 hne
              have hb6 := hb5.trans (ho5.below hwb hb5.size)
              clear d7 d8 ho5 hc4 hblk hb5 hrm4 hca4 hgne
              go_wp2_with fail
              go_roundw
              case rel => exact ⟨k2 + 1, La1, Lb1, by omega, by go_num, hca5, hc5, HN1.out, HN2.out, by omega, by omega, by rw [HTL.out]; exact HR1.out, by rw [HTM.out]; exact HR2.out, hrm5, hb6⟩
              case measure => simp [intOf]; omega
            · have hkk : k2 = ls.length := by omega
              subst hkk
              have hab : Lb = La := (rest_one HRA.out HRB.out (mem_take_same HMM.out HML.out) HNA.out HNB.out).symm
              subst hab
              clear HRA HRB HRM HNB
              have hll : Lb.length ≤ 100 := by omega
              go_wp2_with fail
              refine (cgaps_any w.heap.size ba f t (beh f t) Lb wr hca2 HNA.out (by omega) (by omega)).mono ?_
              rintro e y1 ⟨v7, rfl, hr7, hk7⟩
              have HSZ := Lib.hid hb.size
              obtain ⟨a7, c7, rfl, _, _⟩ := hr7.rd.form
              rw [List.length_map]
              replace hca2 := hca2.keep hk7
              replace hcb2 := hcb2.keep hk7
              have hb1 := nest hb hk7
              clear hb hk7
              go_wp2_with fail
              refine (cgaps_any w.heap.size bb f t (beh f t) Lb y1 hcb2 HNA.out (by omega) (by omega)).mono ?_
              rintro e y2 ⟨v8, rfl, hr8, hk8⟩
              replace hca2 := hca2.keep hk8
              replace hcb2 := hcb2.keep hk8
              have hb2 := nest hb1 hk8
              replace hr7 := hr7.keep hk8
              clear hb1 hk8
              go_wp2_with fail
              rw [List.length_map] at hr7
              refine (plain_yes _ _ (.slice a7 Lb.length c7) v8 (Lb.map (spanP f)) (by rw [List.length_map]; omega) _ hr7 hr8).mono ?_
              rintro e y3 ⟨rfl, hk9⟩
              replace hca2 := hca2.keep hk9
              replace hcb2 := hcb2.keep hk9
              have hb3 := nest hb2 hk9
              replace hr7 := hr7.keep hk9
              clear hb2 hk9 hr8
              go_wp2_with fail
              refine (cleft_any w.heap.size ba f t (beh f t) Lb y3 hca2 HNA.out (by omega)).mono ?_
              rintro e y4 ⟨rfl, hk9⟩
              replace hca2 := hca2.keep hk9
              replace hcb2 := hcb2.keep hk9
              have hb4 := nest hb3 hk9
              replace hr7 := hr7.keep hk9
              clear hb3 hk9
              go_wp2_with fail
              refine (cleft_any w.heap.size bb f t (beh f t) Lb y4 hcb2 HNA.out (by omega)).mono ?_
              rintro e y5 ⟨rfl, hk9⟩
              replace hca2 := hca2.keep hk9
              have hb5 := nest hb4 hk9
              replace hr7 := hr7.keep hk9
              clear hb4 hk9 hcb2
              go_wp2_with fail
              refine (cleft_any w.heap.size ba f t (beh f t) Lb y5 hca2 HNA.out (by omega)).mono ?_
              rintro e y6 ⟨rfl, hk9⟩
              replace hca2 := hca2.keep hk9
              have hb6 := nest hb5 hk9
              replace hr7 := hr7.keep hk9
              clear hb5 hk9
              go_wp2_with fail
              go_loopw [14, 15] (fun s i wr => ∃ k : Nat, k ≤ Lb.length ∧ i = .int .i64 k ∧ s = .int .u64 (sumL (Lb.drop k)) ∧ CoverAt w.heap.size wr ba f t (Lb.drop k) ∧ Row (pairE .u32) 24 w.heap.size wr (.slice a7 Lb.length c7) (Lb.map (spanP f)) ∧ Below w.heap.size w wr) (fun _ i _ => Lb.length - (intOf i).toNat)
              case atStart => exact ⟨0, Nat.zero_le _, rfl, by rw [List.drop_zero], by rw [List.drop_zero]; exact hca2, hr7.mono HSZ.out, hb6⟩
              case round =>
                obtain ⟨k3, hk3, rfl, rfl, hcw, hrw, hb⟩ := hrel
                by_cases hlt : k3 < Lb.length
                · obtain ⟨gg, c9, hv9, hgg, _, _, hcm9⟩ := hrw.pairs (by rw [List.length_map]; omega)
                  injection hv9 with f1 f4 f3
                  subst f1 f3
                  obtain ⟨d1, d2⟩ := hcm9 k3 (by rw [List.length_map]; exact hlt)
                  have hss : ((Lb.map (spanP f)).getD k3 (0, 0)) = spanP f (Lb.getD k3 (0, 0)) := by simp [List.getD, hlt]
                  rw [hss] at d1 d2
                  have b1 := HNA.out.at hlt
                  have HSD := Lib.hid (sum_drop hlt)
                  have nd0 := Norm.drop (show 0 ≤ beh f t by omega) k3 HNA.out (Int.le_refl _)
                  have nd1 := Norm.drop (show 0 ≤ beh f t by omega) (k3 + 1) HNA.out (Int.le_refl _)
                  have s0 := sumL_bd nd0 (by omega)
                  have s1 := sumL_bd nd1 (by omega)
                  have ND0 := Lib.hid nd0
                  have HAF := Lib.hid (fun p q => add_first (p := p) (q := q) bf HNA.out hlt)
                  have hdl : (Lb.drop k3).length ≤ 100 := by rw [List.length_drop]; omega
                  clear hcm9 hss f4 nd0 nd1
                  generalize hpq : Lb.getD k3 (0, 0) = s9 at *
                  obtain ⟨p, q⟩ := s9
                  simp only [spanP] at d1 d2 b1
                  have HAF2 := Lib.hid (HAF.out p q rfl)
                  have hsd : sumL (Lb.drop (k3 + 1)) ≤ sumL (Lb.drop k3) := by have h := HSD.out; simp only [] at h; omega
                  clear hpq
                  go_wp2_with fail
                  refine (cadd_any w.heap.size ba f t _ _ bf bt (step_bd f p) (step_bd f q) (Lb.drop k3) wr hcw ND0.out (by omega)).mono ?_
                  rintro e x1 ⟨rfl, hc3, ho3⟩
                  rw [HAF2.out] at hc3 ⊢
                  obtain ⟨_, vv, hblk, _⟩ := id hcw
                  have hrm3 := hrw.only ho3 (hrw.ne_blk hblk (by decide))
                  have hb4 := hb.trans (ho3.below hwa hb.size)
                  clear d1 d2 ho3 hcw hrw hblk hb
                  generalize hs0 : sumL (Lb.drop k3) = n0 at *
                  generalize hs1 : sumL (Lb.drop (k3 + 1)) = n1 at *
                  have HS1 := Lib.hid hs1
                  clear hs0 hs1
                  have j1 : 0 ≤ n0 - n1 := by omega
                  have j2 : n0 - (n0 - n1) = n1 := by omega
                  have J2 := Lib.hid j2
                  have j3 : 0 ≤ n0 - (n0 - n1) := by omega
                  have j4 : n0 - (n0 - n1) ≤ 4294967296 := by omega
                  clear j2
                  go_wp2_with fail
                  go_roundw
                  case rel => exact ⟨k3 + 1, by omega, by go_num, by rw [J2.out, HS1.out], hc3, hrm3, hb4⟩
                  case measure => simp [intOf]; omega
                · have hkk : k3 = Lb.length := by omega
                  have e0 : Lb.drop k3 = [] := by rw [hkk, List.drop_length]
                  rw [e0] at hcw ⊢
                  rw [sumL_nil]
                  clear e0
                  go_wp2_with fail
                  refine (cwhole_any w.heap.size ba f t [] wr hcw).mono ?_
                  rintro e z1 ⟨rfl, hk9⟩
                  replace hcw := hcw.keep hk9
                  have hb7 := nest hb hk9
                  go_wp2_with fail
                  refine (cgaps_any w.heap.size ba f t (beh f t) [] z1 hcw trivial (by omega) (by simp)).mono ?_
                  rintro e z2 ⟨v9, rfl, hr9, hk10⟩
                  obtain ⟨a9, c9, rfl, _, _⟩ := hr9.rd.form
                  go_wp2_with fail
                  go_ret
                  exact ⟨rfl, nest hb7 hk10⟩
        · have e1 : (k : Int) < (ts.length : Int) := by omega
          have e2 : (k : Int) < 60 := by omega
          have e3 : ¬ (0 : Int) < (M.length : Int) := by omega
          go_wp2_with fail
          refine Run.region_walk (S := fun z => z.cell? ⟨w.heap.size, 0, none⟩ = some (.int .u32 f) ∧ z.cell? ⟨w.heap.size, 1, none⟩ = some (.int .u32 t) ∧ Below wr.heap.size wr z)
            lorder.rows9 lorder.plan9 (l := ?_) (by kernel_rfl) (by kernel_rfl) (by kernel_rfl) (by kernel_rfl) ?_ ⟨q0, q1, (Below.refl _ _).drew⟩ ?_
          rotate_left
          (· simp only [lorder.plan9, Run.stepsOf, Run.stepOf, Run.guardOf, List.getElem?_toArray, List.getElem?_cons_zero, List.getElem?_cons_succ, Option.map_some, Option.map_none, Option.bind_some, Option.toList_some, List.map_cons, List.map_nil, List.cons_append, List.nil_append]
             rfl)
          repeat ((first
            | (refine Run.takes (v := ?_) ?_ ?_; rotate_left; (· intro w' hS'; go_simp; (try with_reducible rfl)))
            | (refine Run.takesG (v := ?_) ?_ ?_ ?_; rotate_left; (· simp only [List.getElem?_cons_zero, List.getElem?_cons_succ]); (· intro w' hS'; go_simp; (try with_reducible rfl)))
            | (refine Run.skipsT ?_ ?_; (· simp only [List.getElem?_cons_zero, List.getElem?_cons_succ]))
            | (refine Run.skipsF ?_ ?_; (· simp only [List.getElem?_cons_zero, List.getElem?_cons_succ]))
            | (refine Run.skipsU ?_ ?_; (· simp only [List.getElem?_cons_zero, List.getElem?_cons_succ]))
            | (refine Run.passT ?_ ?_; (· simp only [List.getElem?_cons_zero, List.getElem?_cons_succ]))
            | (refine Run.passF ?_ ?_; (· simp only [List.getElem?_cons_zero, List.getElem?_cons_succ]))
            | (refine Run.passU ?_ ?_; (· simp only [List.getElem?_cons_zero, List.getElem?_cons_succ]))
            | fail); simp only [Act.put, List.setIfInBounds_toArray, List.set_cons_zero, List.set_cons_succ])
          refine Run.runs (Run.callF 8 (by kernel_rfl) (fun hS => cnew_any f t _) rfl ?_)
          rintro hS e wa ⟨ba, rfl, hca, hka⟩
          refine ⟨_, rfl, keep3 hS hka, ?_⟩
          have hsz1 := hS.2.2.size
          clear hS
          simp only [Act.put, List.setIfInBounds_toArray, List.set_cons_zero, List.set_cons_succ]
          refine Run.runs (Run.callF 8 (by kernel_rfl) (fun hS => cnew_any f t _) rfl ?_)
          rintro hS e wb ⟨bb, rfl, hcb, hkb⟩
          refine ⟨_, rfl, keep3 hS hkb, ?_⟩
          have hne : ba ≠ bb := by have := hca.lt; have := hcb.1; omega
          replace hca := (hca.keep hkb).mono (Nat.le_trans hb.size hsz1)
          replace hcb := hcb.mono (Nat.le_trans hb.size (Nat.le_trans hsz1 hka.size))
          have hW2 := nest hS.2.2 hkb
          clear hS hka hkb
          simp only [Act.put, List.setIfInBounds_toArray, List.set_cons_zero, List.set_cons_succ]
          repeat ((first
            | (refine Run.takes (v := ?_) ?_ ?_; rotate_left; (· intro w' hS'; go_simp; (try with_reducible rfl)))
            | (refine Run.takesG (v := ?_) ?_ ?_ ?_; rotate_left; (· simp only [List.getElem?_cons_zero, List.getElem?_cons_succ]); (· intro w' hS'; go_simp; (try with_reducible rfl)))
            | (refine Run.skipsT ?_ ?_; (· simp only [List.getElem?_cons_zero, List.getElem?_cons_succ]))
            | (refine Run.skipsF ?_ ?_; (· simp only [List.getElem?_cons_zero, List.getElem?_cons_succ]))
            | (refine Run.skipsU ?_ ?_; (· simp only [List.getElem?_cons_zero, List.getElem?_cons_succ]))
            | (refine Run.passT ?_ ?_; (· simp only [List.getElem?_cons_zero, List.getElem?_cons_succ]))
            | (refine Run.passF ?_ ?_; (· simp only [List.getElem?_cons_zero, List.getElem?_cons_succ]))
            | (refine Run.passU ?_ ?_; (· simp only [List.getElem?_cons_zero, List.getElem?_cons_succ]))
            | fail); simp only [Act.put, List.setIfInBounds_toArray, List.set_cons_zero, List.set_cons_succ])
          refine Run.ends (fun _ => ?_)
          have hb2 := nest hb hW2
          have hrm2 := HRW.out.keep hW2
          have hwa := hca.1
          have hwb := hcb.1
          have bd := beh_bd f t
          clear hW2 q0 q1 hb hsz1
          go_wp2_with fail
          refine (cawake_any wb).mono ?_
          rintro e wc ⟨rfl, hkc⟩
          replace hca := hca.keep hkc
          replace hcb := hcb.keep hkc
          replace hrm2 := hrm2.keep hkc
          have hb3 := nest hb2 hkc
          clear hkc hb2
          go_wp2_with fail
          go_loopw [12] (fun i wr => ∃ (k : Nat) (La Lb : List (Int × Int)), k ≤ ls.length ∧ i = .int .i64 k ∧ CoverAt w.heap.size wr ba f t La ∧ CoverAt w.heap.size wr bb f t Lb ∧ Norm (beh f t) 0 La ∧ Norm (beh f t) 0 Lb ∧ La.length ≤ 1 + 2 * k ∧ Lb.length ≤ 1 + 2 * k ∧
            CRest f (beh f t) La (ls.take k) ∧ CRest f (beh f t) Lb (M.take k) ∧ Row (pairE .u32) 24 (w.heap.size + 1) wr (.slice am M.length cm) M ∧ Below w.heap.size w wr) (fun i _ => ls.length - (intOf i).toNat)
          case atStart => exact ⟨0, _, _, Nat.zero_le _, rfl, hca, hcb, norm0 f t, norm0 f t, by simp, by simp, by rw [List.take_zero]; exact rest_begin _ _, by rw [List.take_zero]; exact rest_begin _ _, hrm2, hb3⟩
          case round =>
            obtain ⟨k2, La, Lb, hk2, rfl, hca2, hcb2, hna, hnb, hla, hlb, hra, hrb, hrm, hb⟩ := hrel
            have HNA := Lib.hid hna
            have HNB := Lib.hid hnb
            have HRA := Lib.hid hra
            have HRB := Lib.hid hrb
            have HRM := Lib.hid hrm
            clear hna hnb hra hrb hrm hca hcb hrm2 hb3
            by_cases hlt : k2 < ls.length
            · obtain ⟨ga, off, c', hv', _, _, hcell⟩ := (HV.out.keep hb).pairs (by omega)
              injection hv' with f1 f2 f3
              subst f1 f3
              obtain ⟨d1, d2⟩ := hcell k2 hlt
              have hz := HW.out (ls.getD k2 (0, 0)) (by simp [List.getD, hlt])
              have hltm : k2 < M.length := by rw [HML.out]; exact hlt
              obtain ⟨gm, c9, hv9, hgm, _, _, hcm9⟩ := HRM.out.pairs (by omega)
              injection hv9 with f1 f4 f3
              subst f1 f3
              obtain ⟨d3, d4⟩ := hcm9 k2 hltm
              have hzm := HW.out (M.getD k2 (0, 0)) ((HMM.out _).1 (by simp [List.getD, hltm]))
              have htl : ls.take (k2 + 1) = ls.take k2 ++ [ls.getD k2 (0, 0)] := by rw [List.take_succ_eq_append_getElem hlt]; simp [List.getD, hlt]
              have htm : M.take (k2 + 1) = M.take k2 ++ [M.getD k2 (0, 0)] := by rw [List.take_succ_eq_append_getElem hltm]; simp [List.getD, hltm]
              have HTL := Lib.hid htl
              have HTM := Lib.hid htm
              clear hcell hcm9 f2 f4 htl htm
              generalize ls.getD k2 (0, 0) = s9 at *
              generalize M.getD k2 (0, 0) = s8 at *
              obtain ⟨g, u⟩ := s9
              obtain ⟨g', u'⟩ := s8
              simp only [] at d1 d2 d3 d4 hz hzm
              have hltI : (k2 : Int) < (M.length : Int) := by omega
              go_wp2_with fail
              refine (cadd_any w.heap.size ba f t g u bf bt hz.1 hz.2 La wr hca2 HNA.out (by omega)).mono ?_
              rintro e x1 ⟨rfl, hc3, ho3⟩
              have lt1 := prts_lt f t g u hz.1 hz.2
              have l1 := Nat.le_trans (addL_len _ lt1 HNA.out) (Nat.add_le_add_left (prts_bd f t g u hz.1 hz.2).1 _)
              have HN1 := Lib.hid (addL_norm _ lt1 HNA.out)
              have HR1 := Lib.hid (rest_add f t La _ g u bf hz.1 hz.2 HNA.out HRA.out)
              obtain ⟨_, vv, hblk, _⟩ := id hca2
              have hrm3 := HRM.out.only ho3 (HRM.out.ne_blk hblk (by decide))
              have hcb3 := hcb2.only ho3 hca2 (fun e => hne e.symm)
              have hgne : gm ≠ ba := fun e => (HRM.out.ne_blk hblk (by decide)) (by rw [e]; rfl)
              have d5 := World.grownBy.cell ho3 d3 (by simp; exact hgne)
              have d6 := World.grownBy.cell ho3 d4 (by simp; exact hgne)
              have hb4 := hb.trans (ho3.below hwa hb.size)
              clear d1 d2 d3 d4 ho3 hca2 hcb2 hblk hgne hb HRM HNA HRA
              generalize addL (prts f t g u) La = La1 at *
              go_wp2_with fail
              refine (cadd_any w.heap.size bb f t g' u' bf bt hzm.1 hzm.2 Lb x1 hcb3 HNB.out (by omega)).mono ?_
              rintro e x2 ⟨rfl, hc4, ho4⟩
              have lt2 := prts_lt f t g' u' hzm.1 hzm.2
              have l2 := Nat.le_trans (addL_len _ lt2 HNB.out) (Nat.add_le_add_left (prts_bd f t g' u' hzm.1 hzm.2).1 _)
              have HN2 := Lib.hid (addL_norm _ lt2 HNB.out)
              have hr2 := rest_add f t Lb _ g' u' bf hzm.1 hzm.2 HNB.out HRB.out
              have hag := rest_again bf hzm.1 hzm.2 HN2.out hr2
              have HR2 := Lib.hid hr2
              have HAG := Lib.hid hag
              clear hr2 hag
              obtain ⟨_, vv, hblk, _⟩ := id hcb3
              have hrm4 := hrm3.only ho4 (hrm3.ne_blk hblk (by decide))
              have hca4 := hc3.only ho4 hcb3 hne
              have hgne : gm ≠ bb := fun e => (hrm3.ne_blk hblk (by decide)) (by rw [e]; rfl)
              have d7 := World.grownBy.cell ho4 d5 (by simp; exact hgne)
              have d8 := World.grownBy.cell ho4 d6 (by simp; exact hgne)
              have hb5 := hb4.trans (ho4.below hwb hb4.size)
              clear d5 d6 ho4 hcb3 hblk hb4 hrm3 hc3 HNB HRB
              generalize addL (prts f t g' u') Lb = Lb1 at *
              go_wp2_with fail
              refine (cadd_any w.heap.size bb f t g' u' bf bt hzm.1 hzm.2 Lb1 x2 hc4 HN2.out (by omega)).mono ?_
              rintro e x3 ⟨rfl, hc5, ho5⟩
              rw [HAG.out] at hc5 ⊢
              rw [Int.sub_self]
              obtain ⟨_, vv, hblk, _⟩ := id hc4
              have hrm5 := hrm4.only ho5 (hrm4.ne_blk hblk (by decide))
              have hca5 := hca4.only ho5 hc4 hne
              have hb6 := hb5.trans (ho5.below hwb hb5.size)
              clear d7 d8 ho5 hc4 hblk hb5 hrm4 hca4 hgne
              go_wp2_with fail
              go_roundw
              case rel => exact ⟨k2 + 1, La1, Lb1, by omega, by go_num, hca5, hc5, HN1.out, HN2.out, by omega, by omega, by rw [HTL.out]; exact HR1.out, by rw [HTM.out]; exact HR2.out, hrm5, hb6⟩
              case measure => simp [intOf]; omega
            · have hkk : k2 = ls.length := by omega
              subst hkk
              have hab : Lb = La := (rest_one HRA.out HRB.out (mem_take_same HMM.out HML.out) HNA.out HNB.out).symm
              subst hab
              clear HRA HRB HRM HNB
              have hll : Lb.length ≤ 100 := by omega
              go_wp2_with fail
              refine (cgaps_any w.heap.size ba f t (beh f t) Lb wr hca2 HNA.out (by omega) (by omega)).mono ?_
              rintro e y1 ⟨v7, rfl, hr7, hk7⟩
              have HSZ := Lib.hid hb.size
              obtain ⟨a7, c7, rfl, _, _⟩ := hr7.rd.form
              rw [List.length_map]
              replace hca2 := hca2.keep hk7
              replace hcb2 := hcb2.keep hk7
              have hb1 := nest hb hk7
              clear hb hk7
              go_wp2_with fail
              refine (cgaps_any w.heap.size bb f t (beh f t) Lb y1 hcb2 HNA.out (by omega) (by omega)).mono ?_
              rintro e y2 ⟨v8, rfl, hr8, hk8⟩
              replace hca2 := hca2.keep hk8
              replace hcb2 := hcb2.keep hk8
              have hb2 := nest hb1 hk8
              replace hr7 := hr7.keep hk8
              clear hb1 hk8
              go_wp2_with fail
              rw [List.length_map] at hr7
              refine (plain_yes _ _ (.slice a7 Lb.length c7) v8 (Lb.map (spanP f)) (by rw [List.length_map]; omega) _ hr7 hr8).mono ?_
              rintro e y3 ⟨rfl, hk9⟩
              replace hca2 := hca2.keep hk9
              replace hcb2 := hcb2.keep hk9
              have hb3 := nest hb2 hk9
              replace hr7 := hr7.keep hk9
              clear hb2 hk9 hr8
              go_wp2_with fail
              refine (cleft_any w.heap.size ba f t (beh f t) Lb y3 hca2 HNA.out (by omega)).mono ?_
              rintro e y4 ⟨rfl, hk9⟩
              replace hca2 := hca2.keep hk9
              replace hcb2 := hcb2.keep hk9
              have hb4 := nest hb3 hk9
              replace hr7 := hr7.keep hk9
              clear hb3 hk9
              go_wp2_with fail
              refine (cleft_any w.heap.size bb f t (beh f t) Lb y4 hcb2 HNA.out (by omega)).mono ?_
              rintro e y5 ⟨rfl, hk9⟩
              replace hca2 := hca2.keep hk9
              have hb5 := nest hb4 hk9
              replace hr7 := hr7.keep hk9
              clear hb4 hk9 hcb2
              go_wp2_with fail
              refine (cleft_any w.heap.size ba f t (beh f t) Lb y5 hca2 HNA.out (by omega)).mono ?_
              rintro e y6 ⟨rfl, hk9⟩
              replace hca2 := hca2.keep hk9
              have hb6 := nest hb5 hk9
              replace hr7 := hr7.keep hk9
              clear hb5 hk9
              go_wp2_with fail
              go_loopw [14, 15] (fun s i wr => ∃ k : Nat, k ≤ Lb.length ∧ i = .int .i64 k ∧ s = .int .u64 (sumL (Lb.drop k)) ∧ CoverAt w.heap.size wr ba f t (Lb.drop k) ∧ Row (pairE .u32) 24 w.heap.size wr (.slice a7 Lb.length c7) (Lb.map (spanP f)) ∧ Below w.heap.size w wr) (fun _ i _ => Lb.length - (intOf i).toNat)
              case atStart => exact ⟨0, Nat.zero_le _, rfl, by rw [List.drop_zero], by rw [List.drop_zero]; exact hca2, hr7.mono HSZ.out, hb6⟩
              case round =>
                obtain ⟨k3, hk3, rfl, rfl, hcw, hrw, hb⟩ := hrel
                by_cases hlt : k3 < Lb.length
                · obtain ⟨gg, c9, hv9, hgg, _, _, hcm9⟩ := hrw.pairs (by rw [List.length_map]; omega)
                  injection hv9 with f1 f4 f3
                  subst f1 f3
                  obtain ⟨d1, d2⟩ := hcm9 k3 (by rw [List.length_map]; exact hlt)
                  have hss : ((Lb.map (spanP f)).getD k3 (0, 0)) = spanP f (Lb.getD k3 (0, 0)) := by simp [List.getD, hlt]
                  rw [hss] at d1 d2
                  have b1 := HNA.out.at hlt
                  have HSD := Lib.hid (sum_drop hlt)
                  have nd0 := Norm.drop (show 0 ≤ beh f t by omega) k3 HNA.out (Int.le_refl _)
                  have nd1 := Norm.drop (show 0 ≤ beh f t by omega) (k3 + 1) HNA.out (Int.le_refl _)
                  have s0 := sumL_bd nd0 (by omega)
                  have s1 := sumL_bd nd1 (by omega)
                  have ND0 := Lib.hid nd0
                  have HAF := Lib.hid (fun p q => add_first (p := p) (q := q) bf HNA.out hlt)
                  have hdl : (Lb.drop k3).length ≤ 100 := by rw [List.length_drop]; omega
                  clear hcm9 hss f4 nd0 nd1
                  generalize hpq : Lb.getD k3 (0, 0) = s9 at *
                  obtain ⟨p, q⟩ := s9
                  simp only [spanP] at d1 d2 b1
                  have HAF2 := Lib.hid (HAF.out p q rfl)
                  have hsd : sumL (Lb.drop (k3 + 1)) ≤ sumL (Lb.drop k3) := by have h := HSD.out; simp only [] at h; omega
                  clear hpq
                  go_wp2_with fail
                  refine (cadd_any w.heap.size ba f t _ _ bf bt (step_bd f p) (step_bd f q) (Lb.drop k3) wr hcw ND0.out (by omega)).mono ?_
                  rintro e x1 ⟨rfl, hc3, ho3⟩
                  rw [HAF2.out] at hc3 ⊢
                  obtain ⟨_, vv, hblk, _⟩ := id hcw
                  have hrm3 := hrw.only ho3 (hrw.ne_blk hblk (by decide))
                  have hb4 := hb.trans (ho3.below hwa hb.size)
                  clear d1 d2 ho3 hcw hrw hblk hb
                  generalize hs0 : sumL (Lb.drop k3) = n0 at *
                  generalize hs1 : sumL (Lb.drop (k3 + 1)) = n1 at *
                  have HS1 := Lib.hid hs1
                  clear hs0 hs1
                  have j1 : 0 ≤ n0 - n1 := by omega
                  have j2 : n0 - (n0 - n1) = n1 := by omega
                  have J2 := Lib.hid j2
                  have j3 : 0 ≤ n0 - (n0 - n1) := by omega
                  have j4 : n0 - (n0 - n1) ≤ 4294967296 := by omega
                  clear j2
                  go_wp2_with fail
                  go_roundw
                  case rel => exact ⟨k3 + 1, by omega, by go_num, by rw [J2.out, HS1.out], hc3, hrm3, hb4⟩
                  case measure => simp [intOf]; omega
                · have hkk : k3 = Lb.length := by omega
                  have e0 : Lb.drop k3 = [] := by rw [hkk, List.drop_length]
                  rw [e0] at hcw ⊢
                  rw [sumL_nil]
                  clear e0
                  go_wp2_with fail
                  refine (cwhole_any w.heap.size ba f t [] wr hcw).mono ?_
                  rintro e z1 ⟨rfl, hk9⟩
                  replace hcw := hcw.keep hk9
                  have hb7 := nest hb hk9
                  go_wp2_with fail
                  refine (cgaps_any w.heap.size ba f t (beh f t) [] z1 hcw trivial (by omega) (by simp)).mono ?_
                  rintro e z2 ⟨v9, rfl, hr9, hk10⟩
                  obtain ⟨a9, c9, rfl, _, _⟩ := hr9.rd.form
                  go_wp2_with fail
                  go_ret
                  exact ⟨rfl, nest hb7 hk10⟩
end Go.Proofs.Ytbdijeekekaibaa.coverOrder
