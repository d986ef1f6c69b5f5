/- Package message: Right (written by genmsgright.py). -/
import Derived.Test.YthhelhhlofdehaaMsgOwnB
import Derived.Test.YthhelhhlofdehaaRun
import Derived.Deep.WholeRow
set_option maxRecDepth 4000
namespace Go.Proofs.Ythhelhhlofdehaa
open Go.RowKit Mem
set_option linter.unusedSimpArgs false
set_option linter.unusedVariables false
attribute [local irreducible] Go.Calls

theorem pcs_one (p : Prt) : (pcs p).toArray.all (fun x => x.oneCell') = true := by simp [pcs, Value.oneCell']
def spanOk (m : Msg) (p : Prt) : Bool := p.span || decide (m.sf = 0 ∧ m.st = 0)
theorem right_split (attrs : Int) (m : Msg) : rightM attrs m = (isK m.kind && (decide (1 ≤ attrs ∧ attrs ≤ 8) && (headV attrs m (prt m.kind) && (entryV attrs m (prt m.kind) && (ownerV m (prt m.kind) && (spanOk m (prt m.kind) && (boxV attrs m (prt m.kind) && recsV attrs m (prt m.kind)))))))) := by
  have hc : (m.vals.getD m.hub.toNat 0 == m.ev) = (m.ev == m.vals.getD m.hub.toNat 0) := by rw [Bool.eq_iff_iff]; simp only [beq_iff_eq]; exact eq_comm
  have hd : (m.target == m.ev) = decide (m.target = m.ev) := rfl
  unfold rightM s1M s2M s3M s4M s5M s6M s7M s8M isK headV entryV ownerV boxV recsV prt spanOk
  rw [hc]
  generalize rightV attrs m.eid m.ever m.vals.length = x1
  generalize (m.ev == m.vals.getD m.hub.toNat 0) = x2
  generalize rightB attrs m.box = x3
  generalize m.box.all bareR = x4
  generalize m.recs.all (rightR attrs) = x5
  generalize m.gone = x6
  generalize m.box.length = nb
  generalize m.recs.length = nr
  by_cases hv : m.vals = []
  all_goals
    by_cases h1 : m.kind = 1
    · simp only [h1]; rw [Bool.eq_iff_iff]; cases x1 <;> cases x2 <;> simp [hv] <;> omega
    by_cases h2 : m.kind = 2
    · simp only [h2]; rw [Bool.eq_iff_iff]; cases x1 <;> cases x2 <;> simp [hv] <;> omega
    by_cases h3 : m.kind = 3
    · simp only [h3]; rw [Bool.eq_iff_iff]; cases x1 <;> cases x2 <;> simp [hv] <;> omega
    by_cases h4 : m.kind = 4
    · simp only [h4]; rw [Bool.eq_iff_iff]; cases x1 <;> cases x2 <;> simp [hv] <;> omega
    by_cases h5 : m.kind = 5
    · simp only [h5]; rw [Bool.eq_iff_iff]; cases x3 <;> cases x4 <;> cases x6 <;> simp [hv] <;> omega
    by_cases h6 : m.kind = 6
    · simp only [h6]; rw [Bool.eq_iff_iff]; cases x5 <;> cases x6 <;> simp [hv] <;> omega
    have hn : ¬ (1 ≤ m.kind ∧ m.kind ≤ 6) := by omega
    rw [decide_eq_false hn, Bool.false_and, decide_eq_false (by omega), Bool.false_and]

set_option maxRecDepth 100000 in
set_option maxHeartbeats 8000000 in
theorem omright_any (attrs : Int) (m : Msg) (v b r : Value) (w : World) (h : MRd w m v b r) (hb : MB m) :
    Calls Try.prog 16 #[.int .i64 attrs, .agg (mcs m v b r).toArray] w fun e w' => e = .returned (.bool (rightM attrs m)) ∧ Below w.heap.size w w' := by
  have hk0 : Below w.heap.size w (w.alloc (.cells (mcs m v b r).toArray 34)) := more (Below.refl _ _) _
  have HBK := Lib.hid (Blk.new w 34 (mcs m v b r).toArray)
  have HM := Lib.hid (h.keep hk0)
  have HK := Lib.hid hk0
  have HBD := Lib.hid hb
  clear hk0 h hb
  go_enter Try.func16, Try.ntmps16
  go_upto_region 1 with fail
  generalize w.alloc (.cells (mcs m v b r).toArray 34) = w1 at *
  obtain ⟨g, hg⟩ : ∃ g, g = w.heap.size := ⟨_, rfl⟩
  rw [← hg] at HBK ⊢
  clear hg
  have c0 : w1.cell? ⟨g, 0, none⟩ = some (.int .i64 m.kind) := HBK.out.cell 0
  go_upto_region 2 with (first | (go_at_call 40; refine (oparts_any m.kind _).mono ?_; rintro e w2 ⟨rfl, hk2⟩) | (refine wpList_store_row rfl 84 (.tmp 5) (.tmp 11) rfl w2.heap.size (pcs (prt m.kind)).toArray rfl rfl 84 _ (heap_alloc_new w2 _) parts_info rfl (pcs_one _) ?_))
  rw [World.setRow_alloc_new]
  have hX : Below w2.heap.size w2 (w2.alloc (.cells (pcs (prt m.kind)).toArray 84)) := more (Below.refl _ _) _
  have hP0 : Blk (w2.alloc (.cells (pcs (prt m.kind)).toArray 84)) w2.heap.size 84 (pcs (prt m.kind)).toArray := Blk.new _ _ _
  have HP := Lib.hid hP0
  have HB := Lib.hid (HBK.out.keep (nest hk2 hX))
  have HM3 := Lib.hid (HM.out.keep (nest hk2 hX))
  have HK3 := Lib.hid (nest HK.out (nest hk2 hX))
  generalize w2.alloc (.cells (pcs (prt m.kind)).toArray 84) = w3 at *
  obtain ⟨gp, hgp⟩ : ∃ gp, gp = w2.heap.size := ⟨_, rfl⟩
  rw [← hgp] at HP ⊢
  clear hgp hX hP0 HBK HM HK hk2 c0
  have HR := Lib.hid (right_split attrs m)
  have HI := Lib.hid (Below.refl w3.heap.size w3)
  generalize isK m.kind = ik at *
  generalize prt m.kind = p at *

  cases ik with
  | false =>
    skip
    as_aux_lemma =>
      go_upto_if 99 with fail
      go_ret
      exact ⟨by rw [HR.out]; rfl, HK3.out⟩
  | true =>
    rw [Bool.true_and] at HR
    have Ca : Hid (∀ z, Below w3.heap.size w3 z → Calls Try.prog 35 #[.int .i64 attrs] z fun e w' => e = .returned (.bool (decide (1 ≤ attrs ∧ attrs ≤ 8))) ∧ Below z.heap.size z w') := Lib.hid (fun z hz => orattrs_any attrs z)
    cases hav : decide (1 ≤ attrs ∧ attrs ≤ 8) with
    | false =>
      rw [hav] at Ca HR
      clear hav
      skip
      as_aux_lemma =>
        refine Run.region_seq (S := fun z => Below w3.heap.size w3 z)
          [0, 0, 0, 1, 0, 0, 0, 0, 0, 1, 0, 0, 0, 0, 0, 1, 0, 0, 0, 0, 1, 0, 0, 0, 0, 0, 0, 0, 0, 0, 0, 0, 0, 0, 0, 0, 1, 0, 0, 0, 0, 0, 1, 0, 0] (l := ?_) ?_ HI.out ?_
        rotate_left
        (· simp only [Run.seqOf, List.toList_toArray, Run.stepsOf, Run.stepOf, Run.guardOf, List.getElem?_toArray, List.getElem?_cons_zero, List.getElem?_cons_succ, Option.map_some, Option.map_none, Option.bind_some, Option.toList_some, List.map_cons, List.map_nil, List.cons_append, List.nil_append]
           rfl)
        repeat ((first
          | (refine Run.takes (v := ?_) ?_ ?_; rotate_left; (· intro w' hS'; (first | (refine exec_load_blk (n := 18) (x := .tmp 3) (l := mcs m v b r) ?_ Try.underlying34 msg_info ?_ ?_ (HB.out.keep hS') <;> rfl) | (refine exec_load_blk (n := 7) (x := .tmp 5) (l := pcs p) ?_ Try.underlying84 parts_info ?_ ?_ (HP.out.keep hS') <;> rfl) | (go_simp; (try with_reducible rfl)))))
          | (refine Run.takesG (v := ?_) ?_ ?_ ?_; rotate_left; (· simp only [List.getElem?_cons_zero, List.getElem?_cons_succ]); (· intro w' hS'; (first | (refine exec_load_blk (n := 18) (x := .tmp 3) (l := mcs m v b r) ?_ Try.underlying34 msg_info ?_ ?_ (HB.out.keep hS') <;> rfl) | (refine exec_load_blk (n := 7) (x := .tmp 5) (l := pcs p) ?_ Try.underlying84 parts_info ?_ ?_ (HP.out.keep hS') <;> rfl) | (go_simp; (try with_reducible rfl)))))
          | (refine Run.skipsT ?_ ?_; (· simp only [List.getElem?_cons_zero, List.getElem?_cons_succ]))
          | (refine Run.skipsF ?_ ?_; (· simp only [List.getElem?_cons_zero, List.getElem?_cons_succ]))
          | (refine Run.skipsU ?_ ?_; (· simp only [List.getElem?_cons_zero, List.getElem?_cons_succ]))
          | (refine Run.passT ?_ ?_; (· simp only [List.getElem?_cons_zero, List.getElem?_cons_succ]))
          | (refine Run.passF ?_ ?_; (· simp only [List.getElem?_cons_zero, List.getElem?_cons_succ]))
          | (refine Run.passU ?_ ?_; (· simp only [List.getElem?_cons_zero, List.getElem?_cons_succ]))
          | (refine Run.runs ?_
             (first
             | (refine Run.callF 35 (by kernel_rfl) (fun hS => Ca.out _ hS) rfl ?_)
             | (refine Run.callG 35 (by kernel_rfl) ?_ (fun hS => Ca.out _ hS) rfl ?_; (· simp only [List.getElem?_cons_zero, List.getElem?_cons_succ]))
             | fail)
             (first
             | (rintro hS e w' ⟨rfl, rfl⟩; refine ⟨_, rfl, hS, ?_⟩)
             | (rintro hS e w' ⟨rfl, hb⟩; refine ⟨_, rfl, nest hS hb, ?_⟩)
             | fail))
          | fail); simp only [Act.put, List.setIfInBounds_toArray, List.set_cons_zero, List.set_cons_succ])
        refine Run.ends (fun hS => ?_)
        have HX := Lib.hid hS
        clear hS
        go_wp2_with fail
        go_ret
        exact ⟨by rw [HR.out]; rfl, nest HK3.out HX.out⟩
    | true =>
      rw [hav] at Ca
      rw [hav, Bool.true_and] at HR
      clear hav
      have Cb : Hid (∀ z, Below w3.heap.size w3 z → Calls Try.prog 41 #[.int .i64 attrs, .agg (mcs m v b r).toArray, .agg (pcs p).toArray] z fun e w' => e = .returned (.bool (headV attrs m p)) ∧ Below z.heap.size z w') := Lib.hid (fun z hz => orhead_any attrs m p v b r z)
      cases hbv : headV attrs m p with
      | false =>
        rw [hbv] at Cb HR
        clear hbv
        skip
        as_aux_lemma =>
          refine Run.region_seq (S := fun z => Below w3.heap.size w3 z)
            [0, 0, 0, 1, 0, 0, 0, 0, 0, 1, 0, 0, 0, 0, 0, 1, 0, 0, 0, 0, 1, 0, 0, 0, 0, 0, 0, 0, 0, 0, 0, 0, 0, 0, 0, 0, 1, 0, 0, 0, 0, 0, 1, 0, 0] (l := ?_) ?_ HI.out ?_
          rotate_left
          (· simp only [Run.seqOf, List.toList_toArray, Run.stepsOf, Run.stepOf, Run.guardOf, List.getElem?_toArray, List.getElem?_cons_zero, List.getElem?_cons_succ, Option.map_some, Option.map_none, Option.bind_some, Option.toList_some, List.map_cons, List.map_nil, List.cons_append, List.nil_append]
             rfl)
          repeat ((first
            | (refine Run.takes (v := ?_) ?_ ?_; rotate_left; (· intro w' hS'; (first | (refine exec_load_blk (n := 18) (x := .tmp 3) (l := mcs m v b r) ?_ Try.underlying34 msg_info ?_ ?_ (HB.out.keep hS') <;> rfl) | (refine exec_load_blk (n := 7) (x := .tmp 5) (l := pcs p) ?_ Try.underlying84 parts_info ?_ ?_ (HP.out.keep hS') <;> rfl) | (go_simp; (try with_reducible rfl)))))
            | (refine Run.takesG (v := ?_) ?_ ?_ ?_; rotate_left; (· simp only [List.getElem?_cons_zero, List.getElem?_cons_succ]); (· intro w' hS'; (first | (refine exec_load_blk (n := 18) (x := .tmp 3) (l := mcs m v b r) ?_ Try.underlying34 msg_info ?_ ?_ (HB.out.keep hS') <;> rfl) | (refine exec_load_blk (n := 7) (x := .tmp 5) (l := pcs p) ?_ Try.underlying84 parts_info ?_ ?_ (HP.out.keep hS') <;> rfl) | (go_simp; (try with_reducible rfl)))))
            | (refine Run.skipsT ?_ ?_; (· simp only [List.getElem?_cons_zero, List.getElem?_cons_succ]))
            | (refine Run.skipsF ?_ ?_; (· simp only [List.getElem?_cons_zero, List.getElem?_cons_succ]))
            | (refine Run.skipsU ?_ ?_; (· simp only [List.getElem?_cons_zero, List.getElem?_cons_succ]))
            | (refine Run.passT ?_ ?_; (· simp only [List.getElem?_cons_zero, List.getElem?_cons_succ]))
            | (refine Run.passF ?_ ?_; (· simp only [List.getElem?_cons_zero, List.getElem?_cons_succ]))
            | (refine Run.passU ?_ ?_; (· simp only [List.getElem?_cons_zero, List.getElem?_cons_succ]))
            | (refine Run.runs ?_
               (first
               | (refine Run.callF 35 (by kernel_rfl) (fun hS => Ca.out _ hS) rfl ?_)
               | (refine Run.callG 35 (by kernel_rfl) ?_ (fun hS => Ca.out _ hS) rfl ?_; (· simp only [List.getElem?_cons_zero, List.getElem?_cons_succ]))
               | (refine Run.callF 41 (by kernel_rfl) (fun hS => Cb.out _ hS) rfl ?_)
               | (refine Run.callG 41 (by kernel_rfl) ?_ (fun hS => Cb.out _ hS) rfl ?_; (· simp only [List.getElem?_cons_zero, List.getElem?_cons_succ]))
               | fail)
               (first
               | (rintro hS e w' ⟨rfl, rfl⟩; refine ⟨_, rfl, hS, ?_⟩)
               | (rintro hS e w' ⟨rfl, hb⟩; refine ⟨_, rfl, nest hS hb, ?_⟩)
               | fail))
            | fail); simp only [Act.put, List.setIfInBounds_toArray, List.set_cons_zero, List.set_cons_succ])
          refine Run.ends (fun hS => ?_)
          have HX := Lib.hid hS
          clear hS
          go_wp2_with fail
          go_ret
          exact ⟨by rw [HR.out]; rfl, nest HK3.out HX.out⟩
      | true =>
        rw [hbv] at Cb
        rw [hbv, Bool.true_and] at HR
        have HH : Hid (0 ≤ m.hub ∧ m.hub < attrs) := Lib.hid (by unfold headV at hbv; have := of_decide_eq_true hbv; exact ⟨this.1, this.2.1⟩)
        clear hbv
        have Cc : Hid (∀ z, Below w3.heap.size w3 z → Calls Try.prog 42 #[.int .i64 attrs, .agg (mcs m v b r).toArray, .agg (pcs p).toArray] z fun e w' => e = .returned (.bool (entryV attrs m p)) ∧ Below z.heap.size z w') := Lib.hid (fun z hz => orentry_any attrs m p v b r z (HM3.out.keep hz) HBD.out HH.out)
        cases hcv : entryV attrs m p with
        | false =>
          rw [hcv] at Cc HR
          clear hcv
          skip
          as_aux_lemma =>
            refine Run.region_seq (S := fun z => Below w3.heap.size w3 z)
              [0, 0, 0, 1, 0, 0, 0, 0, 0, 1, 0, 0, 0, 0, 0, 1, 0, 0, 0, 0, 1, 0, 0, 0, 0, 0, 0, 0, 0, 0, 0, 0, 0, 0, 0, 0, 1, 0, 0, 0, 0, 0, 1, 0, 0] (l := ?_) ?_ HI.out ?_
            rotate_left
            (· simp only [Run.seqOf, List.toList_toArray, Run.stepsOf, Run.stepOf, Run.guardOf, List.getElem?_toArray, List.getElem?_cons_zero, List.getElem?_cons_succ, Option.map_some, Option.map_none, Option.bind_some, Option.toList_some, List.map_cons, List.map_nil, List.cons_append, List.nil_append]
               rfl)
            repeat ((first
              | (refine Run.takes (v := ?_) ?_ ?_; rotate_left; (· intro w' hS'; (first | (refine exec_load_blk (n := 18) (x := .tmp 3) (l := mcs m v b r) ?_ Try.underlying34 msg_info ?_ ?_ (HB.out.keep hS') <;> rfl) | (refine exec_load_blk (n := 7) (x := .tmp 5) (l := pcs p) ?_ Try.underlying84 parts_info ?_ ?_ (HP.out.keep hS') <;> rfl) | (go_simp; (try with_reducible rfl)))))
              | (refine Run.takesG (v := ?_) ?_ ?_ ?_; rotate_left; (· simp only [List.getElem?_cons_zero, List.getElem?_cons_succ]); (· intro w' hS'; (first | (refine exec_load_blk (n := 18) (x := .tmp 3) (l := mcs m v b r) ?_ Try.underlying34 msg_info ?_ ?_ (HB.out.keep hS') <;> rfl) | (refine exec_load_blk (n := 7) (x := .tmp 5) (l := pcs p) ?_ Try.underlying84 parts_info ?_ ?_ (HP.out.keep hS') <;> rfl) | (go_simp; (try with_reducible rfl)))))
              | (refine Run.skipsT ?_ ?_; (· simp only [List.getElem?_cons_zero, List.getElem?_cons_succ]))
              | (refine Run.skipsF ?_ ?_; (· simp only [List.getElem?_cons_zero, List.getElem?_cons_succ]))
              | (refine Run.skipsU ?_ ?_; (· simp only [List.getElem?_cons_zero, List.getElem?_cons_succ]))
              | (refine Run.passT ?_ ?_; (· simp only [List.getElem?_cons_zero, List.getElem?_cons_succ]))
              | (refine Run.passF ?_ ?_; (· simp only [List.getElem?_cons_zero, List.getElem?_cons_succ]))
              | (refine Run.passU ?_ ?_; (· simp only [List.getElem?_cons_zero, List.getElem?_cons_succ]))
              | (refine Run.runs ?_
                 (first
                 | (refine Run.callF 35 (by kernel_rfl) (fun hS => Ca.out _ hS) rfl ?_)
                 | (refine Run.callG 35 (by kernel_rfl) ?_ (fun hS => Ca.out _ hS) rfl ?_; (· simp only [List.getElem?_cons_zero, List.getElem?_cons_succ]))
                 | (refine Run.callF 41 (by kernel_rfl) (fun hS => Cb.out _ hS) rfl ?_)
                 | (refine Run.callG 41 (by kernel_rfl) ?_ (fun hS => Cb.out _ hS) rfl ?_; (· simp only [List.getElem?_cons_zero, List.getElem?_cons_succ]))
                 | (refine Run.callF 42 (by kernel_rfl) (fun hS => Cc.out _ hS) rfl ?_)
                 | (refine Run.callG 42 (by kernel_rfl) ?_ (fun hS => Cc.out _ hS) rfl ?_; (· simp only [List.getElem?_cons_zero, List.getElem?_cons_succ]))
                 | fail)
                 (first
                 | (rintro hS e w' ⟨rfl, rfl⟩; refine ⟨_, rfl, hS, ?_⟩)
                 | (rintro hS e w' ⟨rfl, hb⟩; refine ⟨_, rfl, nest hS hb, ?_⟩)
                 | fail))
              | fail); simp only [Act.put, List.setIfInBounds_toArray, List.set_cons_zero, List.set_cons_succ])
            refine Run.ends (fun hS => ?_)
            have HX := Lib.hid hS
            clear hS
            go_wp2_with fail
            go_ret
            exact ⟨by rw [HR.out]; rfl, nest HK3.out HX.out⟩
        | true =>
          rw [hcv] at Cc
          rw [hcv, Bool.true_and] at HR
          clear hcv
          have Cd : Hid (∀ z, Below w3.heap.size w3 z → Calls Try.prog 43 #[.agg (mcs m v b r).toArray, .agg (pcs p).toArray] z fun e w' => e = .returned (.bool (ownerV m p)) ∧ Below z.heap.size z w') := Lib.hid (fun z hz => orowner_any m p v b r z)
          cases hdv : ownerV m p with
          | false =>
            rw [hdv] at Cd HR
            clear hdv
            skip
            as_aux_lemma =>
              refine Run.region_seq (S := fun z => Below w3.heap.size w3 z)
                [0, 0, 0, 1, 0, 0, 0, 0, 0, 1, 0, 0, 0, 0, 0, 1, 0, 0, 0, 0, 1, 0, 0, 0, 0, 0, 0, 0, 0, 0, 0, 0, 0, 0, 0, 0, 1, 0, 0, 0, 0, 0, 1, 0, 0] (l := ?_) ?_ HI.out ?_
              rotate_left
              (· simp only [Run.seqOf, List.toList_toArray, Run.stepsOf, Run.stepOf, Run.guardOf, List.getElem?_toArray, List.getElem?_cons_zero, List.getElem?_cons_succ, Option.map_some, Option.map_none, Option.bind_some, Option.toList_some, List.map_cons, List.map_nil, List.cons_append, List.nil_append]
                 rfl)
              repeat ((first
                | (refine Run.takes (v := ?_) ?_ ?_; rotate_left; (· intro w' hS'; (first | (refine exec_load_blk (n := 18) (x := .tmp 3) (l := mcs m v b r) ?_ Try.underlying34 msg_info ?_ ?_ (HB.out.keep hS') <;> rfl) | (refine exec_load_blk (n := 7) (x := .tmp 5) (l := pcs p) ?_ Try.underlying84 parts_info ?_ ?_ (HP.out.keep hS') <;> rfl) | (go_simp; (try with_reducible rfl)))))
                | (refine Run.takesG (v := ?_) ?_ ?_ ?_; rotate_left; (· simp only [List.getElem?_cons_zero, List.getElem?_cons_succ]); (· intro w' hS'; (first | (refine exec_load_blk (n := 18) (x := .tmp 3) (l := mcs m v b r) ?_ Try.underlying34 msg_info ?_ ?_ (HB.out.keep hS') <;> rfl) | (refine exec_load_blk (n := 7) (x := .tmp 5) (l := pcs p) ?_ Try.underlying84 parts_info ?_ ?_ (HP.out.keep hS') <;> rfl) | (go_simp; (try with_reducible rfl)))))
                | (refine Run.skipsT ?_ ?_; (· simp only [List.getElem?_cons_zero, List.getElem?_cons_succ]))
                | (refine Run.skipsF ?_ ?_; (· simp only [List.getElem?_cons_zero, List.getElem?_cons_succ]))
                | (refine Run.skipsU ?_ ?_; (· simp only [List.getElem?_cons_zero, List.getElem?_cons_succ]))
                | (refine Run.passT ?_ ?_; (· simp only [List.getElem?_cons_zero, List.getElem?_cons_succ]))
                | (refine Run.passF ?_ ?_; (· simp only [List.getElem?_cons_zero, List.getElem?_cons_succ]))
                | (refine Run.passU ?_ ?_; (· simp only [List.getElem?_cons_zero, List.getElem?_cons_succ]))
                | (refine Run.runs ?_
                   (first
                   | (refine Run.callF 35 (by kernel_rfl) (fun hS => Ca.out _ hS) rfl ?_)
                   | (refine Run.callG 35 (by kernel_rfl) ?_ (fun hS => Ca.out _ hS) rfl ?_; (· simp only [List.getElem?_cons_zero, List.getElem?_cons_succ]))
                   | (refine Run.callF 41 (by kernel_rfl) (fun hS => Cb.out _ hS) rfl ?_)
                   | (refine Run.callG 41 (by kernel_rfl) ?_ (fun hS => Cb.out _ hS) rfl ?_; (· simp only [List.getElem?_cons_zero, List.getElem?_cons_succ]))
                   | (refine Run.callF 42 (by kernel_rfl) (fun hS => Cc.out _ hS) rfl ?_)
                   | (refine Run.callG 42 (by kernel_rfl) ?_ (fun hS => Cc.out _ hS) rfl ?_; (· simp only [List.getElem?_cons_zero, List.getElem?_cons_succ]))
                   | (refine Run.callF 43 (by kernel_rfl) (fun hS => Cd.out _ hS) rfl ?_)
                   | (refine Run.callG 43 (by kernel_rfl) ?_ (fun hS => Cd.out _ hS) rfl ?_; (· simp only [List.getElem?_cons_zero, List.getElem?_cons_succ]))
                   | fail)
                   (first
                   | (rintro hS e w' ⟨rfl, rfl⟩; refine ⟨_, rfl, hS, ?_⟩)
                   | (rintro hS e w' ⟨rfl, hb⟩; refine ⟨_, rfl, nest hS hb, ?_⟩)
                   | fail))
                | fail); simp only [Act.put, List.setIfInBounds_toArray, List.set_cons_zero, List.set_cons_succ])
              refine Run.ends (fun hS => ?_)
              have HX := Lib.hid hS
              clear hS
              go_wp2_with fail
              go_ret
              exact ⟨by rw [HR.out]; rfl, nest HK3.out HX.out⟩
          | true =>
            rw [hdv] at Cd
            rw [hdv, Bool.true_and] at HR
            clear hdv
            cases hsp : p.span with
            | true =>
              have HSP : Hid (spanOk m p = true) := Lib.hid (by unfold spanOk; rw [hsp]; rfl)
              rw [HSP.out, Bool.true_and] at HR
              have Cf : Hid (∀ z, Below w3.heap.size w3 z → Calls Try.prog 44 #[.int .i64 attrs, .agg (mcs m v b r).toArray, .agg (pcs p).toArray] z fun e w' => e = .returned (.bool (boxV attrs m p)) ∧ Below z.heap.size z w') := Lib.hid (fun z hz => orbox_any attrs m p v b r z (HM3.out.keep hz) HBD.out)
              cases hfv : boxV attrs m p with
              | false =>
                rw [hfv] at Cf HR
                clear hfv
                skip
                as_aux_lemma =>
                  refine Run.region_seq (S := fun z => z.cell? ⟨gp, 4, none⟩ = some (.bool true) ∧ z.cell? ⟨g, 14, none⟩ = some (.int .u32 m.sf) ∧ z.cell? ⟨g, 15, none⟩ = some (.int .u32 m.st) ∧ Below w3.heap.size w3 z)
                    [0, 0, 0, 1, 0, 0, 0, 0, 0, 1, 0, 0, 0, 0, 0, 1, 0, 0, 0, 0, 1, 0, 0, 0, 0, 0, 0, 0, 0, 0, 0, 0, 0, 0, 0, 0, 1, 0, 0, 0, 0, 0, 1, 0, 0] (l := ?_) ?_ ⟨by rw [← hsp]; exact HP.out.cell 4, HB.out.cell 14, HB.out.cell 15, HI.out⟩ ?_
                  rotate_left
                  (· simp only [Run.seqOf, List.toList_toArray, Run.stepsOf, Run.stepOf, Run.guardOf, List.getElem?_toArray, List.getElem?_cons_zero, List.getElem?_cons_succ, Option.map_some, Option.map_none, Option.bind_some, Option.toList_some, List.map_cons, List.map_nil, List.cons_append, List.nil_append]
                     rfl)
                  repeat ((first
                    | (refine Run.takes (v := ?_) ?_ ?_; rotate_left; (· intro w' hS'; (first | (refine exec_load_blk (n := 18) (x := .tmp 3) (l := mcs m v b r) ?_ Try.underlying34 msg_info ?_ ?_ (HB.out.keep hS'.2.2.2) <;> rfl) | (refine exec_load_blk (n := 7) (x := .tmp 5) (l := pcs p) ?_ Try.underlying84 parts_info ?_ ?_ (HP.out.keep hS'.2.2.2) <;> rfl) | (go_simp; (try with_reducible rfl)))))
                    | (refine Run.takesG (v := ?_) ?_ ?_ ?_; rotate_left; (· simp only [List.getElem?_cons_zero, List.getElem?_cons_succ]); (· intro w' hS'; (first | (refine exec_load_blk (n := 18) (x := .tmp 3) (l := mcs m v b r) ?_ Try.underlying34 msg_info ?_ ?_ (HB.out.keep hS'.2.2.2) <;> rfl) | (refine exec_load_blk (n := 7) (x := .tmp 5) (l := pcs p) ?_ Try.underlying84 parts_info ?_ ?_ (HP.out.keep hS'.2.2.2) <;> rfl) | (go_simp; (try with_reducible rfl)))))
                    | (refine Run.skipsT ?_ ?_; (· simp only [List.getElem?_cons_zero, List.getElem?_cons_succ]))
                    | (refine Run.skipsF ?_ ?_; (· simp only [List.getElem?_cons_zero, List.getElem?_cons_succ]))
                    | (refine Run.skipsU ?_ ?_; (· simp only [List.getElem?_cons_zero, List.getElem?_cons_succ]))
                    | (refine Run.passT ?_ ?_; (· simp only [List.getElem?_cons_zero, List.getElem?_cons_succ]))
                    | (refine Run.passF ?_ ?_; (· simp only [List.getElem?_cons_zero, List.getElem?_cons_succ]))
                    | (refine Run.passU ?_ ?_; (· simp only [List.getElem?_cons_zero, List.getElem?_cons_succ]))
                    | (refine Run.runs ?_
                       (first
                       | (refine Run.callF 35 (by kernel_rfl) (fun hS => Ca.out _ hS.2.2.2) rfl ?_)
                       | (refine Run.callG 35 (by kernel_rfl) ?_ (fun hS => Ca.out _ hS.2.2.2) rfl ?_; (· simp only [List.getElem?_cons_zero, List.getElem?_cons_succ]))
                       | (refine Run.callF 41 (by kernel_rfl) (fun hS => Cb.out _ hS.2.2.2) rfl ?_)
                       | (refine Run.callG 41 (by kernel_rfl) ?_ (fun hS => Cb.out _ hS.2.2.2) rfl ?_; (· simp only [List.getElem?_cons_zero, List.getElem?_cons_succ]))
                       | (refine Run.callF 42 (by kernel_rfl) (fun hS => Cc.out _ hS.2.2.2) rfl ?_)
                       | (refine Run.callG 42 (by kernel_rfl) ?_ (fun hS => Cc.out _ hS.2.2.2) rfl ?_; (· simp only [List.getElem?_cons_zero, List.getElem?_cons_succ]))
                       | (refine Run.callF 43 (by kernel_rfl) (fun hS => Cd.out _ hS.2.2.2) rfl ?_)
                       | (refine Run.callG 43 (by kernel_rfl) ?_ (fun hS => Cd.out _ hS.2.2.2) rfl ?_; (· simp only [List.getElem?_cons_zero, List.getElem?_cons_succ]))
                       | (refine Run.callF 44 (by kernel_rfl) (fun hS => Cf.out _ hS.2.2.2) rfl ?_)
                       | (refine Run.callG 44 (by kernel_rfl) ?_ (fun hS => Cf.out _ hS.2.2.2) rfl ?_; (· simp only [List.getElem?_cons_zero, List.getElem?_cons_succ]))
                       | fail)
                       (first
                       | (rintro hS e w' ⟨rfl, rfl⟩; refine ⟨_, rfl, hS, ?_⟩)
                       | (rintro hS e w' ⟨rfl, hb⟩; refine ⟨_, rfl, ⟨kc hb hS.1, kc hb hS.2.1, kc hb hS.2.2.1, nest hS.2.2.2 hb⟩, ?_⟩)
                       | fail))
                    | fail); simp only [Act.put, List.setIfInBounds_toArray, List.set_cons_zero, List.set_cons_succ])
                  refine Run.ends (fun hS => ?_)
                  have HX := Lib.hid hS.2.2.2
                  clear hS
                  go_wp2_with fail
                  go_ret
                  exact ⟨by rw [HR.out]; rfl, nest HK3.out HX.out⟩
              | true =>
                rw [hfv] at Cf
                rw [hfv, Bool.true_and] at HR
                clear hfv
                have Cg : Hid (∀ z, Below w3.heap.size w3 z → Calls Try.prog 45 #[.int .i64 attrs, .agg (mcs m v b r).toArray, .agg (pcs p).toArray] z fun e w' => e = .returned (.bool (recsV attrs m p)) ∧ Below z.heap.size z w') := Lib.hid (fun z hz => orrecs_any attrs m p v b r z (HM3.out.keep hz) HBD.out)
                cases hgv : recsV attrs m p with
                | false =>
                  rw [hgv] at Cg HR
                  clear hgv
                  skip
                  as_aux_lemma =>
                    refine Run.region_seq (S := fun z => z.cell? ⟨gp, 4, none⟩ = some (.bool true) ∧ z.cell? ⟨g, 14, none⟩ = some (.int .u32 m.sf) ∧ z.cell? ⟨g, 15, none⟩ = some (.int .u32 m.st) ∧ Below w3.heap.size w3 z)
                      [0, 0, 0, 1, 0, 0, 0, 0, 0, 1, 0, 0, 0, 0, 0, 1, 0, 0, 0, 0, 1, 0, 0, 0, 0, 0, 0, 0, 0, 0, 0, 0, 0, 0, 0, 0, 1, 0, 0, 0, 0, 0, 1, 0, 0] (l := ?_) ?_ ⟨by rw [← hsp]; exact HP.out.cell 4, HB.out.cell 14, HB.out.cell 15, HI.out⟩ ?_
                    rotate_left
                    (· simp only [Run.seqOf, List.toList_toArray, Run.stepsOf, Run.stepOf, Run.guardOf, List.getElem?_toArray, List.getElem?_cons_zero, List.getElem?_cons_succ, Option.map_some, Option.map_none, Option.bind_some, Option.toList_some, List.map_cons, List.map_nil, List.cons_append, List.nil_append]
                       rfl)
                    repeat ((first
                      | (refine Run.takes (v := ?_) ?_ ?_; rotate_left; (· intro w' hS'; (first | (refine exec_load_blk (n := 18) (x := .tmp 3) (l := mcs m v b r) ?_ Try.underlying34 msg_info ?_ ?_ (HB.out.keep hS'.2.2.2) <;> rfl) | (refine exec_load_blk (n := 7) (x := .tmp 5) (l := pcs p) ?_ Try.underlying84 parts_info ?_ ?_ (HP.out.keep hS'.2.2.2) <;> rfl) | (go_simp; (try with_reducible rfl)))))
                      | (refine Run.takesG (v := ?_) ?_ ?_ ?_; rotate_left; (· simp only [List.getElem?_cons_zero, List.getElem?_cons_succ]); (· intro w' hS'; (first | (refine exec_load_blk (n := 18) (x := .tmp 3) (l := mcs m v b r) ?_ Try.underlying34 msg_info ?_ ?_ (HB.out.keep hS'.2.2.2) <;> rfl) | (refine exec_load_blk (n := 7) (x := .tmp 5) (l := pcs p) ?_ Try.underlying84 parts_info ?_ ?_ (HP.out.keep hS'.2.2.2) <;> rfl) | (go_simp; (try with_reducible rfl)))))
                      | (refine Run.skipsT ?_ ?_; (· simp only [List.getElem?_cons_zero, List.getElem?_cons_succ]))
                      | (refine Run.skipsF ?_ ?_; (· simp only [List.getElem?_cons_zero, List.getElem?_cons_succ]))
                      | (refine Run.skipsU ?_ ?_; (· simp only [List.getElem?_cons_zero, List.getElem?_cons_succ]))
                      | (refine Run.passT ?_ ?_; (· simp only [List.getElem?_cons_zero, List.getElem?_cons_succ]))
                      | (refine Run.passF ?_ ?_; (· simp only [List.getElem?_cons_zero, List.getElem?_cons_succ]))
                      | (refine Run.passU ?_ ?_; (· simp only [List.getElem?_cons_zero, List.getElem?_cons_succ]))
                      | (refine Run.runs ?_
                         (first
                         | (refine Run.callF 35 (by kernel_rfl) (fun hS => Ca.out _ hS.2.2.2) rfl ?_)
                         | (refine Run.callG 35 (by kernel_rfl) ?_ (fun hS => Ca.out _ hS.2.2.2) rfl ?_; (· simp only [List.getElem?_cons_zero, List.getElem?_cons_succ]))
                         | (refine Run.callF 41 (by kernel_rfl) (fun hS => Cb.out _ hS.2.2.2) rfl ?_)
                         | (refine Run.callG 41 (by kernel_rfl) ?_ (fun hS => Cb.out _ hS.2.2.2) rfl ?_; (· simp only [List.getElem?_cons_zero, List.getElem?_cons_succ]))
                         | (refine Run.callF 42 (by kernel_rfl) (fun hS => Cc.out _ hS.2.2.2) rfl ?_)
                         | (refine Run.callG 42 (by kernel_rfl) ?_ (fun hS => Cc.out _ hS.2.2.2) rfl ?_; (· simp only [List.getElem?_cons_zero, List.getElem?_cons_succ]))
                         | (refine Run.callF 43 (by kernel_rfl) (fun hS => Cd.out _ hS.2.2.2) rfl ?_)
                         | (refine Run.callG 43 (by kernel_rfl) ?_ (fun hS => Cd.out _ hS.2.2.2) rfl ?_; (· simp only [List.getElem?_cons_zero, List.getElem?_cons_succ]))
                         | (refine Run.callF 44 (by kernel_rfl) (fun hS => Cf.out _ hS.2.2.2) rfl ?_)
                         | (refine Run.callG 44 (by kernel_rfl) ?_ (fun hS => Cf.out _ hS.2.2.2) rfl ?_; (· simp only [List.getElem?_cons_zero, List.getElem?_cons_succ]))
                         | (refine Run.callF 45 (by kernel_rfl) (fun hS => Cg.out _ hS.2.2.2) rfl ?_)
                         | (refine Run.callG 45 (by kernel_rfl) ?_ (fun hS => Cg.out _ hS.2.2.2) rfl ?_; (· simp only [List.getElem?_cons_zero, List.getElem?_cons_succ]))
                         | fail)
                         (first
                         | (rintro hS e w' ⟨rfl, rfl⟩; refine ⟨_, rfl, hS, ?_⟩)
                         | (rintro hS e w' ⟨rfl, hb⟩; refine ⟨_, rfl, ⟨kc hb hS.1, kc hb hS.2.1, kc hb hS.2.2.1, nest hS.2.2.2 hb⟩, ?_⟩)
                         | fail))
                      | fail); simp only [Act.put, List.setIfInBounds_toArray, List.set_cons_zero, List.set_cons_succ])
                    refine Run.ends (fun hS => ?_)
                    have HX := Lib.hid hS.2.2.2
                    clear hS
                    go_wp2_with fail
                    go_ret
                    exact ⟨by rw [HR.out]; rfl, nest HK3.out HX.out⟩
                | true =>
                  rw [hgv] at Cg
                  rw [hgv] at HR
                  clear hgv
                  skip
                  as_aux_lemma =>
                    refine Run.region_seq (S := fun z => z.cell? ⟨gp, 4, none⟩ = some (.bool true) ∧ z.cell? ⟨g, 14, none⟩ = some (.int .u32 m.sf) ∧ z.cell? ⟨g, 15, none⟩ = some (.int .u32 m.st) ∧ Below w3.heap.size w3 z)
                      [0, 0, 0, 1, 0, 0, 0, 0, 0, 1, 0, 0, 0, 0, 0, 1, 0, 0, 0, 0, 1, 0, 0, 0, 0, 0, 0, 0, 0, 0, 0, 0, 0, 0, 0, 0, 1, 0, 0, 0, 0, 0, 1, 0, 0] (l := ?_) ?_ ⟨by rw [← hsp]; exact HP.out.cell 4, HB.out.cell 14, HB.out.cell 15, HI.out⟩ ?_
                    rotate_left
                    (· simp only [Run.seqOf, List.toList_toArray, Run.stepsOf, Run.stepOf, Run.guardOf, List.getElem?_toArray, List.getElem?_cons_zero, List.getElem?_cons_succ, Option.map_some, Option.map_none, Option.bind_some, Option.toList_some, List.map_cons, List.map_nil, List.cons_append, List.nil_append]
                       rfl)
                    repeat ((first
                      | (refine Run.takes (v := ?_) ?_ ?_; rotate_left; (· intro w' hS'; (first | (refine exec_load_blk (n := 18) (x := .tmp 3) (l := mcs m v b r) ?_ Try.underlying34 msg_info ?_ ?_ (HB.out.keep hS'.2.2.2) <;> rfl) | (refine exec_load_blk (n := 7) (x := .tmp 5) (l := pcs p) ?_ Try.underlying84 parts_info ?_ ?_ (HP.out.keep hS'.2.2.2) <;> rfl) | (go_simp; (try with_reducible rfl)))))
                      | (refine Run.takesG (v := ?_) ?_ ?_ ?_; rotate_left; (· simp only [List.getElem?_cons_zero, List.getElem?_cons_succ]); (· intro w' hS'; (first | (refine exec_load_blk (n := 18) (x := .tmp 3) (l := mcs m v b r) ?_ Try.underlying34 msg_info ?_ ?_ (HB.out.keep hS'.2.2.2) <;> rfl) | (refine exec_load_blk (n := 7) (x := .tmp 5) (l := pcs p) ?_ Try.underlying84 parts_info ?_ ?_ (HP.out.keep hS'.2.2.2) <;> rfl) | (go_simp; (try with_reducible rfl)))))
                      | (refine Run.skipsT ?_ ?_; (· simp only [List.getElem?_cons_zero, List.getElem?_cons_succ]))
                      | (refine Run.skipsF ?_ ?_; (· simp only [List.getElem?_cons_zero, List.getElem?_cons_succ]))
                      | (refine Run.skipsU ?_ ?_; (· simp only [List.getElem?_cons_zero, List.getElem?_cons_succ]))
                      | (refine Run.passT ?_ ?_; (· simp only [List.getElem?_cons_zero, List.getElem?_cons_succ]))
                      | (refine Run.passF ?_ ?_; (· simp only [List.getElem?_cons_zero, List.getElem?_cons_succ]))
                      | (refine Run.passU ?_ ?_; (· simp only [List.getElem?_cons_zero, List.getElem?_cons_succ]))
                      | (refine Run.runs ?_
                         (first
                         | (refine Run.callF 35 (by kernel_rfl) (fun hS => Ca.out _ hS.2.2.2) rfl ?_)
                         | (refine Run.callG 35 (by kernel_rfl) ?_ (fun hS => Ca.out _ hS.2.2.2) rfl ?_; (· simp only [List.getElem?_cons_zero, List.getElem?_cons_succ]))
                         | (refine Run.callF 41 (by kernel_rfl) (fun hS => Cb.out _ hS.2.2.2) rfl ?_)
                         | (refine Run.callG 41 (by kernel_rfl) ?_ (fun hS => Cb.out _ hS.2.2.2) rfl ?_; (· simp only [List.getElem?_cons_zero, List.getElem?_cons_succ]))
                         | (refine Run.callF 42 (by kernel_rfl) (fun hS => Cc.out _ hS.2.2.2) rfl ?_)
                         | (refine Run.callG 42 (by kernel_rfl) ?_ (fun hS => Cc.out _ hS.2.2.2) rfl ?_; (· simp only [List.getElem?_cons_zero, List.getElem?_cons_succ]))
                         | (refine Run.callF 43 (by kernel_rfl) (fun hS => Cd.out _ hS.2.2.2) rfl ?_)
                         | (refine Run.callG 43 (by kernel_rfl) ?_ (fun hS => Cd.out _ hS.2.2.2) rfl ?_; (· simp only [List.getElem?_cons_zero, List.getElem?_cons_succ]))
                         | (refine Run.callF 44 (by kernel_rfl) (fun hS => Cf.out _ hS.2.2.2) rfl ?_)
                         | (refine Run.callG 44 (by kernel_rfl) ?_ (fun hS => Cf.out _ hS.2.2.2) rfl ?_; (· simp only [List.getElem?_cons_zero, List.getElem?_cons_succ]))
                         | (refine Run.callF 45 (by kernel_rfl) (fun hS => Cg.out _ hS.2.2.2) rfl ?_)
                         | (refine Run.callG 45 (by kernel_rfl) ?_ (fun hS => Cg.out _ hS.2.2.2) rfl ?_; (· simp only [List.getElem?_cons_zero, List.getElem?_cons_succ]))
                         | fail)
                         (first
                         | (rintro hS e w' ⟨rfl, rfl⟩; refine ⟨_, rfl, hS, ?_⟩)
                         | (rintro hS e w' ⟨rfl, hb⟩; refine ⟨_, rfl, ⟨kc hb hS.1, kc hb hS.2.1, kc hb hS.2.2.1, nest hS.2.2.2 hb⟩, ?_⟩)
                         | fail))
                      | fail); simp only [Act.put, List.setIfInBounds_toArray, List.set_cons_zero, List.set_cons_succ])
                    refine Run.ends (fun hS => ?_)
                    have HX := Lib.hid hS.2.2.2
                    clear hS
                    go_wp2_with fail
                    go_ret
                    exact ⟨by rw [HR.out]; rfl, nest HK3.out HX.out⟩
            | false =>
              by_cases hsf : m.sf = 0
              · have dsf : (m.sf == 0) = true := by simpa using hsf
                by_cases hst : m.st = 0
                · have dst : (m.st == 0) = true := by simpa using hst
                  have HSP : Hid (spanOk m p = true) := Lib.hid (by unfold spanOk; rw [hsp, decide_eq_true ⟨hsf, hst⟩]; rfl)
                  rw [HSP.out, Bool.true_and] at HR
                  have Cf : Hid (∀ z, Below w3.heap.size w3 z → Calls Try.prog 44 #[.int .i64 attrs, .agg (mcs m v b r).toArray, .agg (pcs p).toArray] z fun e w' => e = .returned (.bool (boxV attrs m p)) ∧ Below z.heap.size z w') := Lib.hid (fun z hz => orbox_any attrs m p v b r z (HM3.out.keep hz) HBD.out)
                  cases hfv : boxV attrs m p with
                  | false =>
                    rw [hfv] at Cf HR
                    clear hfv
                    skip
                    as_aux_lemma =>
                      refine Run.region_seq (S := fun z => z.cell? ⟨gp, 4, none⟩ = some (.bool false) ∧ z.cell? ⟨g, 14, none⟩ = some (.int .u32 m.sf) ∧ z.cell? ⟨g, 15, none⟩ = some (.int .u32 m.st) ∧ Below w3.heap.size w3 z)
                        [0, 0, 0, 1, 0, 0, 0, 0, 0, 1, 0, 0, 0, 0, 0, 1, 0, 0, 0, 0, 1, 0, 0, 0, 0, 0, 0, 0, 0, 0, 0, 0, 0, 0, 0, 0, 1, 0, 0, 0, 0, 0, 1, 0, 0] (l := ?_) ?_ ⟨by rw [← hsp]; exact HP.out.cell 4, HB.out.cell 14, HB.out.cell 15, HI.out⟩ ?_
                      rotate_left
                      (· simp only [Run.seqOf, List.toList_toArray, Run.stepsOf, Run.stepOf, Run.guardOf, List.getElem?_toArray, List.getElem?_cons_zero, List.getElem?_cons_succ, Option.map_some, Option.map_none, Option.bind_some, Option.toList_some, List.map_cons, List.map_nil, List.cons_append, List.nil_append]
                         rfl)
                      repeat ((first
                        | (refine Run.takes (v := ?_) ?_ ?_; rotate_left; (· intro w' hS'; (first | (refine exec_load_blk (n := 18) (x := .tmp 3) (l := mcs m v b r) ?_ Try.underlying34 msg_info ?_ ?_ (HB.out.keep hS'.2.2.2) <;> rfl) | (refine exec_load_blk (n := 7) (x := .tmp 5) (l := pcs p) ?_ Try.underlying84 parts_info ?_ ?_ (HP.out.keep hS'.2.2.2) <;> rfl) | (go_simp; (try with_reducible rfl)))))
                        | (refine Run.takesG (v := ?_) ?_ ?_ ?_; rotate_left; (· simp only [List.getElem?_cons_zero, List.getElem?_cons_succ]); (· intro w' hS'; (first | (refine exec_load_blk (n := 18) (x := .tmp 3) (l := mcs m v b r) ?_ Try.underlying34 msg_info ?_ ?_ (HB.out.keep hS'.2.2.2) <;> rfl) | (refine exec_load_blk (n := 7) (x := .tmp 5) (l := pcs p) ?_ Try.underlying84 parts_info ?_ ?_ (HP.out.keep hS'.2.2.2) <;> rfl) | (go_simp; (try with_reducible rfl)))))
                        | (refine Run.skipsT ?_ ?_; (· simp only [List.getElem?_cons_zero, List.getElem?_cons_succ]))
                        | (refine Run.skipsF ?_ ?_; (· simp only [List.getElem?_cons_zero, List.getElem?_cons_succ]))
                        | (refine Run.skipsU ?_ ?_; (· simp only [List.getElem?_cons_zero, List.getElem?_cons_succ]))
                        | (refine Run.passT ?_ ?_; (· simp only [List.getElem?_cons_zero, List.getElem?_cons_succ]))
                        | (refine Run.passF ?_ ?_; (· simp only [List.getElem?_cons_zero, List.getElem?_cons_succ]))
                        | (refine Run.passU ?_ ?_; (· simp only [List.getElem?_cons_zero, List.getElem?_cons_succ]))
                        | (refine Run.runs ?_
                           (first
                           | (refine Run.callF 35 (by kernel_rfl) (fun hS => Ca.out _ hS.2.2.2) rfl ?_)
                           | (refine Run.callG 35 (by kernel_rfl) ?_ (fun hS => Ca.out _ hS.2.2.2) rfl ?_; (· simp only [List.getElem?_cons_zero, List.getElem?_cons_succ]))
                           | (refine Run.callF 41 (by kernel_rfl) (fun hS => Cb.out _ hS.2.2.2) rfl ?_)
                           | (refine Run.callG 41 (by kernel_rfl) ?_ (fun hS => Cb.out _ hS.2.2.2) rfl ?_; (· simp only [List.getElem?_cons_zero, List.getElem?_cons_succ]))
                           | (refine Run.callF 42 (by kernel_rfl) (fun hS => Cc.out _ hS.2.2.2) rfl ?_)
                           | (refine Run.callG 42 (by kernel_rfl) ?_ (fun hS => Cc.out _ hS.2.2.2) rfl ?_; (· simp only [List.getElem?_cons_zero, List.getElem?_cons_succ]))
                           | (refine Run.callF 43 (by kernel_rfl) (fun hS => Cd.out _ hS.2.2.2) rfl ?_)
                           | (refine Run.callG 43 (by kernel_rfl) ?_ (fun hS => Cd.out _ hS.2.2.2) rfl ?_; (· simp only [List.getElem?_cons_zero, List.getElem?_cons_succ]))
                           | (refine Run.callF 44 (by kernel_rfl) (fun hS => Cf.out _ hS.2.2.2) rfl ?_)
                           | (refine Run.callG 44 (by kernel_rfl) ?_ (fun hS => Cf.out _ hS.2.2.2) rfl ?_; (· simp only [List.getElem?_cons_zero, List.getElem?_cons_succ]))
                           | fail)
                           (first
                           | (rintro hS e w' ⟨rfl, rfl⟩; refine ⟨_, rfl, hS, ?_⟩)
                           | (rintro hS e w' ⟨rfl, hb⟩; refine ⟨_, rfl, ⟨kc hb hS.1, kc hb hS.2.1, kc hb hS.2.2.1, nest hS.2.2.2 hb⟩, ?_⟩)
                           | fail))
                        | fail); simp only [Act.put, List.setIfInBounds_toArray, List.set_cons_zero, List.set_cons_succ])
                      refine Run.ends (fun hS => ?_)
                      have HX := Lib.hid hS.2.2.2
                      clear hS
                      go_wp2_with fail
                      go_ret
                      exact ⟨by rw [HR.out]; rfl, nest HK3.out HX.out⟩
                  | true =>
                    rw [hfv] at Cf
                    rw [hfv, Bool.true_and] at HR
                    clear hfv
                    have Cg : Hid (∀ z, Below w3.heap.size w3 z → Calls Try.prog 45 #[.int .i64 attrs, .agg (mcs m v b r).toArray, .agg (pcs p).toArray] z fun e w' => e = .returned (.bool (recsV attrs m p)) ∧ Below z.heap.size z w') := Lib.hid (fun z hz => orrecs_any attrs m p v b r z (HM3.out.keep hz) HBD.out)
                    cases hgv : recsV attrs m p with
                    | false =>
                      rw [hgv] at Cg HR
                      clear hgv
                      skip
                      as_aux_lemma =>
                        refine Run.region_seq (S := fun z => z.cell? ⟨gp, 4, none⟩ = some (.bool false) ∧ z.cell? ⟨g, 14, none⟩ = some (.int .u32 m.sf) ∧ z.cell? ⟨g, 15, none⟩ = some (.int .u32 m.st) ∧ Below w3.heap.size w3 z)
                          [0, 0, 0, 1, 0, 0, 0, 0, 0, 1, 0, 0, 0, 0, 0, 1, 0, 0, 0, 0, 1, 0, 0, 0, 0, 0, 0, 0, 0, 0, 0, 0, 0, 0, 0, 0, 1, 0, 0, 0, 0, 0, 1, 0, 0] (l := ?_) ?_ ⟨by rw [← hsp]; exact HP.out.cell 4, HB.out.cell 14, HB.out.cell 15, HI.out⟩ ?_
                        rotate_left
                        (· simp only [Run.seqOf, List.toList_toArray, Run.stepsOf, Run.stepOf, Run.guardOf, List.getElem?_toArray, List.getElem?_cons_zero, List.getElem?_cons_succ, Option.map_some, Option.map_none, Option.bind_some, Option.toList_some, List.map_cons, List.map_nil, List.cons_append, List.nil_append]
                           rfl)
                        repeat ((first
                          | (refine Run.takes (v := ?_) ?_ ?_; rotate_left; (· intro w' hS'; (first | (refine exec_load_blk (n := 18) (x := .tmp 3) (l := mcs m v b r) ?_ Try.underlying34 msg_info ?_ ?_ (HB.out.keep hS'.2.2.2) <;> rfl) | (refine exec_load_blk (n := 7) (x := .tmp 5) (l := pcs p) ?_ Try.underlying84 parts_info ?_ ?_ (HP.out.keep hS'.2.2.2) <;> rfl) | (go_simp; (try with_reducible rfl)))))
                          | (refine Run.takesG (v := ?_) ?_ ?_ ?_; rotate_left; (· simp only [List.getElem?_cons_zero, List.getElem?_cons_succ]); (· intro w' hS'; (first | (refine exec_load_blk (n := 18) (x := .tmp 3) (l := mcs m v b r) ?_ Try.underlying34 msg_info ?_ ?_ (HB.out.keep hS'.2.2.2) <;> rfl) | (refine exec_load_blk (n := 7) (x := .tmp 5) (l := pcs p) ?_ Try.underlying84 parts_info ?_ ?_ (HP.out.keep hS'.2.2.2) <;> rfl) | (go_simp; (try with_reducible rfl)))))
                          | (refine Run.skipsT ?_ ?_; (· simp only [List.getElem?_cons_zero, List.getElem?_cons_succ]))
                          | (refine Run.skipsF ?_ ?_; (· simp only [List.getElem?_cons_zero, List.getElem?_cons_succ]))
                          | (refine Run.skipsU ?_ ?_; (· simp only [List.getElem?_cons_zero, List.getElem?_cons_succ]))
                          | (refine Run.passT ?_ ?_; (· simp only [List.getElem?_cons_zero, List.getElem?_cons_succ]))
                          | (refine Run.passF ?_ ?_; (· simp only [List.getElem?_cons_zero, List.getElem?_cons_succ]))
                          | (refine Run.passU ?_ ?_; (· simp only [List.getElem?_cons_zero, List.getElem?_cons_succ]))
                          | (refine Run.runs ?_
                             (first
                             | (refine Run.callF 35 (by kernel_rfl) (fun hS => Ca.out _ hS.2.2.2) rfl ?_)
                             | (refine Run.callG 35 (by kernel_rfl) ?_ (fun hS => Ca.out _ hS.2.2.2) rfl ?_; (· simp only [List.getElem?_cons_zero, List.getElem?_cons_succ]))
                             | (refine Run.callF 41 (by kernel_rfl) (fun hS => Cb.out _ hS.2.2.2) rfl ?_)
                             | (refine Run.callG 41 (by kernel_rfl) ?_ (fun hS => Cb.out _ hS.2.2.2) rfl ?_; (· simp only [List.getElem?_cons_zero, List.getElem?_cons_succ]))
                             | (refine Run.callF 42 (by kernel_rfl) (fun hS => Cc.out _ hS.2.2.2) rfl ?_)
                             | (refine Run.callG 42 (by kernel_rfl) ?_ (fun hS => Cc.out _ hS.2.2.2) rfl ?_; (· simp only [List.getElem?_cons_zero, List.getElem?_cons_succ]))
                             | (refine Run.callF 43 (by kernel_rfl) (fun hS => Cd.out _ hS.2.2.2) rfl ?_)
                             | (refine Run.callG 43 (by kernel_rfl) ?_ (fun hS => Cd.out _ hS.2.2.2) rfl ?_; (· simp only [List.getElem?_cons_zero, List.getElem?_cons_succ]))
                             | (refine Run.callF 44 (by kernel_rfl) (fun hS => Cf.out _ hS.2.2.2) rfl ?_)
                             | (refine Run.callG 44 (by kernel_rfl) ?_ (fun hS => Cf.out _ hS.2.2.2) rfl ?_; (· simp only [List.getElem?_cons_zero, List.getElem?_cons_succ]))
                             | (refine Run.callF 45 (by kernel_rfl) (fun hS => Cg.out _ hS.2.2.2) rfl ?_)
                             | (refine Run.callG 45 (by kernel_rfl) ?_ (fun hS => Cg.out _ hS.2.2.2) rfl ?_; (· simp only [List.getElem?_cons_zero, List.getElem?_cons_succ]))
                             | fail)
                             (first
                             | (rintro hS e w' ⟨rfl, rfl⟩; refine ⟨_, rfl, hS, ?_⟩)
                             | (rintro hS e w' ⟨rfl, hb⟩; refine ⟨_, rfl, ⟨kc hb hS.1, kc hb hS.2.1, kc hb hS.2.2.1, nest hS.2.2.2 hb⟩, ?_⟩)
                             | fail))
                          | fail); simp only [Act.put, List.setIfInBounds_toArray, List.set_cons_zero, List.set_cons_succ])
                        refine Run.ends (fun hS => ?_)
                        have HX := Lib.hid hS.2.2.2
                        clear hS
                        go_wp2_with fail
                        go_ret
                        exact ⟨by rw [HR.out]; rfl, nest HK3.out HX.out⟩
                    | true =>
                      rw [hgv] at Cg
                      rw [hgv] at HR
                      clear hgv
                      skip
                      as_aux_lemma =>
                        refine Run.region_seq (S := fun z => z.cell? ⟨gp, 4, none⟩ = some (.bool false) ∧ z.cell? ⟨g, 14, none⟩ = some (.int .u32 m.sf) ∧ z.cell? ⟨g, 15, none⟩ = some (.int .u32 m.st) ∧ Below w3.heap.size w3 z)
                          [0, 0, 0, 1, 0, 0, 0, 0, 0, 1, 0, 0, 0, 0, 0, 1, 0, 0, 0, 0, 1, 0, 0, 0, 0, 0, 0, 0, 0, 0, 0, 0, 0, 0, 0, 0, 1, 0, 0, 0, 0, 0, 1, 0, 0] (l := ?_) ?_ ⟨by rw [← hsp]; exact HP.out.cell 4, HB.out.cell 14, HB.out.cell 15, HI.out⟩ ?_
                        rotate_left
                        (· simp only [Run.seqOf, List.toList_toArray, Run.stepsOf, Run.stepOf, Run.guardOf, List.getElem?_toArray, List.getElem?_cons_zero, List.getElem?_cons_succ, Option.map_some, Option.map_none, Option.bind_some, Option.toList_some, List.map_cons, List.map_nil, List.cons_append, List.nil_append]
                           rfl)
                        repeat ((first
                          | (refine Run.takes (v := ?_) ?_ ?_; rotate_left; (· intro w' hS'; (first | (refine exec_load_blk (n := 18) (x := .tmp 3) (l := mcs m v b r) ?_ Try.underlying34 msg_info ?_ ?_ (HB.out.keep hS'.2.2.2) <;> rfl) | (refine exec_load_blk (n := 7) (x := .tmp 5) (l := pcs p) ?_ Try.underlying84 parts_info ?_ ?_ (HP.out.keep hS'.2.2.2) <;> rfl) | (go_simp; (try with_reducible rfl)))))
                          | (refine Run.takesG (v := ?_) ?_ ?_ ?_; rotate_left; (· simp only [List.getElem?_cons_zero, List.getElem?_cons_succ]); (· intro w' hS'; (first | (refine exec_load_blk (n := 18) (x := .tmp 3) (l := mcs m v b r) ?_ Try.underlying34 msg_info ?_ ?_ (HB.out.keep hS'.2.2.2) <;> rfl) | (refine exec_load_blk (n := 7) (x := .tmp 5) (l := pcs p) ?_ Try.underlying84 parts_info ?_ ?_ (HP.out.keep hS'.2.2.2) <;> rfl) | (go_simp; (try with_reducible rfl)))))
                          | (refine Run.skipsT ?_ ?_; (· simp only [List.getElem?_cons_zero, List.getElem?_cons_succ]))
                          | (refine Run.skipsF ?_ ?_; (· simp only [List.getElem?_cons_zero, List.getElem?_cons_succ]))
                          | (refine Run.skipsU ?_ ?_; (· simp only [List.getElem?_cons_zero, List.getElem?_cons_succ]))
                          | (refine Run.passT ?_ ?_; (· simp only [List.getElem?_cons_zero, List.getElem?_cons_succ]))
                          | (refine Run.passF ?_ ?_; (· simp only [List.getElem?_cons_zero, List.getElem?_cons_succ]))
                          | (refine Run.passU ?_ ?_; (· simp only [List.getElem?_cons_zero, List.getElem?_cons_succ]))
                          | (refine Run.runs ?_
                             (first
                             | (refine Run.callF 35 (by kernel_rfl) (fun hS => Ca.out _ hS.2.2.2) rfl ?_)
                             | (refine Run.callG 35 (by kernel_rfl) ?_ (fun hS => Ca.out _ hS.2.2.2) rfl ?_; (· simp only [List.getElem?_cons_zero, List.getElem?_cons_succ]))
                             | (refine Run.callF 41 (by kernel_rfl) (fun hS => Cb.out _ hS.2.2.2) rfl ?_)
                             | (refine Run.callG 41 (by kernel_rfl) ?_ (fun hS => Cb.out _ hS.2.2.2) rfl ?_; (· simp only [List.getElem?_cons_zero, List.getElem?_cons_succ]))
                             | (refine Run.callF 42 (by kernel_rfl) (fun hS => Cc.out _ hS.2.2.2) rfl ?_)
                             | (refine Run.callG 42 (by kernel_rfl) ?_ (fun hS => Cc.out _ hS.2.2.2) rfl ?_; (· simp only [List.getElem?_cons_zero, List.getElem?_cons_succ]))
                             | (refine Run.callF 43 (by kernel_rfl) (fun hS => Cd.out _ hS.2.2.2) rfl ?_)
                             | (refine Run.callG 43 (by kernel_rfl) ?_ (fun hS => Cd.out _ hS.2.2.2) rfl ?_; (· simp only [List.getElem?_cons_zero, List.getElem?_cons_succ]))
                             | (refine Run.callF 44 (by kernel_rfl) (fun hS => Cf.out _ hS.2.2.2) rfl ?_)
                             | (refine Run.callG 44 (by kernel_rfl) ?_ (fun hS => Cf.out _ hS.2.2.2) rfl ?_; (· simp only [List.getElem?_cons_zero, List.getElem?_cons_succ]))
                             | (refine Run.callF 45 (by kernel_rfl) (fun hS => Cg.out _ hS.2.2.2) rfl ?_)
                             | (refine Run.callG 45 (by kernel_rfl) ?_ (fun hS => Cg.out _ hS.2.2.2) rfl ?_; (· simp only [List.getElem?_cons_zero, List.getElem?_cons_succ]))
                             | fail)
                             (first
                             | (rintro hS e w' ⟨rfl, rfl⟩; refine ⟨_, rfl, hS, ?_⟩)
                             | (rintro hS e w' ⟨rfl, hb⟩; refine ⟨_, rfl, ⟨kc hb hS.1, kc hb hS.2.1, kc hb hS.2.2.1, nest hS.2.2.2 hb⟩, ?_⟩)
                             | fail))
                          | fail); simp only [Act.put, List.setIfInBounds_toArray, List.set_cons_zero, List.set_cons_succ])
                        refine Run.ends (fun hS => ?_)
                        have HX := Lib.hid hS.2.2.2
                        clear hS
                        go_wp2_with fail
                        go_ret
                        exact ⟨by rw [HR.out]; rfl, nest HK3.out HX.out⟩
                · have dst : (m.st == 0) = false := by simpa using hst
                  have HSP : Hid (spanOk m p = false) := Lib.hid (by unfold spanOk; rw [hsp, decide_eq_false (by omega)]; rfl)
                  rw [HSP.out] at HR
                  skip
                  as_aux_lemma =>
                    refine Run.region_seq (S := fun z => z.cell? ⟨gp, 4, none⟩ = some (.bool false) ∧ z.cell? ⟨g, 14, none⟩ = some (.int .u32 m.sf) ∧ z.cell? ⟨g, 15, none⟩ = some (.int .u32 m.st) ∧ Below w3.heap.size w3 z)
                      [0, 0, 0, 1, 0, 0, 0, 0, 0, 1, 0, 0, 0, 0, 0, 1, 0, 0, 0, 0, 1, 0, 0, 0, 0, 0, 0, 0, 0, 0, 0, 0, 0, 0, 0, 0, 1, 0, 0, 0, 0, 0, 1, 0, 0] (l := ?_) ?_ ⟨by rw [← hsp]; exact HP.out.cell 4, HB.out.cell 14, HB.out.cell 15, HI.out⟩ ?_
                    rotate_left
                    (· simp only [Run.seqOf, List.toList_toArray, Run.stepsOf, Run.stepOf, Run.guardOf, List.getElem?_toArray, List.getElem?_cons_zero, List.getElem?_cons_succ, Option.map_some, Option.map_none, Option.bind_some, Option.toList_some, List.map_cons, List.map_nil, List.cons_append, List.nil_append]
                       rfl)
                    repeat ((first
                      | (refine Run.takes (v := ?_) ?_ ?_; rotate_left; (· intro w' hS'; (first | (refine exec_load_blk (n := 18) (x := .tmp 3) (l := mcs m v b r) ?_ Try.underlying34 msg_info ?_ ?_ (HB.out.keep hS'.2.2.2) <;> rfl) | (refine exec_load_blk (n := 7) (x := .tmp 5) (l := pcs p) ?_ Try.underlying84 parts_info ?_ ?_ (HP.out.keep hS'.2.2.2) <;> rfl) | (go_simp; (try with_reducible rfl)))))
                      | (refine Run.takesG (v := ?_) ?_ ?_ ?_; rotate_left; (· simp only [List.getElem?_cons_zero, List.getElem?_cons_succ]); (· intro w' hS'; (first | (refine exec_load_blk (n := 18) (x := .tmp 3) (l := mcs m v b r) ?_ Try.underlying34 msg_info ?_ ?_ (HB.out.keep hS'.2.2.2) <;> rfl) | (refine exec_load_blk (n := 7) (x := .tmp 5) (l := pcs p) ?_ Try.underlying84 parts_info ?_ ?_ (HP.out.keep hS'.2.2.2) <;> rfl) | (go_simp; (try with_reducible rfl)))))
                      | (refine Run.skipsT ?_ ?_; (· simp only [List.getElem?_cons_zero, List.getElem?_cons_succ]))
                      | (refine Run.skipsF ?_ ?_; (· simp only [List.getElem?_cons_zero, List.getElem?_cons_succ]))
                      | (refine Run.skipsU ?_ ?_; (· simp only [List.getElem?_cons_zero, List.getElem?_cons_succ]))
                      | (refine Run.passT ?_ ?_; (· simp only [List.getElem?_cons_zero, List.getElem?_cons_succ]))
                      | (refine Run.passF ?_ ?_; (· simp only [List.getElem?_cons_zero, List.getElem?_cons_succ]))
                      | (refine Run.passU ?_ ?_; (· simp only [List.getElem?_cons_zero, List.getElem?_cons_succ]))
                      | (refine Run.runs ?_
                         (first
                         | (refine Run.callF 35 (by kernel_rfl) (fun hS => Ca.out _ hS.2.2.2) rfl ?_)
                         | (refine Run.callG 35 (by kernel_rfl) ?_ (fun hS => Ca.out _ hS.2.2.2) rfl ?_; (· simp only [List.getElem?_cons_zero, List.getElem?_cons_succ]))
                         | (refine Run.callF 41 (by kernel_rfl) (fun hS => Cb.out _ hS.2.2.2) rfl ?_)
                         | (refine Run.callG 41 (by kernel_rfl) ?_ (fun hS => Cb.out _ hS.2.2.2) rfl ?_; (· simp only [List.getElem?_cons_zero, List.getElem?_cons_succ]))
                         | (refine Run.callF 42 (by kernel_rfl) (fun hS => Cc.out _ hS.2.2.2) rfl ?_)
                         | (refine Run.callG 42 (by kernel_rfl) ?_ (fun hS => Cc.out _ hS.2.2.2) rfl ?_; (· simp only [List.getElem?_cons_zero, List.getElem?_cons_succ]))
                         | (refine Run.callF 43 (by kernel_rfl) (fun hS => Cd.out _ hS.2.2.2) rfl ?_)
                         | (refine Run.callG 43 (by kernel_rfl) ?_ (fun hS => Cd.out _ hS.2.2.2) rfl ?_; (· simp only [List.getElem?_cons_zero, List.getElem?_cons_succ]))
                         | fail)
                         (first
                         | (rintro hS e w' ⟨rfl, rfl⟩; refine ⟨_, rfl, hS, ?_⟩)
                         | (rintro hS e w' ⟨rfl, hb⟩; refine ⟨_, rfl, ⟨kc hb hS.1, kc hb hS.2.1, kc hb hS.2.2.1, nest hS.2.2.2 hb⟩, ?_⟩)
                         | fail))
                      | fail); simp only [Act.put, List.setIfInBounds_toArray, List.set_cons_zero, List.set_cons_succ])
                    refine Run.ends (fun hS => ?_)
                    have HX := Lib.hid hS.2.2.2
                    clear hS
                    go_wp2_with fail
                    go_ret
                    exact ⟨by rw [HR.out]; rfl, nest HK3.out HX.out⟩
              · have dsf : (m.sf == 0) = false := by simpa using hsf
                have HSP : Hid (spanOk m p = false) := Lib.hid (by unfold spanOk; rw [hsp, decide_eq_false (by omega)]; rfl)
                rw [HSP.out] at HR
                skip
                as_aux_lemma =>
                  refine Run.region_seq (S := fun z => z.cell? ⟨gp, 4, none⟩ = some (.bool false) ∧ z.cell? ⟨g, 14, none⟩ = some (.int .u32 m.sf) ∧ z.cell? ⟨g, 15, none⟩ = some (.int .u32 m.st) ∧ Below w3.heap.size w3 z)
                    [0, 0, 0, 1, 0, 0, 0, 0, 0, 1, 0, 0, 0, 0, 0, 1, 0, 0, 0, 0, 1, 0, 0, 0, 0, 0, 0, 0, 0, 0, 0, 0, 0, 0, 0, 0, 1, 0, 0, 0, 0, 0, 1, 0, 0] (l := ?_) ?_ ⟨by rw [← hsp]; exact HP.out.cell 4, HB.out.cell 14, HB.out.cell 15, HI.out⟩ ?_
                  rotate_left
                  (· simp only [Run.seqOf, List.toList_toArray, Run.stepsOf, Run.stepOf, Run.guardOf, List.getElem?_toArray, List.getElem?_cons_zero, List.getElem?_cons_succ, Option.map_some, Option.map_none, Option.bind_some, Option.toList_some, List.map_cons, List.map_nil, List.cons_append, List.nil_append]
                     rfl)
                  repeat ((first
                    | (refine Run.takes (v := ?_) ?_ ?_; rotate_left; (· intro w' hS'; (first | (refine exec_load_blk (n := 18) (x := .tmp 3) (l := mcs m v b r) ?_ Try.underlying34 msg_info ?_ ?_ (HB.out.keep hS'.2.2.2) <;> rfl) | (refine exec_load_blk (n := 7) (x := .tmp 5) (l := pcs p) ?_ Try.underlying84 parts_info ?_ ?_ (HP.out.keep hS'.2.2.2) <;> rfl) | (go_simp; (try with_reducible rfl)))))
                    | (refine Run.takesG (v := ?_) ?_ ?_ ?_; rotate_left; (· simp only [List.getElem?_cons_zero, List.getElem?_cons_succ]); (· intro w' hS'; (first | (refine exec_load_blk (n := 18) (x := .tmp 3) (l := mcs m v b r) ?_ Try.underlying34 msg_info ?_ ?_ (HB.out.keep hS'.2.2.2) <;> rfl) | (refine exec_load_blk (n := 7) (x := .tmp 5) (l := pcs p) ?_ Try.underlying84 parts_info ?_ ?_ (HP.out.keep hS'.2.2.2) <;> rfl) | (go_simp; (try with_reducible rfl)))))
                    | (refine Run.skipsT ?_ ?_; (· simp only [List.getElem?_cons_zero, List.getElem?_cons_succ]))
                    | (refine Run.skipsF ?_ ?_; (· simp only [List.getElem?_cons_zero, List.getElem?_cons_succ]))
                    | (refine Run.skipsU ?_ ?_; (· simp only [List.getElem?_cons_zero, List.getElem?_cons_succ]))
                    | (refine Run.passT ?_ ?_; (· simp only [List.getElem?_cons_zero, List.getElem?_cons_succ]))
                    | (refine Run.passF ?_ ?_; (· simp only [List.getElem?_cons_zero, List.getElem?_cons_succ]))
                    | (refine Run.passU ?_ ?_; (· simp only [List.getElem?_cons_zero, List.getElem?_cons_succ]))
                    | (refine Run.runs ?_
                       (first
                       | (refine Run.callF 35 (by kernel_rfl) (fun hS => Ca.out _ hS.2.2.2) rfl ?_)
                       | (refine Run.callG 35 (by kernel_rfl) ?_ (fun hS => Ca.out _ hS.2.2.2) rfl ?_; (· simp only [List.getElem?_cons_zero, List.getElem?_cons_succ]))
                       | (refine Run.callF 41 (by kernel_rfl) (fun hS => Cb.out _ hS.2.2.2) rfl ?_)
                       | (refine Run.callG 41 (by kernel_rfl) ?_ (fun hS => Cb.out _ hS.2.2.2) rfl ?_; (· simp only [List.getElem?_cons_zero, List.getElem?_cons_succ]))
                       | (refine Run.callF 42 (by kernel_rfl) (fun hS => Cc.out _ hS.2.2.2) rfl ?_)
                       | (refine Run.callG 42 (by kernel_rfl) ?_ (fun hS => Cc.out _ hS.2.2.2) rfl ?_; (· simp only [List.getElem?_cons_zero, List.getElem?_cons_succ]))
                       | (refine Run.callF 43 (by kernel_rfl) (fun hS => Cd.out _ hS.2.2.2) rfl ?_)
                       | (refine Run.callG 43 (by kernel_rfl) ?_ (fun hS => Cd.out _ hS.2.2.2) rfl ?_; (· simp only [List.getElem?_cons_zero, List.getElem?_cons_succ]))
                       | fail)
                       (first
                       | (rintro hS e w' ⟨rfl, rfl⟩; refine ⟨_, rfl, hS, ?_⟩)
                       | (rintro hS e w' ⟨rfl, hb⟩; refine ⟨_, rfl, ⟨kc hb hS.1, kc hb hS.2.1, kc hb hS.2.2.1, nest hS.2.2.2 hb⟩, ?_⟩)
                       | fail))
                    | fail); simp only [Act.put, List.setIfInBounds_toArray, List.set_cons_zero, List.set_cons_succ])
                  refine Run.ends (fun hS => ?_)
                  have HX := Lib.hid hS.2.2.2
                  clear hS
                  go_wp2_with fail
                  go_ret
                  exact ⟨by rw [HR.out]; rfl, nest HK3.out HX.out⟩
end Go.Proofs.Ythhelhhlofdehaa
