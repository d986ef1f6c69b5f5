/- The document's answer for package message: Pack. -/
import Derived.Test.YthhelhhlofdehaaMsgRec
import Derived.Test.YthhelhhlofdehaaMsgRight
set_option maxRecDepth 4000
namespace Go.Proofs.Ythhelhhlofdehaa
open Go.RowKit Mem
set_option linter.unusedSimpArgs false
set_option linter.unusedVariables false
attribute [local irreducible] Go.Calls

def headM (m : Msg) : List Int := be 1 m.kind ++ (be 1 m.hub ++ (be 1 m.client ++ (be 2 m.op ++ be 4 m.point)))
def entM (m : Msg) : List Int := be 1 (if m.gone then 1 else 0) ++ recP (m.eid, m.ever, m.vals)
def recsP (l : List (Int × Int × List Int)) : List Int := l.flatMap recP
theorem recsP_step {l : List (Int × Int × List Int)} {k : Nat} (hk : k < l.length) : recsP (l.take (k + 1)) = recsP (l.take k) ++ recP (l.getD k (0, 0, [])) := by
  rw [show l.getD k (0, 0, []) = l[k] by simp [List.getD, hk], List.take_add_one, List.getElem?_eq_getElem hk, Option.toList_some, recsP, recsP, List.flatMap_append, List.flatMap_cons, List.flatMap_nil, List.append_nil]
theorem recsP_le {l : List (Int × Int × List Int)} {n : Nat} (h : ∀ x ∈ l, x.2.2.length ≤ n) : (recsP l).length ≤ l.length * (16 + 4 * n) := by
  induction l with
  | nil => simp [recsP]
  | cons x l ih =>
    have h1 := h x (by simp)
    have h2 := ih (fun y hy => h y (by simp [hy]))
    have e : recsP (x :: l) = recP x ++ recsP l := rfl
    rw [e, List.length_append, recP_len, List.length_cons, Nat.add_mul, Nat.one_mul]
    omega
def tailM (m : Msg) : List Int :=
  if m.kind = 1 then entM m ++ be 1 m.hops else if m.kind = 2 ∨ m.kind = 3 then entM m ++ (be 4 m.owner ++ be 4 m.turn) else if m.kind = 4 then entM m
  else if m.kind = 5 then be 1 m.hops ++ (be 4 m.sf ++ (be 4 m.st ++ packV m.box)) else be 4 m.sf ++ (be 4 m.st ++ (be 2 m.recs.length ++ recsP m.recs))
/-- the bytes of a message -/
def packM (m : Msg) : List Int := headM m ++ tailM m
/-- what Pack hands out -/
def PkPost (attrs : Int) (m : Msg) (w : World) (e : Ending) (w' : World) : Prop :=
  (rightM attrs m = false ∧ e = .returned (.tuple #[.slice none 0 0, .int .i64 4]) ∧ Below w.heap.size w w') ∨
  (rightM attrs m = true ∧ ∃ v, e = .returned (.tuple #[v, .int .i64 0]) ∧ Row (intE .u8) 5 w.heap.size w' v (packM m) ∧ Below w.heap.size w w')
/-- what is known of a right message -/
structure RightF (attrs : Int) (m : Msg) : Prop where
  a : 1 ≤ attrs ∧ attrs ≤ 8
  hub : 0 ≤ m.hub ∧ m.hub < attrs
  client : 0 ≤ m.client ∧ m.client < 16
  op : 1 ≤ m.op ∧ m.op ≤ 500
  hops : 0 ≤ m.hops ∧ m.hops ≤ 100
  kind : 1 ≤ m.kind ∧ m.kind ≤ 6
  turn : 0 ≤ m.turn ∧ m.turn ≤ 2147483647
  vals : m.kind ≤ 4 → (m.vals.length : Int) = attrs ∧ m.vals.getD m.hub.toNat 0 = m.ev ∧ m.target = m.ev
  box : m.kind = 5 → (m.box.length : Int) = attrs ∧ (∀ x ∈ m.box, kindV x.1 = true ∧ bareR x = true)
  recs : m.kind = 6 → m.recs.length ≤ 10000 ∧ ∀ x ∈ m.recs, (x.2.2.length : Int) = attrs
theorem rightV_len {attrs i v : Int} {n : Nat} (h : rightV attrs i v n = true) : (n : Int) = attrs := by
  unfold rightV at h
  simp only [Bool.and_eq_true, decide_eq_true_eq] at h
  exact h.1.1.2
theorem right_f {attrs : Int} {m : Msg} (h : rightM attrs m = true) : RightF attrs m := by
  unfold rightM at h
  simp only [Bool.and_eq_true] at h
  obtain ⟨h1, h2, h3, h4, h5, h6, h7, h8⟩ := h
  obtain ⟨b1, b2, b3, b4, b5, b6, b7, b8, b9, b10, b11, b12⟩ := of_decide_eq_true h1
  have h6 := of_decide_eq_true h6
  refine ⟨⟨b1, b2⟩, ⟨b3, b4⟩, ⟨b5, b6⟩, ⟨b7, b8⟩, ⟨b9, b10⟩, ⟨b11, b12⟩, h6.2, fun hk => ?_, fun hk => ?_, fun hk => ?_⟩
  · unfold s2M at h2
    rw [if_pos ⟨b11, hk⟩] at h2
    simp only [Bool.and_eq_true, beq_iff_eq] at h2
    exact ⟨rightV_len h2.1, h2.2.1, h2.2.2⟩
  · unfold s3M at h3
    rw [if_pos hk] at h3
    simp only [Bool.and_eq_true, rightB, decide_eq_true_eq, List.all_eq_true] at h3
    exact ⟨h3.1.1.2, fun x hx => ⟨h3.1.2 x hx, h3.2 x hx⟩⟩
  · unfold s4M at h4
    rw [if_pos hk] at h4
    simp only [Bool.and_eq_true, decide_eq_true_eq, List.all_eq_true] at h4
    exact ⟨h4.1, fun x hx => rightV_len (h4.2 x hx)⟩
set_option maxRecDepth 100000 in
set_option maxHeartbeats 4000000 in
theorem rmpack_any (attrs : Int) (m : Msg) (v b r : Value) (w : World) (h : MRd w m v b r) (hb : MB m) :
    Calls Try.prog 13 #[.int .i64 attrs, .agg (mcs m v b r).toArray] w (PkPost attrs m w) := by
  have hk0 : Below w.heap.size w (w.alloc (.cells (mcs m v b r).toArray 34)) := more (Below.refl _ _) _
  have HBK := Lib.hid (Blk.new w 34 (mcs m v b r).toArray)
  have HK := Lib.hid hk0
  have HM := Lib.hid (h.keep hk0)
  have HBD := Lib.hid hb
  clear hk0 h hb
  go_enter Try.func13, Try.ntmps13
  go_upto_region 1 with fail
  generalize w.alloc (.cells (mcs m v b r).toArray 34) = w1 at *
  obtain ⟨g, hg⟩ : ∃ g, g = w.heap.size := ⟨_, rfl⟩
  rw [← hg] at HBK ⊢
  clear hg
  have HC := Lib.hid (rmright_any attrs m v b r w1 HM.out HBD.out)
  cases hr : rightM attrs m with
  | false =>
    rw [hr] at HC
    have HR := Lib.hid hr
    clear hr
    go_wp2_with (first | (refine wpList_load_row rfl 34 (.tmp 3) rfl g rfl 34 (mcs m v b r).toArray (0, 0) _ HBK.out Try.underlying34 rfl msg_info ?_) | (go_at_call 17; refine HC.out.mono ?_; rintro e w2 ⟨rfl, hk2⟩))
    go_ret2
    exact .inl ⟨HR.out, rfl, nest HK.out hk2⟩
  | true =>
    rw [hr] at HC
    have HR := Lib.hid hr
    have HF := Lib.hid (right_f hr)
    clear hr
    go_upto_region 3 with (first | (refine wpList_load_row rfl 34 (.tmp 3) rfl g rfl 34 (mcs m v b r).toArray (0, 0) _ HBK.out Try.underlying34 rfl msg_info ?_) | (go_at_call 17; refine HC.out.mono ?_; rintro e w2 ⟨rfl, hk2⟩))
    have HB2 := Lib.hid (HBK.out.keep hk2)
    have HM2 := Lib.hid (HM.out.keep hk2)
    have HK2 := Lib.hid (nest HK.out hk2)
    clear HBK HM HK HC hk2
    have kk := HF.out.kind
    have kh := HF.out.hub
    have kc' := HF.out.client
    have ko := HF.out.op
    have khp := HF.out.hops
    have ka := HF.out.a
    have kt := HF.out.turn
    have kp : 0 ≤ m.point ∧ m.point ≤ 4294967295 := HBD.out.point
    have kow : 0 ≤ m.owner ∧ m.owner ≤ 4294967295 := HBD.out.owner
    have ksf : 0 ≤ m.sf ∧ m.sf ≤ 4294967295 := HBD.out.sf
    have kst : 0 ≤ m.st ∧ m.st ≤ 4294967295 := HBD.out.st
    have u0 : IntKind.u64.wrap m.kind = m.kind := IntWalk.u64_in _ (by omega)
    have u1 : IntKind.u64.wrap m.hub = m.hub := IntWalk.u64_in _ (by omega)
    have u3 : IntKind.u64.wrap m.client = m.client := IntWalk.u64_in _ (by omega)
    have u4 : IntKind.u64.wrap m.op = m.op := IntWalk.u64_in _ (by omega)
    have u2 : IntKind.u64.wrap m.point = m.point := IntWalk.u64_in _ (by omega)
    have c0 : w2.cell? ⟨g, 0, none⟩ = some (.int .i64 m.kind) := HB2.out.cell 0
    have c1 : w2.cell? ⟨g, 1, none⟩ = some (.int .i64 m.hub) := HB2.out.cell 1
    have c3 : w2.cell? ⟨g, 3, none⟩ = some (.int .i64 m.client) := HB2.out.cell 3
    have HRN : Hid (Rd (intE .u8) w2 (.slice none 0 0) []) := Lib.hid (Rd.nil _ _ (by unfold maxLen; omega))
    obtain ⟨n0, hn0⟩ : ∃ n, n = 0 := ⟨_, rfl⟩
    have HL0 : Hid (([] : List Int).length = n0) := Lib.hid hn0.symm
    have HN0 := Lib.hid hn0
    have HI := Lib.hid (Below.refl w2.heap.size w2)
    clear hn0
    refine Run.region_walk (S := fun z => z.cell? ⟨g, 0, none⟩ = some (.int .i64 m.kind) ∧ z.cell? ⟨g, 1, none⟩ = some (.int .i64 m.hub) ∧ z.cell? ⟨g, 3, none⟩ = some (.int .i64 m.client) ∧ Below w2.heap.size w2 z)
      rmpack.rows3 rmpack.plan3 (l := ?steps1) (by kernel_rfl) (by kernel_rfl) (by kernel_rfl) (by kernel_rfl) ?written1 ⟨c0, c1, c3, (Below.refl _ _).drew⟩ ?onward1
    case written1 =>
      simp only [rmpack.plan3, Run.stepsOf, Run.stepOf, Run.guardOf, List.getElem?_toArray, List.getElem?_cons_zero, List.getElem?_cons_succ, Option.map_some, Option.map_none, Option.bind_some, Option.toList_some, List.map_cons, List.map_nil, List.cons_append, List.nil_append]
      rfl
    repeat ((first
      | (refine Run.takes (v := ?_) ?_ ?_; rotate_left; (· intro w' hS'; go_simp; (try with_reducible rfl)))
      | (refine Run.takesG (v := ?_) ?_ ?_ ?_; rotate_left; (· simp only [List.getElem?_cons_zero, List.getElem?_cons_succ]); (· intro w' hS'; go_simp; (try with_reducible rfl)))
      | (refine Run.skipsT ?_ ?_; (· simp only [List.getElem?_cons_zero, List.getElem?_cons_succ]))
      | (refine Run.skipsF ?_ ?_; (· simp only [List.getElem?_cons_zero, List.getElem?_cons_succ]))
      | (refine Run.skipsU ?_ ?_; (· simp only [List.getElem?_cons_zero, List.getElem?_cons_succ]))
      | (refine Run.passT ?_ ?_; (· simp only [List.getElem?_cons_zero, List.getElem?_cons_succ]))
      | (refine Run.passF ?_ ?_; (· simp only [List.getElem?_cons_zero, List.getElem?_cons_succ]))
      | (refine Run.passU ?_ ?_; (· simp only [List.getElem?_cons_zero, List.getElem?_cons_succ]))
      | fail); simp only [Act.put, List.setIfInBounds_toArray, List.set_cons_zero, List.set_cons_succ])
    refine Run.runsS (Run.callF 31 (by kernel_rfl) (fun hS => rput_any _ [] (m.kind) 1 (by omega) _ (HRN.out.keep hS.2.2.2) (by rw [HL0.out, HN0.out]; omega)) rfl ?_)
    rintro hS e pz0 ⟨pv0, rfl, pr0, pb0⟩
    have py0 := nest hS.2.2.2 pb0
    rw [sz1] at pr0
    obtain ⟨pq0, pe0⟩ : ∃ pq0, pq0 = [] ++ be 1 (m.kind) := ⟨_, rfl⟩
    rw [← pe0] at pr0
    have pE0 := Lib.hid pe0
    have pL0 : Hid (pq0.length = n0 + 1) := Lib.hid (by rw [pe0, List.length_append, be_len, HL0.out]; try omega)
    obtain ⟨pa0, pc0, rfl, _, _⟩ := pr0.rd.form
    have pR0 := Lib.hid pr0.rd
    have pW0 := Lib.hid (pr0.mono (show w2.heap.size ≤ _ from hS.2.2.2.size))
    have pB0 := Lib.hid (nest HI.out py0)
    have pY0 : Hid (Below w2.heap.size w2 pz0) := Lib.hid (py0)
    refine ⟨_, rfl, ⟨kc py0 c0, kc py0 c1, kc py0 c3, py0⟩, fun _ => ⟨fun z => Below pz0.heap.size pz0 z, fun z h => ⟨kc (nest py0 h) c0, kc (nest py0 h) c1, kc (nest py0 h) c3, nest py0 h⟩, Below.refl _ _, ?_⟩⟩
    simp only [Act.put, List.setIfInBounds_toArray, List.set_cons_zero, List.set_cons_succ]
    clear hS pr0 pb0 py0 pe0
    repeat ((first
      | (refine Run.takes (v := ?_) ?_ ?_; rotate_left; (· intro w' hS'; go_simp; (try with_reducible rfl)))
      | (refine Run.takesG (v := ?_) ?_ ?_ ?_; rotate_left; (· simp only [List.getElem?_cons_zero, List.getElem?_cons_succ]); (· intro w' hS'; go_simp; (try with_reducible rfl)))
      | (refine Run.skipsT ?_ ?_; (· simp only [List.getElem?_cons_zero, List.getElem?_cons_succ]))
      | (refine Run.skipsF ?_ ?_; (· simp only [List.getElem?_cons_zero, List.getElem?_cons_succ]))
      | (refine Run.skipsU ?_ ?_; (· simp only [List.getElem?_cons_zero, List.getElem?_cons_succ]))
      | (refine Run.passT ?_ ?_; (· simp only [List.getElem?_cons_zero, List.getElem?_cons_succ]))
      | (refine Run.passF ?_ ?_; (· simp only [List.getElem?_cons_zero, List.getElem?_cons_succ]))
      | (refine Run.passU ?_ ?_; (· simp only [List.getElem?_cons_zero, List.getElem?_cons_succ]))
      | fail); simp only [Act.put, List.setIfInBounds_toArray, List.set_cons_zero, List.set_cons_succ])
    refine Run.runsS (Run.callF 31 (by kernel_rfl) (fun hS => rput_any _ pq0 (m.hub) 1 (by omega) _ (pR0.out.keep hS) (by rw [pL0.out, HN0.out]; omega)) rfl ?_)
    rintro hS e pz1 ⟨pv1, rfl, pr1, pb1⟩
    have py1 := nest hS pb1
    rw [sz1] at pr1
    obtain ⟨pq1, pe1⟩ : ∃ pq1, pq1 = pq0 ++ be 1 (m.hub) := ⟨_, rfl⟩
    rw [← pe1] at pr1
    have pE1 := Lib.hid pe1
    have pL1 : Hid (pq1.length = n0 + 2) := Lib.hid (by rw [pe1, List.length_append, be_len, pL0.out]; try omega)
    obtain ⟨pa1, pc1, rfl, _, _⟩ := pr1.rd.form
    have pR1 := Lib.hid pr1.rd
    have pW1 := Lib.hid (pr1.mono (show w2.heap.size ≤ _ from (nest pY0.out hS).size))
    have pB1 := Lib.hid (nest pB0.out py1)
    have pY1 : Hid (Below w2.heap.size w2 pz1) := Lib.hid (nest pY0.out py1)
    refine ⟨_, rfl, py1, fun _ => ⟨fun z => Below pz1.heap.size pz1 z, fun z h => nest py1 h, Below.refl _ _, ?_⟩⟩
    simp only [Act.put, List.setIfInBounds_toArray, List.set_cons_zero, List.set_cons_succ]
    clear hS pr1 pb1 py1 pe1
    repeat ((first
      | (refine Run.takes (v := ?_) ?_ ?_; rotate_left; (· intro w' hS'; go_simp; (try with_reducible rfl)))
      | (refine Run.takesG (v := ?_) ?_ ?_ ?_; rotate_left; (· simp only [List.getElem?_cons_zero, List.getElem?_cons_succ]); (· intro w' hS'; go_simp; (try with_reducible rfl)))
      | (refine Run.skipsT ?_ ?_; (· simp only [List.getElem?_cons_zero, List.getElem?_cons_succ]))
      | (refine Run.skipsF ?_ ?_; (· simp only [List.getElem?_cons_zero, List.getElem?_cons_succ]))
      | (refine Run.skipsU ?_ ?_; (· simp only [List.getElem?_cons_zero, List.getElem?_cons_succ]))
      | (refine Run.passT ?_ ?_; (· simp only [List.getElem?_cons_zero, List.getElem?_cons_succ]))
      | (refine Run.passF ?_ ?_; (· simp only [List.getElem?_cons_zero, List.getElem?_cons_succ]))
      | (refine Run.passU ?_ ?_; (· simp only [List.getElem?_cons_zero, List.getElem?_cons_succ]))
      | fail); simp only [Act.put, List.setIfInBounds_toArray, List.set_cons_zero, List.set_cons_succ])
    refine Run.runsS (Run.callF 31 (by kernel_rfl) (fun hS => rput_any _ pq1 (m.client) 1 (by omega) _ (pR1.out.keep hS) (by rw [pL1.out, HN0.out]; omega)) rfl ?_)
    rintro hS e pz2 ⟨pv2, rfl, pr2, pb2⟩
    have py2 := nest hS pb2
    rw [sz1] at pr2
    obtain ⟨pq2, pe2⟩ : ∃ pq2, pq2 = pq1 ++ be 1 (m.client) := ⟨_, rfl⟩
    rw [← pe2] at pr2
    have pE2 := Lib.hid pe2
    have pL2 : Hid (pq2.length = n0 + 3) := Lib.hid (by rw [pe2, List.length_append, be_len, pL1.out]; try omega)
    obtain ⟨pa2, pc2, rfl, _, _⟩ := pr2.rd.form
    have pR2 := Lib.hid pr2.rd
    have pW2 := Lib.hid (pr2.mono (show w2.heap.size ≤ _ from (nest pY1.out hS).size))
    have pB2 := Lib.hid (nest pB1.out py2)
    have pY2 : Hid (Below w2.heap.size w2 pz2) := Lib.hid (nest pY1.out py2)
    refine ⟨_, rfl, py2, fun _ => ⟨fun z => Below pz2.heap.size pz2 z, fun z h => nest py2 h, Below.refl _ _, ?_⟩⟩
    simp only [Act.put, List.setIfInBounds_toArray, List.set_cons_zero, List.set_cons_succ]
    clear hS pr2 pb2 py2 pe2
    repeat ((first
      | (refine Run.takes (v := ?_) ?_ ?_; rotate_left; (· intro w' hS'; go_simp; (try with_reducible rfl)))
      | (refine Run.takesG (v := ?_) ?_ ?_ ?_; rotate_left; (· simp only [List.getElem?_cons_zero, List.getElem?_cons_succ]); (· intro w' hS'; go_simp; (try with_reducible rfl)))
      | (refine Run.skipsT ?_ ?_; (· simp only [List.getElem?_cons_zero, List.getElem?_cons_succ]))
      | (refine Run.skipsF ?_ ?_; (· simp only [List.getElem?_cons_zero, List.getElem?_cons_succ]))
      | (refine Run.skipsU ?_ ?_; (· simp only [List.getElem?_cons_zero, List.getElem?_cons_succ]))
      | (refine Run.passT ?_ ?_; (· simp only [List.getElem?_cons_zero, List.getElem?_cons_succ]))
      | (refine Run.passF ?_ ?_; (· simp only [List.getElem?_cons_zero, List.getElem?_cons_succ]))
      | (refine Run.passU ?_ ?_; (· simp only [List.getElem?_cons_zero, List.getElem?_cons_succ]))
      | fail); simp only [Act.put, List.setIfInBounds_toArray, List.set_cons_zero, List.set_cons_succ])
    refine Run.ends (fun hS => ?_)
    have QR2 := Lib.hid (pR2.out.keep hS)
    have QY2 := Lib.hid (nest pY2.out hS)
    have HQ2 : Hid (pq2 = be 1 m.kind ++ (be 1 m.hub ++ be 1 m.client)) := Lib.hid (by rw [pE2.out, pE1.out, pE0.out, List.nil_append, List.append_assoc])
    have HL2 : Hid (pq2.length = 3) := Lib.hid (by rw [pL2.out, HN0.out])
    clear hS c0 c1 c3 u0 u1 u3 pR0 pW0 pB0 pY0 pE0 pL0 pR1 pW1 pB1 pY1 pE1 pL1 pR2 pW2 pB2 pY2 pE2 pL2 HN0 HL0 HRN HI
    go_wp2_with fail
    have HB3 := Lib.hid (HB2.out.keep QY2.out)
    have c4 : pz2.cell? ⟨g, 4, none⟩ = some (.int .i64 m.op) := HB3.out.cell 4
    have c2 : pz2.cell? ⟨g, 2, none⟩ = some (.int .u32 m.point) := HB3.out.cell 2
    have HI := Lib.hid (Below.refl pz2.heap.size pz2)
    refine Run.region_walk (S := fun z => z.cell? ⟨g, 4, none⟩ = some (.int .i64 m.op) ∧ z.cell? ⟨g, 2, none⟩ = some (.int .u32 m.point) ∧ Below pz2.heap.size pz2 z)
      rmpack.rows4 rmpack.plan4 (l := ?steps5) (by kernel_rfl) (by kernel_rfl) (by kernel_rfl) (by kernel_rfl) ?written5 ⟨c4, c2, (Below.refl _ _).drew⟩ ?onward5
    case written5 =>
      simp only [rmpack.plan4, Run.stepsOf, Run.stepOf, Run.guardOf, List.getElem?_toArray, List.getElem?_cons_zero, List.getElem?_cons_succ, Option.map_some, Option.map_none, Option.bind_some, Option.toList_some, List.map_cons, List.map_nil, List.cons_append, List.nil_append]
      rfl
    repeat ((first
      | (refine Run.takes (v := ?_) ?_ ?_; rotate_left; (· intro w' hS'; go_simp; (try with_reducible rfl)))
      | (refine Run.takesG (v := ?_) ?_ ?_ ?_; rotate_left; (· simp only [List.getElem?_cons_zero, List.getElem?_cons_succ]); (· intro w' hS'; go_simp; (try with_reducible rfl)))
      | (refine Run.skipsT ?_ ?_; (· simp only [List.getElem?_cons_zero, List.getElem?_cons_succ]))
      | (refine Run.skipsF ?_ ?_; (· simp only [List.getElem?_cons_zero, List.getElem?_cons_succ]))
      | (refine Run.skipsU ?_ ?_; (· simp only [List.getElem?_cons_zero, List.getElem?_cons_succ]))
      | (refine Run.passT ?_ ?_; (· simp only [List.getElem?_cons_zero, List.getElem?_cons_succ]))
      | (refine Run.passF ?_ ?_; (· simp only [List.getElem?_cons_zero, List.getElem?_cons_succ]))
      | (refine Run.passU ?_ ?_; (· simp only [List.getElem?_cons_zero, List.getElem?_cons_succ]))
      | fail); simp only [Act.put, List.setIfInBounds_toArray, List.set_cons_zero, List.set_cons_succ])
    refine Run.runsS (Run.callF 31 (by kernel_rfl) (fun hS => rput_any _ pq2 (m.op) 2 (by omega) _ (QR2.out.keep hS.2.2) (by rw [HL2.out]; omega)) rfl ?_)
    rintro hS e qz0 ⟨qv0, rfl, qr0, qb0⟩
    have qy0 := nest hS.2.2 qb0
    rw [sz2] at qr0
    obtain ⟨qq0, qe0⟩ : ∃ qq0, qq0 = pq2 ++ be 2 (m.op) := ⟨_, rfl⟩
    rw [← qe0] at qr0
    have qE0 := Lib.hid qe0
    have qL0 : Hid (qq0.length = 5) := Lib.hid (by rw [qe0, List.length_append, be_len, HL2.out]; try omega)
    obtain ⟨qa0, qc0, rfl, _, _⟩ := qr0.rd.form
    have qR0 := Lib.hid qr0.rd
    have qW0 := Lib.hid (qr0.mono (show pz2.heap.size ≤ _ from hS.2.2.size))
    have qB0 := Lib.hid (nest HI.out qy0)
    have qY0 : Hid (Below pz2.heap.size pz2 qz0) := Lib.hid (qy0)
    refine ⟨_, rfl, ⟨kc qy0 c4, kc qy0 c2, qy0⟩, fun _ => ⟨fun z => Below qz0.heap.size qz0 z, fun z h => ⟨kc (nest qy0 h) c4, kc (nest qy0 h) c2, nest qy0 h⟩, Below.refl _ _, ?_⟩⟩
    simp only [Act.put, List.setIfInBounds_toArray, List.set_cons_zero, List.set_cons_succ]
    clear hS qr0 qb0 qy0 qe0
    repeat ((first
      | (refine Run.takes (v := ?_) ?_ ?_; rotate_left; (· intro w' hS'; go_simp; (try with_reducible rfl)))
      | (refine Run.takesG (v := ?_) ?_ ?_ ?_; rotate_left; (· simp only [List.getElem?_cons_zero, List.getElem?_cons_succ]); (· intro w' hS'; go_simp; (try with_reducible rfl)))
      | (refine Run.skipsT ?_ ?_; (· simp only [List.getElem?_cons_zero, List.getElem?_cons_succ]))
      | (refine Run.skipsF ?_ ?_; (· simp only [List.getElem?_cons_zero, List.getElem?_cons_succ]))
      | (refine Run.skipsU ?_ ?_; (· simp only [List.getElem?_cons_zero, List.getElem?_cons_succ]))
      | (refine Run.passT ?_ ?_; (· simp only [List.getElem?_cons_zero, List.getElem?_cons_succ]))
      | (refine Run.passF ?_ ?_; (· simp only [List.getElem?_cons_zero, List.getElem?_cons_succ]))
      | (refine Run.passU ?_ ?_; (· simp only [List.getElem?_cons_zero, List.getElem?_cons_succ]))
      | fail); simp only [Act.put, List.setIfInBounds_toArray, List.set_cons_zero, List.set_cons_succ])
    refine Run.runsS (Run.callF 31 (by kernel_rfl) (fun hS => rput_any _ qq0 (m.point) 4 (by omega) _ (qR0.out.keep hS) (by rw [qL0.out]; omega)) rfl ?_)
    rintro hS e qz1 ⟨qv1, rfl, qr1, qb1⟩
    have qy1 := nest hS qb1
    rw [sz4'] at qr1
    obtain ⟨qq1, qe1⟩ : ∃ qq1, qq1 = qq0 ++ be 4 (m.point) := ⟨_, rfl⟩
    rw [← qe1] at qr1
    have qE1 := Lib.hid qe1
    have qL1 : Hid (qq1.length = 9) := Lib.hid (by rw [qe1, List.length_append, be_len, qL0.out]; try omega)
    obtain ⟨qa1, qc1, rfl, _, _⟩ := qr1.rd.form
    have qR1 := Lib.hid qr1.rd
    have qW1 := Lib.hid (qr1.mono (show pz2.heap.size ≤ _ from (nest qY0.out hS).size))
    have qB1 := Lib.hid (nest qB0.out qy1)
    have qY1 : Hid (Below pz2.heap.size pz2 qz1) := Lib.hid (nest qY0.out qy1)
    refine ⟨_, rfl, qy1, fun _ => ⟨fun z => Below qz1.heap.size qz1 z, fun z h => nest qy1 h, Below.refl _ _, ?_⟩⟩
    simp only [Act.put, List.setIfInBounds_toArray, List.set_cons_zero, List.set_cons_succ]
    clear hS qr1 qb1 qy1 qe1
    repeat ((first
      | (refine Run.takes (v := ?_) ?_ ?_; rotate_left; (· intro w' hS'; go_simp; (try with_reducible rfl)))
      | (refine Run.takesG (v := ?_) ?_ ?_ ?_; rotate_left; (· simp only [List.getElem?_cons_zero, List.getElem?_cons_succ]); (· intro w' hS'; go_simp; (try with_reducible rfl)))
      | (refine Run.skipsT ?_ ?_; (· simp only [List.getElem?_cons_zero, List.getElem?_cons_succ]))
      | (refine Run.skipsF ?_ ?_; (· simp only [List.getElem?_cons_zero, List.getElem?_cons_succ]))
      | (refine Run.skipsU ?_ ?_; (· simp only [List.getElem?_cons_zero, List.getElem?_cons_succ]))
      | (refine Run.passT ?_ ?_; (· simp only [List.getElem?_cons_zero, List.getElem?_cons_succ]))
      | (refine Run.passF ?_ ?_; (· simp only [List.getElem?_cons_zero, List.getElem?_cons_succ]))
      | (refine Run.passU ?_ ?_; (· simp only [List.getElem?_cons_zero, List.getElem?_cons_succ]))
      | fail); simp only [Act.put, List.setIfInBounds_toArray, List.set_cons_zero, List.set_cons_succ])
    refine Run.ends (fun hS => ?_)
    have HR3 := Lib.hid (qR1.out.keep hS)
    have HW3 := Lib.hid (qW1.out.keep hS)
    have HY3 := Lib.hid (nest QY2.out (nest qY1.out hS))
    have HQ3 : Hid (qq1 = headM m) := Lib.hid (by rw [qE1.out, qE0.out, HQ2.out]; simp only [headM, List.append_assoc])
    have HL3 := Lib.hid qL1.out
    have HG : Hid (w.heap.size ≤ pz2.heap.size) := Lib.hid (by have := HK2.out.size; have := QY2.out.size; omega)
    clear hS c2 c4 u4 u2 qR0 qW0 qB0 qY0 qE0 qL0 qR1 qW1 qB1 qY1 qE1 qL1 HQ2 HL2 QR2 QY2 HI HB3
    have HB4 := Lib.hid (HB2.out.keep HY3.out)
    have HM4 := Lib.hid (HM2.out.keep HY3.out)
    have HK4 := Lib.hid (nest HK2.out HY3.out)
    clear HB2 HM2 HK2 HY3
    go_upto_if 66 with (first | (refine wpList_load_row rfl 34 (.tmp 3) rfl g rfl 34 (mcs m v b r).toArray (0, 0) _ HB4.out Try.underlying34 rfl msg_info ?_) | (go_at_call 32; refine (rfirst_any m v b r _).mono ?_; rintro e w5 ⟨rfl, hk5⟩))
    have HB5 := Lib.hid (HB4.out.keep hk5)
    have HM5 := Lib.hid (HM4.out.keep hk5)
    have HK5 := Lib.hid (nest HK4.out hk5)
    have HR5 := Lib.hid (HR3.out.keep hk5)
    have HW5 := Lib.hid ((HW3.out.keep hk5).mono HG.out)
    clear hk5 HB4 HM4 HK4 HR3 HW3
    have c0 : w5.cell? ⟨g, 0, none⟩ = some (.int .i64 m.kind) := HB5.out.cell 0
    by_cases hf : 1 ≤ m.kind ∧ m.kind ≤ 4
    · skip
      as_aux_lemma =>
        have hfm : firstM m = true := decide_eq_true hf
        rw [hfm]
        have hvl := (HF.out.vals hf.2).1
        have c13 : w5.cell? ⟨g, 13, none⟩ = some (.bool m.gone) := HB5.out.cell 13
        have HT : Hid (tailM m = if m.kind = 1 then entM m ++ be 1 m.hops else if m.kind = 2 ∨ m.kind = 3 then entM m ++ (be 4 m.owner ++ be 4 m.turn) else entM m) := Lib.hid (by
          unfold tailM
          by_cases h1 : m.kind = 1
          · rw [if_pos h1, if_pos h1]
          · rw [if_neg h1, if_neg h1]
            by_cases h2 : m.kind = 2 ∨ m.kind = 3
            · rw [if_pos h2, if_pos h2]
            · rw [if_neg h2, if_neg h2, if_pos (by omega)])
        clear hfm
        have HI := Lib.hid (Below.refl w5.heap.size w5)
        cases hgn : m.gone with
        | false =>
          rw [hgn] at c13
          have HE : Hid (entM m = be 1 0 ++ recP (m.eid, m.ever, m.vals)) := Lib.hid (by unfold entM; rw [hgn]; rfl)
          clear hgn
          go_wp2_with fail
          refine Run.region_walk (S := fun z => Below w5.heap.size w5 z)
            rmpack.rows9 rmpack.plan9 (l := ?steps8) (by kernel_rfl) (by kernel_rfl) (by kernel_rfl) (by kernel_rfl) ?written8 (Below.refl _ _).drew ?onward8
          case written8 =>
            simp only [rmpack.plan9, Run.stepsOf, Run.stepOf, Run.guardOf, List.getElem?_toArray, List.getElem?_cons_zero, List.getElem?_cons_succ, Option.map_some, Option.map_none, Option.bind_some, Option.toList_some, List.map_cons, List.map_nil, List.cons_append, List.nil_append]
            rfl
          repeat ((first
            | (refine Run.takes (v := ?_) ?_ ?_; rotate_left; (· intro w' hS'; (first | (refine exec_load_sub (n := 3) (off := 10) (x := .tmp 76) (l := [.int .u64 m.eid, .int .u64 m.ever, v]) (m := mcs m v b r) ?_ Try.underlying26 rec_info ?_ ?_ (HB5.out.keep hS') ?_ <;> rfl) | (go_simp; (try with_reducible rfl)))))
            | (refine Run.takesG (v := ?_) ?_ ?_ ?_; rotate_left; (· simp only [List.getElem?_cons_zero, List.getElem?_cons_succ]); (· intro w' hS'; (first | (refine exec_load_sub (n := 3) (off := 10) (x := .tmp 76) (l := [.int .u64 m.eid, .int .u64 m.ever, v]) (m := mcs m v b r) ?_ Try.underlying26 rec_info ?_ ?_ (HB5.out.keep hS') ?_ <;> rfl) | (go_simp; (try with_reducible rfl)))))
            | (refine Run.skipsT ?_ ?_; (· simp only [List.getElem?_cons_zero, List.getElem?_cons_succ]))
            | (refine Run.skipsF ?_ ?_; (· simp only [List.getElem?_cons_zero, List.getElem?_cons_succ]))
            | (refine Run.skipsU ?_ ?_; (· simp only [List.getElem?_cons_zero, List.getElem?_cons_succ]))
            | (refine Run.passT ?_ ?_; (· simp only [List.getElem?_cons_zero, List.getElem?_cons_succ]))
            | (refine Run.passF ?_ ?_; (· simp only [List.getElem?_cons_zero, List.getElem?_cons_succ]))
            | (refine Run.passU ?_ ?_; (· simp only [List.getElem?_cons_zero, List.getElem?_cons_succ]))
            | fail); simp only [Act.put, List.setIfInBounds_toArray, List.set_cons_zero, List.set_cons_succ])
          refine Run.runsS (Run.callF 31 (by kernel_rfl) (fun hS => rput_any _ qq1 (0) 1 (by omega) _ (HR5.out.keep hS) (by rw [HL3.out]; omega)) rfl ?_)
          rintro hS e tz0 ⟨tv0, rfl, tr0, tb0⟩
          have ty0 := nest hS tb0
          rw [sz1] at tr0
          obtain ⟨tq0, te0⟩ : ∃ tq0, tq0 = qq1 ++ be 1 (0) := ⟨_, rfl⟩
          rw [← te0] at tr0
          have tE0 := Lib.hid te0
          have tL0 : Hid (tq0.length = 10) := Lib.hid (by rw [te0, List.length_append, be_len, HL3.out]; try omega)
          obtain ⟨ta0, tc0, rfl, _, _⟩ := tr0.rd.form
          have tR0 := Lib.hid tr0.rd
          have tW0 := Lib.hid (tr0.mono (show w5.heap.size ≤ _ from hS.size))
          have tB0 := Lib.hid (nest HI.out ty0)
          have tY0 : Hid (Below w5.heap.size w5 tz0) := Lib.hid (ty0)
          refine ⟨_, rfl, ty0, fun _ => ⟨fun z => Below tz0.heap.size tz0 z, fun z h => nest ty0 h, Below.refl _ _, ?_⟩⟩
          simp only [Act.put, List.setIfInBounds_toArray, List.set_cons_zero, List.set_cons_succ]
          clear hS tr0 tb0 ty0 te0
          repeat ((first
            | (refine Run.takes (v := ?_) ?_ ?_; rotate_left; (· intro w' hS'; go_simp; (try with_reducible rfl)))
            | (refine Run.takesG (v := ?_) ?_ ?_ ?_; rotate_left; (· simp only [List.getElem?_cons_zero, List.getElem?_cons_succ]); (· intro w' hS'; go_simp; (try with_reducible rfl)))
            | (refine Run.skipsT ?_ ?_; (· simp only [List.getElem?_cons_zero, List.getElem?_cons_succ]))
            | (refine Run.skipsF ?_ ?_; (· simp only [List.getElem?_cons_zero, List.getElem?_cons_succ]))
            | (refine Run.skipsU ?_ ?_; (· simp only [List.getElem?_cons_zero, List.getElem?_cons_succ]))
            | (refine Run.passT ?_ ?_; (· simp only [List.getElem?_cons_zero, List.getElem?_cons_succ]))
            | (refine Run.passF ?_ ?_; (· simp only [List.getElem?_cons_zero, List.getElem?_cons_succ]))
            | (refine Run.passU ?_ ?_; (· simp only [List.getElem?_cons_zero, List.getElem?_cons_succ]))
            | fail); simp only [Act.put, List.setIfInBounds_toArray, List.set_cons_zero, List.set_cons_succ])
          refine Run.runsS (Run.callF 33 (by kernel_rfl) (fun hS => rrec_any _ tq0 (m.eid) (m.ever) v (m.vals) _ (tR0.out.keep hS) (HM5.out.vals.keep (nest tY0.out hS)) HBD.out.eid HBD.out.ever HBD.out.vals (by rw [tL0.out]; omega) (by omega)) rfl ?_)
          rintro hS e tz1 ⟨tv1, rfl, tr1, tb1⟩
          have ty1 := nest hS tb1
          obtain ⟨tq1, te1⟩ : ∃ tq1, tq1 = tq0 ++ recP (m.eid, m.ever, m.vals) := ⟨_, rfl⟩
          rw [← te1] at tr1
          have tE1 := Lib.hid te1
          have tL1 : Hid (tq1.length = 26 + 4 * m.vals.length) := Lib.hid (by rw [te1, List.length_append, recP_len, tL0.out]; (try simp only []); (try omega))
          obtain ⟨ta1, tc1, rfl, _, _⟩ := tr1.rd.form
          have tR1 := Lib.hid tr1.rd
          have tW1 := Lib.hid (tr1.mono (show w5.heap.size ≤ _ from (nest tY0.out hS).size))
          have tB1 := Lib.hid (nest tB0.out ty1)
          have tY1 : Hid (Below w5.heap.size w5 tz1) := Lib.hid (nest tY0.out ty1)
          refine ⟨_, rfl, ty1, fun _ => ⟨fun z => Below tz1.heap.size tz1 z, fun z h => nest ty1 h, Below.refl _ _, ?_⟩⟩
          simp only [Act.put, List.setIfInBounds_toArray, List.set_cons_zero, List.set_cons_succ]
          clear hS tr1 tb1 ty1 te1
          repeat ((first
            | (refine Run.takes (v := ?_) ?_ ?_; rotate_left; (· intro w' hS'; go_simp; (try with_reducible rfl)))
            | (refine Run.takesG (v := ?_) ?_ ?_ ?_; rotate_left; (· simp only [List.getElem?_cons_zero, List.getElem?_cons_succ]); (· intro w' hS'; go_simp; (try with_reducible rfl)))
            | (refine Run.skipsT ?_ ?_; (· simp only [List.getElem?_cons_zero, List.getElem?_cons_succ]))
            | (refine Run.skipsF ?_ ?_; (· simp only [List.getElem?_cons_zero, List.getElem?_cons_succ]))
            | (refine Run.skipsU ?_ ?_; (· simp only [List.getElem?_cons_zero, List.getElem?_cons_succ]))
            | (refine Run.passT ?_ ?_; (· simp only [List.getElem?_cons_zero, List.getElem?_cons_succ]))
            | (refine Run.passF ?_ ?_; (· simp only [List.getElem?_cons_zero, List.getElem?_cons_succ]))
            | (refine Run.passU ?_ ?_; (· simp only [List.getElem?_cons_zero, List.getElem?_cons_succ]))
            | fail); simp only [Act.put, List.setIfInBounds_toArray, List.set_cons_zero, List.set_cons_succ])
          refine Run.ends (fun hS => ?_)
          have HR6 := Lib.hid (tR1.out.keep hS)
          have HW6 := Lib.hid ((tW1.out.keep hS).mono HK5.out.size)
          have HY6 := Lib.hid (nest tY1.out hS)
          have HQ6 : Hid (tq1 = headM m ++ entM m) := Lib.hid (by rw [tE1.out, tE0.out, HE.out, HQ3.out, List.append_assoc])
          have HL6 := Lib.hid tL1.out
          clear hS tR0 tW0 tB0 tY0 tE0 tL0 tR1 tW1 tB1 tY1 tE1 tL1 c13 c0
          have HB6 := Lib.hid (HB5.out.keep HY6.out)
          have HK6 := Lib.hid (nest HK5.out HY6.out)
          have c0 : tz1.cell? ⟨g, 0, none⟩ = some (.int .i64 m.kind) := HB6.out.cell 0
          have hk1234 : m.kind = 1 ∨ m.kind = 4 ∨ m.kind = 2 ∨ m.kind = 3 := by omega
          rcases hk1234 with hq | hq | hq
          · have HP : Hid (packM m = tq1 ++ be 1 m.hops) := Lib.hid (by unfold packM; rw [HT.out, if_pos hq, HQ6.out, List.append_assoc])
            have uh : IntKind.u64.wrap m.hops = m.hops := IntWalk.u64_in _ (by omega)
            have c6 : tz1.cell? ⟨g, 6, none⟩ = some (.int .i64 m.hops) := HB6.out.cell 6
            rw [hq] at c0
            clear hq
            go_wp2_with fail
            refine (rput_any _ tq1 m.hops 1 (by omega) _ HR6.out (by rw [HL6.out]; omega)).mono ?_
            rintro e z7 ⟨v7, rfl, hr7, hb7⟩
            rw [sz1, ← HP.out] at hr7
            obtain ⟨pm, hpm⟩ : ∃ pm, pm = packM m := ⟨_, rfl⟩
            rw [← hpm] at hr7
            have HPM := Lib.hid hpm
            have HW7 := Lib.hid (hr7.mono HK6.out.size)
            have HK7 := Lib.hid (nest HK6.out hb7)
            obtain ⟨a7, c7, rfl, _, _⟩ := hr7.rd.form
            clear hr7 hb7 HP hpm
            go_wp2_with fail
            go_ret2
            exact .inr ⟨HR.out, _, rfl, by rw [← HPM.out]; exact HW7.out, HK7.out⟩
          · have HP : Hid (packM m = tq1) := Lib.hid (by unfold packM; rw [HT.out, if_neg (by omega), if_neg (by omega), HQ6.out])
            rw [hq] at c0
            clear hq
            go_wp2_with fail
            go_ret2
            exact .inr ⟨HR.out, _, rfl, by rw [HP.out]; exact HW6.out, HK6.out⟩
          · have HP : Hid (packM m = tq1 ++ (be 4 m.owner ++ be 4 m.turn)) := Lib.hid (by unfold packM; rw [HT.out, if_neg (by omega), if_pos hq, HQ6.out, List.append_assoc])
            have uo : IntKind.u64.wrap m.owner = m.owner := IntWalk.u64_in _ (by omega)
            have ut : IntKind.u64.wrap m.turn = m.turn := IntWalk.u64_in _ (by omega)
            have c7 : tz1.cell? ⟨g, 7, none⟩ = some (.int .u32 m.owner) := HB6.out.cell 7
            have c8 : tz1.cell? ⟨g, 8, none⟩ = some (.int .i64 m.turn) := HB6.out.cell 8
            have HI := Lib.hid (Below.refl tz1.heap.size tz1)
            rcases hq with hq | hq
            all_goals
              rw [hq] at c0
              clear hq
              go_wp2_with fail
              refine Run.region_walk (S := fun z => z.cell? ⟨g, 7, none⟩ = some (.int .u32 m.owner) ∧ z.cell? ⟨g, 8, none⟩ = some (.int .i64 m.turn) ∧ Below tz1.heap.size tz1 z)
                rmpack.rows11 rmpack.plan11 (l := ?_) (by kernel_rfl) (by kernel_rfl) (by kernel_rfl) (by kernel_rfl) ?_ ⟨c7, c8, (Below.refl _ _).drew⟩ ?_
              rotate_left
              (· simp only [rmpack.plan11, Run.stepsOf, Run.stepOf, Run.guardOf, List.getElem?_toArray, List.getElem?_cons_zero, List.getElem?_cons_succ, Option.map_some, Option.map_none, Option.bind_some, Option.toList_some, List.map_cons, List.map_nil, List.cons_append, List.nil_append]
                 rfl)
              repeat ((first
                | (refine Run.takes (v := ?_) ?_ ?_; rotate_left; (· intro w' hS'; go_simp; (try with_reducible rfl)))
                | (refine Run.takesG (v := ?_) ?_ ?_ ?_; rotate_left; (· simp only [List.getElem?_cons_zero, List.getElem?_cons_succ]); (· intro w' hS'; go_simp; (try with_reducible rfl)))
                | (refine Run.skipsT ?_ ?_; (· simp only [List.getElem?_cons_zero, List.getElem?_cons_succ]))
                | (refine Run.skipsF ?_ ?_; (· simp only [List.getElem?_cons_zero, List.getElem?_cons_succ]))
                | (refine Run.skipsU ?_ ?_; (· simp only [List.getElem?_cons_zero, List.getElem?_cons_succ]))
                | (refine Run.passT ?_ ?_; (· simp only [List.getElem?_cons_zero, List.getElem?_cons_succ]))
                | (refine Run.passF ?_ ?_; (· simp only [List.getElem?_cons_zero, List.getElem?_cons_succ]))
                | (refine Run.passU ?_ ?_; (· simp only [List.getElem?_cons_zero, List.getElem?_cons_succ]))
                | fail); simp only [Act.put, List.setIfInBounds_toArray, List.set_cons_zero, List.set_cons_succ])
              refine Run.runsS (Run.callF 31 (by kernel_rfl) (fun hS => rput_any _ tq1 (m.owner) 4 (by omega) _ (HR6.out.keep hS.2.2) (by rw [HL6.out]; omega)) rfl ?_)
              rintro hS e xz0 ⟨xv0, rfl, xr0, xb0⟩
              have xy0 := nest hS.2.2 xb0
              rw [sz4'] at xr0
              obtain ⟨xq0, xe0⟩ : ∃ xq0, xq0 = tq1 ++ be 4 (m.owner) := ⟨_, rfl⟩
              rw [← xe0] at xr0
              have xE0 := Lib.hid xe0
              have xL0 : Hid (xq0.length = 30 + 4 * m.vals.length) := Lib.hid (by rw [xe0, List.length_append, be_len, HL6.out]; try omega)
              obtain ⟨xa0, xc0, rfl, _, _⟩ := xr0.rd.form
              have xR0 := Lib.hid xr0.rd
              have xW0 := Lib.hid (xr0.mono (show tz1.heap.size ≤ _ from hS.2.2.size))
              have xB0 := Lib.hid (nest HI.out xy0)
              have xY0 : Hid (Below tz1.heap.size tz1 xz0) := Lib.hid (xy0)
              refine ⟨_, rfl, ⟨kc xy0 c7, kc xy0 c8, xy0⟩, fun _ => ⟨fun z => Below xz0.heap.size xz0 z, fun z h => ⟨kc (nest xy0 h) c7, kc (nest xy0 h) c8, nest xy0 h⟩, Below.refl _ _, ?_⟩⟩
              simp only [Act.put, List.setIfInBounds_toArray, List.set_cons_zero, List.set_cons_succ]
              clear hS xr0 xb0 xy0 xe0
              repeat ((first
                | (refine Run.takes (v := ?_) ?_ ?_; rotate_left; (· intro w' hS'; go_simp; (try with_reducible rfl)))
                | (refine Run.takesG (v := ?_) ?_ ?_ ?_; rotate_left; (· simp only [List.getElem?_cons_zero, List.getElem?_cons_succ]); (· intro w' hS'; go_simp; (try with_reducible rfl)))
                | (refine Run.skipsT ?_ ?_; (· simp only [List.getElem?_cons_zero, List.getElem?_cons_succ]))
                | (refine Run.skipsF ?_ ?_; (· simp only [List.getElem?_cons_zero, List.getElem?_cons_succ]))
                | (refine Run.skipsU ?_ ?_; (· simp only [List.getElem?_cons_zero, List.getElem?_cons_succ]))
                | (refine Run.passT ?_ ?_; (· simp only [List.getElem?_cons_zero, List.getElem?_cons_succ]))
                | (refine Run.passF ?_ ?_; (· simp only [List.getElem?_cons_zero, List.getElem?_cons_succ]))
                | (refine Run.passU ?_ ?_; (· simp only [List.getElem?_cons_zero, List.getElem?_cons_succ]))
                | fail); simp only [Act.put, List.setIfInBounds_toArray, List.set_cons_zero, List.set_cons_succ])
              refine Run.runsS (Run.callF 31 (by kernel_rfl) (fun hS => rput_any _ xq0 (m.turn) 4 (by omega) _ (xR0.out.keep hS) (by rw [xL0.out]; omega)) rfl ?_)
              rintro hS e xz1 ⟨xv1, rfl, xr1, xb1⟩
              have xy1 := nest hS xb1
              rw [sz4'] at xr1
              obtain ⟨xq1, xe1⟩ : ∃ xq1, xq1 = xq0 ++ be 4 (m.turn) := ⟨_, rfl⟩
              rw [← xe1] at xr1
              have xE1 := Lib.hid xe1
              have xL1 : Hid (xq1.length = 34 + 4 * m.vals.length) := Lib.hid (by rw [xe1, List.length_append, be_len, xL0.out]; try omega)
              obtain ⟨xa1, xc1, rfl, _, _⟩ := xr1.rd.form
              have xR1 := Lib.hid xr1.rd
              have xW1 := Lib.hid (xr1.mono (show tz1.heap.size ≤ _ from (nest xY0.out hS).size))
              have xB1 := Lib.hid (nest xB0.out xy1)
              have xY1 : Hid (Below tz1.heap.size tz1 xz1) := Lib.hid (nest xY0.out xy1)
              refine ⟨_, rfl, xy1, fun _ => ⟨fun z => Below xz1.heap.size xz1 z, fun z h => nest xy1 h, Below.refl _ _, ?_⟩⟩
              simp only [Act.put, List.setIfInBounds_toArray, List.set_cons_zero, List.set_cons_succ]
              clear hS xr1 xb1 xy1 xe1
              repeat ((first
                | (refine Run.takes (v := ?_) ?_ ?_; rotate_left; (· intro w' hS'; go_simp; (try with_reducible rfl)))
                | (refine Run.takesG (v := ?_) ?_ ?_ ?_; rotate_left; (· simp only [List.getElem?_cons_zero, List.getElem?_cons_succ]); (· intro w' hS'; go_simp; (try with_reducible rfl)))
                | (refine Run.skipsT ?_ ?_; (· simp only [List.getElem?_cons_zero, List.getElem?_cons_succ]))
                | (refine Run.skipsF ?_ ?_; (· simp only [List.getElem?_cons_zero, List.getElem?_cons_succ]))
                | (refine Run.skipsU ?_ ?_; (· simp only [List.getElem?_cons_zero, List.getElem?_cons_succ]))
                | (refine Run.passT ?_ ?_; (· simp only [List.getElem?_cons_zero, List.getElem?_cons_succ]))
                | (refine Run.passF ?_ ?_; (· simp only [List.getElem?_cons_zero, List.getElem?_cons_succ]))
                | (refine Run.passU ?_ ?_; (· simp only [List.getElem?_cons_zero, List.getElem?_cons_succ]))
                | fail); simp only [Act.put, List.setIfInBounds_toArray, List.set_cons_zero, List.set_cons_succ])
              refine Run.ends (fun hS => ?_)
              have HW8 := Lib.hid ((xW1.out.keep hS).mono HK6.out.size)
              have HK8 := Lib.hid (nest (nest HK6.out xY1.out) hS)
              have d0 := kc (nest xY1.out hS) c0
              have HQ8 : Hid (packM m = xq1) := Lib.hid (by rw [HP.out, xE1.out, xE0.out, List.append_assoc])
              clear hS xR0 xW0 xB0 xY0 xE0 xL0 xR1 xW1 xB1 xY1 xE1 xL1 c7 c8
              go_wp2_with fail
              go_ret2
              exact .inr ⟨HR.out, _, rfl, by rw [HQ8.out]; exact HW8.out, HK8.out⟩
        | true =>
          rw [hgn] at c13
          have HE : Hid (entM m = be 1 1 ++ recP (m.eid, m.ever, m.vals)) := Lib.hid (by unfold entM; rw [hgn]; rfl)
          clear hgn
          go_wp2_with fail
          refine Run.region_walk (S := fun z => Below w5.heap.size w5 z)
            rmpack.rows9 rmpack.plan9 (l := ?steps14) (by kernel_rfl) (by kernel_rfl) (by kernel_rfl) (by kernel_rfl) ?written14 (Below.refl _ _).drew ?onward14
          case written14 =>
            simp only [rmpack.plan9, Run.stepsOf, Run.stepOf, Run.guardOf, List.getElem?_toArray, List.getElem?_cons_zero, List.getElem?_cons_succ, Option.map_some, Option.map_none, Option.bind_some, Option.toList_some, List.map_cons, List.map_nil, List.cons_append, List.nil_append]
            rfl
          repeat ((first
            | (refine Run.takes (v := ?_) ?_ ?_; rotate_left; (· intro w' hS'; (first | (refine exec_load_sub (n := 3) (off := 10) (x := .tmp 76) (l := [.int .u64 m.eid, .int .u64 m.ever, v]) (m := mcs m v b r) ?_ Try.underlying26 rec_info ?_ ?_ (HB5.out.keep hS') ?_ <;> rfl) | (go_simp; (try with_reducible rfl)))))
            | (refine Run.takesG (v := ?_) ?_ ?_ ?_; rotate_left; (· simp only [List.getElem?_cons_zero, List.getElem?_cons_succ]); (· intro w' hS'; (first | (refine exec_load_sub (n := 3) (off := 10) (x := .tmp 76) (l := [.int .u64 m.eid, .int .u64 m.ever, v]) (m := mcs m v b r) ?_ Try.underlying26 rec_info ?_ ?_ (HB5.out.keep hS') ?_ <;> rfl) | (go_simp; (try with_reducible rfl)))))
            | (refine Run.skipsT ?_ ?_; (· simp only [List.getElem?_cons_zero, List.getElem?_cons_succ]))
            | (refine Run.skipsF ?_ ?_; (· simp only [List.getElem?_cons_zero, List.getElem?_cons_succ]))
            | (refine Run.skipsU ?_ ?_; (· simp only [List.getElem?_cons_zero, List.getElem?_cons_succ]))
            | (refine Run.passT ?_ ?_; (· simp only [List.getElem?_cons_zero, List.getElem?_cons_succ]))
            | (refine Run.passF ?_ ?_; (· simp only [List.getElem?_cons_zero, List.getElem?_cons_succ]))
            | (refine Run.passU ?_ ?_; (· simp only [List.getElem?_cons_zero, List.getElem?_cons_succ]))
            | fail); simp only [Act.put, List.setIfInBounds_toArray, List.set_cons_zero, List.set_cons_succ])
          refine Run.runsS (Run.callF 31 (by kernel_rfl) (fun hS => rput_any _ qq1 (1) 1 (by omega) _ (HR5.out.keep hS) (by rw [HL3.out]; omega)) rfl ?_)
          rintro hS e tz0 ⟨tv0, rfl, tr0, tb0⟩
          have ty0 := nest hS tb0
          rw [sz1] at tr0
          obtain ⟨tq0, te0⟩ : ∃ tq0, tq0 = qq1 ++ be 1 (1) := ⟨_, rfl⟩
          rw [← te0] at tr0
          have tE0 := Lib.hid te0
          have tL0 : Hid (tq0.length = 10) := Lib.hid (by rw [te0, List.length_append, be_len, HL3.out]; try omega)
          obtain ⟨ta0, tc0, rfl, _, _⟩ := tr0.rd.form
          have tR0 := Lib.hid tr0.rd
          have tW0 := Lib.hid (tr0.mono (show w5.heap.size ≤ _ from hS.size))
          have tB0 := Lib.hid (nest HI.out ty0)
          have tY0 : Hid (Below w5.heap.size w5 tz0) := Lib.hid (ty0)
          refine ⟨_, rfl, ty0, fun _ => ⟨fun z => Below tz0.heap.size tz0 z, fun z h => nest ty0 h, Below.refl _ _, ?_⟩⟩
          simp only [Act.put, List.setIfInBounds_toArray, List.set_cons_zero, List.set_cons_succ]
          clear hS tr0 tb0 ty0 te0
          repeat ((first
            | (refine Run.takes (v := ?_) ?_ ?_; rotate_left; (· intro w' hS'; go_simp; (try with_reducible rfl)))
            | (refine Run.takesG (v := ?_) ?_ ?_ ?_; rotate_left; (· simp only [List.getElem?_cons_zero, List.getElem?_cons_succ]); (· intro w' hS'; go_simp; (try with_reducible rfl)))
            | (refine Run.skipsT ?_ ?_; (· simp only [List.getElem?_cons_zero, List.getElem?_cons_succ]))
            | (refine Run.skipsF ?_ ?_; (· simp only [List.getElem?_cons_zero, List.getElem?_cons_succ]))
            | (refine Run.skipsU ?_ ?_; (· simp only [List.getElem?_cons_zero, List.getElem?_cons_succ]))
            | (refine Run.passT ?_ ?_; (· simp only [List.getElem?_cons_zero, List.getElem?_cons_succ]))
            | (refine Run.passF ?_ ?_; (· simp only [List.getElem?_cons_zero, List.getElem?_cons_succ]))
            | (refine Run.passU ?_ ?_; (· simp only [List.getElem?_cons_zero, List.getElem?_cons_succ]))
            | fail); simp only [Act.put, List.setIfInBounds_toArray, List.set_cons_zero, List.set_cons_succ])
          refine Run.runsS (Run.callF 33 (by kernel_rfl) (fun hS => rrec_any _ tq0 (m.eid) (m.ever) v (m.vals) _ (tR0.out.keep hS) (HM5.out.vals.keep (nest tY0.out hS)) HBD.out.eid HBD.out.ever HBD.out.vals (by rw [tL0.out]; omega) (by omega)) rfl ?_)
          rintro hS e tz1 ⟨tv1, rfl, tr1, tb1⟩
          have ty1 := nest hS tb1
          obtain ⟨tq1, te1⟩ : ∃ tq1, tq1 = tq0 ++ recP (m.eid, m.ever, m.vals) := ⟨_, rfl⟩
          rw [← te1] at tr1
          have tE1 := Lib.hid te1
          have tL1 : Hid (tq1.length = 26 + 4 * m.vals.length) := Lib.hid (by rw [te1, List.length_append, recP_len, tL0.out]; (try simp only []); (try omega))
          obtain ⟨ta1, tc1, rfl, _, _⟩ := tr1.rd.form
          have tR1 := Lib.hid tr1.rd
          have tW1 := Lib.hid (tr1.mono (show w5.heap.size ≤ _ from (nest tY0.out hS).size))
          have tB1 := Lib.hid (nest tB0.out ty1)
          have tY1 : Hid (Below w5.heap.size w5 tz1) := Lib.hid (nest tY0.out ty1)
          refine ⟨_, rfl, ty1, fun _ => ⟨fun z => Below tz1.heap.size tz1 z, fun z h => nest ty1 h, Below.refl _ _, ?_⟩⟩
          simp only [Act.put, List.setIfInBounds_toArray, List.set_cons_zero, List.set_cons_succ]
          clear hS tr1 tb1 ty1 te1
          repeat ((first
            | (refine Run.takes (v := ?_) ?_ ?_; rotate_left; (· intro w' hS'; go_simp; (try with_reducible rfl)))
            | (refine Run.takesG (v := ?_) ?_ ?_ ?_; rotate_left; (· simp only [List.getElem?_cons_zero, List.getElem?_cons_succ]); (· intro w' hS'; go_simp; (try with_reducible rfl)))
            | (refine Run.skipsT ?_ ?_; (· simp only [List.getElem?_cons_zero, List.getElem?_cons_succ]))
            | (refine Run.skipsF ?_ ?_; (· simp only [List.getElem?_cons_zero, List.getElem?_cons_succ]))
            | (refine Run.skipsU ?_ ?_; (· simp only [List.getElem?_cons_zero, List.getElem?_cons_succ]))
            | (refine Run.passT ?_ ?_; (· simp only [List.getElem?_cons_zero, List.getElem?_cons_succ]))
            | (refine Run.passF ?_ ?_; (· simp only [List.getElem?_cons_zero, List.getElem?_cons_succ]))
            | (refine Run.passU ?_ ?_; (· simp only [List.getElem?_cons_zero, List.getElem?_cons_succ]))
            | fail); simp only [Act.put, List.setIfInBounds_toArray, List.set_cons_zero, List.set_cons_succ])
          refine Run.ends (fun hS => ?_)
          have HR6 := Lib.hid (tR1.out.keep hS)
          have HW6 := Lib.hid ((tW1.out.keep hS).mono HK5.out.size)
          have HY6 := Lib.hid (nest tY1.out hS)
          have HQ6 : Hid (tq1 = headM m ++ entM m) := Lib.hid (by rw [tE1.out, tE0.out, HE.out, HQ3.out, List.append_assoc])
          have HL6 := Lib.hid tL1.out
          clear hS tR0 tW0 tB0 tY0 tE0 tL0 tR1 tW1 tB1 tY1 tE1 tL1 c13 c0
          have HB6 := Lib.hid (HB5.out.keep HY6.out)
          have HK6 := Lib.hid (nest HK5.out HY6.out)
          have c0 : tz1.cell? ⟨g, 0, none⟩ = some (.int .i64 m.kind) := HB6.out.cell 0
          have hk1234 : m.kind = 1 ∨ m.kind = 4 ∨ m.kind = 2 ∨ m.kind = 3 := by omega
          rcases hk1234 with hq | hq | hq
          · have HP : Hid (packM m = tq1 ++ be 1 m.hops) := Lib.hid (by unfold packM; rw [HT.out, if_pos hq, HQ6.out, List.append_assoc])
            have uh : IntKind.u64.wrap m.hops = m.hops := IntWalk.u64_in _ (by omega)
            have c6 : tz1.cell? ⟨g, 6, none⟩ = some (.int .i64 m.hops) := HB6.out.cell 6
            rw [hq] at c0
            clear hq
            go_wp2_with fail
            refine (rput_any _ tq1 m.hops 1 (by omega) _ HR6.out (by rw [HL6.out]; omega)).mono ?_
            rintro e z7 ⟨v7, rfl, hr7, hb7⟩
            rw [sz1, ← HP.out] at hr7
            obtain ⟨pm, hpm⟩ : ∃ pm, pm = packM m := ⟨_, rfl⟩
            rw [← hpm] at hr7
            have HPM := Lib.hid hpm
            have HW7 := Lib.hid (hr7.mono HK6.out.size)
            have HK7 := Lib.hid (nest HK6.out hb7)
            obtain ⟨a7, c7, rfl, _, _⟩ := hr7.rd.form
            clear hr7 hb7 HP hpm
            go_wp2_with fail
            go_ret2
            exact .inr ⟨HR.out, _, rfl, by rw [← HPM.out]; exact HW7.out, HK7.out⟩
          · have HP : Hid (packM m = tq1) := Lib.hid (by unfold packM; rw [HT.out, if_neg (by omega), if_neg (by omega), HQ6.out])
            rw [hq] at c0
            clear hq
            go_wp2_with fail
            go_ret2
            exact .inr ⟨HR.out, _, rfl, by rw [HP.out]; exact HW6.out, HK6.out⟩
          · have HP : Hid (packM m = tq1 ++ (be 4 m.owner ++ be 4 m.turn)) := Lib.hid (by unfold packM; rw [HT.out, if_neg (by omega), if_pos hq, HQ6.out, List.append_assoc])
            have uo : IntKind.u64.wrap m.owner = m.owner := IntWalk.u64_in _ (by omega)
            have ut : IntKind.u64.wrap m.turn = m.turn := IntWalk.u64_in _ (by omega)
            have c7 : tz1.cell? ⟨g, 7, none⟩ = some (.int .u32 m.owner) := HB6.out.cell 7
            have c8 : tz1.cell? ⟨g, 8, none⟩ = some (.int .i64 m.turn) := HB6.out.cell 8
            have HI := Lib.hid (Below.refl tz1.heap.size tz1)
            rcases hq with hq | hq
            all_goals
              rw [hq] at c0
              clear hq
              go_wp2_with fail
              refine Run.region_walk (S := fun z => z.cell? ⟨g, 7, none⟩ = some (.int .u32 m.owner) ∧ z.cell? ⟨g, 8, none⟩ = some (.int .i64 m.turn) ∧ Below tz1.heap.size tz1 z)
                rmpack.rows11 rmpack.plan11 (l := ?_) (by kernel_rfl) (by kernel_rfl) (by kernel_rfl) (by kernel_rfl) ?_ ⟨c7, c8, (Below.refl _ _).drew⟩ ?_
              rotate_left
              (· simp only [rmpack.plan11, Run.stepsOf, Run.stepOf, Run.guardOf, List.getElem?_toArray, List.getElem?_cons_zero, List.getElem?_cons_succ, Option.map_some, Option.map_none, Option.bind_some, Option.toList_some, List.map_cons, List.map_nil, List.cons_append, List.nil_append]
                 rfl)
              repeat ((first
                | (refine Run.takes (v := ?_) ?_ ?_; rotate_left; (· intro w' hS'; go_simp; (try with_reducible rfl)))
                | (refine Run.takesG (v := ?_) ?_ ?_ ?_; rotate_left; (· simp only [List.getElem?_cons_zero, List.getElem?_cons_succ]); (· intro w' hS'; go_simp; (try with_reducible rfl)))
                | (refine Run.skipsT ?_ ?_; (· simp only [List.getElem?_cons_zero, List.getElem?_cons_succ]))
                | (refine Run.skipsF ?_ ?_; (· simp only [List.getElem?_cons_zero, List.getElem?_cons_succ]))
                | (refine Run.skipsU ?_ ?_; (· simp only [List.getElem?_cons_zero, List.getElem?_cons_succ]))
                | (refine Run.passT ?_ ?_; (· simp only [List.getElem?_cons_zero, List.getElem?_cons_succ]))
                | (refine Run.passF ?_ ?_; (· simp only [List.getElem?_cons_zero, List.getElem?_cons_succ]))
                | (refine Run.passU ?_ ?_; (· simp only [List.getElem?_cons_zero, List.getElem?_cons_succ]))
                | fail); simp only [Act.put, List.setIfInBounds_toArray, List.set_cons_zero, List.set_cons_succ])
              refine Run.runsS (Run.callF 31 (by kernel_rfl) (fun hS => rput_any _ tq1 (m.owner) 4 (by omega) _ (HR6.out.keep hS.2.2) (by rw [HL6.out]; omega)) rfl ?_)
              rintro hS e xz0 ⟨xv0, rfl, xr0, xb0⟩
              have xy0 := nest hS.2.2 xb0
              rw [sz4'] at xr0
              obtain ⟨xq0, xe0⟩ : ∃ xq0, xq0 = tq1 ++ be 4 (m.owner) := ⟨_, rfl⟩
              rw [← xe0] at xr0
              have xE0 := Lib.hid xe0
              have xL0 : Hid (xq0.length = 30 + 4 * m.vals.length) := Lib.hid (by rw [xe0, List.length_append, be_len, HL6.out]; try omega)
              obtain ⟨xa0, xc0, rfl, _, _⟩ := xr0.rd.form
              have xR0 := Lib.hid xr0.rd
              have xW0 := Lib.hid (xr0.mono (show tz1.heap.size ≤ _ from hS.2.2.size))
              have xB0 := Lib.hid (nest HI.out xy0)
              have xY0 : Hid (Below tz1.heap.size tz1 xz0) := Lib.hid (xy0)
              refine ⟨_, rfl, ⟨kc xy0 c7, kc xy0 c8, xy0⟩, fun _ => ⟨fun z => Below xz0.heap.size xz0 z, fun z h => ⟨kc (nest xy0 h) c7, kc (nest xy0 h) c8, nest xy0 h⟩, Below.refl _ _, ?_⟩⟩
              simp only [Act.put, List.setIfInBounds_toArray, List.set_cons_zero, List.set_cons_succ]
              clear hS xr0 xb0 xy0 xe0
              repeat ((first
                | (refine Run.takes (v := ?_) ?_ ?_; rotate_left; (· intro w' hS'; go_simp; (try with_reducible rfl)))
                | (refine Run.takesG (v := ?_) ?_ ?_ ?_; rotate_left; (· simp only [List.getElem?_cons_zero, List.getElem?_cons_succ]); (· intro w' hS'; go_simp; (try with_reducible rfl)))
                | (refine Run.skipsT ?_ ?_; (· simp only [List.getElem?_cons_zero, List.getElem?_cons_succ]))
                | (refine Run.skipsF ?_ ?_; (· simp only [List.getElem?_cons_zero, List.getElem?_cons_succ]))
                | (refine Run.skipsU ?_ ?_; (· simp only [List.getElem?_cons_zero, List.getElem?_cons_succ]))
                | (refine Run.passT ?_ ?_; (· simp only [List.getElem?_cons_zero, List.getElem?_cons_succ]))
                | (refine Run.passF ?_ ?_; (· simp only [List.getElem?_cons_zero, List.getElem?_cons_succ]))
                | (refine Run.passU ?_ ?_; (· simp only [List.getElem?_cons_zero, List.getElem?_cons_succ]))
                | fail); simp only [Act.put, List.setIfInBounds_toArray, List.set_cons_zero, List.set_cons_succ])
              refine Run.runsS (Run.callF 31 (by kernel_rfl) (fun hS => rput_any _ xq0 (m.turn) 4 (by omega) _ (xR0.out.keep hS) (by rw [xL0.out]; omega)) rfl ?_)
              rintro hS e xz1 ⟨xv1, rfl, xr1, xb1⟩
              have xy1 := nest hS xb1
              rw [sz4'] at xr1
              obtain ⟨xq1, xe1⟩ : ∃ xq1, xq1 = xq0 ++ be 4 (m.turn) := ⟨_, rfl⟩
              rw [← xe1] at xr1
              have xE1 := Lib.hid xe1
              have xL1 : Hid (xq1.length = 34 + 4 * m.vals.length) := Lib.hid (by rw [xe1, List.length_append, be_len, xL0.out]; try omega)
              obtain ⟨xa1, xc1, rfl, _, _⟩ := xr1.rd.form
              have xR1 := Lib.hid xr1.rd
              have xW1 := Lib.hid (xr1.mono (show tz1.heap.size ≤ _ from (nest xY0.out hS).size))
              have xB1 := Lib.hid (nest xB0.out xy1)
              have xY1 : Hid (Below tz1.heap.size tz1 xz1) := Lib.hid (nest xY0.out xy1)
              refine ⟨_, rfl, xy1, fun _ => ⟨fun z => Below xz1.heap.size xz1 z, fun z h => nest xy1 h, Below.refl _ _, ?_⟩⟩
              simp only [Act.put, List.setIfInBounds_toArray, List.set_cons_zero, List.set_cons_succ]
              clear hS xr1 xb1 xy1 xe1
              repeat ((first
                | (refine Run.takes (v := ?_) ?_ ?_; rotate_left; (· intro w' hS'; go_simp; (try with_reducible rfl)))
                | (refine Run.takesG (v := ?_) ?_ ?_ ?_; rotate_left; (· simp only [List.getElem?_cons_zero, List.getElem?_cons_succ]); (· intro w' hS'; go_simp; (try with_reducible rfl)))
                | (refine Run.skipsT ?_ ?_; (· simp only [List.getElem?_cons_zero, List.getElem?_cons_succ]))
                | (refine Run.skipsF ?_ ?_; (· simp only [List.getElem?_cons_zero, List.getElem?_cons_succ]))
                | (refine Run.skipsU ?_ ?_; (· simp only [List.getElem?_cons_zero, List.getElem?_cons_succ]))
                | (refine Run.passT ?_ ?_; (· simp only [List.getElem?_cons_zero, List.getElem?_cons_succ]))
                | (refine Run.passF ?_ ?_; (· simp only [List.getElem?_cons_zero, List.getElem?_cons_succ]))
                | (refine Run.passU ?_ ?_; (· simp only [List.getElem?_cons_zero, List.getElem?_cons_succ]))
                | fail); simp only [Act.put, List.setIfInBounds_toArray, List.set_cons_zero, List.set_cons_succ])
              refine Run.ends (fun hS => ?_)
              have HW8 := Lib.hid ((xW1.out.keep hS).mono HK6.out.size)
              have HK8 := Lib.hid (nest (nest HK6.out xY1.out) hS)
              have d0 := kc (nest xY1.out hS) c0
              have HQ8 : Hid (packM m = xq1) := Lib.hid (by rw [HP.out, xE1.out, xE0.out, List.append_assoc])
              clear hS xR0 xW0 xB0 xY0 xE0 xL0 xR1 xW1 xB1 xY1 xE1 xL1 c7 c8
              go_wp2_with fail
              go_ret2
              exact .inr ⟨HR.out, _, rfl, by rw [HQ8.out]; exact HW8.out, HK8.out⟩
    · have hfm : firstM m = false := decide_eq_false hf
      rw [hfm]
      clear hfm
      have HI := Lib.hid (Below.refl w5.heap.size w5)
      have c14 : w5.cell? ⟨g, 14, none⟩ = some (.int .u32 m.sf) := HB5.out.cell 14
      have c15 : w5.cell? ⟨g, 15, none⟩ = some (.int .u32 m.st) := HB5.out.cell 15
      have uf : IntKind.u64.wrap m.sf = m.sf := IntWalk.u64_in _ (by omega)
      have ut : IntKind.u64.wrap m.st = m.st := IntWalk.u64_in _ (by omega)
      by_cases hk5 : m.kind = 5
      · skip
        as_aux_lemma =>
          have HT : Hid (tailM m = be 1 m.hops ++ (be 4 m.sf ++ (be 4 m.st ++ packV m.box))) := Lib.hid (by unfold tailM; rw [if_neg (by omega), if_neg (by omega), if_neg (by omega), if_pos hk5])
          have hbl := (HF.out.box hk5).1
          have uh : IntKind.u64.wrap m.hops = m.hops := IntWalk.u64_in _ (by omega)
          have c6 : w5.cell? ⟨g, 6, none⟩ = some (.int .i64 m.hops) := HB5.out.cell 6
          rw [hk5] at c0
          go_wp2_with fail
          refine Run.region_walk (S := fun z => z.cell? ⟨g, 6, none⟩ = some (.int .i64 m.hops) ∧ z.cell? ⟨g, 14, none⟩ = some (.int .u32 m.sf) ∧ z.cell? ⟨g, 15, none⟩ = some (.int .u32 m.st) ∧ Below w5.heap.size w5 z)
            rmpack.rows15 rmpack.plan15 (l := ?steps20) (by kernel_rfl) (by kernel_rfl) (by kernel_rfl) (by kernel_rfl) ?written20 ⟨c6, c14, c15, (Below.refl _ _).drew⟩ ?onward20
          case written20 =>
            simp only [rmpack.plan15, Run.stepsOf, Run.stepOf, Run.guardOf, List.getElem?_toArray, List.getElem?_cons_zero, List.getElem?_cons_succ, Option.map_some, Option.map_none, Option.bind_some, Option.toList_some, List.map_cons, List.map_nil, List.cons_append, List.nil_append]
            rfl
          repeat ((first
            | (refine Run.takes (v := ?_) ?_ ?_; rotate_left; (· intro w' hS'; go_simp; (try with_reducible rfl)))
            | (refine Run.takesG (v := ?_) ?_ ?_ ?_; rotate_left; (· simp only [List.getElem?_cons_zero, List.getElem?_cons_succ]); (· intro w' hS'; go_simp; (try with_reducible rfl)))
            | (refine Run.skipsT ?_ ?_; (· simp only [List.getElem?_cons_zero, List.getElem?_cons_succ]))
            | (refine Run.skipsF ?_ ?_; (· simp only [List.getElem?_cons_zero, List.getElem?_cons_succ]))
            | (refine Run.skipsU ?_ ?_; (· simp only [List.getElem?_cons_zero, List.getElem?_cons_succ]))
            | (refine Run.passT ?_ ?_; (· simp only [List.getElem?_cons_zero, List.getElem?_cons_succ]))
            | (refine Run.passF ?_ ?_; (· simp only [List.getElem?_cons_zero, List.getElem?_cons_succ]))
            | (refine Run.passU ?_ ?_; (· simp only [List.getElem?_cons_zero, List.getElem?_cons_succ]))
            | fail); simp only [Act.put, List.setIfInBounds_toArray, List.set_cons_zero, List.set_cons_succ])
          refine Run.runsS (Run.callF 31 (by kernel_rfl) (fun hS => rput_any _ qq1 (m.hops) 1 (by omega) _ (HR5.out.keep hS.2.2.2) (by rw [HL3.out]; omega)) rfl ?_)
          rintro hS e yz0 ⟨yv0, rfl, yr0, yb0⟩
          have yy0 := nest hS.2.2.2 yb0
          rw [sz1] at yr0
          obtain ⟨yq0, ye0⟩ : ∃ yq0, yq0 = qq1 ++ be 1 (m.hops) := ⟨_, rfl⟩
          rw [← ye0] at yr0
          have yE0 := Lib.hid ye0
          have yL0 : Hid (yq0.length = 10) := Lib.hid (by rw [ye0, List.length_append, be_len, HL3.out]; try omega)
          obtain ⟨ya0, yc0, rfl, _, _⟩ := yr0.rd.form
          have yR0 := Lib.hid yr0.rd
          have yW0 := Lib.hid (yr0.mono (show w5.heap.size ≤ _ from hS.2.2.2.size))
          have yB0 := Lib.hid (nest HI.out yy0)
          have yY0 : Hid (Below w5.heap.size w5 yz0) := Lib.hid (yy0)
          refine ⟨_, rfl, ⟨kc yy0 c6, kc yy0 c14, kc yy0 c15, yy0⟩, fun _ => ⟨fun z => Below yz0.heap.size yz0 z, fun z h => ⟨kc (nest yy0 h) c6, kc (nest yy0 h) c14, kc (nest yy0 h) c15, nest yy0 h⟩, Below.refl _ _, ?_⟩⟩
          simp only [Act.put, List.setIfInBounds_toArray, List.set_cons_zero, List.set_cons_succ]
          clear hS yr0 yb0 yy0 ye0
          repeat ((first
            | (refine Run.takes (v := ?_) ?_ ?_; rotate_left; (· intro w' hS'; go_simp; (try with_reducible rfl)))
            | (refine Run.takesG (v := ?_) ?_ ?_ ?_; rotate_left; (· simp only [List.getElem?_cons_zero, List.getElem?_cons_succ]); (· intro w' hS'; go_simp; (try with_reducible rfl)))
            | (refine Run.skipsT ?_ ?_; (· simp only [List.getElem?_cons_zero, List.getElem?_cons_succ]))
            | (refine Run.skipsF ?_ ?_; (· simp only [List.getElem?_cons_zero, List.getElem?_cons_succ]))
            | (refine Run.skipsU ?_ ?_; (· simp only [List.getElem?_cons_zero, List.getElem?_cons_succ]))
            | (refine Run.passT ?_ ?_; (· simp only [List.getElem?_cons_zero, List.getElem?_cons_succ]))
            | (refine Run.passF ?_ ?_; (· simp only [List.getElem?_cons_zero, List.getElem?_cons_succ]))
            | (refine Run.passU ?_ ?_; (· simp only [List.getElem?_cons_zero, List.getElem?_cons_succ]))
            | fail); simp only [Act.put, List.setIfInBounds_toArray, List.set_cons_zero, List.set_cons_succ])
          refine Run.runsS (Run.callF 31 (by kernel_rfl) (fun hS => rput_any _ yq0 (m.sf) 4 (by omega) _ (yR0.out.keep hS) (by rw [yL0.out]; omega)) rfl ?_)
          rintro hS e yz1 ⟨yv1, rfl, yr1, yb1⟩
          have yy1 := nest hS yb1
          rw [sz4'] at yr1
          obtain ⟨yq1, ye1⟩ : ∃ yq1, yq1 = yq0 ++ be 4 (m.sf) := ⟨_, rfl⟩
          rw [← ye1] at yr1
          have yE1 := Lib.hid ye1
          have yL1 : Hid (yq1.length = 14) := Lib.hid (by rw [ye1, List.length_append, be_len, yL0.out]; try omega)
          obtain ⟨ya1, yc1, rfl, _, _⟩ := yr1.rd.form
          have yR1 := Lib.hid yr1.rd
          have yW1 := Lib.hid (yr1.mono (show w5.heap.size ≤ _ from (nest yY0.out hS).size))
          have yB1 := Lib.hid (nest yB0.out yy1)
          have yY1 : Hid (Below w5.heap.size w5 yz1) := Lib.hid (nest yY0.out yy1)
          refine ⟨_, rfl, yy1, fun _ => ⟨fun z => Below yz1.heap.size yz1 z, fun z h => nest yy1 h, Below.refl _ _, ?_⟩⟩
          simp only [Act.put, List.setIfInBounds_toArray, List.set_cons_zero, List.set_cons_succ]
          clear hS yr1 yb1 yy1 ye1
          repeat ((first
            | (refine Run.takes (v := ?_) ?_ ?_; rotate_left; (· intro w' hS'; go_simp; (try with_reducible rfl)))
            | (refine Run.takesG (v := ?_) ?_ ?_ ?_; rotate_left; (· simp only [List.getElem?_cons_zero, List.getElem?_cons_succ]); (· intro w' hS'; go_simp; (try with_reducible rfl)))
            | (refine Run.skipsT ?_ ?_; (· simp only [List.getElem?_cons_zero, List.getElem?_cons_succ]))
            | (refine Run.skipsF ?_ ?_; (· simp only [List.getElem?_cons_zero, List.getElem?_cons_succ]))
            | (refine Run.skipsU ?_ ?_; (· simp only [List.getElem?_cons_zero, List.getElem?_cons_succ]))
            | (refine Run.passT ?_ ?_; (· simp only [List.getElem?_cons_zero, List.getElem?_cons_succ]))
            | (refine Run.passF ?_ ?_; (· simp only [List.getElem?_cons_zero, List.getElem?_cons_succ]))
            | (refine Run.passU ?_ ?_; (· simp only [List.getElem?_cons_zero, List.getElem?_cons_succ]))
            | fail); simp only [Act.put, List.setIfInBounds_toArray, List.set_cons_zero, List.set_cons_succ])
          refine Run.runsS (Run.callF 31 (by kernel_rfl) (fun hS => rput_any _ yq1 (m.st) 4 (by omega) _ (yR1.out.keep hS) (by rw [yL1.out]; omega)) rfl ?_)
          rintro hS e yz2 ⟨yv2, rfl, yr2, yb2⟩
          have yy2 := nest hS yb2
          rw [sz4'] at yr2
          obtain ⟨yq2, ye2⟩ : ∃ yq2, yq2 = yq1 ++ be 4 (m.st) := ⟨_, rfl⟩
          rw [← ye2] at yr2
          have yE2 := Lib.hid ye2
          have yL2 : Hid (yq2.length = 18) := Lib.hid (by rw [ye2, List.length_append, be_len, yL1.out]; try omega)
          obtain ⟨ya2, yc2, rfl, _, _⟩ := yr2.rd.form
          have yR2 := Lib.hid yr2.rd
          have yW2 := Lib.hid (yr2.mono (show w5.heap.size ≤ _ from (nest yY1.out hS).size))
          have yB2 := Lib.hid (nest yB1.out yy2)
          have yY2 : Hid (Below w5.heap.size w5 yz2) := Lib.hid (nest yY1.out yy2)
          refine ⟨_, rfl, yy2, fun _ => ⟨fun z => Below yz2.heap.size yz2 z, fun z h => nest yy2 h, Below.refl _ _, ?_⟩⟩
          simp only [Act.put, List.setIfInBounds_toArray, List.set_cons_zero, List.set_cons_succ]
          clear hS yr2 yb2 yy2 ye2
          repeat ((first
            | (refine Run.takes (v := ?_) ?_ ?_; rotate_left; (· intro w' hS'; go_simp; (try with_reducible rfl)))
            | (refine Run.takesG (v := ?_) ?_ ?_ ?_; rotate_left; (· simp only [List.getElem?_cons_zero, List.getElem?_cons_succ]); (· intro w' hS'; go_simp; (try with_reducible rfl)))
            | (refine Run.skipsT ?_ ?_; (· simp only [List.getElem?_cons_zero, List.getElem?_cons_succ]))
            | (refine Run.skipsF ?_ ?_; (· simp only [List.getElem?_cons_zero, List.getElem?_cons_succ]))
            | (refine Run.skipsU ?_ ?_; (· simp only [List.getElem?_cons_zero, List.getElem?_cons_succ]))
            | (refine Run.passT ?_ ?_; (· simp only [List.getElem?_cons_zero, List.getElem?_cons_succ]))
            | (refine Run.passF ?_ ?_; (· simp only [List.getElem?_cons_zero, List.getElem?_cons_succ]))
            | (refine Run.passU ?_ ?_; (· simp only [List.getElem?_cons_zero, List.getElem?_cons_succ]))
            | fail); simp only [Act.put, List.setIfInBounds_toArray, List.set_cons_zero, List.set_cons_succ])
          refine Run.ends (fun hS => ?_)
          have HW8 := Lib.hid ((yW2.out.keep hS).mono HK5.out.size)
          have HY8 := Lib.hid (nest yY2.out hS)
          have HQ8 : Hid (packM m = yq2 ++ packV m.box) := Lib.hid (by unfold packM; rw [HT.out, yE2.out, yE1.out, yE0.out, HQ3.out]; simp only [List.append_assoc])
          have HL8 := Lib.hid yL2.out
          clear hS yR0 yW0 yB0 yY0 yE0 yL0 yR1 yW1 yB1 yY1 yE1 yL1 yR2 yW2 yB2 yY2 yE2 yL2 c6 c14 c15 c0
          have HM8 := Lib.hid (HM5.out.keep HY8.out)
          have HK8 := Lib.hid (nest HK5.out HY8.out)
          have c16 : yz2.cell? ⟨g, 16, none⟩ = some b := (HB5.out.keep HY8.out).cell 16
          have hbl2 : m.box.length ≤ 100000 := by omega
          go_wp2_with (first | (go_at_call 34; refine (rpack_any b m.box _ HM8.out.box HBD.out.box hbl2).mono ?_; rintro e z9 ⟨v9, rfl, hr9, hb9⟩; obtain ⟨a9, c9, rfl, _, _⟩ := hr9.rd.form) | (at_builtin; go_must (refine wpList_append (E := intE .u8) (B := w.heap.size) (l := yq2) (m := packV m.box) (bytes := 1) byteElem Nat.zero_lt_one rfl (.tmp 123) (.tmp 126) rfl rfl (HW8.out.keep hb9) rfl hr9.rd (by rw [HL8.out, packV_len]; simp [maxLen]; omega) (by rw [HL8.out, packV_len]; omega) (by have := HK8.out.size; have := hb9.size; omega) ?_); intro v10 z10 hr10 hk10 hg10 _; obtain ⟨pm, hpm⟩ : ∃ pm, pm = yq2 ++ packV m.box := ⟨_, rfl⟩; rw [← hpm] at hr10; have HPM := Lib.hid hpm; clear hpm; obtain ⟨a10, c10, rfl, _, _⟩ := hr10.rd.form))
          have HW10 := Lib.hid hr10
          have HK10 := Lib.hid ((nest HK8.out hb9).trans hk10)
          clear hr10 hk10 hg10 hr9 hb9
          go_wp2_with fail
          go_ret2
          exact .inr ⟨HR.out, _, rfl, by rw [HQ8.out, ← HPM.out]; exact HW10.out, HK10.out⟩
      · skip
        as_aux_lemma =>
          have hk6 : m.kind = 6 := by omega
          have HT : Hid (tailM m = be 4 m.sf ++ (be 4 m.st ++ (be 2 m.recs.length ++ recsP m.recs))) := Lib.hid (by unfold tailM; rw [if_neg (by omega), if_neg (by omega), if_neg (by omega), if_neg (by omega)])
          obtain ⟨hrl, hra⟩ := HF.out.recs hk6
          have HRA := Lib.hid hra
          clear hra
          rw [hk6] at c0
          clear hk5
          go_wp2_with fail
          refine Run.region_walk (S := fun z => z.cell? ⟨g, 14, none⟩ = some (.int .u32 m.sf) ∧ z.cell? ⟨g, 15, none⟩ = some (.int .u32 m.st) ∧ Below w5.heap.size w5 z)
            rmpack.rows17 rmpack.plan17 (l := ?steps24) (by kernel_rfl) (by kernel_rfl) (by kernel_rfl) (by kernel_rfl) ?written24 ⟨c14, c15, (Below.refl _ _).drew⟩ ?onward24
          case written24 =>
            simp only [rmpack.plan17, Run.stepsOf, Run.stepOf, Run.guardOf, List.getElem?_toArray, List.getElem?_cons_zero, List.getElem?_cons_succ, Option.map_some, Option.map_none, Option.bind_some, Option.toList_some, List.map_cons, List.map_nil, List.cons_append, List.nil_append]
            rfl
          repeat ((first
            | (refine Run.takes (v := ?_) ?_ ?_; rotate_left; (· intro w' hS'; go_simp; (try with_reducible rfl)))
            | (refine Run.takesG (v := ?_) ?_ ?_ ?_; rotate_left; (· simp only [List.getElem?_cons_zero, List.getElem?_cons_succ]); (· intro w' hS'; go_simp; (try with_reducible rfl)))
            | (refine Run.skipsT ?_ ?_; (· simp only [List.getElem?_cons_zero, List.getElem?_cons_succ]))
            | (refine Run.skipsF ?_ ?_; (· simp only [List.getElem?_cons_zero, List.getElem?_cons_succ]))
            | (refine Run.skipsU ?_ ?_; (· simp only [List.getElem?_cons_zero, List.getElem?_cons_succ]))
            | (refine Run.passT ?_ ?_; (· simp only [List.getElem?_cons_zero, List.getElem?_cons_succ]))
            | (refine Run.passF ?_ ?_; (· simp only [List.getElem?_cons_zero, List.getElem?_cons_succ]))
            | (refine Run.passU ?_ ?_; (· simp only [List.getElem?_cons_zero, List.getElem?_cons_succ]))
            | fail); simp only [Act.put, List.setIfInBounds_toArray, List.set_cons_zero, List.set_cons_succ])
          refine Run.runsS (Run.callF 31 (by kernel_rfl) (fun hS => rput_any _ qq1 (m.sf) 4 (by omega) _ (HR5.out.keep hS.2.2) (by rw [HL3.out]; omega)) rfl ?_)
          rintro hS e yz0 ⟨yv0, rfl, yr0, yb0⟩
          have yy0 := nest hS.2.2 yb0
          rw [sz4'] at yr0
          obtain ⟨yq0, ye0⟩ : ∃ yq0, yq0 = qq1 ++ be 4 (m.sf) := ⟨_, rfl⟩
          rw [← ye0] at yr0
          have yE0 := Lib.hid ye0
          have yL0 : Hid (yq0.length = 13) := Lib.hid (by rw [ye0, List.length_append, be_len, HL3.out]; try omega)
          obtain ⟨ya0, yc0, rfl, _, _⟩ := yr0.rd.form
          have yR0 := Lib.hid yr0.rd
          have yW0 := Lib.hid (yr0.mono (show w5.heap.size ≤ _ from hS.2.2.size))
          have yB0 := Lib.hid (nest HI.out yy0)
          have yY0 : Hid (Below w5.heap.size w5 yz0) := Lib.hid (yy0)
          refine ⟨_, rfl, ⟨kc yy0 c14, kc yy0 c15, yy0⟩, fun _ => ⟨fun z => Below yz0.heap.size yz0 z, fun z h => ⟨kc (nest yy0 h) c14, kc (nest yy0 h) c15, nest yy0 h⟩, Below.refl _ _, ?_⟩⟩
          simp only [Act.put, List.setIfInBounds_toArray, List.set_cons_zero, List.set_cons_succ]
          clear hS yr0 yb0 yy0 ye0
          repeat ((first
            | (refine Run.takes (v := ?_) ?_ ?_; rotate_left; (· intro w' hS'; go_simp; (try with_reducible rfl)))
            | (refine Run.takesG (v := ?_) ?_ ?_ ?_; rotate_left; (· simp only [List.getElem?_cons_zero, List.getElem?_cons_succ]); (· intro w' hS'; go_simp; (try with_reducible rfl)))
            | (refine Run.skipsT ?_ ?_; (· simp only [List.getElem?_cons_zero, List.getElem?_cons_succ]))
            | (refine Run.skipsF ?_ ?_; (· simp only [List.getElem?_cons_zero, List.getElem?_cons_succ]))
            | (refine Run.skipsU ?_ ?_; (· simp only [List.getElem?_cons_zero, List.getElem?_cons_succ]))
            | (refine Run.passT ?_ ?_; (· simp only [List.getElem?_cons_zero, List.getElem?_cons_succ]))
            | (refine Run.passF ?_ ?_; (· simp only [List.getElem?_cons_zero, List.getElem?_cons_succ]))
            | (refine Run.passU ?_ ?_; (· simp only [List.getElem?_cons_zero, List.getElem?_cons_succ]))
            | fail); simp only [Act.put, List.setIfInBounds_toArray, List.set_cons_zero, List.set_cons_succ])
          refine Run.runsS (Run.callF 31 (by kernel_rfl) (fun hS => rput_any _ yq0 (m.st) 4 (by omega) _ (yR0.out.keep hS) (by rw [yL0.out]; omega)) rfl ?_)
          rintro hS e yz1 ⟨yv1, rfl, yr1, yb1⟩
          have yy1 := nest hS yb1
          rw [sz4'] at yr1
          obtain ⟨yq1, ye1⟩ : ∃ yq1, yq1 = yq0 ++ be 4 (m.st) := ⟨_, rfl⟩
          rw [← ye1] at yr1
          have yE1 := Lib.hid ye1
          have yL1 : Hid (yq1.length = 17) := Lib.hid (by rw [ye1, List.length_append, be_len, yL0.out]; try omega)
          obtain ⟨ya1, yc1, rfl, _, _⟩ := yr1.rd.form
          have yR1 := Lib.hid yr1.rd
          have yW1 := Lib.hid (yr1.mono (show w5.heap.size ≤ _ from (nest yY0.out hS).size))
          have yB1 := Lib.hid (nest yB0.out yy1)
          have yY1 : Hid (Below w5.heap.size w5 yz1) := Lib.hid (nest yY0.out yy1)
          refine ⟨_, rfl, yy1, fun _ => ⟨fun z => Below yz1.heap.size yz1 z, fun z h => nest yy1 h, Below.refl _ _, ?_⟩⟩
          simp only [Act.put, List.setIfInBounds_toArray, List.set_cons_zero, List.set_cons_succ]
          clear hS yr1 yb1 yy1 ye1
          repeat ((first
            | (refine Run.takes (v := ?_) ?_ ?_; rotate_left; (· intro w' hS'; go_simp; (try with_reducible rfl)))
            | (refine Run.takesG (v := ?_) ?_ ?_ ?_; rotate_left; (· simp only [List.getElem?_cons_zero, List.getElem?_cons_succ]); (· intro w' hS'; go_simp; (try with_reducible rfl)))
            | (refine Run.skipsT ?_ ?_; (· simp only [List.getElem?_cons_zero, List.getElem?_cons_succ]))
            | (refine Run.skipsF ?_ ?_; (· simp only [List.getElem?_cons_zero, List.getElem?_cons_succ]))
            | (refine Run.skipsU ?_ ?_; (· simp only [List.getElem?_cons_zero, List.getElem?_cons_succ]))
            | (refine Run.passT ?_ ?_; (· simp only [List.getElem?_cons_zero, List.getElem?_cons_succ]))
            | (refine Run.passF ?_ ?_; (· simp only [List.getElem?_cons_zero, List.getElem?_cons_succ]))
            | (refine Run.passU ?_ ?_; (· simp only [List.getElem?_cons_zero, List.getElem?_cons_succ]))
            | fail); simp only [Act.put, List.setIfInBounds_toArray, List.set_cons_zero, List.set_cons_succ])
          refine Run.ends (fun hS => ?_)
          have HR8 := Lib.hid (yR1.out.keep hS)
          have HY8 := Lib.hid (nest yY1.out hS)
          have HQ8 : Hid (packM m = yq1 ++ (be 2 m.recs.length ++ recsP m.recs)) := Lib.hid (by unfold packM; rw [HT.out, yE1.out, yE0.out, HQ3.out]; simp only [List.append_assoc])
          have HL8 := Lib.hid yL1.out
          clear hS yR0 yW0 yB0 yY0 yE0 yL0 yR1 yW1 yB1 yY1 yE1 yL1 c14 c15 c0
          have HB8 := Lib.hid (HB5.out.keep HY8.out)
          have HM8 := Lib.hid (HM5.out.keep HY8.out)
          have HK8 := Lib.hid (nest HK5.out HY8.out)
          obtain ⟨ar', gr', or'', cr', hrv, hc1, hc2, ha, hcell⟩ := kd_loop HM8.out.recs
          have c17 : yz1.cell? ⟨g, 17, none⟩ = some r := HB8.out.cell 17
          have HBC := Lib.hid hcell
          have HBA := Lib.hid ha
          have hcb : cr' ≤ 9223372036854775807 := hc2
          rw [hrv] at c17
          clear hcell ha hc2 hrv
          have ul : IntKind.u64.wrap (m.recs.length : Int) = m.recs.length := IntWalk.u64_in _ (by omega)
          go_wp2_with fail
          refine (rput_any _ yq1 m.recs.length 2 (by omega) _ HR8.out (by rw [HL8.out]; omega)).mono ?_
          rintro e z9 ⟨v9, rfl, hr9, hb9⟩
          rw [sz2] at hr9
          obtain ⟨P, hP⟩ : ∃ P, P = yq1 ++ be 2 (m.recs.length : Int) := ⟨_, rfl⟩
          rw [← hP] at hr9
          have HQ9 : Hid (packM m = P ++ recsP m.recs) := Lib.hid (by rw [HQ8.out, hP, List.append_assoc])
          have HL9 : Hid (P.length = 19) := Lib.hid (by rw [hP, List.length_append, be_len, HL8.out])
          have HW9 := Lib.hid hr9
          have HY9 := Lib.hid hb9
          obtain ⟨a9, c9, rfl, _, _⟩ := hr9.rd.form
          clear hr9 hb9 hP HQ8
          go_wp2_with fail
          go_loopw [6, 8] (fun o i wr => ∃ k : Nat, k ≤ m.recs.length ∧ i = .int .i64 k ∧ (∃ a c n, o = .slice a n c) ∧ Row (intE .u8) 5 yz1.heap.size wr o (P ++ recsP (m.recs.take k)) ∧ Below yz1.heap.size yz1 wr) (fun _ i _ => m.recs.length - (intOf i).toNat)
          case atStart => exact ⟨0, Nat.zero_le _, rfl, ⟨_, _, _, rfl⟩, by simpa [recsP] using HW9.out, HY9.out⟩
          case round =>
            obtain ⟨k, hk, rfl, ⟨ao, co, no, rfl⟩, hr, hb⟩ := hrel
            have c17r := kc hb c17
            have HB := Lib.hid hb
            by_cases hlt : k < m.recs.length
            · have hbk := HBA.out (by omega)
              subst hbk
              have hmem : m.recs.getD k (0, 0, []) ∈ m.recs := by rw [show m.recs.getD k (0, 0, []) = m.recs[k] by simp [List.getD, hlt]]; exact List.getElem_mem hlt
              have HRB := Lib.hid (HBD.out.recs _ hmem)
              have hul := HRA.out _ hmem
              have hy : m.recs[k]? = some (m.recs.getD k (0, 0, [])) := by simp [List.getD, List.getElem?_eq_getElem hlt]
              obtain ⟨es, he, hre⟩ := HBC.out k _ hy
              have hlen : (P ++ recsP (m.recs.take k)).length ≤ 19 + 48 * k := by
                have h1 := recsP_le (l := m.recs.take k) (n := 8) (fun x hx => by have := HRA.out x (List.mem_of_mem_take hx); omega)
                rw [List.length_take] at h1
                rw [List.length_append, HL9.out]
                have h2 : min k m.recs.length * (16 + 4 * 8) ≤ 48 * k := by have := Nat.min_le_left k m.recs.length; omega
                omega
              have HST : Hid (P ++ recsP (m.recs.take (k + 1)) = (P ++ recsP (m.recs.take k)) ++ recP (m.recs.getD k (0, 0, []))) := Lib.hid (by rw [recsP_step hlt, List.append_assoc])
              clear hy hmem
              generalize m.recs.getD k (0, 0, []) = q at *
              generalize P ++ recsP (m.recs.take k) = A at *
              obtain ⟨x, y, u⟩ := q
              simp only [] at hul
              obtain ⟨vq, rfl, _, _, hrd, _⟩ := record_cells hre
              obtain ⟨aq, cq, rfl, _, _⟩ := hrd.form
              have hyr := hb
              have e1 := kc hyr (he 0 (by decide))
              have e2 := kc hyr (he 1 (by decide))
              have e3 := kc hyr (he 2 (by decide))
              have hs3 : recordK.size = 3 := rfl
              rw [hs3] at e1 e2 e3
              simp only [List.getElem?_cons_zero, List.getElem?_cons_succ, Nat.add_zero] at e1 e2 e3
              rw [← Nat.add_assoc] at e2 e3
              have HRD := Lib.hid (hrd.keep hyr)
              have HLEN := Lib.hid hlen
              have HRA2 := Lib.hid hr
              obtain ⟨ao2, co2, hao, hco1, hco2⟩ := hr.rd.form
              cases hao
              clear he hre hrd hyr hlen hr hb
              have HUL : Hid (u.length ≤ 20) := Lib.hid (by omega)
              have HKS : Hid (k ≤ 10000) := Lib.hid (by omega)
              have HPL : Hid ((recP (x, y, u)).length ≤ 96) := Lib.hid (by rw [recP_len]; simp only []; have := HUL.out; omega)
              go_wp2_with (first | (go_at_call 33; refine (rrec_any (.slice none 0 0) [] x y _ u wr (Rd.nil _ _ (by unfold maxLen; omega)) HRD.out HRB.out.1 HRB.out.2.1 HRB.out.2.2 (by simp) HUL.out).mono ?_; rintro e z10 ⟨v10, rfl, hr10, hb10⟩; rw [List.nil_append] at hr10; obtain ⟨a10, c10, rfl, _, _⟩ := hr10.rd.form) | (at_builtin; go_must (refine wpList_append (E := intE .u8) (B := yz1.heap.size) (l := A) (m := recP (x, y, u)) (bytes := 1) byteElem Nat.zero_lt_one rfl (.tmp 58) (.tmp 64) rfl rfl (HRA2.out.keep hb10) rfl hr10.rd (by have := HLEN.out; have := HPL.out; have := HKS.out; simp [maxLen]; omega) (by have := HLEN.out; have := HPL.out; have := HKS.out; omega) (by have := HB.out.size; have := hb10.size; omega) ?_); intro v11 z11 hr11 hk11 hg11 _; obtain ⟨A2, hA2⟩ : ∃ A2, A2 = A ++ recP (x, y, u) := ⟨_, rfl⟩; rw [← hA2] at hr11; have HA2 := Lib.hid hA2; clear hA2; obtain ⟨a11, c11, rfl, _, _⟩ := hr11.rd.form))
              have HR11 := Lib.hid hr11
              have HK11 : Hid (Below yz1.heap.size yz1 z11) := Lib.hid ((nest HB.out hb10).trans hk11)
              clear hr11 hk11 hg11 hr10 hb10
              refine ⟨⟨k + 1, by omega, by go_num, ⟨_, _, _, rfl⟩, by rw [HST.out, ← HA2.out]; exact HR11.out, HK11.out⟩, by simp [intOf]; omega⟩
            · have hkn : k = m.recs.length := by omega
              subst hkn
              rw [List.take_length, ← HQ9.out] at hr
              obtain ⟨pm, hpm⟩ : ∃ pm, pm = packM m := ⟨_, rfl⟩
              rw [← hpm] at hr
              have HPM := Lib.hid hpm
              have HRR := Lib.hid hr
              obtain ⟨ao2, co2, hao, hco1, hco2⟩ := hr.rd.form
              cases hao
              clear hr hb hpm HQ9
              go_wp2_with fail
              go_ret2
              exact .inr ⟨HR.out, _, rfl, by rw [← HPM.out]; exact HRR.out.mono HK8.out.size, nest HK8.out HB.out⟩
end Go.Proofs.Ythhelhhlofdehaa
