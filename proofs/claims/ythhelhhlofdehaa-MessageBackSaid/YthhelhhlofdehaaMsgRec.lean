/- The document's answer for package message: record. -/
import Derived.Test.YthhelhhlofdehaaMsg
import Derived.Test.YthhelhhlofdehaaMsgPlans
import Derived.Test.YthhelhhlofdehaaRun
import Derived.Test.YthhelhhlofdehaaRefOctet
import Derived.Test.YthhelhhlofdehaaBoxRef
set_option maxRecDepth 4000
namespace Go.Proofs.Ythhelhhlofdehaa
open Go.RowKit Mem
set_option linter.unusedSimpArgs false
set_option linter.unusedVariables false
attribute [local irreducible] Go.Calls

theorem sz8 : szN 8 = 8 := by decide
/-- the bytes of a record -/
def valP (l : List Int) : List Int := l.flatMap (be 4)
def recP (x : Int × Int × List Int) : List Int := be 8 x.1 ++ (be 8 x.2.1 ++ valP x.2.2)
theorem valP_len (l : List Int) : (valP l).length = 4 * l.length := by
  induction l with
  | nil => rfl
  | cons x l ih => simp [valP, be_len] at *; omega
theorem recP_len (x : Int × Int × List Int) : (recP x).length = 16 + 4 * x.2.2.length := by simp only [recP, List.length_append, be_len, valP_len]; omega
theorem valP_step {l : List Int} {k : Nat} (hk : k < l.length) : valP (l.take (k + 1)) = valP (l.take k) ++ be 4 (l.getD k 0) := by
  rw [show l.getD k 0 = l[k] by simp [List.getD, hk], List.take_add_one, List.getElem?_eq_getElem hk, Option.toList_some, valP, valP, List.flatMap_append, List.flatMap_cons, List.flatMap_nil, List.append_nil]
set_option maxRecDepth 100000 in
set_option maxHeartbeats 2000000 in
theorem rrec_any (bv : Value) (Q : List Int) (i v : Int) (s : Value) (l : List Int) (w : World) (h : Rd (intE .u8) w bv Q) (hs : Rd (intE .u32) w s l) (bi : u64B i) (bv' : u64B v) (bl : ∀ x ∈ l, u32B x) (hQ : Q.length ≤ 900000) (hl : l.length ≤ 20) :
    Calls Try.prog 33 #[bv, .agg #[.int .u64 i, .int .u64 v, s]] w (PutPost w (Q ++ recP (i, v, l))) := by
  obtain ⟨a, g, off, c, rfl, hc1, hm1, ha, hcell⟩ := Mem.Rd.loopI hs
  obtain ⟨ab, cb, rfl, _, _⟩ := h.form
  have hm1' : c ≤ 9223372036854775807 := hm1
  have hk0 : Below w.heap.size w (w.alloc (.cells #[.int .u64 i, .int .u64 v, .slice a l.length c] 26)) := more (Below.refl _ _) _
  have HA := Lib.hid ha
  have HC := Lib.hid hcell
  have HBL := Lib.hid bl
  have HR := Lib.hid (h.keep hk0)
  have HK := Lib.hid hk0
  have HBK := Lib.hid (Blk.newAt w 26 #[.int .u64 i, .int .u64 v, .slice a l.length c] rfl)
  obtain ⟨nQ, hnQ⟩ : ∃ n, n = Q.length := ⟨_, rfl⟩
  have hnQ := hnQ.symm
  have HL := Lib.hid hnQ
  have hQn : nQ ≤ 900000 := by omega
  clear hnQ
  have HBI : Hid (0 ≤ i ∧ i ≤ 18446744073709551615) := Lib.hid bi
  have HBV : Hid (0 ≤ v ∧ v ≤ 18446744073709551615) := Lib.hid bv'
  clear h hs ha hcell bl hk0 bi bv'
  go_enter Try.func33, Try.ntmps33
  go_wp2_with fail
  generalize w.alloc (.cells #[.int .u64 i, .int .u64 v, .slice a l.length c] 26) = w1 at *
  obtain ⟨g0, hg0⟩ : ∃ g0, g0 = w.heap.size := ⟨_, rfl⟩
  have HBK : Hid (Blk w1 g0 26 #[.int .u64 i, .int .u64 v, .slice a l.length c]) := Lib.hid (by rw [hg0]; exact HBK.out)
  rw [← hg0]
  clear hg0
  have e0 : w1.cell? ⟨g0, 0, none⟩ = some (.int .u64 i) := HBK.out.cell 0
  have e1 : w1.cell? ⟨g0, 1, none⟩ = some (.int .u64 v) := HBK.out.cell 1
  refine Run.region_walk (S := fun z => z.cell? ⟨g0, 0, none⟩ = some (.int .u64 i) ∧ z.cell? ⟨g0, 1, none⟩ = some (.int .u64 v) ∧ Below w1.heap.size w1 z)
    rmrecord.rows1 rmrecord.plan1 (l := ?steps1) (by kernel_rfl) (by kernel_rfl) (by kernel_rfl) (by kernel_rfl) ?written1 ⟨e0, e1, (Below.refl _ _).drew⟩ ?onward1
  case written1 =>
    simp only [rmrecord.plan1, Run.stepsOf, Run.stepOf, Run.guardOf, List.getElem?_toArray, List.getElem?_cons_zero, List.getElem?_cons_succ, Option.map_some, Option.map_none, Option.bind_some, Option.toList_some, List.map_cons, List.map_nil, List.cons_append, List.nil_append]
    rfl
  repeat ((first
    | (refine Run.takes (v := ?_) ?_ ?_; rotate_left; (· intro w' hS'; go_simp; (try with_reducible rfl)))
    | (refine Run.takesG (v := ?_) ?_ ?_ ?_; rotate_left; (· simp only [List.getElem?_cons_zero, List.getElem?_cons_succ]); (· intro w' hS'; go_simp; (try with_reducible rfl)))
    | (refine Run.skipsT ?_ ?_; (· simp only [List.getElem?_cons_zero, List.getElem?_cons_succ]))
    | (refine Run.skipsF ?_ ?_; (· simp only [List.getElem?_cons_zero, List.getElem?_cons_succ]))
    | (refine Run.skipsU ?_ ?_; (· simp only [List.getElem?_cons_zero, List.getElem?_cons_succ]))
    | (refine Run.passT ?_ ?_; (· simp only [List.getElem?_cons_zero, List.getElem?_cons_succ]))
    | (refine Run.passF ?_ ?_; (· simp only [List.getElem?_cons_zero, List.getElem?_cons_succ]))
    | (refine Run.passU ?_ ?_; (· simp only [List.getElem?_cons_zero, List.getElem?_cons_succ]))
    | fail); simp only [Act.put, List.setIfInBounds_toArray, List.set_cons_zero, List.set_cons_succ])
  refine Run.runsS (Run.callF 31 (by kernel_rfl) (fun hS => rput_any _ Q (i) 8 HBI.out _ (HR.out.keep hS.2.2) (by rw [HL.out]; omega)) rfl ?_)
  rintro hS e pz0 ⟨pv0, rfl, pr0, pb0⟩
  have py0 := nest hS.2.2 pb0
  rw [sz8] at pr0
  obtain ⟨pq0, pe0⟩ : ∃ pq0, pq0 = Q ++ be 8 (i) := ⟨_, rfl⟩
  rw [← pe0] at pr0
  have pE0 := Lib.hid pe0
  have pL0 : Hid (pq0.length = nQ + 8) := Lib.hid (by rw [pe0, List.length_append, be_len, HL.out]; try omega)
  obtain ⟨pa0, pc0, rfl, _, _⟩ := pr0.rd.form
  have pR0 := Lib.hid pr0.rd
  have pW0 := Lib.hid (pr0.mono (show w1.heap.size ≤ _ from hS.2.2.size))
  have pB0 := Lib.hid (nest HK.out py0)
  have pY0 : Hid (Below w1.heap.size w1 pz0) := Lib.hid (py0)
  refine ⟨_, rfl, ⟨kc py0 e0, kc py0 e1, py0⟩, fun _ => ⟨fun z => Below pz0.heap.size pz0 z, fun z h => ⟨kc (nest py0 h) e0, kc (nest py0 h) e1, nest py0 h⟩, Below.refl _ _, ?_⟩⟩
  simp only [Act.put, List.setIfInBounds_toArray, List.set_cons_zero, List.set_cons_succ]
  clear hS pr0 pb0 py0 pe0
  repeat ((first
    | (refine Run.takes (v := ?_) ?_ ?_; rotate_left; (· intro w' hS'; go_simp; (try with_reducible rfl)))
    | (refine Run.takesG (v := ?_) ?_ ?_ ?_; rotate_left; (· simp only [List.getElem?_cons_zero, List.getElem?_cons_succ]); (· intro w' hS'; go_simp; (try with_reducible rfl)))
    | (refine Run.skipsT ?_ ?_; (· simp only [List.getElem?_cons_zero, List.getElem?_cons_succ]))
    | (refine Run.skipsF ?_ ?_; (· simp only [List.getElem?_cons_zero, List.getElem?_cons_succ]))
    | (refine Run.skipsU ?_ ?_; (· simp only [List.getElem?_cons_zero, List.getElem?_cons_succ]))
    | (refine Run.passT ?_ ?_; (· simp only [List.getElem?_cons_zero, List.getElem?_cons_succ]))
    | (refine Run.passF ?_ ?_; (· simp only [List.getElem?_cons_zero, List.getElem?_cons_succ]))
    | (refine Run.passU ?_ ?_; (· simp only [List.getElem?_cons_zero, List.getElem?_cons_succ]))
    | fail); simp only [Act.put, List.setIfInBounds_toArray, List.set_cons_zero, List.set_cons_succ])
  refine Run.runsS (Run.callF 31 (by kernel_rfl) (fun hS => rput_any _ pq0 (v) 8 HBV.out _ (pR0.out.keep hS) (by rw [pL0.out]; omega)) rfl ?_)
  rintro hS e pz1 ⟨pv1, rfl, pr1, pb1⟩
  have py1 := nest hS pb1
  rw [sz8] at pr1
  obtain ⟨pq1, pe1⟩ : ∃ pq1, pq1 = pq0 ++ be 8 (v) := ⟨_, rfl⟩
  rw [← pe1] at pr1
  have pE1 := Lib.hid pe1
  have pL1 : Hid (pq1.length = nQ + 16) := Lib.hid (by rw [pe1, List.length_append, be_len, pL0.out]; try omega)
  obtain ⟨pa1, pc1, rfl, _, _⟩ := pr1.rd.form
  have pR1 := Lib.hid pr1.rd
  have pW1 := Lib.hid (pr1.mono (show w1.heap.size ≤ _ from (nest pY0.out hS).size))
  have pB1 := Lib.hid (nest pB0.out py1)
  have pY1 : Hid (Below w1.heap.size w1 pz1) := Lib.hid (nest pY0.out py1)
  refine ⟨_, rfl, py1, fun _ => ⟨fun z => Below pz1.heap.size pz1 z, fun z h => nest py1 h, Below.refl _ _, ?_⟩⟩
  simp only [Act.put, List.setIfInBounds_toArray, List.set_cons_zero, List.set_cons_succ]
  clear hS pr1 pb1 py1 pe1
  repeat ((first
    | (refine Run.takes (v := ?_) ?_ ?_; rotate_left; (· intro w' hS'; go_simp; (try with_reducible rfl)))
    | (refine Run.takesG (v := ?_) ?_ ?_ ?_; rotate_left; (· simp only [List.getElem?_cons_zero, List.getElem?_cons_succ]); (· intro w' hS'; go_simp; (try with_reducible rfl)))
    | (refine Run.skipsT ?_ ?_; (· simp only [List.getElem?_cons_zero, List.getElem?_cons_succ]))
    | (refine Run.skipsF ?_ ?_; (· simp only [List.getElem?_cons_zero, List.getElem?_cons_succ]))
    | (refine Run.skipsU ?_ ?_; (· simp only [List.getElem?_cons_zero, List.getElem?_cons_succ]))
    | (refine Run.passT ?_ ?_; (· simp only [List.getElem?_cons_zero, List.getElem?_cons_succ]))
    | (refine Run.passF ?_ ?_; (· simp only [List.getElem?_cons_zero, List.getElem?_cons_succ]))
    | (refine Run.passU ?_ ?_; (· simp only [List.getElem?_cons_zero, List.getElem?_cons_succ]))
    | fail); simp only [Act.put, List.setIfInBounds_toArray, List.set_cons_zero, List.set_cons_succ])
  refine Run.ends (fun hS => ?_)
  have HRZ := Lib.hid ((pW1.out.keep hS).mono HK.out.size)
  have HBZ := Lib.hid (nest pB1.out hS)
  have HKZ := Lib.hid (HBK.out.keep (nest pY1.out hS))
  clear hS e0 e1
  go_wp2_with fail
  have HQ2 : Hid (pq1 = Q ++ (be 8 i ++ be 8 v)) := Lib.hid (by rw [pE1.out, pE0.out, List.append_assoc])
  clear HR HK HBK pR0 pW0 pB0 pY0 pR1 pW1 pB1 pY1 pL0
  go_loopw [0, 5] (fun o k wr => ∃ j : Nat, j ≤ l.length ∧ k = .int .i64 j ∧ (∃ a c n, o = .slice a n c) ∧ Row (intE .u8) 5 w.heap.size wr o (pq1 ++ valP (l.take j)) ∧ Below pz1.heap.size pz1 wr) (fun _ k _ => l.length - (intOf k).toNat)
  case atStart => exact ⟨0, Nat.zero_le _, rfl, ⟨_, _, _, rfl⟩, by simpa [valP] using HRZ.out, Below.refl _ _⟩
  case round =>
    obtain ⟨j, hj, rfl, ⟨ao, co, no, rfl⟩, hr, hb⟩ := hrel
    have e2 : wr.cell? ⟨g0, 2, none⟩ = some (.slice a l.length c) := (HKZ.out.keep hb).cell 2
    have HR := Lib.hid hr
    have HB := Lib.hid hb
    by_cases hlt : j < l.length
    · obtain ⟨rfl, hg⟩ := HA.out (by omega)
      have d1 := kc ((HBZ.out.trans (hb.mono HBZ.out.size))) (HC.out j hlt)
      have hx := HBL.out _ (show l.getD j 0 ∈ l by rw [show l.getD j 0 = l[j] by simp [List.getD, hlt]]; exact List.getElem_mem hlt)
      have hlen : (pq1 ++ valP (l.take j)).length = nQ + 16 + 4 * j := by rw [List.length_append, pL1.out, valP_len, List.length_take]; omega
      have HST : Hid (pq1 ++ valP (l.take (j + 1)) = (pq1 ++ valP (l.take j)) ++ be 4 (l.getD j 0)) := Lib.hid (by rw [valP_step hlt, List.append_assoc])
      have HLEN := Lib.hid hlen
      generalize l.getD j 0 = x at *
      generalize pq1 ++ valP (l.take j) = P at *
      have hxw : IntKind.u64.wrap x = x := IntWalk.u64_in _ (by unfold u32B at hx; omega)
      obtain ⟨ao2, co2, hao, hco1, hco2⟩ := hr.rd.form
      cases hao
      have HXB : Hid (0 ≤ x ∧ x ≤ 18446744073709551615) := Lib.hid (by unfold u32B at hx; omega)
      clear hr hb hlen hx
      go_wp2_with fail
      refine (rput_any _ P x 4 HXB.out wr HR.out.rd (by rw [HLEN.out]; omega)).mono ?_
      rintro e z1 ⟨v1, rfl, hr1, hb1⟩
      rw [sz4'] at hr1
      obtain ⟨P1, hP1⟩ : ∃ P1, P1 = P ++ be 4 x := ⟨_, rfl⟩
      rw [← hP1] at hr1
      have HP1 := Lib.hid hP1
      have HR1 := Lib.hid (hr1.mono (show w.heap.size ≤ wr.heap.size by have := HB.out.size; have := HBZ.out.size; omega))
      have HB1 := Lib.hid (nest HB.out hb1)
      obtain ⟨a1, c1, rfl, _, _⟩ := hr1.rd.form
      clear hr1 hb1 hP1
      go_wp2_with fail
      exact ⟨⟨j + 1, by omega, by go_num, ⟨_, _, _, rfl⟩, by rw [HST.out, ← HP1.out]; exact HR1.out, HB1.out⟩, by simp [intOf]; omega⟩
    · have hjn : j = l.length := by omega
      subst hjn
      have HE : Hid (pq1 ++ valP (l.take l.length) = Q ++ recP (i, v, l)) := Lib.hid (by rw [List.take_length, HQ2.out]; simp [recP, List.append_assoc])
      clear hr hb
      go_wp2_with fail
      go_ret
      exact ⟨_, rfl, by rw [← HE.out]; exact HR.out, nest HBZ.out HB.out⟩
end Go.Proofs.Ythhelhhlofdehaa
