/- Walk of the law GreedyTells. -/
import Derived.Test.YtbhnpidbgckinaaGrLaw
import Derived.Test.YtbhnpidbgckinaaOwnU
set_option maxRecDepth 4000
namespace Go.Proofs.Ytbhnpidbgckinaa.greedyTells
open Go.RowKit Mem
set_option linter.unusedSimpArgs false
set_option linter.unusedVariables false
attribute [local irreducible] Go.Calls

set_option maxRecDepth 100000 in
set_option maxHeartbeats 8000000 in
theorem walk (v : Value) (l : List Int) (u : Value) (tn : List Int) (a : Int) (ba : 0 ≤ a ∧ a ≤ 4294967295) (x : Int) (bx : 0 ≤ x ∧ x ≤ 4294967295) (w : World) (h : Rd (intE .u32) w v l) (hb : ∀ x ∈ l, 0 ≤ x ∧ x ≤ 4294967295) (hu : Rd (intE .u32) w u tn) (htb : ∀ x ∈ tn, 0 ≤ x ∧ x ≤ 4294967295) :
    Calls Try.prog 3 #[v, u, .int .u32 a, .int .u32 x] w fun e w' => e = .returned (.bool true) ∧ Below w.heap.size w w' := by
  have HMD := Lib.hid (made13_any v l w h hb)
  obtain ⟨L, hL⟩ : ∃ x, x = addsR [] (l.take 60) := ⟨_, rfl⟩
  rw [← hL] at HMD
  have HBA := Lib.hid ba
  have HBX := Lib.hid bx
  have HU := Lib.hid hu
  have HTB := Lib.hid htb
  obtain ⟨av, cv, rfl, _, _⟩ := h.form
  obtain ⟨au, cu, rfl, hcu, hmu⟩ := hu.form
  have hmu' : cu ≤ 9223372036854775807 := hmu
  clear h hb hL ba bx hu htb hmu
  go_enter Try.func3, Try.ntmps3
  go_upto_region 2 with (go_at_call 8; refine HMD.out.mono ?_; rintro e w1 ⟨r, rr, rfl, hp, hk⟩)
  have HP := Lib.hid hp
  have HK := Lib.hid hk
  have HU1 := Lib.hid (HU.out.keep hk)
  clear hp hk HMD HU
  by_cases h60 : 60 < tn.length
  · have h60i : (60 : Int) < (tn.length : Int) := by omega
    go_wp2_with (go_at_call 9; refine (grawake_any w1).mono ?_; rintro e w2 ⟨rfl, hk⟩)
    go_ret
    exact ⟨rfl, nest HK.out hk⟩
  have h60i : ¬ (60 : Int) < (tn.length : Int) := by omega
  have HLE : Hid (tn.length ≤ 60) := Lib.hid (by omega)
  go_upto_region 5 with (go_at_call 10; refine (ownu_any _ tn 71 w1 HU1.out (by have := HLE.out; omega)).mono ?_; rintro e w2 ⟨g, rfl, hr, hk⟩)
  have HR2 := Lib.hid hr
  have HP2 := Lib.hid (HP.out.keep hk)
  have HU2 := Lib.hid (HU1.out.keep hk)
  have HK2 := Lib.hid (nest HK.out hk)
  have HIN2 : Hid (Rd (intE .u32) w2 (.slice (some ⟨g, 0, none⟩) tn.length (tn.length + 3)) tn) := Lib.hid (own_rd (m := [71, 71, 71]) hr.rd)
  clear hr hk HP HU1 HK h60 h60i
  go_upto_region 6 with (go_at_call 11; refine (pr_next _ r rr L L w2 HP2.out tn _ a x HIN2.out HTB.out HBA.out HBX.out).mono ?_; rintro e w3 ⟨rfl, hk⟩)
  have HR3 := Lib.hid (HR2.out.keep hk)
  have HP3 := Lib.hid (HP2.out.keep hk)
  have HU3 := Lib.hid (HU2.out.keep hk)
  have HK3 := Lib.hid (nest HK2.out hk)
  clear hk HR2 HP2 HU2 HK2 HIN2
  go_upto_region 7 with (go_at_call 12; refine (pr_go _ r rr L L w3 HP3.out tn _ a x HU3.out HBA.out HBX.out).mono ?_; rintro e w4 ⟨rfl, hk⟩)
  have HR4 := Lib.hid (HR3.out.keep hk)
  have HU4 := Lib.hid (HU3.out.keep hk)
  have HK4 := Lib.hid (nest HK3.out hk)
  clear hk HR3 HP3 HU3 HK3
  generalize (goR L tn a x).1 = g1
  generalize (goR L tn a x).2 = g2
  refine Run.region_seq (S := fun z => Below w.heap.size w z)
    [1, 0, 0, 0, 0, 0, 0, 0, 0, 0, 0, 0, 0, 0, 1, 0, 0] (l := ?_) ?_ HK4.out ?_
  rotate_left
  (· simp only [Run.seqOf, List.toList_toArray, Run.stepsOf, Run.stepOf, Run.guardOf, List.getElem?_toArray, List.getElem?_cons_zero, List.getElem?_cons_succ, Option.map_some, Option.map_none, Option.bind_some, Option.toList_some, List.map_cons, List.map_nil, List.cons_append, List.nil_append, List.append_eq]
     rfl)
  repeat ((first
    | (refine Run.takes (v := ?_) ?_ ?_; rotate_left; (· intro w' hS'; go_simp; (try with_reducible rfl)))
    | (refine Run.takesG (v := ?_) ?_ ?_ ?_; rotate_left; (· simp only [List.getElem?_cons_zero, List.getElem?_cons_succ]); (· intro w' hS'; go_simp; (try with_reducible rfl)))
    | (refine Run.skipsT ?_ ?_; (· simp only [List.getElem?_cons_zero, List.getElem?_cons_succ]))
    | (refine Run.skipsF ?_ ?_; (· simp only [List.getElem?_cons_zero, List.getElem?_cons_succ]))
    | (refine Run.skipsU ?_ ?_; (· simp only [List.getElem?_cons_zero, List.getElem?_cons_succ]))
    | (refine Run.passT ?_ ?_; (· simp only [List.getElem?_cons_zero, List.getElem?_cons_succ]))
    | (refine Run.passF ?_ ?_; (· simp only [List.getElem?_cons_zero, List.getElem?_cons_succ]))
    | (refine Run.passU ?_ ?_; (· simp only [List.getElem?_cons_zero, List.getElem?_cons_succ]))
    | (refine Run.runs ?_
       (first
       | (refine Run.callF 9 (by kernel_rfl) (fun hS => grawake_any w4) rfl ?_)
       | (refine Run.callG 9 (by kernel_rfl) ?_ (fun hS => grawake_any w4) rfl ?_; (· simp only [List.getElem?_cons_zero, List.getElem?_cons_succ]))
       | (refine Run.callF 13 (by kernel_rfl) (fun hS => keptu_yes g _ tn 71 _ HR5.out.rd HU5.out (by have := HLE.out; omega)) rfl ?_)
       | (refine Run.callG 13 (by kernel_rfl) ?_ (fun hS => keptu_yes g _ tn 71 _ HR5.out.rd HU5.out (by have := HLE.out; omega)) rfl ?_; (· simp only [List.getElem?_cons_zero, List.getElem?_cons_succ]))
       | fail)
       (first
       | (rintro hS e w' ⟨rfl, hb⟩; have HR5 := Lib.hid (HR4.out.keep hb); have HU5 := Lib.hid (HU4.out.keep hb); refine ⟨_, rfl, nest hS hb, ?_⟩; clear hb)
       | (rintro hS e w' ⟨rfl, rfl⟩; refine ⟨_, rfl, hS, ?_⟩)
       | (rintro hS e w' ⟨rfl, hb⟩; refine ⟨_, rfl, nest hS hb, ?_⟩)
       | fail))
    | fail); simp only [Act.put, List.setIfInBounds_toArray, List.set_cons_zero, List.set_cons_succ])
  refine Run.ends (fun hS => ?_)
  have HKE := Lib.hid hS
  clear hS
  go_wp2_with fail
  go_ret
  exact ⟨rfl, HKE.out⟩
end Go.Proofs.Ytbhnpidbgckinaa.greedyTells
