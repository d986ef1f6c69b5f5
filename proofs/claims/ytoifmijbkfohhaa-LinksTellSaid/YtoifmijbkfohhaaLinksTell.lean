/- Walk of the law LinksTell. -/
import Derived.Test.YtoifmijbkfohhaaLkLaw
set_option maxRecDepth 4000
namespace Go.Proofs.Ytoifmijbkfohhaa.linksTell
open Go.RowKit Mem
set_option linter.unusedSimpArgs false
set_option linter.unusedVariables false
attribute [local irreducible] Go.Calls

theorem made_ok {l : List Int} (hb : ∀ x ∈ l, 0 ≤ x ∧ x ≤ 4294967295) : okR (addsR [] (l.take 60)) := by
  have h := (addsR_facts (l.take 60) (fun x hx => hb x (List.mem_of_mem_take hx)) (l.take 60).length (Nat.le_refl _) (by simp; omega)).1
  rwa [List.take_length] at h
set_option maxRecDepth 100000 in
set_option maxHeartbeats 8000000 in
theorem walk (v : Value) (l : List Int) (p : Int) (bp : 0 ≤ p ∧ p ≤ 4294967295) (n : Int) (bn : -9223372036854775808 ≤ n ∧ n ≤ 9223372036854775807) (s : Int) (bs : 0 ≤ s ∧ s ≤ 18446744073709551615) (w : World) (h : Rd (intE .u32) w v l) (hb : ∀ x ∈ l, 0 ≤ x ∧ x ≤ 4294967295) :
    Calls Try.prog 3 #[v, .int .u32 p, .int .i64 n, .int .u64 s] w fun e w' => e = .returned (.bool true) ∧ Below w.heap.size w w' := by
  have HMD := Lib.hid (made12_any v l w h hb)
  obtain ⟨L, hL⟩ : ∃ x, x = addsR [] (l.take 60) := ⟨_, rfl⟩
  rw [← hL] at HMD
  have HBP := Lib.hid bp
  have HBS := Lib.hid bs
  have HBN := Lib.hid bn
  obtain ⟨a, c, rfl, _, _⟩ := h.form
  clear h hb hL bp bs bn
  go_enter Try.func3, Try.ntmps3
  go_upto_region 2 with (go_at_call 6; refine HMD.out.mono ?_; rintro e w1 ⟨r, rr, rfl, hp, hk⟩)
  have HP := Lib.hid hp
  have HK := Lib.hid hk
  clear hp hk HMD
  go_upto_region 3 with (go_at_call 7; refine (dnew_any s HBS.out w1).mono ?_; rintro e w2 ⟨d, rfl, hd0, hd, hk⟩)
  have hX : Below w2.heap.size w2 (w2.alloc (.cells #[.int .u64 s] 33)) := more (Below.refl _ _) _
  have HS := Lib.hid (lks_mk (s := s) (t := s) HP.out (nest hk hX) (hd.keep hX) hd0 (Blk.new w2 33 #[.int .u64 s]) hk.size (fun e => by have := hd.lt; omega) HK.out.size)
  have HK3 := Lib.hid (nest (nest HK.out hk) hX)
  clear hd hd0 hk hX HP HK
  generalize w2.alloc (.cells #[.int .u64 s] 33) = w3 at *
  generalize w2.heap.size = e at *
  go_upto_region 5 with (go_at_call 8; refine (lkawake_any w3).mono ?_; rintro e w4 ⟨rfl, hk⟩)
  have HS4 := Lib.hid (HS.out.keep hk)
  have HK4 := Lib.hid (nest HK3.out hk)
  clear hk HS HK3
  obtain ⟨m, hm, hmb⟩ : ∃ m : Int, (if 100 < n then 100 else n) = m ∧ -9223372036854775808 ≤ m ∧ m ≤ 9223372036854775807 := ⟨_, rfl, by have := HBN.out; split <;> omega⟩
  have HMB := Lib.hid hmb
  have KEY : Hid (∀ z : World, LkS w.heap.size z r rr d e L s s → True) := Lib.hid (fun _ _ => trivial)
  by_cases hn : 100 < n
  all_goals
    first
      | (have hm1 : m = 100 := by rw [← hm, if_pos hn]
         subst hm1)
      | (have hm1 : m = n := by rw [← hm, if_neg hn]
         subst hm1)
    clear hm hmb
    go_upto_region 7 with fail
    go_upto_region 8 with (first | (go_at_call 9; refine (lks_of w.heap.size r rr d e L s s w4 HS4.out HK4.out.size p _ HBS.out HBP.out HMB.out).mono ?_; rintro e1 w5 ⟨va, rfl, hva, hs5, hk5⟩) | (go_at_call 10; refine (lks_links w.heap.size r rr d e L _ s w5 hs5 (HK4.out.trans hk5).size p _ HBS.out HBP.out HMB.out).mono ?_; rintro e1 w6 ⟨vb, rfl, hvb, hs6, ht6, hk6⟩))
    have HVA := Lib.hid (rd_over hva hs5.e ht6)
    have HVB := Lib.hid hvb.rd
    have HS6 := Lib.hid hs6
    have HK6 := Lib.hid ((HK4.out.trans hk5).trans hk6)
    obtain ⟨aa, ca, rfl, _, _⟩ := hva.form
    obtain ⟨ab, cb, rfl, _, _⟩ := hvb.rd.form
    have HPL := Lib.hid (plainU_yes _ _ _ w6 HVA.out HVB.out)
    clear hva hvb hs5 hs6 hk5 hk6 ht6 HS4 HK4
    first
      | (obtain ⟨S, hS⟩ : ∃ x, x = linksR L p 100 s := ⟨_, rfl⟩
         obtain ⟨q, hq⟩ : ∃ x, x = linksE L p 100 s := ⟨_, rfl⟩
         have HE : Hid (0 ≤ q ∧ q ≤ 18446744073709551615) := Lib.hid (by rw [hq]; exact linksE_bd HBS.out)
         rw [← hS] at HVA HVB HPL ⊢
         rw [← hq] at HS6
         clear hS hq)
      | (obtain ⟨S, hS⟩ : ∃ x, x = linksR L p m s := ⟨_, rfl⟩
         obtain ⟨q, hq⟩ : ∃ x, x = linksE L p m s := ⟨_, rfl⟩
         have HE : Hid (0 ≤ q ∧ q ≤ 18446744073709551615) := Lib.hid (by rw [hq]; exact linksE_bd HBS.out)
         rw [← hS] at HVA HVB HPL ⊢
         rw [← hq] at HS6
         clear hS hq)
    have n1 := farV_bd q
    obtain ⟨fv, hfv⟩ : ∃ x, x = farV q := ⟨_, rfl⟩
    have HFV := Lib.hid hfv
    clear hfv n1
    obtain ⟨sv, hsv⟩ : ∃ x, x = dmix (dnext (farS q)) := ⟨_, rfl⟩
    have HSV := Lib.hid hsv
    clear hsv
    refine Run.region_seq (S := fun z => Below w.heap.size w z)
      [0, 0, 1, 0, 0, 1, 0, 1, 0, 0, 0, 0, 1, 0, 1, 0, 0, 0] (l := ?_) ?_ HK6.out ?_
    rotate_left
    (· simp only [Run.seqOf, List.toList_toArray, Run.stepsOf, Run.stepOf, Run.guardOf, List.getElem?_toArray, List.getElem?_cons_zero, List.getElem?_cons_succ, Option.map_some, Option.map_none, Option.bind_some, Option.toList_some, List.map_cons, List.map_nil, List.cons_append, List.nil_append, List.append_eq]
       rfl)
    repeat ((first
      | (refine Run.takes (v := ?_) ?_ ?_; rotate_left; (· intro w' hS'; go_simp; (try with_reducible rfl)))
      | (refine Run.takesG (v := ?_) ?_ ?_ ?_; rotate_left; (· simp only [List.getElem?_cons_zero, List.getElem?_cons_succ]); (· intro w' hS'; go_simp; (try with_reducible rfl)))
      | (refine Run.skipsT ?_ ?_; (· simp only [List.getElem?_cons_zero, List.getElem?_cons_succ]))
      | (refine Run.skipsF ?_ ?_; (· simp only [List.getElem?_cons_zero, List.getElem?_cons_succ]))
      | (refine Run.skipsU ?_ ?_; (· simp only [List.getElem?_cons_zero, List.getElem?_cons_succ]))
      | (refine Run.passT ?_ ?_; (· simp only [List.getElem?_cons_zero, List.getElem?_cons_succ]))
      | (refine Run.passF ?_ ?_; (· simp only [List.getElem?_cons_zero, List.getElem?_cons_succ]))
      | (refine Run.passU ?_ ?_; (· simp only [List.getElem?_cons_zero, List.getElem?_cons_succ]))
      | (refine Run.runs ?_
         (first
         | (refine Run.callF 11 (by kernel_rfl) (fun hS => HPL.out) rfl ?_)
         | (refine Run.callG 11 (by kernel_rfl) ?_ (fun hS => HPL.out) rfl ?_; (· simp only [List.getElem?_cons_zero, List.getElem?_cons_succ]))
         | (refine Run.callF 12 (by kernel_rfl) (fun hS => (HFV.out ▸ lks_far w.heap.size r rr d e L q q _ HSX.out hS.size HE.out)) rfl ?_)
         | (refine Run.callG 12 (by kernel_rfl) ?_ (fun hS => (HFV.out ▸ lks_far w.heap.size r rr d e L q q _ HSX.out hS.size HE.out)) rfl ?_; (· simp only [List.getElem?_cons_zero, List.getElem?_cons_succ]))
         | (refine Run.callF 13 (by kernel_rfl) (fun hS => (HFV.out ▸ lks_rfar w.heap.size r rr d e L _ q _ HSX.out hS.size HE.out)) rfl ?_)
         | (refine Run.callG 13 (by kernel_rfl) ?_ (fun hS => (HFV.out ▸ lks_rfar w.heap.size r rr d e L _ q _ HSX.out hS.size HE.out)) rfl ?_; (· simp only [List.getElem?_cons_zero, List.getElem?_cons_succ]))
         | (refine Run.callF 14 (by kernel_rfl) (fun hS => (HSV.out ▸ lks_step w.heap.size r rr d e L (farS q) _ _ HSX.out hS.size (farS_bd q))) rfl ?_)
         | (refine Run.callG 14 (by kernel_rfl) ?_ (fun hS => (HSV.out ▸ lks_step w.heap.size r rr d e L (farS q) _ _ HSX.out hS.size (farS_bd q))) rfl ?_; (· simp only [List.getElem?_cons_zero, List.getElem?_cons_succ]))
         | (refine Run.callF 15 (by kernel_rfl) (fun hS => (HSV.out ▸ lks_rstep w.heap.size r rr d e L _ (farS q) _ HSX.out hS.size (farS_bd q))) rfl ?_)
         | (refine Run.callG 15 (by kernel_rfl) ?_ (fun hS => (HSV.out ▸ lks_rstep w.heap.size r rr d e L _ (farS q) _ HSX.out hS.size (farS_bd q))) rfl ?_; (· simp only [List.getElem?_cons_zero, List.getElem?_cons_succ]))
         | fail)
         (first
         | (rintro hS e w' ⟨rfl, hb⟩; have HSX := Lib.hid (HS6.out.keep hb); refine ⟨_, rfl, nest hS hb, ?_⟩; clear hb)
         | (rintro hS e w' ⟨rfl, hs, hb⟩; have HSX := Lib.hid hs; refine ⟨_, rfl, hS.trans hb, ?_⟩; clear hs hb)
         | (rintro hS e w' ⟨rfl, rfl⟩; refine ⟨_, rfl, hS, ?_⟩)
         | fail))
      | fail); simp only [Act.put, List.setIfInBounds_toArray, List.set_cons_zero, List.set_cons_succ])
    refine Run.ends (fun hS => ?_)
    have HKE := Lib.hid hS
    clear hS
    go_wp2_with fail
    go_ret
    exact ⟨rfl, HKE.out⟩
end Go.Proofs.Ytoifmijbkfohhaa.linksTell
