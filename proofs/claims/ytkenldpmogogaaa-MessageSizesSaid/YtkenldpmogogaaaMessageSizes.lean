/- Walk of the law MessageSizes. -/
import Derived.Test.YtkenldpmogogaaaMsgFew
set_option maxRecDepth 4000
namespace Go.Proofs.Ytkenldpmogogaaa
open Go.RowKit Mem
set_option linter.unusedSimpArgs false
set_option linter.unusedVariables false
attribute [local irreducible] Go.Calls

theorem entM_len (m : Msg) : (entM m).length = 17 + 4 * m.vals.length := by
  unfold entM
  rw [List.length_append, be_len, recP_len]
  simp only []
  omega
theorem recsP_len {l : List (Int × Int × List Int)} {n : Nat} (h : ∀ x ∈ l, x.2.2.length = n) : (recsP l).length = l.length * (16 + 4 * n) := by
  induction l with
  | nil => simp [recsP]
  | cons x l ih =>
    have h1 := h x (by simp)
    have h2 := ih (fun y hy => h y (by simp [hy]))
    have e : recsP (x :: l) = recP x ++ recsP l := rfl
    rw [e, List.length_append, recP_len, List.length_cons, Nat.add_mul, Nat.one_mul]
    omega
theorem headM_len (m : Msg) : (headM m).length = 9 := by simp only [headM, List.length_append, be_len]
theorem packM_len {attrs : Int} {m : Msg} (h : RightF attrs m) : ((packM m).length : Int) =
    if m.kind = 1 then 27 + 4 * attrs else if m.kind = 2 ∨ m.kind = 3 then 34 + 4 * attrs else if m.kind = 4 then 26 + 4 * attrs else if m.kind = 5 then 19 + 9 * attrs else 19 + m.recs.length * (16 + 4 * attrs) := by
  have hk := h.kind
  unfold packM tailM
  rw [List.length_append, headM_len]
  by_cases h1 : m.kind = 1
  · have := (h.vals (by omega)).1
    rw [if_pos h1, if_pos h1, List.length_append, entM_len, be_len]
    omega
  rw [if_neg h1, if_neg h1]
  by_cases h2 : m.kind = 2 ∨ m.kind = 3
  · have := (h.vals (by omega)).1
    rw [if_pos h2, if_pos h2, List.length_append, List.length_append, entM_len, be_len, be_len]
    omega
  rw [if_neg h2, if_neg h2]
  by_cases h4 : m.kind = 4
  · have := (h.vals (by omega)).1
    rw [if_pos h4, if_pos h4, entM_len]
    omega
  rw [if_neg h4, if_neg h4]
  by_cases h5 : m.kind = 5
  · have := (h.box h5).1
    rw [if_pos h5, if_pos h5, List.length_append, List.length_append, List.length_append, be_len, be_len, be_len, packV_len]
    omega
  rw [if_neg h5, if_neg h5]
  have h6 := (h.recs (by omega)).2
  have ha := h.a
  obtain ⟨n, hn⟩ := Int.eq_ofNat_of_zero_le (show 0 ≤ attrs by omega)
  have e := recsP_len (l := m.recs) (n := n) (fun x hx => by have := h6 x hx; omega)
  rw [List.length_append, List.length_append, List.length_append, be_len, be_len, be_len, e, hn]
  push_cast
  omega
theorem packM_first {m : Msg} (h : 0 ≤ m.kind ∧ m.kind ≤ 255) : (packM m).getD 0 0 = m.kind ∧ 0 < (packM m).length := by
  have e : be 1 m.kind = [m.kind] := by
    unfold be be
    simp
    omega
  have e2 : packM m = m.kind :: ((be 1 m.hub ++ (be 1 m.client ++ (be 2 m.op ++ be 4 m.point))) ++ tailM m) := by
    unfold packM headM
    rw [e]
    rfl
  rw [e2]
  exact ⟨rfl, by simp⟩
end Go.Proofs.Ytkenldpmogogaaa
namespace Go.Proofs.Ytkenldpmogogaaa.messageSizes
open Go.RowKit Mem
set_option linter.unusedSimpArgs false
set_option linter.unusedVariables false
attribute [local irreducible] Go.Calls
set_option maxRecDepth 100000 in
set_option maxHeartbeats 4000000 in
theorem walk (attrs : Int) (_ : -9223372036854775808 ≤ attrs ∧ attrs ≤ 9223372036854775807) (m : Msg) (v b r : Value) (w : World) (h : MRd w m v b r) (hb : MB m) :
    Calls Try.prog 7 #[.int .i64 attrs, .agg (mcs m v b r).toArray] w fun e w' => e = .returned (.bool true) ∧ Below w.heap.size w w' := by
  have hk0 : Below w.heap.size w (w.alloc (.cells (mcs m v b r).toArray 34)) := more (Below.refl _ _) _
  have HBK := Lib.hid (Blk.new w 34 (mcs m v b r).toArray)
  have HK := Lib.hid hk0
  have HM := Lib.hid (h.keep hk0)
  have HBD := Lib.hid hb
  obtain ⟨ar', gr', or'', cr', hrv, hc1, hc2, _, _⟩ := kd_loop h.recs
  have HRV := Lib.hid hrv
  have hcb : cr' ≤ 9223372036854775807 := hc2
  clear hk0 h hb hrv hc2
  go_enter Try.func7, Try.ntmps7
  go_upto_region 1 with fail
  generalize w.alloc (.cells (mcs m v b r).toArray 34) = w1 at *
  obtain ⟨g, hg⟩ : ∃ g, g = w.heap.size := ⟨_, rfl⟩
  rw [← hg] at HBK ⊢
  clear hg
  have HC := Lib.hid (few_any m v b r w1 HM.out)
  cases hf : fewM m with
  | false =>
    rw [hf] at HC
    go_wp2_with (first | (refine wpList_load_row rfl 34 (.tmp 3) rfl g rfl 34 (mcs m v b r).toArray (0, 0) _ HBK.out Try.underlying34 rfl msg_info ?_) | (go_at_call 8; refine HC.out.mono ?_; rintro e w2 ⟨rfl, hk2⟩) | (go_at_call 9; refine (mawake_any _).mono ?_; rintro e w3 ⟨rfl, hk3⟩))
    go_ret
    exact ⟨rfl, nest (nest HK.out hk2) hk3⟩
  | true =>
    rw [hf] at HC
    clear hf
    go_upto_region 3 with (first | (refine wpList_load_row rfl 34 (.tmp 3) rfl g rfl 34 (mcs m v b r).toArray (0, 0) _ HBK.out Try.underlying34 rfl msg_info ?_) | (go_at_call 8; refine HC.out.mono ?_; rintro e w2 ⟨rfl, hk2⟩))
    have HB2 := Lib.hid (HBK.out.keep hk2)
    have HM2 := Lib.hid (HM.out.keep hk2)
    have HK2 := Lib.hid (nest HK.out hk2)
    clear HBK HM HK HC hk2
    have HC := Lib.hid (ompack_any attrs m v b r w2 HM2.out HBD.out)
    go_upto_region 4 with (first | (refine wpList_load_row rfl 34 (.tmp 3) rfl g rfl 34 (mcs m v b r).toArray (0, 0) _ HB2.out Try.underlying34 rfl msg_info ?_) | (go_at_call 11; refine HC.out.mono ?_; rintro e w3 (⟨_, ⟨ax, cx, rfl, hcx⟩, hk3⟩ | ⟨hr, ⟨x, rfl, hx⟩, hk3⟩)))
    · go_wp2_with (go_at_call 9; refine (mawake_any _).mono ?_; rintro e w4 ⟨rfl, hk4⟩)
      go_ret
      exact ⟨rfl, nest (nest HK2.out hk3) hk4⟩
    · have HF := Lib.hid (right_f hr)
      have hl := packM_len (right_f hr)
      obtain ⟨hfs, hpos⟩ := packM_first (m := m) (by have := (right_f hr).kind; omega)
      have ka := (right_f hr).a
      have kk := (right_f hr).kind
      have krl := fun h6 => ((right_f hr).recs h6).1
      obtain ⟨P, hP⟩ : ∃ P, P = packM m := ⟨_, rfl⟩
      rw [← hP] at hx hl hfs hpos
      obtain ⟨ax, gx, ox, cx, rfl, hc1x, hc2x, hax, hcx⟩ := Mem.Rd.loopI hx
      obtain ⟨rfl, hgx⟩ := hax hpos
      have cx0 : w3.cell? ⟨gx, ox + 0, none⟩ = some (.int .u8 m.kind) := by rw [← hfs]; exact hcx 0 hpos
      rw [Nat.add_zero] at cx0
      have HL := Lib.hid hl
      have HPOS := Lib.hid hpos
      have HB3 := Lib.hid (HB2.out.keep hk3)
      have HK3 := Lib.hid (nest HK2.out hk3)
      have c0 : w3.cell? ⟨g, 0, none⟩ = some (.int .i64 m.kind) := HB3.out.cell 0
      have c17 : w3.cell? ⟨g, 17, none⟩ = some (.slice ar' m.recs.length cr') := by rw [← HRV.out]; exact HB3.out.cell 17
      have hcx9 : cx ≤ 9223372036854775807 := hc2x
      have HPP := Lib.hid hP
      have HCX := Lib.hid cx0
      clear hx hl hfs hax hcx hk3 HB2 HM2 HK2 HC hr hP hc2x cx0
      have hks : m.kind = 1 ∨ m.kind = 2 ∨ m.kind = 3 ∨ m.kind = 4 ∨ m.kind = 5 ∨ m.kind = 6 := by omega
      rcases hks with hq | hq | hq | hq | hq | hq
      rotate_left 5
      · have h10 := krl hq
        have hm1 : 0 ≤ (m.recs.length : Int) * (16 + 4 * attrs) := Int.mul_nonneg (by omega) (by omega)
        have hm2 : (m.recs.length : Int) * (16 + 4 * attrs) ≤ 10000 * 48 := Int.mul_le_mul (by omega) (by omega) (by omega) (by omega)
        clear h10
        rw [hq] at c0 HCX
        have hll := HL.out
        rw [hq] at hll
        simp at hll
        clear HL kk krl
        have HLL := Lib.hid hll
        clear hll
        go_upto_region 18 with fail
        have HC0 := Lib.hid c0
        clear c0 c17
        rw [← HLL.out]
        have hdd : decide (0 < P.length) = true := decide_eq_true HPOS.out
        have hpos := HPOS.out
        refine Run.region_walk (S := fun z => z.cell? ⟨g, 0, none⟩ = some (.int .i64 _) ∧ z.cell? ⟨gx, ox, none⟩ = some (.int .u8 _) ∧ Below w3.heap.size w3 z)
          lmsizes.rows18 lmsizes.plan18 (l := ?_) (by kernel_rfl) (by kernel_rfl) (by kernel_rfl) (by kernel_rfl) ?_ ⟨HC0.out, HCX.out, (Below.refl _ _).drew⟩ ?_
        rotate_left
        (· simp only [lmsizes.plan18, Run.stepsOf, Run.stepOf, Run.guardOf, List.getElem?_toArray, List.getElem?_cons_zero, List.getElem?_cons_succ, Option.map_some, Option.map_none, Option.bind_some, Option.toList_some, List.map_cons, List.map_nil, List.cons_append, List.nil_append]
           rfl)
        repeat ((first
          | (refine Run.takes (v := ?_) ?_ ?_; rotate_left; (· intro w' hS'; go_simp; (try with_reducible rfl)))
          | (refine Run.takesG (v := ?_) ?_ ?_ ?_; rotate_left; (· simp only [List.getElem?_cons_zero, List.getElem?_cons_succ]); (· intro w' hS'; go_simp; (try with_reducible rfl)))
          | (refine Run.skipsT ?_ ?_; (· simp only [List.getElem?_cons_zero, List.getElem?_cons_succ]))
          | (refine Run.skipsF ?_ ?_; (· simp only [List.getElem?_cons_zero, List.getElem?_cons_succ]))
          | (refine Run.skipsU ?_ ?_; (· simp only [List.getElem?_cons_zero, List.getElem?_cons_succ]))
          | (refine Run.passT ?_ ?_; (· simp only [List.getElem?_cons_zero, List.getElem?_cons_succ]))
          | (refine Run.passF ?_ ?_; (· simp only [List.getElem?_cons_zero, List.getElem?_cons_succ]))
          | (refine Run.passU ?_ ?_; (· simp only [List.getElem?_cons_zero, List.getElem?_cons_succ]))
          | (refine Run.runs ?_
             (first
             | (refine Run.callF 9 (by kernel_rfl) (fun hS => mawake_any _) rfl ?_)
             | (refine Run.callG 9 (by kernel_rfl) ?_ (fun hS => mawake_any _) rfl ?_; (· simp only [List.getElem?_cons_zero, List.getElem?_cons_succ]))
             | fail)
             (first
             | (rintro hS e w' ⟨rfl, rfl⟩; refine ⟨_, rfl, hS, ?_⟩)
             | (rintro hS e w' ⟨rfl, hb⟩; refine ⟨_, rfl, ⟨kc hb hS.1, kc hb hS.2.1, nest hS.2.2 hb⟩, ?_⟩)
             | fail))
          | fail); simp only [Act.put, List.setIfInBounds_toArray, List.set_cons_zero, List.set_cons_succ])
        refine Run.ends (fun hS => ?_)
        have HX := Lib.hid hS.2.2
        clear hS
        go_wp2_with fail
        go_ret
        exact ⟨rfl, nest HK3.out HX.out⟩
      all_goals
        rw [hq] at c0 HCX
        have hll := HL.out
        rw [hq] at hll
        simp at hll
        clear HL kk krl
        have HLL := Lib.hid hll
        clear hll
        go_upto_region 18 with fail
        have HC0 := Lib.hid c0
        clear c0 c17
        rw [← HLL.out]
        have hdd : decide (0 < P.length) = true := decide_eq_true HPOS.out
        have hpos := HPOS.out
        refine Run.region_walk (S := fun z => z.cell? ⟨g, 0, none⟩ = some (.int .i64 _) ∧ z.cell? ⟨gx, ox, none⟩ = some (.int .u8 _) ∧ Below w3.heap.size w3 z)
          lmsizes.rows18 lmsizes.plan18 (l := ?_) (by kernel_rfl) (by kernel_rfl) (by kernel_rfl) (by kernel_rfl) ?_ ⟨HC0.out, HCX.out, (Below.refl _ _).drew⟩ ?_
        rotate_left
        (· simp only [lmsizes.plan18, Run.stepsOf, Run.stepOf, Run.guardOf, List.getElem?_toArray, List.getElem?_cons_zero, List.getElem?_cons_succ, Option.map_some, Option.map_none, Option.bind_some, Option.toList_some, List.map_cons, List.map_nil, List.cons_append, List.nil_append]
           rfl)
        repeat ((first
          | (refine Run.takes (v := ?_) ?_ ?_; rotate_left; (· intro w' hS'; go_simp; (try with_reducible rfl)))
          | (refine Run.takesG (v := ?_) ?_ ?_ ?_; rotate_left; (· simp only [List.getElem?_cons_zero, List.getElem?_cons_succ]); (· intro w' hS'; go_simp; (try with_reducible rfl)))
          | (refine Run.skipsT ?_ ?_; (· simp only [List.getElem?_cons_zero, List.getElem?_cons_succ]))
          | (refine Run.skipsF ?_ ?_; (· simp only [List.getElem?_cons_zero, List.getElem?_cons_succ]))
          | (refine Run.skipsU ?_ ?_; (· simp only [List.getElem?_cons_zero, List.getElem?_cons_succ]))
          | (refine Run.passT ?_ ?_; (· simp only [List.getElem?_cons_zero, List.getElem?_cons_succ]))
          | (refine Run.passF ?_ ?_; (· simp only [List.getElem?_cons_zero, List.getElem?_cons_succ]))
          | (refine Run.passU ?_ ?_; (· simp only [List.getElem?_cons_zero, List.getElem?_cons_succ]))
          | (refine Run.runs ?_
             (first
             | (refine Run.callF 9 (by kernel_rfl) (fun hS => mawake_any _) rfl ?_)
             | (refine Run.callG 9 (by kernel_rfl) ?_ (fun hS => mawake_any _) rfl ?_; (· simp only [List.getElem?_cons_zero, List.getElem?_cons_succ]))
             | fail)
             (first
             | (rintro hS e w' ⟨rfl, rfl⟩; refine ⟨_, rfl, hS, ?_⟩)
             | (rintro hS e w' ⟨rfl, hb⟩; refine ⟨_, rfl, ⟨kc hb hS.1, kc hb hS.2.1, nest hS.2.2 hb⟩, ?_⟩)
             | fail))
          | fail); simp only [Act.put, List.setIfInBounds_toArray, List.set_cons_zero, List.set_cons_succ])
        refine Run.ends (fun hS => ?_)
        have HX := Lib.hid hS.2.2
        clear hS
        go_wp2_with fail
        go_ret
        exact ⟨rfl, nest HK3.out HX.out⟩
end Go.Proofs.Ytkenldpmogogaaa.messageSizes
