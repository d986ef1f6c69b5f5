/- Walk of the law BoxMatches. -/
import Derived.Test.YtpdijfhjdbmamaaBoxAwake
namespace Go.Proofs.Ytpdijfhjdbmamaa.boxMatches
open Go.RowKit Mem
set_option linter.unusedSimpArgs false
set_option linter.unusedVariables false
attribute [local irreducible] Go.Calls

theorem in_kind {r : Int × Int × Int} {v : Int} (h : inV r v = true) : ((r.1 == 3) || !kindV r.1) = false := by
  unfold inV at h
  simp only [Bool.or_eq_true, Bool.and_eq_true, beq_iff_eq, decide_eq_true_eq] at h
  have : r.1 = 1 ∨ r.1 = 2 := by
    rcases h with h | h
    · exact .inl h
    · exact .inr h.1
  unfold kindV
  rcases this with e | e <;> rw [e] <;> decide
theorem match_full {l : List (Int × Int × Int)} {vs : List Int} (h : matchV l vs = true) : emptyV l = false := by
  unfold matchV at h
  rw [Bool.and_eq_true, List.all_eq_true] at h
  exact any_no (f := fun (r : Int × Int × Int) => (r.1 == 3) || !kindV r.1) (d := (0, 0, 0)) (fun i hi => in_kind (h.2 i (List.mem_range.2 hi)))
def st (l : List (Int × Int × Int)) (vs : List Int) (k : Nat) (b : Bool) : Prop :=
  (b = true ∧ l.length = vs.length ∧ ∀ i, i < k → inV (l.getD i (0, 0, 0)) (vs.getD i 0) = true) ∨ (b = false ∧ matchV l vs = false)
set_option maxHeartbeats 2000000 in
theorem walk (v1 : Value) (l : List (Int × Int × Int)) (v2 : Value) (vs : List Int) (w : World) (h1 : Rd rngE w v1 l) (bl : ∀ x ∈ l, (-9223372036854775808 ≤ x.1 ∧ x.1 ≤ 9223372036854775807) ∧ (0 ≤ x.2.1 ∧ x.2.1 ≤ 4294967295) ∧ (0 ≤ x.2.2 ∧ x.2.2 ≤ 4294967295))
    (h2 : Rd (intE .u32) w v2 vs) (bv : ∀ x ∈ vs, 0 ≤ x ∧ x ≤ 4294967295) :
    Calls Try.prog 6 #[v1, v2] w fun e w' => e = .returned (.bool true) ∧ Below w.heap.size w w' := by
  have HM := Lib.hid h1
  have HV := Lib.hid h2
  have HRB : Hid (RB l) := Lib.hid (fun x hx => (bl x hx).2)
  have HBV := Lib.hid bv
  obtain ⟨a1, g1, o1, c1, rfl, hc1, hm1, ha1, k1⟩ := Rd.loop3 h1
  obtain ⟨a2, g2, o2, c2, rfl, hc2, hm2, ha2, k2⟩ := Mem.Rd.loopI h2
  have hm1' : c1 ≤ 9223372036854775807 := hm1
  have hm2' : c2 ≤ 9223372036854775807 := hm2
  have H1 := Lib.hid k1
  have H2 := Lib.hid k2
  have HA1 := Lib.hid ha1
  have HA2 := Lib.hid ha2
  clear h1 h2 ha1 ha2 k1 k2 bl bv
  by_cases hl1 : l.length > 50
  · have e1 : (l.length : Int) > 50 := by omega
    go_enter Try.func6, Try.ntmps6
    go_wp2_with fail
    refine (bawake_any _).mono ?_
    rintro e w1 ⟨rfl, hk1⟩
    go_wp2_with fail
    go_ret
    exact ⟨rfl, hk1⟩
  have e1 : ¬ (l.length : Int) > 50 := by omega
  by_cases hl2 : vs.length > 50
  · have e2 : (vs.length : Int) > 50 := by omega
    go_enter Try.func6, Try.ntmps6
    go_wp2_with fail
    refine (bawake_any _).mono ?_
    rintro e w1 ⟨rfl, hk1⟩
    go_wp2_with fail
    go_ret
    exact ⟨rfl, hk1⟩
  have e2 : ¬ (vs.length : Int) > 50 := by omega
  have hst0 : st l vs 0 ((l.length : Int) == vs.length) := by
    by_cases hn : l.length = vs.length
    · exact .inl ⟨by simp [hn], hn, fun i hi => absurd hi (Nat.not_lt_zero _)⟩
    · refine .inr ⟨by simp; omega, ?_⟩
      unfold matchV
      rw [decide_eq_false hn, Bool.false_and]
  have HST0 := Lib.hid hst0
  clear hst0
  go_enter Try.func6, Try.ntmps6
  go_wp2_with fail
  go_loopw [5, 6] (fun b i wr => ∃ (k : Nat) (bb : Bool), k ≤ l.length ∧ b = .bool bb ∧ i = .int .i64 k ∧ st l vs k bb ∧ Below w.heap.size w wr) (fun _ i _ => l.length - (intOf i).toNat)
  case atStart => exact ⟨0, _, Nat.zero_le _, rfl, rfl, HST0.out, Below.refl _ _⟩
  case round =>
    obtain ⟨k, bb, hk, rfl, rfl, hs, hb⟩ := hrel
    have HS := Lib.hid hs
    have HB := Lib.hid hb
    clear hs hb HST0
    have hgo : (bb = true ∧ k < l.length) ∨ ((k = l.length ∨ bb = false) ∧ True) := by
      cases bb
      · exact .inr ⟨.inr rfl, trivial⟩
      · rcases Nat.lt_or_ge k l.length with h | h
        · exact .inl ⟨rfl, h⟩
        · exact .inr ⟨.inl (by omega), trivial⟩
    rcases hgo with ⟨rfl, hlt⟩ | ⟨hend, _⟩
    · obtain ⟨hn, hu⟩ : l.length = vs.length ∧ ∀ i, i < k → inV (l.getD i (0, 0, 0)) (vs.getD i 0) = true := by
        rcases HS.out with h | h
        · exact h.2
        · exact absurd h.1 (by simp)
      obtain ⟨rfl, hg1⟩ := HA1.out (by omega)
      obtain ⟨rfl, hg2⟩ := HA2.out (by omega)
      have d1 := (HB.out.cell (p := ⟨g1, o1 + k * 3, none⟩) hg1).trans (H1.out k hlt).1
      have d2 := (HB.out.cell (p := ⟨g1, o1 + k * 3 + 1, none⟩) hg1).trans (H1.out k hlt).2.1
      have d3 := (HB.out.cell (p := ⟨g1, o1 + k * 3 + 2, none⟩) hg1).trans (H1.out k hlt).2.2
      have d4 := (HB.out.cell (p := ⟨g2, o2 + k, none⟩) hg2).trans (H2.out k (by omega))
      have hbl := HRB.out.at hlt
      have hbv := ub_at HBV.out (k := k) (by omega)
      have hvlt : (k : Int) < vs.length := by omega
      have HX : Hid (∀ b, inV (l.getD k (0, 0, 0)) (vs.getD k 0) = b → st l vs (k + 1) b) := Lib.hid (fun b hb => by
        cases b
        · exact .inr ⟨rfl, match_no hlt hb⟩
        · exact .inl ⟨rfl, hn, next_all hu hb⟩)
      clear hu hn
      generalize vs.getD k 0 = q at *
      generalize l.getD k (0, 0, 0) = r at *
      obtain ⟨x, y, u⟩ := r
      simp only [] at d1 d2 d3 hbl
      go_wp2_with fail
      refine Run.region_walk (S := fun z => z.cell? ⟨g1, o1 + k * 3, none⟩ = some (.int .i64 x) ∧ z.cell? ⟨g1, o1 + k * 3 + 1, none⟩ = some (.int .u32 y) ∧ z.cell? ⟨g1, o1 + k * 3 + 2, none⟩ = some (.int .u32 u) ∧ z.cell? ⟨g2, o2 + k, none⟩ = some (.int .u32 q) ∧ Below w.heap.size w z)
        lbmatches.rows6 lbmatches.plan6 (l := ?steps17) (by kernel_rfl) (by kernel_rfl) (by kernel_rfl) (by kernel_rfl) ?written17 ⟨d1, d2, d3, d4, HB.out.drew⟩ ?onward17
      case written17 =>
        simp only [lbmatches.plan6, Run.stepsOf, Run.stepOf, Run.guardOf, List.getElem?_toArray, List.getElem?_cons_zero, List.getElem?_cons_succ, Option.map_some, Option.map_none, Option.bind_some, Option.toList_some, List.map_cons, List.map_nil, List.cons_append, List.nil_append]
        rfl
      repeat ((first
        | (refine Run.takes (v := ?_) ?_ ?_; rotate_left; (· intro w' hS'; go_simp; (try with_reducible rfl)))
        | (refine Run.takesG (v := ?_) ?_ ?_ ?_; rotate_left; (· simp only [List.getElem?_cons_zero, List.getElem?_cons_succ]); (· intro w' hS'; go_simp; (try with_reducible rfl)))
        | (refine Run.skipsT ?_ ?_; (· simp only [List.getElem?_cons_zero, List.getElem?_cons_succ]))
        | (refine Run.skipsF ?_ ?_; (· simp only [List.getElem?_cons_zero, List.getElem?_cons_succ]))
        | (refine Run.skipsU ?_ ?_; (· simp only [List.getElem?_cons_zero, List.getElem?_cons_succ]))
        | (refine Run.passT ?_ ?_; (· simp only [List.getElem?_cons_zero, List.getElem?_cons_succ]))
        | (refine Run.passF ?_ ?_; (· simp only [List.getElem?_cons_zero, List.getElem?_cons_succ]))
        | (refine Run.passU ?_ ?_; (· simp only [List.getElem?_cons_zero, List.getElem?_cons_succ]))
        | (refine Run.runs ?_
           (first
           | (refine Run.callF 23 (by kernel_rfl) (fun hS => oin_any x y u q hbl.1 hbl.2 hbv _) rfl ?_)
           | (refine Run.callG 23 (by kernel_rfl) ?_ (fun hS => oin_any x y u q hbl.1 hbl.2 hbv _) rfl ?_; (· simp only [List.getElem?_cons_zero, List.getElem?_cons_succ]))
           | fail)
           (first
           | (rintro hS e w' ⟨rfl, rfl⟩; refine ⟨_, rfl, hS, ?_⟩)
           | (rintro hS e w' ⟨rfl, hb⟩; refine ⟨_, rfl, ⟨kc hb hS.1, kc hb hS.2.1, kc hb hS.2.2.1, kc hb hS.2.2.2.1, nest hS.2.2.2.2 hb⟩, ?_⟩)
           | fail))
        | fail); simp only [Act.put, List.setIfInBounds_toArray, List.set_cons_zero, List.set_cons_succ])
      refine Run.ends (fun hS2 => ?_)
      have HB1 := Lib.hid hS2.2.2.2.2
      have H3 := Lib.hid (HX.out _ rfl)
      clear d1 d2 d3 d4 hS2
      generalize inV (x, y, u) q = nb at *
      go_wp2_with fail
      exact ⟨⟨k + 1, nb, by omega, rfl, by go_num, H3.out, HB1.out⟩, by simp [intOf]; omega⟩
    · have hres : bb = matchV l vs := by
        rcases HS.out with ⟨h1, h2, h3⟩ | ⟨h1, h2⟩
        · rcases hend with h | h
          · subst h
            rw [h1, match_yes h2 h3]
          · rw [h1] at h; cases h
        · rw [h1, h2]
      have HRES := Lib.hid hres
      have HFULL : Hid (bb = true → emptyV l = false) := Lib.hid (fun h => match_full (hres ▸ h))
      clear hres
      have hM := Lib.hid (HM.out.keep HB.out)
      have hV := Lib.hid (HV.out.keep HB.out)
      cases bb with
      | true =>
        have hkl : k = l.length := by
          rcases hend with h | h
          · exact h
          · cases h
        have q1 : ¬ (k : Int) < l.length := by omega
        clear hend
        go_wp2_with fail
        refine (bawake_any _).mono ?_
        rintro e w1 ⟨rfl, hk1⟩
        have hM1 := Lib.hid (hM.out.keep hk1)
        have hV1 := Lib.hid (hV.out.keep hk1)
        have HB1 := Lib.hid (nest HB.out hk1)
        clear hk1
        go_wp2_with fail
        refine (omatch_any _ _ l vs w1 hM1.out hV1.out HRB.out HBV.out).mono ?_
        rintro e w2 ⟨rfl, hk2⟩
        rw [← HRES.out]
        have hM2 := Lib.hid (hM1.out.keep hk2)
        have HB2 := Lib.hid (nest HB1.out hk2)
        clear hk2
        go_wp2_with fail
        refine (oempty_any _ l w2 hM2.out).mono ?_
        rintro e w3 ⟨rfl, hk3⟩
        rw [show emptyV l = false by have := HFULL.out; simpa using this]
        have HB3 := Lib.hid (nest HB2.out hk3)
        clear hk3
        go_wp2_with fail
        go_ret
        exact ⟨rfl, HB3.out⟩
      | false =>
        clear hend
        by_cases q1 : k < l.length
        · go_wp2_with fail
          refine (bawake_any _).mono ?_
          rintro e w1 ⟨rfl, hk1⟩
          have hM1 := Lib.hid (hM.out.keep hk1)
          have hV1 := Lib.hid (hV.out.keep hk1)
          have HB1 := Lib.hid (nest HB.out hk1)
          clear hk1
          go_wp2_with fail
          refine (omatch_any _ _ l vs w1 hM1.out hV1.out HRB.out HBV.out).mono ?_
          rintro e w2 ⟨rfl, hk2⟩
          rw [← HRES.out]
          have HB2 := Lib.hid (nest HB1.out hk2)
          clear hk2
          go_wp2_with fail
          go_ret
          exact ⟨rfl, HB2.out⟩
        · go_wp2_with fail
          refine (bawake_any _).mono ?_
          rintro e w1 ⟨rfl, hk1⟩
          have hM1 := Lib.hid (hM.out.keep hk1)
          have hV1 := Lib.hid (hV.out.keep hk1)
          have HB1 := Lib.hid (nest HB.out hk1)
          clear hk1
          go_wp2_with fail
          refine (omatch_any _ _ l vs w1 hM1.out hV1.out HRB.out HBV.out).mono ?_
          rintro e w2 ⟨rfl, hk2⟩
          rw [← HRES.out]
          have HB2 := Lib.hid (nest HB1.out hk2)
          clear hk2
          go_wp2_with fail
          go_ret
          exact ⟨rfl, HB2.out⟩
end Go.Proofs.Ytpdijfhjdbmamaa.boxMatches
