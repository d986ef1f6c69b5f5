/- Package box: Right, Match, Empty. -/
import Derived.Test.YtpdijfhjdbmamaaBoxOwnA
namespace Go.Proofs.Ytpdijfhjdbmamaa
open Go.RowKit Mem Cir
set_option linter.unusedSimpArgs false
set_option linter.unusedVariables false
attribute [local irreducible] Go.Calls

theorem rinfo3 : (Try.prog.info? 26).map (·.size) = some 3 := by kernel_rfl
set_option maxHeartbeats 1000000 in
theorem orightb_any (attrs : Int) (v : Value) (l : List (Int × Int × Int)) (w : World) (h : Rd rngE w v l) :
    Calls Try.prog 14 #[.int .i64 attrs, v] w fun e w' => e = .returned (.bool (rightB attrs l)) ∧ Below w.heap.size w w' := by
  obtain ⟨a, g, off, c, rfl, hc1, hm1, ha, hcell⟩ := Rd.loop3 h
  have hm1' : c ≤ 9223372036854775807 := hm1
  have HA := Lib.hid ha
  have HC := Lib.hid hcell
  clear h ha hcell
  by_cases h1 : attrs < 1
  · have e : rightB attrs l = false := by simp [rightB]; omega
    rw [e]
    go_enter Try.func14, Try.ntmps14
    go_wp2_with fail
    go_ret
    exact ⟨rfl, Below.refl _ _⟩
  by_cases h2 : attrs > 8
  · have e : rightB attrs l = false := by simp [rightB]; omega
    rw [e]
    go_enter Try.func14, Try.ntmps14
    go_wp2_with fail
    go_ret
    exact ⟨rfl, Below.refl _ _⟩
  by_cases h3 : (l.length : Int) = attrs
  case neg =>
    have e : rightB attrs l = false := by simp [rightB]; omega
    rw [e]
    have d3 : ((l.length : Int) == attrs) = false := by simpa using h3
    go_enter Try.func14, Try.ntmps14
    go_wp2_with fail
    go_ret
    exact ⟨rfl, Below.refl _ _⟩
  subst h3
  have e : rightB l.length l = l.all (fun (r : Int × Int × Int) => kindV r.1) := by
    have h1' : (1 : Int) ≤ l.length := by omega
    have h2' : (l.length : Int) ≤ 8 := by omega
    unfold rightB
    rw [decide_eq_true h1', decide_eq_true h2', decide_eq_true rfl]
    simp
  rw [e]
  have HY : Hid ((∀ i, i < l.length → kindV (l.getD i (0, 0, 0)).1 = true) → l.all (fun (r : Int × Int × Int) => kindV r.1) = true) := Lib.hid (fun h => all_yes (f := fun (r : Int × Int × Int) => kindV r.1) h)
  have HN : Hid (∀ k, k < l.length → kindV (l.getD k (0, 0, 0)).1 = false → l.all (fun (r : Int × Int × Int) => kindV r.1) = false) := Lib.hid (fun k hk h => all_no (f := fun (r : Int × Int × Int) => kindV r.1) hk h)
  generalize l.all (fun (r : Int × Int × Int) => kindV r.1) = res at *
  clear e
  go_enter Try.func14, Try.ntmps14
  go_wp2_with fail
  go_loopw [21] (fun i wr => ∃ k : Nat, k ≤ l.length ∧ i = .int .i64 k ∧ (∀ i, i < k → kindV (l.getD i (0, 0, 0)).1 = true) ∧ Below w.heap.size w wr) (fun i _ => l.length - (intOf i).toNat)
  case atStart => exact ⟨0, Nat.zero_le _, rfl, fun i hi => absurd hi (Nat.not_lt_zero _), Below.refl _ _⟩
  case round =>
    obtain ⟨k, hk, rfl, hu, hb⟩ := hrel
    have HU := Lib.hid hu
    clear hu
    by_cases hlt : k < l.length
    · obtain ⟨rfl, hg⟩ := HA.out (by omega)
      have d1 := (hb.cell (p := ⟨g, off + k * 3, none⟩) hg).trans (HC.out k hlt).1
      have d2 := (hb.cell (p := ⟨g, off + k * 3 + 1, none⟩) hg).trans (HC.out k hlt).2.1
      have d3 := (hb.cell (p := ⟨g, off + k * 3 + 2, none⟩) hg).trans (HC.out k hlt).2.2
      have HX : Hid (kindV (l.getD k (0, 0, 0)).1 = true → ∀ i, i < k + 1 → kindV (l.getD i (0, 0, 0)).1 = true) := Lib.hid (fun h => next_all HU.out h)
      have HNk := Lib.hid (HN.out k hlt)
      generalize (l.getD k (0, 0, 0)).1 = x at *
      generalize (l.getD k (0, 0, 0)).2.1 = y at *
      generalize (l.getD k (0, 0, 0)).2.2 = u at *
      have HB := Lib.hid hb
      clear hb
      go_wp2_with fail
      refine (ois_any x _).mono ?_
      rintro e w1 ⟨rfl, hb1⟩
      have HB1 := Lib.hid (nest (nest HB.out (more (Below.refl _ _) _)) hb1)
      clear hb1 d1 d2 d3
      cases hx : kindV x with
      | true =>
        have H2 := Lib.hid (HX.out hx)
        clear hx
        go_wp2_with fail
        exact ⟨⟨k + 1, by omega, by go_num, H2.out, HB1.out⟩, by simp [intOf]; omega⟩
      | false =>
        have H2 := Lib.hid (HNk.out hx)
        clear hx
        go_wp2_with fail
        go_ret
        exact ⟨by rw [H2.out]; rfl, HB1.out⟩
    · have hkn : k = l.length := by omega
      subst hkn
      have HR := Lib.hid (HY.out HU.out)
      go_wp2_with fail
      go_ret
      exact ⟨by rw [HR.out]; rfl, hb⟩
set_option maxHeartbeats 1000000 in
theorem omatch_any (v1 v2 : Value) (l : List (Int × Int × Int)) (vs : List Int) (w : World) (h1 : Rd rngE w v1 l) (h2 : Rd (intE .u32) w v2 vs) (bl : RB l) (bv : ∀ x ∈ vs, 0 ≤ x ∧ x ≤ 4294967295) :
    Calls Try.prog 16 #[v1, v2] w fun e w' => e = .returned (.bool (matchV l vs)) ∧ Below w.heap.size w w' := by
  obtain ⟨a1, g1, o1, c1, rfl, hc1, hm1, ha1, k1⟩ := Rd.loop3 h1
  obtain ⟨a2, g2, o2, c2, rfl, hc2, hm2, ha2, k2⟩ := Mem.Rd.loopI h2
  have hm1' : c1 ≤ 9223372036854775807 := hm1
  have hm2' : c2 ≤ 9223372036854775807 := hm2
  have H1 := Lib.hid k1
  have H2 := Lib.hid k2
  have HA1 := Lib.hid ha1
  have HA2 := Lib.hid ha2
  have HBL := Lib.hid bl
  have HBV := Lib.hid bv
  clear h1 h2 ha1 ha2 k1 k2 bl bv
  by_cases hn : l.length = vs.length
  case neg =>
    have hne : matchV l vs = false := by unfold matchV; rw [decide_eq_false hn, Bool.false_and]
    rw [hne]
    have e1 : ((l.length : Int) == vs.length) = false := by simp; omega
    go_enter Try.func16, Try.ntmps16
    go_wp2_with fail
    go_ret
    exact ⟨rfl, Below.refl _ _⟩
  have HY : Hid ((∀ i, i < l.length → inV (l.getD i (0, 0, 0)) (vs.getD i 0) = true) → matchV l vs = true) := Lib.hid (fun h => match_yes hn h)
  have HNO : Hid (∀ k, k < l.length → inV (l.getD k (0, 0, 0)) (vs.getD k 0) = false → matchV l vs = false) := Lib.hid (fun k hk h => match_no hk h)
  have HN := Lib.hid hn
  rw [← hn] at hc2 ⊢
  clear hn
  generalize matchV l vs = res at *
  go_enter Try.func16, Try.ntmps16
  go_wp2_with fail
  go_loopw [14] (fun i wr => ∃ k : Nat, k ≤ l.length ∧ i = .int .i64 k ∧ (∀ i, i < k → inV (l.getD i (0, 0, 0)) (vs.getD i 0) = true) ∧ Below w.heap.size w wr) (fun i _ => l.length - (intOf i).toNat)
  case atStart => exact ⟨0, Nat.zero_le _, rfl, fun i hi => absurd hi (Nat.not_lt_zero _), Below.refl _ _⟩
  case round =>
    obtain ⟨k, hk, rfl, hu, hb⟩ := hrel
    have HU := Lib.hid hu
    clear hu
    by_cases hlt : k < l.length
    · obtain ⟨rfl, hg1⟩ := HA1.out (by omega)
      obtain ⟨rfl, hg2⟩ := HA2.out (by have := HN.out; omega)
      have d1 := (hb.cell (p := ⟨g1, o1 + k * 3, none⟩) hg1).trans (H1.out k hlt).1
      have d2 := (hb.cell (p := ⟨g1, o1 + k * 3 + 1, none⟩) hg1).trans (H1.out k hlt).2.1
      have d3 := (hb.cell (p := ⟨g1, o1 + k * 3 + 2, none⟩) hg1).trans (H1.out k hlt).2.2
      have d4 := (hb.cell (p := ⟨g2, o2 + k, none⟩) hg2).trans (H2.out k (by have := HN.out; omega))
      have hbl := HBL.out.at hlt
      have hbv := ub_at HBV.out (k := k) (by have := HN.out; omega)
      have HX : Hid (inV (l.getD k (0, 0, 0)) (vs.getD k 0) = true → ∀ i, i < k + 1 → inV (l.getD i (0, 0, 0)) (vs.getD i 0) = true) := Lib.hid (fun h => next_all HU.out h)
      have HNk := Lib.hid (HNO.out k hlt)
      generalize vs.getD k 0 = q at *
      generalize l.getD k (0, 0, 0) = r at *
      obtain ⟨x, y, u⟩ := r
      simp only [] at d1 d2 d3 hbl
      have hk0 : Below wr.heap.size wr (wr.alloc (.cells #[.int .i64 x, .int .u32 y, .int .u32 u] 26)) := more (Below.refl _ _) _
      have HB0 := Lib.hid (nest hb hk0)
      have HBK := Lib.hid (Blk.newAt wr 26 #[.int .i64 x, .int .u32 y, .int .u32 u] rfl)
      have HD4 := Lib.hid (kc hk0 d4)
      clear hk0 hb
      go_wp2_with fail
      clear d1 d2 d3 d4
      generalize wr.alloc (.cells #[.int .i64 x, .int .u32 y, .int .u32 u] 26) = w0 at *
      generalize wr.heap.size = b0 at *
      refine Run.region_walk (S := fun z => z.cell? ⟨g2, o2 + k, none⟩ = some (.int .u32 q) ∧ Below w0.heap.size w0 z)
        omatch.rows6 omatch.plan6 (l := ?steps15) (by kernel_rfl) (by kernel_rfl) (by kernel_rfl) (by kernel_rfl) ?written15 ⟨HD4.out, (Below.refl _ _).drew⟩ ?onward15
      case written15 =>
        simp only [omatch.plan6, Run.stepsOf, Run.stepOf, Run.guardOf, List.getElem?_toArray, List.getElem?_cons_zero, List.getElem?_cons_succ, Option.map_some, Option.map_none, Option.bind_some, Option.toList_some, List.map_cons, List.map_nil, List.cons_append, List.nil_append]
        rfl
      repeat ((first
        | (refine Run.takes (v := ?_) ?_ ?_; rotate_left; (· intro w' hS'; (first | (refine exec_load_blk (n := 3) (x := .tmp 6) (l := [.int .i64 x, .int .u32 y, .int .u32 u]) ?_ Try.underlying26 rinfo3 ?_ ?_ (HBK.out.keep hS'.2) <;> rfl) | (go_simp; (try with_reducible rfl)))))
        | (refine Run.takesG (v := ?_) ?_ ?_ ?_; rotate_left; (· simp only [List.getElem?_cons_zero, List.getElem?_cons_succ]); (· intro w' hS'; (first | (refine exec_load_blk (n := 3) (x := .tmp 6) (l := [.int .i64 x, .int .u32 y, .int .u32 u]) ?_ Try.underlying26 rinfo3 ?_ ?_ (HBK.out.keep hS'.2) <;> rfl) | (go_simp; (try with_reducible rfl)))))
        | (refine Run.skipsT ?_ ?_; (· simp only [List.getElem?_cons_zero, List.getElem?_cons_succ]))
        | (refine Run.skipsF ?_ ?_; (· simp only [List.getElem?_cons_zero, List.getElem?_cons_succ]))
        | (refine Run.skipsU ?_ ?_; (· simp only [List.getElem?_cons_zero, List.getElem?_cons_succ]))
        | (refine Run.passT ?_ ?_; (· simp only [List.getElem?_cons_zero, List.getElem?_cons_succ]))
        | (refine Run.passF ?_ ?_; (· simp only [List.getElem?_cons_zero, List.getElem?_cons_succ]))
        | (refine Run.passU ?_ ?_; (· simp only [List.getElem?_cons_zero, List.getElem?_cons_succ]))
        | (refine Run.runs ?_
           (first
           | (refine Run.callF 23 (by kernel_rfl) (fun hS => oin_any x y u q hbl.1 hbl.2 hbv _) rfl ?_)
           | (refine Run.callG 23 (by kernel_rfl) ?_ (fun hS => oin_any x y u q hbl.1 hbl.2 hbv _) rfl ?_; (· simp only [List.getElem?_cons_zero, List.getElem?_cons_succ]))
           | fail)
           (first
           | (rintro hS e w' ⟨rfl, rfl⟩; refine ⟨_, rfl, hS, ?_⟩)
           | (rintro hS e w' ⟨rfl, hb⟩; refine ⟨_, rfl, ⟨kc hb hS.1, nest hS.2 hb⟩, ?_⟩)
           | fail))
        | fail); simp only [Act.put, List.setIfInBounds_toArray, List.set_cons_zero, List.set_cons_succ])
      refine Run.ends (fun hS2 => ?_)
      have HB1 := Lib.hid (nest HB0.out hS2.2)
      clear hS2
      cases hx : inV (x, y, u) q with
      | true =>
        have H3 := Lib.hid (HX.out hx)
        clear hx
        go_wp2_with fail
        exact ⟨⟨k + 1, by omega, by go_num, H3.out, HB1.out⟩, by simp [intOf]; omega⟩
      | false =>
        have H3 := Lib.hid (HNk.out hx)
        clear hx
        go_wp2_with fail
        go_ret
        exact ⟨by rw [H3.out]; rfl, HB1.out⟩
    · have hkn : k = l.length := by omega
      subst hkn
      have HR := Lib.hid (HY.out HU.out)
      go_wp2_with fail
      go_ret
      exact ⟨by rw [HR.out]; rfl, hb⟩
set_option maxHeartbeats 1000000 in
theorem oempty_any (v : Value) (l : List (Int × Int × Int)) (w : World) (h : Rd rngE w v l) :
    Calls Try.prog 18 #[v] w fun e w' => e = .returned (.bool (emptyV l)) ∧ Below w.heap.size w w' := by
  obtain ⟨a, g, off, c, rfl, hc1, hm1, ha, hcell⟩ := Rd.loop3 h
  have hm1' : c ≤ 9223372036854775807 := hm1
  have HA := Lib.hid ha
  have HC := Lib.hid hcell
  clear h ha hcell
  have HY : Hid ((∀ i, i < l.length → ((l.getD i (0, 0, 0)).1 == 3 || !kindV (l.getD i (0, 0, 0)).1) = false) → emptyV l = false) := Lib.hid (fun h => any_no (f := fun (r : Int × Int × Int) => (r.1 == 3) || !kindV r.1) h)
  have HN : Hid (∀ k, k < l.length → ((l.getD k (0, 0, 0)).1 == 3 || !kindV (l.getD k (0, 0, 0)).1) = true → emptyV l = true) := Lib.hid (fun k hk h => any_yes (f := fun (r : Int × Int × Int) => (r.1 == 3) || !kindV r.1) hk h)
  generalize emptyV l = res at *
  go_enter Try.func18, Try.ntmps18
  go_wp2_with fail
  go_loopw [7] (fun i wr => ∃ k : Nat, k ≤ l.length ∧ i = .int .i64 k ∧ (∀ i, i < k → ((l.getD i (0, 0, 0)).1 == 3 || !kindV (l.getD i (0, 0, 0)).1) = false) ∧ Below w.heap.size w wr) (fun i _ => l.length - (intOf i).toNat)
  case atStart => exact ⟨0, Nat.zero_le _, rfl, fun i hi => absurd hi (Nat.not_lt_zero _), Below.refl _ _⟩
  case round =>
    obtain ⟨k, hk, rfl, hu, hb⟩ := hrel
    have HU := Lib.hid hu
    clear hu
    by_cases hlt : k < l.length
    · obtain ⟨rfl, hg⟩ := HA.out (by omega)
      have d1 := (hb.cell (p := ⟨g, off + k * 3, none⟩) hg).trans (HC.out k hlt).1
      have d2 := (hb.cell (p := ⟨g, off + k * 3 + 1, none⟩) hg).trans (HC.out k hlt).2.1
      have d3 := (hb.cell (p := ⟨g, off + k * 3 + 2, none⟩) hg).trans (HC.out k hlt).2.2
      have HX : Hid (((l.getD k (0, 0, 0)).1 == 3 || !kindV (l.getD k (0, 0, 0)).1) = false → ∀ i, i < k + 1 → ((l.getD i (0, 0, 0)).1 == 3 || !kindV (l.getD i (0, 0, 0)).1) = false) := Lib.hid (fun h => next_all HU.out h)
      have HNk := Lib.hid (HN.out k hlt)
      generalize (l.getD k (0, 0, 0)).1 = x at *
      generalize (l.getD k (0, 0, 0)).2.1 = y at *
      generalize (l.getD k (0, 0, 0)).2.2 = u at *
      have HB := Lib.hid hb
      clear hb
      by_cases hx3 : x = 3
      · subst hx3
        have H2 := Lib.hid (HNk.out rfl)
        go_wp2_with fail
        go_ret
        exact ⟨by rw [H2.out]; rfl, nest HB.out (more (Below.refl _ _) _)⟩
      · have e3 : (x == 3) = false := by simpa using hx3
        rw [e3, Bool.false_or] at HX HNk
        go_wp2_with fail
        refine (ois_any x _).mono ?_
        rintro e w1 ⟨rfl, hb1⟩
        have HB1 := Lib.hid (nest (nest HB.out (more (Below.refl _ _) _)) hb1)
        clear hb1 d1 d2 d3
        cases hx : kindV x with
        | true =>
          have H2 := Lib.hid (HX.out (by rw [hx]; rfl))
          clear hx
          go_wp2_with fail
          exact ⟨⟨k + 1, by omega, by go_num, H2.out, HB1.out⟩, by simp [intOf]; omega⟩
        | false =>
          have H2 := Lib.hid (HNk.out (by rw [hx]; rfl))
          clear hx
          go_wp2_with fail
          go_ret
          exact ⟨by rw [H2.out]; rfl, HB1.out⟩
    · have hkn : k = l.length := by omega
      subst hkn
      have HR := Lib.hid (HY.out HU.out)
      go_wp2_with fail
      go_ret
      exact ⟨by rw [HR.out]; rfl, hb⟩
end Go.Proofs.Ytpdijfhjdbmamaa
