/- Walk of the law GreedyNear. -/
import Derived.Test.YtbhnpidbgckinaaGrLaw
set_option maxRecDepth 4000
namespace Go.Proofs.Ytbhnpidbgckinaa.greedyNear
open Go.RowKit Mem
set_option linter.unusedSimpArgs false
set_option linter.unusedVariables false
attribute [local irreducible] Go.Calls

theorem near_none {L : List Int} (h : okR L) {p v : Int} (bv : 0 ≤ v ∧ v ≤ 4294967295) (hp : p ∈ L) (hne : (ownR L v).1 ≠ p) : goR L [] p v = ((nextR L p).1, true) := by
  rw [goR_is [] hp hne]
  split
  · rfl
  · rfl
theorem near_some {L : List Int} (h : okR L) {p v : Int} (bv : 0 ≤ v ∧ v ≤ 4294967295) (hp : p ∈ L) (hne : (ownR L v).1 ≠ p) (l : List Int) (hl : ∀ q ∈ l, q = p ∨ q = (ownR L v).1 ∨ L.contains q = false) : goR L l p v = ((nextR L p).1, true) := by
  obtain ⟨hm, h1, h2⟩ := own_behind h bv hp hne
  rw [goR_is l hp hne]
  split
  · rfl
  · have key : ∀ (l : List Int) (b : Int), (∀ q ∈ l, q = p ∨ q = (ownR L v).1 ∨ L.contains q = false) → l.foldl (goStep L p v) b = b := by
      intro l
      induction l with
      | nil => intro b _; rfl
      | cons q l ih =>
        intro b hl
        have e : goStep L p v b q = b := by
          unfold goStep
          rw [if_neg]
          rintro ⟨c1, c2, c3⟩
          rcases hl q List.mem_cons_self with e | e | e
          · rw [e, stp_self] at c2
            have := (stp_bd p b).1
            omega
          · rw [e] at c3; omega
          · rw [c1] at e; cases e
        rw [List.foldl_cons, e]
        exact ih b (fun q hq => hl q (List.mem_cons_of_mem _ hq))
    show (goB L l p v, true) = _
    unfold goB
    rw [key l _ hl]
set_option maxRecDepth 100000 in
set_option maxHeartbeats 8000000 in
theorem walk (v : Value) (l : List Int) (t : Int) (bt : -9223372036854775808 ≤ t ∧ t ≤ 9223372036854775807) (x : Int) (bx : 0 ≤ x ∧ x ≤ 4294967295) (y : Int) (by' : 0 ≤ y ∧ y ≤ 4294967295) (w : World) (h : Rd (intE .u32) w v l) (hb : ∀ x ∈ l, 0 ≤ x ∧ x ≤ 4294967295) :
    Calls Try.prog 7 #[v, .int .i64 t, .int .u32 x, .int .u32 y] w fun e w' => e = .returned (.bool true) ∧ Below w.heap.size w w' := by
  have HMD := Lib.hid (made13_any v l w h hb)
  have HO := Lib.hid (made_ok13 hb)
  obtain ⟨L, hL⟩ : ∃ x, x = addsR [] (l.take 60) := ⟨_, rfl⟩
  rw [← hL] at HMD HO
  have HBX := Lib.hid bx
  have HBY := Lib.hid by'
  obtain ⟨a, c, rfl, _, _⟩ := h.form
  clear h hb hL bx by'
  go_enter Try.func7, Try.ntmps7
  go_upto_region 2 with (go_at_call 8; refine HMD.out.mono ?_; rintro e w2 ⟨r, rr, rfl, hp, hk⟩)
  have HP2 := Lib.hid hp
  have HK2 := Lib.hid hk
  clear hp hk HMD
  obtain ⟨a2, g2, o2, c2, hc0, hq1, hq2, hq3, hq4, hq5⟩ := HP2.out.two.at
  have d0 := hc0
  have HC0 := Lib.hid hc0
  have hq2' : c2 ≤ 9223372036854775807 := hq2
  have HQ3 := Lib.hid hq3
  have HQ4 := Lib.hid hq4
  have HQ5 := Lib.hid hq5
  have hl64 : L.length ≤ 64 := HO.out.2.2
  clear hc0 hq2 hq3 hq4 hq5
  by_cases hL0 : L = []
  · have hLz : L.length = 0 := by rw [hL0]; rfl
    have hLz2 : ((L.length : Int) == 0) = true := by rw [hLz]; rfl
    go_wp2_with (go_at_call 9; refine (grawake_any w2).mono ?_; rintro e w5 ⟨rfl, hk⟩)
    go_ret
    exact ⟨rfl, nest HK2.out hk⟩
  have hLp : 0 < L.length := List.length_pos_iff.2 hL0
  have hLz2 : ((L.length : Int) == 0) = false := beq_eq_false_iff_ne.2 (by omega)
  obtain ⟨rfl, _⟩ := HQ3.out hLp
  go_upto_region 4 with fail
  obtain ⟨k, hkS, hkq⟩ : ∃ k : Nat, k < L.length ∧ wrap64 ((IntKind.u64.wrap t).tmod (L.length : Int)) = (k : Int) := by
    have q0 : 0 ≤ IntKind.u64.wrap t := by rw [IntKind.wrap_u64]; omega
    have q1 : 0 ≤ (IntKind.u64.wrap t).tmod (L.length : Int) := Int.tmod_nonneg _ q0
    have q2 := Int.tmod_lt_of_pos (IntKind.u64.wrap t) (show (0 : Int) < (L.length : Int) by omega)
    refine ⟨((IntKind.u64.wrap t).tmod (L.length : Int)).toNat, by omega, ?_⟩
    unfold wrap64
    omega
  have dk := HQ4.out k hkS
  obtain ⟨p, hp⟩ : ∃ x, x = L.getD k 0 := ⟨_, rfl⟩
  rw [← hp] at dk
  have HPM : Hid (p ∈ L) := Lib.hid (by rw [hp, show L.getD k 0 = L[k] by simp [List.getD, hkS]]; exact List.getElem_mem hkS)
  have hkl : (k : Int) < (L.length : Int) := by omega
  have hcl : (L.length : Int) ≤ c2 := by omega
  have hw64 : IntKind.u64.wrap (L.length : Int) = (L.length : Int) := by rw [IntKind.wrap_u64]; omega
  have hlz : ¬ (L.length : Int) = 0 := by omega
  have hkq2 : IntKind.i64.wrap ((IntKind.u64.wrap t).tmod (L.length : Int)) = (k : Int) := by
    have q0 : 0 ≤ IntKind.u64.wrap t := by rw [IntKind.wrap_u64]; omega
    have q1 : 0 ≤ (IntKind.u64.wrap t).tmod (L.length : Int) := Int.tmod_nonneg _ q0
    have q2 := Int.tmod_lt_of_pos (IntKind.u64.wrap t) (show (0 : Int) < (L.length : Int) by omega)
    rw [← hkq, IntWalk.i64_in _ (by omega), IntWalk.wrap64_in _ (by omega)]
  have d1 : w2.drew.cell? ⟨rr, 0, none⟩ = some (.slice (some ⟨g2, o2, none⟩) L.length c2) := d0
  have d2 : w2.drew.cell? ⟨g2, o2 + k, none⟩ = some (.int .u32 p) := dk
  have HDR : Hid (Below w2.heap.size w2 w2.drew) := Lib.hid (Below.refl _ _).drew
  clear hp
  refine Run.region_walk (S := fun z => z.cell? ⟨rr, 0, none⟩ = some (.slice (some ⟨g2, o2, none⟩) L.length c2) ∧ z.cell? ⟨g2, o2 + k, none⟩ = some (.int .u32 p))
    lgnear.rows4 lgnear.plan4 (l := ?steps1) (by kernel_rfl) (by kernel_rfl) (by kernel_rfl) (by kernel_rfl) ?written1 ⟨d1, d2⟩ ?onward1
  case written1 =>
    simp only [lgnear.plan4, Run.stepsOf, Run.stepOf, Run.guardOf, List.getElem?_toArray, List.getElem?_cons_zero, List.getElem?_cons_succ, Option.map_some, Option.map_none, Option.bind_some, Option.toList_some, List.map_cons, List.map_nil, List.cons_append, List.nil_append, List.append_eq]
    rfl
  repeat ((first
    | (refine Run.takes (v := ?_) ?_ ?_; rotate_left; (· intro w' hS'; (first | (have h1 := hS'.1; have h2 := hS'.2; go_simp; done) | (go_simp; (try with_reducible rfl)))))
    | (refine Run.takesG (v := ?_) ?_ ?_ ?_; rotate_left; (· simp only [List.getElem?_cons_zero, List.getElem?_cons_succ]); (· intro w' hS'; (first | (have h1 := hS'.1; have h2 := hS'.2; go_simp; done) | (go_simp; (try with_reducible rfl)))))
    | (refine Run.skipsT ?_ ?_; (· simp only [List.getElem?_cons_zero, List.getElem?_cons_succ]))
    | (refine Run.skipsF ?_ ?_; (· simp only [List.getElem?_cons_zero, List.getElem?_cons_succ]))
    | (refine Run.skipsU ?_ ?_; (· simp only [List.getElem?_cons_zero, List.getElem?_cons_succ]))
    | (refine Run.passT ?_ ?_; (· simp only [List.getElem?_cons_zero, List.getElem?_cons_succ]))
    | (refine Run.passF ?_ ?_; (· simp only [List.getElem?_cons_zero, List.getElem?_cons_succ]))
    | (refine Run.passU ?_ ?_; (· simp only [List.getElem?_cons_zero, List.getElem?_cons_succ]))
    | fail); simp only [Act.put, List.setIfInBounds_toArray, List.set_cons_zero, List.set_cons_succ])
  refine Run.ends (fun _ => ?_)
  clear hw64 hlz hkq hkq2 d1 d2 d0 dk hkl hcl hkS
  have HP3 := Lib.hid (HP2.out.keep HDR.out)
  have HK3 := Lib.hid (nest HK2.out HDR.out)
  have HV3 := Lib.hid (HQ5.out.keep HDR.out)
  have HC3 := Lib.hid (kc HDR.out HC0.out)
  clear HP2 HK2 HQ5 HC0 HDR HQ3 HQ4
  generalize w2.drew = w3 at *
  obtain ⟨ow, how⟩ : ∃ q, q = (ownR L x).1 := ⟨_, rfl⟩
  obtain ⟨nx, hnx⟩ : ∃ q, q = (nextR L p).1 := ⟨_, rfl⟩
  have HOW := Lib.hid how
  have HNX := Lib.hid hnx
  clear hnx
  have HOC := Lib.hid (rrowner_any rr L x w3 HP3.out.two)
  rw [← how] at HOC
  generalize (ownR L x).2 = oi at HOC
  clear how
  go_upto_region 6 with (go_at_call 14; refine HOC.out.mono ?_; rintro e w4 ⟨rfl, hk⟩)
  have HNC := Lib.hid (rrnext_any rr L p w4 (HP3.out.two.keep hk))
  rw [← HNX.out] at HNC
  generalize (nextR L p).2 = ni at HNC
  go_upto_region 7 with (go_at_call 18; refine HNC.out.mono ?_; rintro e w5 ⟨rfl, hk5⟩)
  have hX := more (Below.refl w5.heap.size w5) (.cells #[.int .u32 p, .int .u32 ow] 23)
  have hk6 : Below w3.heap.size w3 (w5.alloc (.cells #[.int .u32 p, .int .u32 ow] 23)) := nest (nest hk hk5) hX
  have HR6 := Lib.hid (Row.lit (E := intE .u32) (T := 23) w5.heap.size w5 #[.int .u32 p, .int .u32 ow] [p, ow] 2 w5.heap.size rfl rfl rfl (Nat.le_refl _) (by simp [maxLen]))
  have HP5 := Lib.hid (HP3.out.keep (nest hk hk5))
  have HK5 := Lib.hid (nest HK3.out (nest hk hk5))
  have HB6 := Lib.hid hX
  have HP6 := Lib.hid (HP3.out.keep hk6)
  have HK6 := Lib.hid (nest HK3.out hk6)
  have HV6 := Lib.hid (HV3.out.keep hk6)
  have HC6 := Lib.hid (kc hk6 HC3.out)
  clear hk hk5 hk6 hX HP3 HK3 HV3 HC3 HOC HNC
  go_upto_region 8 with fail
  generalize w5.alloc (.cells #[.int .u32 p, .int .u32 ow] 23) = w6 at *
  obtain ⟨g6, hg6⟩ : ∃ q, q = w5.heap.size := ⟨_, rfl⟩
  rw [← hg6] at HR6 HB6 ⊢
  have HG6 := Lib.hid hg6
  clear hg6
  have d0 := HC6.out
  obtain ⟨yc, hyc⟩ : ∃ q, q = L.contains y := ⟨_, rfl⟩
  have HYC := Lib.hid hyc
  have HIN := Lib.hid (inU_any _ L y w6 HV6.out)
  rw [← hyc] at HIN
  clear hyc
  have KEY : Hid (∀ (S : List Int) (u : Value) (z : World), (∀ q ∈ S, q = p ∨ q = ow ∨ L.contains q = false) → (∀ q ∈ S, 0 ≤ q ∧ q ≤ 4294967295) → Rd (intE .u32) z u S → Pr w.heap.size z r rr L L → ow ≠ p → Calls Try.prog 11 #[.pointer (some ⟨r, 0, none⟩), u, .int .u32 p, .int .u32 x] z fun e w' => e = .returned (.tuple #[.int .u32 nx, .bool true]) ∧ Below z.heap.size z w') := Lib.hid (fun S u z hS hSb hu hp hne => by
    have h1 := pr_next _ r rr L L z hp S u p x hu hSb (HO.out.2.1 p HPM.out) HBX.out
    rw [near_some HO.out HBX.out HPM.out (by rw [← HOW.out]; exact hne) S (by rw [← HOW.out]; exact hS), ← HNX.out] at h1
    exact h1)
  have KEF : Hid (∀ (S : List Int) (u : Value) (z : World), (∀ q ∈ S, 0 ≤ q ∧ q ≤ 4294967295) → Rd (intE .u32) z u S → Pr w.heap.size z r rr L L → ow = p → Calls Try.prog 11 #[.pointer (some ⟨r, 0, none⟩), u, .int .u32 p, .int .u32 x] z fun e w' => e = .returned (.tuple #[.int .u32 0, .bool false]) ∧ Below z.heap.size z w') := Lib.hid (fun S u z hSb hu hp he => by
    have h1 := pr_next _ r rr L L z hp S u p x hu hSb (HO.out.2.1 p HPM.out) HBX.out
    rw [goR_false S (.inr (by rw [← HOW.out]; exact he))] at h1
    exact h1)
  have HOB : Hid ((0 ≤ p ∧ p ≤ 4294967295) ∧ (0 ≤ ow ∧ ow ≤ 4294967295)) := Lib.hid ⟨HO.out.2.1 p HPM.out, by rw [HOW.out]; exact HO.out.2.1 _ (own_head _ hL0).2⟩
  clear hq2' hl64 hL0 hLp hLz2
  cases yc with
  | true =>
    go_upto_region 10 with (go_at_call 16; refine HIN.out.mono ?_; rintro e w7 ⟨rfl, hk⟩)
    have HP7 := Lib.hid (HP6.out.keep hk)
    have HK7 := Lib.hid (nest HK6.out hk)
    have HS7 : Hid (Rd (intE .u32) w7 (.slice (some ⟨g6, 0, none⟩) 2 2) [p, ow]) := Lib.hid (HR6.out.rd.keep hk)
    have HSO : Hid ((∀ q ∈ [p, ow], q = p ∨ q = ow ∨ L.contains q = false) ∧ ∀ q ∈ [p, ow], 0 ≤ q ∧ q ≤ 4294967295) := Lib.hid ⟨fun q hq => by simp at hq; rcases hq with e | e; exact .inl e; exact .inr (.inl e), fun q hq => by simp at hq; rcases hq with e | e <;> rw [e]; exact HOB.out.1; exact HOB.out.2⟩
    clear hk d0 HP6 HK6 HV6 HC6 HR6 HIN
    obtain ⟨S, hS⟩ : ∃ q, q = [p, ow] := ⟨_, rfl⟩
    rw [← hS] at HS7 HSO
    clear hS
    by_cases hop : ow = p
    · have hoe : (ow == p) = true := by simpa using hop
      go_upto_region 11 with (go_at_call 11; refine (KEF.out [] _ w7 (fun q hq => (nomatch hq)) (Rd.nil _ _ (Nat.zero_le _)) HP7.out hop).mono ?_; rintro e w8 ⟨rfl, hk⟩)
      have HP8 := Lib.hid (HP7.out.keep hk)
      have HS8 := Lib.hid (HS7.out.keep hk)
      have HK8 := Lib.hid (nest HK7.out hk)
      clear hk
      go_upto_region 12 with (go_at_call 11; refine (KEF.out S _ w8 HSO.out.2 HS8.out HP8.out hop).mono ?_; rintro e w9 ⟨rfl, hk⟩)
      have HK9 := Lib.hid (nest HK8.out hk)
      clear hk
      go_wp2_with (go_at_call 9; refine (grawake_any w9).mono ?_; rintro e w10 ⟨rfl, hk⟩)
      go_ret
      exact ⟨rfl, nest HK9.out hk⟩
    · have hoe : (ow == p) = false := beq_eq_false_iff_ne.2 hop
      go_upto_region 11 with (go_at_call 11; refine (KEY.out [] _ w7 (fun q hq => (nomatch hq)) (fun q hq => (nomatch hq)) (Rd.nil _ _ (Nat.zero_le _)) HP7.out hop).mono ?_; rintro e w8 ⟨rfl, hk⟩)
      have HP8 := Lib.hid (HP7.out.keep hk)
      have HS8 := Lib.hid (HS7.out.keep hk)
      have HK8 := Lib.hid (nest HK7.out hk)
      clear hk
      go_upto_region 12 with (go_at_call 11; refine (KEY.out S _ w8 HSO.out.1 HSO.out.2 HS8.out HP8.out hop).mono ?_; rintro e w9 ⟨rfl, hk⟩)
      have HK9 := Lib.hid (nest HK8.out hk)
      clear hk
      go_wp2_with (go_at_call 9; refine (grawake_any w9).mono ?_; rintro e w10 ⟨rfl, hk⟩)
      go_ret
      exact ⟨rfl, nest HK9.out hk⟩
  | false =>
    go_upto_region 9 with (go_at_call 16; refine HIN.out.mono ?_; rintro e w7 ⟨rfl, hk⟩)
    have HB7 : Hid (Below g6 w5 w7) := Lib.hid (HB6.out.trans (hk.mono (by have := HB6.out.size; rw [← HG6.out] at this; exact this)))
    have HR7 := Lib.hid (HR6.out.keep hk)
    clear hk d0 HP6 HK6 HV6 HC6 HR6 HIN HB6
    have hX := more (Below.refl w7.heap.size w7) (.cells #[.int .u32 y] 23)
    have HX := Lib.hid hX
    have HN7 : Hid (g6 ≤ w7.heap.size) := Lib.hid (by have := HB7.out.size; rw [← HG6.out] at this; exact this)
    have HFR : Hid (Rd (intE .u32) (w7.alloc (.cells #[.int .u32 y] 23)) (.slice (some ⟨w7.heap.size, 0, none⟩) 1 1) [y]) := Lib.hid (Rd.fresh w7 y _ _ _ rfl rfl)
    clear hX
    go_upto_region 10 with (at_builtin; go_must (refine wpList_append (E := intE .u32) (B := g6) (l := [p, ow]) (m := [y]) (bytes := 4) rgElem Nat.zero_lt_one rfl (.tmp 71) (.tmp 73) rfl rfl (HR7.out.keep HX.out) rfl HFR.out (by simp [maxLen]) (by simp) (Nat.le_trans HN7.out HX.out.size) ?_); intro v9 w8 hr9 hk9 hg9 _)
    obtain ⟨S, hS⟩ : ∃ q, q = [p, ow] ++ [y] := ⟨_, rfl⟩
    have HSO : Hid ((∀ q ∈ S, q = p ∨ q = ow ∨ L.contains q = false) ∧ ∀ q ∈ S, 0 ≤ q ∧ q ≤ 4294967295) := Lib.hid (by
      rw [hS]
      refine ⟨fun q hq => ?_, fun q hq => ?_⟩ <;> (simp at hq; rcases hq with e | e | e)
      · exact .inl e
      · exact .inr (.inl e)
      · exact .inr (.inr (by rw [e]; exact HYC.out.symm))
      · rw [e]; exact HOB.out.1
      · rw [e]; exact HOB.out.2
      · rw [e]; exact HBY.out)
    rw [← hS] at hr9
    have HB8 : Hid (Below g6 w5 w8) := Lib.hid (HB7.out.trans ((HX.out.mono HN7.out).trans hk9))
    have HP7 := Lib.hid (HP5.out.keep (by rw [← HG6.out]; exact HB8.out))
    have HK7 := Lib.hid (nest HK5.out (by rw [← HG6.out]; exact HB8.out))
    have HS7 := Lib.hid hr9.rd
    obtain ⟨a9, c9, rfl, _, _⟩ := hr9.rd.form
    clear hr9 hk9 hg9 hS HFR HX HR7 HB7 HN7
    obtain ⟨wx, hwx⟩ : ∃ q, q = w8 := ⟨_, rfl⟩
    subst hwx
    by_cases hop : ow = p
    · have hoe : (ow == p) = true := by simpa using hop
      go_upto_region 11 with (go_at_call 11; refine (KEF.out [] _ _ (fun q hq => (nomatch hq)) (Rd.nil _ _ (Nat.zero_le _)) HP7.out hop).mono ?_; rintro e w81 ⟨rfl, hk⟩)
      have HP8 := Lib.hid (HP7.out.keep hk)
      have HS8 := Lib.hid (HS7.out.keep hk)
      have HK8 := Lib.hid (nest HK7.out hk)
      clear hk
      go_upto_region 12 with (go_at_call 11; refine (KEF.out S _ w81 HSO.out.2 HS8.out HP8.out hop).mono ?_; rintro e w9 ⟨rfl, hk⟩)
      have HK9 := Lib.hid (nest HK8.out hk)
      clear hk
      go_wp2_with (go_at_call 9; refine (grawake_any w9).mono ?_; rintro e w10 ⟨rfl, hk⟩)
      go_ret
      exact ⟨rfl, nest HK9.out hk⟩
    · have hoe : (ow == p) = false := beq_eq_false_iff_ne.2 hop
      go_upto_region 11 with (go_at_call 11; refine (KEY.out [] _ _ (fun q hq => (nomatch hq)) (fun q hq => (nomatch hq)) (Rd.nil _ _ (Nat.zero_le _)) HP7.out hop).mono ?_; rintro e w81 ⟨rfl, hk⟩)
      have HP8 := Lib.hid (HP7.out.keep hk)
      have HS8 := Lib.hid (HS7.out.keep hk)
      have HK8 := Lib.hid (nest HK7.out hk)
      clear hk
      go_upto_region 12 with (go_at_call 11; refine (KEY.out S _ w81 HSO.out.1 HSO.out.2 HS8.out HP8.out hop).mono ?_; rintro e w9 ⟨rfl, hk⟩)
      have HK9 := Lib.hid (nest HK8.out hk)
      clear hk
      go_wp2_with (go_at_call 9; refine (grawake_any w9).mono ?_; rintro e w10 ⟨rfl, hk⟩)
      go_ret
      exact ⟨rfl, nest HK9.out hk⟩
end Go.Proofs.Ytbhnpidbgckinaa.greedyNear
