/- Walk of the law GreedyBetter. -/
import Derived.Test.YtbhnpidbgckinaaGrLaw
set_option maxRecDepth 4000
namespace Go.Proofs.Ytbhnpidbgckinaa.greedyBetter
open Go.RowKit Mem
set_option linter.unusedSimpArgs false
set_option linter.unusedVariables false
attribute [local irreducible] Go.Calls

theorem better {L : List Int} (h : okR L) {p v : Int} (bv : 0 ≤ v ∧ v ≤ 4294967295) (hp : p ∈ L) (hne : (ownR L v).1 ≠ p) (l : List Int) :
    (goR L l p v).2 = true ∧ ((ownR L v).1 = (nextR L p).1 → (goR L l p v).1 = (nextR L p).1) ∧ ((goR L l p v).1 ≠ (nextR L p).1 → l.contains (goR L l p v).1 = true) ∧ L.contains (goR L l p v).1 = true ∧
    ((ownR L v).1 ≠ (nextR L p).1 → ∀ q ∈ l, L.contains q = true → stp p q < stp p v → ¬ stp p (goR L l p v).1 < stp p q) := by
  obtain ⟨hm, h1, h2⟩ := own_behind h bv hp hne
  obtain ⟨n1, n2, n3⟩ := next_min h (h.2.1 _ hp) hm hne
  rw [goR_is l hp hne]
  split
  · rename_i e
    exact ⟨rfl, fun _ => rfl, fun e2 => absurd rfl e2, by simpa using n1, fun e2 => absurd e e2⟩
  · rename_i hnn
    obtain ⟨i1, i2, i3, i4, i5⟩ := goB_facts h bv hp hne hnn l l.length (Nat.le_refl _)
    rw [List.take_length] at i1 i2 i3 i4 i5
    refine ⟨rfl, fun e => absurd e hnn, fun e => ?_, by simpa using i2, fun _ q hq hqL hqv => ?_⟩
    · simpa using i1.resolve_left e
    · have := i5 q hq (by simpa using hqL) hqv
      show ¬ stp p (goB L l p v) < stp p q
      omega
set_option maxRecDepth 100000 in
set_option maxHeartbeats 8000000 in
theorem walk (v : Value) (l : List Int) (u : Value) (tn : List Int) (t : Int) (bt : -9223372036854775808 ≤ t ∧ t ≤ 9223372036854775807) (x : Int) (bx : 0 ≤ x ∧ x ≤ 4294967295) (w : World) (h : Rd (intE .u32) w v l) (hb : ∀ x ∈ l, 0 ≤ x ∧ x ≤ 4294967295) (hu : Rd (intE .u32) w u tn) (htb : ∀ x ∈ tn, 0 ≤ x ∧ x ≤ 4294967295) :
    Calls Try.prog 6 #[v, u, .int .i64 t, .int .u32 x] w fun e w' => e = .returned (.bool true) ∧ Below w.heap.size w w' := by
  have HMD := Lib.hid (made13_any v l w h hb)
  have HO := Lib.hid (made_ok13 hb)
  obtain ⟨L, hL⟩ : ∃ x, x = addsR [] (l.take 60) := ⟨_, rfl⟩
  rw [← hL] at HMD HO
  have HBX := Lib.hid bx
  have HU := Lib.hid hu
  have HTB := Lib.hid htb
  obtain ⟨a, c, rfl, _, _⟩ := h.form
  obtain ⟨au, gu, ou, cu, rfl, hcu, hmu, hau, heu⟩ := Mem.Rd.loopI hu
  have hmu' : cu ≤ 9223372036854775807 := hmu
  have HAU := Lib.hid hau
  have HEU := Lib.hid heu
  clear h hb hL bx hu htb hmu hau heu
  go_enter Try.func6, Try.ntmps6
  go_upto_region 2 with (go_at_call 8; refine HMD.out.mono ?_; rintro e w2 ⟨r, rr, rfl, hp, hk⟩)
  have HP2 := Lib.hid hp
  have HK2 := Lib.hid hk
  clear hp hk HMD
  obtain ⟨a2, g2, o2, c2, hc0, hq1, hq2, hq3, hq4, hq5⟩ := HP2.out.two.at
  have d0 := hc0
  have HC0 := Lib.hid hc0
  have hq2' : c2 ≤ 9223372036854775807 := hq2
  have HQ3 := Lib.hid hq3
  have HQ4 := Lib.hid hq4
  have HQ5 := Lib.hid hq5
  have hl64 : L.length ≤ 64 := HO.out.2.2
  clear hc0 hq2 hq3 hq4 hq5
  by_cases hL0 : L = []
  · have hLz : L.length = 0 := by rw [hL0]; rfl
    have hLz2 : ((L.length : Int) == 0) = true := by rw [hLz]; rfl
    go_wp2_with (go_at_call 9; refine (grawake_any w2).mono ?_; rintro e w5 ⟨rfl, hk⟩)
    go_ret
    exact ⟨rfl, nest HK2.out hk⟩
  have hLp : 0 < L.length := List.length_pos_iff.2 hL0
  have hLz2 : ((L.length : Int) == 0) = false := beq_eq_false_iff_ne.2 (by omega)
  obtain ⟨rfl, _⟩ := HQ3.out hLp
  by_cases h40 : 40 < tn.length
  · have h40i : (40 : Int) < (tn.length : Int) := by omega
    go_wp2_with (go_at_call 9; refine (grawake_any w2).mono ?_; rintro e w5 ⟨rfl, hk⟩)
    go_ret
    exact ⟨rfl, nest HK2.out hk⟩
  have h40i : ¬ (40 : Int) < (tn.length : Int) := by omega
  have H40 : Hid (tn.length ≤ 40) := Lib.hid (by omega)
  go_upto_region 4 with fail
  clear h40i h40
  obtain ⟨k, hkS, hkq⟩ : ∃ k : Nat, k < L.length ∧ wrap64 ((IntKind.u64.wrap t).tmod (L.length : Int)) = (k : Int) := by
    have q0 : 0 ≤ IntKind.u64.wrap t := by rw [IntKind.wrap_u64]; omega
    have q1 : 0 ≤ (IntKind.u64.wrap t).tmod (L.length : Int) := Int.tmod_nonneg _ q0
    have q2 := Int.tmod_lt_of_pos (IntKind.u64.wrap t) (show (0 : Int) < (L.length : Int) by omega)
    refine ⟨((IntKind.u64.wrap t).tmod (L.length : Int)).toNat, by omega, ?_⟩
    unfold wrap64
    omega
  have dk := HQ4.out k hkS
  obtain ⟨p, hp⟩ : ∃ x, x = L.getD k 0 := ⟨_, rfl⟩
  rw [← hp] at dk
  have HPM : Hid (p ∈ L) := Lib.hid (by rw [hp, show L.getD k 0 = L[k] by simp [List.getD, hkS]]; exact List.getElem_mem hkS)
  have hkl : (k : Int) < (L.length : Int) := by omega
  have hcl : (L.length : Int) ≤ c2 := by omega
  have hw64 : IntKind.u64.wrap (L.length : Int) = (L.length : Int) := by rw [IntKind.wrap_u64]; omega
  have hlz : ¬ (L.length : Int) = 0 := by omega
  have hkq2 : IntKind.i64.wrap ((IntKind.u64.wrap t).tmod (L.length : Int)) = (k : Int) := by
    have q0 : 0 ≤ IntKind.u64.wrap t := by rw [IntKind.wrap_u64]; omega
    have q1 : 0 ≤ (IntKind.u64.wrap t).tmod (L.length : Int) := Int.tmod_nonneg _ q0
    have q2 := Int.tmod_lt_of_pos (IntKind.u64.wrap t) (show (0 : Int) < (L.length : Int) by omega)
    rw [← hkq, IntWalk.i64_in _ (by omega), IntWalk.wrap64_in _ (by omega)]
  have d1 : w2.drew.cell? ⟨rr, 0, none⟩ = some (.slice (some ⟨g2, o2, none⟩) L.length c2) := d0
  have d2 : w2.drew.cell? ⟨g2, o2 + k, none⟩ = some (.int .u32 p) := dk
  have HDR : Hid (Below w2.heap.size w2 w2.drew) := Lib.hid (Below.refl _ _).drew
  clear hp
  refine Run.region_walk (S := fun z => z.cell? ⟨rr, 0, none⟩ = some (.slice (some ⟨g2, o2, none⟩) L.length c2) ∧ z.cell? ⟨g2, o2 + k, none⟩ = some (.int .u32 p))
    lgbetter.rows4 lgbetter.plan4 (l := ?steps1) (by kernel_rfl) (by kernel_rfl) (by kernel_rfl) (by kernel_rfl) ?written1 ⟨d1, d2⟩ ?onward1
  case written1 =>
    simp only [lgbetter.plan4, Run.stepsOf, Run.stepOf, Run.guardOf, List.getElem?_toArray, List.getElem?_cons_zero, List.getElem?_cons_succ, Option.map_some, Option.map_none, Option.bind_some, Option.toList_some, List.map_cons, List.map_nil, List.cons_append, List.nil_append, List.append_eq]
    rfl
  repeat ((first
    | (refine Run.takes (v := ?_) ?_ ?_; rotate_left; (· intro w' hS'; (first | (have h1 := hS'.1; have h2 := hS'.2; go_simp; done) | (go_simp; (try with_reducible rfl)))))
    | (refine Run.takesG (v := ?_) ?_ ?_ ?_; rotate_left; (· simp only [List.getElem?_cons_zero, List.getElem?_cons_succ]); (· intro w' hS'; (first | (have h1 := hS'.1; have h2 := hS'.2; go_simp; done) | (go_simp; (try with_reducible rfl)))))
    | (refine Run.skipsT ?_ ?_; (· simp only [List.getElem?_cons_zero, List.getElem?_cons_succ]))
    | (refine Run.skipsF ?_ ?_; (· simp only [List.getElem?_cons_zero, List.getElem?_cons_succ]))
    | (refine Run.skipsU ?_ ?_; (· simp only [List.getElem?_cons_zero, List.getElem?_cons_succ]))
    | (refine Run.passT ?_ ?_; (· simp only [List.getElem?_cons_zero, List.getElem?_cons_succ]))
    | (refine Run.passF ?_ ?_; (· simp only [List.getElem?_cons_zero, List.getElem?_cons_succ]))
    | (refine Run.passU ?_ ?_; (· simp only [List.getElem?_cons_zero, List.getElem?_cons_succ]))
    | fail); simp only [Act.put, List.setIfInBounds_toArray, List.set_cons_zero, List.set_cons_succ])
  refine Run.ends (fun _ => ?_)
  clear hw64 hlz hkq hkq2 d1 d2 d0 dk hkl hcl hkS
  have HP3 := Lib.hid (HP2.out.keep HDR.out)
  have HK3 := Lib.hid (nest HK2.out HDR.out)
  have HV3 := Lib.hid (HQ5.out.keep HDR.out)
  have HC3 := Lib.hid (kc HDR.out HC0.out)
  clear HP2 HK2 HQ5 HC0 HDR HQ3 HQ4
  generalize w2.drew = w3 at *
  obtain ⟨ow, how⟩ : ∃ q, q = (ownR L x).1 := ⟨_, rfl⟩
  obtain ⟨nx, hnx⟩ : ∃ q, q = (nextR L p).1 := ⟨_, rfl⟩
  have HOW := Lib.hid how
  have HNX := Lib.hid hnx
  have HOC := Lib.hid (rrowner_any rr L x w3 HP3.out.two)
  rw [← how] at HOC
  generalize (ownR L x).2 = oi at HOC
  clear hnx how
  go_upto_region 6 with (go_at_call 14; refine HOC.out.mono ?_; rintro e w4 ⟨rfl, hk⟩)
  have HNC := Lib.hid (rrnext_any rr L p w4 (HP3.out.two.keep hk))
  rw [← HNX.out] at HNC
  generalize (nextR L p).2 = ni at HNC
  go_upto_region 7 with (go_at_call 18; refine HNC.out.mono ?_; rintro e w5 ⟨rfl, hk5⟩)
  have HK35 : Hid (Below w3.heap.size w3 w5) := Lib.hid (nest hk hk5)
  have HGC := Lib.hid (pr_next _ r rr L L w5 (HP3.out.keep HK35.out) tn (.slice au tn.length cu) p x (HU.out.keep (nest HK3.out HK35.out)) HTB.out (HO.out.2.1 p HPM.out) HBX.out)
  obtain ⟨gx, hgx⟩ : ∃ q, q = (goR L tn p x).1 := ⟨_, rfl⟩
  obtain ⟨gi, hgi⟩ : ∃ q, q = (goR L tn p x).2 := ⟨_, rfl⟩
  rw [← hgx, ← hgi] at HGC
  have HGX := Lib.hid hgx
  have HGI := Lib.hid hgi
  clear hgx hgi hk hk5 HOC HNC
  go_upto_region 8 with (go_at_call 11; refine HGC.out.mono ?_; rintro e w6 ⟨rfl, hk6⟩)
  have HK36 : Hid (Below w3.heap.size w3 w6) := Lib.hid (nest HK35.out hk6)
  have HK6 : Hid (Below w.heap.size w w6) := Lib.hid (nest HK3.out HK36.out)
  clear hk6 HK35 HGC
  by_cases hop : ow = p
  · have hoe : (ow == p) = true := by simpa using hop
    have HF : Hid (goR L tn p x = (0, false)) := Lib.hid (goR_false tn (.inr (by rw [← HOW.out]; exact hop)))
    have hgx0 : gx = 0 := by rw [HGX.out, HF.out]
    have hgi0 : gi = false := by rw [HGI.out, HF.out]
    subst hgx0 hgi0
    clear hop
    go_wp2_with (go_at_call 9; refine (grawake_any w6).mono ?_; rintro e w10 ⟨rfl, hk⟩)
    go_ret
    exact ⟨rfl, nest HK6.out hk⟩
  have hoe : (ow == p) = false := beq_eq_false_iff_ne.2 hop
  have HBT := Lib.hid (better HO.out HBX.out HPM.out (by rw [← HOW.out]; exact hop) tn)
  rw [← HOW.out, ← HNX.out, ← HGX.out, ← HGI.out] at HBT
  have hgi1 : gi = true := HBT.out.1
  subst hgi1
  clear hop
  have HLC : Hid (∀ z, Below w6.heap.size w6 z → z.cell? ⟨rr, 0, none⟩ = some (.slice (some ⟨g2, o2, none⟩) L.length c2)) := Lib.hid (fun z hz => kc (nest HK36.out hz) HC3.out)
  have HIL : Hid (∀ q z, Below w6.heap.size w6 z → Calls Try.prog 16 #[.slice (some ⟨g2, o2, none⟩) L.length c2, .int .u32 q] z fun e w' => e = .returned (.bool (L.contains q)) ∧ Below z.heap.size z w') := Lib.hid (fun q z hz => inU_any _ L q z (HV3.out.keep (nest HK36.out hz)))
  have HIT : Hid (∀ q z, Below w6.heap.size w6 z → Calls Try.prog 16 #[.slice au tn.length cu, .int .u32 q] z fun e w' => e = .returned (.bool (tn.contains q)) ∧ Below z.heap.size z w') := Lib.hid (fun q z hz => inU_any _ tn q z (HU.out.keep (nest HK6.out hz)))
  have HI1 : Hid (∀ z, Below w6.heap.size w6 z → Calls Try.prog 16 #[.slice (some ⟨g2, o2, none⟩) L.length c2, .int .u32 gx] z fun e w' => e = .returned (.bool true) ∧ Below z.heap.size z w') := Lib.hid (fun z hz => by have := HIL.out gx z hz; rwa [HBT.out.2.2.2.1] at this)
  have HCMP : Hid ((ow = nx ∧ gx = nx) ∨ (ow ≠ nx ∧ gx = nx) ∨ (ow ≠ nx ∧ gx ≠ nx)) := Lib.hid (by
    by_cases h1 : ow = nx
    · exact .inl ⟨h1, HBT.out.2.1 h1⟩
    · by_cases h2 : gx = nx
      · exact .inr (.inl ⟨h1, h2⟩)
      · exact .inr (.inr ⟨h1, h2⟩))
  have HIX : Hid (gx ≠ nx → ∀ z, Below w6.heap.size w6 z → Calls Try.prog 16 #[.slice au tn.length cu, .int .u32 gx] z fun e w' => e = .returned (.bool true) ∧ Below z.heap.size z w') := Lib.hid (fun hne z hz => by have := HIT.out gx z hz; rwa [HBT.out.2.2.1 hne] at this)
  clear hq2' hl64 hL0 hLp hLz2 HK3 HP3 HV3 HC3 HK36
  rcases HCMP.out with ⟨e1, e2⟩ | ⟨e1, e2⟩ | ⟨e1, e2⟩
  · subst e2
    subst e1
    go_upto_region 12 with (first | (go_at_call 9; refine (grawake_any w6).mono ?_; rintro e w9 ⟨rfl, hk9⟩; have hb9 : Below w6.heap.size w6 w9 := hk9; have d9 := HLC.out w9 hb9) | (go_at_call 16; refine (HI1.out _ hb9).mono ?_; rintro e w10 ⟨rfl, hk10⟩; have hb10 : Below w6.heap.size w6 w10 := nest hb9 hk10))
    have HB10 := Lib.hid hb10
    clear hb9 hk9 hk10 hb10 d9
    go_upto_block 99 with fail
    go_loopw [18] (fun iv wr => ∃ i : Nat, i ≤ tn.length ∧ iv = .int .i64 i ∧ Below w6.heap.size w6 wr) (fun iv _ => tn.length - (intOf iv).toNat)
    case atStart => exact ⟨0, Nat.zero_le _, rfl, HB10.out⟩
    case round =>
      obtain ⟨i, hi, rfl, hk⟩ := hrel
      have HKI := Lib.hid hk
      by_cases hlt : i < tn.length
      · skip
        as_aux_lemma =>
          obtain ⟨rfl, _⟩ := HAU.out (by omega)
          have f0 := kc (nest HK6.out hk) (HEU.out i hlt)
          have hm : tn.getD i 0 ∈ tn := by rw [show tn.getD i 0 = tn[i] by simp [List.getD, hlt]]; exact List.getElem_mem hlt
          obtain ⟨q, hq⟩ : ∃ q, q = tn.getD i 0 := ⟨_, rfl⟩
          rw [← hq] at f0 hm
          have HM := Lib.hid hm
          have hil : (i : Int) < (tn.length : Int) := by omega
          have hcl : (tn.length : Int) ≤ cu := by omega
          have hi40 : (i : Int) < 40 := by have := H40.out; omega
          have HILT := Lib.hid hlt
          have d0 := HLC.out wr hk
          clear hq hm hi hlt hk
          go_wp2_with fail
          exact ⟨⟨i + 1, by have := HILT.out; omega, by go_num, HKI.out⟩, by have := HILT.out; simp [intOf]; omega⟩
      · have hil : ¬ (i : Int) < (tn.length : Int) := by omega
        go_wp2_with fail
        go_ret
        exact ⟨rfl, nest HK6.out HKI.out⟩
  · subst e2
    go_upto_region 12 with (first | (go_at_call 9; refine (grawake_any w6).mono ?_; rintro e w9 ⟨rfl, hk9⟩; have hb9 : Below w6.heap.size w6 w9 := hk9; have d9 := HLC.out w9 hb9) | (go_at_call 16; refine (HI1.out _ hb9).mono ?_; rintro e w10 ⟨rfl, hk10⟩; have hb10 : Below w6.heap.size w6 w10 := nest hb9 hk10))
    have HB10 := Lib.hid hb10
    clear hb9 hk9 hk10 hb10 d9
    go_upto_block 99 with fail
    go_loopw [18] (fun iv wr => ∃ i : Nat, i ≤ tn.length ∧ iv = .int .i64 i ∧ Below w6.heap.size w6 wr) (fun iv _ => tn.length - (intOf iv).toNat)
    case atStart => exact ⟨0, Nat.zero_le _, rfl, HB10.out⟩
    case round =>
      obtain ⟨i, hi, rfl, hk⟩ := hrel
      have HKI := Lib.hid hk
      by_cases hlt : i < tn.length
      · skip
        as_aux_lemma =>
          obtain ⟨rfl, _⟩ := HAU.out (by omega)
          have f0 := kc (nest HK6.out hk) (HEU.out i hlt)
          have hm : tn.getD i 0 ∈ tn := by rw [show tn.getD i 0 = tn[i] by simp [List.getD, hlt]]; exact List.getElem_mem hlt
          obtain ⟨q, hq⟩ : ∃ q, q = tn.getD i 0 := ⟨_, rfl⟩
          rw [← hq] at f0 hm
          have HM := Lib.hid hm
          have hil : (i : Int) < (tn.length : Int) := by omega
          have hcl : (tn.length : Int) ≤ cu := by omega
          have hi40 : (i : Int) < 40 := by have := H40.out; omega
          have HILT := Lib.hid hlt
          have d0 := HLC.out wr hk
          clear hq hm hi hlt hk
          have HINQ := Lib.hid (HIL.out q wr HKI.out)
          have HNO := Lib.hid (HBT.out.2.2.2.2 e1 q HM.out)
          obtain ⟨qc, hqc⟩ : ∃ b, b = L.contains q := ⟨_, rfl⟩
          rw [← hqc] at HINQ HNO
          clear hqc
          cases qc with
          | false =>
            go_wp2_with (go_at_call 16; refine HINQ.out.mono ?_; rintro e w11 ⟨rfl, hk11⟩)
            exact ⟨⟨i + 1, by have := HILT.out; omega, by go_num, nest HKI.out hk11⟩, by have := HILT.out; simp [intOf]; omega⟩
          | true =>
            by_cases hqp : q = p
            · subst hqp
              go_wp2_with (go_at_call 16; refine HINQ.out.mono ?_; rintro e w11 ⟨rfl, hk11⟩)
              exact ⟨⟨i + 1, by have := HILT.out; omega, by go_num, nest HKI.out hk11⟩, by have := HILT.out; simp [intOf]; omega⟩
            · by_cases h1 : stp p q < stp p x
              · have h2 := HNO.out rfl h1
                unfold stp at h1 h2
                go_wp2_with (go_at_call 16; refine HINQ.out.mono ?_; rintro e w11 ⟨rfl, hk11⟩)
                exact ⟨⟨i + 1, by have := HILT.out; omega, by go_num, nest HKI.out hk11⟩, by have := HILT.out; simp [intOf]; omega⟩
              · unfold stp at h1
                go_wp2_with (go_at_call 16; refine HINQ.out.mono ?_; rintro e w11 ⟨rfl, hk11⟩)
                exact ⟨⟨i + 1, by have := HILT.out; omega, by go_num, nest HKI.out hk11⟩, by have := HILT.out; simp [intOf]; omega⟩
      · have hil : ¬ (i : Int) < (tn.length : Int) := by omega
        go_wp2_with fail
        go_ret
        exact ⟨rfl, nest HK6.out HKI.out⟩
  · skip
    go_upto_region 12 with (first | (go_at_call 9; refine (grawake_any w6).mono ?_; rintro e w9 ⟨rfl, hk9⟩; have hb9 : Below w6.heap.size w6 w9 := hk9; have d9 := HLC.out w9 hb9) | (go_at_call 16; refine (HIX.out e2 _ hb9).mono ?_; rintro e w95 ⟨rfl, hk95⟩; have hb95 : Below w6.heap.size w6 w95 := nest hb9 hk95; have d95 := HLC.out w95 hb95) | (go_at_call 16; refine (HI1.out _ hb95).mono ?_; rintro e w10 ⟨rfl, hk10⟩; have hb10 : Below w6.heap.size w6 w10 := nest hb95 hk10))
    have HB10 := Lib.hid hb10
    clear hb9 hk9 hk10 hb10 d9 hb95 hk95 d95
    go_upto_block 99 with fail
    go_loopw [18] (fun iv wr => ∃ i : Nat, i ≤ tn.length ∧ iv = .int .i64 i ∧ Below w6.heap.size w6 wr) (fun iv _ => tn.length - (intOf iv).toNat)
    case atStart => exact ⟨0, Nat.zero_le _, rfl, HB10.out⟩
    case round =>
      obtain ⟨i, hi, rfl, hk⟩ := hrel
      have HKI := Lib.hid hk
      by_cases hlt : i < tn.length
      · skip
        as_aux_lemma =>
          obtain ⟨rfl, _⟩ := HAU.out (by omega)
          have f0 := kc (nest HK6.out hk) (HEU.out i hlt)
          have hm : tn.getD i 0 ∈ tn := by rw [show tn.getD i 0 = tn[i] by simp [List.getD, hlt]]; exact List.getElem_mem hlt
          obtain ⟨q, hq⟩ : ∃ q, q = tn.getD i 0 := ⟨_, rfl⟩
          rw [← hq] at f0 hm
          have HM := Lib.hid hm
          have hil : (i : Int) < (tn.length : Int) := by omega
          have hcl : (tn.length : Int) ≤ cu := by omega
          have hi40 : (i : Int) < 40 := by have := H40.out; omega
          have HILT := Lib.hid hlt
          have d0 := HLC.out wr hk
          clear hq hm hi hlt hk
          have HINQ := Lib.hid (HIL.out q wr HKI.out)
          have HNO := Lib.hid (HBT.out.2.2.2.2 e1 q HM.out)
          obtain ⟨qc, hqc⟩ : ∃ b, b = L.contains q := ⟨_, rfl⟩
          rw [← hqc] at HINQ HNO
          clear hqc
          cases qc with
          | false =>
            go_wp2_with (go_at_call 16; refine HINQ.out.mono ?_; rintro e w11 ⟨rfl, hk11⟩)
            exact ⟨⟨i + 1, by have := HILT.out; omega, by go_num, nest HKI.out hk11⟩, by have := HILT.out; simp [intOf]; omega⟩
          | true =>
            by_cases hqp : q = p
            · subst hqp
              go_wp2_with (go_at_call 16; refine HINQ.out.mono ?_; rintro e w11 ⟨rfl, hk11⟩)
              exact ⟨⟨i + 1, by have := HILT.out; omega, by go_num, nest HKI.out hk11⟩, by have := HILT.out; simp [intOf]; omega⟩
            · by_cases h1 : stp p q < stp p x
              · have h2 := HNO.out rfl h1
                unfold stp at h1 h2
                go_wp2_with (go_at_call 16; refine HINQ.out.mono ?_; rintro e w11 ⟨rfl, hk11⟩)
                exact ⟨⟨i + 1, by have := HILT.out; omega, by go_num, nest HKI.out hk11⟩, by have := HILT.out; simp [intOf]; omega⟩
              · unfold stp at h1
                go_wp2_with (go_at_call 16; refine HINQ.out.mono ?_; rintro e w11 ⟨rfl, hk11⟩)
                exact ⟨⟨i + 1, by have := HILT.out; omega, by go_num, nest HKI.out hk11⟩, by have := HILT.out; simp [intOf]; omega⟩
      · have hil : ¬ (i : Int) < (tn.length : Int) := by omega
        go_wp2_with fail
        go_ret
        exact ⟨rfl, nest HK6.out HKI.out⟩
end Go.Proofs.Ytbhnpidbgckinaa.greedyBetter
