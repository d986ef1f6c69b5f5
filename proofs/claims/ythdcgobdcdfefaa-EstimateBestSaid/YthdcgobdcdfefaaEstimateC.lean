/- Walks of package estimate: how much of a density a range has, and which hub is the best. -/
import Derived.Test.YthdcgobdcdfefaaEsRef
import Derived.Test.YthdcgobdcdfefaaBoxOwn
import Derived.Test.YthdcgobdcdfefaaDensityC
import Derived.Test.YthdcgobdcdfefaaEsoPlans
set_option maxRecDepth 4000
namespace Go.Proofs.Ythdcgobdcdfefaa
open Go.RowKit Mem Cir
set_option linter.unusedSimpArgs false
set_option linter.unusedVariables false
attribute [local irreducible] Go.Calls

set_option maxHeartbeats 2000000 in
theorem epart_any (l : List Int) (r : Rng3) (h : okD l) (hr : okRn r) (w : World) : Calls Try.prog 12 #[.agg (dcs l).toArray, .agg #[.int .i64 r.1, .int .u32 r.2.1, .int .u32 r.2.2]] w fun e w' => e = .returned (.int .u32 (partR l r)) ∧ Below w.heap.size w w' := by
  obtain ⟨k, a, b⟩ := r
  have HO := Lib.hid h
  have HL : Hid (l.length = 16) := Lib.hid h.1
  have HSB := Lib.hid (spanV_bd hr)
  have HSP := Lib.hid (fun z => ospan_any k a b hr.2.1 hr.2.2 z)
  have HPR : Hid (partR l (k, a, b) = if (spanV (k, a, b)).2.2 = false then 0 else if allD l = 0 then beh (spanV (k, a, b)).1 (spanV (k, a, b)).2.1 / 65536 else withD l ((spanV (k, a, b)).1, (spanV (k, a, b)).2.1) * 65536 / allD l) := Lib.hid rfl
  have HPB := Lib.hid (part_le h hr)
  have HAL := Lib.hid (fun z => dall_any l h z)
  have HAB := Lib.hid h.all_bd
  have HWL := Lib.hid (fun f t (hf : 0 ≤ f ∧ f ≤ 4294967295) (ht : 0 ≤ t ∧ t ≤ 4294967295) => with_le h (f, t) hf ht)
  dsimp only
  obtain ⟨⟨sf, st, si⟩, hs⟩ : ∃ s, s = spanV (k, a, b) := ⟨_, rfl⟩
  rw [← hs] at HSB HSP HPR
  dsimp only at HSB HSP HPR
  obtain ⟨RES, hRES⟩ : ∃ x, x = partR l (k, a, b) := ⟨_, rfl⟩
  rw [← hRES] at HPR HPB ⊢
  clear hRES hs hr h
  go_enter Try.func12, Try.ntmps12
  go_upto_region 1 with fail
  obtain ⟨W, hW⟩ : ∃ W, W = (w.alloc (.cells (dcs l).toArray 24)).alloc (.cells #[.int .i64 k, .int .u32 a, .int .u32 b] 26) := ⟨_, rfl⟩
  have HK : Hid (Below w.heap.size w W) := Lib.hid (hW ▸ more (more (Below.refl _ _) _) _)
  have HG : Hid (Blk W w.heap.size 24 (dcs l).toArray) := Lib.hid (by rw [hW]; exact (Blk.new w _ _).keep (more (Below.refl _ _) _))
  have HR : Hid (Blk W (w.heap.size + 1) 26 #[.int .i64 k, .int .u32 a, .int .u32 b]) := Lib.hid (by rw [hW]; exact Blk.newAt _ _ _ (by rw [size_alloc]))
  rw [← hW]
  obtain ⟨r, hr⟩ : ∃ r, r = w.heap.size + 1 := ⟨_, rfl⟩
  obtain ⟨g, hg⟩ : ∃ g, g = w.heap.size := ⟨_, rfl⟩
  rw [← hr] at HR ⊢
  rw [← hg] at HG ⊢
  clear hW hr hg
  have c0 := HR.out.cell 0
  have c1 := HR.out.cell 1
  have c2 := HR.out.cell 2
  go_upto_region 2 with (go_at_call 18; refine (HSP.out _).mono ?_; rintro e w1 ⟨rfl, hk⟩)
  have hk2 : Below W.heap.size W (w1.alloc (.cells #[.int .u32 sf, .int .u32 st] 46)) := more hk _
  have HQ : Hid (Blk (w1.alloc (.cells #[.int .u32 sf, .int .u32 st] 46)) w1.heap.size 46 #[.int .u32 sf, .int .u32 st]) := Lib.hid (Blk.new _ _ _)
  have HK2 := Lib.hid (nest HK.out hk2)
  have HG2 := Lib.hid (HG.out.keep hk2)
  clear c0 c1 c2 hk hk2 HK HG HR HSP
  generalize w1.alloc (.cells #[.int .u32 sf, .int .u32 st] 46) = w2 at *
  obtain ⟨q, hq⟩ : ∃ g, g = w1.heap.size := ⟨_, rfl⟩
  rw [← hq] at HQ ⊢
  clear hq
  have c0 := HQ.out.cell 0
  have c1 := HQ.out.cell 1
  cases si with
  | false =>
    have HRR : Hid (RES = 0) := Lib.hid (by rw [HPR.out, if_pos rfl])
    go_wp2_with fail
    go_ret
    exact ⟨by rw [HRR.out]; rfl, HK2.out⟩
  | true =>
    by_cases ha : allD l = 0
    · have HRR : Hid (RES = beh sf st / 65536) := Lib.hid (by rw [HPR.out, if_neg (by simp), if_pos ha])
      have HSZ := Lib.hid (fun z => size_any sf st z)
      have HBB := Lib.hid (beh_bd sf st)
      obtain ⟨s, hs⟩ : ∃ s, s = beh sf st := ⟨_, rfl⟩
      rw [← hs] at HSZ HRR HBB
      rw [ha] at HAL
      have hw : IntKind.u32.wrap (s / 65536) = RES := by rw [HRR.out, IntKind.wrap_u32]; have := HBB.out; omega
      clear hs ha
      go_wp2_with (first | (refine at_load 2 rfl ?_; refine wpList_load_row rfl 24 (.tmp 2) rfl g rfl 24 _ (0, 0) _ HG2.out Try.underlying24 rfl (den_info _ HL.out) ?_) | (go_at_call 19; refine (HAL.out _).mono ?_; rintro e w3 ⟨rfl, hk3⟩; have c0' : w3.cell? ⟨q, 0, none⟩ = some (.int .u32 sf) := kc hk3 c0; have c1' : w3.cell? ⟨q, 1, none⟩ = some (.int .u32 st) := kc hk3 c1) | (go_at_call 20; refine (HSZ.out _).mono ?_; rintro e w4 ⟨rfl, hk4⟩))
      go_ret
      exact ⟨rfl, nest HK2.out (nest hk3 hk4)⟩
    · have HRR : Hid (RES = withD l (sf, st) * 65536 / allD l) := Lib.hid (by rw [HPR.out, if_neg (by simp), if_neg ha])
      have HWI := Lib.hid (fun z => dwithin_any l sf st HO.out HSB.out.1 HSB.out.2 z)
      have HWB := Lib.hid (HWL.out sf st HSB.out.1 HSB.out.2)
      have HP : Hid (0 < allD l) := Lib.hid (by have := HAB.out; omega)
      generalize withD l (sf, st) = W2 at *
      generalize allD l = A at *
      have hne : (A == 0) = false := beq_eq_false_iff_ne.2 ha
      have hs1 : IntKind.u64.wrap (W2 * 65536) = W2 * 65536 := by rw [IntKind.wrap_u64]; have := HWB.out; have := HAB.out; omega
      have hq : (W2 * 65536).tdiv A = RES := by rw [HRR.out, Int.tdiv_eq_ediv_of_nonneg (by have := HWB.out; omega)]
      have hw : IntKind.u32.wrap RES = RES := by rw [IntKind.wrap_u32]; have := HPB.out; omega
      have hw2 : IntKind.u64.wrap RES = RES := by rw [IntKind.wrap_u64]; have := HPB.out; omega
      go_wp2_with (first | (refine at_load 2 rfl ?_; refine wpList_load_row rfl 24 (.tmp 2) rfl g rfl 24 _ (0, 0) _ (by first | exact HG2.out | exact HG3.out) Try.underlying24 rfl (den_info _ HL.out) ?_) | (go_at_call 19; refine (HAL.out _).mono ?_; rintro e w3 ⟨rfl, hk3⟩; have c0' : w3.cell? ⟨q, 0, none⟩ = some (.int .u32 sf) := kc hk3 c0; have c1' : w3.cell? ⟨q, 1, none⟩ = some (.int .u32 st) := kc hk3 c1; have HG3 := Lib.hid (HG2.out.keep hk3)) | (go_at_call 21; refine (HWI.out _).mono ?_; rintro e w4 ⟨rfl, hk4⟩))
      go_ret
      exact ⟨rfl, nest HK2.out (nest hk3 hk4)⟩
set_option maxRecDepth 100000 in
set_option maxHeartbeats 4000000 in
theorem ebest_any (v1 v2 : Value) (L : List Den) (b : List Rng3) (w : World) (h1 : Rd denE w v1 L) (h2 : Rd rngE w v2 b) (hb1 : ∀ x ∈ L, okD x.1) (hb2 : ∀ r ∈ b, okRn r) (hL : L.length ≤ 1000000) :
    Calls Try.prog 10 #[v1, v2] w fun e w' => e = .returned (.tuple #[.int .i64 (bestR L b).1, .int .i64 (bestR L b).2]) ∧ Below w.heap.size w w' := by
  have HRT := Lib.hid (orightb_any (L.length : Int) v2 b w h2)
  obtain ⟨a1, g1, o1, c1, rfl, hlc1, hc1, hga1, hcs1⟩ := den_row h1
  obtain ⟨a2, g2, o2, c2, rfl, hlc2, hc2, hga2, hcs2⟩ := Rd.loop3 h2
  have hc1' : c1 ≤ 9223372036854775807 := hc1
  have hc2' : c2 ≤ 9223372036854775807 := hc2
  have HC1 := Lib.hid hcs1
  have HC2 := Lib.hid hcs2
  have HG1 := Lib.hid hga1
  have HG2 := Lib.hid hga2
  have HB1 := Lib.hid hb1
  have HB2 := Lib.hid hb2
  clear h1 h2 hcs1 hcs2 hga1 hga2 hb1 hb2
  cases hrt : rightB (L.length : Int) b with
  | false =>
    have e : bestR L b = (0, 8) := by unfold bestR; rw [hrt]; rfl
    rw [e]
    rw [hrt] at HRT
    clear e hrt
    go_enter Try.func10, Try.ntmps10
    go_wp2_with (go_at_call 17; refine HRT.out.mono ?_; rintro e w1 ⟨rfl, hk⟩)
    go_ret2
    exact ⟨rfl, hk⟩
  | true =>
    obtain ⟨hlen, hn1, hn8⟩ := right_len hrt
    have e : bestR L b = (((bestI (hubP L b) (L.length - 1) : Nat) : Int), 0) := by unfold bestR; rw [hrt, if_pos rfl]
    rw [e]
    rw [hrt] at HRT
    obtain ⟨P, hP⟩ : ∃ P, P = hubP L b := ⟨_, rfl⟩
    have HPP := Lib.hid hP
    rw [← hP]
    clear e hrt hP
    have HBQ : Hid (b.length = L.length) := Lib.hid (by omega)
    have HLP : Hid (0 + 1 ≤ L.length) := Lib.hid (by omega)
    have hn8' : (L.length : Int) ≤ 8 := hn8
    have hl0 : (0 : Int) < (L.length : Int) := by omega
    have hb0 : (0 : Int) < (b.length : Int) := by omega
    have hl1 : 0 < L.length := by omega
    have hb1 : 0 < b.length := by omega
    obtain rfl := HG1.out (by omega)
    obtain ⟨rfl, _⟩ := HG2.out (by omega)
    have HXL := Lib.hid (L[0]'(by omega)).2
    have hp0 : partR (L[0]'(by omega)).1 (b.getD 0 (0, 0, 0)) = P 0 := by rw [HPP.out]; unfold hubP; rw [den_getD (by omega)]
    have hpb : ∀ i, i < L.length → 0 ≤ P i ∧ P i ≤ 65536 := fun i hi => by
      rw [HPP.out]; unfold hubP; rw [den_getD hi]
      exact part_le (HB1.out _ (List.getElem_mem hi)) (HB2.out _ (by rw [rng_getD (by omega)]; exact List.getElem_mem _))
    have HPB := Lib.hid hpb
    have q1 := Lib.hid (HC1.out 0 (by omega))
    obtain ⟨e1, e2, e3⟩ := HC2.out 0 (by omega)
    have r1 := Lib.hid (fun z => epart_any (L[0]'(by omega)).1 (b.getD 0 (0, 0, 0)) (HB1.out _ (List.getElem_mem (by omega))) (HB2.out _ (by rw [rng_getD (by omega)]; exact List.getElem_mem _)) z)
    rw [hp0] at r1
    generalize (L[0]'(by omega)).1 = X1 at *
    obtain ⟨⟨k1, x1, y1⟩, hg1⟩ : ∃ g, g = b.getD 0 (0, 0, 0) := ⟨_, rfl⟩
    rw [← hg1] at e1 e2 e3 r1
    dsimp only at e1 e2 e3 r1
    simp only [Nat.zero_mul, Nat.add_zero] at q1 e1 e2 e3
    have HE := Lib.hid (And.intro e1 (And.intro e2 e3))
    have HP0 : Hid (P 0 = P (bestI P 0)) := Lib.hid rfl
    obtain ⟨p0, hpp⟩ : ∃ p, p = P 0 := ⟨_, rfl⟩
    rw [← hpp] at r1 HP0
    clear hp0 hg1 hpp e1 e2 e3 hpb hlen hn1 hn8
    go_enter Try.func10, Try.ntmps10
    go_upto_region 3 with (go_at_call 17; refine HRT.out.mono ?_; rintro e w1 ⟨rfl, hk⟩)
    have HK1 := Lib.hid hk
    clear hk HRT
    refine Run.region_walk (S := fun z => (∀ (t : Nat) (u : Value), (dcs X1)[t]? = some u → z.cell? ⟨g1, o1 + t, none⟩ = some u) ∧ (z.cell? ⟨g2, o2, none⟩ = some (.int .i64 k1) ∧ z.cell? ⟨g2, o2 + 1, none⟩ = some (.int .u32 x1) ∧ z.cell? ⟨g2, o2 + 2, none⟩ = some (.int .u32 y1)) ∧ Below w.heap.size w z)
      obest.rows3 obest.plan3 (l := ?steps1) (by kernel_rfl) (by kernel_rfl) (by kernel_rfl) (by kernel_rfl) ?written1 ⟨fun t u hu => (HK1.out.cell (World.block_lt_of_cell? w _ (q1.out t u hu))).trans (q1.out t u hu), ⟨kc HK1.out HE.out.1, kc HK1.out HE.out.2.1, kc HK1.out HE.out.2.2⟩, HK1.out.drew⟩ ?onward1
    case written1 =>
      simp only [obest.plan3, Run.stepsOf, Run.stepOf, Run.guardOf, List.getElem?_toArray, List.getElem?_cons_zero, List.getElem?_cons_succ, Option.map_some, Option.map_none, Option.bind_some, Option.toList_some, List.map_cons, List.map_nil, List.cons_append, List.nil_append, List.append_eq]
      rfl
    repeat ((first
      | (refine Run.takes (v := ?_) ?_ ?_; rotate_left; (· intro w' hS'; (first | (refine exec_load_part (n := 16) (x := .tmp 17) (l := dcs X1) ?_ Try.underlying24 den_i (by rw [dcs_len]; exact HXL.out) ?_ hS'.1 <;> rfl) | (have h1 := hS'.2.1.1; have h2 := hS'.2.1.2.1; have h3 := hS'.2.1.2.2; go_simp; done) | (go_simp; (try with_reducible rfl)))))
      | (refine Run.takesG (v := ?_) ?_ ?_ ?_; rotate_left; (· simp only [List.getElem?_cons_zero, List.getElem?_cons_succ]); (· intro w' hS'; (first | (refine exec_load_part (n := 16) (x := .tmp 17) (l := dcs X1) ?_ Try.underlying24 den_i (by rw [dcs_len]; exact HXL.out) ?_ hS'.1 <;> rfl) | (have h1 := hS'.2.1.1; have h2 := hS'.2.1.2.1; have h3 := hS'.2.1.2.2; go_simp; done) | (go_simp; (try with_reducible rfl)))))
      | (refine Run.skipsT ?_ ?_; (· simp only [List.getElem?_cons_zero, List.getElem?_cons_succ]))
      | (refine Run.skipsF ?_ ?_; (· simp only [List.getElem?_cons_zero, List.getElem?_cons_succ]))
      | (refine Run.skipsU ?_ ?_; (· simp only [List.getElem?_cons_zero, List.getElem?_cons_succ]))
      | (refine Run.passT ?_ ?_; (· simp only [List.getElem?_cons_zero, List.getElem?_cons_succ]))
      | (refine Run.passF ?_ ?_; (· simp only [List.getElem?_cons_zero, List.getElem?_cons_succ]))
      | (refine Run.passU ?_ ?_; (· simp only [List.getElem?_cons_zero, List.getElem?_cons_succ]))
      | (refine Run.runs ?_
         (first
         | (refine Run.callF 12 (by kernel_rfl) (fun hS => r1.out _) rfl ?_)
         | (refine Run.callG 12 (by kernel_rfl) ?_ (fun hS => r1.out _) rfl ?_; (· simp only [List.getElem?_cons_zero, List.getElem?_cons_succ]))
         | fail)
         (first
         | (rintro hS e w' ⟨rfl, rfl⟩; refine ⟨_, rfl, hS, ?_⟩)
         | (rintro hS e w' ⟨rfl, hb⟩; refine ⟨_, rfl, ⟨fun t u hu => kc hb (hS.1 t u hu), ⟨kc hb hS.2.1.1, kc hb hS.2.1.2.1, kc hb hS.2.1.2.2⟩, nest hS.2.2 hb⟩, ?_⟩)
         | fail))
      | fail); simp only [Act.put, List.setIfInBounds_toArray, List.set_cons_zero, List.set_cons_succ])
    refine Run.ends (fun hS => ?_)
    have HB5 := Lib.hid hS.2.2
    clear hS
    go_wp2_with fail
    go_loopw [6, 7, 25] (fun bv pv iv wr => ∃ n : Nat, n ≤ L.length ∧ bv = .int .i64 ((bestI P (n - 1) : Nat) : Int) ∧ pv = .int .u32 (P (bestI P (n - 1))) ∧ iv = .int .i64 (n : Int) ∧ Below w.heap.size w wr) (fun _ _ iv _ => L.length - (intOf iv).toNat)
    case atStart => exact ⟨0, Nat.zero_le _, rfl, by rw [HP0.out], rfl, HB5.out⟩
    case round =>
      obtain ⟨n, hn, rfl, rfl, rfl, hb⟩ := hrel
      have HB := Lib.hid hb
      obtain ⟨wo, hwo⟩ : ∃ z, z = wr := ⟨_, rfl⟩
      rw [← hwo] at HB ⊢
      clear hb hwo HB5 HK1 HE r1 q1 HP0
      have HST : Hid (bestI P (n + 1 - 1) = if P n < P (bestI P (n - 1)) then n else bestI P (n - 1)) := Lib.hid (by
        cases n with
        | zero => show 0 = if P 0 < P 0 then 0 else 0; split <;> rfl
        | succ n => rfl)
      obtain ⟨j, hj⟩ : ∃ j, j = bestI P (n - 1) := ⟨_, rfl⟩
      rw [← hj] at HST ⊢
      by_cases hlt : n < L.length
      · skip
        as_aux_lemma =>
          have hil2 : (n : Int) < (L.length : Int) := by omega
          have hil3 : (n : Int) < (b.length : Int) := by have := HBQ.out; omega
          obtain ⟨e1, e2, e3⟩ := HC2.out n (by have := HBQ.out; omega)
          have q1 := Lib.hid (HC1.out n hlt)
          have r1 := Lib.hid (fun z => epart_any (L[n]).1 (b.getD n (0, 0, 0)) (HB1.out _ (List.getElem_mem hlt)) (HB2.out _ (by rw [rng_getD (by have := HBQ.out; omega)]; exact List.getElem_mem _)) z)
          have hp1 : partR (L[n]).1 (b.getD n (0, 0, 0)) = P n := by rw [HPP.out]; unfold hubP; rw [den_getD hlt]
          rw [hp1] at r1
          have HX1 := Lib.hid (L[n]).2
          generalize (L[n]).1 = Y1 at *
          obtain ⟨⟨k2, x2, y2⟩, hg1⟩ : ∃ g, g = b.getD n (0, 0, 0) := ⟨_, rfl⟩
          rw [← hg1] at e1 e2 e3 r1
          dsimp only at e1 e2 e3 r1
          obtain ⟨p1, hpe1⟩ : ∃ p, p = P n := ⟨_, rfl⟩
          have HPE1 := Lib.hid hpe1
          rw [← hpe1] at r1 HST
          obtain ⟨p2, hpe2⟩ : ∃ p, p = P j := ⟨_, rfl⟩
          have HPE2 := Lib.hid hpe2
          rw [← hpe2] at HST ⊢
          have HLT := Lib.hid hlt
          clear hp1 hg1 hj hlt hn hpe1 hpe2
          have e1' := kc HB.out e1
          have e2' := kc HB.out e2
          have e3' := kc HB.out e3
          have HE := Lib.hid (And.intro e1' (And.intro e2' e3'))
          clear e1 e2 e3 e1' e2' e3'
          go_upto_region 7 with (first | (refine at_load 28 rfl ?_; refine wpList_load_part rfl 24 (.tmp 28) rfl Try.underlying24 den_i g1 _ (dcs Y1) (by rw [dcs_len]; exact HX1.out) rfl (fun t u hu => kc HB.out (q1.out t u hu)) ?_) | (refine at_store 9 rfl ?_; refine wpList_store_row rfl 24 (.tmp 9) (.tmp 29) rfl wo.heap.size (dcs Y1).toArray rfl rfl 24 (dcs zeroD).toArray (heap_alloc_new wo _) (den_info _ HX1.out) (by rw [List.size_toArray, List.size_toArray, dcs_len, dcs_len, HX1.out]; rfl) (dcs_one _) ?_))
          obtain ⟨w5, hw5⟩ : ∃ z, z = (wo.alloc (.cells (dcs zeroD).toArray 24)).setRow wo.heap.size (dcs Y1).toArray := ⟨_, rfl⟩
          have HV5 : Hid (Blk w5 wo.heap.size 24 (dcs Y1).toArray) := Lib.hid (by rw [hw5]; exact Blk.rowS (Blk.new wo _ _) _)
          have HK5 : Hid (Below wo.heap.size wo w5) := Lib.hid (by rw [hw5]; exact (more (Below.refl _ _) _).trans ((Only.rowS _ _).below (Nat.le_refl _) (by rw [size_alloc]; omega)))
          have hw5' := hw5
          simp only [dcs, zeroD, List.replicate, List.map_cons, List.map_nil] at hw5'
          rw [show (dcs Y1).toArray = (Y1.map (Value.int .u32)).toArray from rfl, ← hw5']
          rw [show (Y1.map (Value.int .u32)).toArray = (dcs Y1).toArray from rfl]
          obtain ⟨s5, hs5⟩ : ∃ s, s = wo.heap.size := ⟨_, rfl⟩
          rw [← hs5] at HV5 ⊢
          have HB5 := Lib.hid (nest HB.out HK5.out)
          have HE5 := Lib.hid (And.intro (kc HK5.out HE.out.1) (And.intro (kc HK5.out HE.out.2.1) (kc HK5.out HE.out.2.2)))
          clear hw5 hw5' hs5 HK5 HE q1
          refine Run.region_walk (S := fun z => Blk z s5 24 (dcs Y1).toArray ∧ (z.cell? ⟨g2, o2 + n * 3, none⟩ = some (.int .i64 k2) ∧ z.cell? ⟨g2, o2 + n * 3 + 1, none⟩ = some (.int .u32 x2) ∧ z.cell? ⟨g2, o2 + n * 3 + 2, none⟩ = some (.int .u32 y2)) ∧ Below w.heap.size w z)
            obest.rows7 obest.plan7 (l := ?steps2) (by kernel_rfl) (by kernel_rfl) (by kernel_rfl) (by kernel_rfl) ?written2 ⟨HV5.out.keep (Below.refl _ _).drew, ⟨kc (Below.refl _ _).drew HE5.out.1, kc (Below.refl _ _).drew HE5.out.2.1, kc (Below.refl _ _).drew HE5.out.2.2⟩, HB5.out.drew⟩ ?onward2
          case written2 =>
            simp only [obest.plan7, Run.stepsOf, Run.stepOf, Run.guardOf, List.getElem?_toArray, List.getElem?_cons_zero, List.getElem?_cons_succ, Option.map_some, Option.map_none, Option.bind_some, Option.toList_some, List.map_cons, List.map_nil, List.cons_append, List.nil_append, List.append_eq]
            rfl
          repeat ((first
            | (refine Run.takes (v := ?_) ?_ ?_; rotate_left; (· intro w' hS'; (first | (refine exec_load_part (n := 16) (x := .tmp 9) (l := dcs Y1) (g := s5) (off := 0) ?_ Try.underlying24 den_i (by rw [dcs_len]; exact HX1.out) ?_ (fun t u hu => by rw [Nat.zero_add, hS'.1.cell, List.getElem?_toArray]; exact hu) <;> rfl) | (have h1 := hS'.2.1.1; have h2 := hS'.2.1.2.1; have h3 := hS'.2.1.2.2; go_simp; done) | (go_simp; (try with_reducible rfl)))))
            | (refine Run.takesG (v := ?_) ?_ ?_ ?_; rotate_left; (· simp only [List.getElem?_cons_zero, List.getElem?_cons_succ]); (· intro w' hS'; (first | (refine exec_load_part (n := 16) (x := .tmp 9) (l := dcs Y1) (g := s5) (off := 0) ?_ Try.underlying24 den_i (by rw [dcs_len]; exact HX1.out) ?_ (fun t u hu => by rw [Nat.zero_add, hS'.1.cell, List.getElem?_toArray]; exact hu) <;> rfl) | (have h1 := hS'.2.1.1; have h2 := hS'.2.1.2.1; have h3 := hS'.2.1.2.2; go_simp; done) | (go_simp; (try with_reducible rfl)))))
            | (refine Run.skipsT ?_ ?_; (· simp only [List.getElem?_cons_zero, List.getElem?_cons_succ]))
            | (refine Run.skipsF ?_ ?_; (· simp only [List.getElem?_cons_zero, List.getElem?_cons_succ]))
            | (refine Run.skipsU ?_ ?_; (· simp only [List.getElem?_cons_zero, List.getElem?_cons_succ]))
            | (refine Run.passT ?_ ?_; (· simp only [List.getElem?_cons_zero, List.getElem?_cons_succ]))
            | (refine Run.passF ?_ ?_; (· simp only [List.getElem?_cons_zero, List.getElem?_cons_succ]))
            | (refine Run.passU ?_ ?_; (· simp only [List.getElem?_cons_zero, List.getElem?_cons_succ]))
            | (refine Run.runs ?_
               (first
               | (refine Run.callF 12 (by kernel_rfl) (fun hS => r1.out _) rfl ?_)
               | (refine Run.callG 12 (by kernel_rfl) ?_ (fun hS => r1.out _) rfl ?_; (· simp only [List.getElem?_cons_zero, List.getElem?_cons_succ]))
               | fail)
               (first
               | (rintro hS e w' ⟨rfl, rfl⟩; refine ⟨_, rfl, hS, ?_⟩)
               | (rintro hS e w' ⟨rfl, hb⟩; refine ⟨_, rfl, ⟨hS.1.keep hb, ⟨kc hb hS.2.1.1, kc hb hS.2.1.2.1, kc hb hS.2.1.2.2⟩, nest hS.2.2 hb⟩, ?_⟩)
               | fail))
            | fail); simp only [Act.put, List.setIfInBounds_toArray, List.set_cons_zero, List.set_cons_succ])
          refine Run.ends (fun hS => ?_)
          have HB6 := Lib.hid hS.2.2
          clear hS
          by_cases hp : p1 < p2
          · rw [if_pos hp] at HST
            have hpd : decide (p1 < p2) = true := by simpa using hp
            go_wp2_with fail
            exact ⟨⟨n + 1, by have := HLT.out; omega, by rw [HST.out], by rw [HST.out, HPE1.out], by go_num, HB6.out⟩, by have := HLT.out; simp [intOf]; omega⟩
          · rw [if_neg hp] at HST
            have hpd : decide (p1 < p2) = false := by simpa using hp
            go_wp2_with fail
            exact ⟨⟨n + 1, by have := HLT.out; omega, by rw [HST.out], by rw [HST.out, HPE2.out], by go_num, HB6.out⟩, by have := HLT.out; simp [intOf]; omega⟩
      · have hil : n = L.length := by omega
        have HJ : Hid (j = bestI P (L.length - 1)) := Lib.hid (by rw [hj, hil])
        subst hil
        clear hj
        go_wp2_with fail
        go_ret2
        exact ⟨by rw [HJ.out]; rfl, HB.out⟩
end Go.Proofs.Ythdcgobdcdfefaa
