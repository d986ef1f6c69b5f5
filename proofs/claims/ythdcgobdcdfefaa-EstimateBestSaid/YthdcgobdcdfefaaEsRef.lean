/- The document's answers for package estimate (petasosref14): Part, Best. -/
import Derived.Test.YthdcgobdcdfefaaDnRef3
import Derived.Test.YthdcgobdcdfefaaEsMath
import Derived.Test.YthdcgobdcdfefaaOwnD
set_option maxRecDepth 4000
namespace Go.Proofs.Ythdcgobdcdfefaa
open Go.RowKit Mem Cir
set_option linter.unusedSimpArgs false
set_option linter.unusedVariables false
attribute [local irreducible] Go.Calls

set_option maxHeartbeats 2000000 in
theorem rpart_any (l : List Int) (r : Rng3) (h : okD l) (hr : okRn r) (w : World) : Calls Try.prog 13 #[.agg (dcs l).toArray, .agg #[.int .i64 r.1, .int .u32 r.2.1, .int .u32 r.2.2]] w fun e w' => e = .returned (.int .u32 (partR l r)) ∧ Below w.heap.size w w' := by
  obtain ⟨k, a, b⟩ := r
  have HO := Lib.hid h
  have HL : Hid (l.length = 16) := Lib.hid h.1
  have HSB := Lib.hid (spanV_bd hr)
  have HSP := Lib.hid (fun z => rspan_any k a b hr.2.1 z)
  have HPR : Hid (partR l (k, a, b) = if (spanV (k, a, b)).2.2 = false then 0 else if allD l = 0 then beh (spanV (k, a, b)).1 (spanV (k, a, b)).2.1 / 65536 else withD l ((spanV (k, a, b)).1, (spanV (k, a, b)).2.1) * 65536 / allD l) := Lib.hid rfl
  have HPB := Lib.hid (part_le h hr)
  have HAL := Lib.hid (fun z => rall_any l h z)
  have HAB := Lib.hid h.all_bd
  have HWL := Lib.hid (fun f t (hf : 0 ≤ f ∧ f ≤ 4294967295) (ht : 0 ≤ t ∧ t ≤ 4294967295) => with_le h (f, t) hf ht)
  dsimp only
  obtain ⟨⟨sf, st, si⟩, hs⟩ : ∃ s, s = spanV (k, a, b) := ⟨_, rfl⟩
  rw [← hs] at HSB HSP HPR
  dsimp only at HSB HSP HPR
  obtain ⟨RES, hRES⟩ : ∃ x, x = partR l (k, a, b) := ⟨_, rfl⟩
  rw [← hRES] at HPR HPB ⊢
  clear hRES hs hr h
  go_enter Try.func13, Try.ntmps13
  go_upto_region 1 with fail
  obtain ⟨W, hW⟩ : ∃ W, W = (w.alloc (.cells (dcs l).toArray 24)).alloc (.cells #[.int .i64 k, .int .u32 a, .int .u32 b] 26) := ⟨_, rfl⟩
  have HK : Hid (Below w.heap.size w W) := Lib.hid (hW ▸ more (more (Below.refl _ _) _) _)
  have HG : Hid (Blk W w.heap.size 24 (dcs l).toArray) := Lib.hid (by rw [hW]; exact (Blk.new w _ _).keep (more (Below.refl _ _) _))
  have HR : Hid (Blk W (w.heap.size + 1) 26 #[.int .i64 k, .int .u32 a, .int .u32 b]) := Lib.hid (by rw [hW]; exact Blk.newAt _ _ _ (by rw [size_alloc]))
  rw [← hW]
  obtain ⟨r, hr⟩ : ∃ r, r = w.heap.size + 1 := ⟨_, rfl⟩
  obtain ⟨g, hg⟩ : ∃ g, g = w.heap.size := ⟨_, rfl⟩
  rw [← hr] at HR ⊢
  rw [← hg] at HG ⊢
  clear hW hr hg
  have c0 := HR.out.cell 0
  have c1 := HR.out.cell 1
  have c2 := HR.out.cell 2
  go_upto_region 2 with (go_at_call 22; refine (HSP.out _).mono ?_; rintro e w1 ⟨rfl, hk⟩)
  have hk2 : Below W.heap.size W (w1.alloc (.cells #[.int .u32 sf, .int .u32 st] 46)) := more hk _
  have HQ : Hid (Blk (w1.alloc (.cells #[.int .u32 sf, .int .u32 st] 46)) w1.heap.size 46 #[.int .u32 sf, .int .u32 st]) := Lib.hid (Blk.new _ _ _)
  have HK2 := Lib.hid (nest HK.out hk2)
  have HG2 := Lib.hid (HG.out.keep hk2)
  clear c0 c1 c2 hk hk2 HK HG HR HSP
  generalize w1.alloc (.cells #[.int .u32 sf, .int .u32 st] 46) = w2 at *
  obtain ⟨q, hq⟩ : ∃ g, g = w1.heap.size := ⟨_, rfl⟩
  rw [← hq] at HQ ⊢
  clear hq
  have c0 := HQ.out.cell 0
  have c1 := HQ.out.cell 1
  cases si with
  | false =>
    have HRR : Hid (RES = 0) := Lib.hid (by rw [HPR.out, if_pos rfl])
    go_wp2_with fail
    go_ret
    exact ⟨by rw [HRR.out]; rfl, HK2.out⟩
  | true =>
    by_cases ha : allD l = 0
    · have HRR : Hid (RES = beh sf st / 65536) := Lib.hid (by rw [HPR.out, if_neg (by simp), if_pos ha])
      have HSZ := Lib.hid (fun z => rsize_any sf st HSB.out.1 HSB.out.2 z)
      have HBB := Lib.hid (beh_bd sf st)
      obtain ⟨s, hs⟩ : ∃ s, s = beh sf st := ⟨_, rfl⟩
      rw [← hs] at HSZ HRR HBB
      rw [ha] at HAL
      have hw : IntKind.u32.wrap (s / 65536) = RES := by rw [HRR.out, IntKind.wrap_u32]; have := HBB.out; omega
      clear hs ha
      go_wp2_with (first | (refine at_load 2 rfl ?_; refine wpList_load_row rfl 24 (.tmp 2) rfl g rfl 24 _ (0, 0) _ HG2.out Try.underlying24 rfl (den_info _ HL.out) ?_) | (go_at_call 23; refine (HAL.out _).mono ?_; rintro e w3 ⟨rfl, hk3⟩; have c0' : w3.cell? ⟨q, 0, none⟩ = some (.int .u32 sf) := kc hk3 c0; have c1' : w3.cell? ⟨q, 1, none⟩ = some (.int .u32 st) := kc hk3 c1) | (go_at_call 24; refine (HSZ.out _).mono ?_; rintro e w4 ⟨rfl, hk4⟩))
      go_ret
      exact ⟨rfl, nest HK2.out (nest hk3 hk4)⟩
    · have HRR : Hid (RES = withD l (sf, st) * 65536 / allD l) := Lib.hid (by rw [HPR.out, if_neg (by simp), if_neg ha])
      have HWI := Lib.hid (fun z => rwithin_any l sf st HO.out HSB.out.1 HSB.out.2 z)
      have HWB := Lib.hid (HWL.out sf st HSB.out.1 HSB.out.2)
      have HP : Hid (0 < allD l) := Lib.hid (by have := HAB.out; omega)
      generalize withD l (sf, st) = W2 at *
      generalize allD l = A at *
      have hne : (A == 0) = false := beq_eq_false_iff_ne.2 ha
      have hs1 : IntKind.u64.wrap (W2 * 65536) = W2 * 65536 := by rw [IntKind.wrap_u64]; have := HWB.out; have := HAB.out; omega
      have hq : (W2 * 65536).tdiv A = RES := by rw [HRR.out, Int.tdiv_eq_ediv_of_nonneg (by have := HWB.out; omega)]
      have hw : IntKind.u32.wrap RES = RES := by rw [IntKind.wrap_u32]; have := HPB.out; omega
      have hw2 : IntKind.u64.wrap RES = RES := by rw [IntKind.wrap_u64]; have := HPB.out; omega
      go_wp2_with (first | (refine at_load 2 rfl ?_; refine wpList_load_row rfl 24 (.tmp 2) rfl g rfl 24 _ (0, 0) _ (by first | exact HG2.out | exact HG3.out) Try.underlying24 rfl (den_info _ HL.out) ?_) | (go_at_call 23; refine (HAL.out _).mono ?_; rintro e w3 ⟨rfl, hk3⟩; have c0' : w3.cell? ⟨q, 0, none⟩ = some (.int .u32 sf) := kc hk3 c0; have c1' : w3.cell? ⟨q, 1, none⟩ = some (.int .u32 st) := kc hk3 c1; have HG3 := Lib.hid (HG2.out.keep hk3)) | (go_at_call 25; refine (HWI.out _).mono ?_; rintro e w4 ⟨rfl, hk4⟩))
      go_ret
      exact ⟨rfl, nest HK2.out (nest hk3 hk4)⟩
/-- the part of one hub -/
def hubP (L : List Den) (b : List Rng3) (i : Nat) : Int := partR (L.getD i ⟨zeroD, rfl⟩).1 (b.getD i (0, 0, 0))
def bestR (L : List Den) (b : List Rng3) : Int × Int := if rightB L.length b = true then ((bestI (hubP L b) (L.length - 1) : Nat), 0) else (0, 8)
theorem right_len {n : Int} {b : List Rng3} (h : rightB n b = true) : (b.length : Int) = n ∧ 1 ≤ n ∧ n ≤ 8 := by
  unfold rightB at h
  simp only [Bool.and_eq_true, decide_eq_true_eq] at h
  omega
/-- what a list of densities, and of ranges, has at a place -/
theorem den_getD {L : List Den} {i : Nat} (hi : i < L.length) : L.getD i ⟨zeroD, rfl⟩ = L[i] := by simp [List.getD, hi]
theorem rng_getD {b : List Rng3} {i : Nat} (hi : i < b.length) : b.getD i (0, 0, 0) = b[i] := by simp [List.getD, hi]
set_option maxRecDepth 100000 in
set_option maxHeartbeats 4000000 in
theorem rbest_any (v1 v2 : Value) (L : List Den) (b : List Rng3) (w : World) (h1 : Rd denE w v1 L) (h2 : Rd rngE w v2 b) (hb1 : ∀ x ∈ L, okD x.1) (hb2 : ∀ r ∈ b, okRn r) (hL : L.length ≤ 1000000) :
    Calls Try.prog 11 #[v1, v2] w fun e w' => e = .returned (.tuple #[.int .i64 (bestR L b).1, .int .i64 (bestR L b).2]) ∧ Below w.heap.size w w' := by
  have HRT := Lib.hid (rrightb_any (L.length : Int) v2 b w h2)
  obtain ⟨a1, g1, o1, c1, rfl, _, hc1, hga1, hcs1⟩ := den_row h1
  obtain ⟨a2, g2, o2, c2, rfl, _, hc2, hga2, hcs2⟩ := Rd.loop3 h2
  have hc1' : c1 ≤ 9223372036854775807 := hc1
  have hc2' : c2 ≤ 9223372036854775807 := hc2
  have HC1 := Lib.hid hcs1
  have HC2 := Lib.hid hcs2
  have HG1 := Lib.hid hga1
  have HG2 := Lib.hid hga2
  have HB1 := Lib.hid hb1
  have HB2 := Lib.hid hb2
  clear h1 h2 hcs1 hcs2 hga1 hga2 hb1 hb2
  cases hrt : rightB (L.length : Int) b with
  | false =>
    have e : bestR L b = (0, 8) := by unfold bestR; rw [hrt]; rfl
    rw [e]
    rw [hrt] at HRT
    clear e hrt
    go_enter Try.func11, Try.ntmps11
    go_wp2_with (go_at_call 16; refine HRT.out.mono ?_; rintro e w1 ⟨rfl, hk⟩)
    go_ret2
    exact ⟨rfl, hk⟩
  | true =>
    obtain ⟨hlen, hn1, hn8⟩ := right_len hrt
    have e : bestR L b = (((bestI (hubP L b) (L.length - 1) : Nat) : Int), 0) := by unfold bestR; rw [hrt, if_pos rfl]
    rw [e]
    rw [hrt] at HRT
    obtain ⟨P, hP⟩ : ∃ P, P = hubP L b := ⟨_, rfl⟩
    have HPP := Lib.hid hP
    rw [← hP]
    clear e hrt hP
    have HBQ : Hid (b.length = L.length) := Lib.hid (by omega)
    have HLP : Hid (0 + 1 ≤ L.length) := Lib.hid (by omega)
    clear hlen hn1 hn8
    go_enter Try.func11, Try.ntmps11
    go_upto_region 5 with (go_at_call 16; refine HRT.out.mono ?_; rintro e w1 ⟨rfl, hk⟩)
    have HK1 := Lib.hid hk
    clear hk HRT
    go_wp2_with fail
    go_loopw [6, 7] (fun bv iv wr => ∃ n : Nat, n + 1 ≤ L.length ∧ bv = .int .i64 ((bestI P n : Nat) : Int) ∧ iv = .int .i64 ((n + 1 : Nat) : Int) ∧ Below w.heap.size w wr) (fun _ iv _ => L.length - (intOf iv).toNat)
    case atStart => exact ⟨0, HLP.out, rfl, rfl, HK1.out⟩
    case round =>
      obtain ⟨n, hn, rfl, rfl, hb⟩ := hrel
      have HB := Lib.hid hb
      obtain ⟨wo, hwo⟩ : ∃ z, z = wr := ⟨_, rfl⟩
      rw [← hwo] at HB ⊢
      clear hb hwo
      have HBL := Lib.hid (bestI_le P n)
      have HST : Hid (bestI P (n + 1) = if P (n + 1) < P (bestI P n) then n + 1 else bestI P n) := Lib.hid rfl
      obtain ⟨j, hj⟩ : ∃ j, j = bestI P n := ⟨_, rfl⟩
      rw [← hj] at HBL HST ⊢
      by_cases hlt : n + 1 < L.length
      · have hjl : j < L.length := by have := HBL.out; omega
        have hil2 : ((n + 1 : Nat) : Int) < (L.length : Int) := by omega
        have hil3 : ((n + 1 : Nat) : Int) < (b.length : Int) := by have := HBQ.out; omega
        have hjl2 : (j : Int) < (L.length : Int) := by omega
        have hjl3 : (j : Int) < (b.length : Int) := by have := HBQ.out; omega
        obtain rfl := HG1.out (by omega)
        obtain ⟨rfl, _⟩ := HG2.out (by have := HBQ.out; omega)
        obtain ⟨e1, e2, e3⟩ := HC2.out (n + 1) (by have := HBQ.out; omega)
        obtain ⟨f1, f2, f3⟩ := HC2.out j (by have := HBQ.out; omega)
        have q1 := Lib.hid (HC1.out (n + 1) hlt)
        have q2 := Lib.hid (HC1.out j hjl)
        have r1 := Lib.hid (fun z => rpart_any (L[n + 1]).1 (b.getD (n + 1) (0, 0, 0)) (HB1.out _ (List.getElem_mem hlt)) (HB2.out _ (by rw [rng_getD (by have := HBQ.out; omega)]; exact List.getElem_mem _)) z)
        have r2 := Lib.hid (fun z => rpart_any (L[j]).1 (b.getD j (0, 0, 0)) (HB1.out _ (List.getElem_mem hjl)) (HB2.out _ (by rw [rng_getD (by have := HBQ.out; omega)]; exact List.getElem_mem _)) z)
        have hp1 : partR (L[n + 1]).1 (b.getD (n + 1) (0, 0, 0)) = P (n + 1) := by rw [HPP.out]; unfold hubP; rw [den_getD hlt]
        have hp2 : partR (L[j]).1 (b.getD j (0, 0, 0)) = P j := by rw [HPP.out]; unfold hubP; rw [den_getD hjl]
        rw [hp1] at r1
        rw [hp2] at r2
        have HX1 := Lib.hid (L[n + 1]).2
        have HX2 := Lib.hid (L[j]).2
        generalize (L[n + 1]).1 = X1 at *
        generalize (L[j]).1 = X2 at *
        obtain ⟨⟨k1, x1, y1⟩, hg1⟩ : ∃ g, g = b.getD (n + 1) (0, 0, 0) := ⟨_, rfl⟩
        obtain ⟨⟨k2, x2, y2⟩, hg2⟩ : ∃ g, g = b.getD j (0, 0, 0) := ⟨_, rfl⟩
        rw [← hg1] at e1 e2 e3 r1
        rw [← hg2] at f1 f2 f3 r2
        dsimp only at e1 e2 e3 f1 f2 f3 r1 r2
        generalize P (n + 1) = p1 at *
        generalize P j = p2 at *
        obtain ⟨i, hi⟩ : ∃ i, i = n + 1 := ⟨_, rfl⟩
        rw [← hi] at e1 e2 e3 q1 hil2 hil3 ⊢
        have HII := Lib.hid hi
        clear hp1 hp2 hg1 hg2 hj hlt hn hi
        go_upto_region 7 with fail
        replace e1 := (HB.out.cell (World.block_lt_of_cell? w _ e1)).trans e1
        replace e2 := (HB.out.cell (World.block_lt_of_cell? w _ e2)).trans e2
        replace e3 := (HB.out.cell (World.block_lt_of_cell? w _ e3)).trans e3
        replace f1 := (HB.out.cell (World.block_lt_of_cell? w _ f1)).trans f1
        replace f2 := (HB.out.cell (World.block_lt_of_cell? w _ f2)).trans f2
        replace f3 := (HB.out.cell (World.block_lt_of_cell? w _ f3)).trans f3
        have HE := Lib.hid (And.intro e1 (And.intro e2 (And.intro e3 (And.intro f1 (And.intro f2 f3)))))
        clear e1 e2 e3 f1 f2 f3
        refine Run.region_walk (S := fun z => (∀ (t : Nat) (u : Value), (dcs X1)[t]? = some u → z.cell? ⟨g1, o1 + i * 16 + t, none⟩ = some u) ∧ (∀ (t : Nat) (u : Value), (dcs X2)[t]? = some u → z.cell? ⟨g1, o1 + j * 16 + t, none⟩ = some u) ∧ (z.cell? ⟨g2, o2 + i * 3, none⟩ = some (.int .i64 k1) ∧ z.cell? ⟨g2, o2 + i * 3 + 1, none⟩ = some (.int .u32 x1) ∧ z.cell? ⟨g2, o2 + i * 3 + 2, none⟩ = some (.int .u32 y1)) ∧ (z.cell? ⟨g2, o2 + j * 3, none⟩ = some (.int .i64 k2) ∧ z.cell? ⟨g2, o2 + j * 3 + 1, none⟩ = some (.int .u32 x2) ∧ z.cell? ⟨g2, o2 + j * 3 + 2, none⟩ = some (.int .u32 y2)) ∧ Below w.heap.size w z)
          rdbest.rows6 rdbest.plan6 (l := ?steps1) (by kernel_rfl) (by kernel_rfl) (by kernel_rfl) (by kernel_rfl) ?written1 ⟨fun t u hu => (HB.out.cell (World.block_lt_of_cell? w _ (q1.out t u hu))).trans (q1.out t u hu), fun t u hu => (HB.out.cell (World.block_lt_of_cell? w _ (q2.out t u hu))).trans (q2.out t u hu), ⟨HE.out.1, HE.out.2.1, HE.out.2.2.1⟩, HE.out.2.2.2, HB.out.drew⟩ ?onward1
        case written1 =>
          simp only [rdbest.plan6, Run.stepsOf, Run.stepOf, Run.guardOf, List.getElem?_toArray, List.getElem?_cons_zero, List.getElem?_cons_succ, Option.map_some, Option.map_none, Option.bind_some, Option.toList_some, List.map_cons, List.map_nil, List.cons_append, List.nil_append, List.append_eq]
          rfl
        repeat ((first
          | (refine Run.takes (v := ?_) ?_ ?_; rotate_left; (· intro w' hS'; (first | (refine exec_load_part (n := 16) (x := .tmp 21) (l := dcs X1) ?_ Try.underlying24 den_i (by rw [dcs_len]; exact HX1.out) ?_ hS'.1 <;> rfl) | (refine exec_load_part (n := 16) (x := .tmp 30) (l := dcs X2) ?_ Try.underlying24 den_i (by rw [dcs_len]; exact HX2.out) ?_ hS'.2.1 <;> rfl) | (have h1 := hS'.2.2.1.1; have h2 := hS'.2.2.1.2.1; have h3 := hS'.2.2.1.2.2; have h4 := hS'.2.2.2.1.1; have h5 := hS'.2.2.2.1.2.1; have h6 := hS'.2.2.2.1.2.2; go_simp; done) | (go_simp; (try with_reducible rfl)))))
          | (refine Run.takesG (v := ?_) ?_ ?_ ?_; rotate_left; (· simp only [List.getElem?_cons_zero, List.getElem?_cons_succ]); (· intro w' hS'; (first | (refine exec_load_part (n := 16) (x := .tmp 21) (l := dcs X1) ?_ Try.underlying24 den_i (by rw [dcs_len]; exact HX1.out) ?_ hS'.1 <;> rfl) | (refine exec_load_part (n := 16) (x := .tmp 30) (l := dcs X2) ?_ Try.underlying24 den_i (by rw [dcs_len]; exact HX2.out) ?_ hS'.2.1 <;> rfl) | (have h1 := hS'.2.2.1.1; have h2 := hS'.2.2.1.2.1; have h3 := hS'.2.2.1.2.2; have h4 := hS'.2.2.2.1.1; have h5 := hS'.2.2.2.1.2.1; have h6 := hS'.2.2.2.1.2.2; go_simp; done) | (go_simp; (try with_reducible rfl)))))
          | (refine Run.skipsT ?_ ?_; (· simp only [List.getElem?_cons_zero, List.getElem?_cons_succ]))
          | (refine Run.skipsF ?_ ?_; (· simp only [List.getElem?_cons_zero, List.getElem?_cons_succ]))
          | (refine Run.skipsU ?_ ?_; (· simp only [List.getElem?_cons_zero, List.getElem?_cons_succ]))
          | (refine Run.passT ?_ ?_; (· simp only [List.getElem?_cons_zero, List.getElem?_cons_succ]))
          | (refine Run.passF ?_ ?_; (· simp only [List.getElem?_cons_zero, List.getElem?_cons_succ]))
          | (refine Run.passU ?_ ?_; (· simp only [List.getElem?_cons_zero, List.getElem?_cons_succ]))
          | (refine Run.runs ?_
             (first
             | (refine Run.callF 13 (by kernel_rfl) (fun hS => r1.out _) rfl ?_)
             | (refine Run.callG 13 (by kernel_rfl) ?_ (fun hS => r1.out _) rfl ?_; (· simp only [List.getElem?_cons_zero, List.getElem?_cons_succ]))
             | (refine Run.callF 13 (by kernel_rfl) (fun hS => r2.out _) rfl ?_)
             | (refine Run.callG 13 (by kernel_rfl) ?_ (fun hS => r2.out _) rfl ?_; (· simp only [List.getElem?_cons_zero, List.getElem?_cons_succ]))
             | fail)
             (first
             | (rintro hS e w' ⟨rfl, rfl⟩; refine ⟨_, rfl, hS, ?_⟩)
             | (rintro hS e w' ⟨rfl, hb⟩; refine ⟨_, rfl, ⟨fun t u hu => kc hb (hS.1 t u hu), fun t u hu => kc hb (hS.2.1 t u hu), ⟨kc hb hS.2.2.1.1, kc hb hS.2.2.1.2.1, kc hb hS.2.2.1.2.2⟩, ⟨kc hb hS.2.2.2.1.1, kc hb hS.2.2.2.1.2.1, kc hb hS.2.2.2.1.2.2⟩, nest hS.2.2.2.2 hb⟩, ?_⟩)
             | fail))
          | fail); simp only [Act.put, List.setIfInBounds_toArray, List.set_cons_zero, List.set_cons_succ])
        refine Run.ends (fun hS => ?_)
        have HB5 := Lib.hid hS.2.2.2.2
        clear hS
        by_cases hp : p1 < p2
        · rw [if_pos hp] at HST
          have hpd : decide (p1 < p2) = true := by simpa using hp
          go_wp2_with fail
          exact ⟨⟨n + 1, by have := HII.out; omega, by rw [HST.out, HII.out], by rw [HII.out]; go_num, HB5.out⟩, by simp [intOf]; omega⟩
        · rw [if_neg hp] at HST
          have hpd : decide (p1 < p2) = false := by simpa using hp
          go_wp2_with fail
          exact ⟨⟨n + 1, by have := HII.out; omega, by rw [HST.out], by rw [HII.out]; go_num, HB5.out⟩, by simp [intOf]; omega⟩
      · have hil : n + 1 = L.length := by omega
        have hq : n = L.length - 1 := by omega
        have HJ : Hid (j = bestI P (L.length - 1)) := Lib.hid (by rw [hj, hq])
        rw [hil]
        clear hj hq hlt hn hil
        go_wp2_with fail
        go_ret2
        exact ⟨by rw [HJ.out]; rfl, HB.out⟩
end Go.Proofs.Ythdcgobdcdfefaa
