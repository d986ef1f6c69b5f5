/- Walks of package balance: Heavy, Light, Plan. -/
import Derived.Test.YtgkmkpkbdmciiaaBalMin
import Derived.Test.YtgkmkpkbdmciiaaLdRef3
set_option maxRecDepth 4000
namespace Go.Proofs.Ytgkmkpkbdmciiaa
open Go.RowKit Mem
set_option linter.unusedSimpArgs false
set_option linter.unusedVariables false
attribute [local irreducible] Go.Calls

set_option maxHeartbeats 2000000 in
set_option maxRecDepth 100000 in
theorem bheavy_any (v : Value) (l : List Ld) (w : World) (h : Rd ldE w v l) (hb : ∀ x ∈ l, okLd x) (hl : l.length ≤ 1000000) : Calls Try.prog 10 #[v] w fun e w' => e = .returned (.tuple #[.agg #[.int .u32 (heavyV l).1.1, .int .i64 (heavyV l).1.2], .bool (heavyV l).2]) ∧ Below w.heap.size w w' := by
  have HMY := Lib.hid (fun z (hz : Below w.heap.size w z) => bmay_any v l z (h.keep hz) hb)
  have HMF := Lib.hid (fun z (hz : Below w.heap.size w z) (hp : 0 < l.length) => minld_any 21 true v l z (h.keep hz) hp (by kernel_rfl) (fun z a b => bhcmp_any a b z))
  have HMN := Lib.hid (fun z (hz : Below w.heap.size w z) => smean_any v l z (h.keep hz) hb hl)
  have HMB := Lib.hid (meanV_bd l)
  have HMM := Lib.hid (fun hq : (mostV l true).2 = true => (mostV_mem hq).2)
  have HV : Hid (heavyV l = if (mostV l true).2 = false ∨ 256 * (mostV l true).1.2 ≤ 2 * meanV l then ((0, 0), false) else ((mostV l true).1, true)) := Lib.hid rfl
  have HNO := Lib.hid (fun hq => mostV_no (l := l) (more := true) hq)
  have HYES := Lib.hid (fun h1 h2 => mostV_yes (l := l) (more := true) h1 h2)
  obtain ⟨a, c, rfl, _, _⟩ := h.form
  obtain ⟨m, hm⟩ : ∃ m, m = meanV l := ⟨_, rfl⟩
  rw [← hm] at HMN HMB HV
  obtain ⟨⟨⟨p, e⟩, is⟩, hq⟩ : ∃ q, q = mostV l true := ⟨_, rfl⟩
  rw [← hq] at HMM HV HNO HYES
  dsimp only at HMM HV
  obtain ⟨RES, hRES⟩ : ∃ x, x = heavyV l := ⟨_, rfl⟩
  rw [← hRES] at HV ⊢
  clear h hm hq hRES hb hl
  have HK0 : Hid (Below w.heap.size w (w.alloc (.cells #[.int .u32 0, .int .i64 0] 29))) := Lib.hid (more_one _ _)
  have HR0 : Hid (Blk (w.alloc (.cells #[.int .u32 0, .int .i64 0] 29)) w.heap.size 29 #[.int .u32 0, .int .i64 0]) := Lib.hid (Blk.new _ _ _)
  by_cases h0 : l = []
  · have HRR : Hid (RES = ((0, 0), false)) := Lib.hid (by
      have e1 := HNO.out (.inr h0)
      injection e1 with e1 e2
      rw [HV.out, if_pos (.inl e2)])
    obtain rfl := HRR.out
    have hne : ((l.length : Int) == 0) = true := by simp [h0]
    clear h0
    go_enter Try.func10, Try.ntmps10
    go_upto_region 1 with fail
    generalize w.alloc (.cells #[.int .u32 0, .int .i64 0] 29) = w1 at *
    obtain ⟨r, hr⟩ : ∃ r, r = w.heap.size := ⟨_, rfl⟩
    have HRE := Lib.hid hr
    rw [← hr] at HR0 ⊢
    clear hr
    go_wp2_with (refine at_store 2 rfl ?_; refine wpList_store_row rfl 29 (.tmp 2) (.tmp 13) rfl r #[.int .u32 0, .int .i64 0] rfl rfl 29 _ HR0.out ld_info rfl (ld_one _ _) ?_)
    (try simp only [Exit.inBlock, Exit.then])
    refine bodyPost_ret (results_blk_tmp (l := [.int .u32 0, .int .i64 0]) rfl Try.underlying29 ld_info rfl rfl (Blk.rowS HR0.out _)) rfl ?_
    exact ⟨rfl, HK0.out.trans ((Only.rowS w1 _).below (by rw [HRE.out]; exact Nat.le_refl _) HK0.out.size)⟩
  have hpos : 0 < l.length := List.length_pos_iff.2 h0
  have hne : ((l.length : Int) == 0) = false := beq_eq_false_iff_ne.2 (by omega)
  have HPOS := Lib.hid hpos
  have H0 := Lib.hid h0
  clear hpos h0
  cases hmy : mayB l with
  | false =>
    have HRR : Hid (RES = ((0, 0), false)) := Lib.hid (by
      have e1 := HNO.out (.inl hmy)
      injection e1 with e1 e2
      rw [HV.out, if_pos (.inl e2)])
    obtain rfl := HRR.out
    rw [hmy] at HMY
    clear hmy
    go_enter Try.func10, Try.ntmps10
    go_upto_region 1 with fail
    generalize w.alloc (.cells #[.int .u32 0, .int .i64 0] 29) = w1 at *
    obtain ⟨r, hr⟩ : ∃ r, r = w.heap.size := ⟨_, rfl⟩
    have HRE := Lib.hid hr
    rw [← hr] at HR0 ⊢
    clear hr
    go_upto_region 2 with (go_at_call 19; refine (HMY.out _ HK0.out).mono ?_; rintro e w2 ⟨rfl, hk⟩)
    have HR2 := Lib.hid (HR0.out.keep hk)
    have HK2 := Lib.hid (nest HK0.out hk)
    clear hk
    go_wp2_with (refine at_store 2 rfl ?_; refine wpList_store_row rfl 29 (.tmp 2) (.tmp 13) rfl r #[.int .u32 0, .int .i64 0] rfl rfl 29 _ HR2.out ld_info rfl (ld_one _ _) ?_)
    (try simp only [Exit.inBlock, Exit.then])
    refine bodyPost_ret (results_blk_tmp (l := [.int .u32 0, .int .i64 0]) rfl Try.underlying29 ld_info rfl rfl (Blk.rowS HR2.out _)) rfl ?_
    exact ⟨rfl, HK2.out.trans ((Only.rowS w2 _).below (by rw [HRE.out]; exact Nat.le_refl _) HK2.out.size)⟩
  | true =>
    have e1 := HYES.out hmy H0.out
    injection e1 with e1 e2
    subst e2
    replace HMF := Lib.hid (fun z (hz : Below w.heap.size w z) => HMF.out z hz HPOS.out)
    rw [← e1] at HMF
    rw [hmy] at HMY
    dsimp only [ldv] at HMF
    have HEB := Lib.hid (HMM.out rfl)
    clear hmy e1
    go_enter Try.func10, Try.ntmps10
    go_upto_region 1 with fail
    generalize w.alloc (.cells #[.int .u32 0, .int .i64 0] 29) = w1 at *
    obtain ⟨r, hr⟩ : ∃ r, r = w.heap.size := ⟨_, rfl⟩
    have HRE := Lib.hid hr
    rw [← hr] at HR0 ⊢
    clear hr
    go_upto_region 3 with (go_at_call 19; refine (HMY.out _ HK0.out).mono ?_; rintro e w2 ⟨rfl, hk⟩)
    have HR2 := Lib.hid (HR0.out.keep hk)
    have HK2 := Lib.hid (nest HK0.out hk)
    clear hk HK0 HR0
    go_upto_region 4 with (go_at_call 20; refine (HMF.out _ HK2.out).mono ?_; rintro e w3 ⟨rfl, hk⟩)
    have hk4 : Below w2.heap.size w2 (w3.alloc (.cells #[.int .u32 p, .int .i64 e] 29)) := more hk _
    have HX4 : Hid (Blk (w3.alloc (.cells #[.int .u32 p, .int .i64 e] 29)) w3.heap.size 29 #[.int .u32 p, .int .i64 e]) := Lib.hid (Blk.new _ _ _)
    have HK4 := Lib.hid (nest HK2.out hk4)
    have HR4 := Lib.hid (HR2.out.keep hk4)
    replace HMN := Lib.hid (fun z (hz : Below (w3.alloc (.cells #[.int .u32 p, .int .i64 e] 29)).heap.size (w3.alloc (.cells #[.int .u32 p, .int .i64 e] 29)) z) => HMN.out z (nest HK4.out hz))
    clear hk hk4 HK2 HR2 HMF HMY
    generalize w3.alloc (.cells #[.int .u32 p, .int .i64 e] 29) = w4 at *
    obtain ⟨x, hx⟩ : ∃ x, x = w3.heap.size := ⟨_, rfl⟩
    rw [← hx] at HX4 ⊢
    clear hx
    have c1 : w4.drew.cell? ⟨x, 1, none⟩ = some (.int .i64 e) := HX4.out.cell 1
    have hk1 : IntKind.u64.wrap e = e := by rw [IntKind.wrap_u64]; have := HEB.out; omega
    have hk2 : IntKind.u64.wrap (e * 256) = e * 256 := by rw [IntKind.wrap_u64]; have := HEB.out; omega
    have hk3 : IntKind.u64.wrap (m * 2) = m * 2 := by rw [IntKind.wrap_u64]; have := HMB.out; omega
    by_cases hc : 256 * e ≤ 2 * m
    · have HRR : Hid (RES = ((0, 0), false)) := Lib.hid (by rw [HV.out, if_pos (.inr hc)])
      obtain rfl := HRR.out
      have hcd : decide (e * 256 ≤ m * 2) = true := by simp; omega
      skip
      refine Run.region_walk (S := fun z => z.cell? ⟨x, 1, none⟩ = some (.int .i64 e) ∧ Below w4.heap.size w4 z)
        bch.rows4 bch.plan4 (l := ?_) (by kernel_rfl) (by kernel_rfl) (by kernel_rfl) (by kernel_rfl) ?_ ⟨c1, (Below.refl _ _).drew⟩ ?_
      rotate_left
      (· simp only [bch.plan4, Run.stepsOf, Run.stepOf, Run.guardOf, List.getElem?_toArray, List.getElem?_cons_zero, List.getElem?_cons_succ, Option.map_some, Option.map_none, Option.bind_some, Option.toList_some, List.map_cons, List.map_nil, List.cons_append, List.nil_append, List.append_eq]
         rfl)
      repeat ((first
        | (refine Run.takes (v := ?_) ?_ ?_; rotate_left; (· intro w' hS'; (first | (have h1 := hS'.1; go_simp; done) | (go_simp; (try with_reducible rfl)))))
        | (refine Run.takesG (v := ?_) ?_ ?_ ?_; rotate_left; (· simp only [List.getElem?_cons_zero, List.getElem?_cons_succ]); (· intro w' hS'; (first | (have h1 := hS'.1; go_simp; done) | (go_simp; (try with_reducible rfl)))))
        | (refine Run.skipsT ?_ ?_; (· simp only [List.getElem?_cons_zero, List.getElem?_cons_succ]))
        | (refine Run.skipsF ?_ ?_; (· simp only [List.getElem?_cons_zero, List.getElem?_cons_succ]))
        | (refine Run.skipsU ?_ ?_; (· simp only [List.getElem?_cons_zero, List.getElem?_cons_succ]))
        | (refine Run.passT ?_ ?_; (· simp only [List.getElem?_cons_zero, List.getElem?_cons_succ]))
        | (refine Run.passF ?_ ?_; (· simp only [List.getElem?_cons_zero, List.getElem?_cons_succ]))
        | (refine Run.passU ?_ ?_; (· simp only [List.getElem?_cons_zero, List.getElem?_cons_succ]))
        | (refine Run.runs ?_
           (first
           | (refine Run.callF 25 (by kernel_rfl) (fun hS => HMN.out _ hS.2) rfl ?_)
           | (refine Run.callG 25 (by kernel_rfl) ?_ (fun hS => HMN.out _ hS.2) rfl ?_; (· simp only [List.getElem?_cons_zero, List.getElem?_cons_succ]))
           | fail)
           (first
           | (rintro hS e w' ⟨rfl, rfl⟩; refine ⟨_, rfl, hS, ?_⟩)
           | (rintro hS e w' ⟨rfl, hb⟩; refine ⟨_, rfl, ⟨kc hb hS.1, nest hS.2 hb⟩, ?_⟩)
           | fail))
        | fail); simp only [Act.put, List.setIfInBounds_toArray, List.set_cons_zero, List.set_cons_succ])
      refine Run.ends (fun hS => ?_)
      have HK5 := Lib.hid (nest HK4.out hS.2)
      have HR5 := Lib.hid (HR4.out.keep hS.2)
      have HX5 := Lib.hid (HX4.out.keep hS.2)
      clear hS c1
      go_wp2_with (refine at_store 2 rfl ?_; refine wpList_store_row rfl 29 (.tmp 2) (.tmp 24) rfl r #[.int .u32 0, .int .i64 0] rfl rfl 29 _ HR5.out ld_info rfl (ld_one _ _) ?_)
      (try simp only [Exit.inBlock, Exit.then])
      refine bodyPost_ret (results_blk_tmp (l := [.int .u32 0, .int .i64 0]) rfl Try.underlying29 ld_info rfl rfl (Blk.rowS HR5.out _)) rfl ?_
      exact ⟨rfl, HK5.out.trans ((Only.rowS _ _).below (by rw [HRE.out]; exact Nat.le_refl _) HK5.out.size)⟩
    · have HRR : Hid (RES = ((p, e), true)) := Lib.hid (by rw [HV.out, if_neg (by simp; omega)])
      obtain rfl := HRR.out
      have hcd : decide (e * 256 ≤ m * 2) = false := by simp; omega
      skip
      refine Run.region_walk (S := fun z => z.cell? ⟨x, 1, none⟩ = some (.int .i64 e) ∧ Below w4.heap.size w4 z)
        bch.rows4 bch.plan4 (l := ?_) (by kernel_rfl) (by kernel_rfl) (by kernel_rfl) (by kernel_rfl) ?_ ⟨c1, (Below.refl _ _).drew⟩ ?_
      rotate_left
      (· simp only [bch.plan4, Run.stepsOf, Run.stepOf, Run.guardOf, List.getElem?_toArray, List.getElem?_cons_zero, List.getElem?_cons_succ, Option.map_some, Option.map_none, Option.bind_some, Option.toList_some, List.map_cons, List.map_nil, List.cons_append, List.nil_append, List.append_eq]
         rfl)
      repeat ((first
        | (refine Run.takes (v := ?_) ?_ ?_; rotate_left; (· intro w' hS'; (first | (have h1 := hS'.1; go_simp; done) | (go_simp; (try with_reducible rfl)))))
        | (refine Run.takesG (v := ?_) ?_ ?_ ?_; rotate_left; (· simp only [List.getElem?_cons_zero, List.getElem?_cons_succ]); (· intro w' hS'; (first | (have h1 := hS'.1; go_simp; done) | (go_simp; (try with_reducible rfl)))))
        | (refine Run.skipsT ?_ ?_; (· simp only [List.getElem?_cons_zero, List.getElem?_cons_succ]))
        | (refine Run.skipsF ?_ ?_; (· simp only [List.getElem?_cons_zero, List.getElem?_cons_succ]))
        | (refine Run.skipsU ?_ ?_; (· simp only [List.getElem?_cons_zero, List.getElem?_cons_succ]))
        | (refine Run.passT ?_ ?_; (· simp only [List.getElem?_cons_zero, List.getElem?_cons_succ]))
        | (refine Run.passF ?_ ?_; (· simp only [List.getElem?_cons_zero, List.getElem?_cons_succ]))
        | (refine Run.passU ?_ ?_; (· simp only [List.getElem?_cons_zero, List.getElem?_cons_succ]))
        | (refine Run.runs ?_
           (first
           | (refine Run.callF 25 (by kernel_rfl) (fun hS => HMN.out _ hS.2) rfl ?_)
           | (refine Run.callG 25 (by kernel_rfl) ?_ (fun hS => HMN.out _ hS.2) rfl ?_; (· simp only [List.getElem?_cons_zero, List.getElem?_cons_succ]))
           | fail)
           (first
           | (rintro hS e w' ⟨rfl, rfl⟩; refine ⟨_, rfl, hS, ?_⟩)
           | (rintro hS e w' ⟨rfl, hb⟩; refine ⟨_, rfl, ⟨kc hb hS.1, nest hS.2 hb⟩, ?_⟩)
           | fail))
        | fail); simp only [Act.put, List.setIfInBounds_toArray, List.set_cons_zero, List.set_cons_succ])
      refine Run.ends (fun hS => ?_)
      have HK5 := Lib.hid (nest HK4.out hS.2)
      have HR5 := Lib.hid (HR4.out.keep hS.2)
      have HX5 := Lib.hid (HX4.out.keep hS.2)
      clear hS c1
      go_wp2_with (first | (refine at_store 2 rfl ?_; refine wpList_store_row rfl 29 (.tmp 2) (.tmp 25) rfl r #[.int .u32 p, .int .i64 e] rfl rfl 29 _ HR5.out ld_info rfl (ld_one _ _) ?_) | (refine at_load 4 rfl ?_; refine wpList_load_row rfl 29 (.tmp 4) rfl x rfl 29 _ (0, 0) _ HX5.out Try.underlying29 rfl ld_info ?_))
      (try simp only [Exit.inBlock, Exit.then])
      refine bodyPost_ret (results_blk_tmp (l := [.int .u32 p, .int .i64 e]) rfl Try.underlying29 ld_info rfl rfl (Blk.rowS HR5.out _)) rfl ?_
      exact ⟨rfl, HK5.out.trans ((Only.rowS _ _).below (by rw [HRE.out]; exact Nat.le_refl _) HK5.out.size)⟩
set_option maxHeartbeats 2000000 in
set_option maxRecDepth 100000 in
theorem blight_any (v : Value) (l : List Ld) (w : World) (h : Rd ldE w v l) (hb : ∀ x ∈ l, okLd x) (hl : l.length ≤ 1000000) : Calls Try.prog 12 #[v] w fun e w' => e = .returned (.tuple #[.agg #[.int .u32 (lightV l).1.1, .int .i64 (lightV l).1.2], .bool (lightV l).2]) ∧ Below w.heap.size w w' := by
  have HMY := Lib.hid (fun z (hz : Below w.heap.size w z) => bmay_any v l z (h.keep hz) hb)
  have HMF := Lib.hid (fun z (hz : Below w.heap.size w z) (hp : 0 < l.length) => minld_any 27 false v l z (h.keep hz) hp (by kernel_rfl) (fun z a b => blcmp_any a b z))
  have HMN := Lib.hid (fun z (hz : Below w.heap.size w z) => smean_any v l z (h.keep hz) hb hl)
  have HMB := Lib.hid (meanV_bd l)
  have HMM := Lib.hid (fun hq : (mostV l false).2 = true => (mostV_mem hq).2)
  have HV : Hid (lightV l = if (mostV l false).2 = false ∨ 512 * (mostV l false).1.2 ≥ meanV l then ((0, 0), false) else ((mostV l false).1, true)) := Lib.hid rfl
  have HNO := Lib.hid (fun hq => mostV_no (l := l) (more := false) hq)
  have HYES := Lib.hid (fun h1 h2 => mostV_yes (l := l) (more := false) h1 h2)
  obtain ⟨a, c, rfl, _, _⟩ := h.form
  obtain ⟨m, hm⟩ : ∃ m, m = meanV l := ⟨_, rfl⟩
  rw [← hm] at HMN HMB HV
  obtain ⟨⟨⟨p, e⟩, is⟩, hq⟩ : ∃ q, q = mostV l false := ⟨_, rfl⟩
  rw [← hq] at HMM HV HNO HYES
  dsimp only at HMM HV
  obtain ⟨RES, hRES⟩ : ∃ x, x = lightV l := ⟨_, rfl⟩
  rw [← hRES] at HV ⊢
  clear h hm hq hRES hb hl
  have HK0 : Hid (Below w.heap.size w (w.alloc (.cells #[.int .u32 0, .int .i64 0] 29))) := Lib.hid (more_one _ _)
  have HR0 : Hid (Blk (w.alloc (.cells #[.int .u32 0, .int .i64 0] 29)) w.heap.size 29 #[.int .u32 0, .int .i64 0]) := Lib.hid (Blk.new _ _ _)
  by_cases h0 : l = []
  · have HRR : Hid (RES = ((0, 0), false)) := Lib.hid (by
      have e1 := HNO.out (.inr h0)
      injection e1 with e1 e2
      rw [HV.out, if_pos (.inl e2)])
    obtain rfl := HRR.out
    have hne : ((l.length : Int) == 0) = true := by simp [h0]
    clear h0
    go_enter Try.func12, Try.ntmps12
    go_upto_region 1 with fail
    generalize w.alloc (.cells #[.int .u32 0, .int .i64 0] 29) = w1 at *
    obtain ⟨r, hr⟩ : ∃ r, r = w.heap.size := ⟨_, rfl⟩
    have HRE := Lib.hid hr
    rw [← hr] at HR0 ⊢
    clear hr
    go_wp2_with (refine at_store 2 rfl ?_; refine wpList_store_row rfl 29 (.tmp 2) (.tmp 13) rfl r #[.int .u32 0, .int .i64 0] rfl rfl 29 _ HR0.out ld_info rfl (ld_one _ _) ?_)
    (try simp only [Exit.inBlock, Exit.then])
    refine bodyPost_ret (results_blk_tmp (l := [.int .u32 0, .int .i64 0]) rfl Try.underlying29 ld_info rfl rfl (Blk.rowS HR0.out _)) rfl ?_
    exact ⟨rfl, HK0.out.trans ((Only.rowS w1 _).below (by rw [HRE.out]; exact Nat.le_refl _) HK0.out.size)⟩
  have hpos : 0 < l.length := List.length_pos_iff.2 h0
  have hne : ((l.length : Int) == 0) = false := beq_eq_false_iff_ne.2 (by omega)
  have HPOS := Lib.hid hpos
  have H0 := Lib.hid h0
  clear hpos h0
  cases hmy : mayB l with
  | false =>
    have HRR : Hid (RES = ((0, 0), false)) := Lib.hid (by
      have e1 := HNO.out (.inl hmy)
      injection e1 with e1 e2
      rw [HV.out, if_pos (.inl e2)])
    obtain rfl := HRR.out
    rw [hmy] at HMY
    clear hmy
    go_enter Try.func12, Try.ntmps12
    go_upto_region 1 with fail
    generalize w.alloc (.cells #[.int .u32 0, .int .i64 0] 29) = w1 at *
    obtain ⟨r, hr⟩ : ∃ r, r = w.heap.size := ⟨_, rfl⟩
    have HRE := Lib.hid hr
    rw [← hr] at HR0 ⊢
    clear hr
    go_upto_region 2 with (go_at_call 19; refine (HMY.out _ HK0.out).mono ?_; rintro e w2 ⟨rfl, hk⟩)
    have HR2 := Lib.hid (HR0.out.keep hk)
    have HK2 := Lib.hid (nest HK0.out hk)
    clear hk
    go_wp2_with (refine at_store 2 rfl ?_; refine wpList_store_row rfl 29 (.tmp 2) (.tmp 13) rfl r #[.int .u32 0, .int .i64 0] rfl rfl 29 _ HR2.out ld_info rfl (ld_one _ _) ?_)
    (try simp only [Exit.inBlock, Exit.then])
    refine bodyPost_ret (results_blk_tmp (l := [.int .u32 0, .int .i64 0]) rfl Try.underlying29 ld_info rfl rfl (Blk.rowS HR2.out _)) rfl ?_
    exact ⟨rfl, HK2.out.trans ((Only.rowS w2 _).below (by rw [HRE.out]; exact Nat.le_refl _) HK2.out.size)⟩
  | true =>
    have e1 := HYES.out hmy H0.out
    injection e1 with e1 e2
    subst e2
    replace HMF := Lib.hid (fun z (hz : Below w.heap.size w z) => HMF.out z hz HPOS.out)
    rw [← e1] at HMF
    rw [hmy] at HMY
    dsimp only [ldv] at HMF
    have HEB := Lib.hid (HMM.out rfl)
    clear hmy e1
    go_enter Try.func12, Try.ntmps12
    go_upto_region 1 with fail
    generalize w.alloc (.cells #[.int .u32 0, .int .i64 0] 29) = w1 at *
    obtain ⟨r, hr⟩ : ∃ r, r = w.heap.size := ⟨_, rfl⟩
    have HRE := Lib.hid hr
    rw [← hr] at HR0 ⊢
    clear hr
    go_upto_region 3 with (go_at_call 19; refine (HMY.out _ HK0.out).mono ?_; rintro e w2 ⟨rfl, hk⟩)
    have HR2 := Lib.hid (HR0.out.keep hk)
    have HK2 := Lib.hid (nest HK0.out hk)
    clear hk HK0 HR0
    go_upto_region 4 with (go_at_call 20; refine (HMF.out _ HK2.out).mono ?_; rintro e w3 ⟨rfl, hk⟩)
    have hk4 : Below w2.heap.size w2 (w3.alloc (.cells #[.int .u32 p, .int .i64 e] 29)) := more hk _
    have HX4 : Hid (Blk (w3.alloc (.cells #[.int .u32 p, .int .i64 e] 29)) w3.heap.size 29 #[.int .u32 p, .int .i64 e]) := Lib.hid (Blk.new _ _ _)
    have HK4 := Lib.hid (nest HK2.out hk4)
    have HR4 := Lib.hid (HR2.out.keep hk4)
    replace HMN := Lib.hid (fun z (hz : Below (w3.alloc (.cells #[.int .u32 p, .int .i64 e] 29)).heap.size (w3.alloc (.cells #[.int .u32 p, .int .i64 e] 29)) z) => HMN.out z (nest HK4.out hz))
    clear hk hk4 HK2 HR2 HMF HMY
    generalize w3.alloc (.cells #[.int .u32 p, .int .i64 e] 29) = w4 at *
    obtain ⟨x, hx⟩ : ∃ x, x = w3.heap.size := ⟨_, rfl⟩
    rw [← hx] at HX4 ⊢
    clear hx
    have c1 : w4.drew.cell? ⟨x, 1, none⟩ = some (.int .i64 e) := HX4.out.cell 1
    have hk1 : IntKind.u64.wrap e = e := by rw [IntKind.wrap_u64]; have := HEB.out; omega
    have hk2 : IntKind.u64.wrap (e * 256) = e * 256 := by rw [IntKind.wrap_u64]; have := HEB.out; omega
    have hk3 : IntKind.u64.wrap (e * 256 * 2) = e * 256 * 2 := by rw [IntKind.wrap_u64]; have := HEB.out; omega
    by_cases hc : 512 * e ≥ m
    · have HRR : Hid (RES = ((0, 0), false)) := Lib.hid (by rw [HV.out, if_pos (.inr hc)])
      obtain rfl := HRR.out
      have hcd : decide (e * 256 * 2 ≥ m) = true := by simp; omega
      skip
      refine Run.region_walk (S := fun z => z.cell? ⟨x, 1, none⟩ = some (.int .i64 e) ∧ Below w4.heap.size w4 z)
        bcl.rows4 bcl.plan4 (l := ?_) (by kernel_rfl) (by kernel_rfl) (by kernel_rfl) (by kernel_rfl) ?_ ⟨c1, (Below.refl _ _).drew⟩ ?_
      rotate_left
      (· simp only [bcl.plan4, Run.stepsOf, Run.stepOf, Run.guardOf, List.getElem?_toArray, List.getElem?_cons_zero, List.getElem?_cons_succ, Option.map_some, Option.map_none, Option.bind_some, Option.toList_some, List.map_cons, List.map_nil, List.cons_append, List.nil_append, List.append_eq]
         rfl)
      repeat ((first
        | (refine Run.takes (v := ?_) ?_ ?_; rotate_left; (· intro w' hS'; (first | (have h1 := hS'.1; go_simp; done) | (go_simp; (try with_reducible rfl)))))
        | (refine Run.takesG (v := ?_) ?_ ?_ ?_; rotate_left; (· simp only [List.getElem?_cons_zero, List.getElem?_cons_succ]); (· intro w' hS'; (first | (have h1 := hS'.1; go_simp; done) | (go_simp; (try with_reducible rfl)))))
        | (refine Run.skipsT ?_ ?_; (· simp only [List.getElem?_cons_zero, List.getElem?_cons_succ]))
        | (refine Run.skipsF ?_ ?_; (· simp only [List.getElem?_cons_zero, List.getElem?_cons_succ]))
        | (refine Run.skipsU ?_ ?_; (· simp only [List.getElem?_cons_zero, List.getElem?_cons_succ]))
        | (refine Run.passT ?_ ?_; (· simp only [List.getElem?_cons_zero, List.getElem?_cons_succ]))
        | (refine Run.passF ?_ ?_; (· simp only [List.getElem?_cons_zero, List.getElem?_cons_succ]))
        | (refine Run.passU ?_ ?_; (· simp only [List.getElem?_cons_zero, List.getElem?_cons_succ]))
        | (refine Run.runs ?_
           (first
           | (refine Run.callF 25 (by kernel_rfl) (fun hS => HMN.out _ hS.2) rfl ?_)
           | (refine Run.callG 25 (by kernel_rfl) ?_ (fun hS => HMN.out _ hS.2) rfl ?_; (· simp only [List.getElem?_cons_zero, List.getElem?_cons_succ]))
           | fail)
           (first
           | (rintro hS e w' ⟨rfl, rfl⟩; refine ⟨_, rfl, hS, ?_⟩)
           | (rintro hS e w' ⟨rfl, hb⟩; refine ⟨_, rfl, ⟨kc hb hS.1, nest hS.2 hb⟩, ?_⟩)
           | fail))
        | fail); simp only [Act.put, List.setIfInBounds_toArray, List.set_cons_zero, List.set_cons_succ])
      refine Run.ends (fun hS => ?_)
      have HK5 := Lib.hid (nest HK4.out hS.2)
      have HR5 := Lib.hid (HR4.out.keep hS.2)
      have HX5 := Lib.hid (HX4.out.keep hS.2)
      clear hS c1
      go_wp2_with (refine at_store 2 rfl ?_; refine wpList_store_row rfl 29 (.tmp 2) (.tmp 24) rfl r #[.int .u32 0, .int .i64 0] rfl rfl 29 _ HR5.out ld_info rfl (ld_one _ _) ?_)
      (try simp only [Exit.inBlock, Exit.then])
      refine bodyPost_ret (results_blk_tmp (l := [.int .u32 0, .int .i64 0]) rfl Try.underlying29 ld_info rfl rfl (Blk.rowS HR5.out _)) rfl ?_
      exact ⟨rfl, HK5.out.trans ((Only.rowS _ _).below (by rw [HRE.out]; exact Nat.le_refl _) HK5.out.size)⟩
    · have HRR : Hid (RES = ((p, e), true)) := Lib.hid (by rw [HV.out, if_neg (by simp; omega)])
      obtain rfl := HRR.out
      have hcd : decide (e * 256 * 2 ≥ m) = false := by simp; omega
      skip
      refine Run.region_walk (S := fun z => z.cell? ⟨x, 1, none⟩ = some (.int .i64 e) ∧ Below w4.heap.size w4 z)
        bcl.rows4 bcl.plan4 (l := ?_) (by kernel_rfl) (by kernel_rfl) (by kernel_rfl) (by kernel_rfl) ?_ ⟨c1, (Below.refl _ _).drew⟩ ?_
      rotate_left
      (· simp only [bcl.plan4, Run.stepsOf, Run.stepOf, Run.guardOf, List.getElem?_toArray, List.getElem?_cons_zero, List.getElem?_cons_succ, Option.map_some, Option.map_none, Option.bind_some, Option.toList_some, List.map_cons, List.map_nil, List.cons_append, List.nil_append, List.append_eq]
         rfl)
      repeat ((first
        | (refine Run.takes (v := ?_) ?_ ?_; rotate_left; (· intro w' hS'; (first | (have h1 := hS'.1; go_simp; done) | (go_simp; (try with_reducible rfl)))))
        | (refine Run.takesG (v := ?_) ?_ ?_ ?_; rotate_left; (· simp only [List.getElem?_cons_zero, List.getElem?_cons_succ]); (· intro w' hS'; (first | (have h1 := hS'.1; go_simp; done) | (go_simp; (try with_reducible rfl)))))
        | (refine Run.skipsT ?_ ?_; (· simp only [List.getElem?_cons_zero, List.getElem?_cons_succ]))
        | (refine Run.skipsF ?_ ?_; (· simp only [List.getElem?_cons_zero, List.getElem?_cons_succ]))
        | (refine Run.skipsU ?_ ?_; (· simp only [List.getElem?_cons_zero, List.getElem?_cons_succ]))
        | (refine Run.passT ?_ ?_; (· simp only [List.getElem?_cons_zero, List.getElem?_cons_succ]))
        | (refine Run.passF ?_ ?_; (· simp only [List.getElem?_cons_zero, List.getElem?_cons_succ]))
        | (refine Run.passU ?_ ?_; (· simp only [List.getElem?_cons_zero, List.getElem?_cons_succ]))
        | (refine Run.runs ?_
           (first
           | (refine Run.callF 25 (by kernel_rfl) (fun hS => HMN.out _ hS.2) rfl ?_)
           | (refine Run.callG 25 (by kernel_rfl) ?_ (fun hS => HMN.out _ hS.2) rfl ?_; (· simp only [List.getElem?_cons_zero, List.getElem?_cons_succ]))
           | fail)
           (first
           | (rintro hS e w' ⟨rfl, rfl⟩; refine ⟨_, rfl, hS, ?_⟩)
           | (rintro hS e w' ⟨rfl, hb⟩; refine ⟨_, rfl, ⟨kc hb hS.1, nest hS.2 hb⟩, ?_⟩)
           | fail))
        | fail); simp only [Act.put, List.setIfInBounds_toArray, List.set_cons_zero, List.set_cons_succ])
      refine Run.ends (fun hS => ?_)
      have HK5 := Lib.hid (nest HK4.out hS.2)
      have HR5 := Lib.hid (HR4.out.keep hS.2)
      have HX5 := Lib.hid (HX4.out.keep hS.2)
      clear hS c1
      go_wp2_with (first | (refine at_store 2 rfl ?_; refine wpList_store_row rfl 29 (.tmp 2) (.tmp 25) rfl r #[.int .u32 p, .int .i64 e] rfl rfl 29 _ HR5.out ld_info rfl (ld_one _ _) ?_) | (refine at_load 4 rfl ?_; refine wpList_load_row rfl 29 (.tmp 4) rfl x rfl 29 _ (0, 0) _ HX5.out Try.underlying29 rfl ld_info ?_))
      (try simp only [Exit.inBlock, Exit.then])
      refine bodyPost_ret (results_blk_tmp (l := [.int .u32 p, .int .i64 e]) rfl Try.underlying29 ld_info rfl rfl (Blk.rowS HR5.out _)) rfl ?_
      exact ⟨rfl, HK5.out.trans ((Only.rowS _ _).below (by rw [HRE.out]; exact Nat.le_refl _) HK5.out.size)⟩
set_option maxRecDepth 100000 in
set_option maxHeartbeats 4000000 in
theorem bplan_any (v1 v2 : Value) (l : List Ld) (es : List Ent) (Q : Nat → Prop) (w : World) (h : Rd ldE w v1 l) (hb : ∀ x ∈ l, okLd x) (hl : l.length ≤ 1000000) (h2 : EntsIn Q w v2 es) (hb2 : ∀ y ∈ es, entB y) (hl2 : es.length ≤ 1000000) :
    Calls Try.prog 14 #[v1, v2] w fun e w' => e = .returned (.tuple #[.agg #[.int .u32 (planV l (valsE es)).1.1, .int .u32 (planV l (valsE es)).1.2], .int .i64 (planV l (valsE es)).2]) ∧ Below w.heap.size w w' := by
  have HMY := Lib.hid (fun z (hz : Below w.heap.size w z) => bmay_any v1 l z (h.keep hz) hb)
  have HHV := Lib.hid (fun z (hz : Below w.heap.size w z) => bheavy_any v1 l z (h.keep hz) hb hl)
  have HLT := Lib.hid (fun z (hz : Below w.heap.size w z) => blight_any v1 l z (h.keep hz) hb hl)
  have HP : Hid (planV l (valsE es) = if mayB l = false then ((0, 0), 1) else if (heavyV l).2 = false ∨ (lightV l).2 = false ∨ (valsE es).length < 2 ∨ (valsE es).getD ((valsE es).length / 2) 0 = (heavyV l).1.1 then ((0, 0), 20) else (((lightV l).1.1, (valsE es).getD ((valsE es).length / 2) 0), 0)) := Lib.hid rfl
  have hvl : (valsE es).length = es.length := by simp [valsE]
  rw [hvl, valsE_at] at HP
  obtain ⟨a1, c1, rfl, _, _⟩ := h.form
  obtain ⟨a, g, off, c, rfl, hc1, hc2, hga, hcs⟩ := h2.at
  have hc2' : c ≤ 9223372036854775807 := hc2
  have HC := Lib.hid hcs
  have HG := Lib.hid hga
  have HL2 := Lib.hid hl2
  clear h h2 hcs hga hvl hb hl hb2 hl2
  obtain ⟨my, hmy⟩ : ∃ b, b = mayB l := ⟨_, rfl⟩
  rw [← hmy] at HMY HP
  obtain ⟨⟨⟨hp, he⟩, his⟩, hhv⟩ : ∃ q, q = heavyV l := ⟨_, rfl⟩
  rw [← hhv] at HHV HP
  obtain ⟨⟨⟨lp, le⟩, lis⟩, hlt⟩ : ∃ q, q = lightV l := ⟨_, rfl⟩
  rw [← hlt] at HLT HP
  dsimp only at HHV HLT HP
  obtain ⟨RES, hRES⟩ : ∃ x, x = planV l (valsE es) := ⟨_, rfl⟩
  rw [← hRES] at HP ⊢
  clear hmy hhv hlt hRES
  have HK0 : Hid (Below w.heap.size w (w.alloc (.cells #[.int .u32 0, .int .u32 0] 33))) := Lib.hid (more_one _ _)
  have HR0 : Hid (Blk (w.alloc (.cells #[.int .u32 0, .int .u32 0] 33)) w.heap.size 33 #[.int .u32 0, .int .u32 0]) := Lib.hid (Blk.new _ _ _)
  go_enter Try.func14, Try.ntmps14
  go_upto_region 1 with fail
  generalize w.alloc (.cells #[.int .u32 0, .int .u32 0] 33) = w1 at *
  obtain ⟨r, hr⟩ : ∃ r, r = w.heap.size := ⟨_, rfl⟩
  have HRE := Lib.hid hr
  rw [← hr] at HR0 ⊢
  clear hr
  cases my with
  | false =>
    have HRR : Hid (RES = ((0, 0), 1)) := Lib.hid (by rw [HP.out, if_pos rfl])
    obtain rfl := HRR.out
    go_upto_region 2 with (go_at_call 19; refine (HMY.out _ HK0.out).mono ?_; rintro e w2 ⟨rfl, hk⟩)
    have HR2 := Lib.hid (HR0.out.keep hk)
    have HK2 := Lib.hid (nest HK0.out hk)
    clear hk
    go_wp2_with (refine at_store 4 rfl ?_; refine wpList_store_row rfl 33 (.tmp 4) (.tmp 14) rfl r #[.int .u32 0, .int .u32 0] rfl rfl 33 _ HR2.out mv_info rfl (mv_one _ _) ?_)
    (try simp only [Exit.inBlock, Exit.then])
    refine bodyPost_ret (results_blk_tmp (l := [.int .u32 0, .int .u32 0]) rfl Try.underlying33 mv_info rfl rfl (Blk.rowS HR2.out _)) rfl ?_
    exact ⟨rfl, HK2.out.trans ((Only.rowS _ _).below (by rw [HRE.out]; exact Nat.le_refl _) HK2.out.size)⟩
  | true =>
    rw [if_neg (by simp)] at HP
    go_upto_region 3 with (go_at_call 19; refine (HMY.out _ HK0.out).mono ?_; rintro e w2 ⟨rfl, hk⟩)
    have HK2 := Lib.hid (nest HK0.out hk)
    have HR2 := Lib.hid (HR0.out.keep hk)
    clear hk HK0 HR0 HMY
    go_upto_region 4 with (go_at_call 10; refine (HHV.out _ HK2.out).mono ?_; rintro e w3 ⟨rfl, hk⟩)
    have hk4 : Below w2.heap.size w2 (w3.alloc (.cells #[.int .u32 hp, .int .i64 he] 29)) := more hk _
    have HA4 : Hid (Blk (w3.alloc (.cells #[.int .u32 hp, .int .i64 he] 29)) w3.heap.size 29 #[.int .u32 hp, .int .i64 he]) := Lib.hid (Blk.new _ _ _)
    have HK4 := Lib.hid (nest HK2.out hk4)
    have HR4 := Lib.hid (HR2.out.keep hk4)
    clear hk hk4 HK2 HR2 HHV
    generalize w3.alloc (.cells #[.int .u32 hp, .int .i64 he] 29) = w4 at *
    obtain ⟨x, hx⟩ : ∃ x, x = w3.heap.size := ⟨_, rfl⟩
    rw [← hx] at HA4 ⊢
    clear hx
    go_upto_region 5 with (go_at_call 12; refine (HLT.out _ HK4.out).mono ?_; rintro e w5 ⟨rfl, hk⟩)
    have hk6 : Below w4.heap.size w4 (w5.alloc (.cells #[.int .u32 lp, .int .i64 le] 29)) := more hk _
    have HB6 : Hid (Blk (w5.alloc (.cells #[.int .u32 lp, .int .i64 le] 29)) w5.heap.size 29 #[.int .u32 lp, .int .i64 le]) := Lib.hid (Blk.new _ _ _)
    have HA6 := Lib.hid (HA4.out.keep hk6)
    have HK6 := Lib.hid (nest HK4.out hk6)
    have HR6 := Lib.hid (HR4.out.keep hk6)
    clear hk hk6 HK4 HR4 HA4 HLT
    generalize w5.alloc (.cells #[.int .u32 lp, .int .i64 le] 29) = w6 at *
    obtain ⟨y, hy⟩ : ∃ x, x = w5.heap.size := ⟨_, rfl⟩
    rw [← hy] at HB6 ⊢
    clear hy
    cases his with
    | false =>
      have HRR : Hid (RES = ((0, 0), 20)) := Lib.hid (by rw [HP.out, if_pos (.inl rfl)])
      obtain rfl := HRR.out
      go_wp2_with (refine at_store 4 rfl ?_; refine wpList_store_row rfl 33 (.tmp 4) (.tmp 36) rfl r #[.int .u32 0, .int .u32 0] rfl rfl 33 _ HR6.out mv_info rfl (mv_one _ _) ?_)
      (try simp only [Exit.inBlock, Exit.then])
      refine bodyPost_ret (results_blk_tmp (l := [.int .u32 0, .int .u32 0]) rfl Try.underlying33 mv_info rfl rfl (Blk.rowS HR6.out _)) rfl ?_
      exact ⟨rfl, HK6.out.trans ((Only.rowS _ _).below (by rw [HRE.out]; exact Nat.le_refl _) HK6.out.size)⟩
    | true =>
      cases lis with
      | false =>
        have HRR : Hid (RES = ((0, 0), 20)) := Lib.hid (by rw [HP.out, if_pos (.inr (.inl rfl))])
        obtain rfl := HRR.out
        go_wp2_with (refine at_store 4 rfl ?_; refine wpList_store_row rfl 33 (.tmp 4) (.tmp 36) rfl r #[.int .u32 0, .int .u32 0] rfl rfl 33 _ HR6.out mv_info rfl (mv_one _ _) ?_)
        (try simp only [Exit.inBlock, Exit.then])
        refine bodyPost_ret (results_blk_tmp (l := [.int .u32 0, .int .u32 0]) rfl Try.underlying33 mv_info rfl rfl (Blk.rowS HR6.out _)) rfl ?_
        exact ⟨rfl, HK6.out.trans ((Only.rowS _ _).below (by rw [HRE.out]; exact Nat.le_refl _) HK6.out.size)⟩
      | true =>
        by_cases h2 : es.length < 2
        · have h3 : decide ((es.length : Int) < 2) = true := by simp; omega
          have HRR : Hid (RES = ((0, 0), 20)) := Lib.hid (by rw [HP.out, if_pos (.inr (.inr (.inl h2)))])
          obtain rfl := HRR.out
          go_wp2_with (refine at_store 4 rfl ?_; refine wpList_store_row rfl 33 (.tmp 4) (.tmp 36) rfl r #[.int .u32 0, .int .u32 0] rfl rfl 33 _ HR6.out mv_info rfl (mv_one _ _) ?_)
          (try simp only [Exit.inBlock, Exit.then])
          refine bodyPost_ret (results_blk_tmp (l := [.int .u32 0, .int .u32 0]) rfl Try.underlying33 mv_info rfl rfl (Blk.rowS HR6.out _)) rfl ?_
          exact ⟨rfl, HK6.out.trans ((Only.rowS _ _).below (by rw [HRE.out]; exact Nat.le_refl _) HK6.out.size)⟩
        · have h3 : decide ((es.length : Int) < 2) = false := by simp; omega
          obtain ⟨rfl, _, hgl⟩ := HG.out (by omega)
          have HGL := Lib.hid hgl
          obtain ⟨mid, hmid⟩ : ∃ m, m = es.length / 2 := ⟨_, rfl⟩
          have hml : mid < es.length := by omega
          have hml2 : (mid : Int) < (es.length : Int) := by omega
          have hq : (es.length : Int).tdiv 2 = (mid : Int) := by rw [Int.tdiv_eq_ediv_of_nonneg (by omega)]; omega
          have hmw : IntKind.i64.wrap (mid : Int) = (mid : Int) := IntWalk.i64_in _ (by have := HL2.out; omega)
          obtain ⟨xx, k0, _⟩ := HC.out mid hml
          rw [← hmid] at HP
          obtain ⟨u, hu⟩ : ∃ u, u = (es.getD mid e0).1 := ⟨_, rfl⟩
          rw [← hu] at HP k0
          have d0 : w6.cell? ⟨g, off + mid * 5, none⟩ = some (.int .u32 u) := (HK6.out.cell (p := ⟨g, off + mid * 5, none⟩) hgl).trans k0
          have c0 := HA6.out.cell 0
          have H2 := Lib.hid h2
          clear hu hmid k0 h2 hgl
          by_cases hup : u = hp
          · have hup2 : (u == hp) = true := by simpa using hup
            have HRR : Hid (RES = ((0, 0), 20)) := Lib.hid (by rw [HP.out, if_pos (.inr (.inr (.inr hup)))])
            obtain rfl := HRR.out
            clear hup
            go_wp2_with (refine at_store 4 rfl ?_; refine wpList_store_row rfl 33 (.tmp 4) (.tmp 48) rfl r #[.int .u32 0, .int .u32 0] rfl rfl 33 _ HR6.out mv_info rfl (mv_one _ _) ?_)
            (try simp only [Exit.inBlock, Exit.then])
            refine bodyPost_ret (results_blk_tmp (l := [.int .u32 0, .int .u32 0]) rfl Try.underlying33 mv_info rfl rfl (Blk.rowS HR6.out _)) rfl ?_
            exact ⟨rfl, HK6.out.trans ((Only.rowS _ _).below (by rw [HRE.out]; exact Nat.le_refl _) HK6.out.size)⟩
          · have hup2 : (u == hp) = false := beq_eq_false_iff_ne.2 hup
            have HRR : Hid (RES = ((lp, u), 0)) := Lib.hid (by rw [HP.out, if_neg]; rintro (h | h | h | h); exact absurd h (by simp); exact absurd h (by simp); exact H2.out h; exact hup h)
            obtain rfl := HRR.out
            have b0 := HB6.out.cell 0
            clear hup
            go_wp2_with (refine at_store 4 rfl ?_; refine wpList_store_row rfl 33 (.tmp 4) (.tmp 52) rfl r #[.int .u32 lp, .int .u32 u] rfl rfl 33 _ HR6.out mv_info rfl (mv_one _ _) ?_)
            (try simp only [Exit.inBlock, Exit.then])
            refine bodyPost_ret (results_blk_tmp (l := [.int .u32 lp, .int .u32 u]) rfl Try.underlying33 mv_info rfl rfl (Blk.rowS HR6.out _)) rfl ?_
            exact ⟨rfl, HK6.out.trans ((Only.rowS _ _).below (by rw [HRE.out]; exact Nat.le_refl _) HK6.out.size)⟩
end Go.Proofs.Ytgkmkpkbdmciiaa
