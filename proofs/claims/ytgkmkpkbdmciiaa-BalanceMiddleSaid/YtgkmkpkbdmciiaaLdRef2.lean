/- The document's answers for package balance (petasosref17): better, most, Heavy, Light, Plan. -/
import Derived.Test.YtgkmkpkbdmciiaaLdRef
set_option maxRecDepth 4000
namespace Go.Proofs.Ytgkmkpkbdmciiaa
open Go.RowKit Mem
set_option linter.unusedSimpArgs false
set_option linter.unusedVariables false
attribute [local irreducible] Go.Calls

theorem ld_one (p e : Int) : (#[.int .u32 p, .int .i64 e] : Array Value).all (·.oneCell') = true := by simp [Value.oneCell']
theorem more_two (w : World) (a b : Obj) : Below w.heap.size w ((w.alloc a).alloc b) := more (more (Below.refl _ _) _) _
theorem more_one (w : World) (a : Obj) : Below w.heap.size w (w.alloc a) := more (Below.refl _ _) _
theorem rbetter_any (a b : Ld) (more : Bool) (w : World) : Calls Try.prog 33 #[.agg #[.int .u32 a.1, .int .i64 a.2], .agg #[.int .u32 b.1, .int .i64 b.2], .bool more] w fun e w' => e = .returned (.bool (betterV a b more)) ∧ Below w.heap.size w w' := by
  obtain ⟨p, e⟩ := a
  obtain ⟨q, f⟩ := b
  dsimp only
  have HK : Hid (Below w.heap.size w ((w.alloc (.cells #[.int .u32 p, .int .i64 e] 29)).alloc (.cells #[.int .u32 q, .int .i64 f] 29))) := Lib.hid (more_two _ _ _)
  by_cases h : e = f
  · have he : betterV (p, e) (q, f) more = decide (p < q) := by unfold betterV; rw [if_pos h]
    rw [he]
    have h2 : (e == f) = true := by simpa using h
    clear he h
    go_enter Try.func33, Try.ntmps33
    go_wp2_with fail
    go_ret
    exact ⟨rfl, HK.out⟩
  · have he : betterV (p, e) (q, f) more = (decide (e > f) == more) := by unfold betterV; rw [if_neg h]
    rw [he]
    have h2 : (e == f) = false := beq_eq_false_iff_ne.2 h
    clear he h
    go_enter Try.func33, Try.ntmps33
    go_wp2_with fail
    go_ret
    exact ⟨rfl, HK.out⟩
theorem mostV_no {l : List Ld} {more : Bool} (h : mayB l = false ∨ l = []) : mostV l more = ((0, 0), false) := by
  unfold mostV
  rw [if_neg]
  rintro ⟨h1, h2⟩
  rcases h with h | h
  · rw [h] at h1; cases h1
  · exact h2 h
theorem mostV_yes {l : List Ld} {more : Bool} (h1 : mayB l = true) (h2 : l ≠ []) : mostV l more = (bestL l more (l.length - 1), true) := if_pos ⟨h1, h2⟩
set_option maxHeartbeats 2000000 in
theorem rmost_any (v : Value) (l : List Ld) (more : Bool) (w : World) (h : Rd ldE w v l) : Calls Try.prog 26 #[v, .bool more] w fun e w' => e = .returned (.tuple #[.agg #[.int .u32 (mostV l more).1.1, .int .i64 (mostV l more).1.2], .bool (mostV l more).2]) ∧ Below w.heap.size w w' := by
  have HMY := Lib.hid (fun z (hz : Below w.heap.size w z) => rmay_any v l z (h.keep hz))
  obtain ⟨a, g, off, c, rfl, _, hc2, hga, hcs⟩ := h.loop2
  have hc2' : c ≤ 9223372036854775807 := hc2
  have HC := Lib.hid hcs
  have HG := Lib.hid hga
  clear h hcs hga
  have HK0 : Hid (Below w.heap.size w (w.alloc (.cells #[.int .u32 0, .int .i64 0] 29))) := Lib.hid (more_one _ _)
  have HR0 : Hid (Blk (w.alloc (.cells #[.int .u32 0, .int .i64 0] 29)) w.heap.size 29 #[.int .u32 0, .int .i64 0]) := Lib.hid (Blk.new _ _ _)
  cases hm : mayB l with
  | false =>
    rw [mostV_no (.inl hm)]
    rw [hm] at HMY
    dsimp only
    clear hm
    go_enter Try.func26, Try.ntmps26
    go_upto_region 1 with fail
    generalize w.alloc (.cells #[.int .u32 0, .int .i64 0] 29) = w1 at *
    obtain ⟨r, hr⟩ : ∃ r, r = w.heap.size := ⟨_, rfl⟩
    have HRE := Lib.hid hr
    rw [← hr] at HR0 ⊢
    clear hr
    go_upto_region 2 with (go_at_call 28; refine (HMY.out _ HK0.out).mono ?_; rintro e w2 ⟨rfl, hk⟩)
    have HR2 := Lib.hid (HR0.out.keep hk)
    have HK2 := Lib.hid (nest HK0.out hk)
    clear hk
    go_wp2_with (refine at_store 4 rfl ?_; refine wpList_store_row rfl 29 (.tmp 4) (.tmp 16) rfl r #[.int .u32 0, .int .i64 0] rfl rfl 29 _ HR2.out ld_info rfl (ld_one _ _) ?_)
    (try simp only [Exit.inBlock, Exit.then])
    refine bodyPost_ret (results_blk_tmp (l := [.int .u32 0, .int .i64 0]) rfl Try.underlying29 ld_info rfl rfl (Blk.rowS HR2.out _)) rfl ?_
    exact ⟨rfl, HK2.out.trans ((Only.rowS w2 _).below (by rw [HRE.out]; exact Nat.le_refl _) HK2.out.size)⟩
  | true =>
    by_cases h0 : l = []
    · subst h0
      rw [mostV_no (.inr rfl)]
      rw [hm] at HMY
      dsimp only
      clear hm
      go_enter Try.func26, Try.ntmps26
      go_upto_region 1 with fail
      generalize w.alloc (.cells #[.int .u32 0, .int .i64 0] 29) = w1 at *
      obtain ⟨r, hr⟩ : ∃ r, r = w.heap.size := ⟨_, rfl⟩
      have HRE := Lib.hid hr
      rw [← hr] at HR0 ⊢
      clear hr
      go_upto_region 2 with (go_at_call 28; refine (HMY.out _ HK0.out).mono ?_; rintro e w2 ⟨rfl, hk⟩)
      have HR2 := Lib.hid (HR0.out.keep hk)
      have HK2 := Lib.hid (nest HK0.out hk)
      clear hk
      go_wp2_with (refine at_store 4 rfl ?_; refine wpList_store_row rfl 29 (.tmp 4) (.tmp 16) rfl r #[.int .u32 0, .int .i64 0] rfl rfl 29 _ HR2.out ld_info rfl (ld_one _ _) ?_)
      (try simp only [Exit.inBlock, Exit.then])
      refine bodyPost_ret (results_blk_tmp (l := [.int .u32 0, .int .i64 0]) rfl Try.underlying29 ld_info rfl rfl (Blk.rowS HR2.out _)) rfl ?_
      exact ⟨rfl, HK2.out.trans ((Only.rowS w2 _).below (by rw [HRE.out]; exact Nat.le_refl _) HK2.out.size)⟩
    · rw [mostV_yes hm h0]
      rw [hm] at HMY
      have hpos : 0 < l.length := List.length_pos_iff.2 h0
      have hne : ((l.length : Int) == 0) = false := beq_eq_false_iff_ne.2 (by omega)
      have hp0 : (0 : Int) < (l.length : Int) := by omega
      obtain ⟨rfl, hgl⟩ := HG.out hpos
      have HGL := Lib.hid hgl
      dsimp only
      clear hm h0 hgl
      go_enter Try.func26, Try.ntmps26
      go_upto_region 1 with fail
      generalize w.alloc (.cells #[.int .u32 0, .int .i64 0] 29) = w1 at *
      obtain ⟨r, hr⟩ : ∃ r, r = w.heap.size := ⟨_, rfl⟩
      have HRE := Lib.hid hr
      rw [← hr] at HR0 ⊢
      clear hr
      go_upto_region 3 with (go_at_call 28; refine (HMY.out _ HK0.out).mono ?_; rintro e w2 ⟨rfl, hk⟩)
      have HR2 := Lib.hid (HR0.out.keep hk)
      have HK2 := Lib.hid (nest HK0.out hk)
      clear hk HR0 HK0
      obtain ⟨⟨p0, q0⟩, hpq⟩ : ∃ x, x = l.getD 0 (0, 0) := ⟨_, rfl⟩
      have HB0 : Hid ((p0, q0) = bestL l more 0) := Lib.hid hpq
      replace HC := Lib.hid (And.intro HC.out (HC.out 0 hpos))
      have e0 : w2.cell? ⟨g, off, none⟩ = some (.int .u32 p0) := by have := HC.out.2.1; rw [← hpq] at this; rw [Nat.zero_mul, Nat.add_zero] at this; exact (HK2.out.cell HGL.out).trans this
      have e1 : w2.cell? ⟨g, off + 1, none⟩ = some (.int .i64 q0) := by have := HC.out.2.2; rw [← hpq] at this; rw [Nat.zero_mul, Nat.add_zero] at this; exact (HK2.out.cell HGL.out).trans this
      clear hpq
      go_upto_region 4 with fail
      have hk3 : Below w2.heap.size w2 (w2.alloc (.cells #[.int .u32 p0, .int .i64 q0] 29)) := more_one _ _
      have HX3 : Hid (Blk (w2.alloc (.cells #[.int .u32 p0, .int .i64 q0] 29)) w2.heap.size 29 #[.int .u32 p0, .int .i64 q0]) := Lib.hid (Blk.new _ _ _)
      have HK3 := Lib.hid (nest HK2.out hk3)
      have HR3 := Lib.hid (HR2.out.keep hk3)
      have HXN : Hid (r < w2.heap.size ∧ w.heap.size ≤ w2.heap.size) := Lib.hid ⟨HR2.out.lt, HK2.out.size⟩
      clear hk3 e0 e1 HR2 HK2 HMY
      generalize w2.alloc (.cells #[.int .u32 p0, .int .i64 q0] 29) = w3 at *
      obtain ⟨x, hx⟩ : ∃ x, x = w2.heap.size := ⟨_, rfl⟩
      rw [← hx] at HX3 HXN ⊢
      clear hx
      go_wp2_with fail
      go_loopw [7] (fun iv wr => ∃ i : Nat, i + 1 ≤ l.length ∧ iv = .int .i64 ((i + 1 : Nat) : Int) ∧ Blk wr x 29 #[.int .u32 (bestL l more i).1, .int .i64 (bestL l more i).2] ∧ Blk wr r 29 #[.int .u32 0, .int .i64 0] ∧ Below w.heap.size w wr) (fun iv _ => l.length - (intOf iv).toNat)
      case atStart => exact ⟨0, hpos, rfl, by rw [← HB0.out]; exact HX3.out, HR3.out, HK3.out⟩
      case round =>
        obtain ⟨i, hi, rfl, hx, hr, hb⟩ := hrel
        have HX := Lib.hid hx
        have HR := Lib.hid hr
        have HB := Lib.hid hb
        obtain ⟨wo, hwo⟩ : ∃ z, z = wr := ⟨_, rfl⟩
        rw [← hwo] at HX HR HB ⊢
        clear hx hr hb hwo
        by_cases hlt : i + 1 < l.length
        · have hil2 : ((i + 1 : Nat) : Int) < (l.length : Int) := by omega
          have f0 := (HC.out.1 (i + 1) hlt).1
          have f1 := (HC.out.1 (i + 1) hlt).2
          have HST : Hid (bestL l more (i + 1) = if betterV (l.getD (i + 1) (0, 0)) (bestL l more i) more then l.getD (i + 1) (0, 0) else bestL l more i) := Lib.hid rfl
          have HBT := Lib.hid (rbetter_any (l.getD (i + 1) (0, 0)) (bestL l more i) more)
          obtain ⟨⟨p, q⟩, hpq⟩ : ∃ y, y = l.getD (i + 1) (0, 0) := ⟨_, rfl⟩
          rw [← hpq] at f0 f1 HST HBT
          obtain ⟨⟨bp, bq⟩, hbb⟩ : ∃ y, y = bestL l more i := ⟨_, rfl⟩
          rw [← hbb] at HX HST HBT
          dsimp only at f0 f1 HX HBT
          obtain ⟨bt, hbt⟩ : ∃ b, b = betterV (p, q) (bp, bq) more := ⟨_, rfl⟩
          rw [← hbt] at HST HBT
          obtain ⟨j, hj⟩ : ∃ j, j = i + 1 := ⟨_, rfl⟩
          rw [← hj] at f0 f1 hil2 ⊢
          have HJ := Lib.hid hj
          have f0' : wo.cell? ⟨g, off + j * 2, none⟩ = some (.int .u32 p) := (HB.out.cell (p := ⟨g, off + j * 2, none⟩) HGL.out).trans f0
          have f1' : wo.cell? ⟨g, off + j * 2 + 1, none⟩ = some (.int .i64 q) := (HB.out.cell (p := ⟨g, off + j * 2 + 1, none⟩) HGL.out).trans f1
          have HE := Lib.hid (And.intro f0' f1')
          clear hpq hbb hbt f0 f1 f0' f1' hlt hi hj
          go_upto_region 7 with fail
          refine Run.region_walk (S := fun z => z.cell? ⟨g, off + j * 2, none⟩ = some (.int .u32 p) ∧ z.cell? ⟨g, off + j * 2 + 1, none⟩ = some (.int .i64 q) ∧ Blk z x 29 #[.int .u32 bp, .int .i64 bq] ∧ Blk z r 29 #[.int .u32 0, .int .i64 0] ∧ Below w.heap.size w z)
            rmost.rows6 rmost.plan6 (l := ?steps1) (by kernel_rfl) (by kernel_rfl) (by kernel_rfl) (by kernel_rfl) ?written1 ⟨HE.out.1, HE.out.2, HX.out.keep (Below.refl _ _).drew, HR.out.keep (Below.refl _ _).drew, HB.out.drew⟩ ?onward1
          case written1 =>
            simp only [rmost.plan6, Run.stepsOf, Run.stepOf, Run.guardOf, List.getElem?_toArray, List.getElem?_cons_zero, List.getElem?_cons_succ, Option.map_some, Option.map_none, Option.bind_some, Option.toList_some, List.map_cons, List.map_nil, List.cons_append, List.nil_append, List.append_eq]
            rfl
          repeat ((first
            | (refine Run.takes (v := ?_) ?_ ?_; rotate_left; (· intro w' hS'; (first | (refine exec_load_blk (n := 2) (x := .tmp 6) (l := [.int .u32 bp, .int .i64 bq]) ?_ Try.underlying29 ld_info ?_ ?_ hS'.2.2.1 <;> rfl) | (have h1 := hS'.1; have h2 := hS'.2.1; go_simp; done) | (go_simp; (try with_reducible rfl)))))
            | (refine Run.takesG (v := ?_) ?_ ?_ ?_; rotate_left; (· simp only [List.getElem?_cons_zero, List.getElem?_cons_succ]); (· intro w' hS'; (first | (refine exec_load_blk (n := 2) (x := .tmp 6) (l := [.int .u32 bp, .int .i64 bq]) ?_ Try.underlying29 ld_info ?_ ?_ hS'.2.2.1 <;> rfl) | (have h1 := hS'.1; have h2 := hS'.2.1; go_simp; done) | (go_simp; (try with_reducible rfl)))))
            | (refine Run.skipsT ?_ ?_; (· simp only [List.getElem?_cons_zero, List.getElem?_cons_succ]))
            | (refine Run.skipsF ?_ ?_; (· simp only [List.getElem?_cons_zero, List.getElem?_cons_succ]))
            | (refine Run.skipsU ?_ ?_; (· simp only [List.getElem?_cons_zero, List.getElem?_cons_succ]))
            | (refine Run.passT ?_ ?_; (· simp only [List.getElem?_cons_zero, List.getElem?_cons_succ]))
            | (refine Run.passF ?_ ?_; (· simp only [List.getElem?_cons_zero, List.getElem?_cons_succ]))
            | (refine Run.passU ?_ ?_; (· simp only [List.getElem?_cons_zero, List.getElem?_cons_succ]))
            | (refine Run.runs ?_
               (first
               | (refine Run.callF 33 (by kernel_rfl) (fun hS => HBT.out _) rfl ?_)
               | (refine Run.callG 33 (by kernel_rfl) ?_ (fun hS => HBT.out _) rfl ?_; (· simp only [List.getElem?_cons_zero, List.getElem?_cons_succ]))
               | fail)
               (first
               | (rintro hS e w' ⟨rfl, rfl⟩; refine ⟨_, rfl, hS, ?_⟩)
               | (rintro hS e w' ⟨rfl, hb⟩; refine ⟨_, rfl, ⟨kc hb hS.1, kc hb hS.2.1, hS.2.2.1.keep hb, hS.2.2.2.1.keep hb, nest hS.2.2.2.2 hb⟩, ?_⟩)
               | fail))
            | fail); simp only [Act.put, List.setIfInBounds_toArray, List.set_cons_zero, List.set_cons_succ])
          refine Run.ends (fun hS => ?_)
          obtain ⟨wi, hwi⟩ : ∃ z, z = w' := ⟨_, rfl⟩
          rw [← hwi] at hS ⊢
          have h1 := hS.1
          have h2 := hS.2.1
          have HX5 := Lib.hid hS.2.2.1
          have HR5 := Lib.hid hS.2.2.2.1
          have HB5 := Lib.hid hS.2.2.2.2
          clear hS hwi HX HR HB HE
          cases bt with
          | true =>
            go_wp2_with (refine at_store 6 rfl ?_; refine wpList_store_row rfl 29 (.tmp 6) (.tmp 36) rfl x #[.int .u32 p, .int .i64 q] rfl rfl 29 _ HX5.out ld_info rfl (ld_one _ _) ?_)
            have HX6 : Hid (Blk (wi.setRow x #[.int .u32 p, .int .i64 q]) x 29 #[.int .u32 p, .int .i64 q]) := Lib.hid (Blk.rowS HX5.out _)
            have HR6 : Hid (Blk (wi.setRow x #[.int .u32 p, .int .i64 q]) r 29 #[.int .u32 0, .int .i64 0]) := Lib.hid (HR5.out.only (Only.rowS _ _) (by have := HXN.out; omega))
            have HB6 : Hid (Below w.heap.size w (wi.setRow x #[.int .u32 p, .int .i64 q])) := Lib.hid (HB5.out.trans ((Only.rowS _ _).below HXN.out.2 HB5.out.size))
            clear h1 h2
            exact ⟨⟨i + 1, by have := HJ.out; omega, by rw [HJ.out]; go_num, by rw [HST.out, if_pos rfl]; exact HX6.out, HR6.out, HB6.out⟩, by simp [intOf]; omega⟩
          | false =>
            clear h1 h2
            go_wp2_with fail
            exact ⟨⟨i + 1, by have := HJ.out; omega, by rw [HJ.out]; go_num, by rw [HST.out, if_neg (by simp)]; exact HX5.out, HR5.out, HB5.out⟩, by simp [intOf]; omega⟩
        · have hil : i = l.length - 1 := by omega
          have HFX : Hid (Blk wo x 29 #[.int .u32 (bestL l more (l.length - 1)).1, .int .i64 (bestL l more (l.length - 1)).2]) := Lib.hid (by rw [← hil]; exact HX.out)
          have hj : i + 1 = l.length := by omega
          rw [hj]
          obtain ⟨⟨bp, bq⟩, hbb⟩ : ∃ y, y = bestL l more (l.length - 1) := ⟨_, rfl⟩
          rw [← hbb] at HFX
          have HBBQ := Lib.hid hbb
          dsimp only at HFX
          clear hil hj hlt hi hbb
          have c0 := HFX.out.cell 0
          have c1 := HFX.out.cell 1
          go_wp2_with (refine at_store 4 rfl ?_; refine wpList_store_row rfl 29 (.tmp 4) (.tmp 37) rfl r #[.int .u32 bp, .int .i64 bq] rfl rfl 29 _ HR.out ld_info rfl (ld_one _ _) ?_)
          (try simp only [Exit.inBlock, Exit.then])
          refine bodyPost_ret (results_blk_tmp (l := [.int .u32 bp, .int .i64 bq]) rfl Try.underlying29 ld_info rfl rfl (Blk.rowS HR.out _)) rfl ?_
          exact ⟨by rw [← HBBQ.out]; rfl, HB.out.trans ((Only.rowS _ _).below (by rw [HRE.out]; exact Nat.le_refl _) HB.out.size)⟩
set_option maxHeartbeats 2000000 in
theorem rheavy_any (v : Value) (l : List Ld) (w : World) (h : Rd ldE w v l) (hl : l.length ≤ 1000000) : Calls Try.prog 11 #[v] w fun e w' => e = .returned (.tuple #[.agg #[.int .u32 (heavyV l).1.1, .int .i64 (heavyV l).1.2], .bool (heavyV l).2]) ∧ Below w.heap.size w w' := by
  have HMO := Lib.hid (fun z (hz : Below w.heap.size w z) => rmost_any v l true z (h.keep hz))
  have HMN := Lib.hid (fun z (hz : Below w.heap.size w z) => rmean_any v l z (h.keep hz) hl)
  have HMB := Lib.hid (meanV_bd l)
  have HMM := Lib.hid (fun hq : (mostV l true).2 = true => (mostV_mem hq).2)
  have HV : Hid (heavyV l = if (mostV l true).2 = false ∨ 256 * (mostV l true).1.2 ≤ 2 * meanV l then ((0, 0), false) else ((mostV l true).1, true)) := Lib.hid rfl
  obtain ⟨a, c, rfl, _, _⟩ := h.form
  obtain ⟨m, hm⟩ : ∃ m, m = meanV l := ⟨_, rfl⟩
  rw [← hm] at HMN HMB HV
  obtain ⟨⟨⟨p, e⟩, is⟩, hq⟩ : ∃ q, q = mostV l true := ⟨_, rfl⟩
  rw [← hq] at HMO HMM HV
  dsimp only at HMO HMM HV
  obtain ⟨RES, hRES⟩ : ∃ x, x = heavyV l := ⟨_, rfl⟩
  rw [← hRES] at HV ⊢
  clear h hm hq hRES
  have HK0 : Hid (Below w.heap.size w (w.alloc (.cells #[.int .u32 0, .int .i64 0] 29))) := Lib.hid (more_one _ _)
  have HR0 : Hid (Blk (w.alloc (.cells #[.int .u32 0, .int .i64 0] 29)) w.heap.size 29 #[.int .u32 0, .int .i64 0]) := Lib.hid (Blk.new _ _ _)
  obtain ⟨N, hN⟩ : ∃ n, n = w.heap.size := ⟨_, rfl⟩
  go_enter Try.func11, Try.ntmps11
  go_upto_region 1 with fail
  generalize w.alloc (.cells #[.int .u32 0, .int .i64 0] 29) = w1 at *
  obtain ⟨r, hr⟩ : ∃ r, r = w.heap.size := ⟨_, rfl⟩
  have HRE := Lib.hid hr
  rw [← hr] at HR0 ⊢
  clear hr hN
  go_upto_region 2 with (go_at_call 26; refine (HMO.out _ HK0.out).mono ?_; rintro e w2 ⟨rfl, hk⟩)
  have hk3 : Below w1.heap.size w1 (w2.alloc (.cells #[.int .u32 p, .int .i64 e] 29)) := more hk _
  have HX3 : Hid (Blk (w2.alloc (.cells #[.int .u32 p, .int .i64 e] 29)) w2.heap.size 29 #[.int .u32 p, .int .i64 e]) := Lib.hid (Blk.new _ _ _)
  have HK3 := Lib.hid (nest HK0.out hk3)
  have HR3 := Lib.hid (HR0.out.keep hk3)
  replace HMN := Lib.hid (fun z (hz : Below (w2.alloc (.cells #[.int .u32 p, .int .i64 e] 29)).heap.size (w2.alloc (.cells #[.int .u32 p, .int .i64 e] 29)) z) => HMN.out z (nest HK3.out hz))
  clear hk hk3 HK0 HR0 HMO
  generalize w2.alloc (.cells #[.int .u32 p, .int .i64 e] 29) = w3 at *
  obtain ⟨x, hx⟩ : ∃ x, x = w2.heap.size := ⟨_, rfl⟩
  rw [← hx] at HX3 ⊢
  clear hx
  have c1 : w3.drew.cell? ⟨x, 1, none⟩ = some (.int .i64 e) := HX3.out.cell 1
  cases is with
  | false =>
    have HRR : Hid (RES = ((0, 0), false)) := Lib.hid (by rw [HV.out, if_pos (.inl rfl)])
    obtain rfl := HRR.out
    refine Run.region_walk (S := fun z => z.cell? ⟨x, 1, none⟩ = some (.int .i64 e) ∧ Below w3.heap.size w3 z)
      rheavy.rows2 rheavy.plan2 (l := ?_) (by kernel_rfl) (by kernel_rfl) (by kernel_rfl) (by kernel_rfl) ?_ ⟨c1, (Below.refl _ _).drew⟩ ?_
    rotate_left
    (· simp only [rheavy.plan2, Run.stepsOf, Run.stepOf, Run.guardOf, List.getElem?_toArray, List.getElem?_cons_zero, List.getElem?_cons_succ, Option.map_some, Option.map_none, Option.bind_some, Option.toList_some, List.map_cons, List.map_nil, List.cons_append, List.nil_append, List.append_eq]
       rfl)
    repeat ((first
      | (refine Run.takes (v := ?_) ?_ ?_; rotate_left; (· intro w' hS'; (first | (have h1 := hS'.1; go_simp; done) | (go_simp; (try with_reducible rfl)))))
      | (refine Run.takesG (v := ?_) ?_ ?_ ?_; rotate_left; (· simp only [List.getElem?_cons_zero, List.getElem?_cons_succ]); (· intro w' hS'; (first | (have h1 := hS'.1; go_simp; done) | (go_simp; (try with_reducible rfl)))))
      | (refine Run.skipsT ?_ ?_; (· simp only [List.getElem?_cons_zero, List.getElem?_cons_succ]))
      | (refine Run.skipsF ?_ ?_; (· simp only [List.getElem?_cons_zero, List.getElem?_cons_succ]))
      | (refine Run.skipsU ?_ ?_; (· simp only [List.getElem?_cons_zero, List.getElem?_cons_succ]))
      | (refine Run.passT ?_ ?_; (· simp only [List.getElem?_cons_zero, List.getElem?_cons_succ]))
      | (refine Run.passF ?_ ?_; (· simp only [List.getElem?_cons_zero, List.getElem?_cons_succ]))
      | (refine Run.passU ?_ ?_; (· simp only [List.getElem?_cons_zero, List.getElem?_cons_succ]))
      | (refine Run.runs ?_
         (first
         | (refine Run.callF 17 (by kernel_rfl) (fun hS => HMN.out _ hS.2) rfl ?_)
         | (refine Run.callG 17 (by kernel_rfl) ?_ (fun hS => HMN.out _ hS.2) rfl ?_; (· simp only [List.getElem?_cons_zero, List.getElem?_cons_succ]))
         | fail)
         (first
         | (rintro hS e w' ⟨rfl, rfl⟩; refine ⟨_, rfl, hS, ?_⟩)
         | (rintro hS e w' ⟨rfl, hb⟩; refine ⟨_, rfl, ⟨kc hb hS.1, nest hS.2 hb⟩, ?_⟩)
         | fail))
      | fail); simp only [Act.put, List.setIfInBounds_toArray, List.set_cons_zero, List.set_cons_succ])
    refine Run.ends (fun hS => ?_)
    have HK4 := Lib.hid (nest HK3.out hS.2)
    have HR4 := Lib.hid (HR3.out.keep hS.2)
    have HX4 := Lib.hid (HX3.out.keep hS.2)
    clear hS c1
    go_wp2_with (first | (refine at_store 2 rfl ?_; refine wpList_store_row rfl 29 (.tmp 2) (.tmp 23) rfl r #[.int .u32 0, .int .i64 0] rfl rfl 29 _ HR4.out ld_info rfl (ld_one _ _) ?_) | (refine at_load 4 rfl ?_; refine wpList_load_row rfl 29 (.tmp 4) rfl x rfl 29 _ (0, 0) _ HX4.out Try.underlying29 rfl ld_info ?_))
    (try simp only [Exit.inBlock, Exit.then])
    refine bodyPost_ret (results_blk_tmp (l := [.int .u32 0, .int .i64 0]) rfl Try.underlying29 ld_info rfl rfl (Blk.rowS HR4.out _)) rfl ?_
    exact ⟨rfl, HK4.out.trans ((Only.rowS _ _).below (by rw [HRE.out]; exact Nat.le_refl _) HK4.out.size)⟩
  | true =>
    have HEB := Lib.hid (HMM.out rfl)
    have hk1 : IntKind.u64.wrap e = e := by rw [IntKind.wrap_u64]; have := HEB.out; omega
    have hk2 : IntKind.u64.wrap (256 * e) = 256 * e := by rw [IntKind.wrap_u64]; have := HEB.out; omega
    have hk3 : IntKind.u64.wrap (2 * m) = 2 * m := by rw [IntKind.wrap_u64]; have := HMB.out; omega
    by_cases hc : 256 * e ≤ 2 * m
    · have HRR : Hid (RES = ((0, 0), false)) := Lib.hid (by rw [HV.out, if_pos (.inr hc)])
      obtain rfl := HRR.out
      have hcd : decide (256 * e ≤ 2 * m) = true := by simpa using hc
      skip
      refine Run.region_walk (S := fun z => z.cell? ⟨x, 1, none⟩ = some (.int .i64 e) ∧ Below w3.heap.size w3 z)
        rheavy.rows2 rheavy.plan2 (l := ?_) (by kernel_rfl) (by kernel_rfl) (by kernel_rfl) (by kernel_rfl) ?_ ⟨c1, (Below.refl _ _).drew⟩ ?_
      rotate_left
      (· simp only [rheavy.plan2, Run.stepsOf, Run.stepOf, Run.guardOf, List.getElem?_toArray, List.getElem?_cons_zero, List.getElem?_cons_succ, Option.map_some, Option.map_none, Option.bind_some, Option.toList_some, List.map_cons, List.map_nil, List.cons_append, List.nil_append, List.append_eq]
         rfl)
      repeat ((first
        | (refine Run.takes (v := ?_) ?_ ?_; rotate_left; (· intro w' hS'; (first | (have h1 := hS'.1; go_simp; done) | (go_simp; (try with_reducible rfl)))))
        | (refine Run.takesG (v := ?_) ?_ ?_ ?_; rotate_left; (· simp only [List.getElem?_cons_zero, List.getElem?_cons_succ]); (· intro w' hS'; (first | (have h1 := hS'.1; go_simp; done) | (go_simp; (try with_reducible rfl)))))
        | (refine Run.skipsT ?_ ?_; (· simp only [List.getElem?_cons_zero, List.getElem?_cons_succ]))
        | (refine Run.skipsF ?_ ?_; (· simp only [List.getElem?_cons_zero, List.getElem?_cons_succ]))
        | (refine Run.skipsU ?_ ?_; (· simp only [List.getElem?_cons_zero, List.getElem?_cons_succ]))
        | (refine Run.passT ?_ ?_; (· simp only [List.getElem?_cons_zero, List.getElem?_cons_succ]))
        | (refine Run.passF ?_ ?_; (· simp only [List.getElem?_cons_zero, List.getElem?_cons_succ]))
        | (refine Run.passU ?_ ?_; (· simp only [List.getElem?_cons_zero, List.getElem?_cons_succ]))
        | (refine Run.runs ?_
           (first
           | (refine Run.callF 17 (by kernel_rfl) (fun hS => HMN.out _ hS.2) rfl ?_)
           | (refine Run.callG 17 (by kernel_rfl) ?_ (fun hS => HMN.out _ hS.2) rfl ?_; (· simp only [List.getElem?_cons_zero, List.getElem?_cons_succ]))
           | fail)
           (first
           | (rintro hS e w' ⟨rfl, rfl⟩; refine ⟨_, rfl, hS, ?_⟩)
           | (rintro hS e w' ⟨rfl, hb⟩; refine ⟨_, rfl, ⟨kc hb hS.1, nest hS.2 hb⟩, ?_⟩)
           | fail))
        | fail); simp only [Act.put, List.setIfInBounds_toArray, List.set_cons_zero, List.set_cons_succ])
      refine Run.ends (fun hS => ?_)
      have HK4 := Lib.hid (nest HK3.out hS.2)
      have HR4 := Lib.hid (HR3.out.keep hS.2)
      have HX4 := Lib.hid (HX3.out.keep hS.2)
      clear hS c1
      go_wp2_with (first | (refine at_store 2 rfl ?_; refine wpList_store_row rfl 29 (.tmp 2) (.tmp 23) rfl r #[.int .u32 0, .int .i64 0] rfl rfl 29 _ HR4.out ld_info rfl (ld_one _ _) ?_) | (refine at_load 4 rfl ?_; refine wpList_load_row rfl 29 (.tmp 4) rfl x rfl 29 _ (0, 0) _ HX4.out Try.underlying29 rfl ld_info ?_))
      (try simp only [Exit.inBlock, Exit.then])
      refine bodyPost_ret (results_blk_tmp (l := [.int .u32 0, .int .i64 0]) rfl Try.underlying29 ld_info rfl rfl (Blk.rowS HR4.out _)) rfl ?_
      exact ⟨rfl, HK4.out.trans ((Only.rowS _ _).below (by rw [HRE.out]; exact Nat.le_refl _) HK4.out.size)⟩
    · have HRR : Hid (RES = ((p, e), true)) := Lib.hid (by rw [HV.out, if_neg (by simp; omega)])
      obtain rfl := HRR.out
      have hcd : decide (256 * e ≤ 2 * m) = false := by simpa using hc
      skip
      refine Run.region_walk (S := fun z => z.cell? ⟨x, 1, none⟩ = some (.int .i64 e) ∧ Below w3.heap.size w3 z)
        rheavy.rows2 rheavy.plan2 (l := ?_) (by kernel_rfl) (by kernel_rfl) (by kernel_rfl) (by kernel_rfl) ?_ ⟨c1, (Below.refl _ _).drew⟩ ?_
      rotate_left
      (· simp only [rheavy.plan2, Run.stepsOf, Run.stepOf, Run.guardOf, List.getElem?_toArray, List.getElem?_cons_zero, List.getElem?_cons_succ, Option.map_some, Option.map_none, Option.bind_some, Option.toList_some, List.map_cons, List.map_nil, List.cons_append, List.nil_append, List.append_eq]
         rfl)
      repeat ((first
        | (refine Run.takes (v := ?_) ?_ ?_; rotate_left; (· intro w' hS'; (first | (have h1 := hS'.1; go_simp; done) | (go_simp; (try with_reducible rfl)))))
        | (refine Run.takesG (v := ?_) ?_ ?_ ?_; rotate_left; (· simp only [List.getElem?_cons_zero, List.getElem?_cons_succ]); (· intro w' hS'; (first | (have h1 := hS'.1; go_simp; done) | (go_simp; (try with_reducible rfl)))))
        | (refine Run.skipsT ?_ ?_; (· simp only [List.getElem?_cons_zero, List.getElem?_cons_succ]))
        | (refine Run.skipsF ?_ ?_; (· simp only [List.getElem?_cons_zero, List.getElem?_cons_succ]))
        | (refine Run.skipsU ?_ ?_; (· simp only [List.getElem?_cons_zero, List.getElem?_cons_succ]))
        | (refine Run.passT ?_ ?_; (· simp only [List.getElem?_cons_zero, List.getElem?_cons_succ]))
        | (refine Run.passF ?_ ?_; (· simp only [List.getElem?_cons_zero, List.getElem?_cons_succ]))
        | (refine Run.passU ?_ ?_; (· simp only [List.getElem?_cons_zero, List.getElem?_cons_succ]))
        | (refine Run.runs ?_
           (first
           | (refine Run.callF 17 (by kernel_rfl) (fun hS => HMN.out _ hS.2) rfl ?_)
           | (refine Run.callG 17 (by kernel_rfl) ?_ (fun hS => HMN.out _ hS.2) rfl ?_; (· simp only [List.getElem?_cons_zero, List.getElem?_cons_succ]))
           | fail)
           (first
           | (rintro hS e w' ⟨rfl, rfl⟩; refine ⟨_, rfl, hS, ?_⟩)
           | (rintro hS e w' ⟨rfl, hb⟩; refine ⟨_, rfl, ⟨kc hb hS.1, nest hS.2 hb⟩, ?_⟩)
           | fail))
        | fail); simp only [Act.put, List.setIfInBounds_toArray, List.set_cons_zero, List.set_cons_succ])
      refine Run.ends (fun hS => ?_)
      have HK4 := Lib.hid (nest HK3.out hS.2)
      have HR4 := Lib.hid (HR3.out.keep hS.2)
      have HX4 := Lib.hid (HX3.out.keep hS.2)
      clear hS c1
      go_wp2_with (first | (refine at_store 2 rfl ?_; refine wpList_store_row rfl 29 (.tmp 2) (.tmp 24) rfl r #[.int .u32 p, .int .i64 e] rfl rfl 29 _ HR4.out ld_info rfl (ld_one _ _) ?_) | (refine at_load 4 rfl ?_; refine wpList_load_row rfl 29 (.tmp 4) rfl x rfl 29 _ (0, 0) _ HX4.out Try.underlying29 rfl ld_info ?_))
      (try simp only [Exit.inBlock, Exit.then])
      refine bodyPost_ret (results_blk_tmp (l := [.int .u32 p, .int .i64 e]) rfl Try.underlying29 ld_info rfl rfl (Blk.rowS HR4.out _)) rfl ?_
      exact ⟨rfl, HK4.out.trans ((Only.rowS _ _).below (by rw [HRE.out]; exact Nat.le_refl _) HK4.out.size)⟩
set_option maxHeartbeats 2000000 in
theorem rlight_any (v : Value) (l : List Ld) (w : World) (h : Rd ldE w v l) (hl : l.length ≤ 1000000) : Calls Try.prog 13 #[v] w fun e w' => e = .returned (.tuple #[.agg #[.int .u32 (lightV l).1.1, .int .i64 (lightV l).1.2], .bool (lightV l).2]) ∧ Below w.heap.size w w' := by
  have HMO := Lib.hid (fun z (hz : Below w.heap.size w z) => rmost_any v l false z (h.keep hz))
  have HMN := Lib.hid (fun z (hz : Below w.heap.size w z) => rmean_any v l z (h.keep hz) hl)
  have HMB := Lib.hid (meanV_bd l)
  have HMM := Lib.hid (fun hq : (mostV l false).2 = true => (mostV_mem hq).2)
  have HV : Hid (lightV l = if (mostV l false).2 = false ∨ 512 * (mostV l false).1.2 ≥ meanV l then ((0, 0), false) else ((mostV l false).1, true)) := Lib.hid rfl
  obtain ⟨a, c, rfl, _, _⟩ := h.form
  obtain ⟨m, hm⟩ : ∃ m, m = meanV l := ⟨_, rfl⟩
  rw [← hm] at HMN HMB HV
  obtain ⟨⟨⟨p, e⟩, is⟩, hq⟩ : ∃ q, q = mostV l false := ⟨_, rfl⟩
  rw [← hq] at HMO HMM HV
  dsimp only at HMO HMM HV
  obtain ⟨RES, hRES⟩ : ∃ x, x = lightV l := ⟨_, rfl⟩
  rw [← hRES] at HV ⊢
  clear h hm hq hRES
  have HK0 : Hid (Below w.heap.size w (w.alloc (.cells #[.int .u32 0, .int .i64 0] 29))) := Lib.hid (more_one _ _)
  have HR0 : Hid (Blk (w.alloc (.cells #[.int .u32 0, .int .i64 0] 29)) w.heap.size 29 #[.int .u32 0, .int .i64 0]) := Lib.hid (Blk.new _ _ _)
  obtain ⟨N, hN⟩ : ∃ n, n = w.heap.size := ⟨_, rfl⟩
  go_enter Try.func13, Try.ntmps13
  go_upto_region 1 with fail
  generalize w.alloc (.cells #[.int .u32 0, .int .i64 0] 29) = w1 at *
  obtain ⟨r, hr⟩ : ∃ r, r = w.heap.size := ⟨_, rfl⟩
  have HRE := Lib.hid hr
  rw [← hr] at HR0 ⊢
  clear hr hN
  go_upto_region 2 with (go_at_call 26; refine (HMO.out _ HK0.out).mono ?_; rintro e w2 ⟨rfl, hk⟩)
  have hk3 : Below w1.heap.size w1 (w2.alloc (.cells #[.int .u32 p, .int .i64 e] 29)) := more hk _
  have HX3 : Hid (Blk (w2.alloc (.cells #[.int .u32 p, .int .i64 e] 29)) w2.heap.size 29 #[.int .u32 p, .int .i64 e]) := Lib.hid (Blk.new _ _ _)
  have HK3 := Lib.hid (nest HK0.out hk3)
  have HR3 := Lib.hid (HR0.out.keep hk3)
  replace HMN := Lib.hid (fun z (hz : Below (w2.alloc (.cells #[.int .u32 p, .int .i64 e] 29)).heap.size (w2.alloc (.cells #[.int .u32 p, .int .i64 e] 29)) z) => HMN.out z (nest HK3.out hz))
  clear hk hk3 HK0 HR0 HMO
  generalize w2.alloc (.cells #[.int .u32 p, .int .i64 e] 29) = w3 at *
  obtain ⟨x, hx⟩ : ∃ x, x = w2.heap.size := ⟨_, rfl⟩
  rw [← hx] at HX3 ⊢
  clear hx
  have c1 : w3.drew.cell? ⟨x, 1, none⟩ = some (.int .i64 e) := HX3.out.cell 1
  cases is with
  | false =>
    have HRR : Hid (RES = ((0, 0), false)) := Lib.hid (by rw [HV.out, if_pos (.inl rfl)])
    obtain rfl := HRR.out
    refine Run.region_walk (S := fun z => z.cell? ⟨x, 1, none⟩ = some (.int .i64 e) ∧ Below w3.heap.size w3 z)
      rlight.rows2 rlight.plan2 (l := ?_) (by kernel_rfl) (by kernel_rfl) (by kernel_rfl) (by kernel_rfl) ?_ ⟨c1, (Below.refl _ _).drew⟩ ?_
    rotate_left
    (· simp only [rlight.plan2, Run.stepsOf, Run.stepOf, Run.guardOf, List.getElem?_toArray, List.getElem?_cons_zero, List.getElem?_cons_succ, Option.map_some, Option.map_none, Option.bind_some, Option.toList_some, List.map_cons, List.map_nil, List.cons_append, List.nil_append, List.append_eq]
       rfl)
    repeat ((first
      | (refine Run.takes (v := ?_) ?_ ?_; rotate_left; (· intro w' hS'; (first | (have h1 := hS'.1; go_simp; done) | (go_simp; (try with_reducible rfl)))))
      | (refine Run.takesG (v := ?_) ?_ ?_ ?_; rotate_left; (· simp only [List.getElem?_cons_zero, List.getElem?_cons_succ]); (· intro w' hS'; (first | (have h1 := hS'.1; go_simp; done) | (go_simp; (try with_reducible rfl)))))
      | (refine Run.skipsT ?_ ?_; (· simp only [List.getElem?_cons_zero, List.getElem?_cons_succ]))
      | (refine Run.skipsF ?_ ?_; (· simp only [List.getElem?_cons_zero, List.getElem?_cons_succ]))
      | (refine Run.skipsU ?_ ?_; (· simp only [List.getElem?_cons_zero, List.getElem?_cons_succ]))
      | (refine Run.passT ?_ ?_; (· simp only [List.getElem?_cons_zero, List.getElem?_cons_succ]))
      | (refine Run.passF ?_ ?_; (· simp only [List.getElem?_cons_zero, List.getElem?_cons_succ]))
      | (refine Run.passU ?_ ?_; (· simp only [List.getElem?_cons_zero, List.getElem?_cons_succ]))
      | (refine Run.runs ?_
         (first
         | (refine Run.callF 17 (by kernel_rfl) (fun hS => HMN.out _ hS.2) rfl ?_)
         | (refine Run.callG 17 (by kernel_rfl) ?_ (fun hS => HMN.out _ hS.2) rfl ?_; (· simp only [List.getElem?_cons_zero, List.getElem?_cons_succ]))
         | fail)
         (first
         | (rintro hS e w' ⟨rfl, rfl⟩; refine ⟨_, rfl, hS, ?_⟩)
         | (rintro hS e w' ⟨rfl, hb⟩; refine ⟨_, rfl, ⟨kc hb hS.1, nest hS.2 hb⟩, ?_⟩)
         | fail))
      | fail); simp only [Act.put, List.setIfInBounds_toArray, List.set_cons_zero, List.set_cons_succ])
    refine Run.ends (fun hS => ?_)
    have HK4 := Lib.hid (nest HK3.out hS.2)
    have HR4 := Lib.hid (HR3.out.keep hS.2)
    have HX4 := Lib.hid (HX3.out.keep hS.2)
    clear hS c1
    go_wp2_with (first | (refine at_store 2 rfl ?_; refine wpList_store_row rfl 29 (.tmp 2) (.tmp 22) rfl r #[.int .u32 0, .int .i64 0] rfl rfl 29 _ HR4.out ld_info rfl (ld_one _ _) ?_) | (refine at_load 4 rfl ?_; refine wpList_load_row rfl 29 (.tmp 4) rfl x rfl 29 _ (0, 0) _ HX4.out Try.underlying29 rfl ld_info ?_))
    (try simp only [Exit.inBlock, Exit.then])
    refine bodyPost_ret (results_blk_tmp (l := [.int .u32 0, .int .i64 0]) rfl Try.underlying29 ld_info rfl rfl (Blk.rowS HR4.out _)) rfl ?_
    exact ⟨rfl, HK4.out.trans ((Only.rowS _ _).below (by rw [HRE.out]; exact Nat.le_refl _) HK4.out.size)⟩
  | true =>
    have HEB := Lib.hid (HMM.out rfl)
    have hk1 : IntKind.u64.wrap e = e := by rw [IntKind.wrap_u64]; have := HEB.out; omega
    have hk2 : IntKind.u64.wrap (512 * e) = 512 * e := by rw [IntKind.wrap_u64]; have := HEB.out; omega
    by_cases hc : 512 * e ≥ m
    · have HRR : Hid (RES = ((0, 0), false)) := Lib.hid (by rw [HV.out, if_pos (.inr hc)])
      obtain rfl := HRR.out
      have hcd : decide (512 * e ≥ m) = true := by simpa using hc
      have hcd2 : decide (m ≤ 512 * e) = true := hcd
      refine Run.region_walk (S := fun z => z.cell? ⟨x, 1, none⟩ = some (.int .i64 e) ∧ Below w3.heap.size w3 z)
        rlight.rows2 rlight.plan2 (l := ?_) (by kernel_rfl) (by kernel_rfl) (by kernel_rfl) (by kernel_rfl) ?_ ⟨c1, (Below.refl _ _).drew⟩ ?_
      rotate_left
      (· simp only [rlight.plan2, Run.stepsOf, Run.stepOf, Run.guardOf, List.getElem?_toArray, List.getElem?_cons_zero, List.getElem?_cons_succ, Option.map_some, Option.map_none, Option.bind_some, Option.toList_some, List.map_cons, List.map_nil, List.cons_append, List.nil_append, List.append_eq]
         rfl)
      repeat ((first
        | (refine Run.takes (v := ?_) ?_ ?_; rotate_left; (· intro w' hS'; (first | (have h1 := hS'.1; go_simp; done) | (go_simp; (try with_reducible rfl)))))
        | (refine Run.takesG (v := ?_) ?_ ?_ ?_; rotate_left; (· simp only [List.getElem?_cons_zero, List.getElem?_cons_succ]); (· intro w' hS'; (first | (have h1 := hS'.1; go_simp; done) | (go_simp; (try with_reducible rfl)))))
        | (refine Run.skipsT ?_ ?_; (· simp only [List.getElem?_cons_zero, List.getElem?_cons_succ]))
        | (refine Run.skipsF ?_ ?_; (· simp only [List.getElem?_cons_zero, List.getElem?_cons_succ]))
        | (refine Run.skipsU ?_ ?_; (· simp only [List.getElem?_cons_zero, List.getElem?_cons_succ]))
        | (refine Run.passT ?_ ?_; (· simp only [List.getElem?_cons_zero, List.getElem?_cons_succ]))
        | (refine Run.passF ?_ ?_; (· simp only [List.getElem?_cons_zero, List.getElem?_cons_succ]))
        | (refine Run.passU ?_ ?_; (· simp only [List.getElem?_cons_zero, List.getElem?_cons_succ]))
        | (refine Run.runs ?_
           (first
           | (refine Run.callF 17 (by kernel_rfl) (fun hS => HMN.out _ hS.2) rfl ?_)
           | (refine Run.callG 17 (by kernel_rfl) ?_ (fun hS => HMN.out _ hS.2) rfl ?_; (· simp only [List.getElem?_cons_zero, List.getElem?_cons_succ]))
           | fail)
           (first
           | (rintro hS e w' ⟨rfl, rfl⟩; refine ⟨_, rfl, hS, ?_⟩)
           | (rintro hS e w' ⟨rfl, hb⟩; refine ⟨_, rfl, ⟨kc hb hS.1, nest hS.2 hb⟩, ?_⟩)
           | fail))
        | fail); simp only [Act.put, List.setIfInBounds_toArray, List.set_cons_zero, List.set_cons_succ])
      refine Run.ends (fun hS => ?_)
      have HK4 := Lib.hid (nest HK3.out hS.2)
      have HR4 := Lib.hid (HR3.out.keep hS.2)
      have HX4 := Lib.hid (HX3.out.keep hS.2)
      clear hS c1
      go_wp2_with (first | (refine at_store 2 rfl ?_; refine wpList_store_row rfl 29 (.tmp 2) (.tmp 22) rfl r #[.int .u32 0, .int .i64 0] rfl rfl 29 _ HR4.out ld_info rfl (ld_one _ _) ?_) | (refine at_load 4 rfl ?_; refine wpList_load_row rfl 29 (.tmp 4) rfl x rfl 29 _ (0, 0) _ HX4.out Try.underlying29 rfl ld_info ?_))
      (try simp only [Exit.inBlock, Exit.then])
      refine bodyPost_ret (results_blk_tmp (l := [.int .u32 0, .int .i64 0]) rfl Try.underlying29 ld_info rfl rfl (Blk.rowS HR4.out _)) rfl ?_
      exact ⟨rfl, HK4.out.trans ((Only.rowS _ _).below (by rw [HRE.out]; exact Nat.le_refl _) HK4.out.size)⟩
    · have HRR : Hid (RES = ((p, e), true)) := Lib.hid (by rw [HV.out, if_neg (by simp; omega)])
      obtain rfl := HRR.out
      have hcd : decide (512 * e ≥ m) = false := by simpa using hc
      have hcd2 : decide (m ≤ 512 * e) = false := hcd
      refine Run.region_walk (S := fun z => z.cell? ⟨x, 1, none⟩ = some (.int .i64 e) ∧ Below w3.heap.size w3 z)
        rlight.rows2 rlight.plan2 (l := ?_) (by kernel_rfl) (by kernel_rfl) (by kernel_rfl) (by kernel_rfl) ?_ ⟨c1, (Below.refl _ _).drew⟩ ?_
      rotate_left
      (· simp only [rlight.plan2, Run.stepsOf, Run.stepOf, Run.guardOf, List.getElem?_toArray, List.getElem?_cons_zero, List.getElem?_cons_succ, Option.map_some, Option.map_none, Option.bind_some, Option.toList_some, List.map_cons, List.map_nil, List.cons_append, List.nil_append, List.append_eq]
         rfl)
      repeat ((first
        | (refine Run.takes (v := ?_) ?_ ?_; rotate_left; (· intro w' hS'; (first | (have h1 := hS'.1; go_simp; done) | (go_simp; (try with_reducible rfl)))))
        | (refine Run.takesG (v := ?_) ?_ ?_ ?_; rotate_left; (· simp only [List.getElem?_cons_zero, List.getElem?_cons_succ]); (· intro w' hS'; (first | (have h1 := hS'.1; go_simp; done) | (go_simp; (try with_reducible rfl)))))
        | (refine Run.skipsT ?_ ?_; (· simp only [List.getElem?_cons_zero, List.getElem?_cons_succ]))
        | (refine Run.skipsF ?_ ?_; (· simp only [List.getElem?_cons_zero, List.getElem?_cons_succ]))
        | (refine Run.skipsU ?_ ?_; (· simp only [List.getElem?_cons_zero, List.getElem?_cons_succ]))
        | (refine Run.passT ?_ ?_; (· simp only [List.getElem?_cons_zero, List.getElem?_cons_succ]))
        | (refine Run.passF ?_ ?_; (· simp only [List.getElem?_cons_zero, List.getElem?_cons_succ]))
        | (refine Run.passU ?_ ?_; (· simp only [List.getElem?_cons_zero, List.getElem?_cons_succ]))
        | (refine Run.runs ?_
           (first
           | (refine Run.callF 17 (by kernel_rfl) (fun hS => HMN.out _ hS.2) rfl ?_)
           | (refine Run.callG 17 (by kernel_rfl) ?_ (fun hS => HMN.out _ hS.2) rfl ?_; (· simp only [List.getElem?_cons_zero, List.getElem?_cons_succ]))
           | fail)
           (first
           | (rintro hS e w' ⟨rfl, rfl⟩; refine ⟨_, rfl, hS, ?_⟩)
           | (rintro hS e w' ⟨rfl, hb⟩; refine ⟨_, rfl, ⟨kc hb hS.1, nest hS.2 hb⟩, ?_⟩)
           | fail))
        | fail); simp only [Act.put, List.setIfInBounds_toArray, List.set_cons_zero, List.set_cons_succ])
      refine Run.ends (fun hS => ?_)
      have HK4 := Lib.hid (nest HK3.out hS.2)
      have HR4 := Lib.hid (HR3.out.keep hS.2)
      have HX4 := Lib.hid (HX3.out.keep hS.2)
      clear hS c1
      go_wp2_with (first | (refine at_store 2 rfl ?_; refine wpList_store_row rfl 29 (.tmp 2) (.tmp 23) rfl r #[.int .u32 p, .int .i64 e] rfl rfl 29 _ HR4.out ld_info rfl (ld_one _ _) ?_) | (refine at_load 4 rfl ?_; refine wpList_load_row rfl 29 (.tmp 4) rfl x rfl 29 _ (0, 0) _ HX4.out Try.underlying29 rfl ld_info ?_))
      (try simp only [Exit.inBlock, Exit.then])
      refine bodyPost_ret (results_blk_tmp (l := [.int .u32 p, .int .i64 e]) rfl Try.underlying29 ld_info rfl rfl (Blk.rowS HR4.out _)) rfl ?_
      exact ⟨rfl, HK4.out.trans ((Only.rowS _ _).below (by rw [HRE.out]; exact Nat.le_refl _) HK4.out.size)⟩
end Go.Proofs.Ytgkmkpkbdmciiaa
