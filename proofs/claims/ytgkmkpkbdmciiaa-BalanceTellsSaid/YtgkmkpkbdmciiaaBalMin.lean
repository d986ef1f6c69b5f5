/- slices.MinFunc over loads; whether loads may be so (a map of the points that came). -/
import Derived.Test.YtgkmkpkbdmciiaaBalClo
set_option maxRecDepth 4000
namespace Go.Proofs.Ytgkmkpkbdmciiaa
open Go.RowKit Mem
set_option linter.unusedSimpArgs false
set_option linter.unusedVariables false
attribute [local irreducible] Go.Calls

set_option maxHeartbeats 2000000 in
set_option maxRecDepth 100000 in
theorem minld_any (fn : Nat) (more : Bool) (v : Value) (l : List Ld) (w : World) (h : Rd ldE w v l) (hpos : 0 < l.length) (hen : Run.enterable Try.prog fn = true)
    (hcmp : ∀ z a b, Calls Try.prog fn #[ldv a, ldv b] z fun e w' => e = .returned (.int .i64 (cmpL a b more)) ∧ Below z.heap.size z w') :
    Calls Try.prog 20 #[v, .func (.func fn) #[] #[]] w fun e w' => e = .returned (ldv (bestL l more (l.length - 1))) ∧ Below w.heap.size w w' := by
  obtain ⟨a, g, off, c, rfl, _, hc2, hga, hcs⟩ := h.loop2
  have hc2' : c ≤ 9223372036854775807 := hc2
  have HC := Lib.hid hcs
  have HCM := Lib.hid hcmp
  have HEN := Lib.hid hen
  obtain ⟨rfl, hgl⟩ := hga hpos
  have HGL := Lib.hid hgl
  clear h hcs hga hcmp hen hgl
  have hnl : ¬ ((l.length : Int) < 1) := by omega
  have hp0 : (0 : Int) < (l.length : Int) := by omega
  have HK0 : Hid (Below w.heap.size w (w.alloc (.cells #[.int .u32 0, .int .i64 0] 29))) := Lib.hid (more_one _ _)
  have HR0 : Hid (Blk (w.alloc (.cells #[.int .u32 0, .int .i64 0] 29)) w.heap.size 29 #[.int .u32 0, .int .i64 0]) := Lib.hid (Blk.new _ _ _)
  go_enter Try.func20, Try.ntmps20
  go_upto_region 1 with fail
  generalize w.alloc (.cells #[.int .u32 0, .int .i64 0] 29) = w2 at *
  obtain ⟨r, hr⟩ : ∃ r, r = w.heap.size := ⟨_, rfl⟩
  have HRE := Lib.hid hr
  rw [← hr] at HR0 ⊢
  clear hr
  obtain ⟨⟨p0, q0⟩, hpq⟩ : ∃ x, x = l.getD 0 (0, 0) := ⟨_, rfl⟩
  have HB0 : Hid ((p0, q0) = bestL l more 0) := Lib.hid hpq
  replace HC := Lib.hid (And.intro HC.out (HC.out 0 hpos))
  have e0 : w2.cell? ⟨g, off, none⟩ = some (.int .u32 p0) := by have := HC.out.2.1; rw [← hpq] at this; rw [Nat.zero_mul, Nat.add_zero] at this; exact (HK0.out.cell HGL.out).trans this
  have e1 : w2.cell? ⟨g, off + 1, none⟩ = some (.int .i64 q0) := by have := HC.out.2.2; rw [← hpq] at this; rw [Nat.zero_mul, Nat.add_zero] at this; exact (HK0.out.cell HGL.out).trans this
  clear hpq
  go_upto_region 4 with fail
  have hk3 : Below w2.heap.size w2 (w2.alloc (.cells #[.int .u32 p0, .int .i64 q0] 29)) := more_one _ _
  have HX3 : Hid (Blk (w2.alloc (.cells #[.int .u32 p0, .int .i64 q0] 29)) w2.heap.size 29 #[.int .u32 p0, .int .i64 q0]) := Lib.hid (Blk.new _ _ _)
  have HK3 := Lib.hid (nest HK0.out hk3)
  have HR3 := Lib.hid (HR0.out.keep hk3)
  have HXN : Hid (r < w2.heap.size ∧ w.heap.size ≤ w2.heap.size) := Lib.hid ⟨HR0.out.lt, HK0.out.size⟩
  clear hk3 e0 e1 HR0 HK0
  generalize w2.alloc (.cells #[.int .u32 p0, .int .i64 q0] 29) = w3 at *
  obtain ⟨x, hx⟩ : ∃ x, x = w2.heap.size := ⟨_, rfl⟩
  rw [← hx] at HX3 HXN ⊢
  clear hx hp0 hnl
  go_wp2_with fail
  go_loopw [6] (fun iv wr => ∃ i : Nat, i + 1 ≤ l.length ∧ iv = .int .i64 ((i + 1 : Nat) : Int) ∧ Blk wr x 29 #[.int .u32 (bestL l more i).1, .int .i64 (bestL l more i).2] ∧ Blk wr r 29 #[.int .u32 0, .int .i64 0] ∧ Below w.heap.size w wr) (fun iv _ => l.length - (intOf iv).toNat)
  case atStart => exact ⟨0, hpos, rfl, by rw [← HB0.out]; exact HX3.out, HR3.out, HK3.out⟩
  case round =>
    obtain ⟨i, hi, rfl, hx, hr, hb⟩ := hrel
    have HX := Lib.hid hx
    have HR := Lib.hid hr
    have HB := Lib.hid hb
    obtain ⟨wo, hwo⟩ : ∃ z, z = wr := ⟨_, rfl⟩
    rw [← hwo] at HX HR HB ⊢
    clear hx hr hb hwo
    by_cases hlt : i + 1 < l.length
    · have hil2 : ((i + 1 : Nat) : Int) < (l.length : Int) := by omega
      have f0 := (HC.out.1 (i + 1) hlt).1
      have f1 := (HC.out.1 (i + 1) hlt).2
      have HST : Hid (bestL l more (i + 1) = if betterV (l.getD (i + 1) (0, 0)) (bestL l more i) more then l.getD (i + 1) (0, 0) else bestL l more i) := Lib.hid rfl
      have HBT := Lib.hid (fun z => HCM.out z (l.getD (i + 1) (0, 0)) (bestL l more i))
      have HLT := cmpL_lt (l.getD (i + 1) (0, 0)) (bestL l more i) more
      obtain ⟨⟨p, q⟩, hpq⟩ : ∃ y, y = l.getD (i + 1) (0, 0) := ⟨_, rfl⟩
      rw [← hpq] at f0 f1 HST HBT HLT
      obtain ⟨⟨bp, bq⟩, hbb⟩ : ∃ y, y = bestL l more i := ⟨_, rfl⟩
      rw [← hbb] at HX HST HBT HLT
      dsimp only [ldv] at f0 f1 HX HBT
      obtain ⟨bt, hbt⟩ : ∃ b, b = betterV (p, q) (bp, bq) more := ⟨_, rfl⟩
      rw [← hbt] at HST HLT
      obtain ⟨cv, hcv⟩ : ∃ b, b = cmpL (p, q) (bp, bq) more := ⟨_, rfl⟩
      rw [← hcv] at HBT HLT
      obtain ⟨j, hj⟩ : ∃ j, j = i + 1 := ⟨_, rfl⟩
      rw [← hj] at f0 f1 hil2 ⊢
      have HJ := Lib.hid hj
      have f0' : wo.cell? ⟨g, off + j * 2, none⟩ = some (.int .u32 p) := (HB.out.cell (p := ⟨g, off + j * 2, none⟩) HGL.out).trans f0
      have f1' : wo.cell? ⟨g, off + j * 2 + 1, none⟩ = some (.int .i64 q) := (HB.out.cell (p := ⟨g, off + j * 2 + 1, none⟩) HGL.out).trans f1
      have HE := Lib.hid (And.intro f0' f1')
      have HLQ := Lib.hid HLT
      clear hpq hbb hbt hcv f0 f1 f0' f1' hlt hi hj HLT
      go_upto_region 7 with fail
      refine Run.region_walk (S := fun z => z.cell? ⟨g, off + j * 2, none⟩ = some (.int .u32 p) ∧ z.cell? ⟨g, off + j * 2 + 1, none⟩ = some (.int .i64 q) ∧ Blk z x 29 #[.int .u32 bp, .int .i64 bq] ∧ Blk z r 29 #[.int .u32 0, .int .i64 0] ∧ Below w.heap.size w z)
        bcmin.rows6 bcmin.plan6 (l := ?steps1) (by kernel_rfl) (by kernel_rfl) (by kernel_rfl) (by kernel_rfl) ?written1 ⟨HE.out.1, HE.out.2, HX.out.keep (Below.refl _ _).drew, HR.out.keep (Below.refl _ _).drew, HB.out.drew⟩ ?onward1
      case written1 =>
        simp only [bcmin.plan6, Run.stepsOf, Run.stepOf, Run.guardOf, List.getElem?_toArray, List.getElem?_cons_zero, List.getElem?_cons_succ, Option.map_some, Option.map_none, Option.bind_some, Option.toList_some, List.map_cons, List.map_nil, List.cons_append, List.nil_append, List.append_eq]
        rfl
      repeat ((first
        | (refine Run.takes (v := ?_) ?_ ?_; rotate_left; (· intro w' hS'; (first | (refine exec_load_blk (n := 2) (x := .tmp 5) (l := [.int .u32 bp, .int .i64 bq]) ?_ Try.underlying29 ld_info ?_ ?_ hS'.2.2.1 <;> rfl) | (have h1 := hS'.1; have h2 := hS'.2.1; go_simp; done) | (go_simp; (try with_reducible rfl)))))
        | (refine Run.takesG (v := ?_) ?_ ?_ ?_; rotate_left; (· simp only [List.getElem?_cons_zero, List.getElem?_cons_succ]); (· intro w' hS'; (first | (refine exec_load_blk (n := 2) (x := .tmp 5) (l := [.int .u32 bp, .int .i64 bq]) ?_ Try.underlying29 ld_info ?_ ?_ hS'.2.2.1 <;> rfl) | (have h1 := hS'.1; have h2 := hS'.2.1; go_simp; done) | (go_simp; (try with_reducible rfl)))))
        | (refine Run.skipsT ?_ ?_; (· simp only [List.getElem?_cons_zero, List.getElem?_cons_succ]))
        | (refine Run.skipsF ?_ ?_; (· simp only [List.getElem?_cons_zero, List.getElem?_cons_succ]))
        | (refine Run.skipsU ?_ ?_; (· simp only [List.getElem?_cons_zero, List.getElem?_cons_succ]))
        | (refine Run.passT ?_ ?_; (· simp only [List.getElem?_cons_zero, List.getElem?_cons_succ]))
        | (refine Run.passF ?_ ?_; (· simp only [List.getElem?_cons_zero, List.getElem?_cons_succ]))
        | (refine Run.passU ?_ ?_; (· simp only [List.getElem?_cons_zero, List.getElem?_cons_succ]))
        | fail); simp only [Act.put, List.setIfInBounds_toArray, List.set_cons_zero, List.set_cons_succ])
      refine Run.runs (Run.callV fn rfl HEN.out (fun hS => HBT.out _) rfl ?_)
      rintro hS e w' ⟨rfl, hb⟩
      refine ⟨_, rfl, ⟨kc hb hS.1, kc hb hS.2.1, hS.2.2.1.keep hb, hS.2.2.2.1.keep hb, nest hS.2.2.2.2 hb⟩, ?_⟩
      simp only [Act.put, List.setIfInBounds_toArray, List.set_cons_zero, List.set_cons_succ]
      clear hS hb
      repeat ((first
        | (refine Run.takes (v := ?_) ?_ ?_; rotate_left; (· intro w' hS'; go_simp; (try with_reducible rfl)))
        | (refine Run.takesG (v := ?_) ?_ ?_ ?_; rotate_left; (· simp only [List.getElem?_cons_zero, List.getElem?_cons_succ]); (· intro w' hS'; go_simp; (try with_reducible rfl)))
        | (refine Run.skipsT ?_ ?_; (· simp only [List.getElem?_cons_zero, List.getElem?_cons_succ]))
        | (refine Run.skipsF ?_ ?_; (· simp only [List.getElem?_cons_zero, List.getElem?_cons_succ]))
        | (refine Run.skipsU ?_ ?_; (· simp only [List.getElem?_cons_zero, List.getElem?_cons_succ]))
        | (refine Run.passT ?_ ?_; (· simp only [List.getElem?_cons_zero, List.getElem?_cons_succ]))
        | (refine Run.passF ?_ ?_; (· simp only [List.getElem?_cons_zero, List.getElem?_cons_succ]))
        | (refine Run.passU ?_ ?_; (· simp only [List.getElem?_cons_zero, List.getElem?_cons_succ]))
        | fail); simp only [Act.put, List.setIfInBounds_toArray, List.set_cons_zero, List.set_cons_succ])
      refine Run.ends (fun hS => ?_)
      obtain ⟨wi, hwi⟩ : ∃ z, z = w' := ⟨_, rfl⟩
      rw [← hwi] at hS ⊢
      have h1 := hS.1
      have h2 := hS.2.1
      have HX5 := Lib.hid hS.2.2.1
      have HR5 := Lib.hid hS.2.2.2.1
      have HB5 := Lib.hid hS.2.2.2.2
      clear hS hwi HX HR HB HE
      cases bt with
      | true =>
        have hcl : cv < 0 := HLQ.out.2 rfl
        go_wp2_with (refine at_store 5 rfl ?_; refine wpList_store_row rfl 29 (.tmp 5) (.tmp 31) rfl x #[.int .u32 p, .int .i64 q] rfl rfl 29 _ HX5.out ld_info rfl (ld_one _ _) ?_)
        have HX6 : Hid (Blk (wi.setRow x #[.int .u32 p, .int .i64 q]) x 29 #[.int .u32 p, .int .i64 q]) := Lib.hid (Blk.rowS HX5.out _)
        have HR6 : Hid (Blk (wi.setRow x #[.int .u32 p, .int .i64 q]) r 29 #[.int .u32 0, .int .i64 0]) := Lib.hid (HR5.out.only (Only.rowS _ _) (by have := HXN.out; omega))
        have HB6 : Hid (Below w.heap.size w (wi.setRow x #[.int .u32 p, .int .i64 q])) := Lib.hid (HB5.out.trans ((Only.rowS _ _).below HXN.out.2 HB5.out.size))
        clear h1 h2 hcl
        exact ⟨⟨i + 1, by have := HJ.out; omega, by rw [HJ.out]; go_num, by rw [HST.out, if_pos rfl]; exact HX6.out, HR6.out, HB6.out⟩, by simp [intOf]; omega⟩
      | false =>
        have hcl : ¬ cv < 0 := fun h => Bool.noConfusion (HLQ.out.1 h)
        clear h1 h2
        go_wp2_with fail
        exact ⟨⟨i + 1, by have := HJ.out; omega, by rw [HJ.out]; go_num, by rw [HST.out, if_neg (by simp)]; exact HX5.out, HR5.out, HB5.out⟩, by simp [intOf]; omega⟩
    · have hil : i = l.length - 1 := by omega
      have HFX : Hid (Blk wo x 29 #[.int .u32 (bestL l more (l.length - 1)).1, .int .i64 (bestL l more (l.length - 1)).2]) := Lib.hid (by rw [← hil]; exact HX.out)
      have hj : i + 1 = l.length := by omega
      rw [hj]
      obtain ⟨⟨bp, bq⟩, hbb⟩ : ∃ y, y = bestL l more (l.length - 1) := ⟨_, rfl⟩
      rw [← hbb] at HFX
      have HBBQ := Lib.hid hbb
      dsimp only at HFX
      clear hil hj hlt hi hbb
      have c0 := HFX.out.cell 0
      have c1 := HFX.out.cell 1
      go_wp2_with (refine at_store 4 rfl ?_; refine wpList_store_row rfl 29 (.tmp 4) (.tmp 32) rfl r #[.int .u32 bp, .int .i64 bq] rfl rfl 29 _ HR.out ld_info rfl (ld_one _ _) ?_)
      (try simp only [Exit.inBlock, Exit.then])
      refine bodyPost_ret (results_blk (l := [.int .u32 bp, .int .i64 bq]) rfl Try.underlying29 ld_info rfl rfl (Blk.rowS HR.out _)) rfl ?_
      exact ⟨by rw [← HBBQ.out], HB.out.trans ((Only.rowS _ _).below (by rw [HRE.out]; exact Nat.le_refl _) HB.out.size)⟩

/-! ### may loads be? -/
def pvc (p : Int) : Value × Value := (.int .u32 p, .agg #[])
abbrev PsAt (w : World) (g : Nat) (M : List Int) : Prop := MapAt Try.prog 27 pvc w g M
theorem ps_zero (w : World) : (zeroValue 60).run Try.prog w = .ok (.agg #[]) w := by kernel_rfl
theorem PsAt.yes {w : World} {g : Nat} {M : List Int} (h : PsAt w g M) {p : Int} (hp : 0 ≤ p ∧ p ≤ 4294967295) (hm : p ∈ M) : (Instr.lookup 59 (.map (some g)) (.int .u32 p) true).run Try.prog w = .ok (.tuple #[.agg #[], .bool true]) w := by
  rcases h.look u32K Try.underlying59 (ps_zero w) (u32key hp) with ⟨a, ha, e, hr⟩ | ⟨hno, _⟩
  · exact hr
  · exact absurd rfl (hno p hm)
theorem PsAt.no {w : World} {g : Nat} {M : List Int} (h : PsAt w g M) {p : Int} (hp : 0 ≤ p ∧ p ≤ 4294967295) (hm : p ∉ M) : (Instr.lookup 59 (.map (some g)) (.int .u32 p) true).run Try.prog w = .ok (.tuple #[.agg #[], .bool false]) w := by
  rcases h.look u32K Try.underlying59 (ps_zero w) (u32key hp) with ⟨a, ha, e, hr⟩ | ⟨_, hr⟩
  · have e : a = p := by simpa [pvc] using e
    exact absurd (e ▸ ha) hm
  · exact hr
set_option maxHeartbeats 2000000 in
set_option maxRecDepth 100000 in
theorem bmay_any (v : Value) (l : List Ld) (w : World) (h : Rd ldE w v l) (hb : ∀ x ∈ l, okLd x) : Calls Try.prog 19 #[v] w fun e w' => e = .returned (.bool (mayB l)) ∧ Below w.heap.size w w' := by
  obtain ⟨a, g, off, c, rfl, _, hc2, hga, hcs⟩ := h.loop2
  have hc2' : c ≤ 9223372036854775807 := hc2
  have HC := Lib.hid hcs
  have HG := Lib.hid hga
  have HBD : Hid (∀ i, i < l.length → 0 ≤ (l.getD i (0, 0)).1 ∧ (l.getD i (0, 0)).1 ≤ 4294967295) := Lib.hid (fun i hi => by
    rw [show l.getD i (0, 0) = l[i] by simp [List.getD, hi]]; exact (hb _ (List.getElem_mem hi)).1)
  clear h hcs hga hb
  obtain ⟨RES, hRES⟩ : ∃ x, x = mayB l := ⟨_, rfl⟩
  rw [← hRES]
  have HRES := Lib.hid hRES
  clear hRES
  have HM0 : Hid (PsAt (w.alloc (.map #[] 0)) w.heap.size []) := Lib.hid (MapAt.made w)
  have HK0 : Hid (Below w.heap.size w (w.alloc (.map #[] 0))) := Lib.hid (more_one _ _)
  have hmk := run_makeMap_none (P := Try.prog) (t := 59) Try.underlying59
  go_enter Try.func19, Try.ntmps19
  go_upto_region 2 with fail
  generalize w.alloc (.map #[] 0) = w1 at *
  obtain ⟨m, hmN⟩ : ∃ r, r = w.heap.size := ⟨_, rfl⟩
  have HMN := Lib.hid hmN
  rw [← hmN] at HM0 ⊢
  clear hmN hmk
  go_wp2_with fail
  go_loopw [11] (fun iv wr => ∃ i : Nat, i ≤ l.length ∧ iv = .int .i64 i ∧ Hid (∀ j, j < i → (0 ≤ (l.getD j (0, 0)).2 ∧ (l.getD j (0, 0)).2 ≤ 2147483647) ∧ ∀ k, k < j → (l.getD k (0, 0)).1 ≠ (l.getD j (0, 0)).1) ∧ Hid (∃ M, PsAt wr m M ∧ ∀ q, q ∈ M ↔ ∃ j, j < i ∧ (l.getD j (0, 0)).1 = q) ∧ Hid (Below w.heap.size w wr)) (fun iv _ => l.length - (intOf iv).toNat)
  case atStart => exact ⟨0, by omega, rfl, Lib.hid (fun j hj => absurd hj (Nat.not_lt_zero _)), Lib.hid ⟨[], HM0.out, fun q => by simp⟩, Lib.hid HK0.out⟩
  case round =>
    obtain ⟨i, hi, rfl, HNO, HMP, HB⟩ := hrel
    obtain ⟨wo, hwo⟩ : ∃ z, z = wr := ⟨_, rfl⟩
    rw [← hwo] at HB HMP ⊢
    clear hwo HM0 HK0
    by_cases hlt : i < l.length
    · have hil : (i : Int) < (l.length : Int) := by omega
      obtain ⟨rfl, _⟩ := HG.out (by omega)
      have d0 := kc HB.out (HC.out i hlt).1
      have d1 := kc HB.out (HC.out i hlt).2
      have HPB := Lib.hid (HBD.out i hlt)
      obtain ⟨⟨p, e⟩, hpe⟩ : ∃ x, x = l.getD i (0, 0) := ⟨_, rfl⟩
      have HPE := Lib.hid hpe
      rw [← hpe] at d0 d1 HPB
      dsimp only at d0 d1 HPB
      clear hpe
      have HK2 : Hid (Below w.heap.size w (wo.alloc (.cells #[.int .u32 p, .int .i64 e] 29))) := Lib.hid (nest HB.out (more_one _ _))
      have HX2 : Hid (Blk (wo.alloc (.cells #[.int .u32 p, .int .i64 e] 29)) wo.heap.size 29 #[.int .u32 p, .int .i64 e]) := Lib.hid (Blk.new _ _ _)
      have HMP2 : Hid (∃ M, PsAt (wo.alloc (.cells #[.int .u32 p, .int .i64 e] 29)) m M ∧ ∀ q, q ∈ M ↔ ∃ j, j < i ∧ (l.getD j (0, 0)).1 = q) := Lib.hid (by obtain ⟨M, h1, h2⟩ := HMP.out; exact ⟨M, h1.keep (more_one _ _), h2⟩)
      go_upto_region 5 with fail
      clear d0 d1 HMP HB
      generalize wo.alloc (.cells #[.int .u32 p, .int .i64 e] 29) = w3 at *
      obtain ⟨x, hx⟩ : ∃ x, x = wo.heap.size := ⟨_, rfl⟩
      rw [← hx] at HX2 ⊢
      clear hx
      have c0 := HX2.out.cell 0
      have c1 := HX2.out.cell 1
      by_cases hneg : e < 0
      · have hn2 : decide (e < 0) = true := by simpa using hneg
        have HF : Hid (RES = false) := Lib.hid (by
          rw [HRES.out]
          cases hq : mayB l with
          | false => rfl
          | true => have := ((mayB_iff.1 hq).1 i hlt).1; rw [← HPE.out] at this; dsimp only at this; omega)
        go_wp2_with fail
        go_ret
        exact ⟨by rw [HF.out]; rfl, HK2.out⟩
      have hn2 : decide (e < 0) = false := by simpa using hneg
      by_cases hbig : e > 2147483647
      · have hn3 : decide (e > 2147483647) = true := by simpa using hbig
        have HF : Hid (RES = false) := Lib.hid (by
          rw [HRES.out]
          cases hq : mayB l with
          | false => rfl
          | true => have := ((mayB_iff.1 hq).1 i hlt).2; rw [← HPE.out] at this; dsimp only at this; omega)
        go_wp2_with fail
        go_ret
        exact ⟨by rw [HF.out]; rfl, HK2.out⟩
      have hn3 : decide (e > 2147483647) = false := by simpa using hbig
      have HEB : Hid (0 ≤ e ∧ e ≤ 2147483647) := Lib.hid (by omega)
      go_upto_region 7 with fail
      clear hneg hbig hn2 hn3
      obtain ⟨M, hM, hMm⟩ := HMP2.out
      have HMM := Lib.hid hM
      have HMQ := Lib.hid hMm
      clear hM hMm
      by_cases hin : p ∈ M
      · have hlook := PsAt.yes HMM.out HPB.out hin
        have HF : Hid (RES = false) := Lib.hid (by
          rw [HRES.out]
          cases hq : mayB l with
          | false => rfl
          | true =>
            obtain ⟨j, hj, e2⟩ := (HMQ.out p).1 hin
            exact absurd (by rw [e2, ← HPE.out]) ((mayB_iff.1 hq).2 i j hlt hj))
        clear hin
        go_wp2_with fail
        go_ret
        exact ⟨by rw [HF.out]; rfl, more HK2.out _⟩
      · have hlook := PsAt.no HMM.out HPB.out hin
        have HIN := Lib.hid hin
        clear hin
        go_upto_region 10 with fail
        have hk4 : Below w3.heap.size w3 (w3.alloc (.cells #[] 60)) := more_one _ _
        have HM4 := Lib.hid (HMM.out.keep hk4)
        have HX4 := Lib.hid (HX2.out.keep hk4)
        have HK4 := Lib.hid (nest HK2.out hk4)
        clear hk4 HMM HX2 HK2 HMP2 c0 c1 hlook
        generalize w3.alloc (.cells #[] 60) = w4 at *
        have c0 := HX4.out.cell 0
        go_wp2_with (refine wpList_store_map rfl rfl u32K Try.underlying59 rfl HM4.out p rfl rfl (u32key HPB.out) ?_; intro w5 M5 hm5 hq5 ho5)
        have HK5 : Hid (Below w.heap.size w w5) := Lib.hid (HK4.out.trans (ho5.below (by rw [HMN.out]; exact Nat.le_refl _) HK4.out.size))
        exact ⟨⟨i + 1, by omega, by go_num, Lib.hid (fun j hj => by
          rcases Nat.lt_or_ge j i with h | h
          · exact HNO.out j h
          · have hji : j = i := by omega
            subst hji
            rw [← HPE.out]
            exact ⟨HEB.out, fun k hk e2 => HIN.out ((HMQ.out p).2 ⟨k, hk, e2⟩)⟩), Lib.hid ⟨M5, hm5, fun q => by
          rw [hq5 q, HMQ.out q]
          constructor
          · rintro (rfl | ⟨⟨j, hj, e2⟩, _⟩)
            · exact ⟨i, by omega, by rw [← HPE.out]⟩
            · exact ⟨j, by omega, e2⟩
          · rintro ⟨j, hj, e2⟩
            rcases Nat.lt_or_ge j i with h | h
            · by_cases hqp : q = p
              · exact .inl hqp
              · exact .inr ⟨⟨j, h, e2⟩, by simpa [pvc] using hqp⟩
            · have hji : j = i := by omega
              subst hji
              rw [← HPE.out] at e2
              exact .inl e2.symm⟩, HK5⟩, by simp [intOf]; omega⟩
    · have hil : i = l.length := by omega
      subst hil
      have HT : Hid (RES = true) := Lib.hid (by rw [HRES.out]; exact mayB_iff.2 ⟨fun j hj => (HNO.out j hj).1, fun j k hj hk => (HNO.out j hj).2 k hk⟩)
      go_wp2_with fail
      go_ret
      exact ⟨by rw [HT.out]; rfl, HB.out⟩
end Go.Proofs.Ytgkmkpkbdmciiaa
