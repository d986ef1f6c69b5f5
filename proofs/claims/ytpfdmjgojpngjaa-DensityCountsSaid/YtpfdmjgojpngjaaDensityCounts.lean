/- Walk of the law DensityCounts. -/
import Derived.Test.YtpfdmjgojpngjaaDnLaw
import Derived.Test.YtpfdmjgojpngjaaDnMath3
set_option maxRecDepth 4000
namespace Go.Proofs.Ytpfdmjgojpngjaa.densityCounts
open Go.RowKit Mem Cir
set_option linter.unusedSimpArgs false
set_option linter.unusedVariables false
attribute [local irreducible] Go.Calls

set_option maxRecDepth 100000 in
set_option maxHeartbeats 8000000 in
theorem walk (v : Value) (l : List Ent) (x : Int) (bx : 0 ≤ x ∧ x ≤ 4294967295) (y : Int) (by' : 0 ≤ y ∧ y ≤ 4294967295) (w : World) (h1 : entsK.rd w [v] l) :
    Calls Try.prog 5 #[v, .int .u32 x, .int .u32 y] w fun e w' => e = .returned (.bool true) ∧ Below w.heap.size w w' := by
  obtain ⟨hE, hEB⟩ := ents_of_kd h1
  have HE := Lib.hid hE
  have HEB := Lib.hid hEB
  obtain ⟨a1, g1, o1, c1, rfl, _, hc2, hga, hcs⟩ := hE.at
  have hc2' : c1 ≤ 9223372036854775807 := hc2
  have HCS := Lib.hid hcs
  have HGA := Lib.hid hga
  have HFEW := Lib.hid (dfew_any _ _ l w hE)
  clear h1 hE hEB hcs hga
  obtain ⟨fw, hfw⟩ : ∃ b, b = fewD l := ⟨_, rfl⟩
  rw [← hfw] at HFEW
  have HFW := Lib.hid hfw
  obtain ⟨F, hF⟩ : ∃ F, F = x % 16 := ⟨_, rfl⟩
  obtain ⟨M, hM⟩ : ∃ M, M = 1 + y % 15 := ⟨_, rfl⟩
  have HFB : Hid ((0 ≤ F ∧ F ≤ 15) ∧ 1 ≤ M ∧ M ≤ 15) := Lib.hid (by omega)
  have hx : x.tmod 16 = F := by rw [Int.tmod_eq_emod_of_nonneg bx.1]; exact hF.symm
  have hy : y.tmod 15 = y % 15 := by rw [Int.tmod_eq_emod_of_nonneg by'.1]
  have hy2 : (1 + y % 15) % 4294967296 = M := by omega
  clear hfw hF
  go_enter Try.func5, Try.ntmps5
  cases fw with
  | false =>
    go_upto_region 2 with (go_at_call 8; refine HFEW.out.mono ?_; rintro e w1 ⟨rfl, hk⟩)
    have HK1 := Lib.hid hk
    clear hk
    go_wp2_with (go_at_call 9; refine (dawake_any w1).mono ?_; rintro e w2 ⟨rfl, hk⟩)
    go_ret
    exact ⟨rfl, nest HK1.out hk⟩
  | true =>
    have HF := Lib.hid (fewd_yes.1 HFW.out.symm)
    have hl60 : l.length ≤ 60 := HF.out.1
    go_upto_region 4 with (go_at_call 8; refine HFEW.out.mono ?_; rintro e w1 ⟨rfl, hk⟩)
    have HK1 := Lib.hid hk
    clear hk HFEW hx hy hy2 bx by'
    rw [← hM]
    clear hM
    have hF0 := HFB.out.1
    have hM0 := HFB.out.2
    go_upto_region 6 with fail
    obtain ⟨S1, hS1⟩ : ∃ S, S = (F * 268435456 - 1) % 4294967296 := ⟨_, rfl⟩
    obtain ⟨S2, hS2⟩ : ∃ S, S = ((F + M) * 268435456 - 1) % 4294967296 := ⟨_, rfl⟩
    rw [← hS1, ← hS2]
    have HS1 : Hid (S1 = (268435456 * F - 1) % 4294967296) := Lib.hid (by omega)
    have HS2 : Hid (S2 = (268435456 * (F + M) - 1) % 4294967296) := Lib.hid (by omega)
    have HSB : Hid ((0 ≤ S1 ∧ S1 ≤ 4294967295) ∧ 0 ≤ S2 ∧ S2 ≤ 4294967295) := Lib.hid (by omega)
    have HLAW := Lib.hid (count_laws (s := (S1, S2)) HFB.out.1 HFB.out.2 HS1.out HS2.out l HEB.out (by omega))
    clear hS1 hS2 hF0 hM0
    obtain ⟨W2, hW2⟩ : ∃ x, x = w1.alloc (.cells #[.int .u32 S1, .int .u32 S2] 28) := ⟨_, rfl⟩
    have hk2 : Below w1.heap.size w1 W2 := hW2 ▸ more (Below.refl _ _) _
    have HQ : Hid (Blk W2 w1.heap.size 28 #[.int .u32 S1, .int .u32 S2]) := Lib.hid (by rw [hW2]; exact Blk.new _ _ _)
    have HK2 := Lib.hid (nest HK1.out hk2)
    rw [← hW2]
    obtain ⟨q, hq⟩ : ∃ q, q = w1.heap.size := ⟨_, rfl⟩
    rw [← hq] at HQ ⊢
    clear hW2 hq hk2 HK1
    go_wp2_with fail
    go_loopw [8, 9, 10] (fun a b iv wr => ∃ i : Nat, i ≤ l.length ∧ a = .int .u64 (liveN (l.take i) : Nat) ∧ b = .int .u64 (inN (S1, S2) (l.take i) : Nat) ∧ iv = .int .i64 i ∧ Below W2.heap.size W2 wr) (fun _ _ iv _ => l.length - (intOf iv).toNat)
    case atStart => exact ⟨0, by omega, rfl, rfl, rfl, Below.refl _ _⟩
    case round =>
      obtain ⟨i, hi, rfl, rfl, rfl, hb⟩ := hrel
      have HB := Lib.hid hb
      obtain ⟨wo, hwo⟩ : ∃ z, z = wr := ⟨_, rfl⟩
      rw [← hwo] at HB ⊢
      clear hb hwo
      have HLV : Hid (liveN (l.take i) ≤ 60 ∧ inN (S1, S2) (l.take i) ≤ 60) := Lib.hid (by
        have a1 : (l.take i).length ≤ 60 := by rw [List.length_take]; omega
        have a2 := List.length_filter_le (fun y : Ent => !y.2.2) (l.take i)
        have a3 := List.length_filter_le (fun y : Ent => !y.2.2 && decide (beh S1 y.1 ≤ beh S1 S2)) (l.take i)
        exact ⟨Nat.le_trans a2 a1, Nat.le_trans a3 a1⟩)
      by_cases hlt : i < l.length
      · have hil : (i : Int) < (l.length : Int) := by omega
        obtain ⟨rfl, _, hgl⟩ := HGA.out (by omega)
        obtain ⟨xx, k0, _, _, _, k4, _, _⟩ := HCS.out i hlt
        have d0 := (nest HK2.out HB.out).cell (p := ⟨g1, o1 + i * 5, none⟩) hgl |>.trans k0
        have d4 := (nest HK2.out HB.out).cell (p := ⟨g1, o1 + i * 5 + 4, none⟩) hgl |>.trans k4
        have HSL := Lib.hid (live_step hlt)
        have HSI := Lib.hid (in_step (s := (S1, S2)) hlt)
        have HBY : Hid (0 ≤ (l.getD i e0).1 ∧ (l.getD i e0).1 ≤ 4294967295) := Lib.hid (HEB.out _ (by rw [show l.getD i e0 = l[i] by simp [List.getD, hlt]]; exact List.getElem_mem hlt)).1
        obtain ⟨⟨u, qr, qg⟩, hq⟩ : ∃ y, y = l.getD i e0 := ⟨_, rfl⟩
        rw [← hq] at d0 d4 HSL HSI HBY
        dsimp only at d0 d4 HBY HSL HSI
        clear hq k0 k4 hgl
        generalize liveN (l.take i) = lv at *
        generalize inN (S1, S2) (l.take i) = nv at *
        have HLL : Hid (lv ≤ 60 ∧ nv ≤ 60) := HLV
        cases qg with
        | true =>
          have e1 : Hid (liveN (l.take (i + 1)) = lv) := Lib.hid (by rw [HSL.out]; rfl)
          have e2 : Hid (inN (S1, S2) (l.take (i + 1)) = nv) := Lib.hid (by rw [HSI.out]; rfl)
          go_wp2_with fail
          exact ⟨⟨i + 1, by omega, by rw [e1.out], by rw [e2.out], by go_num, HB.out⟩, by simp [intOf]; omega⟩
        | false =>
          have hlw : IntKind.u64.wrap ((lv : Int) + 1) = (lv : Int) + 1 := by rw [IntKind.wrap_u64]; have := HLL.out; omega
          have hnw : IntKind.u64.wrap ((nv : Int) + 1) = (nv : Int) + 1 := by rw [IntKind.wrap_u64]; have := HLL.out; omega
          have e1 : Hid (liveN (l.take (i + 1)) = lv + 1) := Lib.hid (by rw [HSL.out]; rfl)
          have HHAS := Lib.hid (fun z => rhas_any S1 S2 u HSB.out.1 HSB.out.2 HBY.out z)
          obtain ⟨hbq, hhb⟩ : ∃ b, b = decide (beh S1 u ≤ beh S1 S2) := ⟨_, rfl⟩
          have e2 : Hid (inN (S1, S2) (l.take (i + 1)) = nv + (if hbq then 1 else 0)) := Lib.hid (by rw [HSI.out, hhb]; rfl)
          rw [← hhb] at HHAS
          clear hhb
          have c0 : wo.drew.cell? ⟨q, 0, none⟩ = some (.int .u32 S1) := (HQ.out.keep HB.out).cell 0
          have c1 : wo.drew.cell? ⟨q, 1, none⟩ = some (.int .u32 S2) := (HQ.out.keep HB.out).cell 1
          have dd0 : wo.drew.cell? ⟨g1, o1 + i * 5, none⟩ = some (.int .u32 u) := d0
          go_upto_region 11 with fail
          clear d0 d4
          refine Run.region_walk (S := fun z => z.cell? ⟨q, 0, none⟩ = some (.int .u32 S1) ∧ z.cell? ⟨q, 1, none⟩ = some (.int .u32 S2) ∧ z.cell? ⟨g1, o1 + i * 5, none⟩ = some (.int .u32 u) ∧ Below W2.heap.size W2 z)
            ldcounts.rows10 ldcounts.plan10 (l := ?steps1) (by kernel_rfl) (by kernel_rfl) (by kernel_rfl) (by kernel_rfl) ?written1 ⟨c0, c1, dd0, HB.out.drew⟩ ?onward1
          case written1 =>
            simp only [ldcounts.plan10, Run.stepsOf, Run.stepOf, Run.guardOf, List.getElem?_toArray, List.getElem?_cons_zero, List.getElem?_cons_succ, Option.map_some, Option.map_none, Option.bind_some, Option.toList_some, List.map_cons, List.map_nil, List.cons_append, List.nil_append, List.append_eq]
            rfl
          repeat ((first
            | (refine Run.takes (v := ?_) ?_ ?_; rotate_left; (· intro w' hS'; (first | (have h1 := hS'.1; have h2 := hS'.2.1; have h3 := hS'.2.2.1; go_simp; done) | (go_simp; (try with_reducible rfl)))))
            | (refine Run.takesG (v := ?_) ?_ ?_ ?_; rotate_left; (· simp only [List.getElem?_cons_zero, List.getElem?_cons_succ]); (· intro w' hS'; (first | (have h1 := hS'.1; have h2 := hS'.2.1; have h3 := hS'.2.2.1; go_simp; done) | (go_simp; (try with_reducible rfl)))))
            | (refine Run.skipsT ?_ ?_; (· simp only [List.getElem?_cons_zero, List.getElem?_cons_succ]))
            | (refine Run.skipsF ?_ ?_; (· simp only [List.getElem?_cons_zero, List.getElem?_cons_succ]))
            | (refine Run.skipsU ?_ ?_; (· simp only [List.getElem?_cons_zero, List.getElem?_cons_succ]))
            | (refine Run.passT ?_ ?_; (· simp only [List.getElem?_cons_zero, List.getElem?_cons_succ]))
            | (refine Run.passF ?_ ?_; (· simp only [List.getElem?_cons_zero, List.getElem?_cons_succ]))
            | (refine Run.passU ?_ ?_; (· simp only [List.getElem?_cons_zero, List.getElem?_cons_succ]))
            | (refine Run.runs ?_
               (first
               | (refine Run.callF 22 (by kernel_rfl) (fun hS => HHAS.out _) rfl ?_)
               | (refine Run.callG 22 (by kernel_rfl) ?_ (fun hS => HHAS.out _) rfl ?_; (· simp only [List.getElem?_cons_zero, List.getElem?_cons_succ]))
               | fail)
               (first
               | (rintro hS e w' ⟨rfl, rfl⟩; refine ⟨_, rfl, hS, ?_⟩)
               | (rintro hS e w' ⟨rfl, hb⟩; refine ⟨_, rfl, ⟨kc hb hS.1, kc hb hS.2.1, kc hb hS.2.2.1, nest hS.2.2.2 hb⟩, ?_⟩)
               | fail))
            | fail); simp only [Act.put, List.setIfInBounds_toArray, List.set_cons_zero, List.set_cons_succ])
          refine Run.ends (fun hS => ?_)
          have HB5 := Lib.hid hS.2.2.2
          clear hS c0 c1 dd0
          cases hbq with
          | true =>
            go_wp2_with fail
            exact ⟨⟨i + 1, by omega, by rw [e1.out]; rfl, by rw [e2.out]; rfl, by go_num, HB5.out⟩, by simp [intOf]; omega⟩
          | false =>
            go_wp2_with fail
            exact ⟨⟨i + 1, by omega, by rw [e1.out]; rfl, by rw [e2.out]; rfl, by go_num, HB5.out⟩, by simp [intOf]; omega⟩
      · have hil : i = l.length := by omega
        subst hil
        rw [List.take_length]
        have HLW1 : Hid (allD (countD l) = (liveN l : Int)) := Lib.hid HLAW.out.1
        have HLW2 : Hid (withD (countD l) (S1, S2) = (inN (S1, S2) l : Int)) := Lib.hid HLAW.out.2
        have HCN := Lib.hid (fun z (hz : Below wo.heap.size wo z) => dcount_any (.slice a1 l.length c1) l _ z (HE.out.keep (nest (nest HK2.out HB.out) hz)) HEB.out (by omega))
        have HCO := Lib.hid (okD.count l)
        have HAL := Lib.hid (fun z => dall_any (countD l) HCO.out z)
        have HWI := Lib.hid (fun z => dwithin_any (countD l) S1 S2 HCO.out HSB.out.1 HSB.out.2 z)
        rw [HLW1.out] at HAL
        rw [HLW2.out] at HWI
        have HCL : Hid ((countD l).length = 16) := Lib.hid HCO.out.1
        generalize countD l = C at *
        generalize liveN l = lv at *
        generalize inN (S1, S2) l = nv at *
        clear HLV HLW1 HLW2 HLAW
        go_upto_region 14 with (first | (go_at_call 15; refine (HCN.out _ (Below.refl _ _)).mono ?_; rintro e w5 ⟨rfl, hk5⟩) | (refine at_store 11 rfl ?_; refine wpList_store_row rfl 24 (.tmp 11) (.tmp 53) rfl w5.heap.size (dcs C).toArray rfl rfl 24 _ (heap_alloc_new w5 _) (den_info _ HCL.out) (den_sz HCL.out) (dcs_one _) ?_))
        rw [World.setRow_alloc_new]
        have hk6 : Below wo.heap.size wo (w5.alloc (.cells (dcs C).toArray 24)) := more hk5 _
        have HK6 := Lib.hid (nest (nest HK2.out HB.out) hk6)
        have HC6 : Hid (Blk (w5.alloc (.cells (dcs C).toArray 24)) w5.heap.size 24 (dcs C).toArray) := Lib.hid (Blk.new _ _ _)
        have HQ6 := Lib.hid ((HQ.out.keep HB.out).keep hk6)
        clear hk5 hk6
        generalize w5.alloc (.cells (dcs C).toArray 24) = w6 at *
        obtain ⟨g6, hg6⟩ : ∃ g, g = w5.heap.size := ⟨_, rfl⟩
        rw [← hg6] at HC6 ⊢
        clear hg6
        refine Run.region_seq (S := fun z => Below w6.heap.size w6 z)
          [1, 0, 0, 1, 0, 0, 0, 0, 0, 0, 1, 0, 0, 0, 0] (l := ?_) ?_ (Below.refl _ _) ?_
        rotate_left
        (· simp only [Run.seqOf, List.toList_toArray, Run.stepsOf, Run.stepOf, Run.guardOf, List.getElem?_toArray, List.getElem?_cons_zero, List.getElem?_cons_succ, Option.map_some, Option.map_none, Option.bind_some, Option.toList_some, List.map_cons, List.map_nil, List.cons_append, List.nil_append, List.append_eq]
           rfl)
        repeat ((first
          | (refine Run.takes (v := ?_) ?_ ?_; rotate_left; (· intro w' hS'; (first | (refine exec_load_arr (n := 16) (x := .tmp 11) (l := dcs C) ?_ Try.underlying24 den_i (by rw [dcs_len]; exact HCL.out) ?_ (HC6.out.keep hS') <;> rfl) | (refine exec_load_blk (n := 2) (x := .tmp 7) (l := [.int .u32 S1, .int .u32 S2]) ?_ Try.underlying28 spn_info ?_ ?_ (HQ6.out.keep hS') <;> rfl) | (go_simp; (try with_reducible rfl)))))
          | (refine Run.takesG (v := ?_) ?_ ?_ ?_; rotate_left; (· simp only [List.getElem?_cons_zero, List.getElem?_cons_succ]); (· intro w' hS'; (first | (refine exec_load_arr (n := 16) (x := .tmp 11) (l := dcs C) ?_ Try.underlying24 den_i (by rw [dcs_len]; exact HCL.out) ?_ (HC6.out.keep hS') <;> rfl) | (refine exec_load_blk (n := 2) (x := .tmp 7) (l := [.int .u32 S1, .int .u32 S2]) ?_ Try.underlying28 spn_info ?_ ?_ (HQ6.out.keep hS') <;> rfl) | (go_simp; (try with_reducible rfl)))))
          | (refine Run.skipsT ?_ ?_; (· simp only [List.getElem?_cons_zero, List.getElem?_cons_succ]))
          | (refine Run.skipsF ?_ ?_; (· simp only [List.getElem?_cons_zero, List.getElem?_cons_succ]))
          | (refine Run.skipsU ?_ ?_; (· simp only [List.getElem?_cons_zero, List.getElem?_cons_succ]))
          | (refine Run.passT ?_ ?_; (· simp only [List.getElem?_cons_zero, List.getElem?_cons_succ]))
          | (refine Run.passF ?_ ?_; (· simp only [List.getElem?_cons_zero, List.getElem?_cons_succ]))
          | (refine Run.passU ?_ ?_; (· simp only [List.getElem?_cons_zero, List.getElem?_cons_succ]))
          | (refine Run.runs ?_
             (first
             | (refine Run.callF 9 (by kernel_rfl) (fun hS => dawake_any _) rfl ?_)
             | (refine Run.callG 9 (by kernel_rfl) ?_ (fun hS => dawake_any _) rfl ?_; (· simp only [List.getElem?_cons_zero, List.getElem?_cons_succ]))
             | (refine Run.callF 13 (by kernel_rfl) (fun hS => HAL.out _) rfl ?_)
             | (refine Run.callG 13 (by kernel_rfl) ?_ (fun hS => HAL.out _) rfl ?_; (· simp only [List.getElem?_cons_zero, List.getElem?_cons_succ]))
             | (refine Run.callF 19 (by kernel_rfl) (fun hS => HWI.out _) rfl ?_)
             | (refine Run.callG 19 (by kernel_rfl) ?_ (fun hS => HWI.out _) rfl ?_; (· simp only [List.getElem?_cons_zero, List.getElem?_cons_succ]))
             | fail)
             (first
             | (rintro hS e w' ⟨rfl, rfl⟩; refine ⟨_, rfl, hS, ?_⟩)
             | (rintro hS e w' ⟨rfl, hb⟩; refine ⟨_, rfl, nest hS hb, ?_⟩)
             | fail))
          | fail); simp only [Act.put, List.setIfInBounds_toArray, List.set_cons_zero, List.set_cons_succ])
        refine Run.ends (fun hS => ?_)
        have HK7 := Lib.hid (nest HK6.out hS)
        clear hS
        go_wp2_with fail
        go_ret
        exact ⟨rfl, HK7.out⟩
end Go.Proofs.Ytpfdmjgojpngjaa.densityCounts
