/- The document's answers for package greedy (petasosref11.Go). -/
import Derived.Test.YtbhnpidbgckinaaRgPair
import Derived.Test.YtbhnpidbgckinaaGoMath
import Derived.Test.YtbhnpidbgckinaaLkPlans
set_option maxRecDepth 4000
namespace Go.Proofs.Ytbhnpidbgckinaa
open Go.RowKit Mem
set_option linter.unusedSimpArgs false
set_option linter.unusedVariables false
attribute [local irreducible] Go.Calls

set_option maxRecDepth 100000 in
set_option maxHeartbeats 8000000 in
theorem rgo_any (b : Nat) (L l : List Int) (u : Value) (at' v : Int) (w : World) (h : RrAt w b L) (hu : Rd (intE .u32) w u l) (ba : 0 ≤ at' ∧ at' ≤ 4294967295) (bv : 0 ≤ v ∧ v ≤ 4294967295) :
    Calls Try.prog 12 #[.pointer (some ⟨b, 0, none⟩), u, .int .u32 at', .int .u32 v] w fun e w' => e = .returned (.tuple #[.int .u32 (goR L l at' v).1, .bool (goR L l at' v).2]) ∧ Below w.heap.size w w' := by
  have HO := Lib.hid h.ok
  have HRR := Lib.hid h
  have HBA := Lib.hid ba
  have HBV := Lib.hid bv
  obtain ⟨a, g, o, c, d0, hc1, hc2, ha, hcell, hrd⟩ := h.at
  have HD := Lib.hid d0
  have HRD := Lib.hid hrd
  obtain ⟨au, gu, ou, cu, rfl, hcu, hmu, hau, heu⟩ := Mem.Rd.loopI hu
  have hmu' : cu ≤ 9223372036854775807 := hmu
  have HAU := Lib.hid hau
  have HEU := Lib.hid heu
  obtain ⟨ow, how⟩ : ∃ x, x = (ownR L v).1 := ⟨_, rfl⟩
  obtain ⟨oi, hoi⟩ : ∃ x, x = (ownR L v).2 := ⟨_, rfl⟩
  have HOW := Lib.hid how
  have HOI := Lib.hid hoi
  have HROW := Lib.hid (rrowner_any b L v w h)
  rw [← how, ← hoi] at HROW
  obtain ⟨RES, hRES⟩ : ∃ r, r = goR L l at' v := ⟨_, rfl⟩
  rw [← hRES]
  have HRES := Lib.hid hRES
  have HIN : Hid (∀ z x, Below w.heap.size w z → Calls Try.prog 16 #[.slice a L.length c, .int .u32 x] z fun e w' => e = .returned (.bool (L.contains x)) ∧ Below z.heap.size z w') := Lib.hid (fun z x hz => inU_any _ L x z (hrd.keep hz))
  clear h ha hcell hc2 hrd hau heu hmu how hoi hRES d0 ba bv hu
  go_enter Try.func12, Try.ntmps12
  go_upto_region 2 with (go_at_call 14; refine HROW.out.mono ?_; rintro e w1 ⟨rfl, hk⟩)
  have HK := Lib.hid hk
  have d1 := kc hk HD.out
  clear hk HROW
  by_cases hempty : oi = false
  · subst hempty
    have HF : Hid (RES = (0, false)) := Lib.hid (by
      rw [HRES.out]
      have : L = [] := by have := HOI.out; unfold ownR at this; simpa using this
      exact goR_false l (.inl (by rw [this]; rfl)))
    go_wp2_with fail
    go_ret2
    exact ⟨by rw [HF.out]; rfl, HK.out⟩
  have hoi : oi = true := by simpa using hempty
  subst hoi
  obtain ⟨cn, hcn⟩ : ∃ x, x = L.contains at' := ⟨_, rfl⟩
  have HINA := Lib.hid (HIN.out w1 at' HK.out)
  rw [← hcn] at HINA
  have HCN := Lib.hid hcn
  clear hcn hempty
  cases cn with
  | false =>
    have HF : Hid (RES = (0, false)) := Lib.hid (by rw [HRES.out]; exact goR_false l (.inl HCN.out.symm))
    go_wp2_with (go_at_call 16; refine HINA.out.mono ?_; rintro e w2 ⟨rfl, hk2⟩)
    go_ret2
    exact ⟨by rw [HF.out]; rfl, nest HK.out hk2⟩
  | true =>
    have HAL : Hid (at' ∈ L) := Lib.hid (by have := HCN.out.symm; simpa using this)
    by_cases hoa : ow = at'
    · have HF : Hid (RES = (0, false)) := Lib.hid (by rw [HRES.out]; exact goR_false l (.inr (by rw [← HOW.out]; exact hoa)))
      have hoe : (ow == at') = true := by simpa using hoa
      clear hoa
      go_wp2_with (go_at_call 16; refine HINA.out.mono ?_; rintro e w2 ⟨rfl, hk2⟩)
      go_ret2
      exact ⟨by rw [HF.out]; rfl, nest HK.out hk2⟩
    have hoe : (ow == at') = false := beq_eq_false_iff_ne.2 hoa
    have HOA : Hid ((ownR L v).1 ≠ at') := Lib.hid (by rw [← HOW.out]; exact hoa)
    have HRI : Hid (RES = if (ownR L v).1 = (nextR L at').1 then ((nextR L at').1, true) else (goB L l at' v, true)) := Lib.hid (by rw [HRES.out]; exact goR_is l HAL.out HOA.out)
    clear hoa
    go_upto_region 4 with (go_at_call 16; refine HINA.out.mono ?_; rintro e w2 ⟨rfl, hk2⟩)
    have HK2 := Lib.hid (nest HK.out hk2)
    clear hk2 HK hoe d1
    obtain ⟨nx, hnx⟩ : ∃ x, x = (nextR L at').1 := ⟨_, rfl⟩
    have HNX := Lib.hid hnx
    have HNC := Lib.hid (rrnext_any b L at' w2 (HRR.out.keep HK2.out))
    rw [← hnx] at HNC HRI
    generalize (nextR L at').2 = nis at HNC
    clear hnx
    rw [← HOW.out] at HRI
    by_cases hon : ow = nx
    · have HF : Hid (RES = (nx, true)) := Lib.hid (by rw [HRI.out, if_pos hon])
      have hoe : (ow == nx) = true := by simpa using hon
      clear hon
      go_wp2_with (go_at_call 18; refine HNC.out.mono ?_; rintro e w3 ⟨rfl, hk3⟩)
      go_ret2
      exact ⟨by rw [HF.out]; rfl, nest HK2.out hk3⟩
    have HF : Hid (RES = (goB L l at' v, true)) := Lib.hid (by rw [HRI.out, if_neg hon])
    have hoe : (ow == nx) = false := beq_eq_false_iff_ne.2 hon
    clear hon
    go_upto_region 6 with (go_at_call 18; refine HNC.out.mono ?_; rintro e w3 ⟨rfl, hk3⟩)
    have HK3 := Lib.hid (nest HK2.out hk3)
    clear hk3 hoe HNC HK2
    go_upto_block 99 with fail
    go_loopw [12, 14] (fun bv' iv wr => ∃ i : Nat, i ≤ l.length ∧ iv = .int .i64 i ∧ bv' = .int .u32 (goB L (l.take i) at' v) ∧ Below w.heap.size w wr) (fun _ iv _ => l.length - (intOf iv).toNat)
    case atStart => exact ⟨0, Nat.zero_le _, rfl, by rw [HNX.out]; rfl, HK3.out⟩
    case round =>
      obtain ⟨i, hi, rfl, rfl, hk⟩ := hrel
      have HKI := Lib.hid hk
      obtain ⟨best, hbest⟩ : ∃ x, x = goB L (l.take i) at' v := ⟨_, rfl⟩
      have HBE := Lib.hid hbest
      rw [← hbest]
      clear hbest HK3
      by_cases hlt : i < l.length
      · skip
        as_aux_lemma =>
          obtain ⟨rfl, _⟩ := HAU.out (by omega)
          have e0 := kc hk (HEU.out i hlt)
          have d0 := kc hk HD.out
          have HST := Lib.hid (goB_step L at' v hlt)
          rw [← HBE.out] at HST
          obtain ⟨q, hq⟩ : ∃ x, x = l.getD i 0 := ⟨_, rfl⟩
          rw [← hq] at e0 HST
          have HILT := Lib.hid hlt
          have hil : (i : Int) < (l.length : Int) := by omega
          have hcl : (l.length : Int) ≤ cu := by omega
          have HIW : Hid (wrap64 ((i : Int) + 1) = ((i + 1 : Nat) : Int)) := Lib.hid (by rw [IntWalk.wrap64_in _ (by omega)]; omega)
          have HINQ := Lib.hid (HIN.out wr q HKI.out)
          obtain ⟨qc, hqc⟩ : ∃ x, x = L.contains q := ⟨_, rfl⟩
          have HQC := Lib.hid hqc
          rw [← hqc] at HINQ
          clear hq hk hqc hi hlt
          cases qc with
          | false =>
            have HN : Hid (goB L (l.take (i + 1)) at' v = best) := Lib.hid (by rw [HST.out]; unfold goStep; rw [if_neg]; intro h; rw [h.1] at HQC; have := HQC.out; cases this)
            go_wp2_with (go_at_call 16; refine HINQ.out.mono ?_; rintro e w4 ⟨rfl, hk4⟩)
            exact ⟨⟨i + 1, by have := HILT.out; omega, rfl, by rw [HN.out], nest HKI.out hk4⟩, by have := HILT.out; simp only [intOf]; omega⟩
          | true =>
            by_cases h1 : stp at' best < stp at' q
            · by_cases h2 : stp at' q < stp at' v
              · have HN : Hid (goB L (l.take (i + 1)) at' v = q) := Lib.hid (by rw [HST.out]; unfold goStep; rw [if_pos ⟨HQC.out.symm, h1, h2⟩])
                unfold stp at h1 h2
                go_wp2_with (go_at_call 16; refine HINQ.out.mono ?_; rintro e w4 ⟨rfl, hk4⟩)
                exact ⟨⟨i + 1, by have := HILT.out; omega, rfl, by rw [HN.out], nest HKI.out hk4⟩, by have := HILT.out; simp only [intOf]; omega⟩
              · have HN : Hid (goB L (l.take (i + 1)) at' v = best) := Lib.hid (by rw [HST.out]; unfold goStep; rw [if_neg (fun h => h2 h.2.2)])
                unfold stp at h1 h2
                go_wp2_with (go_at_call 16; refine HINQ.out.mono ?_; rintro e w4 ⟨rfl, hk4⟩)
                exact ⟨⟨i + 1, by have := HILT.out; omega, rfl, by rw [HN.out], nest HKI.out hk4⟩, by have := HILT.out; simp only [intOf]; omega⟩
            · have HN : Hid (goB L (l.take (i + 1)) at' v = best) := Lib.hid (by rw [HST.out]; unfold goStep; rw [if_neg (fun h => h1 h.2.1)])
              unfold stp at h1
              go_wp2_with (go_at_call 16; refine HINQ.out.mono ?_; rintro e w4 ⟨rfl, hk4⟩)
              exact ⟨⟨i + 1, by have := HILT.out; omega, rfl, by rw [HN.out], nest HKI.out hk4⟩, by have := HILT.out; simp only [intOf]; omega⟩
      · have hil : ¬ (i : Int) < (l.length : Int) := by omega
        have hie : i = l.length := by omega
        subst hie
        rw [List.take_length] at HBE
        go_wp2_with fail
        go_ret2
        exact ⟨by rw [HF.out, ← HBE.out]; rfl, HKI.out⟩
end Go.Proofs.Ytbhnpidbgckinaa
