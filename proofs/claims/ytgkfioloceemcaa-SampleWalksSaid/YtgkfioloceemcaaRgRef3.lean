/- The document's answers for package ring: Add. -/
import Derived.Test.YtgkfioloceemcaaRgRef2
set_option maxRecDepth 4000
namespace Go.Proofs.Ytgkfioloceemcaa
open Go.RowKit Mem
set_option linter.unusedSimpArgs false
set_option linter.unusedVariables false
attribute [local irreducible] Go.Calls

theorem low_take {L : List Int} (h : L.Pairwise (· < ·)) {p : Int} {k : Nat} (hk : k ≤ L.length) (hn : L.contains p = false) (hi : ∀ i, k ≤ i → i < L.length → p < L.getD i 0) (hlo : 0 < k → L.getD (k - 1) 0 ≤ p) : lowR L p = L.take k ∧ upR L p = L.drop k := by
  have g : ∀ i (hi : i < L.length), L.getD i 0 = L[i] := fun i hi => by simp [List.getD, hi]
  have h1 : ∀ x ∈ L.take k, x < p := by
    intro x hx
    obtain ⟨i, hi', rfl⟩ := List.getElem_of_mem hx
    have hik : i < k := by simp at hi'; omega
    have hiL : i < L.length := by omega
    rw [List.getElem_take]
    have h2 := hlo (by omega)
    rw [g (k - 1) (by omega)] at h2
    have h3 : L[i] ≤ L[k - 1] := by
      rcases Nat.lt_or_ge i (k - 1) with q | q
      · have := sorted_lt h (show k - 1 < L.length by omega) q; omega
      · have : i = k - 1 := by omega
        subst this; exact Int.le_refl _
    have h4 : L[i] ≠ p := fun e => by
      have : p ∈ L := e ▸ List.getElem_mem hiL
      have : L.contains p = true := by simpa using this
      rw [this] at hn; cases hn
    omega
  have h2 : ∀ x ∈ L.drop k, p < x := by
    intro x hx
    obtain ⟨i, hi', rfl⟩ := List.getElem_of_mem hx
    have hiL : k + i < L.length := by simp at hi'; omega
    rw [List.getElem_drop]
    have := hi (k + i) (by omega) hiL
    rwa [g _ hiL] at this
  have e := (List.take_append_drop k L).symm
  constructor
  · unfold lowR
    conv => lhs; rw [e]
    rw [List.filter_append, List.filter_eq_self.2 (fun x hx => by simpa using h1 x hx), List.filter_eq_nil_iff.2 (fun x hx => by have := h2 x hx; simp; omega), List.append_nil]
  · unfold upR
    conv => lhs; rw [e]
    rw [List.filter_append, List.filter_eq_nil_iff.2 (fun x hx => by have := h1 x hx; simp; omega), List.filter_eq_self.2 (fun x hx => by simpa using h2 x hx), List.nil_append]
set_option maxRecDepth 100000 in
set_option maxHeartbeats 4000000 in
theorem rradd_any (b : Nat) (L : List Int) (p : Int) (w : World) (h : RrAt w b L) (bp : 0 ≤ p ∧ p ≤ 4294967295) :
    Calls Try.prog 9 #[.pointer (some ⟨b, 0, none⟩), .int .u32 p] w fun e w' => e = .returned (.int .i64 (addR L p).2) ∧ RrStep w w' b (addR L p).1 := by
  have HO := Lib.hid h.ok
  have HRR := Lib.hid h
  have HBP := Lib.hid bp
  have hbl : b < w.heap.size := h.lt
  obtain ⟨a, g, o, c, d0, hc1, hc2, ha, hcell, hrd⟩ := h.at
  have hc3 : c ≤ 9223372036854775807 := hc2
  have hl64 : L.length ≤ 64 := h.ok.2.2
  have HA := Lib.hid ha
  have HC := Lib.hid hcell
  have HD := Lib.hid d0
  have HRD := Lib.hid hrd
  obtain ⟨cn, hcn⟩ : ∃ cn, cn = L.contains p := ⟨_, rfl⟩
  have HIN := Lib.hid (inU_any _ L p w hrd)
  have HCN := Lib.hid hcn
  rw [← hcn] at HIN
  clear h ha hcell hc2 hrd hcn bp
  go_enter Try.func9, Try.ntmps9
  go_wp2_with fail
  refine HIN.out.mono ?_
  rintro e w1 ⟨rfl, hk⟩
  have HK1 := Lib.hid hk
  have d1 := kc hk d0
  clear hk HIN
  cases cn with
  | true =>
    have HDR : Hid (addR L p = (L, 7)) := Lib.hid (by unfold addR; rw [← HCN.out]; rfl)
    go_wp2_with fail
    go_ret
    exact ⟨by rw [HDR.out]; rfl, by rw [HDR.out]; exact RrStep.same HRR.out HK1.out⟩
  | false =>
    by_cases hfull : 64 ≤ L.length
    · have HDR : Hid (addR L p = (L, 5)) := Lib.hid (by unfold addR; rw [← HCN.out, if_neg (by decide), if_pos hfull])
      have hf : (64 : Int) ≤ (L.length : Int) := by omega
      go_wp2_with fail
      go_ret
      exact ⟨by rw [HDR.out]; rfl, by rw [HDR.out]; exact RrStep.same HRR.out HK1.out⟩
    · have HDR : Hid (addR L p = (lowR L p ++ p :: upR L p, 0)) := Lib.hid (by unfold addR; rw [← HCN.out, if_neg (by decide), if_neg hfull])
      have hf : ¬ (64 : Int) ≤ (L.length : Int) := by omega
      go_upto_block 99 with fail
      clear d0 d1
      go_loopw [5] (fun iv wr => ∃ k : Nat, k ≤ L.length ∧ iv = .int .i64 k ∧ (∀ i, k ≤ i → i < L.length → p < L.getD i 0) ∧ Below w.heap.size w wr) (fun iv _ => (intOf iv).toNat)
      case atStart => exact ⟨L.length, Nat.le_refl _, rfl, fun i h1 h2 => by omega, HK1.out⟩
      case round =>
        obtain ⟨k, hk, rfl, hhi, hb⟩ := hrel
        have HHI := Lib.hid hhi
        have HK := Lib.hid hb
        have d0 := kc hb HD.out
        obtain ⟨wo, hwo⟩ : ∃ z, z = wr := ⟨_, rfl⟩
        subst hwo
        by_cases hgo : 0 < k ∧ p < L.getD (k - 1) 0
        · obtain ⟨h1, h2⟩ := hgo
          obtain ⟨rfl, hg⟩ := HA.out (by omega)
          have t1 := kc hb (HC.out (k - 1) (by omega))
          have HN : Hid (∀ i, k - 1 ≤ i → i < L.length → p < L.getD i 0) := Lib.hid (fun i hi hl => by
            rcases Nat.lt_or_ge i k with q | q
            · rw [show i = k - 1 by omega]; exact h2
            · exact HHI.out i q hl)
          obtain ⟨x, hx⟩ : ∃ x, x = L.getD (k - 1) 0 := ⟨_, rfl⟩
          rw [← hx] at t1 h2
          obtain ⟨j, rfl⟩ : ∃ j, k = j + 1 := ⟨k - 1, by omega⟩
          rw [Nat.add_sub_cancel] at t1 HN
          have hjl : (j : Int) < (L.length : Int) := by omega
          have hcl : (L.length : Int) ≤ c := by omega
          have hj1 : (0 : Int) < ((j + 1 : Nat) : Int) := by omega
          clear hx hb hhi
          go_wp2_with fail
          exact ⟨⟨j, by omega, by go_num, HN.out, HK.out⟩, by simp [intOf] <;> omega⟩
        · have HLO : Hid (0 < k → L.getD (k - 1) 0 ≤ p) := Lib.hid (fun h0 => by
            by_cases q : p < L.getD (k - 1) 0
            · exact absurd ⟨h0, q⟩ hgo
            · omega)
          have HLU := Lib.hid (low_take HO.out.1 hk HCN.out.symm HHI.out HLO.out)
          have HD0 := Lib.hid d0
          have HRDW := Lib.hid (HRD.out.keep hb)
          have HAOK : Hid (okR (L.take k ++ p :: L.drop k)) := Lib.hid (by have := add_ok HO.out HBP.out; rw [HDR.out, HLU.out.1, HLU.out.2] at this; exact this)
          have hkc : k ≤ c := by omega
          have hcut1 := run_cut_to (P := Try.prog) rgElem a L.length c k hkc
          rw [cutA_zero] at hcut1
          have hcut2 := run_cut_from (P := Try.prog) rgElem a L.length c k hk hc1
          have HC1 := Lib.hid hcut1
          have HC2 := Lib.hid hcut2
          clear hcut1 hcut2 hb hhi
          rcases (show k = 0 ∨ 0 < k by omega) with hk0 | hk0
          all_goals
            first
              | (have hk1 : ¬ (0 : Int) < (k : Int) := by omega
                 clear hgo hk0
                 go_upto_region 8 with fail
                 clear hk1)
              | (obtain ⟨hae, hg⟩ := HA.out (by omega)
                 have t1 := kc HK.out (HC.out (k - 1) (by omega))
                 have hlo := HLO.out hk0
                 obtain ⟨x, hx⟩ : ∃ x, x = L.getD (k - 1) 0 := ⟨_, rfl⟩
                 rw [← hx] at t1 hlo
                 have hjl : k - 1 < L.length := by omega
                 have hcl : (L.length : Int) ≤ c := by omega
                 have hk1 : (0 : Int) < (k : Int) := by omega
                 have hxp : ¬ p < x := by omega
                 rw [hae] at d0
                 clear hx hgo
                 go_upto_region 8 with fail
                 clear hae t1 hlo hjl hcl hk1 hxp hk0)
            clear d0
            have hcut1 := HC1.out
            have hcut2 := HC2.out
            have dD := kc (HK.out.drew) HD.out
            have HKD := Lib.hid HK.out.drew
            have HV0 := Lib.hid (HRDW.out.keep (Below.refl _ _).drew)
            have hv1 := HV0.out.cutA (lo := 0) (hi := k) (Nat.zero_le _) hk
            rw [cutA_zero, List.drop_zero, Nat.sub_zero, Nat.sub_zero] at hv1
            have HV1 := Lib.hid hv1
            have hv2 := HV0.out.cutA (lo := k) (hi := L.length) hk (Nat.le_refl _)
            rw [List.take_length] at hv2
            have HV2 := Lib.hid hv2
            have HDD := Lib.hid dD
            clear hv1 hv2
            refine Run.region_walkZ (S := fun z => z.cell? ⟨b, 0, none⟩ = some (.slice a L.length c))
              rradd.rows8 rradd.plan8z 20 _ (l := ?_) (by kernel_rfl) (by kernel_rfl) (by kernel_rfl) (by kernel_rfl) rfl rfl ?_ dD ?_
            rotate_left
            (· simp only [rradd.plan8z, Run.stepsOf, Run.stepOf, Run.guardOf, List.getElem?_toArray, List.getElem?_cons_zero, List.getElem?_cons_succ, Option.map_some, Option.map_none, Option.bind_some, Option.toList_some, List.map_cons, List.map_nil, List.cons_append, List.nil_append, List.append_eq]
               rfl)
            repeat ((first
              | (refine Run.takes (v := ?_) ?_ ?_; rotate_left; (· intro w' hS'; go_simp; (try with_reducible rfl)))
              | (refine Run.takesG (v := ?_) ?_ ?_ ?_; rotate_left; (· simp only [List.getElem?_cons_zero, List.getElem?_cons_succ]); (· intro w' hS'; go_simp; (try with_reducible rfl)))
              | (refine Run.skipsT ?_ ?_; (· simp only [List.getElem?_cons_zero, List.getElem?_cons_succ]))
              | (refine Run.skipsF ?_ ?_; (· simp only [List.getElem?_cons_zero, List.getElem?_cons_succ]))
              | (refine Run.skipsU ?_ ?_; (· simp only [List.getElem?_cons_zero, List.getElem?_cons_succ]))
              | (refine Run.passT ?_ ?_; (· simp only [List.getElem?_cons_zero, List.getElem?_cons_succ]))
              | (refine Run.passF ?_ ?_; (· simp only [List.getElem?_cons_zero, List.getElem?_cons_succ]))
              | (refine Run.passU ?_ ?_; (· simp only [List.getElem?_cons_zero, List.getElem?_cons_succ]))
              | fail); simp only [Act.put, List.setIfInBounds_toArray, List.set_cons_zero, List.set_cons_succ])
            clear dD hcut1 hcut2
            generalize wo.drew = wd at *
            have hS64 : (L.take k).length ≤ 64 := by simp; omega
            have hT64 : (L.drop k).length ≤ 64 := by simp; omega
            obtain ⟨S, hS⟩ : ∃ S, S = L.take k := ⟨_, rfl⟩
            obtain ⟨T, hT⟩ : ∃ T, T = L.drop k := ⟨_, rfl⟩
            have HLU2 : Hid (lowR L p = S ∧ upR L p = T) := Lib.hid (by rw [hS, hT]; exact HLU.out)
            rw [← hS] at HAOK HV1 hS64
            rw [← hT] at HAOK HV2 hT64
            have HS64 := Lib.hid hS64
            have HT64 := Lib.hid hT64
            clear hS hT HLU hS64 hT64
            refine Run.both ?_ ?_
            all_goals
              first
                | (refine Run.one (fun hS K1 hK1 => ?_)
                   refine wp_append (E := intE .u32) (B := wd.heap.size) (v := .slice none 0 0) (l := []) (m := S) (bytes := 4) rgElem Nat.zero_lt_one (.const (.slice none 0 0)) (.tmp 45) rfl rfl Row.nil rfl HV1.out (by have := HS64.out; simp [maxLen]; omega) (by have := HS64.out; simp; omega) (Nat.le_refl _) ?_
                   intro vA wA hrA hkA hgA _
                   rw [List.nil_append] at hrA
                   have HRA := Lib.hid hrA
                   have HKA := Lib.hid hkA
                   obtain ⟨aA, cA, rfl, _, _⟩ := hrA.rd.form
                   refine hK1.out _ _ (kc hkA HDD.out) ?_
                   clear hK1 K1 hS hrA hkA hgA
                   try simp only [Act.put, List.setIfInBounds_toArray, List.set_cons_zero, List.set_cons_succ]
                   refine Run.one (fun hS K1 hK1 => ?_)
                   go_simp
                   have hX : Below wA.heap.size wA (wA.alloc (.cells #[.int .u32 p] 24)) := more (Below.refl _ _) _
                   have HX := Lib.hid (Row.lit (E := intE .u32) wA.heap.size wA #[.int .u32 p] [p] 1 wA.heap.size rfl rfl rfl (Nat.le_refl _) (by simp [maxLen]) : Row (intE .u32) 24 wA.heap.size (wA.alloc (.cells #[.int .u32 p] 24)) (.slice (some ⟨wA.heap.size, 0, none⟩) 1 1) [p]).rd
                   have HRB := Lib.hid (HRA.out.keep hX)
                   have HKB := Lib.hid (nest HKA.out hX)
                   refine hK1.out _ _ (kc HKB.out HDD.out) ?_
                   clear hK1 K1 hS hX HRA HKA
                   try simp only [Act.put, List.setIfInBounds_toArray, List.set_cons_zero, List.set_cons_succ]
                   generalize wA.alloc (.cells #[.int .u32 p] 24) = zB at *
                   skip)
                | (refine Run.one (fun hS K1 hK1 => ?_)
                   go_simp
                   have hX : Below wd.heap.size wd (wd.alloc (.cells #[.int .u32 p] 24)) := more (Below.refl _ _) _
                   have HXX := Lib.hid (Row.lit (E := intE .u32) wd.heap.size wd #[.int .u32 p] [p] 1 wd.heap.size rfl rfl rfl (Nat.le_refl _) (by simp [maxLen]) : Row (intE .u32) 24 wd.heap.size (wd.alloc (.cells #[.int .u32 p] 24)) (.slice (some ⟨wd.heap.size, 0, none⟩) 1 1) [p])
                   have HV1B := Lib.hid (HV1.out.keep hX)
                   have HKA := Lib.hid hX
                   refine hK1.out _ _ (kc hX HDD.out) ?_
                   clear hK1 K1 hS hX
                   try simp only [Act.put, List.setIfInBounds_toArray, List.set_cons_zero, List.set_cons_succ]
                   generalize wd.alloc (.cells #[.int .u32 p] 24) = wA at *
                   refine Run.one (fun hS K1 hK1 => ?_)
                   refine wp_append (E := intE .u32) (B := wA.heap.size) (v := .slice none 0 0) (l := []) (m := S) (bytes := 4) rgElem Nat.zero_lt_one (.const (.slice none 0 0)) (.tmp 45) rfl rfl Row.nil rfl HV1B.out (by have := HS64.out; simp [maxLen]; omega) (by have := HS64.out; simp; omega) (Nat.le_refl _) ?_
                   intro vA zB hrA hkA hgA _
                   rw [List.nil_append] at hrA
                   have HRB := Lib.hid (Row.mono hrA HKA.out.size)
                   have HX := Lib.hid (HXX.out.rd.keep hkA)
                   have HKB := Lib.hid (nest HKA.out hkA)
                   obtain ⟨aA, cA, rfl, _, _⟩ := hrA.rd.form
                   refine hK1.out _ _ (kc HKB.out HDD.out) ?_
                   clear hK1 K1 hS hrA hkA hgA HXX HV1B HKA
                   try simp only [Act.put, List.setIfInBounds_toArray, List.set_cons_zero, List.set_cons_succ])
              refine Run.runsS (Run.one (fun hS K1 hK1 => ?_))
              refine wp_append (E := intE .u32) (B := wd.heap.size) (l := S) (m := [p]) (bytes := 4) rgElem Nat.zero_lt_one (.tmp 46) (.tmp 48) rfl rfl HRB.out rfl HX.out (by have := HS64.out; simp [maxLen]; omega) (by have := HS64.out; simp; omega) HKB.out.size ?_
              intro vC zC hrC hkC hgC _
              have HRC := Lib.hid hrC
              have HKC := Lib.hid (HKB.out.trans hkC)
              obtain ⟨aC, cC, rfl, _, _⟩ := hrC.rd.form
              refine hK1.out _ _ (kc HKC.out HDD.out) (fun _ => ⟨fun z => z.cell? ⟨b, 0, none⟩ = some (.slice a L.length c), fun z h => h, kc HKC.out HDD.out, ?_⟩)
              clear hK1 K1 hS hrC hkC hgC HRB HX HKB
              try simp only [Act.put, List.setIfInBounds_toArray, List.set_cons_zero, List.set_cons_succ]
              refine Run.runsS (Run.one (fun hS K1 hK1 => ?_))
              refine wp_append (E := intE .u32) (B := wd.heap.size) (l := S ++ [p]) (m := T) (bytes := 4) rgElem Nat.zero_lt_one (.tmp 49) (.tmp 55) rfl rfl HRC.out rfl (HV2.out.keep HKC.out) (by have := HS64.out; have := HT64.out; simp [maxLen]; omega) (by have := HS64.out; have := HT64.out; simp; omega) HKC.out.size ?_
              intro vE zE hrE hkE hgE _
              obtain ⟨N, hN⟩ : ∃ N, N = S ++ [p] ++ T := ⟨_, rfl⟩
              rw [← hN] at hrE
              have HN : Hid (S ++ p :: T = N) := Lib.hid (by rw [hN]; simp)
              have HRE := Lib.hid hrE
              have HKE := Lib.hid (HKC.out.trans hkE)
              obtain ⟨aE, cE, rfl, _, _⟩ := hrE.rd.form
              refine hK1.out _ _ (kc HKE.out HDD.out) (fun _ => ⟨fun z => z.cell? ⟨b, 0, none⟩ = some (.slice a L.length c), fun z h => h, kc HKE.out HDD.out, ?_⟩)
              clear hK1 K1 hS hrE hkE hgE HRC HKC hN
              try simp only [Act.put, List.setIfInBounds_toArray, List.set_cons_zero, List.set_cons_succ]
              repeat ((first
                | (refine Run.takes (v := ?_) ?_ ?_; rotate_left; (· intro w' hS'; go_simp; (try with_reducible rfl)))
                | (refine Run.takesG (v := ?_) ?_ ?_ ?_; rotate_left; (· simp only [List.getElem?_cons_zero, List.getElem?_cons_succ]); (· intro w' hS'; go_simp; (try with_reducible rfl)))
                | (refine Run.skipsT ?_ ?_; (· simp only [List.getElem?_cons_zero, List.getElem?_cons_succ]))
                | (refine Run.skipsF ?_ ?_; (· simp only [List.getElem?_cons_zero, List.getElem?_cons_succ]))
                | (refine Run.skipsU ?_ ?_; (· simp only [List.getElem?_cons_zero, List.getElem?_cons_succ]))
                | (refine Run.passT ?_ ?_; (· simp only [List.getElem?_cons_zero, List.getElem?_cons_succ]))
                | (refine Run.passF ?_ ?_; (· simp only [List.getElem?_cons_zero, List.getElem?_cons_succ]))
                | (refine Run.passU ?_ ?_; (· simp only [List.getElem?_cons_zero, List.getElem?_cons_succ]))
                | fail); simp only [Act.put, List.setIfInBounds_toArray, List.set_cons_zero, List.set_cons_succ])
              refine Run.endsZ (fun hS K1 hK1 => ?_)
              have cc : zE.cell? ⟨b, 0, none⟩ = some (.slice a L.length c) := kc HKE.out HDD.out
              have HKW := Lib.hid (HKD.out.trans (HKE.out.mono HKD.out.size))
              have HBK := Lib.hid (HRR.out.keep HKW.out)
              obtain ⟨vv, hbk⟩ : ∃ vv, Blk zE b 30 #[vv] := by obtain ⟨vv, q, _⟩ := HBK.out; exact ⟨vv, q⟩
              have HBK := Lib.hid hbk
              have cf := hbk.frozen 0
              clear hS hbk
              go_simp
              refine hK1.out _ _ (NoPanic.normal ?_)
              clear hK1 K1 cc cf
              go_wp2_with fail
              go_ret
              refine ⟨by rw [HDR.out]; rfl, ?_⟩
              rw [HDR.out, HLU2.out.1, HLU2.out.2, HN.out]
              exact RrStep.put hbl HKW.out HBK.out HRE.out HKD.out.size (by have := HAOK.out; rwa [HN.out] at this)
end Go.Proofs.Ytgkfioloceemcaa
