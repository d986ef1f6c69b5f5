/- The document's answers for package links (petasosref11.Links). -/
import Derived.Test.YtoifmijbkfohhaaRgPair
import Derived.Test.YtoifmijbkfohhaaLkMath
import Derived.Test.YtoifmijbkfohhaaLkPlans
import Derived.Test.YtoifmijbkfohhaaSort32
set_option maxRecDepth 4000
namespace Go.Proofs.Ytoifmijbkfohhaa
open Go.RowKit Mem
set_option linter.unusedSimpArgs false
set_option linter.unusedVariables false
attribute [local irreducible] Go.Calls

set_option maxRecDepth 100000 in
set_option maxHeartbeats 8000000 in
theorem rlinks_any (b d : Nat) (L : List Int) (p n s : Int) (w : World) (h : RrAt w b L) (hd : Blk w d 33 #[.int .u64 s]) (hdb : d ≠ b) (hg : ∀ v g, w.cell? ⟨b, 0, none⟩ = some v → v.ownBlock = some g → g ≠ d) (bs : 0 ≤ s ∧ s ≤ 18446744073709551615) (bp : 0 ≤ p ∧ p ≤ 4294967295) (bn : -9223372036854775808 ≤ n ∧ n ≤ 9223372036854775807) :
    Calls Try.prog 10 #[.pointer (some ⟨b, 0, none⟩), .int .u32 p, .int .i64 n, .pointer (some ⟨d, 0, none⟩)] w fun e w' => ∃ v, e = .returned v ∧ Row (intE .u32) 23 w.heap.size w' v (linksR L p n s) ∧ Blk w' d 33 #[.int .u64 (linksE L p n s)] ∧ Turned (fun j => j = d) w w' := by
  have HO := Lib.hid h.ok
  have HRR := Lib.hid h
  have HBS := Lib.hid bs
  have HBP := Lib.hid bp
  have HBD := Lib.hid hd
  have HDB := Lib.hid hdb
  have HG := Lib.hid hg
  have HDL := Lib.hid hd.lt
  obtain ⟨a, g, o, c, d0, hc1, hc2, ha, hcell, hrd⟩ := h.at
  have hc3 : c ≤ 9223372036854775807 := hc2
  have hl64 : L.length ≤ 64 := h.ok.2.2
  have HD := Lib.hid d0
  obtain ⟨cn, hcn⟩ : ∃ cn, cn = L.contains p := ⟨_, rfl⟩
  have HIN := Lib.hid (inU_any _ L p w hrd)
  have HCN := Lib.hid hcn
  rw [← hcn] at HIN
  clear h ha hcell hc2 hrd hcn bp bs hd hg hdb
  go_enter Try.func10, Try.ntmps10
  go_wp2_with fail
  refine HIN.out.mono ?_
  rintro e w1 ⟨rfl, hk⟩
  have HK1 := Lib.hid hk
  clear hk HIN d0
  cases cn with
  | false =>
    have HR : Hid (linksR L p n s = [] ∧ linksE L p n s = s) := Lib.hid (by unfold linksR linksE; rw [← HCN.out]; exact ⟨rfl, rfl⟩)
    go_wp2_with fail
    go_ret
    exact ⟨_, rfl, by rw [HR.out.1]; exact Row.nil, by rw [HR.out.2]; exact HBD.out.keep HK1.out, Turned.of_below HK1.out⟩
  | true =>
    obtain ⟨m, hm⟩ : ∃ m, m = (min n 6).toNat := ⟨_, rfl⟩
    have HR : Hid (linksR L p n s = outS L p s m ∧ linksE L p n s = stS s m) := Lib.hid (by unfold linksR linksE; rw [← HCN.out, hm]; exact ⟨rfl, rfl⟩)
    have HM : Hid (m = (min n 6).toNat ∧ m ≤ 6) := Lib.hid ⟨hm, by omega⟩
    have HNE : Hid (L ≠ []) := Lib.hid (fun e => by have := HCN.out; rw [e] at this; cases this)
    clear hm
    obtain ⟨nm, hnm⟩ : ∃ x, (if 6 < n then 6 else n) = x := ⟨_, rfl⟩
    have HNM : Hid (nm = min n 6) := Lib.hid (by rw [← hnm]; split <;> omega)
    have hmi : min n 6 = nm := HNM.out.symm
    go_upto_region 4 with (go_at_call 16; refine (rrnext_any b L p w1 (HRR.out.keep HK1.out)).mono ?_; rintro e w2 ⟨rfl, hk2⟩)
    have HK2 := Lib.hid (nest HK1.out hk2)
    obtain ⟨nx, hnx⟩ : ∃ x, x = (nextR L p).1 := ⟨_, rfl⟩
    rw [← hnx]
    have HNX := Lib.hid hnx
    generalize (nextR L p).2 = nis
    clear hk2 HK1 hnx
    go_upto_block 99 with fail
    go_loopw [11, 12] (fun sv iv wr => ∃ i : Nat, i ≤ m ∧ iv = .int .i64 i ∧ Row (intE .u32) 23 w.heap.size wr sv (outS L p s i) ∧ Blk wr d 33 #[.int .u64 (stS s i)] ∧ Turned (fun j => j = d) w wr) (fun _ iv _ => m - (intOf iv).toNat)
    case atStart => exact ⟨0, Nat.zero_le _, rfl, Row.nil, HBD.out.keep HK2.out, Turned.of_below HK2.out⟩
    case round =>
      obtain ⟨i, hi, rfl, hrow, hbd, ht⟩ := hrel
      have HROW := Lib.hid hrow
      have HBW := Lib.hid hbd
      have HT := Lib.hid ht
      obtain ⟨asv, cs, rfl, hcs, hms⟩ := hrow.rd.form
      have hms' : cs ≤ 9223372036854775807 := hms
      have HS6 : Hid ((outS L p s i).length ≤ i ∧ i ≤ m ∧ LkOk L p (outS L p s i)) := Lib.hid ⟨(outS_ok HO.out HNE.out p s i).2, hi, (outS_ok HO.out HNE.out p s i).1⟩
      obtain ⟨S, hS⟩ : ∃ S, S = outS L p s i := ⟨_, rfl⟩
      have HSE := Lib.hid hS
      rw [← hS] at HROW HS6 hcs ⊢
      clear hrow hbd ht hS hms
      by_cases hlt : i < m
      · skip
        as_aux_lemma =>
          have hmin : (i : Int) < nm := by have := HM.out; have := HNM.out; omega
          have HIM := Lib.hid hlt
          have HIW : Hid (wrap64 ((i : Int) + 1) = ((i + 1 : Nat) : Int)) := Lib.hid (by have := HM.out.2; rw [IntWalk.wrap64_in _ (by omega)]; omega)
          have HRW : Hid (RrAt wr b L) := Lib.hid (HRR.out.turned HT.out (fun e => HDB.out e.symm) (fun v g hv hg => HG.out v g hv hg))
          have HGW : Hid (∀ v g, wr.cell? ⟨b, 0, none⟩ = some v → v.ownBlock = some g → g ≠ d) := Lib.hid (fun v g hv hg => by
            have hw := HT.out.cell HD.out (fun e => HDB.out e.symm)
            rw [hw] at hv
            injection hv with hv
            subst hv
            exact HG.out _ g HD.out hg)
          clear hi
          obtain ⟨fv, hfv⟩ : ∃ x, x = farV (stS s i) := ⟨_, rfl⟩
          obtain ⟨q, hq⟩ : ∃ x, x = (ownR L ((p + fv) % 4294967296)).1 := ⟨_, rfl⟩
          have HF := Lib.hid (rfar_any d (stS s i) (stS_bd HBS.out i) wr HBW.out)
          rw [← hfv] at HF
          have HQ : Hid (q = lkQ L p s i) := Lib.hid (by rw [hq, hfv]; rfl)
          have HOW : Hid (∀ z, RrAt z b L → Calls Try.prog 29 #[.pointer (some ⟨b, 0, none⟩), .int .u32 ((p + fv) % 4294967296)] z fun e w' => e = .returned (.tuple #[.int .u32 q, .bool true]) ∧ Below z.heap.size z w') := Lib.hid (fun z hz => by
            have h1 := rrowner_any b L ((p + fv) % 4294967296) z hz
            rw [(own_head _ HNE.out).1, ← hq] at h1
            exact h1)
          have HST : Hid (outS L p s (i + 1) = putS L p S q ∧ stS s (i + 1) = farS (stS s i)) := Lib.hid (by rw [HQ.out, HSE.out]; exact ⟨rfl, rfl⟩)
          clear hfv hq
          go_upto_region 9 with (first | (go_at_call 13; refine HF.out.mono ?_; rintro e w3 ⟨rfl, hb3, ho3⟩; have hr3 := HRW.out.turned (Turned.of_only ho3 (S := fun j => j = d) rfl) (fun e => HDB.out e.symm) HGW.out) | (go_at_call 29; refine (HOW.out _ hr3).mono ?_; rintro e w4 ⟨rfl, hk4⟩))
          have HROW4 := Lib.hid ((HROW.out.only ho3 (HROW.out.ne_blk HBW.out (by decide))).keep hk4)
          have HB4 := Lib.hid (hb3.keep hk4)
          have HT4 : Hid (Turned (fun j => j = d) w w4) := Lib.hid ((HT.out.trans (S' := fun j => j = d) (Turned.of_only ho3 rfl) (fun _ _ h => h)).trans (S' := fun _ => False) (Turned.of_below hk4) (fun _ _ h => h.elim))
          clear hb3 ho3 hr3 hk4 hmin HF HOW HRW HGW HROW HBW HT
          by_cases hqp : q = p
          · have HPS : Hid (putS L p S q = S) := Lib.hid (by unfold putS; rw [if_pos (.inl hqp)])
            subst hqp
            go_wp2_with fail
            rw [HIW.out]
            exact ⟨⟨i + 1, by have := HIM.out; omega, rfl, by rw [HST.out.1, HPS.out]; exact HROW4.out, by rw [HST.out.2]; exact HB4.out, HT4.out⟩, by have := HIM.out; simp only [intOf]; omega⟩
          have hqp1 : (q == p) = false := beq_eq_false_iff_ne.2 hqp
          by_cases hqn : q = nx
          · have HPS : Hid (putS L p S q = S) := Lib.hid (by unfold putS; rw [if_pos (.inr (.inl (by rw [hqn]; exact HNX.out)))])
            subst hqn
            go_wp2_with fail
            rw [HIW.out]
            exact ⟨⟨i + 1, by have := HIM.out; omega, rfl, by rw [HST.out.1, HPS.out]; exact HROW4.out, by rw [HST.out.2]; exact HB4.out, HT4.out⟩, by have := HIM.out; simp only [intOf]; omega⟩
          have hqn1 : (q == nx) = false := beq_eq_false_iff_ne.2 hqn
          obtain ⟨bc, hbc⟩ : ∃ x, x = S.contains q := ⟨_, rfl⟩
          have HBC := Lib.hid hbc
          have HINS := Lib.hid (inU_any _ S q w4 HROW4.out.rd)
          rw [← hbc] at HINS
          have HPN : Hid (bc = false → putS L p S q = insS p S q) := Lib.hid (fun e => by
            unfold putS
            rw [if_neg]
            rintro (h | h | h)
            · exact hqp h
            · exact hqn (by rw [h]; exact HNX.out.symm)
            · have : S.contains q = true := by simpa using h
              rw [← hbc, e] at this; cases this)
          clear hbc
          cases bc with
          | true =>
            have HPS : Hid (putS L p S q = S) := Lib.hid (by unfold putS; rw [if_pos (.inr (.inr (by have := HBC.out.symm; simpa using this)))])
            go_wp2_with (go_at_call 17; refine HINS.out.mono ?_; rintro e w5 ⟨rfl, hk5⟩)
            rw [HIW.out]
            exact ⟨⟨i + 1, by have := HIM.out; omega, rfl, by rw [HST.out.1, HPS.out]; exact HROW4.out.keep hk5, by rw [HST.out.2]; exact HB4.out.keep hk5, HT4.out.trans (S' := fun _ => False) (Turned.of_below hk5) (fun _ _ h => h.elim)⟩, by have := HIM.out; simp only [intOf]; omega⟩
          | false =>
            have HPS := Lib.hid (HPN.out rfl)
            go_upto_region 10 with (go_at_call 17; refine HINS.out.mono ?_; rintro e w5 ⟨rfl, hk5⟩)
            have HROW5 := Lib.hid (HROW4.out.keep hk5)
            have HB5 := Lib.hid (HB4.out.keep hk5)
            have HT5 : Hid (Turned (fun j => j = d) w w5) := Lib.hid (HT4.out.trans (S' := fun _ => False) (Turned.of_below hk5) (fun _ _ h => h.elim))
            clear hk5 HROW4 HB4 HT4 HINS HPN
            have hS6 : S.length ≤ 6 := by have := HS6.out; have := HM.out; omega
            obtain ⟨wo, hwo⟩ : ∃ z, z = wr := ⟨_, rfl⟩
            subst hwo
            go_upto_block 99 with fail
            go_loopw [15] (fun kv wr => ∃ k : Nat, k ≤ S.length ∧ kv = .int .i64 k ∧ (∀ i, k ≤ i → i < S.length → stp p q < stp p (S.getD i 0)) ∧ Below w5.heap.size w5 wr) (fun kv _ => (intOf kv).toNat)
            case atStart => exact ⟨S.length, Nat.le_refl _, rfl, fun i h1 h2 => by omega, Below.refl _ _⟩
            case round =>
              obtain ⟨k, hk, rfl, hhi, hb⟩ := hrel
              have HHI := Lib.hid hhi
              have HK := Lib.hid hb
              have HROWK := Lib.hid (HROW5.out.keep hb)
              clear hhi hb
              obtain ⟨wi, hwi⟩ : ∃ z, z = wr := ⟨_, rfl⟩
              subst hwi
              by_cases hgo : 0 < k ∧ stp p q < stp p (S.getD (k - 1) 0)
              · skip
                as_aux_lemma =>
                  obtain ⟨h1, h2⟩ := hgo
                  have HN : Hid (∀ i, k - 1 ≤ i → i < S.length → stp p q < stp p (S.getD i 0)) := Lib.hid (fun i hi hl => by
                    rcases Nat.lt_or_ge i k with q | q
                    · rw [show i = k - 1 by omega]; exact h2
                    · exact HHI.out i q hl)
                  obtain ⟨gs, cs', hv, _, _, _, _⟩ := RowI.head HROWK.out (by omega)
                  injection hv with e1 e2 e3
                  subst e1 e3
                  have t1 := RowI.cell HROWK.out (i := k - 1) (by omega)
                  obtain ⟨x, hx⟩ : ∃ x, x = S.getD (k - 1) 0 := ⟨_, rfl⟩
                  rw [← hx] at t1 h2
                  unfold stp at h2
                  have hjk : k - 1 < S.length := by omega
                  have hcl : (S.length : Int) ≤ cs := by omega
                  have hk1 : (0 : Int) < (k : Int) := by omega
                  have HKW : Hid (wrap64 ((k : Int) - 1) = ((k - 1 : Nat) : Int)) := Lib.hid (by rw [IntWalk.wrap64_in _ (by omega)]; omega)
                  have HK1 : Hid (0 < k ∧ k ≤ S.length) := Lib.hid ⟨h1, hk⟩
                  clear hx
                  go_wp2_with fail
                  exact ⟨⟨k - 1, by have := HK1.out; omega, by rw [show (k : Int) - 1 = ((k - 1 : Nat) : Int) by have := HK1.out; omega], HN.out, HK.out⟩, by have := HK1.out; simp only [intOf]; omega⟩
              · skip
                as_aux_lemma =>
                  have HLO : Hid (0 < k → stp p (S.getD (k - 1) 0) < stp p q) := Lib.hid (fun h0 => by
                    have hne : S.getD (k - 1) 0 ≠ q := fun e => by
                      have hm : S.getD (k - 1) 0 ∈ S := by rw [show S.getD (k - 1) 0 = S[k - 1]'(by omega) by simp [List.getD, show k - 1 < S.length by omega]]; exact List.getElem_mem _
                      rw [e] at hm
                      have := HBC.out.symm
                      simp [hm] at this
                    have hmx : S.getD (k - 1) 0 ∈ S := by rw [show S.getD (k - 1) 0 = S[k - 1]'(by omega) by simp [List.getD, show k - 1 < S.length by omega]]; exact List.getElem_mem _
                    have b1 := HO.out.2.1 _ (HS6.out.2.2.2 _ hmx).1
                    have b2 : q ∈ L := by rw [HQ.out]; exact lkQ_mem p s i HNE.out
                    have b2 := HO.out.2.1 _ b2
                    have h3 : ¬ stp p q < stp p (S.getD (k - 1) 0) := fun h => hgo ⟨h0, h⟩
                    unfold stp at h3 ⊢
                    generalize S.getD (k - 1) 0 = y at *
                    omega)
                  have HIS : Hid (putS L p S q = S.take k ++ q :: S.drop k) := Lib.hid (by rw [HPS.out]; exact insS_take HS6.out.2.2.1 hk HHI.out HLO.out)
                  have hkc : k ≤ cs := by omega
                  have hcut1 := run_cut_to (P := Try.prog) rgElem asv S.length cs k hkc
                  rw [cutA_zero] at hcut1
                  have hcut2 := run_cut_from (P := Try.prog) rgElem asv S.length cs k hk hcs
                  have HC1 := Lib.hid hcut1
                  have HC2 := Lib.hid hcut2
                  have HKK : Hid (k ≤ S.length) := Lib.hid hk
                  have HHD : Hid (0 < S.length → ∃ g, asv = some ⟨g, 0, none⟩) := Lib.hid (fun h0 => by
                    obtain ⟨gs, cs', hv, _, _, _, _⟩ := RowI.head HROWK.out h0
                    injection hv with e1 e2 e3
                    exact ⟨gs, e1⟩)
                  clear hcut1 hcut2
                  rcases (show k = 0 ∨ 0 < k by omega) with hk0 | hk0
                  all_goals
                    first
                      | (have hk1 : ¬ (0 : Int) < (k : Int) := by omega
                         clear hgo hk0
                         go_upto_region 12 with fail
                         clear hk1)
                      | (obtain ⟨gs, hgs⟩ := HHD.out (by omega)
                         subst hgs
                         have t1 := RowI.cell HROWK.out (i := k - 1) (by omega)
                         have hlo := HLO.out hk0
                         obtain ⟨x, hx⟩ : ∃ x, x = S.getD (k - 1) 0 := ⟨_, rfl⟩
                         rw [← hx] at t1 hlo
                         have hjk : k - 1 < S.length := by omega
                         have hcl : (S.length : Int) ≤ cs := by omega
                         have hk1 : (0 : Int) < (k : Int) := by omega
                         unfold stp at hlo
                         have hxp : ¬ (q - p) % 4294967296 < (x - p) % 4294967296 := by omega
                         clear hx hgo
                         go_upto_region 12 with fail
                         clear t1 hlo hjk hcl hk1 hxp hk0)
                    have hcut1 := HC1.out
                    have hcut2 := HC2.out
                    have HKD := Lib.hid HK.out.drew
                    have HV0 := Lib.hid (HROWK.out.rd.keep (Below.refl _ _).drew)
                    have hv1 := HV0.out.cutA (lo := 0) (hi := k) (Nat.zero_le _) HKK.out
                    rw [cutA_zero, List.drop_zero, Nat.sub_zero, Nat.sub_zero] at hv1
                    have HV1 := Lib.hid hv1
                    have hv2 := HV0.out.cutA (lo := k) (hi := S.length) HKK.out (Nat.le_refl _)
                    rw [List.take_length] at hv2
                    have HV2 := Lib.hid hv2
                    clear hv1 hv2
                    refine Run.region_walk (S := fun _ => True)
                      rlinks.rows12 rlinks.plan12 (l := ?_) (by kernel_rfl) (by kernel_rfl) (by kernel_rfl) (by kernel_rfl) ?_ trivial ?_
                    rotate_left
                    (· simp only [rlinks.plan12, Run.stepsOf, Run.stepOf, Run.guardOf, List.getElem?_toArray, List.getElem?_cons_zero, List.getElem?_cons_succ, Option.map_some, Option.map_none, Option.bind_some, Option.toList_some, List.map_cons, List.map_nil, List.cons_append, List.nil_append, List.append_eq]
                       rfl)
                    repeat ((first
                      | (refine Run.takes (v := ?_) ?_ ?_; rotate_left; (· intro w' hS'; go_simp; (try with_reducible rfl)))
                      | (refine Run.takesG (v := ?_) ?_ ?_ ?_; rotate_left; (· simp only [List.getElem?_cons_zero, List.getElem?_cons_succ]); (· intro w' hS'; go_simp; (try with_reducible rfl)))
                      | (refine Run.skipsT ?_ ?_; (· simp only [List.getElem?_cons_zero, List.getElem?_cons_succ]))
                      | (refine Run.skipsF ?_ ?_; (· simp only [List.getElem?_cons_zero, List.getElem?_cons_succ]))
                      | (refine Run.skipsU ?_ ?_; (· simp only [List.getElem?_cons_zero, List.getElem?_cons_succ]))
                      | (refine Run.passT ?_ ?_; (· simp only [List.getElem?_cons_zero, List.getElem?_cons_succ]))
                      | (refine Run.passF ?_ ?_; (· simp only [List.getElem?_cons_zero, List.getElem?_cons_succ]))
                      | (refine Run.passU ?_ ?_; (· simp only [List.getElem?_cons_zero, List.getElem?_cons_succ]))
                      | fail); simp only [Act.put, List.setIfInBounds_toArray, List.set_cons_zero, List.set_cons_succ])
                    clear hcut1 hcut2
                    generalize wi.drew = wd at *
                    have hS64 : (S.take k).length ≤ 64 := by have := HS6.out; have := HM.out; simp; omega
                    have hT64 : (S.drop k).length ≤ 64 := by have := HS6.out; have := HM.out; simp; omega
                    obtain ⟨S1, hS1⟩ : ∃ x, x = S.take k := ⟨_, rfl⟩
                    obtain ⟨T1, hT1⟩ : ∃ x, x = S.drop k := ⟨_, rfl⟩
                    rw [← hS1] at HV1 hS64 HIS
                    rw [← hT1] at HV2 hT64 HIS
                    have HS64 := Lib.hid hS64
                    have HT64 := Lib.hid hT64
                    clear hS1 hT1 hS64 hT64
                    refine Run.both ?_ ?_
                    all_goals
                      first
                        | (refine Run.one (fun hS K1 hK1 => ?_)
                           refine wp_append (E := intE .u32) (B := wd.heap.size) (v := .slice none 0 0) (l := []) (m := S1) (bytes := 4) rgElem Nat.zero_lt_one (.const (.slice none 0 0)) (.tmp 78) rfl rfl Row.nil rfl HV1.out (by have := HS64.out; simp [maxLen]; omega) (by have := HS64.out; simp; omega) (Nat.le_refl _) ?_
                           intro vA wA hrA hkA hgA _
                           rw [List.nil_append] at hrA
                           have HRA := Lib.hid hrA
                           have HKA := Lib.hid hkA
                           obtain ⟨aA, cA, rfl, _, _⟩ := hrA.rd.form
                           refine hK1.out _ _ trivial ?_
                           clear hK1 K1 hS hrA hkA hgA
                           try simp only [Act.put, List.setIfInBounds_toArray, List.set_cons_zero, List.set_cons_succ]
                           refine Run.one (fun hS K1 hK1 => ?_)
                           go_simp
                           have hX : Below wA.heap.size wA (wA.alloc (.cells #[.int .u32 q] 23)) := more (Below.refl _ _) _
                           have HX := Lib.hid (Row.lit (E := intE .u32) wA.heap.size wA #[.int .u32 q] [q] 1 wA.heap.size rfl rfl rfl (Nat.le_refl _) (by simp [maxLen]) : Row (intE .u32) 23 wA.heap.size (wA.alloc (.cells #[.int .u32 q] 23)) (.slice (some ⟨wA.heap.size, 0, none⟩) 1 1) [q]).rd
                           have HRB := Lib.hid (HRA.out.keep hX)
                           have HKB := Lib.hid (nest HKA.out hX)
                           refine hK1.out _ _ trivial ?_
                           clear hK1 K1 hS hX HRA HKA
                           try simp only [Act.put, List.setIfInBounds_toArray, List.set_cons_zero, List.set_cons_succ]
                           generalize wA.alloc (.cells #[.int .u32 q] 23) = zB at *
                           skip)
                        | (refine Run.one (fun hS K1 hK1 => ?_)
                           go_simp
                           have hX : Below wd.heap.size wd (wd.alloc (.cells #[.int .u32 q] 23)) := more (Below.refl _ _) _
                           have HXX := Lib.hid (Row.lit (E := intE .u32) wd.heap.size wd #[.int .u32 q] [q] 1 wd.heap.size rfl rfl rfl (Nat.le_refl _) (by simp [maxLen]) : Row (intE .u32) 23 wd.heap.size (wd.alloc (.cells #[.int .u32 q] 23)) (.slice (some ⟨wd.heap.size, 0, none⟩) 1 1) [q])
                           have HV1B := Lib.hid (HV1.out.keep hX)
                           have HKA := Lib.hid hX
                           refine hK1.out _ _ trivial ?_
                           clear hK1 K1 hS hX
                           try simp only [Act.put, List.setIfInBounds_toArray, List.set_cons_zero, List.set_cons_succ]
                           generalize wd.alloc (.cells #[.int .u32 q] 23) = wA at *
                           refine Run.one (fun hS K1 hK1 => ?_)
                           refine wp_append (E := intE .u32) (B := wA.heap.size) (v := .slice none 0 0) (l := []) (m := S1) (bytes := 4) rgElem Nat.zero_lt_one (.const (.slice none 0 0)) (.tmp 78) rfl rfl Row.nil rfl HV1B.out (by have := HS64.out; simp [maxLen]; omega) (by have := HS64.out; simp; omega) (Nat.le_refl _) ?_
                           intro vA zB hrA hkA hgA _
                           rw [List.nil_append] at hrA
                           have HRB := Lib.hid (Row.mono hrA HKA.out.size)
                           have HX := Lib.hid (HXX.out.rd.keep hkA)
                           have HKB := Lib.hid (nest HKA.out hkA)
                           obtain ⟨aA, cA, rfl, _, _⟩ := hrA.rd.form
                           refine hK1.out _ _ trivial ?_
                           clear hK1 K1 hS hrA hkA hgA HXX HV1B HKA
                           try simp only [Act.put, List.setIfInBounds_toArray, List.set_cons_zero, List.set_cons_succ])
                      refine Run.runsS (Run.one (fun hS K1 hK1 => ?_))
                      refine wp_append (E := intE .u32) (B := wd.heap.size) (l := S1) (m := [q]) (bytes := 4) rgElem Nat.zero_lt_one (.tmp 79) (.tmp 81) rfl rfl HRB.out rfl HX.out (by have := HS64.out; simp [maxLen]; omega) (by have := HS64.out; simp; omega) HKB.out.size ?_
                      intro vC zC hrC hkC hgC _
                      have HRC := Lib.hid hrC
                      have HKC := Lib.hid (HKB.out.trans hkC)
                      obtain ⟨aC, cC, rfl, _, _⟩ := hrC.rd.form
                      refine hK1.out _ _ trivial (fun _ => ⟨fun _ => True, fun z h => h, trivial, ?_⟩)
                      clear hK1 K1 hS hrC hkC hgC HRB HX HKB
                      try simp only [Act.put, List.setIfInBounds_toArray, List.set_cons_zero, List.set_cons_succ]
                      refine Run.runsS (Run.one (fun hS K1 hK1 => ?_))
                      refine wp_append (E := intE .u32) (B := wd.heap.size) (l := S1 ++ [q]) (m := T1) (bytes := 4) rgElem Nat.zero_lt_one (.tmp 82) (.tmp 85) rfl rfl HRC.out rfl (HV2.out.keep HKC.out) (by have := HS64.out; have := HT64.out; simp [maxLen]; omega) (by have := HS64.out; have := HT64.out; simp; omega) HKC.out.size ?_
                      intro vE zE hrE hkE hgE _
                      obtain ⟨NN, hNN⟩ : ∃ x, x = S1 ++ [q] ++ T1 := ⟨_, rfl⟩
                      rw [← hNN] at hrE
                      have HN : Hid (NN = outS L p s (i + 1)) := Lib.hid (by rw [HST.out.1, HIS.out, hNN, List.append_assoc, List.singleton_append])
                      have HRE := Lib.hid hrE
                      have HKE := Lib.hid (HKC.out.trans hkE)
                      obtain ⟨aE, cE, rfl, _, _⟩ := hrE.rd.form
                      refine hK1.out _ _ trivial (fun _ => ⟨fun _ => True, fun z h => h, trivial, ?_⟩)
                      clear hK1 K1 hS hrE hkE hgE HRC HKC hNN
                      try simp only [Act.put, List.setIfInBounds_toArray, List.set_cons_zero, List.set_cons_succ]
                      repeat ((first
                        | (refine Run.takes (v := ?_) ?_ ?_; rotate_left; (· intro w' hS'; go_simp; (try with_reducible rfl)))
                        | (refine Run.takesG (v := ?_) ?_ ?_ ?_; rotate_left; (· simp only [List.getElem?_cons_zero, List.getElem?_cons_succ]); (· intro w' hS'; go_simp; (try with_reducible rfl)))
                        | (refine Run.skipsT ?_ ?_; (· simp only [List.getElem?_cons_zero, List.getElem?_cons_succ]))
                        | (refine Run.skipsF ?_ ?_; (· simp only [List.getElem?_cons_zero, List.getElem?_cons_succ]))
                        | (refine Run.skipsU ?_ ?_; (· simp only [List.getElem?_cons_zero, List.getElem?_cons_succ]))
                        | (refine Run.passT ?_ ?_; (· simp only [List.getElem?_cons_zero, List.getElem?_cons_succ]))
                        | (refine Run.passF ?_ ?_; (· simp only [List.getElem?_cons_zero, List.getElem?_cons_succ]))
                        | (refine Run.passU ?_ ?_; (· simp only [List.getElem?_cons_zero, List.getElem?_cons_succ]))
                        | fail); simp only [Act.put, List.setIfInBounds_toArray, List.set_cons_zero, List.set_cons_succ])
                      refine Run.ends (fun _ => ?_)
                      have HKW := Lib.hid (nest HKD.out HKE.out)
                      go_wp2_with fail
                      rw [HIW.out]
                      exact ⟨⟨i + 1, by have := HIM.out; omega, rfl, by rw [← HN.out]; exact HRE.out.mono (Nat.le_trans HT5.out.size HKD.out.size), by rw [HST.out.2]; exact HB5.out.keep HKW.out, HT5.out.trans (S' := fun _ => False) (Turned.of_below HKW.out) (fun _ _ h => h.elim)⟩, by have := HIM.out; simp only [intOf]; omega⟩
      · have him : i = m := by omega
        have hmin : ¬ (m : Int) < nm := by have := HM.out; have := HNM.out; omega
        subst him
        go_wp2_with fail
        go_ret
        exact ⟨_, rfl, by rw [HR.out.1, ← HSE.out]; exact HROW.out, by rw [HR.out.2]; exact HBW.out, HT.out⟩
end Go.Proofs.Ytoifmijbkfohhaa
