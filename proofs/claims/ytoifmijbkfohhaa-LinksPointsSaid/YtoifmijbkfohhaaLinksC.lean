/- Walks of package links: how far a link leads; the links of a point. -/
import Derived.Test.YtoifmijbkfohhaaRingC
import Derived.Test.YtoifmijbkfohhaaLkCode
import Derived.Test.YtoifmijbkfohhaaUSort
import Derived.Test.YtoifmijbkfohhaaDiceOwn
import Derived.Test.YtoifmijbkfohhaaLkoPlans
import Derived.Deep.CutBlock
import Derived.Deep.Light
set_option maxRecDepth 4000
namespace Go.Proofs.Ytoifmijbkfohhaa
open Go.RowKit Mem
open Go.Sort (Holds)
set_option linter.unusedSimpArgs false
set_option linter.unusedVariables false
attribute [local irreducible] Go.Calls

theorem turned_upto {S : Nat → Prop} {w w' z : World} {N : Nat} (h : Turned S w w') (k : Below N w' z) (hN : w.heap.size ≤ N) : Turned S w z := ⟨k.os.trans h.os, k.tape.trans h.tape, k.output.trans h.output, Nat.le_trans h.size k.size, fun j hj hs => (k.block j (by omega)).trans (h.block j hj hs)⟩
set_option maxRecDepth 100000 in
set_option maxHeartbeats 4000000 in
theorem lkfar_any (b : Nat) (s : Int) (bs : 0 ≤ s ∧ s ≤ 18446744073709551615) (w : World) (h : DAt w b s) :
    Calls Try.prog 12 #[.pointer (some ⟨b, 0, none⟩)] w fun e w' => e = .returned (.int .u32 (farV s)) ∧ DAt w' b (farS s) ∧ Only b w w' := by
  obtain ⟨k, hk, hd⟩ := droll_32 s
  have HD := Lib.hid hd
  have hda : dafter s 32 = dnext s := by unfold dafter; rw [if_neg (by omega)]
  have HDA := Lib.hid hda
  have HR := Lib.hid (ddroll_any b s bs 32 (by omega) w h)
  rw [hd, hda] at HR
  clear hd hda
  go_enter Try.func12, Try.ntmps12
  go_upto_region 1 with fail
  have hp32 : (2 : Int) ^ k ≤ 2147483648 := by
    have : (2 : Int) ^ k ≤ 2 ^ 31 := by
      have h := Nat.pow_le_pow_right (n := 2) (by decide) (show k ≤ 31 by omega)
      exact_mod_cast h
    simpa using this
  have hp1 : (1 : Int) ≤ (2 : Int) ^ k := by
    have h := Nat.one_le_two_pow (n := k)
    exact_mod_cast h
  obtain ⟨P, hP⟩ : ∃ P : Int, P = 2 ^ k := ⟨_, rfl⟩
  rw [← hP] at hp32 hp1
  obtain ⟨x, hx⟩ : ∃ x, x = dmix (dnext (dnext s)) := ⟨_, rfl⟩
  have hxb : 0 ≤ x ∧ x ≤ 18446744073709551615 := by rw [hx]; exact dmix_bd _
  have HF : Hid (farV s = P + x % P) := Lib.hid (by unfold farV; rw [HD.out, ← hx, Int.toNat_natCast, ← hP])
  have hm1 : P % 18446744073709551616 = P := Int.emod_eq_of_lt (by omega) (by omega)
  have hr0 := Int.emod_nonneg x (show P ≠ 0 by omega)
  have hr1 := Int.emod_lt_of_pos x (show 0 < P by omega)
  have hz : ¬ P = 0 := by omega
  have HX := Lib.hid hx
  have HP := Lib.hid hP
  clear hx
  go_wp2_with fail
  refine HR.out.mono ?_
  rintro e w1 ⟨rfl, hb, ho⟩
  have HB := Lib.hid hb
  have HO := Lib.hid ho
  clear hb ho HR
  go_wp2_with fail
  refine (dstep_any b (dnext s) (dnext_bd s) w1 HB.out).mono ?_
  rintro e w2 ⟨rfl, hb, ho⟩
  have HB2 := Lib.hid hb
  have HO2 := Lib.hid (HO.out.trans ho)
  clear hb ho HB HO
  rw [← HX.out, ← hP]
  clear hP
  go_wp2_with fail
  go_ret
  refine ⟨?_, HB2.out, HO2.out⟩
  rw [HF.out]
  rfl
theorem lkfar_nil (w : World) : Calls Try.prog 12 #[.pointer none] w fun e w' => e = .returned (.int .u32 1) ∧ Below w.heap.size w w' := by
  have HR := Lib.hid (ddroll_nil 32 (by omega) w)
  go_enter Try.func12, Try.ntmps12
  go_wp2_with fail
  refine HR.out.mono ?_
  rintro e w1 ⟨rfl, hk⟩
  have HK := Lib.hid hk
  clear hk HR
  go_wp2_with fail
  refine (dstep_nil w1).mono ?_
  rintro e w2 ⟨rfl, hk⟩
  have HK2 := Lib.hid (nest HK.out hk)
  clear hk HK
  go_wp2_with fail
  go_ret
  exact ⟨rfl, HK2.out⟩
set_option maxRecDepth 100000 in
theorem lkcmp_any (gp : Nat) (p x y : Int) (w : World) (h : w.cell? ⟨gp, 0, none⟩ = some (.int .u32 p)) :
    Calls Try.prog 26 #[.int .u32 x, .int .u32 y, .pointer (some ⟨gp, 0, none⟩)] w fun e w' => e = .returned (.int .i64 (Lib.compareInt (stp p x) (stp p y))) ∧ Gr w w' := by
  obtain ⟨CV, hCV⟩ : ∃ r, r = Lib.compareInt (stp p x) (stp p y) := ⟨_, rfl⟩
  have HCV := Lib.hid hCV
  rw [← hCV]
  clear hCV
  go_enter Try.func26, Try.ntmps26
  go_wp2_with fail
  refine (cmp32_any _ _ _).mono ?_
  rintro e z ⟨rfl, rfl⟩
  go_wp2_with fail
  go_ret
  exact ⟨by rw [HCV.out]; rfl, Gr.refl _⟩
set_option maxRecDepth 100000 in
set_option maxHeartbeats 8000000 in
theorem lkof_any (r d : Nat) (W R : Nat → Prop) (L : List Int) (p n s : Int) (w : World) (h : RgAt w r W R L) (hd : DAt w d s) (hR : ¬ R d) (bs : 0 ≤ s ∧ s ≤ 18446744073709551615) (bp : 0 ≤ p ∧ p ≤ 4294967295) (bn : -9223372036854775808 ≤ n ∧ n ≤ 9223372036854775807) :
    Calls Try.prog 9 #[.pointer (some ⟨r, 0, none⟩), .int .u32 p, .int .i64 n, .pointer (some ⟨d, 0, none⟩)] w fun e w' => ∃ v, e = .returned v ∧ Rd (intE .u32) w' v (linksR L p n s) ∧ DAt w' d (linksE L p n s) ∧ Turned (fun j => j = d) w w' := by
  have HO := Lib.hid h.ok
  have HNR := Lib.hid hR
  have HBS := Lib.hid bs
  have HBP := Lib.hid bp
  have HDL := Lib.hid hd.lt
  have hk := more (Below.refl w.heap.size w) (.cells #[.int .u32 p] 23)
  have HH := Lib.hid (h.turned (S := fun _ => False) (Turned.of_below hk) (fun _ _ h => h))
  have HD := Lib.hid (hd.keep hk)
  have HK := Lib.hid hk
  have HS1 := Lib.hid (size_alloc w (.cells #[.int .u32 p] 23))
  have HP := Lib.hid (Blk.new w 23 #[.int .u32 p])
  have HW := Lib.hid (show ∀ j, R j → j < w.heap.size from fun j hj => h.lt hj)
  obtain ⟨cn, hcn⟩ : ∃ cn, cn = L.contains p := ⟨_, rfl⟩
  have HCN := Lib.hid hcn
  clear h hd hR bs bp hk
  go_enter Try.func9, Try.ntmps9
  go_upto_region 1 with fail
  generalize w.alloc (.cells #[.int .u32 p] 23) = y at *
  obtain ⟨gp, hgp⟩ : ∃ g, g = w.heap.size := ⟨_, rfl⟩
  have HGP := Lib.hid hgp
  have dp : y.cell? ⟨gp, 0, none⟩ = some (.int .u32 p) := by rw [hgp]; exact HP.out.cell 0
  rw [← hgp]
  clear hgp HP
  have HHS := Lib.hid (rghas_any r W R L p y HH.out HBP.out)
  rw [← hcn] at HHS
  clear hcn
  go_wp2_with fail
  refine HHS.out.mono ?_
  rintro e w1 ⟨rfl, hk⟩
  have HH1 := Lib.hid (HH.out.turned (S := fun _ => False) (Turned.of_below hk) (fun _ _ h => h))
  have HD1 := Lib.hid (HD.out.keep hk)
  have HK1 := Lib.hid (nest HK.out hk)
  have dp1 := kc hk dp
  clear hk HH HD HK dp HHS
  cases cn with
  | false =>
    have HR : Hid (linksR L p n s = [] ∧ linksE L p n s = s) := Lib.hid (by unfold linksR linksE; rw [← HCN.out]; exact ⟨rfl, rfl⟩)
    go_wp2_with fail
    go_ret
    exact ⟨_, rfl, by rw [HR.out.1]; exact Rd.nil _ _ (Nat.zero_le _), by rw [HR.out.2]; exact HD1.out, Turned.of_below HK1.out⟩
  | true =>
    obtain ⟨m, hm⟩ : ∃ m, m = (min n 6).toNat := ⟨_, rfl⟩
    have HR : Hid (linksR L p n s = outS L p s m ∧ linksE L p n s = stS s m) := Lib.hid (by unfold linksR linksE; rw [← HCN.out, hm]; exact ⟨rfl, rfl⟩)
    have HM : Hid (m = (min n 6).toNat ∧ m ≤ 6) := Lib.hid ⟨hm, by omega⟩
    have HNE : Hid (L ≠ []) := Lib.hid (fun e => by have := HCN.out; rw [e] at this; cases this)
    clear hm
    obtain ⟨nm, hnm⟩ : ∃ x, (if 6 < n then 6 else n) = x := ⟨_, rfl⟩
    have HNM : Hid (nm = min n 6) := Lib.hid (by rw [← hnm]; split <;> omega)
    have hmi : min n 6 = nm := HNM.out.symm
    go_upto_region 4 with (go_at_call 23; refine (rgnext_any r W R L p w1 HH1.out HBP.out).mono ?_; rintro e w2 ⟨rfl, hk2⟩)
    have HH2 := Lib.hid (HH1.out.turned (S := fun _ => False) (Turned.of_below hk2) (fun _ _ h => h))
    have HD2 := Lib.hid (HD1.out.keep hk2)
    have HK2 := Lib.hid (nest HK1.out hk2)
    have dp2 := kc hk2 dp1
    obtain ⟨nx, hnx⟩ : ∃ x, x = (nextR L p).1 := ⟨_, rfl⟩
    rw [← hnx]
    have HNX := Lib.hid hnx
    generalize (nextR L p).2 = nis
    clear hk2 HK1 hnx HH1 HD1 dp1
    go_upto_block 99 with fail
    obtain ⟨N, hN⟩ : ∃ N, N = w2.heap.size := ⟨_, rfl⟩
    have HN : Hid (N = w2.heap.size ∧ gp < N ∧ w.heap.size ≤ N ∧ d < N ∧ gp ≠ d) := Lib.hid ⟨hN, by have := World.block_lt_of_cell? w2 _ dp2; rw [hN]; exact this, by rw [hN]; exact HK2.out.size, by have := HDL.out; have := HK2.out.size; omega, by have := HDL.out; have := HGP.out; omega⟩
    clear hN
    go_loopw [11, 26] (fun sv iv wr => ∃ i : Nat, i ≤ m ∧ iv = .int .i64 i ∧ Row (intE .u32) 23 N wr sv (lkU L p s i) ∧ DAt wr d (stS s i) ∧ Turned (fun j => j = d) w2 wr) (fun _ iv _ => m - (intOf iv).toNat)
    case atStart => exact ⟨0, Nat.zero_le _, rfl, Row.nil, HD2.out, Turned.refl _ _⟩
    case round =>
      obtain ⟨i, hi, rfl, hrow, hbd, ht⟩ := hrel
      have HROW := Lib.hid hrow
      have HBW := Lib.hid hbd
      have HT := Lib.hid ht
      have dpw : wr.cell? ⟨gp, 0, none⟩ = some (.int .u32 p) := ht.cell dp2 HN.out.2.2.2.2
      have HHW := Lib.hid (HH2.out.turned ht (fun j hj e => HNR.out (e ▸ hj)))
      clear hbd ht
      by_cases hlt : i < m
      · skip
        as_aux_lemma =>
          obtain ⟨asv, cs, rfl, hcs, hms⟩ := hrow.rd.form
          have hms' : cs ≤ 9223372036854775807 := hms
          have HLEN := Lib.hid (lkU_len (L := L) p s i)
          obtain ⟨S, hS⟩ : ∃ S, S = lkU L p s i := ⟨_, rfl⟩
          have HSE := Lib.hid hS
          rw [← hS] at HROW HLEN hcs ⊢
          clear hrow hS hms dp2
          have hmin : (i : Int) < nm := by have := HM.out; have := HNM.out; omega
          have HIM := Lib.hid hlt
          have HIW : Hid (wrap64 ((i : Int) + 1) = ((i + 1 : Nat) : Int)) := Lib.hid (by have := HM.out.2; rw [IntWalk.wrap64_in _ (by omega)]; omega)
          clear hi
          obtain ⟨fv, hfv⟩ : ∃ x, x = farV (stS s i) := ⟨_, rfl⟩
          obtain ⟨q, hq⟩ : ∃ x, x = (ownR L ((p + fv) % 4294967296)).1 := ⟨_, rfl⟩
          have HF := Lib.hid (lkfar_any d (stS s i) (stS_bd HBS.out i) wr.drew (HBW.out.keep (Below.refl _ _).drew))
          rw [← hfv] at HF
          have HQ : Hid (q = lkQ L p s i) := Lib.hid (by rw [hq, hfv]; rfl)
          have HOW : Hid (∀ z, RgAt z r W R L → Calls Try.prog 24 #[.pointer (some ⟨r, 0, none⟩), .int .u32 ((p + fv) % 4294967296)] z fun e w' => e = .returned (.tuple #[.int .u32 q, .bool true]) ∧ Below z.heap.size z w') := Lib.hid (fun z hz => by
            have h1 := rgowner_any r W R L ((p + fv) % 4294967296) z hz (by omega)
            rw [(own_head _ HNE.out).1, ← hq] at h1
            exact h1)
          have HST : Hid (lkU L p s (i + 1) = (if q = p ∨ q = nx then S else S ++ [q]) ∧ stS s (i + 1) = farS (stS s i)) := Lib.hid (by rw [HQ.out, HSE.out, HNX.out]; exact ⟨rfl, rfl⟩)
          clear hfv hq
          go_upto_region 7 with fail
          refine Run.region_walk (S := fun z => z.cell? ⟨gp, 0, none⟩ = some (.int .u32 p))
            lkof.rows7 lkof.plan7 (l := ?steps1) (by kernel_rfl) (by kernel_rfl) (by kernel_rfl) (by kernel_rfl) ?written1 (kc (Below.refl _ _).drew dpw) ?onward1
          case written1 =>
            simp only [lkof.plan7, Run.stepsOf, Run.stepOf, Run.guardOf, List.getElem?_toArray, List.getElem?_cons_zero, List.getElem?_cons_succ, Option.map_some, Option.map_none, Option.bind_some, Option.toList_some, List.map_cons, List.map_nil, List.cons_append, List.nil_append, List.append_eq]
            rfl
          repeat ((first
            | (refine Run.takes (v := ?_) ?_ ?_; rotate_left; (· intro w' hS'; go_simp; (try with_reducible rfl)))
            | (refine Run.takesG (v := ?_) ?_ ?_ ?_; rotate_left; (· simp only [List.getElem?_cons_zero, List.getElem?_cons_succ]); (· intro w' hS'; go_simp; (try with_reducible rfl)))
            | (refine Run.skipsT ?_ ?_; (· simp only [List.getElem?_cons_zero, List.getElem?_cons_succ]))
            | (refine Run.skipsF ?_ ?_; (· simp only [List.getElem?_cons_zero, List.getElem?_cons_succ]))
            | (refine Run.skipsU ?_ ?_; (· simp only [List.getElem?_cons_zero, List.getElem?_cons_succ]))
            | (refine Run.passT ?_ ?_; (· simp only [List.getElem?_cons_zero, List.getElem?_cons_succ]))
            | (refine Run.passF ?_ ?_; (· simp only [List.getElem?_cons_zero, List.getElem?_cons_succ]))
            | (refine Run.passU ?_ ?_; (· simp only [List.getElem?_cons_zero, List.getElem?_cons_succ]))
            | fail); simp only [Act.put, List.setIfInBounds_toArray, List.set_cons_zero, List.set_cons_succ])
          refine Run.runsS (Run.callF 12 (by kernel_rfl) (fun hS => HF.out) rfl ?_)
          rintro hS e w3 ⟨rfl, hb3, ho3⟩
          have ht3 : Turned (fun j => j = d) wr w3 := (Turned.of_below (Below.refl _ _).drew).trans (S' := fun j => j = d) (Turned.of_only ho3 rfl) (fun _ _ h => h)
          have dp3 := ht3.cell dpw HN.out.2.2.2.2
          refine ⟨_, rfl, dp3, fun _ => ⟨fun z => z.cell? ⟨gp, 0, none⟩ = some (.int .u32 p), fun z h => h, dp3, ?_⟩⟩
          have HB3 := Lib.hid hb3
          have HT3 := Lib.hid ht3
          clear hS hb3 ho3 ht3 HF
          simp only [Act.put, List.setIfInBounds_toArray, List.set_cons_zero, List.set_cons_succ]
          repeat ((first
            | (refine Run.takes (v := ?_) ?_ ?_; rotate_left; (· intro w' hS'; go_simp; (try with_reducible rfl)))
            | (refine Run.takesG (v := ?_) ?_ ?_ ?_; rotate_left; (· simp only [List.getElem?_cons_zero, List.getElem?_cons_succ]); (· intro w' hS'; go_simp; (try with_reducible rfl)))
            | (refine Run.skipsT ?_ ?_; (· simp only [List.getElem?_cons_zero, List.getElem?_cons_succ]))
            | (refine Run.skipsF ?_ ?_; (· simp only [List.getElem?_cons_zero, List.getElem?_cons_succ]))
            | (refine Run.skipsU ?_ ?_; (· simp only [List.getElem?_cons_zero, List.getElem?_cons_succ]))
            | (refine Run.passT ?_ ?_; (· simp only [List.getElem?_cons_zero, List.getElem?_cons_succ]))
            | (refine Run.passF ?_ ?_; (· simp only [List.getElem?_cons_zero, List.getElem?_cons_succ]))
            | (refine Run.passU ?_ ?_; (· simp only [List.getElem?_cons_zero, List.getElem?_cons_succ]))
            | fail); simp only [Act.put, List.setIfInBounds_toArray, List.set_cons_zero, List.set_cons_succ])
          have HH3 := Lib.hid (HHW.out.turned HT3.out (fun j hj e => HNR.out (e ▸ hj)))
          refine Run.runsS (Run.callF 24 (by kernel_rfl) (fun hS => HOW.out _ HH3.out) rfl ?_)
          rintro hS e w4 ⟨rfl, hk4⟩
          have dp4 := kc hk4 dp3
          refine ⟨_, rfl, dp4, fun _ => ⟨fun z => z.cell? ⟨gp, 0, none⟩ = some (.int .u32 p), fun z h => h, dp4, ?_⟩⟩
          have HT4 := Lib.hid (HT3.out.trans (S' := fun _ => False) (Turned.of_below hk4) (fun _ _ h => h.elim))
          have HB4 := Lib.hid (HB3.out.keep hk4)
          clear hS hk4 HOW HB3 HT3 dp3
          simp only [Act.put, List.setIfInBounds_toArray, List.set_cons_zero, List.set_cons_succ]
          repeat ((first
            | (refine Run.takes (v := ?_) ?_ ?_; rotate_left; (· intro w' hS'; go_simp; (try with_reducible rfl)))
            | (refine Run.takesG (v := ?_) ?_ ?_ ?_; rotate_left; (· simp only [List.getElem?_cons_zero, List.getElem?_cons_succ]); (· intro w' hS'; go_simp; (try with_reducible rfl)))
            | (refine Run.skipsT ?_ ?_; (· simp only [List.getElem?_cons_zero, List.getElem?_cons_succ]))
            | (refine Run.skipsF ?_ ?_; (· simp only [List.getElem?_cons_zero, List.getElem?_cons_succ]))
            | (refine Run.skipsU ?_ ?_; (· simp only [List.getElem?_cons_zero, List.getElem?_cons_succ]))
            | (refine Run.passT ?_ ?_; (· simp only [List.getElem?_cons_zero, List.getElem?_cons_succ]))
            | (refine Run.passF ?_ ?_; (· simp only [List.getElem?_cons_zero, List.getElem?_cons_succ]))
            | (refine Run.passU ?_ ?_; (· simp only [List.getElem?_cons_zero, List.getElem?_cons_succ]))
            | fail); simp only [Act.put, List.setIfInBounds_toArray, List.set_cons_zero, List.set_cons_succ])
          refine Run.ends (fun hS => ?_)
          clear hS
          have HROW4 := Lib.hid (HROW.out.turned HT4.out (fun g hg e => by have := (HROW.out.block g hg).1; have := HN.out.2.2.2.1; omega))
          have HT24 := Lib.hid (HT.out.trans (S' := fun j => j = d) HT4.out (fun _ _ h => h))
          clear HHW HH3 HROW HBW HT dpw hmin
          by_cases hqp : q = p
          · have HPS : Hid (lkU L p s (i + 1) = S) := Lib.hid (by rw [HST.out.1, if_pos (.inl hqp)])
            subst hqp
            go_wp2_with fail
            go_roundw
            case rel => exact ⟨i + 1, by have := HIM.out; omega, by rw [HIW.out], by rw [HPS.out]; exact HROW4.out, by rw [HST.out.2]; exact HB4.out, HT24.out⟩
            case measure => rw [HIW.out]; have := HIM.out; simp only [intOf]; omega
          by_cases hqn : q = nx
          · have HPS : Hid (lkU L p s (i + 1) = S) := Lib.hid (by rw [HST.out.1, if_pos (.inr hqn)])
            subst hqn
            have hqp1 : (q == p) = false := beq_eq_false_iff_ne.2 hqp
            go_wp2_with fail
            go_roundw
            case rel => exact ⟨i + 1, by have := HIM.out; omega, by rw [HIW.out], by rw [HPS.out]; exact HROW4.out, by rw [HST.out.2]; exact HB4.out, HT24.out⟩
            case measure => rw [HIW.out]; have := HIM.out; simp only [intOf]; omega
          have HPS : Hid (lkU L p s (i + 1) = S ++ [q]) := Lib.hid (by rw [HST.out.1, if_neg (by rintro (h | h); exact hqp h; exact hqn h)])
          have hqp1 : (q == p) = false := beq_eq_false_iff_ne.2 hqp
          have hqn1 : (q == nx) = false := beq_eq_false_iff_ne.2 hqn
          have hqp2 : (q != p) = true := by simp [hqp]
          have hqn2 : (q != nx) = true := by simp [hqn]
          have hX : Below w4.heap.size w4 (w4.alloc (.cells #[.int .u32 q] 23)) := more (Below.refl _ _) _
          have HX := Lib.hid hX
          have HFR : Hid (Rd (intE .u32) (w4.alloc (.cells #[.int .u32 q] 23)) (.slice (some ⟨w4.heap.size, 0, none⟩) 1 1) [q]) := Lib.hid (Rd.fresh w4 q _ _ _ rfl rfl)
          have HN4 : Hid (N ≤ w4.heap.size) := Lib.hid (by have := HT24.out.size; have := HN.out.1; omega)
          clear hX
          go_wp2_with (at_builtin; go_must (refine wpList_append (E := intE .u32) (B := N) (l := S) (m := [q]) (bytes := 4) u32Elem32 Nat.zero_lt_one rfl (.tmp 45) (.tmp 47) rfl rfl (HROW4.out.keep HX.out) rfl HFR.out (by have := HLEN.out; have := HIM.out; have := HM.out; simp [maxLen]; omega) (by have := HLEN.out; have := HIM.out; have := HM.out; simp; omega) (by have := HN4.out; have := HX.out.size; omega) ?_); intro v9 z hr9 hk9 hg9 hw9)
          have hk4 : Below N w4 z := (HX.out.mono HN4.out).trans hk9
          go_roundw
          case rel => exact ⟨i + 1, by have := HIM.out; omega, by rw [HIW.out], by rw [HPS.out]; exact hr9, by rw [HST.out.2]; exact Blk.below HB4.out hk4 HN.out.2.2.2.1, turned_upto HT24.out hk4 (Nat.le_of_eq HN.out.1.symm)⟩
          case measure => rw [HIW.out]; have := HIM.out; simp only [intOf]; omega
      · have hmin : ¬ (i : Int) < nm := by have := HM.out; have := HNM.out; omega
        have him : i = m := by omega
        subst him
        have HROWR := Lib.hid hrow
        rcases hrow.form with ⟨rfl, hl⟩ | ⟨g, c, rfl, hg1, hg2, hc1, hc2⟩
        · have HE : Hid (outS L p s i = []) := Lib.hid (by
            have := lkU_is HO.out HNE.out p s i (l := []) (by rw [hl]) List.Pairwise.nil
            rw [← this]; rfl)
          clear hrow hl
          go_wp2_with (go_at_call 25; refine (sort32_none _ wr).mono ?_; rintro e w3 ⟨rfl, rfl⟩)
          go_wp2_with (go_at_call 28; refine (ucpt_none none 0 w3).mono ?_; rintro e w4 ⟨rfl, rfl⟩)
          go_ret
          exact ⟨_, rfl, by rw [HR.out.1, HE.out]; exact Rd.nil _ _ (Nat.zero_le _), by rw [HR.out.2]; exact HBW.out, (Turned.of_below HK2.out).trans (S' := fun j => j = d) HT.out (fun _ _ h => h)⟩
        · have HG : Hid (N ≤ g ∧ gp ≠ g ∧ d ≠ g ∧ w.heap.size ≤ g ∧ w.heap.size ≤ wr.heap.size) := Lib.hid (by have := HN.out; have := HT.out.size; omega)
          have HB := Lib.hid (lkU_bd HO.out HNE.out p s i)
          have HLEN := Lib.hid (lkU_len (L := L) p s i)
          obtain ⟨U, hU⟩ : ∃ U, U = lkU L p s i := ⟨_, rfl⟩
          have HU := Lib.hid hU
          rw [← hU] at HROWR hc1 HLEN hrow ⊢
          have HSO := Lib.hid (usort_any 26 #[.pointer (some ⟨gp, 0, none⟩)] (stp p) g c U wr (Run.callFunc_enters (by kernel_rfl)) (holdsU_of_row hrow) hg2 (by have := HLEN.out; have := HM.out; omega) (fun z hz x y => lkcmp_any gp p x y z (hz.cell dpw HG.out.2.1)))
          have hc63 : c ≤ 9223372036854775807 := hc2
          have HC := Lib.hid hc1
          clear hrow hU
          go_wp2_with (go_at_call 25; refine HSO.out.mono ?_; rintro e w3 ⟨rfl, l', hperm, hsort, hh3, ho3⟩)
          have hll : l'.length = U.length := hperm.length_eq
          have hcp := ucpt_any g c l' w3 hh3 (by have := HC.out; omega) (by have := HLEN.out; have := HM.out; omega)
          have hle : (Lib.compactUpTo l'.toArray l'.length).length ≤ l'.length := by
            unfold Lib.compactUpTo
            rw [List.length_map]
            exact Nat.le_trans (List.length_filter_le _ _) (by simp)
          have HLL := Lib.hid hle
          rw [hll] at hcp HLL
          have HIS : Hid (Lib.compactUpTo l'.toArray U.length = outS L p s i) := Lib.hid (by rw [← hll]; exact lkU_is HO.out HNE.out p s i (by rw [← HU.out]; exact hperm) hsort)
          have HO3 := Lib.hid ho3
          have HCP := Lib.hid hcp
          clear hcp hh3 ho3 hperm hsort hll hle HSO
          obtain ⟨M, hM⟩ : ∃ M, M = Lib.compactUpTo l'.toArray U.length := ⟨_, rfl⟩
          rw [← hM] at HCP HLL HIS
          clear hM
          refine HCP.out.mono ?_
          rintro e w4 ⟨rfl, hh4, ho4⟩
          have HRD := Lib.hid (rdU_of_holds (c := c) hh4 (by have := HLL.out; have := HC.out; omega) hc2)
          have HO4 := Lib.hid (HO3.out.trans ho4)
          clear hh4 ho4 HCP
          go_wp2_with fail
          go_ret
          refine ⟨_, rfl, by rw [HR.out.1, ← HIS.out]; exact HRD.out, by rw [HR.out.2]; exact Blk.only HBW.out HO4.out HG.out.2.2.1, ?_⟩
          exact ((Turned.of_below HK2.out).trans (S' := fun j => j = d) HT.out (fun _ _ h => h)).trans (S' := fun j => w.heap.size ≤ j) (Turned.of_only HO4.out HG.out.2.2.2.1) (fun j hj h => by omega)
end Go.Proofs.Ytoifmijbkfohhaa
