/- Walk of the law RingOwns. -/
import Derived.Test.YtpgljdngbiicmaaRgLaw
import Derived.Test.YtpgljdngbiicmaaRgPlans
import Derived.Test.YtpgljdngbiicmaaRef
set_option maxRecDepth 4000
namespace Go.Proofs.Ytpgljdngbiicmaa.ringOwns
open Go.RowKit Mem
set_option linter.unusedSimpArgs false
set_option linter.unusedVariables false
attribute [local irreducible] Go.Calls

/-- how many values the first i spans have -/
def szR (L : List Int) (i : Nat) : Int := if i = 0 then 0 else 4294967296 - (L.getD (L.length - 1) 0 - L.getD (i - 1) 0)
theorem szR_step {L : List Int} (h : okR L) {i : Nat} (hi : i < L.length) : szR L (i + 1) = szR L i + Cir.beh (predR L (L.getD i 0)) (L.getD i 0) := by
  have hg : ∀ j (hj : j < L.length), L.getD j 0 = L[j] := fun j hj => by simp [List.getD, hj]
  have hl : L.length - 1 < L.length := by omega
  rw [hg i hi, pred_at h hi]
  unfold szR Cir.beh
  rw [if_neg (by omega), show i + 1 - 1 = i by omega, hg i hi, hg _ hl]
  have bi := h.2.1 _ (List.getElem_mem hi)
  have bl := h.2.1 _ (List.getElem_mem hl)
  rcases Nat.eq_zero_or_pos i with h0 | h0
  · subst h0
    have e : (0 + (L.length - 1)) % L.length = L.length - 1 := by rw [Nat.zero_add]; exact Nat.mod_eq_of_lt (by omega)
    simp only [e, if_pos]
    have h1 : L[0] ≤ L[L.length - 1] := by
      by_cases e2 : L.length - 1 = 0
      · simp only [e2]; exact Int.le_refl _
      · exact Int.le_of_lt (sorted_lt h.1 hl (by omega))
    omega
  · have e : (i + (L.length - 1)) % L.length = i - 1 := by
      rw [show i + (L.length - 1) = (i - 1) + L.length by omega, Nat.add_mod_right]
      exact Nat.mod_eq_of_lt (by omega)
    simp only [e]
    rw [if_neg (by omega), hg (i - 1) (by omega)]
    have b1 := h.2.1 _ (List.getElem_mem (show i - 1 < L.length by omega))
    have h1 : L[i - 1] < L[i] := sorted_lt h.1 hi (by omega)
    omega
theorem szR_bd {L : List Int} (h : okR L) {i : Nat} (hi : i ≤ L.length) : 0 ≤ szR L i ∧ szR L i ≤ 4294967296 := by
  unfold szR
  by_cases h0 : i = 0
  · rw [if_pos h0]; omega
  · rw [if_neg h0]
    have hg : ∀ j (hj : j < L.length), L.getD j 0 = L[j] := fun j hj => by simp [List.getD, hj]
    rw [hg (L.length - 1) (by omega), hg (i - 1) (by omega)]
    have b1 := h.2.1 _ (List.getElem_mem (show L.length - 1 < L.length by omega))
    have b2 := h.2.1 _ (List.getElem_mem (show i - 1 < L.length by omega))
    have : L[i - 1] ≤ L[L.length - 1] := by
      by_cases e2 : i - 1 = L.length - 1
      · simp only [e2]; exact Int.le_refl _
      · exact Int.le_of_lt (sorted_lt h.1 (by omega) (by omega))
    omega
theorem szR_all {L : List Int} (hL : 0 < L.length) : szR L L.length = 4294967296 := by
  unfold szR
  rw [if_neg (by omega)]
  omega
/-- how often the owner was met -/
def metR (L : List Int) (p : Int) (i : Nat) : Nat := if (L.take i).contains p then 1 else 0
theorem metR_step {L : List Int} (h : okR L) {p : Int} {i : Nat} (hi : i < L.length) : metR L p (i + 1) = metR L p i + (if L.getD i 0 = p then 1 else 0) := by
  unfold metR
  rw [any_step hi]
  have hg : L.getD i 0 = L[i] := by simp [List.getD, hi]
  rw [hg]
  by_cases e : L[i] = p
  · have hn : (L.take i).contains p = false := by
      rw [Bool.eq_false_iff]
      intro hc
      have hm : p ∈ L.take i := by simpa using hc
      obtain ⟨j, hj, he⟩ := List.getElem_of_mem hm
      rw [List.length_take] at hj
      rw [List.getElem_take] at he
      have := sorted_lt h.1 hi (show j < i by omega)
      omega
    rw [hn, if_pos e]
    simp [e]
  · rw [if_neg e, show (L[i] == p) = false from beq_eq_false_iff_ne.2 e, Bool.or_false]
    rfl

set_option maxRecDepth 100000 in
set_option maxHeartbeats 8000000 in
theorem walk (v : Value) (l : List Int) (t : Int) (bt : 0 ≤ t ∧ t ≤ 4294967295) (w : World) (h : Rd (intE .u32) w v l) (hb : ∀ x ∈ l, 0 ≤ x ∧ x ≤ 4294967295) :
    Calls Try.prog 4 #[v, .int .u32 t] w fun e w' => e = .returned (.bool true) ∧ Below w.heap.size w w' := by
  obtain ⟨a, g, o, c, rfl, hc, hm, ha, hcells⟩ := Mem.Rd.loopI h
  have hm' : c ≤ 9223372036854775807 := hm
  have HA := Lib.hid ha
  have HC := Lib.hid hcells
  have HB := Lib.hid hb
  have HBT := Lib.hid bt
  clear h ha hcells hm hb bt
  go_enter Try.func4, Try.ntmps4
  go_wp2_with fail
  refine (rgnew_any w).mono ?_
  rintro e w1 ⟨b, W, R, rfl, hp, hr, hk⟩
  have HP := Lib.hid (rg_new (B := w.heap.size) hp hr (Nat.le_refl _))
  have HK := Lib.hid hk
  clear hp hr hk
  go_upto_block 99 with fail
  go_loopw [6] (fun iv wr => ∃ i : Nat, i ≤ l.length ∧ i ≤ 40 ∧ iv = .int .i64 i ∧ Rg w.heap.size wr b (addsR [] (l.take i)) ∧ Below w.heap.size w wr) (fun iv _ => 40 - (intOf iv).toNat)
  case atStart => exact ⟨0, Nat.zero_le _, Nat.zero_le _, rfl, HP.out, HK.out⟩
  case round =>
    obtain ⟨i, hi, hi40, rfl, hp, hk⟩ := hrel
    have HP2 := Lib.hid hp
    have HK2 := Lib.hid hk
    have HF := Lib.hid (addsR_facts l HB.out i hi (by omega))
    clear hp hk HP HK
    by_cases hin : i < l.length ∧ i < 40
    · obtain ⟨h1, h2⟩ := hin
      obtain ⟨rfl, hg⟩ := HA.out (by omega)
      have d0 := kc HK2.out (HC.out i h1)
      have HST := Lib.hid (addsR_step [] h1)
      have HBX : Hid (0 ≤ l.getD i 0 ∧ l.getD i 0 ≤ 4294967295) := Lib.hid (HB.out _ (by rw [show l.getD i 0 = l[i] by simp [List.getD, h1]]; exact List.getElem_mem h1))
      obtain ⟨x, hx⟩ : ∃ x, x = l.getD i 0 := ⟨_, rfl⟩
      rw [← hx] at d0 HST HBX
      have hil : (i : Int) < (l.length : Int) := by omega
      have hi4 : (i : Int) < 40 := by omega
      clear hx hg
      go_wp2_with fail
      refine (rg_add w.heap.size b _ x wr HP2.out HK2.out.size HBX.out).mono ?_
      rintro e w3 ⟨rfl, hp, hk⟩
      have HP3 := Lib.hid hp
      have HK3 := Lib.hid (HK2.out.trans hk)
      clear hp hk HP2 HK2
      go_wp2_with fail
      exact ⟨⟨i + 1, by omega, by omega, by go_num, by rw [HST.out]; exact HP3.out, HK3.out⟩, by simp [intOf]; omega⟩
    obtain ⟨L, hL⟩ : ∃ L, L = addsR [] (l.take i) := ⟨_, rfl⟩
    rw [← hL] at HP2 HF
    clear hL HA HC
    have HO := Lib.hid HP2.out.ok
    have HLN : Hid (L.length ≤ 64) := Lib.hid HO.out.2.2
    have HIS : Hid ((ownR L t).2 = !L.isEmpty) := Lib.hid rfl
    have HMEM : Hid (L ≠ [] → (ownR L t).1 ∈ L) := Lib.hid (fun hL => (own_head t hL).2)
    have HOS : Hid (∀ p ∈ L, decide (Cir.beh (predR L p) t ≤ Cir.beh (predR L p) p) = decide (p = (ownR L t).1)) := Lib.hid (fun p hp => by
      have := own_span HO.out (v := t) HBT.out hp
      unfold Cir.beh
      refine decide_eq_decide.2 ⟨fun h => (this.1 (by omega)).symm, fun h => ?_⟩
      have := this.2 h.symm
      omega)
    obtain ⟨ow, iw⟩ : ∃ q, q = ownR L t := ⟨_, rfl⟩
    obtain ⟨ow, isw⟩ := ow
    rw [← iw] at HIS HMEM HOS
    have HOW := Lib.hid iw
    clear iw
    rcases (show ¬ (i : Int) < (l.length : Int) ∨ ((i : Int) < (l.length : Int) ∧ ¬ (i : Int) < 40) by omega) with q | ⟨q1, q2⟩
    all_goals
      go_wp2_with fail
      refine (rg_points w.heap.size b L wr HP2.out).mono ?_
      rintro e w3 ⟨vp, rfl, hv, hk⟩
      have HP3 := Lib.hid (HP2.out.keep hk)
      have HK3 := Lib.hid (nest HK2.out hk)
      have HV3 := Lib.hid hv
      obtain ⟨ap, cp, rfl, hcp, hmp⟩ := hv.form
      have hmp' : cp ≤ 9223372036854775807 := hmp
      clear hv hk hmp HP2 HK2
      go_wp2_with fail
      refine (rg_owner w.heap.size b L t w3 HP3.out HBT.out).mono ?_
      rw [← HOW.out]
      rintro e w4 ⟨rfl, hk⟩
      have HP4 := Lib.hid (HP3.out.keep hk)
      have HK4 := Lib.hid (nest HK3.out hk)
      have HV4 := Lib.hid (HV3.out.keep hk)
      clear hk HP3 HK3 HV3
      go_wp2_with fail
      refine (rgawake_any w4).mono ?_
      rintro e w5 ⟨rfl, hk⟩
      have HP5 := Lib.hid (HP4.out.keep hk)
      have HK5 := Lib.hid (nest HK4.out hk)
      have HV5 := Lib.hid (HV4.out.keep hk)
      clear hk HP4 HK4 HV4
      have hisw : isw = decide (0 < L.length) := by rw [HIS.out]; cases L <;> simp
      rw [hisw]
      clear hisw
      obtain ⟨a5, gp, op, c5, hvv, hc5, hm5, ha5, hep⟩ := Mem.Rd.loopI HV5.out
      injection hvv with e1 e2 e3
      subst e1 e3
      have HAP := Lib.hid ha5
      have HEP := Lib.hid hep
      clear ha5 hep e2 hm5
      go_upto_block 99 with fail
      go_loopw [10, 11, 12] (fun nv sv jv wr => ∃ j : Nat, j ≤ L.length ∧ nv = .int .i64 (metR L ow j) ∧ sv = .int .u64 (szR L j) ∧ jv = .int .i64 j ∧ Rg w.heap.size wr b L ∧ Below w5.heap.size w5 wr) (fun _ _ jv _ => L.length - (intOf jv).toNat)
      case atStart => exact ⟨0, Nat.zero_le _, by simp [metR], rfl, rfl, HP5.out, Below.refl _ _⟩
      case round =>
        obtain ⟨j, hj, rfl, rfl, rfl, hp, hb⟩ := hrel
        have HP6 := Lib.hid hp
        have HK6 := Lib.hid (nest HK5.out hb)
        by_cases hlt : j < L.length
        · obtain ⟨rfl, hgp⟩ := HAP.out (by omega)
          have t0 := kc hb (HEP.out j hlt)
          have HMN := Lib.hid (metR_step HO.out (p := ow) hlt)
          have HSZ := Lib.hid (szR_step HO.out hlt)
          have hsb := szR_bd HO.out (Nat.le_of_lt hlt)
          have hmem : L.getD j 0 ∈ L := by rw [show L.getD j 0 = L[j] by simp [List.getD, hlt]]; exact List.getElem_mem hlt
          have HXB := Lib.hid (HO.out.2.1 _ hmem)
          have HPB := Lib.hid (HO.out.2.1 _ (pred_min HO.out hmem hmem).1)
          have HOX := Lib.hid (HOS.out _ hmem)
          have HSP : Hid (spanR L (L.getD j 0) = ((predR L (L.getD j 0), L.getD j 0), true)) := Lib.hid (by unfold spanR; rw [if_pos (by simpa using hmem)])
          have HPV : Hid (0 < j → L.getD (j - 1) 0 < L.getD j 0) := Lib.hid (fun h0 => by
            rw [show L.getD j 0 = L[j] by simp [List.getD, hlt], show L.getD (j - 1) 0 = L[j - 1] by simp [List.getD, show j - 1 < L.length by omega]]
            exact sorted_lt HO.out.1 hlt (by omega))
          obtain ⟨x, hx⟩ : ∃ x, x = L.getD j 0 := ⟨_, rfl⟩
          rw [← hx] at t0 HMN HSZ HXB HPB HOX HSP HPV
          obtain ⟨pr, hpr⟩ : ∃ q, q = predR L x := ⟨_, rfl⟩
          rw [← hpr] at HSZ HPB HOX HSP
          obtain ⟨n, hn⟩ : ∃ n, n = metR L ow j := ⟨_, rfl⟩
          obtain ⟨sz, hsz⟩ : ∃ n, n = szR L j := ⟨_, rfl⟩
          have hn1 : n ≤ 1 := by rw [hn]; unfold metR; split <;> omega
          rw [← hn] at HMN ⊢
          rw [← hsz] at HSZ hsb ⊢
          have HSIZ : Hid (∀ z, Calls Try.prog 30 #[.agg #[.int .u32 pr, .int .u32 x]] z fun e z' => e = .returned (.int .u64 (Cir.beh pr x)) ∧ Below z.heap.size z z') := Lib.hid (fun z => rsize_any pr x HPB.out HXB.out z)
          have HHAS : Hid (∀ z, Calls Try.prog 29 #[.agg #[.int .u32 pr, .int .u32 x], .int .u32 t] z fun e z' => e = .returned (.bool (decide (x = ow))) ∧ Below z.heap.size z z') := Lib.hid (fun z => by rw [← HOX.out]; exact rhas_any pr x t HPB.out HXB.out HBT.out z)
          have hbb := Cir.beh_bd pr x
          obtain ⟨bq, hbq⟩ : ∃ q, q = Cir.beh pr x := ⟨_, rfl⟩
          rw [← hbq] at HSIZ HSZ hbb
          have HXM := Lib.hid hmem
          have HKB := Lib.hid hb
          have hjl : (j : Int) < (L.length : Int) := by omega
          have hcl : (L.length : Int) ≤ cp := by omega
          clear hx hpr hn hsz hbq hmem hb hp HOX
          go_upto_region 15 with (first | (go_at_call 21; refine (rg_span w.heap.size b L x _ HP6.out HXB.out).mono ?_; rw [HSP.out]; rintro e z6 ⟨rfl, hk6⟩) | (refine at_store 13 rfl ?_; refine wpList_store_row rfl 36 (.tmp 13) (.tmp 62) rfl z6.heap.size #[.int .u32 pr, .int .u32 x] rfl rfl 36 _ (heap_alloc_new z6 _) span_infoR rfl (by simp [Value.oneCell']) ?_))
          (try rw [World.setRow_alloc_new])
          have hX := more (Below.refl z6.heap.size z6) (.cells #[.int .u32 pr, .int .u32 x] 36)
          have HB7 := Lib.hid (Blk.new z6 36 #[.int .u32 pr, .int .u32 x])
          have HP7 := Lib.hid ((HP6.out.keep hk6).keep hX)
          have c0 := kc (nest hk6 hX) t0
          have HKX := Lib.hid (nest hk6 hX)
          have HK7 := Lib.hid (nest HKB.out (nest hk6 hX))
          clear hX hk6 t0 HP6
          generalize z6.alloc (.cells #[.int .u32 pr, .int .u32 x] 36) = z7 at *
          obtain ⟨g13, hg13⟩ : ∃ g, g = z6.heap.size := ⟨_, rfl⟩
          rw [← hg13] at HB7 ⊢
          clear hg13
          have hw1 : IntKind.u64.wrap (sz + bq) = sz + bq := by rw [show IntKind.u64.wrap (sz + bq) = (sz + bq) % 18446744073709551616 from rfl]; omega
          have hw2 : (sz + bq) % 18446744073709551616 = sz + bq := by omega
          by_cases h0 : j = 0
          · have hj0 : ¬ 0 < j := by omega
            clear h0
            by_cases hxo : x = ow
            · have HMN : Hid (metR L ow (j + 1) = n + 1) := Lib.hid (by rw [HMN.out, if_pos hxo])
              subst hxo
              as_aux_lemma =>
                refine Run.region_walk (S := fun z => z.cell? ⟨gp, op + j, none⟩ = some (.int .u32 x) ∧ Blk z g13 36 #[.int .u32 pr, .int .u32 x] ∧ Below z7.heap.size z7 z)
                  lrgowns.rows14 lrgowns.plan14 (l := ?_) (by kernel_rfl) (by kernel_rfl) (by kernel_rfl) (by kernel_rfl) ?_ ⟨kc (Below.refl _ _).drew c0, HB7.out.keep (Below.refl _ _).drew, (Below.refl _ _).drew⟩ ?_
                rotate_left
                (· simp only [lrgowns.plan14, Run.stepsOf, Run.stepOf, Run.guardOf, List.getElem?_toArray, List.getElem?_cons_zero, List.getElem?_cons_succ, Option.map_some, Option.map_none, Option.bind_some, Option.toList_some, List.map_cons, List.map_nil, List.cons_append, List.nil_append, List.append_eq]
                   rfl)
                repeat ((first
                  | (refine Run.takes (v := ?_) ?_ ?_; rotate_left; (· intro w' hS'; (first | (refine exec_load_blk (n := 2) (x := .tmp 13) (l := [.int .u32 pr, .int .u32 x]) ?_ Try.underlying36 span_infoR ?_ ?_ hS'.2.1 <;> rfl) | (go_simp; (try with_reducible rfl)))))
                  | (refine Run.takesG (v := ?_) ?_ ?_ ?_; rotate_left; (· simp only [List.getElem?_cons_zero, List.getElem?_cons_succ]); (· intro w' hS'; (first | (refine exec_load_blk (n := 2) (x := .tmp 13) (l := [.int .u32 pr, .int .u32 x]) ?_ Try.underlying36 span_infoR ?_ ?_ hS'.2.1 <;> rfl) | (go_simp; (try with_reducible rfl)))))
                  | (refine Run.skipsT ?_ ?_; (· simp only [List.getElem?_cons_zero, List.getElem?_cons_succ]))
                  | (refine Run.skipsF ?_ ?_; (· simp only [List.getElem?_cons_zero, List.getElem?_cons_succ]))
                  | (refine Run.skipsU ?_ ?_; (· simp only [List.getElem?_cons_zero, List.getElem?_cons_succ]))
                  | (refine Run.passT ?_ ?_; (· simp only [List.getElem?_cons_zero, List.getElem?_cons_succ]))
                  | (refine Run.passF ?_ ?_; (· simp only [List.getElem?_cons_zero, List.getElem?_cons_succ]))
                  | (refine Run.passU ?_ ?_; (· simp only [List.getElem?_cons_zero, List.getElem?_cons_succ]))
                  | (refine Run.runs ?_
                     (first
                     | (refine Run.callF 29 (by kernel_rfl) (fun hS => HHAS.out _) rfl ?_)
                     | (refine Run.callG 29 (by kernel_rfl) ?_ (fun hS => HHAS.out _) rfl ?_; (· simp only [List.getElem?_cons_zero, List.getElem?_cons_succ]))
                     | fail)
                     (first
                     | (rintro hS e w' ⟨rfl, rfl⟩; refine ⟨_, rfl, hS, ?_⟩)
                     | (rintro hS e w' ⟨rfl, hb⟩; refine ⟨_, rfl, ⟨kc hb hS.1, hS.2.1.keep hb, nest hS.2.2 hb⟩, ?_⟩)
                     | fail))
                  | fail); simp only [Act.put, List.setIfInBounds_toArray, List.set_cons_zero, List.set_cons_succ])
                refine Run.ends (fun hS => ?_)
                have HP8 := Lib.hid (HP7.out.keep hS.2.2)
                have HB8 := Lib.hid (hS.2.1)
                have HK8 := Lib.hid (nest HK7.out hS.2.2)
                clear hS c0
                go_wp2_with (first | (refine at_load 13 rfl ?_; refine wpList_load_row rfl 36 (.tmp 13) rfl g13 rfl 36 _ (0, 0) _ HB8.out Try.underlying36 rfl span_infoR ?_))
                refine (HHAS.out _).mono ?_
                rintro e z9 ⟨rfl, hk⟩
                have HP9 := Lib.hid (HP8.out.keep hk)
                have HB9 := Lib.hid (HB8.out.keep hk)
                have HK9 := Lib.hid (nest HK8.out hk)
                clear hk HP8 HB8 HK8
                go_wp2_with (first | (refine at_load 13 rfl ?_; refine wpList_load_row rfl 36 (.tmp 13) rfl g13 rfl 36 _ (0, 0) _ HB9.out Try.underlying36 rfl span_infoR ?_))
                refine (HSIZ.out z9).mono ?_
                rintro e z10 ⟨rfl, hk⟩
                have HP10 := Lib.hid (HP9.out.keep hk)
                have HK10 := Lib.hid (nest HK9.out hk)
                clear hk HP9 HB9 HK9
                go_wp2_with fail
                exact ⟨⟨j + 1, by omega, by rw [HMN.out] <;> go_num, by rw [HSZ.out] <;> go_num, by go_num, HP10.out, HK10.out⟩, by simp [intOf]; omega⟩
            · have hxn : (x == ow) = false := beq_eq_false_iff_ne.2 hxo
              have HMN : Hid (metR L ow (j + 1) = n) := Lib.hid (by rw [HMN.out, if_neg hxo, Nat.add_zero])
              as_aux_lemma =>
                refine Run.region_walk (S := fun z => z.cell? ⟨gp, op + j, none⟩ = some (.int .u32 x) ∧ Blk z g13 36 #[.int .u32 pr, .int .u32 x] ∧ Below z7.heap.size z7 z)
                  lrgowns.rows14 lrgowns.plan14 (l := ?_) (by kernel_rfl) (by kernel_rfl) (by kernel_rfl) (by kernel_rfl) ?_ ⟨kc (Below.refl _ _).drew c0, HB7.out.keep (Below.refl _ _).drew, (Below.refl _ _).drew⟩ ?_
                rotate_left
                (· simp only [lrgowns.plan14, Run.stepsOf, Run.stepOf, Run.guardOf, List.getElem?_toArray, List.getElem?_cons_zero, List.getElem?_cons_succ, Option.map_some, Option.map_none, Option.bind_some, Option.toList_some, List.map_cons, List.map_nil, List.cons_append, List.nil_append, List.append_eq]
                   rfl)
                repeat ((first
                  | (refine Run.takes (v := ?_) ?_ ?_; rotate_left; (· intro w' hS'; (first | (refine exec_load_blk (n := 2) (x := .tmp 13) (l := [.int .u32 pr, .int .u32 x]) ?_ Try.underlying36 span_infoR ?_ ?_ hS'.2.1 <;> rfl) | (go_simp; (try with_reducible rfl)))))
                  | (refine Run.takesG (v := ?_) ?_ ?_ ?_; rotate_left; (· simp only [List.getElem?_cons_zero, List.getElem?_cons_succ]); (· intro w' hS'; (first | (refine exec_load_blk (n := 2) (x := .tmp 13) (l := [.int .u32 pr, .int .u32 x]) ?_ Try.underlying36 span_infoR ?_ ?_ hS'.2.1 <;> rfl) | (go_simp; (try with_reducible rfl)))))
                  | (refine Run.skipsT ?_ ?_; (· simp only [List.getElem?_cons_zero, List.getElem?_cons_succ]))
                  | (refine Run.skipsF ?_ ?_; (· simp only [List.getElem?_cons_zero, List.getElem?_cons_succ]))
                  | (refine Run.skipsU ?_ ?_; (· simp only [List.getElem?_cons_zero, List.getElem?_cons_succ]))
                  | (refine Run.passT ?_ ?_; (· simp only [List.getElem?_cons_zero, List.getElem?_cons_succ]))
                  | (refine Run.passF ?_ ?_; (· simp only [List.getElem?_cons_zero, List.getElem?_cons_succ]))
                  | (refine Run.passU ?_ ?_; (· simp only [List.getElem?_cons_zero, List.getElem?_cons_succ]))
                  | (refine Run.runs ?_
                     (first
                     | (refine Run.callF 29 (by kernel_rfl) (fun hS => HHAS.out _) rfl ?_)
                     | (refine Run.callG 29 (by kernel_rfl) ?_ (fun hS => HHAS.out _) rfl ?_; (· simp only [List.getElem?_cons_zero, List.getElem?_cons_succ]))
                     | fail)
                     (first
                     | (rintro hS e w' ⟨rfl, rfl⟩; refine ⟨_, rfl, hS, ?_⟩)
                     | (rintro hS e w' ⟨rfl, hb⟩; refine ⟨_, rfl, ⟨kc hb hS.1, hS.2.1.keep hb, nest hS.2.2 hb⟩, ?_⟩)
                     | fail))
                  | fail); simp only [Act.put, List.setIfInBounds_toArray, List.set_cons_zero, List.set_cons_succ])
                refine Run.ends (fun hS => ?_)
                have HP8 := Lib.hid (HP7.out.keep hS.2.2)
                have HB8 := Lib.hid (hS.2.1)
                have HK8 := Lib.hid (nest HK7.out hS.2.2)
                clear hS c0
                go_wp2_with (first | (refine at_load 13 rfl ?_; refine wpList_load_row rfl 36 (.tmp 13) rfl g13 rfl 36 _ (0, 0) _ HB8.out Try.underlying36 rfl span_infoR ?_))
                refine (HHAS.out _).mono ?_
                rintro e z9 ⟨rfl, hk⟩
                have HP9 := Lib.hid (HP8.out.keep hk)
                have HB9 := Lib.hid (HB8.out.keep hk)
                have HK9 := Lib.hid (nest HK8.out hk)
                clear hk HP8 HB8 HK8
                go_wp2_with (first | (refine at_load 13 rfl ?_; refine wpList_load_row rfl 36 (.tmp 13) rfl g13 rfl 36 _ (0, 0) _ HB9.out Try.underlying36 rfl span_infoR ?_))
                refine (HSIZ.out z9).mono ?_
                rintro e z10 ⟨rfl, hk⟩
                have HP10 := Lib.hid (HP9.out.keep hk)
                have HK10 := Lib.hid (nest HK9.out hk)
                clear hk HP9 HB9 HK9
                go_wp2_with fail
                exact ⟨⟨j + 1, by omega, by rw [HMN.out] <;> go_num, by rw [HSZ.out] <;> go_num, by go_num, HP10.out, HK10.out⟩, by simp [intOf]; omega⟩
          · have hj0 : 0 < j := by omega
            obtain ⟨jp, hjp⟩ : ∃ k, k = j - 1 := ⟨_, rfl⟩
            have c1 := kc HKX.out (kc HKB.out (HEP.out jp (by omega)))
            obtain ⟨xp, hxp⟩ : ∃ q, q = L.getD jp 0 := ⟨_, rfl⟩
            rw [← hxp] at c1
            have hno : ¬ x ≤ xp := by have := HPV.out (by omega); rw [hxp, hjp]; omega
            have hwk : IntKind.i64.wrap ((j : Int) - 1) = (jp : Int) := by rw [IntWalk.i64_in _ (by have := HLN.out; omega)]; omega
            have hkl : (jp : Int) < (L.length : Int) := by omega
            clear hxp hjp h0
            by_cases hxo : x = ow
            · have HMN : Hid (metR L ow (j + 1) = n + 1) := Lib.hid (by rw [HMN.out, if_pos hxo])
              subst hxo
              as_aux_lemma =>
                refine Run.region_walk (S := fun z => z.cell? ⟨gp, op + j, none⟩ = some (.int .u32 x) ∧ z.cell? ⟨gp, op + jp, none⟩ = some (.int .u32 xp) ∧ Blk z g13 36 #[.int .u32 pr, .int .u32 x] ∧ Below z7.heap.size z7 z)
                  lrgowns.rows14 lrgowns.plan14 (l := ?_) (by kernel_rfl) (by kernel_rfl) (by kernel_rfl) (by kernel_rfl) ?_ ⟨kc (Below.refl _ _).drew c0, kc (Below.refl _ _).drew c1, HB7.out.keep (Below.refl _ _).drew, (Below.refl _ _).drew⟩ ?_
                rotate_left
                (· simp only [lrgowns.plan14, Run.stepsOf, Run.stepOf, Run.guardOf, List.getElem?_toArray, List.getElem?_cons_zero, List.getElem?_cons_succ, Option.map_some, Option.map_none, Option.bind_some, Option.toList_some, List.map_cons, List.map_nil, List.cons_append, List.nil_append, List.append_eq]
                   rfl)
                repeat ((first
                  | (refine Run.takes (v := ?_) ?_ ?_; rotate_left; (· intro w' hS'; (first | (refine exec_load_blk (n := 2) (x := .tmp 13) (l := [.int .u32 pr, .int .u32 x]) ?_ Try.underlying36 span_infoR ?_ ?_ hS'.2.2.1 <;> rfl) | (go_simp; (try with_reducible rfl)))))
                  | (refine Run.takesG (v := ?_) ?_ ?_ ?_; rotate_left; (· simp only [List.getElem?_cons_zero, List.getElem?_cons_succ]); (· intro w' hS'; (first | (refine exec_load_blk (n := 2) (x := .tmp 13) (l := [.int .u32 pr, .int .u32 x]) ?_ Try.underlying36 span_infoR ?_ ?_ hS'.2.2.1 <;> rfl) | (go_simp; (try with_reducible rfl)))))
                  | (refine Run.skipsT ?_ ?_; (· simp only [List.getElem?_cons_zero, List.getElem?_cons_succ]))
                  | (refine Run.skipsF ?_ ?_; (· simp only [List.getElem?_cons_zero, List.getElem?_cons_succ]))
                  | (refine Run.skipsU ?_ ?_; (· simp only [List.getElem?_cons_zero, List.getElem?_cons_succ]))
                  | (refine Run.passT ?_ ?_; (· simp only [List.getElem?_cons_zero, List.getElem?_cons_succ]))
                  | (refine Run.passF ?_ ?_; (· simp only [List.getElem?_cons_zero, List.getElem?_cons_succ]))
                  | (refine Run.passU ?_ ?_; (· simp only [List.getElem?_cons_zero, List.getElem?_cons_succ]))
                  | (refine Run.runs ?_
                     (first
                     | (refine Run.callF 29 (by kernel_rfl) (fun hS => HHAS.out _) rfl ?_)
                     | (refine Run.callG 29 (by kernel_rfl) ?_ (fun hS => HHAS.out _) rfl ?_; (· simp only [List.getElem?_cons_zero, List.getElem?_cons_succ]))
                     | fail)
                     (first
                     | (rintro hS e w' ⟨rfl, rfl⟩; refine ⟨_, rfl, hS, ?_⟩)
                     | (rintro hS e w' ⟨rfl, hb⟩; refine ⟨_, rfl, ⟨kc hb hS.1, kc hb hS.2.1, hS.2.2.1.keep hb, nest hS.2.2.2 hb⟩, ?_⟩)
                     | fail))
                  | fail); simp only [Act.put, List.setIfInBounds_toArray, List.set_cons_zero, List.set_cons_succ])
                refine Run.ends (fun hS => ?_)
                have HP8 := Lib.hid (HP7.out.keep hS.2.2.2)
                have HB8 := Lib.hid (hS.2.2.1)
                have HK8 := Lib.hid (nest HK7.out hS.2.2.2)
                clear hS c0 c1
                go_wp2_with (first | (refine at_load 13 rfl ?_; refine wpList_load_row rfl 36 (.tmp 13) rfl g13 rfl 36 _ (0, 0) _ HB8.out Try.underlying36 rfl span_infoR ?_))
                refine (HHAS.out _).mono ?_
                rintro e z9 ⟨rfl, hk⟩
                have HP9 := Lib.hid (HP8.out.keep hk)
                have HB9 := Lib.hid (HB8.out.keep hk)
                have HK9 := Lib.hid (nest HK8.out hk)
                clear hk HP8 HB8 HK8
                go_wp2_with (first | (refine at_load 13 rfl ?_; refine wpList_load_row rfl 36 (.tmp 13) rfl g13 rfl 36 _ (0, 0) _ HB9.out Try.underlying36 rfl span_infoR ?_))
                refine (HSIZ.out z9).mono ?_
                rintro e z10 ⟨rfl, hk⟩
                have HP10 := Lib.hid (HP9.out.keep hk)
                have HK10 := Lib.hid (nest HK9.out hk)
                clear hk HP9 HB9 HK9
                go_wp2_with fail
                exact ⟨⟨j + 1, by omega, by rw [HMN.out] <;> go_num, by rw [HSZ.out] <;> go_num, by go_num, HP10.out, HK10.out⟩, by simp [intOf]; omega⟩
            · have hxn : (x == ow) = false := beq_eq_false_iff_ne.2 hxo
              have HMN : Hid (metR L ow (j + 1) = n) := Lib.hid (by rw [HMN.out, if_neg hxo, Nat.add_zero])
              as_aux_lemma =>
                refine Run.region_walk (S := fun z => z.cell? ⟨gp, op + j, none⟩ = some (.int .u32 x) ∧ z.cell? ⟨gp, op + jp, none⟩ = some (.int .u32 xp) ∧ Blk z g13 36 #[.int .u32 pr, .int .u32 x] ∧ Below z7.heap.size z7 z)
                  lrgowns.rows14 lrgowns.plan14 (l := ?_) (by kernel_rfl) (by kernel_rfl) (by kernel_rfl) (by kernel_rfl) ?_ ⟨kc (Below.refl _ _).drew c0, kc (Below.refl _ _).drew c1, HB7.out.keep (Below.refl _ _).drew, (Below.refl _ _).drew⟩ ?_
                rotate_left
                (· simp only [lrgowns.plan14, Run.stepsOf, Run.stepOf, Run.guardOf, List.getElem?_toArray, List.getElem?_cons_zero, List.getElem?_cons_succ, Option.map_some, Option.map_none, Option.bind_some, Option.toList_some, List.map_cons, List.map_nil, List.cons_append, List.nil_append, List.append_eq]
                   rfl)
                repeat ((first
                  | (refine Run.takes (v := ?_) ?_ ?_; rotate_left; (· intro w' hS'; (first | (refine exec_load_blk (n := 2) (x := .tmp 13) (l := [.int .u32 pr, .int .u32 x]) ?_ Try.underlying36 span_infoR ?_ ?_ hS'.2.2.1 <;> rfl) | (go_simp; (try with_reducible rfl)))))
                  | (refine Run.takesG (v := ?_) ?_ ?_ ?_; rotate_left; (· simp only [List.getElem?_cons_zero, List.getElem?_cons_succ]); (· intro w' hS'; (first | (refine exec_load_blk (n := 2) (x := .tmp 13) (l := [.int .u32 pr, .int .u32 x]) ?_ Try.underlying36 span_infoR ?_ ?_ hS'.2.2.1 <;> rfl) | (go_simp; (try with_reducible rfl)))))
                  | (refine Run.skipsT ?_ ?_; (· simp only [List.getElem?_cons_zero, List.getElem?_cons_succ]))
                  | (refine Run.skipsF ?_ ?_; (· simp only [List.getElem?_cons_zero, List.getElem?_cons_succ]))
                  | (refine Run.skipsU ?_ ?_; (· simp only [List.getElem?_cons_zero, List.getElem?_cons_succ]))
                  | (refine Run.passT ?_ ?_; (· simp only [List.getElem?_cons_zero, List.getElem?_cons_succ]))
                  | (refine Run.passF ?_ ?_; (· simp only [List.getElem?_cons_zero, List.getElem?_cons_succ]))
                  | (refine Run.passU ?_ ?_; (· simp only [List.getElem?_cons_zero, List.getElem?_cons_succ]))
                  | (refine Run.runs ?_
                     (first
                     | (refine Run.callF 29 (by kernel_rfl) (fun hS => HHAS.out _) rfl ?_)
                     | (refine Run.callG 29 (by kernel_rfl) ?_ (fun hS => HHAS.out _) rfl ?_; (· simp only [List.getElem?_cons_zero, List.getElem?_cons_succ]))
                     | fail)
                     (first
                     | (rintro hS e w' ⟨rfl, rfl⟩; refine ⟨_, rfl, hS, ?_⟩)
                     | (rintro hS e w' ⟨rfl, hb⟩; refine ⟨_, rfl, ⟨kc hb hS.1, kc hb hS.2.1, hS.2.2.1.keep hb, nest hS.2.2.2 hb⟩, ?_⟩)
                     | fail))
                  | fail); simp only [Act.put, List.setIfInBounds_toArray, List.set_cons_zero, List.set_cons_succ])
                refine Run.ends (fun hS => ?_)
                have HP8 := Lib.hid (HP7.out.keep hS.2.2.2)
                have HB8 := Lib.hid (hS.2.2.1)
                have HK8 := Lib.hid (nest HK7.out hS.2.2.2)
                clear hS c0 c1
                go_wp2_with (first | (refine at_load 13 rfl ?_; refine wpList_load_row rfl 36 (.tmp 13) rfl g13 rfl 36 _ (0, 0) _ HB8.out Try.underlying36 rfl span_infoR ?_))
                refine (HHAS.out _).mono ?_
                rintro e z9 ⟨rfl, hk⟩
                have HP9 := Lib.hid (HP8.out.keep hk)
                have HB9 := Lib.hid (HB8.out.keep hk)
                have HK9 := Lib.hid (nest HK8.out hk)
                clear hk HP8 HB8 HK8
                go_wp2_with (first | (refine at_load 13 rfl ?_; refine wpList_load_row rfl 36 (.tmp 13) rfl g13 rfl 36 _ (0, 0) _ HB9.out Try.underlying36 rfl span_infoR ?_))
                refine (HSIZ.out z9).mono ?_
                rintro e z10 ⟨rfl, hk⟩
                have HP10 := Lib.hid (HP9.out.keep hk)
                have HK10 := Lib.hid (nest HK9.out hk)
                clear hk HP9 HB9 HK9
                go_wp2_with fail
                exact ⟨⟨j + 1, by omega, by rw [HMN.out] <;> go_num, by rw [HSZ.out] <;> go_num, by go_num, HP10.out, HK10.out⟩, by simp [intOf]; omega⟩
        · have hjL : j = L.length := by omega
          subst hjL
          have HE9 := Lib.hid HK6.out
          by_cases hL0 : L = []
          · subst hL0
            go_wp2_with fail
            go_ret
            exact ⟨rfl, HE9.out⟩
          · have hLp : 0 < L.length := List.length_pos_iff.2 hL0
            have hLz : ((L.length : Int) == 0) = false := beq_eq_false_iff_ne.2 (by omega)
            have hm1 : metR L ow L.length = 1 := by unfold metR; rw [List.take_length, if_pos (by simpa using HMEM.out hL0)]
            rw [hm1, szR_all hLp]
            go_wp2_with fail
            go_ret
            exact ⟨rfl, HE9.out⟩
end Go.Proofs.Ytpgljdngbiicmaa.ringOwns
