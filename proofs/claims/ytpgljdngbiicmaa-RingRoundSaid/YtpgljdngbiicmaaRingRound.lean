/- Walk of the law RingRound. -/
import Derived.Test.YtpgljdngbiicmaaRgLaw
set_option maxRecDepth 4000
namespace Go.Proofs.Ytpgljdngbiicmaa.ringRound
open Go.RowKit Mem
set_option linter.unusedSimpArgs false
set_option linter.unusedVariables false
attribute [local irreducible] Go.Calls

theorem u64_bd (x : Int) : 0 ≤ IntKind.u64.wrap x ∧ IntKind.u64.wrap x ≤ 18446744073709551615 := by
  have h : IntKind.u64.wrap x = x % 18446744073709551616 := rfl
  omega
/-- the points from place k on, i of them -/
def seenR (L : List Int) (k i : Nat) : List Int := (List.range i).map fun j => L.getD ((k + j) % L.length) 0
theorem seenR_step (L : List Int) (k i : Nat) : seenR L k (i + 1) = seenR L k i ++ [L.getD ((k + i) % L.length) 0] := by
  unfold seenR
  rw [List.range_succ, List.map_append]
  rfl
theorem seenR_len (L : List Int) (k i : Nat) : (seenR L k i).length = i := by simp [seenR]
theorem mod_inj {n k i j : Nat} (hi : i < n) (hj : j < n) (h : (k + i) % n = (k + j) % n) : i = j := by
  have key : ∀ a b, a ≤ b → b < n → (k + a) % n = (k + b) % n → a = b := by
    intro a b hab hb h
    have h1 : (k + b) = (k + a) + (b - a) := by omega
    have h2 : n ∣ (k + b) - (k + a) := Nat.dvd_of_mod_eq_zero (Nat.sub_mod_eq_zero_of_mod_eq h.symm)
    have h3 : n ∣ b - a := by rwa [show k + b - (k + a) = b - a by omega] at h2
    have := Nat.eq_zero_of_dvd_of_lt h3 (by omega)
    omega
  rcases Nat.le_total i j with q | q
  · exact key i j q hj h
  · exact (key j i q hi h.symm).symm
theorem seenR_new {L : List Int} (h : okR L) {k i : Nat} (hi : i < L.length) : (seenR L k i).contains (L.getD ((k + i) % L.length) 0) = false := by
  rw [Bool.eq_false_iff]
  intro hc
  have hm : L.getD ((k + i) % L.length) 0 ∈ seenR L k i := by simpa using hc
  obtain ⟨j, hj, he⟩ := List.mem_map.1 hm
  have hj := List.mem_range.1 hj
  have p1 : (k + j) % L.length < L.length := Nat.mod_lt _ (by omega)
  have p2 : (k + i) % L.length < L.length := Nat.mod_lt _ (by omega)
  rw [show L.getD ((k + j) % L.length) 0 = L[(k + j) % L.length] by simp [List.getD, p1], show L.getD ((k + i) % L.length) 0 = L[(k + i) % L.length] by simp [List.getD, p2]] at he
  have hn : L.Nodup := h.1.imp (fun hlt e => by omega)
  have := mod_inj (by omega) hi ((List.getElem_inj hn).1 he)
  omega
theorem seenR_next {L : List Int} (h : okR L) {k i : Nat} (hL : 0 < L.length) : nextR L (L.getD ((k + i) % L.length) 0) = (L.getD ((k + (i + 1)) % L.length) 0, true) := by
  have p1 : (k + i) % L.length < L.length := Nat.mod_lt _ hL
  have p2 : (k + (i + 1)) % L.length < L.length := Nat.mod_lt _ hL
  rw [show L.getD ((k + i) % L.length) 0 = L[(k + i) % L.length] by simp [List.getD, p1], show L.getD ((k + (i + 1)) % L.length) 0 = L[(k + (i + 1)) % L.length] by simp [List.getD, p2], next_at h p1]
  congr 2
  rw [← Nat.add_assoc, Nat.mod_add_mod]

set_option maxRecDepth 100000 in
set_option maxHeartbeats 8000000 in
theorem walk (v : Value) (l : List Int) (t : Int) (bt : -9223372036854775808 ≤ t ∧ t ≤ 9223372036854775807) (w : World) (h : Rd (intE .u32) w v l) (hb : ∀ x ∈ l, 0 ≤ x ∧ x ≤ 4294967295) :
    Calls Try.prog 8 #[v, .int .i64 t] w fun e w' => e = .returned (.bool true) ∧ Below w.heap.size w w' := by
  obtain ⟨a, g, o, c, rfl, hc, hm, ha, hcells⟩ := Mem.Rd.loopI h
  have hm' : c ≤ 9223372036854775807 := hm
  have HA := Lib.hid ha
  have HC := Lib.hid hcells
  have HB := Lib.hid hb
  have HBT := Lib.hid bt
  clear h ha hcells hm hb bt
  go_enter Try.func8, Try.ntmps8
  go_wp2_with fail
  refine (rgnew_any w).mono ?_
  rintro e w1 ⟨b, W, R, rfl, hp, hr, hk⟩
  have HP := Lib.hid (rg_new (B := w.heap.size) hp hr (Nat.le_refl _))
  have HK := Lib.hid hk
  clear hp hr hk
  go_upto_block 99 with fail
  go_loopw [6] (fun iv wr => ∃ i : Nat, i ≤ l.length ∧ i ≤ 40 ∧ iv = .int .i64 i ∧ Rg w.heap.size wr b (addsR [] (l.take i)) ∧ Below w.heap.size w wr) (fun iv _ => 40 - (intOf iv).toNat)
  case atStart => exact ⟨0, Nat.zero_le _, Nat.zero_le _, rfl, HP.out, HK.out⟩
  case round =>
    obtain ⟨i, hi, hi40, rfl, hp, hk⟩ := hrel
    have HP2 := Lib.hid hp
    have HK2 := Lib.hid hk
    have HF := Lib.hid (addsR_facts l HB.out i hi (by omega))
    clear hp hk HP HK
    by_cases hin : i < l.length ∧ i < 40
    · obtain ⟨h1, h2⟩ := hin
      obtain ⟨rfl, hg⟩ := HA.out (by omega)
      have d0 := kc HK2.out (HC.out i h1)
      have HST := Lib.hid (addsR_step [] h1)
      have HBX : Hid (0 ≤ l.getD i 0 ∧ l.getD i 0 ≤ 4294967295) := Lib.hid (HB.out _ (by rw [show l.getD i 0 = l[i] by simp [List.getD, h1]]; exact List.getElem_mem h1))
      obtain ⟨x, hx⟩ : ∃ x, x = l.getD i 0 := ⟨_, rfl⟩
      rw [← hx] at d0 HST HBX
      have hil : (i : Int) < (l.length : Int) := by omega
      have hi4 : (i : Int) < 40 := by omega
      clear hx hg
      go_wp2_with fail
      refine (rg_add w.heap.size b _ x wr HP2.out HK2.out.size HBX.out).mono ?_
      rintro e w3 ⟨rfl, hp, hk⟩
      have HP3 := Lib.hid hp
      have HK3 := Lib.hid (HK2.out.trans hk)
      clear hp hk HP2 HK2
      go_wp2_with fail
      exact ⟨⟨i + 1, by omega, by omega, by go_num, by rw [HST.out]; exact HP3.out, HK3.out⟩, by simp [intOf]; omega⟩
    obtain ⟨L, hL⟩ : ∃ L, L = addsR [] (l.take i) := ⟨_, rfl⟩
    rw [← hL] at HP2 HF
    clear hL HA HC
    rcases (show ¬ (i : Int) < (l.length : Int) ∨ ((i : Int) < (l.length : Int) ∧ ¬ (i : Int) < 40) by omega) with q | ⟨q1, q2⟩
    all_goals
      go_wp2_with fail
      refine (rg_points w.heap.size b L wr HP2.out).mono ?_
      rintro e w3 ⟨vp, rfl, hv, hk⟩
      have HP3 := Lib.hid (HP2.out.keep hk)
      have HK3 := Lib.hid (nest HK2.out hk)
      have HV3 := Lib.hid hv
      obtain ⟨ap, cp, rfl, hcp, hmp⟩ := hv.form
      have hmp' : cp ≤ 9223372036854775807 := hmp
      clear hv hk hmp HP2 HK2
      go_wp2_with fail
      refine (rgawake_any w3).mono ?_
      rintro e w4 ⟨rfl, hk⟩
      have HP4 := Lib.hid (HP3.out.keep hk)
      have HK4 := Lib.hid (nest HK3.out hk)
      have HV4 := Lib.hid (HV3.out.keep hk)
      clear hk HP3 HK3 HV3
      by_cases hL0 : L = []
      · subst hL0
        go_wp2_with fail
        refine (rgawake_any w4).mono ?_
        rintro e w5 ⟨rfl, hk⟩
        have HK5 := Lib.hid (nest HK4.out hk)
        clear hk
        go_wp2_with fail
        go_ret
        exact ⟨rfl, HK5.out⟩
      have hLp : 0 < L.length := List.length_pos_iff.2 hL0
      have hLz : ((L.length : Int) == 0) = false := beq_eq_false_iff_ne.2 (by omega)
      have HO := Lib.hid HP4.out.ok
      have HLN : Hid (L.length ≤ 64) := Lib.hid HO.out.2.2
      obtain ⟨ap, gp, op, cp, hvv, hcp, hmp, hap, hep⟩ := Mem.Rd.loopI HV4.out
      injection hvv with e1 e2 e3
      subst e1 e3
      obtain ⟨rfl, hgp⟩ := hap hLp
      have HEP := Lib.hid hep
      obtain ⟨k, hkS, hkq⟩ : ∃ k : Nat, k < L.length ∧ wrap64 ((IntKind.u64.wrap t).tmod (L.length : Int)) = (k : Int) := by
        have q1 : 0 ≤ (IntKind.u64.wrap t).tmod (L.length : Int) := Int.tmod_nonneg _ (u64_bd t).1
        have q2 := Int.tmod_lt_of_pos (IntKind.u64.wrap t) (show (0 : Int) < (L.length : Int) by omega)
        refine ⟨((IntKind.u64.wrap t).tmod (L.length : Int)).toNat, by omega, ?_⟩
        have := HLN.out
        unfold wrap64
        omega
      have dk := hep k hkS
      obtain ⟨x, hx⟩ : ∃ x, x = L.getD k 0 := ⟨_, rfl⟩
      have HX0 : Hid (x = L.getD ((k + 0) % L.length) 0) := Lib.hid (by rw [Nat.add_zero, Nat.mod_eq_of_lt hkS]; exact hx)
      have HXK := Lib.hid hx
      rw [← hx] at dk
      have hkl : (k : Int) < (L.length : Int) := by omega
      have hcl : (L.length : Int) ≤ cp := by omega
      clear hep hap e2 hx hmp hgp
      go_upto_block 99 with fail
      clear hkq
      go_loopw [9, 10, 11] (fun pv sv iv wr => ∃ (i : Nat) (y : Int), i ≤ L.length ∧ iv = .int .i64 i ∧ pv = .int .u32 y ∧ y = L.getD ((k + i) % L.length) 0 ∧ Row (intE .u32) 24 w4.heap.size wr sv (seenR L k i) ∧ Below w4.heap.size w4 wr) (fun _ _ iv _ => L.length - (intOf iv).toNat)
      case atStart => exact ⟨0, x, Nat.zero_le _, rfl, rfl, HX0.out, Row.nil, Below.refl _ _⟩
      case round =>
        obtain ⟨i, y, hi, rfl, rfl, hy, hrow, hb⟩ := hrel
        have HY := Lib.hid hy
        have HROW := Lib.hid hrow
        have HKW := Lib.hid hb
        obtain ⟨asv, cs, rfl, hcs, hms⟩ := hrow.rd.form
        have hms' : cs ≤ 9223372036854775807 := hms
        have hsl : (seenR L k i).length = i := seenR_len L k i
        rw [hsl] at hcs ⊢
        clear hy hrow hb hms
        by_cases hlt : i < L.length
        · skip
          as_aux_lemma =>
            have HNEW := Lib.hid (seenR_new HO.out (k := k) hlt)
            have HNX := Lib.hid (seenR_next HO.out (k := k) (i := i) hLp)
            have HSS := Lib.hid (seenR_step L k i)
            rw [← HY.out] at HNEW HNX HSS
            obtain ⟨y2, hy2⟩ : ∃ q, q = L.getD ((k + (i + 1)) % L.length) 0 := ⟨_, rfl⟩
            rw [← hy2] at HNX
            have HY2 := Lib.hid hy2
            clear hy2
            have HYB : Hid (0 ≤ y ∧ y ≤ 4294967295) := Lib.hid (by
              have p1 : (k + i) % L.length < L.length := Nat.mod_lt _ hLp
              rw [HY.out, show L.getD ((k + i) % L.length) 0 = L[(k + i) % L.length] by simp [List.getD, p1]]
              exact HO.out.2.1 _ (List.getElem_mem p1))
            have HRD : Hid (Rd (intE .u32) wr (.slice asv i cs) (seenR L k i)) := Lib.hid (by have := HROW.out.rd; rwa [hsl] at this)
            have HROWI : Hid (Row (intE .u32) 24 w4.heap.size wr (.slice asv i cs) (seenR L k i)) := Lib.hid (by have := HROW.out; rwa [hsl] at this)
            have HSL := Lib.hid hsl
            have hil : (i : Int) < (L.length : Int) := by omega
            clear hsl dk
            go_wp2_with fail
            refine (inU_any _ (seenR L k i) y wr HRD.out).mono ?_
            rw [HNEW.out]
            rintro e w5 ⟨rfl, hk⟩
            have HROW5 := Lib.hid (HROWI.out.keep hk)
            have HK5 := Lib.hid (nest HKW.out hk)
            have HX5 : Hid (Below w5.heap.size w5 (w5.alloc (.cells #[.int .u32 y] 24))) := Lib.hid (more (Below.refl _ _) _)
            clear hk HROWI HRD HROW
            go_upto_region 18 with (at_builtin; refine wpList_append (E := intE .u32) (B := w4.heap.size) (l := seenR L k i) (m := [y]) (bytes := 4) rgElem Nat.zero_lt_one rfl (.tmp 61) (.tmp 63) rfl rfl (HROW5.out.keep HX5.out) rfl (Rd.fresh _ y _ _ _ rfl (by first | rfl | simp)) (by rw [HSL.out]; have := HLN.out; simp [maxLen]; omega) (by rw [HSL.out]; have := HLN.out; simp; omega) (nest HK5.out HX5.out).size ?_; intro v6 w6 hr6 hk6 hg6 _; rw [← HSS.out] at hr6; obtain ⟨a6, c6, rfl, _, _⟩ := hr6.rd.form)
            have HROW6 := Lib.hid hr6
            have HK6 := Lib.hid ((nest HK5.out HX5.out).trans hk6)
            have HP6 := Lib.hid (HP4.out.keep HK6.out)
            clear hr6 hk6 hg6 HROW5 HK5 HX5
            go_wp2_with fail
            refine (rg_next w.heap.size b L y w6 HP6.out HYB.out).mono ?_
            rw [HNX.out]
            rintro e w7 ⟨rfl, hk⟩
            have HROW7 := Lib.hid (HROW6.out.keep hk)
            have HK7 := Lib.hid (nest HK6.out hk)
            clear hk HROW6 HK6 HP6
            go_wp2_with fail
            exact ⟨⟨i + 1, y2, by omega, by go_num, rfl, HY2.out, HROW7.out, HK7.out⟩, by simp [intOf]; omega⟩
        · have hiL : i = L.length := by omega
          have hyx : y = x := by
            rw [HY.out, hiL, Nat.add_mod_right, Nat.mod_eq_of_lt hkS, ← HXK.out]
          subst hyx
          have HE9 := Lib.hid (nest HK4.out HKW.out)
          subst hiL
          go_wp2_with fail
          go_ret
          exact ⟨rfl, HE9.out⟩
end Go.Proofs.Ytpgljdngbiicmaa.ringRound
