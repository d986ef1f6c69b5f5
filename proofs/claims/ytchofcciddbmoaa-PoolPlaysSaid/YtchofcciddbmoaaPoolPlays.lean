/- Walk of the law PoolPlays. -/
import Derived.Test.YtchofcciddbmoaaPoolBeside
set_option maxRecDepth 4000
namespace Go.Proofs.Ytchofcciddbmoaa.poolPlays
open Go.RowKit Mem
set_option linter.unusedSimpArgs false
set_option linter.unusedVariables false
attribute [local irreducible] Go.Calls

theorem hdrElem : Elem Try.prog 26 27 1 24 := elem_of (z := .slice none 0 0) Try.underlying26 (by kernel_rfl) rfl
theorem row_form {α : Type} {E : Enc α} {T : TypeId} {B : Nat} {w : World} {v : Value} {l : List α} (h : Row E T B w v l) : ∃ a c, v = .slice a l.length c ∧ l.length ≤ c ∧ c ≤ maxLen := by
  rcases h.form with ⟨hv, hn⟩ | ⟨g, c, hv, _, _, h3, h4⟩
  · subst hn
    exact ⟨none, 0, hv, Nat.le_refl _, Nat.zero_le _⟩
  · exact ⟨_, c, hv, h3, h4⟩
theorem ref_form {B : Nat} {R : Nat → Prop} {z : World} {vw : Value} {L : List (List Int)} (h : RefAt B R z vw L) :
    ∃ aw cw, vw = .slice aw L.length cw ∧ L.length ≤ cw ∧ cw ≤ maxLen ∧ (0 < L.length → ∃ gw, aw = some ⟨gw, 0, none⟩ ∧ B ≤ gw ∧ gw < z.heap.size) := by
  obtain ⟨hs, hl, hrow, _, _⟩ := h
  rcases hrow.form with ⟨hv, hn⟩ | ⟨gw, cw, hv, h1, h2, h3, h4⟩
  · subst hn
    simp at hl
    have h0 : L = [] := List.eq_nil_of_length_eq_zero hl.symm
    subst h0
    exact ⟨none, 0, hv, Nat.le_refl _, Nat.zero_le _, fun h => absurd h (by simp)⟩
  · exact ⟨some ⟨gw, 0, none⟩, cw, by rw [hv, hl], by omega, h4, fun _ => ⟨gw, rfl, h1, h2⟩⟩

theorem ref_at {B n cw k : Nat} {R : Nat → Prop} {z : World} {aw : Option Addr} {L : List (List Int)} (h : RefAt B R z (.slice aw n cw) L) (hk : k < L.length) :
    ∃ gw a' c', aw = some ⟨gw, 0, none⟩ ∧ z.cell? ⟨gw, k, none⟩ = some (.slice a' (L.getD k []).length c') ∧ Rd (intE .u8) z (.slice a' (L.getD k []).length c') (L.getD k []) ∧ c' ≤ maxLen := by
  obtain ⟨hs, hl, hrow, _, ht⟩ := h
  obtain ⟨h1, _⟩ := ht k hk
  obtain ⟨a', c', hv, _, h3⟩ := h1.form
  obtain ⟨a0, c0, hv0, _, _, h5⟩ := hrow.rd
  obtain ⟨g0, o0, ha0, hcell⟩ := h5 (by omega)
  rcases hrow.form with ⟨_, hn⟩ | ⟨gw, cw', hvw, _, _, _, _⟩
  · rw [hn] at hl; simp at hl; omega
  injection hv0 with e1 _ _
  injection hvw with e2 _ _
  rw [e1, ha0] at e2
  injection e2 with e2
  injection e2 with e3 e4
  subst e3 e4
  refine ⟨g0, a', c', e1.trans ha0, ?_, hv ▸ h1, h3⟩
  have := hcell k (hd (hs.getD k (none, 0, 0))) (by
    have := hdrE.flat_at (l := hs) (i := k) (j := 0) (by omega) (by decide)
    have e : hs.getD k (none, 0, 0) = hs[k]'(by omega) := by simp [List.getD, List.getElem?_eq_getElem (show k < hs.length by omega)]
    rw [e]
    simpa [hdrE, hd] using this)
  rw [Nat.zero_add, hv] at this
  exact this
theorem ref_atn {B n cw k : Nat} {R : Nat → Prop} {z : World} {aw : Option Addr} {L : List (List Int)} (h : RefAt B R z (.slice aw n cw) L) (hk : k < L.length) :
    ∃ gw a' c', aw = some ⟨gw, 0, none⟩ ∧ z.cell? ⟨gw, k, none⟩ = some (.slice a' (L.getD k []).length c') ∧ Rd (intE .u8) z (.slice a' (L.getD k []).length c') (L.getD k []) ∧ c' ≤ maxLen ∧
      (0 < (L.getD k []).length → ∀ g, (Value.slice a' (L.getD k []).length c').ownBlock = some g → ¬ R g ∧ (Value.slice aw n cw).ownBlock ≠ some g) := by
  obtain ⟨hs, hl, hrow, _, ht⟩ := h
  obtain ⟨h1, h2⟩ := ht k hk
  obtain ⟨a', c', hv, _, h3⟩ := h1.form
  obtain ⟨a0, c0, hv0, _, _, h5⟩ := hrow.rd
  obtain ⟨g0, o0, ha0, hcell⟩ := h5 (by omega)
  rcases hrow.form with ⟨_, hn⟩ | ⟨gw, cw', hvw, _, _, _, _⟩
  · rw [hn] at hl; simp at hl; omega
  injection hv0 with e1 _ _
  injection hvw with e2 _ _
  rw [e1, ha0] at e2
  injection e2 with e2
  injection e2 with e3 e4
  subst e3 e4
  refine ⟨g0, a', c', e1.trans ha0, ?_, hv ▸ h1, h3, hv ▸ h2⟩
  have := hcell k (hd (hs.getD k (none, 0, 0))) (by
    have := hdrE.flat_at (l := hs) (i := k) (j := 0) (by omega) (by decide)
    have e : hs.getD k (none, 0, 0) = hs[k]'(by omega) := by simp [List.getD, List.getElem?_eq_getElem (show k < hs.length by omega)]
    rw [e]
    simpa [hdrE, hd] using this)
  rw [Nat.zero_add, hv] at this
  exact this
theorem ps_at {B n cw k b : Nat} {z : World} {aw : Option Addr} {L' L : List (List Int)} (h : Ps B z b L' (.slice aw n cw) L) (hk : k < L.length) :
    ∃ gw a' c', aw = some ⟨gw, 0, none⟩ ∧ z.cell? ⟨gw, k, none⟩ = some (.slice a' (L.getD k []).length c') ∧ Rd (intE .u8) z (.slice a' (L.getD k []).length c') (L.getD k []) ∧ c' ≤ maxLen := by
  obtain ⟨W, R, _, _, hf⟩ := h
  exact ref_at hf hk

set_option maxRecDepth 100000 in
set_option maxHeartbeats 4000000 in
theorem walk (v : Value) (l : List (Int × Int × List Int)) (w : World) (h : (kSlice opK).rd w [v] l) :
    Calls Try.prog 3 #[v] w fun e w' => e = .returned (.bool true) ∧ Below w.heap.size w w' := by
  obtain ⟨a, g, off, c, rfl, hc1, hm1, hsa, ht⟩ := ops_of h
  have hm1' : c ≤ 9223372036854775807 := hm1
  have HT := Lib.hid ht
  have HA := Lib.hid hsa
  clear h ht hsa
  go_enter Try.func3, Try.ntmps3
  go_wp2_with fail
  refine (pnew_any w).mono ?_
  rintro e w1 ⟨b, W, R, rfl, hp, hr, hk⟩
  have HPo := Lib.hid hp
  have HR := Lib.hid hr
  have HK := Lib.hid hk
  clear hp hr hk
  go_wp2_with fail
  refine (pawake_any w1).mono ?_
  rintro e w2 ⟨rfl, hk⟩
  have hst : Ps w.heap.size w2 b [] (.slice none 0 0) [] := ⟨W, R, HPo.out.keep hk, HR.out, [], rfl, Row.nil, fun g hg => (nomatch hg), fun i hi => absurd hi (by simp)⟩
  have HS := Lib.hid hst
  have HK2 := Lib.hid (nest HK.out hk)
  clear hk HPo HR HK hst
  go_wp2_with fail
  go_loopw [3, 4, 5] (fun pv vw i wr => ∃ (j b : Nat) (L : List (List Int)), j ≤ 80 ∧ j ≤ l.length ∧ L.length ≤ j ∧ pv = .pointer (some ⟨b, 0, none⟩) ∧ i = .int .i64 j ∧ Ps w.heap.size wr b L vw L ∧ Below w.heap.size w wr) (fun _ _ i _ => 80 - (intOf i).toNat)
  case atStart => exact ⟨0, b, [], Nat.zero_le _, Nat.zero_le _, Nat.le_refl _, rfl, rfl, HS.out, HK2.out⟩
  case round =>
    obtain ⟨j, b, L, hj80, hjl, hLj, rfl, rfl, hst, hk⟩ := hrel
    have HK3 := Lib.hid hk
    have HP3 := Lib.hid hst
    obtain ⟨W, R, hpo, hR, href⟩ := hst
    obtain ⟨aw, cw, rfl, hcw1, hcw2, haw⟩ := ref_form href
    have hcw2' : cw ≤ 9223372036854775807 := hcw2
    have HAW := Lib.hid haw
    have HPO := Lib.hid hpo
    have HRB := Lib.hid hR
    have HREF := Lib.hid href
    clear hpo hR href haw HS HK2
    by_cases hin : j < l.length ∧ j < 80
    · obtain ⟨h1, h2⟩ := hin
      obtain ⟨kd, x, m, a1, c1, hq, d1, d2, d3, hrd, hm, bk, bx, hby⟩ := HT.out j h1
      have HBY := Lib.hid hby
      clear hby
      have d1 := kc hk d1
      have d2 := kc hk d2
      have d3 := kc hk d3
      obtain ⟨_, _, _, hc1m⟩ := hrd.form
      clear hk
      have ha := HA.out (by omega)
      subst ha
      obtain ⟨z0, hz0⟩ : ∃ z0, wr.alloc (.cells #[.int .i64 kd, .int .i64 x, .slice a1 m.length c1] 29) = z0 := ⟨_, rfl⟩
      have hX : Below wr.heap.size wr z0 := by rw [← hz0]; exact more (Below.refl _ _) _
      have hbk : Blk z0 wr.heap.size 29 #[.int .i64 kd, .int .i64 x, .slice a1 m.length c1] := by rw [← hz0]; exact Blk.new wr _ _
      have HX := Lib.hid hX
      have HBK := Lib.hid hbk
      have HRD := Lib.hid hrd
      have HP0 := Lib.hid (HP3.out.keep hX)
      have HK0 := Lib.hid (nest HK3.out hX)
      have HZ0 := Lib.hid hz0
      clear hrd hX hbk hz0 HP3
      rcases (show (¬ x ≥ 0) ∨ (x ≥ 0 ∧ ¬ x < (L.length : Int)) ∨ (x ≥ 0 ∧ x < (L.length : Int)) by omega) with e0 | ⟨e0, e1⟩ | ⟨e0, e1⟩
      all_goals
        by_cases k4 : kd = 4
        · subst k4
          as_aux_lemma =>
            go_wp2_with fail
            rw [HZ0.out]
            refine (ps_fork w.heap.size b L L _ z0 HP0.out HK0.out.size).mono ?_
            rintro e z1 ⟨b', rfl, hf, hk⟩
            have HF1 := Lib.hid hf
            have HK1 := Lib.hid (nest HK0.out hk)
            clear hf hk
            go_wp2_with fail
            have hX1 := more (Below.refl z1.heap.size z1) (.cells #[.int .u8 7] 5)
            refine (fk_push w.heap.size b b' L L _ _ [7] _ (HF1.out.keep hX1) (by have := HK1.out.size; have := hX1.size; omega) (Row.lit (E := intE .u8) (T := 5) 0 z1 #[.int .u8 7] [7] 1 _ rfl rfl rfl (Nat.zero_le _) (by simp [maxLen])).rd (by unfold pmax; simp) (by simp) (by omega)).mono ?_
            rintro e z2 ⟨rfl, hp, hb⟩
            have HP2 := Lib.hid hp
            have HK2 := Lib.hid ((nest HK1.out hX1).trans hb)
            clear hp hb hX1
            go_wp2_with fail
            refine (ps_len w.heap.size b' L L _ z2 HP2.out).mono ?_
            rintro e z3 ⟨rfl, hk⟩
            have HP4 := Lib.hid (HP2.out.keep hk)
            have HK4 := Lib.hid (nest HK2.out hk)
            clear hk
            go_wp2_with fail
            exact ⟨⟨j + 1, b', L, by omega, by omega, by omega, rfl, by go_num, HP4.out, HK4.out⟩, by simp [intOf]; omega⟩
        by_cases kdef : kd ≠ 1 ∧ kd ≠ 2 ∧ kd ≠ 3
        · skip
          as_aux_lemma =>
            obtain ⟨k1, k2, k3⟩ := kdef
            have ek1 : (kd == 1) = false := beq_eq_false_iff_ne.2 k1
            have ek2 : (kd == 2) = false := beq_eq_false_iff_ne.2 k2
            have ek3 : (kd == 3) = false := beq_eq_false_iff_ne.2 k3
            have ek4 : (kd == 4) = false := beq_eq_false_iff_ne.2 k4
            go_wp2_with fail
            rw [HZ0.out]
            refine (ownb_any _ m 71 z0 (HRD.out.keep HK0.out) hm).mono ?_
            rintro e z1 ⟨g2, rfl, hrow, hk⟩
            have hg2 := hrow.block g2 rfl
            have HRW := Lib.hid hrow.rd
            have HK1 := Lib.hid (nest HK0.out hk)
            have HP1 := Lib.hid ((HPO.out.keep HX.out).keep hk)
            have HF1 := Lib.hid ((HREF.out.keep HX.out).keep hk)
            have HB1 := Lib.hid (HBK.out.keep hk)
            have hnr : ∀ i, R i → i < wr.heap.size := fun i hi => HPO.out.lt hi
            have hz0s := HX.out.size
            clear hrow hk
            go_wp2_with fail
            refine (ppush_ok b W R L _ m z1 HP1.out (own_rd (m := [71, 71, 71]) HRW.out) hm HBY.out (by omega)).mono ?_
            rintro e z2 ⟨rfl, hst⟩
            have ht : Turned R z1 z2 := by obtain ⟨W', R', _, t, _, _⟩ := id hst; exact t.mono (fun i _ hi => HP1.out.sub hi)
            obtain ⟨hp, hb⟩ := Ps.step HP1.out HRB.out HF1.out HK1.out.size hst
            have HP2 := Lib.hid hp
            have HK2 := Lib.hid (HK1.out.trans hb)
            have HRW2 := Lib.hid (HRW.out.turned ht (fun i hi hr => by have e : some g2 = some i := hi; injection e with e; have := hnr i hr; omega))
            have HB2 := Lib.hid (HB1.out.turned ht (fun hr => by have := hnr _ hr; omega))
            have o2 := HB2.out.cell 2
            clear hp hb ht hst
            go_wp2_with fail
            refine (keptb_yes g2 _ m 71 z2 HRW2.out (HRD.out.keep HK2.out) hm).mono ?_
            rintro e z3 ⟨rfl, hk⟩
            have HP4 := Lib.hid (HP2.out.keep hk)
            have HK4 := Lib.hid (nest HK2.out hk)
            have HB4 := Lib.hid (HB2.out.keep hk)
            have o4 := HB4.out.cell 2
            clear hk o2
            have HM4 := Lib.hid (HRD.out.keep HK4.out)
            obtain ⟨W2, R2, hpo2, hR2, hs, hl, hrow, hn, htx⟩ := HP4.out
            have HPO2 := Lib.hid hpo2
            have HRB2 := Lib.hid hR2
            have HL2 := Lib.hid hl
            have HROW := Lib.hid hrow
            have HN2 := Lib.hid hn
            have HTX := Lib.hid htx
            clear hpo2 hR2 hl hrow hn htx
            go_wp2_with (first
              | (at_builtin; refine wpList_append (E := intE .u8) (B := z3.heap.size) (v := .slice none 0 0) (l := []) (m := m) (bytes := 1) byteElem Nat.one_pos rfl (.const (.slice none 0 0)) (.tmp 67) rfl rfl Row.nil rfl HM4.out (by simp [maxLen]; omega) (by simp; omega) (Nat.le_refl _) ?_; intro vq z4 hr9 hk9 hg9 _; rw [List.nil_append] at hr9; obtain ⟨aq, cq, rfl, hcq, hcqm⟩ := row_form hr9)
              | (at_builtin; refine wpList_append (E := hdrE) (B := w.heap.size) (l := hs) (m := [(aq, m.length, cq)]) (bytes := 24) hdrElem Nat.one_pos rfl (.tmp 65) (.tmp 69) rfl rfl ((HROW.out.keep hk9).keep (more (Below.refl _ _) _)) rfl (Rd.fresh _ (aq, m.length, cq) _ _ _ rfl (by first | rfl | simp)) (by rw [HL2.out]; simp [maxLen]; omega) (by rw [HL2.out]; simp; omega) (by have := HK4.out.size; have := hk9.size; have := (more (Below.refl z4.heap.size z4) (.cells #[.slice aq m.length cq] 27)).size; omega) ?_; intro v6 z6 hr6 hk6 hg6 hw6; obtain ⟨a6, c6, rfl, hc6, hc6m⟩ := row_form hr6))
            have hX5 := more (Below.refl z4.heap.size z4) (.cells #[.slice aq m.length cq] 27)
            have hk5 := nest hk9 hX5
            have hgr := Ps.grow (HPO2.out.keep hk5) HRB2.out HL2.out (HROW.out.keep hk5) HN2.out (fun i hi => ⟨(HTX.out i hi).1.keep hk5, (HTX.out i hi).2⟩) (x := (aq, m.length, cq)) (q := m) (hr9.rd.keep hX5)
              (fun hp i hi => by
                have h9 := (hr9.block i hi).1
                exact ⟨fun hr => by have := HPO2.out.lt hr; omega, fun e => by have := (HROW.out.block i e).2; omega⟩) hr6 hg6 hw6
            have hlen6 : (hs ++ [(aq, m.length, cq)]).length = hs.length + 1 := by simp
            rw [hlen6] at hgr
            have hn6 : (L ++ [m]).length = hs.length + 1 := by simp [HL2.out]
            have HN6 := Lib.hid hn6
            have HP6 := Lib.hid hgr
            have HK6 := Lib.hid ((nest HK4.out hk5).trans hk6)
            clear hX5 hk5 hgr hlen6 hn6 hr6 hk6 hg6 hw6 hr9 hk9 hg9 hc6 hcq
            generalize hs.length + 1 = n6 at *
            refine (ps_len w.heap.size b (L ++ [m]) (L ++ [m]) _ z6 HP6.out).mono ?_
            rintro e z7 ⟨rfl, hk⟩
            rw [HN6.out]
            have HP7 := Lib.hid (HP6.out.keep hk)
            have HK7 := Lib.hid (nest HK6.out hk)
            clear hk
            go_wp2_with fail
            exact ⟨⟨j + 1, b, L ++ [m], by omega, by omega, by simp; omega, rfl, by go_num, HP7.out, HK7.out⟩, by simp [intOf]; omega⟩
      rotate_right
      · obtain ⟨k, rfl⟩ := Int.eq_ofNat_of_zero_le e0
        have hkL : k < L.length := by omega
        by_cases k3 : kd = 3
        · subst k3
          as_aux_lemma =>
            go_wp2_with fail
            rw [HZ0.out]
            refine (ps_peek w.heap.size b L L _ k z0 HP0.out hkL).mono ?_
            rintro e z1 ⟨y, rfl, hy, hk⟩
            have HY1 := Lib.hid hy.1
            have HP1 := Lib.hid (HP0.out.keep hk)
            have HK1 := Lib.hid (nest HK0.out hk)
            have HB1 := Lib.hid (HBK.out.keep hk)
            have o1 := HB1.out.cell 1
            clear hy hk
            obtain ⟨gw, a', c', rfl, hcell, hrq, hcm⟩ := ps_at HP1.out hkL
            have HRQ := Lib.hid hrq
            clear hrq
            generalize hq2 : L.getD k [] = q at *
            go_wp2_with fail
            refine (bytes_yes _ _ q z1 HY1.out HRQ.out).mono ?_
            rintro e z2 ⟨rfl, hk⟩
            have HP2 := Lib.hid (HP1.out.keep hk)
            have HK2 := Lib.hid (nest HK1.out hk)
            clear hk
            go_wp2_with fail
            refine (ps_len w.heap.size b L L _ z2 HP2.out).mono ?_
            rintro e z3 ⟨rfl, hk⟩
            have HP3 := Lib.hid (HP2.out.keep hk)
            have HK4 := Lib.hid (nest HK2.out hk)
            clear hk
            go_wp2_with fail
            exact ⟨⟨j + 1, b, L, by omega, by omega, by omega, rfl, by go_num, HP3.out, HK4.out⟩, by simp [intOf]; omega⟩
        by_cases k2 : kd = 2
        · subst k2
          as_aux_lemma =>
            go_wp2_with fail
            rw [HZ0.out]
            have HP1 := Lib.hid (HPO.out.keep HX.out)
            have HF1 := Lib.hid (HREF.out.keep HX.out)
            have hnr : ∀ i, R i → i < wr.heap.size := fun i hi => HPO.out.lt hi
            refine (pdouble_ok b W R L k z0 HP1.out hkL (by omega)).mono ?_
            rintro e z1 ⟨rfl, hst⟩
            have ht : Turned R z0 z1 := by obtain ⟨W', R', _, t, _, _⟩ := id hst; exact t.mono (fun i _ hi => HP1.out.sub hi)
            obtain ⟨hp, hb⟩ := Ps.step HP1.out HRB.out HF1.out HK0.out.size hst
            have HP2 := Lib.hid hp
            have HK2 := Lib.hid (HK0.out.trans hb)
            have HB2 := Lib.hid (HBK.out.turned ht (fun hr => by have := hnr _ hr; omega))
            have o2 := HB2.out.cell 1
            clear hp hb ht hst
            obtain ⟨W2, R2, hpo2, hR2, href2⟩ := HP2.out
            obtain ⟨gw, a', c', rfl, hcell, hrq, hcm, hqn⟩ := ref_atn href2 hkL
            obtain ⟨hs, hl, hrow, hn, htx⟩ := href2
            have HPO2 := Lib.hid hpo2
            have HRB2 := Lib.hid hR2
            have HL2 := Lib.hid hl
            have HROW := Lib.hid hrow
            have HN2 := Lib.hid hn
            have HTX := Lib.hid htx
            have HRQ := Lib.hid hrq
            have HQN := Lib.hid hqn
            clear hpo2 hR2 hl hrow hn htx hrq hqn
            generalize hq2 : L.getD k [] = q at *
            go_wp2_with (at_builtin; refine wpList_append (E := hdrE) (B := w.heap.size) (l := hs) (m := [(a', q.length, c')]) (bytes := 24) hdrElem Nat.one_pos rfl (.tmp 141) (.tmp 147) rfl rfl (HROW.out.keep (more (Below.refl _ _) _)) rfl (Rd.fresh _ (a', q.length, c') _ _ _ rfl (by first | rfl | simp)) (by rw [HL2.out]; simp [maxLen]; omega) (by rw [HL2.out]; simp; omega) (by have := HK2.out.size; have := (more (Below.refl z1.heap.size z1) (.cells #[.slice a' q.length c'] 27)).size; omega) ?_; intro v6 z6 hr6 hk6 hg6 hw6; obtain ⟨a6, c6, rfl, hc6, hc6m⟩ := row_form hr6)
            have hX5 := more (Below.refl z1.heap.size z1) (.cells #[.slice a' q.length c'] 27)
            have hgr := Ps.grow (HPO2.out.keep hX5) HRB2.out HL2.out (HROW.out.keep hX5) HN2.out (fun i hi => ⟨(HTX.out i hi).1.keep hX5, (HTX.out i hi).2⟩) (x := (a', q.length, c')) (q := q) (HRQ.out.keep hX5) HQN.out hr6 hg6 hw6
            have hlen6 : (hs ++ [(a', q.length, c')]).length = hs.length + 1 := by simp
            rw [hlen6] at hgr
            have hn6 : (L ++ [q]).length = hs.length + 1 := by simp [HL2.out]
            have HN6 := Lib.hid hn6
            have HP6 := Lib.hid hgr
            have HK6 := Lib.hid ((nest HK2.out hX5).trans hk6)
            clear hX5 hgr hlen6 hn6 hr6 hk6 hg6 hw6 hc6
            generalize hs.length + 1 = n6 at *
            refine (ps_len w.heap.size b (L ++ [q]) (L ++ [q]) _ z6 HP6.out).mono ?_
            rintro e z7 ⟨rfl, hk⟩
            rw [HN6.out]
            have HP7 := Lib.hid (HP6.out.keep hk)
            have HK7 := Lib.hid (nest HK6.out hk)
            clear hk
            go_wp2_with fail
            exact ⟨⟨j + 1, b, L ++ [q], by omega, by omega, by simp; omega, rfl, by go_num, HP7.out, HK7.out⟩, by simp [intOf]; omega⟩
        have k1 : kd = 1 := by omega
        as_aux_lemma =>
          subst k1
          go_wp2_with fail
          rw [HZ0.out]
          have HP1 := Lib.hid (HPO.out.keep HX.out)
          have HF1 := Lib.hid (HREF.out.keep HX.out)
          have hnr : ∀ i, R i → i < wr.heap.size := fun i hi => HPO.out.lt hi
          refine (ptake_ok b W R L k z0 HP1.out hkL).mono ?_
          rintro e z1 ⟨y, rfl, hy, hst⟩
          have ht : Turned R z0 z1 := by obtain ⟨W', R', _, t, _, _⟩ := id hst; exact t.mono (fun i _ hi => HP1.out.sub hi)
          obtain ⟨hp, hb⟩ := Ps.step HP1.out HRB.out HF1.out HK0.out.size hst
          have HP2 := Lib.hid hp
          have HK2 := Lib.hid (HK0.out.trans hb)
          have HY := Lib.hid hy
          have HB2 := Lib.hid (HBK.out.turned ht (fun hr => by have := hnr _ hr; omega))
          have o2 := HB2.out.cell 1
          clear hp hb ht hst hy
          obtain ⟨W2, R2, hpo2, hR2, href2⟩ := HP2.out
          obtain ⟨gw, a', c', rfl, hcell, hrq, hcm, hqn⟩ := ref_atn href2 hkL
          have HPO2 := Lib.hid hpo2
          have HRB2 := Lib.hid hR2
          have HREF2 := Lib.hid href2
          have HRQ := Lib.hid hrq
          clear hpo2 hR2 href2 hrq hqn
          generalize hq2 : L.getD k [] = q at *
          go_wp2_with fail
          refine (bytes_yes _ _ q z1 HY.out HRQ.out).mono ?_
          rintro e z2 ⟨rfl, hk⟩
          have HPO3 := Lib.hid (HPO2.out.keep hk)
          have HREF3 := Lib.hid (HREF2.out.keep hk)
          have HK3b := Lib.hid (nest HK2.out hk)
          have o3 := (HB2.out.keep hk).cell 1
          have o3 : z2.cell? ⟨wr.heap.size, 1, none⟩ = some (.int .i64 (k : Int)) := o3
          clear hk o2 hcell
          obtain ⟨hs, hl, hrow, hn, htx⟩ := HREF3.out
          have hcut1 := run_cut_to (P := Try.prog) hdrElem (some ⟨gw, 0, none⟩) L.length cw k (by omega)
          rw [cutA_zero] at hcut1
          have hcut2 := run_cut_from (P := Try.prog) hdrElem (some ⟨gw, 0, none⟩) L.length cw (k + 1) (by omega) (by omega)
          rw [show ((k + 1 : Nat) : Int) = IntKind.i64.wrap ((k : Int) + 1) by rw [IntKind.wrap_i64]; omega] at hcut2
          have hr' := hrow.rd
          rw [← hl] at hr' hcut1 hcut2
          have hr1 := hr'.cutA (lo := 0) (hi := k) (Nat.zero_le _) (by omega)
          rw [cutA_zero, List.drop_zero, Nat.sub_zero, Nat.sub_zero] at hr1
          have hr2 := hr'.cutA (lo := k + 1) (hi := hs.length) (by omega) (by omega)
          rw [List.take_of_length_le (by omega)] at hr2
          have e3 : hdrE.size = 1 := rfl
          rw [e3] at hr2
          rw [hl] at hr2 hcut1 hcut2
          generalize cutA (some ⟨gw, 0, none⟩) cw (k + 1) 1 = ac at *
          have HR1 := Lib.hid hr1
          have HR2 := Lib.hid hr2
          have HL3 := Lib.hid hl
          have HTX := Lib.hid htx
          have HT1 : Hid ((hs.take k).length = k) := Lib.hid (by rw [List.length_take]; omega)
          have HT2 : Hid ((hs.drop (k + 1)).length = L.length - (k + 1)) := Lib.hid (by rw [List.length_drop, hl])
          obtain ⟨L1, hL1⟩ : ∃ X, hs.take k = X := ⟨_, rfl⟩
          obtain ⟨L2, hL2⟩ : ∃ X, hs.drop (k + 1) = X := ⟨_, rfl⟩
          rw [hL1] at HR1 HT1
          rw [hL2] at HR2 HT2
          have HL1 := Lib.hid hL1
          have HL2 := Lib.hid hL2
          clear hrow hn htx hr' hr1 hr2 hl hL1 hL2
          go_wp2_with fail
          refine Run.region_walk (S := fun z => z.cell? ⟨wr.heap.size, 1, none⟩ = some (.int .i64 (k : Int)) ∧ Below z2.heap.size z2 z)
            lpplays.rows15 lpplays.plan15 (l := ?steps1) (by kernel_rfl) (by kernel_rfl) (by kernel_rfl) (by kernel_rfl) ?written1 ⟨o3, (Below.refl _ _).drew⟩ ?onward1
          case written1 =>
            simp only [lpplays.plan15, Run.stepsOf, Run.stepOf, Run.guardOf, List.getElem?_toArray, List.getElem?_cons_zero, List.getElem?_cons_succ, Option.map_some, Option.map_none, Option.bind_some, Option.toList_some, List.map_cons, List.map_nil, List.cons_append, List.nil_append]
            rfl
          repeat ((first
            | (refine Run.takes (v := ?_) ?_ ?_; rotate_left; (· intro w' hS'; go_simp; (try with_reducible rfl)))
            | (refine Run.takesG (v := ?_) ?_ ?_ ?_; rotate_left; (· simp only [List.getElem?_cons_zero, List.getElem?_cons_succ]); (· intro w' hS'; go_simp; (try with_reducible rfl)))
            | (refine Run.skipsT ?_ ?_; (· simp only [List.getElem?_cons_zero, List.getElem?_cons_succ]))
            | (refine Run.skipsF ?_ ?_; (· simp only [List.getElem?_cons_zero, List.getElem?_cons_succ]))
            | (refine Run.skipsU ?_ ?_; (· simp only [List.getElem?_cons_zero, List.getElem?_cons_succ]))
            | (refine Run.passT ?_ ?_; (· simp only [List.getElem?_cons_zero, List.getElem?_cons_succ]))
            | (refine Run.passF ?_ ?_; (· simp only [List.getElem?_cons_zero, List.getElem?_cons_succ]))
            | (refine Run.passU ?_ ?_; (· simp only [List.getElem?_cons_zero, List.getElem?_cons_succ]))
            | fail); simp only [Act.put, List.setIfInBounds_toArray, List.set_cons_zero, List.set_cons_succ])
          refine Run.runs (Run.one (fun hS K hK => ?_))
          refine wp_append (E := hdrE) (B := z2.heap.size) (v := .slice none 0 0) (l := []) (x := .slice (some ⟨gw, 0, none⟩) k cw) (m := L1) hdrElem Nat.one_pos (.const (.slice none 0 0)) (.tmp 114) rfl rfl Row.nil rfl (HR1.out.keep hS.2) (by rw [HT1.out]; simp [maxLen]; omega) (by rw [HT1.out]; simp; omega) hS.2.size (fun p1 z3 hro hbz hgr _ => ?_)
          have hb3 : Below z2.heap.size z2 z3 := hS.2.trans hbz
          refine hK.out _ _ ⟨kc hb3 o3, hb3⟩ ?_
          simp only [Act.put, List.setIfInBounds_toArray, List.set_cons_zero, List.set_cons_succ]
          rw [List.nil_append] at hro
          have HO1 := Lib.hid hro
          clear hK hS hb3 hbz hgr hro
          refine Run.runs (Run.one (fun hS K hK => ?_))
          refine wp_append (E := hdrE) (B := z2.heap.size) (v := p1) (l := L1) (x := .slice ac (L.length - (k + 1)) (cw - (k + 1))) (m := L2) hdrElem Nat.one_pos (.tmp 115) (.tmp 120) rfl rfl HO1.out rfl (HR2.out.keep hS.2) (by rw [HT1.out, HT2.out]; simp [maxLen]; omega) (by rw [HT1.out, HT2.out]; omega) hS.2.size (fun p2 z4 hro hbz hgr _ => ?_)
          have hb4 : Below z2.heap.size z2 z4 := hS.2.trans hbz
          obtain ⟨ap, cp, hv, hcp, hcpm⟩ := row_form hro
          have hn4 : (L1 ++ L2).length = L.length - 1 := by rw [List.length_append, HT1.out, HT2.out]; omega
          obtain ⟨n4, hN4⟩ : ∃ n, L.length - 1 = n := ⟨_, rfl⟩
          rw [hn4, hN4] at hv
          subst hv
          refine hK.out _ _ ⟨kc hb4 o3, hb4⟩ ?_
          simp only [Act.put, List.setIfInBounds_toArray, List.set_cons_zero, List.set_cons_succ]
          have HO2 := Lib.hid hro
          have HB4 := Lib.hid hb4
          have HN4 : Hid ((L.eraseIdx k).length = n4) := Lib.hid (by rw [List.length_eraseIdx_of_lt hkL]; exact hN4)
          clear hK hS hb4 hbz hgr hro HO1 hn4 hcp
          repeat ((first
            | (refine Run.takes (v := ?_) ?_ ?_; rotate_left; (· intro w' hS'; go_simp; (try with_reducible rfl)))
            | (refine Run.takesG (v := ?_) ?_ ?_ ?_; rotate_left; (· simp only [List.getElem?_cons_zero, List.getElem?_cons_succ]); (· intro w' hS'; go_simp; (try with_reducible rfl)))
            | (refine Run.skipsT ?_ ?_; (· simp only [List.getElem?_cons_zero, List.getElem?_cons_succ]))
            | (refine Run.skipsF ?_ ?_; (· simp only [List.getElem?_cons_zero, List.getElem?_cons_succ]))
            | (refine Run.skipsU ?_ ?_; (· simp only [List.getElem?_cons_zero, List.getElem?_cons_succ]))
            | (refine Run.passT ?_ ?_; (· simp only [List.getElem?_cons_zero, List.getElem?_cons_succ]))
            | (refine Run.passF ?_ ?_; (· simp only [List.getElem?_cons_zero, List.getElem?_cons_succ]))
            | (refine Run.passU ?_ ?_; (· simp only [List.getElem?_cons_zero, List.getElem?_cons_succ]))
            | fail); simp only [Act.put, List.setIfInBounds_toArray, List.set_cons_zero, List.set_cons_succ])
          refine Run.ends (fun hS => ?_)
          clear hS o3
          have hlaid := Ps.laid HPO3.out HRB2.out HK3b.out.size HL3.out hkL HTX.out (by rw [HL1.out, HL2.out]; exact HO2.out) HB4.out
          have HP5 := Lib.hid hlaid
          have HK5 := Lib.hid (nest HK3b.out HB4.out)
          clear hlaid
          go_wp2_with fail
          refine (ps_len w.heap.size b (L.eraseIdx k) (L.eraseIdx k) _ z4 HP5.out).mono ?_
          rintro e z5 ⟨rfl, hk⟩
          rw [HN4.out]
          have HP6 := Lib.hid (HP5.out.keep hk)
          have HK6 := Lib.hid (nest HK5.out hk)
          clear hk
          go_wp2_with fail
          exact ⟨⟨j + 1, b, L.eraseIdx k, by omega, by omega, by rw [HN4.out]; omega, rfl, by go_num, HP6.out, HK6.out⟩, by simp [intOf]; omega⟩
      all_goals
        have hout : x < 0 ∨ (L.length : Int) ≤ x := by omega
        by_cases k1 : kd = 1
        · subst k1
          as_aux_lemma =>
            go_wp2_with fail
            rw [HZ0.out]
            refine (ps_take_none w.heap.size b L L _ x z0 HP0.out bx hout).mono ?_
            rintro e z1 ⟨ta, tc, rfl, _, hk⟩
            have HP1 := Lib.hid (HP0.out.keep hk)
            have HK1 := Lib.hid (nest HK0.out hk)
            clear hk
            go_wp2_with fail
            refine (ps_len w.heap.size b L L _ z1 HP1.out).mono ?_
            rintro e z2 ⟨rfl, hk⟩
            have HP2 := Lib.hid (HP1.out.keep hk)
            have HK2 := Lib.hid (nest HK1.out hk)
            clear hk
            go_wp2_with fail
            exact ⟨⟨j + 1, b, L, by omega, by omega, by omega, rfl, by go_num, HP2.out, HK2.out⟩, by simp [intOf]; omega⟩
        by_cases k2 : kd = 2
        · subst k2
          as_aux_lemma =>
            go_wp2_with fail
            rw [HZ0.out]
            refine (ps_double_none w.heap.size b L L _ x z0 HP0.out bx hout).mono ?_
            rintro e z1 ⟨rfl, hk⟩
            have HP1 := Lib.hid (HP0.out.keep hk)
            have HK1 := Lib.hid (nest HK0.out hk)
            clear hk
            go_wp2_with fail
            refine (ps_len w.heap.size b L L _ z1 HP1.out).mono ?_
            rintro e z2 ⟨rfl, hk⟩
            have HP2 := Lib.hid (HP1.out.keep hk)
            have HK2 := Lib.hid (nest HK1.out hk)
            clear hk
            go_wp2_with fail
            exact ⟨⟨j + 1, b, L, by omega, by omega, by omega, rfl, by go_num, HP2.out, HK2.out⟩, by simp [intOf]; omega⟩
        have k3 : kd = 3 := by omega
        as_aux_lemma =>
          subst k3
          go_wp2_with fail
          rw [HZ0.out]
          refine (ps_peek_none w.heap.size b L L _ x z0 HP0.out bx hout).mono ?_
          rintro e z1 ⟨ta, tc, rfl, hk⟩
          have HP1 := Lib.hid (HP0.out.keep hk)
          have HK1 := Lib.hid (nest HK0.out hk)
          clear hk
          go_wp2_with fail
          refine (ps_len w.heap.size b L L _ z1 HP1.out).mono ?_
          rintro e z2 ⟨rfl, hk⟩
          have HP2 := Lib.hid (HP1.out.keep hk)
          have HK2 := Lib.hid (nest HK1.out hk)
          clear hk
          go_wp2_with fail
          exact ⟨⟨j + 1, b, L, by omega, by omega, by omega, rfl, by go_num, HP2.out, HK2.out⟩, by simp [intOf]; omega⟩
    rcases (show ¬ j < l.length ∨ (j < l.length ∧ ¬ j < 80) by omega) with h1 | ⟨h1, h2⟩
    all_goals
      go_wp2_with fail
      go_loopw [15] (fun i wr => ∃ t : Nat, t ≤ L.length ∧ i = .int .i64 t ∧ Ps w.heap.size wr b L (.slice aw L.length cw) L ∧ Below w.heap.size w wr) (fun i _ => 80 - (intOf i).toNat)
      case atStart => exact ⟨0, Nat.zero_le _, rfl, HP3.out, HK3.out⟩
      case round =>
        obtain ⟨t, htL, rfl, hp, hk⟩ := hrel
        have HP5 := Lib.hid hp
        have HK5 := Lib.hid hk
        clear hp hk
        by_cases htl : t < L.length
        · skip
          as_aux_lemma =>
            go_wp2_with fail
            refine (ps_peek w.heap.size b L L _ t wr HP5.out htl).mono ?_
            rintro e z1 ⟨y, rfl, hy, hk⟩
            have HY1 := Lib.hid hy.1
            have HP1 := Lib.hid (HP5.out.keep hk)
            have HK1 := Lib.hid (nest HK5.out hk)
            clear hy hk
            obtain ⟨gw, a', c', haw, hcell, hrq, hcm⟩ := ps_at HP1.out htl
            subst haw
            have HRQ := Lib.hid hrq
            clear hrq
            generalize hq2 : L.getD t [] = q at *
            go_wp2_with fail
            refine (bytes_yes _ _ q z1 HY1.out HRQ.out).mono ?_
            rintro e z2 ⟨rfl, hk⟩
            have HP2 := Lib.hid (HP1.out.keep hk)
            have HK2 := Lib.hid (nest HK1.out hk)
            clear hk
            go_wp2_with fail
            exact ⟨⟨t + 1, by omega, by go_num, HP2.out, HK2.out⟩, by simp [intOf]; omega⟩
        · skip
          as_aux_lemma =>
            go_wp2_with fail
            go_ret
            exact ⟨rfl, HK5.out⟩
end Go.Proofs.Ytchofcciddbmoaa.poolPlays
