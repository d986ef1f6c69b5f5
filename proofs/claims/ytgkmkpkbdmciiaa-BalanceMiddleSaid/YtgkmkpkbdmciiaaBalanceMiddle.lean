/- Walk of the law BalanceMiddle. -/
import Derived.Test.YtgkmkpkbdmciiaaLdLaw
import Derived.Test.YtgkmkpkbdmciiaaLdMid
import Derived.Test.YtgkmkpkbdmciiaaBytes
set_option maxRecDepth 4000
namespace Go.Proofs.Ytgkmkpkbdmciiaa.balanceMiddle
open Go.RowKit Mem
set_option linter.unusedSimpArgs false
set_option linter.unusedVariables false
attribute [local irreducible] Go.Calls

/-- entries that have a value alone, in a row of one's own -/
theorem ents_row {w : World} {v : Value} {vs : List Int} (h : Rd (rawE 5) w v (vs.map rawP)) : EntsIn (fun _ => True) w v (vs.map plainE) := by
  refine ⟨vs.map rawP, by rw [List.length_map, List.length_map], h, fun _ _ _ => trivial, fun i x y hx hy => ?_⟩
  rw [List.getElem?_map] at hx hy
  cases hv : vs[i]? with
  | none => rw [hv] at hx; cases hx
  | some v =>
    rw [hv] at hx hy
    simp only [Option.map_some, Option.some.injEq] at hx hy
    subst hx hy
    exact ⟨.slice none 0 0, rfl, Rd.nil _ _ (Nat.zero_le _), fun h => absurd h (Nat.lt_irrefl _)⟩
theorem raw_cell {w : World} {v : Value} {vs : List Int} (h : Rd (rawE 5) w v (vs.map rawP)) {i : Nat} (hi : i < vs.length) :
    ∃ g off c, v = .slice (some ⟨g, off, none⟩) vs.length c ∧ w.cell? ⟨g, off + i * 5, none⟩ = some (.int .u32 (vs.getD i 0)) := by
  obtain ⟨g, off, c, hv, _, _, hc⟩ := Rd.cells h (by rw [List.length_map]; omega)
  rw [List.length_map] at hv
  refine ⟨g, off, c, hv, ?_⟩
  have := hc i (by rw [List.length_map]; exact hi) 0 (show 0 < 5 by omega)
  rw [Nat.add_zero] at this
  have e5 : (rawE 5).size = 5 := rfl
  rw [e5] at this
  rw [show vs.getD i 0 = vs[i] by simp [List.getD, hi], this]
  simp [rawE, rawP, ecl, plainE]
theorem take_map {α : Type} (f : Int → α) {V : List Int} {j : Nat} (h : j < V.length) : (V.map f).take (j + 1) = (V.map f).take j ++ [f (V.getD j 0)] := by
  rw [List.take_add_one, List.getElem?_map, List.getElem?_eq_getElem h, show V.getD j 0 = V[j] by simp [List.getD, h]]
  rfl
set_option maxRecDepth 100000 in
set_option maxHeartbeats 8000000 in
theorem walk (v : Value) (l : List Int) (others : Int) (bo : -9223372036854775808 ≤ others ∧ others ≤ 9223372036854775807) (w : World) (h : Rd (intE .u32) w v l) (hb : ∀ x ∈ l, 0 ≤ x ∧ x ≤ 4294967295) :
    Calls Try.prog 5 #[v, .int .i64 others] w fun e w' => e = .returned (.bool true) ∧ Below w.heap.size w w' := by
  obtain ⟨a, g, off, c, rfl, _, hc2, hga, hcs⟩ := h.loopI
  have hc2' : c ≤ 9223372036854775807 := hc2
  have HC := Lib.hid hcs
  have HG := Lib.hid hga
  obtain ⟨r, hr, hrq⟩ : ∃ r : Nat, r ≤ 9 ∧ wrap64 ((IntKind.u64.wrap others).tmod 10) = r := by
    have q0 : 0 ≤ IntKind.u64.wrap others := by rw [IntKind.wrap_u64]; omega
    have q1 : 0 ≤ (IntKind.u64.wrap others).tmod 10 := Int.tmod_nonneg _ q0
    have q2 := Int.tmod_lt_of_pos (IntKind.u64.wrap others) (show (0 : Int) < 10 by omega)
    exact ⟨((IntKind.u64.wrap others).tmod 10).toNat, by omega, by unfold wrap64; omega⟩
  obtain ⟨m, hm, hmq⟩ : ∃ m : Nat, (3 ≤ m ∧ m ≤ 12) ∧ wrap64 (3 + (r : Int)) = m := ⟨3 + r, by omega, by unfold wrap64; omega⟩
  have HM := Lib.hid hm
  obtain ⟨V, hV⟩ : ∃ V, V = l.take 40 := ⟨_, rfl⟩
  have HV : Hid (V.length ≤ 40 ∧ V.length ≤ l.length ∧ (V.length = 40 ∨ V.length = l.length) ∧ (∀ j, j < V.length → l.getD j 0 = V.getD j 0) ∧ ∀ x ∈ V, 0 ≤ x ∧ x ≤ 4294967295) := Lib.hid (by
    rw [hV]
    have e : (l.take 40).length = min 40 l.length := List.length_take
    refine ⟨by omega, by omega, by omega, fun j hj => ?_, fun x hx => hb x (List.mem_of_mem_take hx)⟩
    rw [List.getD_eq_getElem?_getD, List.getD_eq_getElem?_getD, List.getElem?_take, if_pos (by omega)])
  clear h hb hcs hga hV bo hr hm hc2
  go_enter Try.func5, Try.ntmps5
  go_wp2_with fail
  rw [hmq]
  clear hrq hmq
  go_loopw [5, 6] (fun sv iv wr => ∃ j : Nat, j ≤ V.length ∧ iv = .int .i64 j ∧ Row (rawE 5) 47 w.heap.size wr sv ((V.map rawP).take j) ∧ Below w.heap.size w wr) (fun _ iv _ => V.length - (intOf iv).toNat)
  case atStart => exact ⟨0, Nat.zero_le _, rfl, Row.nil, Below.refl _ _⟩
  case round =>
    obtain ⟨j, hj, rfl, hrow, hk⟩ := hrel
    have HK := Lib.hid hk
    obtain ⟨aS, cS, rfl, _, _⟩ := hrow.rd.form
    have HROW := Lib.hid hrow
    have hlen : ((V.map rawP).take j).length = j := by rw [List.length_take, List.length_map]; omega
    rw [hlen] at HROW ⊢
    obtain ⟨wo, hwo⟩ : ∃ z, z = wr := ⟨_, rfl⟩
    rw [← hwo] at HROW HK ⊢
    clear hrow hk hwo
    by_cases hlt : j < V.length
    · have e1 : (j : Int) < (l.length : Int) := by have := HV.out; omega
      have e2 : (j : Int) < 40 := by have := HV.out; omega
      obtain ⟨rfl, _⟩ := HG.out (by omega)
      have d0 := kc HK.out (HC.out j (by omega))
      rw [HV.out.2.2.2.1 j hlt] at d0
      have HTM := Lib.hid (take_map rawP hlt)
      obtain ⟨x, hx⟩ : ∃ x, x = V.getD j 0 := ⟨_, rfl⟩
      rw [← hx] at d0 HTM
      have HHL : Hid (((V.map rawP).take j).length ≤ 40) := Lib.hid (by have := HV.out; omega)
      clear hx hlen
      have HX := Lib.hid (Row.lit (E := rawE 5) wo.heap.size wo #[.int .u32 x, .int .u64 0, .int .u64 0, .slice none 0 0, .bool false] [rawP x] 1 wo.heap.size rfl rfl rfl (Nat.le_refl _) (by simp [maxLen]) : Row (rawE 5) 47 wo.heap.size (wo.alloc (.cells #[.int .u32 x, .int .u64 0, .int .u64 0, .slice none 0 0, .bool false] 47)) (.slice (some ⟨wo.heap.size, 0, none⟩) 1 1) [rawP x])
      have HX4 : Hid (Below wo.heap.size wo (wo.alloc (.cells #[.int .u32 x, .int .u64 0, .int .u64 0, .slice none 0 0, .bool false] 47))) := Lib.hid (more (Below.refl _ _) _)
      have HROWX := Lib.hid (HROW.out.keep HX4.out)
      have HKX := Lib.hid (nest HK.out HX4.out)
      go_upto_if 99 with (at_builtin; go_must (refine wpList_append (E := rawE 5) (B := w.heap.size) (l := (V.map rawP).take j) (m := [rawP x]) (bytes := 56) entElem (Nat.zero_lt_succ 4) rfl (.tmp 27) (.tmp 33) rfl rfl HROWX.out rfl HX.out.rd (by have := HHL.out; simp [maxLen]; omega) (by have := HHL.out; simp; omega) HKX.out.size ?_); intro v9 y9 hr9 hk9 hg9 _)
      exact ⟨⟨j + 1, by omega, by go_num, by rw [HTM.out]; exact hr9, HKX.out.trans hk9⟩, by simp [intOf]; omega⟩
    · have hjl : j = V.length := by omega
      subst hjl
      have hfull : (V.map rawP).take V.length = V.map rawP := List.take_of_length_le (by rw [List.length_map]; exact Nat.le_refl _)
      rw [hfull] at HROW
      clear hfull hlen hlt hj
      have HCASE : (¬ (V.length : Int) < (l.length : Int)) ∨ ((V.length : Int) < (l.length : Int) ∧ ¬ (V.length : Int) < 40) := by have := HV.out; omega
      rcases HCASE with e1 | ⟨e1, e2⟩
      case' inl => go_upto_region 9 with fail
      case' inr => go_upto_region 9 with fail
      all_goals
        clear e1
        try clear e2
        as_aux_lemma =>
          have HX2 : Hid (Row ldE 29 wo.heap.size (wo.alloc (.cells #[.int .u32 2147483648, .int .i64 V.length] 29)) (.slice (some ⟨wo.heap.size, 0, none⟩) 1 1) (midL V.length m 0)) := Lib.hid (Row.lit (E := ldE) (T := 29) wo.heap.size wo #[.int .u32 2147483648, .int .i64 V.length] [(2147483648, (V.length : Int))] 1 wo.heap.size rfl rfl rfl (Nat.le_refl _) (by simp [maxLen]))
          have HKW : Hid (Below wo.heap.size wo (wo.alloc (.cells #[.int .u32 2147483648, .int .i64 V.length] 29))) := Lib.hid (more_one _ _)
          generalize wo.alloc (.cells #[.int .u32 2147483648, .int .i64 V.length] 29) = w1 at *
          go_wp2_with fail
          go_loopw [8, 9] (fun sv iv wr => ∃ i : Nat, i ≤ m ∧ iv = .int .i64 i ∧ Row ldE 29 wo.heap.size wr sv (midL V.length m i) ∧ Below wo.heap.size wo wr) (fun _ iv _ => m - (intOf iv).toNat)
          case atStart => exact ⟨0, Nat.zero_le _, rfl, HX2.out, HKW.out⟩
          case round =>
            obtain ⟨i, hi, rfl, hrow, hk⟩ := hrel
            have HKL := Lib.hid hk
            obtain ⟨aL, cL, rfl, _, _⟩ := hrow.rd.form
            have HRL := Lib.hid hrow
            obtain ⟨wp, hwp⟩ : ∃ z, z = wr := ⟨_, rfl⟩
            rw [← hwp] at HRL HKL ⊢
            clear hrow hk hwp
            have HLN : Hid ((midL V.length m i).length ≤ 13) := Lib.hid (by rw [mid_len]; have := HM.out; omega)
            have HMS := Lib.hid (mid_step V.length m i)
            by_cases hlt : i < m
            · have e3 : (i : Int) < (m : Int) := by omega
              have e4 : (i : Int) < 12 := by have := HM.out; omega
              have h64 : wrap64 ((m : Int) - (i : Int)) = (m : Int) - i := IntWalk.wrap64_in _ (by have := HM.out; omega)
              have h32 : ((m : Int) - (i : Int)) % 4294967296 = (m : Int) - i := by have := HM.out; omega
              obtain ⟨M, hMM⟩ : ∃ M, M = midL V.length m i := ⟨_, rfl⟩
              rw [← hMM] at HRL HLN HMS ⊢
              clear hMM
              have HX := Lib.hid (Row.lit (E := ldE) wp.heap.size wp #[.int .u32 ((m : Int) - i), .int .i64 0] [((m : Int) - i, 0)] 1 wp.heap.size rfl rfl rfl (Nat.le_refl _) (by simp [maxLen]) : Row ldE 29 wp.heap.size (wp.alloc (.cells #[.int .u32 ((m : Int) - i), .int .i64 0] 29)) (.slice (some ⟨wp.heap.size, 0, none⟩) 1 1) [((m : Int) - i, 0)])
              have HX4 : Hid (Below wp.heap.size wp (wp.alloc (.cells #[.int .u32 ((m : Int) - i), .int .i64 0] 29))) := Lib.hid (more (Below.refl _ _) _)
              have HROWX := Lib.hid (HRL.out.keep HX4.out)
              have HKX := Lib.hid (nest HKL.out HX4.out)
              go_upto_if 99 with (at_builtin; go_must (refine wpList_append (E := ldE) (B := wo.heap.size) (l := M) (m := [((m : Int) - i, 0)]) (bytes := 16) ldElem Nat.zero_lt_two rfl (.tmp 45) (.tmp 51) rfl rfl HROWX.out rfl HX.out.rd (by have := HLN.out; simp [maxLen]; omega) (by have := HLN.out; simp; omega) HKX.out.size ?_); intro v9 y9 hr9 hk9 hg9 _)
              have hrf := hr9
              rw [← HMS.out] at hrf
              exact ⟨⟨i + 1, by omega, by go_num, hrf, HKX.out.trans hk9⟩, by simp [intOf]; omega⟩
            · have him : i = m := by omega
              subst him
              have e3 : ¬ (i : Int) < (i : Int) := by omega
              have HL4 : Hid ((midL V.length i i).length ≤ 1000000) := Lib.hid (by have := HLN.out; omega)
              have HOK : Hid (∀ x ∈ midL V.length i i, okLd x) := Lib.hid (by
                intro x hx
                have hv := HV.out.1
                have hm := HM.out
                unfold midL at hx
                simp only [List.mem_cons, List.mem_map, List.mem_range] at hx
                rcases hx with rfl | ⟨q, hq, rfl⟩ <;> (unfold okLd; dsimp only; omega))
              have HES := Lib.hid (ents_row (HROW.out.rd.keep (HKL.out.mono (Nat.le_refl _))))
              have HPL := Lib.hid (bplan_any _ _ (midL V.length i i) (V.map plainE) _ wp HRL.out.rd HOK.out HL4.out HES.out (by intro y hy; simp only [List.mem_map] at hy; obtain ⟨u, hu, rfl⟩ := hy; have := HV.out.2.2.2.2 u hu; simp [entB, plainE]; omega) (by rw [List.length_map]; have := HV.out.1; omega))
              have hve : valsE (V.map plainE) = V := by unfold valsE; rw [List.map_map]; exact List.map_id' _
              rw [hve, mid_plan V HV.out.1 ⟨HM.out.1, by have := HM.out; omega⟩] at HPL
              clear hve
              have hrow := HROW.out.rd
              have HRW := Lib.hid (HROW.out.rd.keep HKL.out)
              have HKF := Lib.hid (nest HK.out HKL.out)
              clear hrow HX2 HKW HROW HRL HKL HLN HMS HES HC HG HL4 HOK hlt hi
              obtain ⟨XV, hXV⟩ : ∃ x, x = V.getD (V.length / 2) 0 := ⟨_, rfl⟩
              rw [← hXV] at HPL
              have HXV := Lib.hid hXV
              clear hXV
              by_cases h2 : V.length < 2 ∨ XV = 2147483648
              · rw [if_pos h2] at HPL
                dsimp only at HPL
                go_upto_region 14 with (go_at_call 14; refine HPL.out.mono ?_; rintro e w5 ⟨rfl, hk⟩)
                have HKP := Lib.hid (more hk (.cells #[.int .u32 0, .int .u32 0] 33))
                have HPQ : Hid (Blk (w5.alloc (.cells #[.int .u32 0, .int .u32 0] 33)) w5.heap.size 33 #[.int .u32 0, .int .u32 0]) := Lib.hid (Blk.new _ _ _)
                have HR6 := Lib.hid (HRW.out.keep HKP.out)
                have HK6 := Lib.hid (nest HKF.out HKP.out)
                clear hk HPL HRW HKF HKP
                generalize w5.alloc (.cells #[.int .u32 0, .int .u32 0] 33) = w6 at *
                obtain ⟨q, hq⟩ : ∃ p, p = w5.heap.size := ⟨_, rfl⟩
                rw [← hq] at HPQ ⊢
                clear hq
                by_cases hs2 : V.length < 2
                · have hl2 : (V.length : Int) < 2 := by omega
                  clear h2 hs2
                  go_upto_region 15 with fail
                  refine Run.region_seq (S := fun z => Below w6.heap.size w6 z)
                    [1, 0, 0, 0, 0, 0, 0, 0, 0, 0, 0] (l := ?_) ?_ (Below.refl _ _) ?_
                  rotate_left
                  (· simp only [Run.seqOf, List.toList_toArray, Run.stepsOf, Run.stepOf, Run.guardOf, List.getElem?_toArray, List.getElem?_cons_zero, List.getElem?_cons_succ, Option.map_some, Option.map_none, Option.bind_some, Option.toList_some, List.map_cons, List.map_nil, List.cons_append, List.nil_append, List.append_eq]
                     rfl)
                  repeat ((first
                    | (refine Run.takes (v := ?_) ?_ ?_; rotate_left; (· intro w' hS'; (first | (refine exec_load_blk (n := 2) (x := .tmp 10) (l := [.int .u32 0, .int .u32 0]) ?_ Try.underlying33 mv_info ?_ ?_ (HPQ.out.keep hS') <;> rfl) | (go_simp; (try with_reducible rfl)))))
                    | (refine Run.takesG (v := ?_) ?_ ?_ ?_; rotate_left; (· simp only [List.getElem?_cons_zero, List.getElem?_cons_succ]); (· intro w' hS'; (first | (refine exec_load_blk (n := 2) (x := .tmp 10) (l := [.int .u32 0, .int .u32 0]) ?_ Try.underlying33 mv_info ?_ ?_ (HPQ.out.keep hS') <;> rfl) | (go_simp; (try with_reducible rfl)))))
                    | (refine Run.skipsT ?_ ?_; (· simp only [List.getElem?_cons_zero, List.getElem?_cons_succ]))
                    | (refine Run.skipsF ?_ ?_; (· simp only [List.getElem?_cons_zero, List.getElem?_cons_succ]))
                    | (refine Run.skipsU ?_ ?_; (· simp only [List.getElem?_cons_zero, List.getElem?_cons_succ]))
                    | (refine Run.passT ?_ ?_; (· simp only [List.getElem?_cons_zero, List.getElem?_cons_succ]))
                    | (refine Run.passF ?_ ?_; (· simp only [List.getElem?_cons_zero, List.getElem?_cons_succ]))
                    | (refine Run.passU ?_ ?_; (· simp only [List.getElem?_cons_zero, List.getElem?_cons_succ]))
                    | (refine Run.runs ?_
                       (first
                       | (refine Run.callF 8 (by kernel_rfl) (fun hS => bawake_any _) rfl ?_)
                       | (refine Run.callG 8 (by kernel_rfl) ?_ (fun hS => bawake_any _) rfl ?_; (· simp only [List.getElem?_cons_zero, List.getElem?_cons_succ]))
                       | fail)
                       (first
                       | (rintro hS e w' ⟨rfl, rfl⟩; refine ⟨_, rfl, hS, ?_⟩)
                       | (rintro hS e w' ⟨rfl, hb⟩; refine ⟨_, rfl, nest hS hb, ?_⟩)
                       | fail))
                    | fail); simp only [Act.put, List.setIfInBounds_toArray, List.set_cons_zero, List.set_cons_succ])
                  refine Run.ends (fun hS => ?_)
                  have HKE := Lib.hid (nest HK6.out hS)
                  clear hS
                  go_wp2_with fail
                  go_ret
                  exact ⟨rfl, HKE.out⟩
                · have hx : XV = 2147483648 := by rcases h2 with h | h; exact absurd h hs2; exact h
                  have hv6 := HV.out.1
                  have hl2 : ¬ (V.length : Int) < 2 := by omega
                  obtain ⟨hf, hhf⟩ : ∃ h, h = V.length / 2 := ⟨_, rfl⟩
                  have hfl : hf < V.length := by omega
                  obtain ⟨g2, off2, c2, hsl, d⟩ := raw_cell HR6.out hfl
                  injection hsl with hsl _ _
                  subst hsl
                  have hdv : (V.length : Int).tdiv 2 = (hf : Int) := by rw [Int.tdiv_eq_ediv_of_nonneg (by omega)]; omega
                  have hfi : (hf : Int) < (V.length : Int) := by omega
                  have hdw : wrap64 (hf : Int) = (hf : Int) := by unfold wrap64; omega
                  have hXV := HXV.out
                  rw [← hhf] at hXV
                  rw [← hXV, hx] at d
                  clear h2 hs2 hx hXV hhf hv6
                  go_upto_region 15 with fail
                  clear d hdv hdw hfi hl2
                  refine Run.region_seq (S := fun z => Below w6.heap.size w6 z)
                    [1, 0, 0, 0, 0, 0, 0, 0, 0, 0, 0] (l := ?_) ?_ (Below.refl _ _) ?_
                  rotate_left
                  (· simp only [Run.seqOf, List.toList_toArray, Run.stepsOf, Run.stepOf, Run.guardOf, List.getElem?_toArray, List.getElem?_cons_zero, List.getElem?_cons_succ, Option.map_some, Option.map_none, Option.bind_some, Option.toList_some, List.map_cons, List.map_nil, List.cons_append, List.nil_append, List.append_eq]
                     rfl)
                  repeat ((first
                    | (refine Run.takes (v := ?_) ?_ ?_; rotate_left; (· intro w' hS'; (first | (refine exec_load_blk (n := 2) (x := .tmp 10) (l := [.int .u32 0, .int .u32 0]) ?_ Try.underlying33 mv_info ?_ ?_ (HPQ.out.keep hS') <;> rfl) | (go_simp; (try with_reducible rfl)))))
                    | (refine Run.takesG (v := ?_) ?_ ?_ ?_; rotate_left; (· simp only [List.getElem?_cons_zero, List.getElem?_cons_succ]); (· intro w' hS'; (first | (refine exec_load_blk (n := 2) (x := .tmp 10) (l := [.int .u32 0, .int .u32 0]) ?_ Try.underlying33 mv_info ?_ ?_ (HPQ.out.keep hS') <;> rfl) | (go_simp; (try with_reducible rfl)))))
                    | (refine Run.skipsT ?_ ?_; (· simp only [List.getElem?_cons_zero, List.getElem?_cons_succ]))
                    | (refine Run.skipsF ?_ ?_; (· simp only [List.getElem?_cons_zero, List.getElem?_cons_succ]))
                    | (refine Run.skipsU ?_ ?_; (· simp only [List.getElem?_cons_zero, List.getElem?_cons_succ]))
                    | (refine Run.passT ?_ ?_; (· simp only [List.getElem?_cons_zero, List.getElem?_cons_succ]))
                    | (refine Run.passF ?_ ?_; (· simp only [List.getElem?_cons_zero, List.getElem?_cons_succ]))
                    | (refine Run.passU ?_ ?_; (· simp only [List.getElem?_cons_zero, List.getElem?_cons_succ]))
                    | (refine Run.runs ?_
                       (first
                       | (refine Run.callF 8 (by kernel_rfl) (fun hS => bawake_any _) rfl ?_)
                       | (refine Run.callG 8 (by kernel_rfl) ?_ (fun hS => bawake_any _) rfl ?_; (· simp only [List.getElem?_cons_zero, List.getElem?_cons_succ]))
                       | fail)
                       (first
                       | (rintro hS e w' ⟨rfl, rfl⟩; refine ⟨_, rfl, hS, ?_⟩)
                       | (rintro hS e w' ⟨rfl, hb⟩; refine ⟨_, rfl, nest hS hb, ?_⟩)
                       | fail))
                    | fail); simp only [Act.put, List.setIfInBounds_toArray, List.set_cons_zero, List.set_cons_succ])
                  refine Run.ends (fun hS => ?_)
                  have HKE := Lib.hid (nest HK6.out hS)
                  clear hS
                  go_wp2_with fail
                  go_ret
                  exact ⟨rfl, HKE.out⟩
              · rw [if_neg h2] at HPL
                dsimp only at HPL
                go_upto_region 14 with (go_at_call 14; refine HPL.out.mono ?_; rintro e w5 ⟨rfl, hk⟩)
                have HKP := Lib.hid (more hk (.cells #[.int .u32 1, .int .u32 XV] 33))
                have HPQ : Hid (Blk (w5.alloc (.cells #[.int .u32 1, .int .u32 XV] 33)) w5.heap.size 33 #[.int .u32 1, .int .u32 XV]) := Lib.hid (Blk.new _ _ _)
                have HR6 := Lib.hid (HRW.out.keep HKP.out)
                have HK6 := Lib.hid (nest HKF.out HKP.out)
                clear hk HPL HRW HKF HKP
                generalize w5.alloc (.cells #[.int .u32 1, .int .u32 XV] 33) = w6 at *
                obtain ⟨q, hq⟩ : ∃ p, p = w5.heap.size := ⟨_, rfl⟩
                rw [← hq] at HPQ ⊢
                clear hq
                have hs2 : ¬ V.length < 2 := fun h => h2 (.inl h)
                have hv6 := HV.out.1
                have hl2 : ¬ (V.length : Int) < 2 := by omega
                obtain ⟨hf, hhf⟩ : ∃ h, h = V.length / 2 := ⟨_, rfl⟩
                have hfl : hf < V.length := by omega
                obtain ⟨g2, off2, c2, hsl, d⟩ := raw_cell HR6.out hfl
                injection hsl with hsl _ _
                subst hsl
                have hdv : (V.length : Int).tdiv 2 = (hf : Int) := by rw [Int.tdiv_eq_ediv_of_nonneg (by omega)]; omega
                have hfi : (hf : Int) < (V.length : Int) := by omega
                have HMW : Hid (IntKind.i64.wrap (hf : Int) = (hf : Int)) := Lib.hid (IntWalk.i64_in _ (by omega))
                have hdw : wrap64 (hf : Int) = (hf : Int) := by unfold wrap64; omega
                have hmw := HMW.out
                have hx : XV ≠ 2147483648 := fun h => h2 (.inr h)
                have hXV := HXV.out
                rw [← hhf] at hXV
                rw [← hXV] at d
                have hxb : (XV == 2147483648) = false := by simpa using hx
                clear h2 hs2 hhf hv6 hXV
                go_upto_region 16 with fail
                refine Run.region_walk (S := fun z => z.cell? ⟨g2, off2 + hf * 5, none⟩ = some (.int .u32 XV) ∧ Below w6.heap.size w6 z)
                  lbmiddle.rows16 lbmiddle.plan16 (l := ?_) (by kernel_rfl) (by kernel_rfl) (by kernel_rfl) (by kernel_rfl) ?_ ⟨d, (Below.refl _ _).drew⟩ ?_
                rotate_left
                (· simp only [lbmiddle.plan16, Run.stepsOf, Run.stepOf, Run.guardOf, List.getElem?_toArray, List.getElem?_cons_zero, List.getElem?_cons_succ, Option.map_some, Option.map_none, Option.bind_some, Option.toList_some, List.map_cons, List.map_nil, List.cons_append, List.nil_append, List.append_eq]
                   rfl)
                repeat ((first
                  | (refine Run.takes (v := ?_) ?_ ?_; rotate_left; (· intro w' hS'; (first | (refine exec_load_blk (n := 2) (x := .tmp 10) (l := [.int .u32 1, .int .u32 XV]) ?_ Try.underlying33 mv_info ?_ ?_ (HPQ.out.keep hS'.2) <;> rfl) | (have h1 := hS'.1; go_simp; done) | (go_simp; (try with_reducible rfl)))))
                  | (refine Run.takesG (v := ?_) ?_ ?_ ?_; rotate_left; (· simp only [List.getElem?_cons_zero, List.getElem?_cons_succ]); (· intro w' hS'; (first | (refine exec_load_blk (n := 2) (x := .tmp 10) (l := [.int .u32 1, .int .u32 XV]) ?_ Try.underlying33 mv_info ?_ ?_ (HPQ.out.keep hS'.2) <;> rfl) | (have h1 := hS'.1; go_simp; done) | (go_simp; (try with_reducible rfl)))))
                  | (refine Run.skipsT ?_ ?_; (· simp only [List.getElem?_cons_zero, List.getElem?_cons_succ]))
                  | (refine Run.skipsF ?_ ?_; (· simp only [List.getElem?_cons_zero, List.getElem?_cons_succ]))
                  | (refine Run.skipsU ?_ ?_; (· simp only [List.getElem?_cons_zero, List.getElem?_cons_succ]))
                  | (refine Run.passT ?_ ?_; (· simp only [List.getElem?_cons_zero, List.getElem?_cons_succ]))
                  | (refine Run.passF ?_ ?_; (· simp only [List.getElem?_cons_zero, List.getElem?_cons_succ]))
                  | (refine Run.passU ?_ ?_; (· simp only [List.getElem?_cons_zero, List.getElem?_cons_succ]))
                  | (refine Run.runs ?_
                     (first
                     | (refine Run.callF 8 (by kernel_rfl) (fun hS => bawake_any _) rfl ?_)
                     | (refine Run.callG 8 (by kernel_rfl) ?_ (fun hS => bawake_any _) rfl ?_; (· simp only [List.getElem?_cons_zero, List.getElem?_cons_succ]))
                     | fail)
                     (first
                     | (rintro hS e w' ⟨rfl, rfl⟩; refine ⟨_, rfl, hS, ?_⟩)
                     | (rintro hS e w' ⟨rfl, hb⟩; refine ⟨_, rfl, ⟨kc hb hS.1, nest hS.2 hb⟩, ?_⟩)
                     | fail))
                  | fail); simp only [Act.put, List.setIfInBounds_toArray, List.set_cons_zero, List.set_cons_succ])
                refine Run.ends (fun hS => ?_)
                have HKE := Lib.hid (nest HK6.out hS.2)
                clear hS
                go_wp2_with fail
                go_ret
                exact ⟨rfl, HKE.out⟩
end Go.Proofs.Ytgkmkpkbdmciiaa.balanceMiddle
