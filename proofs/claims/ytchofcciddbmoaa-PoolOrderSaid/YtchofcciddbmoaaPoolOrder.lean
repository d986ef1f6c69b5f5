/- Walk of the law PoolOrder. -/
import Derived.Test.YtchofcciddbmoaaPoolAwake
import Derived.Test.YtchofcciddbmoaaMem
set_option maxRecDepth 4000
namespace Go.Proofs.Ytchofcciddbmoaa
/-- texts in memory -/
abbrev textsK : Mem.Kd (List (List Int)) := Mem.kSlice (Mem.kSlice (Mem.kInt .u8))
open Mem in
theorem opens_texts {H : Type} {enc : TypeId × Value → H} : Opens enc Try.prog 26 textsK := opens_slice Try.underlying26 (by kernel_rfl) (by decide) (opens_slice Try.underlying27 (by kernel_rfl) (by decide) (opens_int Try.underlying5 (by kernel_rfl)))
end Go.Proofs.Ytchofcciddbmoaa
namespace Go.Proofs.Ytchofcciddbmoaa.poolOrder
open Go.RowKit Mem
set_option linter.unusedSimpArgs false
set_option linter.unusedVariables false
attribute [local irreducible] Go.Calls

/-- what is left behind i turns: the one at k was taken ahead -/
def rest (T : List (List Int)) (k i : Nat) : List (List Int) := if i ≤ k then (T.drop i).eraseIdx (k - i) else T.drop i
theorem rest_zero (T : List (List Int)) (k : Nat) : rest T k 0 = T.eraseIdx k := by simp [rest]
theorem rest_at (T : List (List Int)) (k : Nat) : rest T k k = rest T k (k + 1) := by
  unfold rest
  rw [if_pos (Nat.le_refl k), if_neg (by omega), Nat.sub_self, List.eraseIdx_zero, List.tail_drop]
theorem rest_cons (T : List (List Int)) (k i : Nat) (hi : i < T.length) (hk : i ≠ k) : rest T k i = T.getD i [] :: rest T k (i + 1) := by
  have hd : T.drop i = T.getD i [] :: T.drop (i + 1) := by
    rw [List.drop_eq_getElem_cons hi]
    simp [List.getD, List.getElem?_eq_getElem hi]
  unfold rest
  by_cases h : i ≤ k
  · rw [if_pos h, if_pos (by omega), hd, show k - i = (k - (i + 1)) + 1 by omega, List.eraseIdx_cons_succ]
  · rw [if_neg h, if_neg (by omega), hd]
theorem rest_end (T : List (List Int)) (k : Nat) (h : k < T.length) : rest T k T.length = [] := by
  unfold rest
  rw [if_neg (by omega), List.drop_length]

theorem mod_k (a : Int) (j : Nat) (h0 : 0 < j) (h : j ≤ 30) : ∃ k : Nat, k < j ∧ wrap64 ((IntKind.u64.wrap a).tmod (j : Int)) = (k : Int) := by
  have h1 : 0 ≤ IntKind.u64.wrap a := by simp [IntKind.wrap, IntKind.signed, IntKind.bits]; omega
  rw [Int.tmod_eq_emod_of_nonneg h1]
  have h2 := Int.emod_nonneg (IntKind.u64.wrap a) (show (j : Int) ≠ 0 by omega)
  have h3 := Int.emod_lt_of_pos (IntKind.u64.wrap a) (show (0 : Int) < j by omega)
  generalize IntKind.u64.wrap a % (j : Int) = r at *
  refine ⟨r.toNat, by omega, ?_⟩
  rw [show ((r.toNat : Nat) : Int) = r by omega]
  unfold wrap64
  omega
theorem take_succ (l : List (List Int)) (j : Nat) (h : j < l.length) : l.take (j + 1) = l.take j ++ [l.getD j []] := by
  rw [List.take_add_one]
  simp [List.getD, List.getElem?_eq_getElem h]

/-- the texts handed in, for every later world -/
def Texts (w : World) (g off : Nat) (l : List (List Int)) : Prop := ∀ i, i < l.length → ∃ a c, w.cell? ⟨g, off + i, none⟩ = some (.slice a (l.getD i []).length c) ∧ Rd (intE .u8) w (.slice a (l.getD i []).length c) (l.getD i []) ∧ ∀ x ∈ l.getD i [], 0 ≤ x ∧ x ≤ 255
theorem texts_of {v : Value} {l : List (List Int)} {w : World} (h : textsK.rd w [v] l) :
    ∃ a g off c, v = .slice a l.length c ∧ l.length ≤ c ∧ c ≤ maxLen ∧ (0 < l.length → a = some ⟨g, off, none⟩) ∧ Texts w g off l := by
  obtain ⟨a, g, off, c, hv, h1, h2, ha, hi⟩ := kd_loop h
  refine ⟨a, g, off, c, hv, h1, h2, ha, fun i hl => ?_⟩
  have hy : l[i]? = some (l.getD i []) := by simp [List.getD, List.getElem?_eq_getElem hl]
  obtain ⟨es, he, hr⟩ := hi i _ hy
  obtain ⟨a', c', he', _⟩ := id hr
  subst he'
  refine ⟨a', c', ?_, (kd_ints hr).1, fun x hx => bd8 ((kd_ints hr).2 x hx)⟩
  have := he 0 (show 0 < 1 by omega)
  simpa [kSlice] using this
theorem Texts.keep {w w' : World} {g off : Nat} {l : List (List Int)} (h : Texts w g off l) (k : Below w.heap.size w w') : Texts w' g off l := by
  intro i hi
  obtain ⟨a, c, h1, h2, h3⟩ := h i hi
  exact ⟨a, c, kc k h1, h2.keep k, h3⟩

set_option maxHeartbeats 2000000 in
theorem walk (v : Value) (l : List (List Int)) (at' : Int) (ba : -9223372036854775808 ≤ at' ∧ at' ≤ 9223372036854775807) (w : World) (h : textsK.rd w [v] l) :
    Calls Try.prog 5 #[v, .int .i64 at'] w fun e w' => e = .returned (.bool true) ∧ Below w.heap.size w w' := by
  obtain ⟨a, g, off, c, rfl, hc1, hm1, hsa, ht⟩ := texts_of h
  have hm1' : c ≤ 9223372036854775807 := hm1
  have HT := Lib.hid ht
  have HA := Lib.hid hsa
  clear h ht hsa
  go_enter Try.func5, Try.ntmps5
  go_wp2_with fail
  refine (pnew_any w).mono ?_
  rintro e w1 ⟨b, W, R, rfl, hp, hr, hk⟩
  have HP := Lib.hid (po_new (B := w.heap.size) hp hr (Nat.le_refl _))
  have HK := Lib.hid hk
  clear hp hr hk
  go_wp2_with fail
  refine (pawake_any w1).mono ?_
  rintro e w2 ⟨rfl, hk⟩
  have HP2 := Lib.hid (HP.out.keep hk)
  have HK2 := Lib.hid (nest HK.out hk)
  clear hk HP HK
  go_wp2_with fail
  go_loopw [6, 7] (fun n i wr => ∃ j : Nat, j ≤ 30 ∧ j ≤ l.length ∧ n = .int .i64 j ∧ i = .int .i64 j ∧ Po w.heap.size wr b (l.take j) ∧ Below w.heap.size w wr) (fun _ i _ => 30 - (intOf i).toNat)
  case atStart => exact ⟨0, Nat.zero_le _, Nat.zero_le _, rfl, rfl, HP2.out, HK2.out⟩
  case round =>
    obtain ⟨j, hj30, hjl, rfl, rfl, hp, hk⟩ := hrel
    have HP3 := Lib.hid hp
    have HK3 := Lib.hid hk
    have HT3 := Lib.hid (HT.out.keep hk)
    clear hp hk HP2 HK2
    by_cases hin : j < l.length ∧ j < 30
    · obtain ⟨h1, h2⟩ := hin
      obtain ⟨a1, c1, hcell, hrd, hby⟩ := HT3.out j h1
      have HBY := Lib.hid hby
      clear hby
      have ha := HA.out (by omega)
      subst ha
      have hcap1 := (hrd.form)
      generalize hq : l.getD j [] = q at *
      by_cases h50 : q.length > 50
      · have e50 : (q.length : Int) > 50 := by omega
        go_wp2_with fail
        go_ret
        exact ⟨rfl, HK3.out⟩
      have e50 : ¬ (q.length : Int) > 50 := by omega
      have HRD := Lib.hid hrd
      clear hrd hcap1
      go_wp2_with fail
      refine (po_push w.heap.size b _ _ q wr HP3.out HK3.out.size HRD.out (by unfold pmax; omega) HBY.out (by rw [List.length_take]; omega)).mono ?_
      rintro e z ⟨rfl, hp, hb⟩
      rw [← hq, ← take_succ l j h1] at hp
      have HP4 := Lib.hid hp
      have HK4 := Lib.hid (HK3.out.trans hb)
      clear hp hb
      go_wp2_with fail
      exact ⟨⟨j + 1, by omega, by omega, by go_num, by go_num, HP4.out, HK4.out⟩, by simp [intOf]; omega⟩
    have hT : (l.take j).length = j := by rw [List.length_take]; omega
    have HTL := Lib.hid hT
    clear hT
    rcases (show ¬ j < l.length ∨ (j < l.length ∧ ¬ j < 30) by omega) with h1 | ⟨h1, h2⟩
    all_goals
      by_cases h0 : j = 0
      · first
        | exfalso; omega
        | have e0 : ((j : Int) == 0) = true := by rw [h0]; rfl
          obtain ⟨W, R, hpo, hR⟩ := HP3.out
          have HQ := Lib.hid hpo
          clear hpo hR
          go_wp2_with fail
          refine (ptake_none b W R _ 0 wr HQ.out (by omega) (.inr (by rw [HTL.out]; omega))).mono ?_
          rintro e z ⟨ta, tc, rfl, _, hk⟩
          have HK4 := Lib.hid (nest HK3.out hk)
          clear hk
          go_wp2_with fail
          go_ret
          exact ⟨rfl, HK4.out⟩
      have e0 : ((j : Int) == 0) = false := beq_eq_false_iff_ne.2 (by omega)
      obtain ⟨k, hkj, hke⟩ := mod_k at' j (by omega) hj30
      have hkl : k < l.length := by omega
      have hgd : (l.take j).getD k [] = l.getD k [] := by simp [List.getD, List.getElem?_take_of_lt hkj]
      have hrl : (rest (l.take j) k 0).length = j - 1 := by rw [rest_zero, List.length_eraseIdx_of_lt (by rw [HTL.out]; exact hkj), HTL.out]
      have HRL := Lib.hid hrl
      have HGD := Lib.hid hgd
      clear hgd hrl
      go_wp2_with fail
      rw [hke]
      refine (po_take w.heap.size b _ k wr HP3.out HK3.out.size (by rw [HTL.out]; exact hkj)).mono ?_
      rintro e z ⟨x, rfl, hx, hp, hb⟩
      rw [HGD.out] at hx
      rw [← rest_zero] at hp
      have HX4 := Lib.hid hx
      have HP4 := Lib.hid hp
      have HK4 := Lib.hid (HK3.out.trans hb)
      have HT4 := Lib.hid (HT.out.keep HK4.out)
      clear hx hp hb
      obtain ⟨a1, c1, hcell, hrd, _⟩ := HT4.out k hkl
      have ha := HA.out (by omega)
      subst ha
      have HRD := Lib.hid hrd
      clear hrd
      generalize hq : l.getD k [] = q at *
      go_wp2_with fail
      refine (bytes_yes _ _ q z HX4.out HRD.out).mono ?_
      rintro e z1 ⟨rfl, hk⟩
      have HP5 := Lib.hid (HP4.out.keep hk)
      have HK5 := Lib.hid (nest HK4.out hk)
      clear hk
      go_wp2_with fail
      refine (po_len w.heap.size b _ z1 HP5.out).mono ?_
      rintro e z2 ⟨rfl, hk⟩
      rw [HRL.out, show ((j - 1 : Nat) : Int) = (j : Int) - 1 by omega]
      have HP6 := Lib.hid (HP5.out.keep hk)
      have HK6 := Lib.hid (nest HK5.out hk)
      clear hk
      go_wp2_with fail
      go_loopw [13] (fun i wr => ∃ m : Nat, m ≤ j ∧ i = .int .i64 m ∧ Po w.heap.size wr b (rest (l.take j) k m) ∧ Below w.heap.size w wr) (fun i _ => 30 - (intOf i).toNat)
      case atStart => exact ⟨0, Nat.zero_le _, rfl, HP6.out, HK6.out⟩
      case round =>
        obtain ⟨m, hmj, rfl, hp, hk⟩ := hrel
        have HP7 := Lib.hid hp
        have HK7 := Lib.hid hk
        have HT7 := Lib.hid (HT.out.keep hk)
        clear hp hk
        by_cases hm : m < j
        · by_cases hmk : m = k
          · subst hmk
            have ek : ((m : Int) == (m : Int)) = true := by simp
            have hp := HP7.out
            rw [rest_at] at hp
            have HP8 := Lib.hid hp
            clear hp
            go_wp2_with fail
            exact ⟨⟨m + 1, by omega, by go_num, HP8.out, HK7.out⟩, by simp [intOf]; omega⟩
          have ek : ((m : Int) == (k : Int)) = false := beq_eq_false_iff_ne.2 (by omega)
          have hml : m < l.length := by omega
          have hgd : (l.take j).getD m [] = l.getD m [] := by simp [List.getD, List.getElem?_take_of_lt hm]
          have hrc := rest_cons (l.take j) k m (by rw [HTL.out]; exact hm) hmk
          rw [hgd] at hrc
          have hp := HP7.out
          rw [hrc] at hp
          have HP8 := Lib.hid hp
          clear hp hrc hgd
          go_wp2_with fail
          refine (po_take w.heap.size b _ 0 wr HP8.out HK7.out.size (by simp)).mono ?_
          rintro e z3 ⟨y, rfl, hy, hp, hb⟩
          have hy : Rd (intE .u8) z3 y (l.getD m []) := hy
          have hp : Po w.heap.size z3 b (rest (l.take j) k (m + 1)) := hp
          have HY9 := Lib.hid hy
          have HP9 := Lib.hid hp
          have HK9 := Lib.hid (HK7.out.trans hb)
          have HT9 := Lib.hid (HT.out.keep HK9.out)
          clear hy hp hb
          obtain ⟨a2, c2, hcell2, hrd2, _⟩ := HT9.out m hml
          have HRD2 := Lib.hid hrd2
          clear hrd2
          generalize hq2 : l.getD m [] = q2 at *
          go_wp2_with fail
          refine (bytes_yes _ _ q2 z3 HY9.out HRD2.out).mono ?_
          rintro e z4 ⟨rfl, hk⟩
          have HP10 := Lib.hid (HP9.out.keep hk)
          have HK10 := Lib.hid (nest HK9.out hk)
          clear hk
          go_wp2_with fail
          exact ⟨⟨m + 1, by omega, by go_num, HP10.out, HK10.out⟩, by simp [intOf]; omega⟩
        have hmj2 : m = j := by omega
        subst hmj2
        have hre := rest_end (l.take m) k (by rw [HTL.out]; exact hkj)
        rw [HTL.out] at hre
        have hp := HP7.out
        rw [hre] at hp
        have HP8 := Lib.hid hp
        clear hp hre
        go_wp2_with fail
        refine (po_len w.heap.size b _ wr HP8.out).mono ?_
        rintro e z3 ⟨rfl, hk⟩
        have HK8 := Lib.hid (nest HK7.out hk)
        clear hk
        go_wp2_with fail
        go_ret
        exact ⟨rfl, HK8.out⟩
end Go.Proofs.Ytchofcciddbmoaa.poolOrder
