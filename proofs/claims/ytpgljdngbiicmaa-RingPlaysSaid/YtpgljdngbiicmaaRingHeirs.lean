/- Walk of the law RingHeirs. -/
import Derived.Test.YtpgljdngbiicmaaRgLaw
import Derived.Test.YtpgljdngbiicmaaRgPlans
set_option maxRecDepth 4000
namespace Go.Proofs.Ytpgljdngbiicmaa.ringHeirs
open Go.RowKit Mem
set_option linter.unusedSimpArgs false
set_option linter.unusedVariables false
attribute [local irreducible] Go.Calls

theorem u64_bd (x : Int) : 0 ≤ IntKind.u64.wrap x ∧ IntKind.u64.wrap x ≤ 18446744073709551615 := by
  have h : IntKind.u64.wrap x = x % 18446744073709551616 := rfl
  omega
theorem oth_mem {L : List Int} {p x : Int} : x ∈ othR L p ↔ x ∈ L ∧ x ≠ p := by
  unfold othR
  rw [List.mem_append, lowR_mem, upR_mem]
  constructor
  · rintro (h | h)
    · exact ⟨h.1, by omega⟩
    · exact ⟨h.1, by omega⟩
  · rintro ⟨h1, h2⟩
    rcases Int.lt_trichotomy x p with q | q | q
    · exact .inr ⟨h1, q⟩
    · exact absurd q h2
    · exact .inl ⟨h1, q⟩
theorem oth_len {L : List Int} (h : okR L) (p : Int) : (othR L p).length = L.length - (if L.contains p then 1 else 0) := by
  have e := congrArg List.length (split_R h.1 p)
  unfold othR
  cases hc : L.contains p with
  | true => rw [hc] at e; simp at e ⊢; omega
  | false => rw [hc] at e; simp at e ⊢; omega
/-- in the order in which one comes to them -/
theorem oth_sorted {L : List Int} (h : okR L) {p : Int} (bp : 0 ≤ p ∧ p ≤ 4294967295) : (othR L p).Pairwise fun x y => (x - p - 1) % 4294967296 < (y - p - 1) % 4294967296 := by
  unfold othR
  rw [List.pairwise_append]
  refine ⟨List.Pairwise.imp_of_mem (fun {x y} hx hy hlt => ?_) (h.1.sublist List.filter_sublist), List.Pairwise.imp_of_mem (fun {x y} hx hy hlt => ?_) (h.1.sublist List.filter_sublist), fun x hx y hy => ?_⟩
  · have h1 := upR_mem.1 hx
    have h2 := upR_mem.1 hy
    have b1 := h.2.1 x h1.1
    have b2 := h.2.1 y h2.1
    omega
  · have h1 := lowR_mem.1 hx
    have h2 := lowR_mem.1 hy
    have b1 := h.2.1 x h1.1
    have b2 := h.2.1 y h2.1
    omega
  · have h1 := upR_mem.1 hx
    have h2 := lowR_mem.1 hy
    have b1 := h.2.1 x h1.1
    have b2 := h.2.1 y h2.1
    omega
theorem oth_lt {L : List Int} (h : okR L) {p : Int} (bp : 0 ≤ p ∧ p ≤ 4294967295) {i j : Nat} (hj : j < (othR L p).length) (hij : i < j) : ((othR L p)[i] - p - 1) % 4294967296 < ((othR L p)[j] - p - 1) % 4294967296 :=
  List.pairwise_iff_getElem.1 (oth_sorted h bp) i j (by omega) hj hij
/-- the next one of each is the one behind it -/
theorem oth_next {L : List Int} (h : okR L) {p : Int} (bp : 0 ≤ p ∧ p ≤ 4294967295) {i : Nat} (hi : i < (othR L p).length) : nextR L (if i = 0 then p else (othR L p).getD (i - 1) 0) = ((othR L p)[i], true) := by
  have hm := (oth_mem.1 (List.getElem_mem hi))
  have hL : L ≠ [] := fun e => by subst e; simp [othR, lowR, upR] at hi
  have bi := h.2.1 _ hm.1
  have key : ∀ q : Int, 0 ≤ q ∧ q ≤ 4294967295 → (∀ y ∈ L, ((othR L p)[i] - (q + 1) % 4294967296) % 4294967296 ≤ (y - (q + 1) % 4294967296) % 4294967296) → nextR L q = ((othR L p)[i], true) := by
    intro q bq hall
    have h1 := own_is h (v := (q + 1) % 4294967296) (by omega) hm.1 hall
    have h2 := (own_head ((q + 1) % 4294967296) hL).1
    unfold nextR
    exact Prod.ext h1 h2
  have place : ∀ y ∈ L, y = p ∨ ∃ j, ∃ hj : j < (othR L p).length, (othR L p)[j] = y := fun y hy => by
    by_cases e : y = p
    · exact .inl e
    · obtain ⟨j, hj, he⟩ := List.getElem_of_mem (oth_mem.2 ⟨hy, e⟩)
      exact .inr ⟨j, hj, he⟩
  by_cases h0 : i = 0
  · rw [if_pos h0]
    refine key p bp fun y hy => ?_
    have by' := h.2.1 y hy
    rcases place y hy with e | ⟨j, hj, he⟩
    · rw [e]; omega
    · by_cases hji : j = i
      · rw [← he]; simp only [hji]; exact Int.le_refl _
      · have := oth_lt h bp hj (show i < j by omega)
        rw [he] at this
        omega
  · rw [if_neg h0]
    have hi1 : i - 1 < (othR L p).length := by omega
    have hg : (othR L p).getD (i - 1) 0 = (othR L p)[i - 1] := by simp [List.getD, hi1]
    rw [hg]
    have hmq := oth_mem.1 (List.getElem_mem hi1)
    have bq := h.2.1 _ hmq.1
    have hqi := oth_lt h bp hi (show i - 1 < i by omega)
    refine key _ bq fun y hy => ?_
    have by' := h.2.1 y hy
    rcases place y hy with e | ⟨j, hj, he⟩
    · rw [e]
      omega
    · rcases Nat.lt_or_ge j i with hji | hji
      · have h5 : ((othR L p)[j] - p - 1) % 4294967296 ≤ ((othR L p)[i - 1] - p - 1) % 4294967296 := by
          by_cases e2 : j = i - 1
          · simp only [e2]; exact Int.le_refl _
          · exact Int.le_of_lt (oth_lt h bp hi1 (by omega))
        rw [he] at h5
        omega
      · have h5 : ((othR L p)[i] - p - 1) % 4294967296 ≤ ((othR L p)[j] - p - 1) % 4294967296 := by
          by_cases e2 : j = i
          · simp only [e2]; exact Int.le_refl _
          · exact Int.le_of_lt (oth_lt h bp hj (by omega))
        rw [he] at h5
        omega
def atR (T : List Int) (p : Int) (j : Nat) : Int := if j = 0 then p else T.getD (j - 1) 0
theorem oth_nodup {L : List Int} (h : okR L) {p : Int} (bp : 0 ≤ p ∧ p ≤ 4294967295) : (othR L p).Nodup := (oth_sorted h bp).imp fun hlt e => by rw [e] at hlt; omega

set_option maxRecDepth 100000 in
set_option maxHeartbeats 8000000 in
theorem walk (v : Value) (l : List Int) (p : Int) (bp : 0 ≤ p ∧ p ≤ 4294967295) (n : Int) (bn : -9223372036854775808 ≤ n ∧ n ≤ 9223372036854775807) (w : World) (h : Rd (intE .u32) w v l) (hb : ∀ x ∈ l, 0 ≤ x ∧ x ≤ 4294967295) :
    Calls Try.prog 5 #[v, .int .u32 p, .int .i64 n] w fun e w' => e = .returned (.bool true) ∧ Below w.heap.size w w' := by
  obtain ⟨a, g, o, c, rfl, hc, hm, ha, hcells⟩ := Mem.Rd.loopI h
  have hm' : c ≤ 9223372036854775807 := hm
  have HA := Lib.hid ha
  have HC := Lib.hid hcells
  have HB := Lib.hid hb
  have HBN := Lib.hid bn
  have HBP := Lib.hid bp
  clear h ha hcells hm hb bn bp
  go_enter Try.func5, Try.ntmps5
  go_wp2_with fail
  refine (rgnew_any w).mono ?_
  rintro e w1 ⟨b, W, R, rfl, hp, hr, hk⟩
  have HP := Lib.hid (rg_new (B := w.heap.size) hp hr (Nat.le_refl _))
  have HK := Lib.hid hk
  clear hp hr hk
  go_upto_block 99 with fail
  go_loopw [8] (fun iv wr => ∃ i : Nat, i ≤ l.length ∧ i ≤ 40 ∧ iv = .int .i64 i ∧ Rg w.heap.size wr b (addsR [] (l.take i)) ∧ Below w.heap.size w wr) (fun iv _ => 40 - (intOf iv).toNat)
  case atStart => exact ⟨0, Nat.zero_le _, Nat.zero_le _, rfl, HP.out, HK.out⟩
  case round =>
    obtain ⟨i, hi, hi40, rfl, hp, hk⟩ := hrel
    have HP2 := Lib.hid hp
    have HK2 := Lib.hid hk
    have HF := Lib.hid (addsR_facts l HB.out i hi (by omega))
    clear hp hk HP HK
    by_cases hin : i < l.length ∧ i < 40
    · obtain ⟨h1, h2⟩ := hin
      obtain ⟨rfl, hg⟩ := HA.out (by omega)
      have d0 := kc HK2.out (HC.out i h1)
      have HST := Lib.hid (addsR_step [] h1)
      have HBX : Hid (0 ≤ l.getD i 0 ∧ l.getD i 0 ≤ 4294967295) := Lib.hid (HB.out _ (by rw [show l.getD i 0 = l[i] by simp [List.getD, h1]]; exact List.getElem_mem h1))
      obtain ⟨x, hx⟩ : ∃ x, x = l.getD i 0 := ⟨_, rfl⟩
      rw [← hx] at d0 HST HBX
      have hil : (i : Int) < (l.length : Int) := by omega
      have hi4 : (i : Int) < 40 := by omega
      clear hx hg
      go_wp2_with fail
      refine (rg_add w.heap.size b _ x wr HP2.out HK2.out.size HBX.out).mono ?_
      rintro e w3 ⟨rfl, hp, hk⟩
      have HP3 := Lib.hid hp
      have HK3 := Lib.hid (HK2.out.trans hk)
      clear hp hk HP2 HK2
      go_wp2_with fail
      exact ⟨⟨i + 1, by omega, by omega, by go_num, by rw [HST.out]; exact HP3.out, HK3.out⟩, by simp [intOf]; omega⟩
    obtain ⟨L, hL⟩ : ∃ L, L = addsR [] (l.take i) := ⟨_, rfl⟩
    rw [← hL] at HP2 HF
    clear hL HA HC
    have HO := Lib.hid HP2.out.ok
    have HLN : Hid (L.length ≤ 64) := Lib.hid HO.out.2.2
    obtain ⟨m, hm50, hmq⟩ : ∃ m : Nat, m < 50 ∧ wrap64 ((IntKind.u64.wrap n).tmod 50) = (m : Int) := by
      have q1 : 0 ≤ (IntKind.u64.wrap n).tmod 50 := Int.tmod_nonneg _ (u64_bd n).1
      have q2 := Int.tmod_lt_of_pos (IntKind.u64.wrap n) (show (0 : Int) < 50 by decide)
      refine ⟨((IntKind.u64.wrap n).tmod 50).toNat, by omega, ?_⟩
      unfold wrap64
      omega
    rcases (show ¬ (i : Int) < (l.length : Int) ∨ ((i : Int) < (l.length : Int) ∧ ¬ (i : Int) < 40) by omega) with q | ⟨q1, q2⟩
    all_goals
      go_upto_region 7 with fail
      rw [hmq]
      clear hmq
      go_wp2_with fail
      refine (rg_points w.heap.size b L wr HP2.out).mono ?_
      rintro e w3 ⟨vp, rfl, hv, hk⟩
      have HP3 := Lib.hid (HP2.out.keep hk)
      have HK3 := Lib.hid (nest HK2.out hk)
      have HV3 := Lib.hid hv
      obtain ⟨ap, cp, rfl, hcp, hmp⟩ := hv.form
      have hmp' : cp ≤ 9223372036854775807 := hmp
      clear hv hk hmp HP2 HK2
      go_wp2_with fail
      refine (rg_heirs w.heap.size b L p w3 m HP3.out HBP.out (by omega)).mono ?_
      rintro e w4 ⟨vh, rfl, hv, hk⟩
      have HP4 := Lib.hid (HP3.out.keep hk)
      have HK4 := Lib.hid (nest HK3.out hk)
      have HV4 := Lib.hid (HV3.out.keep hk)
      have HOL := Lib.hid (oth_len HO.out p)
      have HHN : Hid (∀ i (hi : i < (othR L p).length), nextR L (if i = 0 then p else (othR L p).getD (i - 1) 0) = ((othR L p)[i], true)) := Lib.hid (fun i hi => oth_next HO.out HBP.out hi)
      have HND := Lib.hid (oth_nodup HO.out HBP.out (p := p))
      have HOB : Hid (∀ x ∈ othR L p, (0 ≤ x ∧ x ≤ 4294967295) ∧ x ≠ p) := Lib.hid (fun x hx => ⟨HO.out.2.1 x (oth_mem.1 hx).1, (oth_mem.1 hx).2⟩)
      obtain ⟨T, hT⟩ : ∃ T, T = othR L p := ⟨_, rfl⟩
      have hH : heirsR L p m = T.take m := by unfold heirsR; rw [hT]; rfl
      rw [hH] at hv
      have HT := Lib.hid hT
      rw [← hT] at HOL HND HOB
      have HHN : Hid (∀ i (hi : i < T.length), nextR L (if i = 0 then p else T.getD (i - 1) 0) = (T[i], true)) := Lib.hid (by subst hT; exact HHN.out)
      clear hT hH
      obtain ⟨H, hH⟩ : ∃ H, H = T.take m := ⟨_, rfl⟩
      rw [← hH] at hv
      have HHL : Hid (H.length = if T.length < m then T.length else m) := Lib.hid (by rw [hH, List.length_take]; split <;> omega)
      have HHT : Hid (∀ i (hi : i < H.length), ∃ hi' : i < T.length, H[i] = T[i] ∧ H.take i = T.take i) := Lib.hid (fun i hi => by
        have hi2 : i < m ∧ i < T.length := by have := hi; rw [hH, List.length_take] at this; omega
        refine ⟨hi2.2, by simp [hH], by rw [hH, List.take_take, Nat.min_eq_left (by omega)]⟩)
      have HHM : Hid (H.length ≤ 64) := Lib.hid (by have := HOL.out; have := HLN.out; rw [HHL.out]; split <;> omega)
      obtain ⟨ah, gh, oh, ch, rfl, hch, hmh, hah, heh⟩ := Mem.Rd.loopI hv
      have hmh' : ch ≤ 9223372036854775807 := hmh
      have HAH := Lib.hid hah
      have HEH := Lib.hid heh
      have HVH := Lib.hid hv
      clear hv hk hah heh hmh hH HP3 HK3 HV3
      go_wp2_with fail
      refine (inU_any _ L p w4 HV4.out).mono ?_
      obtain ⟨cc, hcc⟩ : ∃ q, q = L.contains p := ⟨_, rfl⟩
      rw [← hcc] at HOL ⊢
      have HCC : Hid (cc = true → 0 < L.length) := Lib.hid (fun e => by rw [hcc] at e; exact List.length_pos_of_mem (by simpa using e))
      clear hcc
      rintro e w5 ⟨rfl, hk⟩
      have HP5 := Lib.hid (HP4.out.keep hk)
      have HK5 := Lib.hid (nest HK4.out hk)
      have HVH5 := Lib.hid (HVH.out.keep hk)
      have HKH := Lib.hid hk
      clear hk HP4 HK4 HV4 HVH
      obtain ⟨N, hN⟩ : ∃ N, N = H.length := ⟨_, rfl⟩
      have HNN := Lib.hid hN
      rw [← hN] at HHL HVH5 hch HHM ⊢
      clear hN
      cases cc with
      | false =>
        have HOL2 : Hid (T.length = L.length) := Lib.hid (by have := HOL.out; simpa using this)
        by_cases hmn : (L.length : Int) < (m : Int)
        · have hNe : N = L.length := by have := HHL.out; rw [HOL2.out] at this; split at this <;> omega
          have hmi : min (m : Int) (L.length : Int) = (N : Int) := by omega
          subst hNe
          go_wp2_with fail
          refine (rgawake_any w5).mono ?_
          rintro e w6 ⟨rfl, hk⟩
          have HP6 := Lib.hid (HP5.out.keep hk)
          have HK6 := Lib.hid (nest HK5.out hk)
          have HVH6 := Lib.hid (HVH5.out.keep hk)
          have HKH6 := Lib.hid (nest HKH.out hk)
          clear hk HP5 HK5 HVH5 HKH
          go_upto_block 99 with fail
          clear hmn hmi
          go_loopw [12, 13] (fun av jv wr => ∃ j : Nat, j ≤ L.length ∧ av = .int .u32 (atR T p j) ∧ jv = .int .i64 j ∧ Below w6.heap.size w6 wr) (fun _ jv _ => L.length - (intOf jv).toNat)
          case atStart => exact ⟨0, Nat.zero_le _, rfl, rfl, Below.refl _ _⟩
          case round =>
            obtain ⟨j, hj, rfl, rfl, hb⟩ := hrel
            have HKW := Lib.hid hb
            have HP7 := Lib.hid (HP6.out.keep hb)
            by_cases hlt : j < L.length
            · obtain ⟨hjT, hjx, hjt⟩ := HHT.out j (by have := HNN.out; omega)
              have HNX : Hid (nextR L (atR T p j) = (T[j], true)) := Lib.hid (HHN.out j hjT)
              obtain ⟨rfl, hgh⟩ := HAH.out (by have := HNN.out; omega)
              have c0 := kc hb (kc HKH6.out (HEH.out j (by have := HNN.out; omega)))
              rw [show H.getD j 0 = H[j]'(by have := HNN.out; omega) by simp [List.getD, show j < H.length by have := HNN.out; omega], hjx] at c0
              have hatb : 0 ≤ atR T p j ∧ atR T p j ≤ 4294967295 := by
                unfold atR
                split
                · exact HBP.out
                · rw [show T.getD (j - 1) 0 = T[j - 1]'(by omega) by simp [List.getD, show j - 1 < T.length by omega]]
                  exact (HOB.out _ (List.getElem_mem _)).1
              have HXN : Hid (T[j] ≠ p) := Lib.hid (HOB.out _ (List.getElem_mem hjT)).2
              have HNC : Hid ((T.take j).contains T[j] = false) := Lib.hid (by
                rw [Bool.eq_false_iff]
                intro hc
                have hm : T[j] ∈ T.take j := by simpa using hc
                obtain ⟨k, hk, he⟩ := List.getElem_of_mem hm
                rw [List.length_take] at hk
                rw [List.getElem_take] at he
                have := (List.getElem_inj HND.out).1 he
                omega)
              have HXT : Hid (T.getD j 0 = T[j]) := Lib.hid (by simp [List.getD, hjT])
              have HCUTV := Lib.hid (HVH6.out.keep hb)
              have hr1 := HCUTV.out
              have hcut := run_cut_to (P := Try.prog) rgElem (some ⟨gh, oh, none⟩) L.length ch j (by omega)
              rw [cutA_zero] at hcut
              obtain ⟨x, hx⟩ : ∃ x, x = T[j] := ⟨_, rfl⟩
              rw [← hx] at c0 HNX HXN HNC HXT
              rw [HNN.out] at hr1
              have hr2 := hr1.cutA (lo := 0) (hi := j) (Nat.zero_le _) (by have := HNN.out; omega)
              rw [cutA_zero, List.drop_zero, Nat.sub_zero, Nat.sub_zero, hjt] at hr2
              have HCT := Lib.hid hr2
              obtain ⟨at_, hat⟩ : ∃ q, q = atR T p j := ⟨_, rfl⟩
              rw [← hat] at hatb HNX ⊢
              have HAB := Lib.hid hatb
              have hxp : (x == p) = false := beq_eq_false_iff_ne.2 HXN.out
              have hjN : (j : Int) < (L.length : Int) := by omega
              have hNc : (L.length : Int) ≤ ch := by omega
              clear hjx hjt hgh hatb hx hr1 hr2 hat HCUTV hb
              go_wp2_with fail
              refine (rg_next w.heap.size b L at_ wr HP7.out HAB.out).mono ?_
              rw [HNX.out]
              rintro e w8 ⟨rfl, hk⟩
              have c1 := kc hk c0
              have HCT8 := Lib.hid (HCT.out.keep hk)
              have HK8 := Lib.hid (nest HKW.out hk)
              clear hk c0 HCT HP7
              go_upto_region 19 with fail
              refine Run.region_walk (S := fun z => z.cell? ⟨gh, oh + j, none⟩ = some (.int .u32 x) ∧ Below w8.heap.size w8 z)
                lrgheirs.rows18 lrgheirs.plan18 (l := ?_) (by kernel_rfl) (by kernel_rfl) (by kernel_rfl) (by kernel_rfl) ?_ ⟨kc (Below.refl _ _).drew c1, (Below.refl _ _).drew⟩ ?_
              rotate_left
              (· simp only [lrgheirs.plan18, Run.stepsOf, Run.stepOf, Run.guardOf, List.getElem?_toArray, List.getElem?_cons_zero, List.getElem?_cons_succ, Option.map_some, Option.map_none, Option.bind_some, Option.toList_some, List.map_cons, List.map_nil, List.cons_append, List.nil_append, List.append_eq]
                 rfl)
              repeat ((first
                | (refine Run.takes (v := ?_) ?_ ?_; rotate_left; (· intro w' hS'; go_simp; (try with_reducible rfl)))
                | (refine Run.takesG (v := ?_) ?_ ?_ ?_; rotate_left; (· simp only [List.getElem?_cons_zero, List.getElem?_cons_succ]); (· intro w' hS'; go_simp; (try with_reducible rfl)))
                | (refine Run.skipsT ?_ ?_; (· simp only [List.getElem?_cons_zero, List.getElem?_cons_succ]))
                | (refine Run.skipsF ?_ ?_; (· simp only [List.getElem?_cons_zero, List.getElem?_cons_succ]))
                | (refine Run.skipsU ?_ ?_; (· simp only [List.getElem?_cons_zero, List.getElem?_cons_succ]))
                | (refine Run.passT ?_ ?_; (· simp only [List.getElem?_cons_zero, List.getElem?_cons_succ]))
                | (refine Run.passF ?_ ?_; (· simp only [List.getElem?_cons_zero, List.getElem?_cons_succ]))
                | (refine Run.passU ?_ ?_; (· simp only [List.getElem?_cons_zero, List.getElem?_cons_succ]))
                | (refine Run.runs ?_
                   (first
                   | (refine Run.callF 28 (by kernel_rfl) (fun hS => inU_any _ (T.take j) x _ (HCT8.out.keep hS.2)) rfl ?_)
                   | (refine Run.callG 28 (by kernel_rfl) ?_ (fun hS => inU_any _ (T.take j) x _ (HCT8.out.keep hS.2)) rfl ?_; (· simp only [List.getElem?_cons_zero, List.getElem?_cons_succ]))
                   | fail)
                   (first
                   | (rw [HNC.out]; rintro hS e w' ⟨rfl, hb⟩; refine ⟨_, rfl, ⟨kc hb hS.1, nest hS.2 hb⟩, ?_⟩)
                   | (rintro hS e w' ⟨rfl, rfl⟩; refine ⟨_, rfl, hS, ?_⟩)
                   | fail))
                | fail); simp only [Act.put, List.setIfInBounds_toArray, List.set_cons_zero, List.set_cons_succ])
              refine Run.ends (fun hS => ?_)
              have c2 := hS.1
              have HK9 := Lib.hid (nest HK8.out hS.2)
              clear hS c1 hcut
              go_wp2_with fail
              exact ⟨⟨j + 1, by omega, by unfold atR; rw [if_neg (by omega), show j + 1 - 1 = j by omega, HXT.out], by go_num, HK9.out⟩, by simp [intOf]; omega⟩
            · have hjN : j = L.length := by omega
              subst hjN
              clear hb
              go_wp2_with fail
              refine (rg_heirs w.heap.size b L p wr (-1) HP7.out HBP.out (by omega)).mono ?_
              rw [show heirsR L p (-1) = [] from rfl]
              rintro e w8 ⟨vh, rfl, hv, hk⟩
              obtain ⟨a8, c8, rfl, _, _⟩ := hv.form
              have HE := Lib.hid (nest HK6.out (nest HKW.out hk))
              clear hv hk
              go_wp2_with fail
              go_ret
              exact ⟨rfl, HE.out⟩
        · have hNe : N = m := by have := HHL.out; rw [HOL2.out] at this; split at this <;> omega
          have hmi : min (m : Int) (L.length : Int) = (N : Int) := by omega
          subst hNe
          go_wp2_with fail
          refine (rgawake_any w5).mono ?_
          rintro e w6 ⟨rfl, hk⟩
          have HP6 := Lib.hid (HP5.out.keep hk)
          have HK6 := Lib.hid (nest HK5.out hk)
          have HVH6 := Lib.hid (HVH5.out.keep hk)
          have HKH6 := Lib.hid (nest HKH.out hk)
          clear hk HP5 HK5 HVH5 HKH
          go_upto_block 99 with fail
          clear hmn hmi
          go_loopw [12, 13] (fun av jv wr => ∃ j : Nat, j ≤ N ∧ av = .int .u32 (atR T p j) ∧ jv = .int .i64 j ∧ Below w6.heap.size w6 wr) (fun _ jv _ => N - (intOf jv).toNat)
          case atStart => exact ⟨0, Nat.zero_le _, rfl, rfl, Below.refl _ _⟩
          case round =>
            obtain ⟨j, hj, rfl, rfl, hb⟩ := hrel
            have HKW := Lib.hid hb
            have HP7 := Lib.hid (HP6.out.keep hb)
            by_cases hlt : j < N
            · obtain ⟨hjT, hjx, hjt⟩ := HHT.out j (by have := HNN.out; omega)
              have HNX : Hid (nextR L (atR T p j) = (T[j], true)) := Lib.hid (HHN.out j hjT)
              obtain ⟨rfl, hgh⟩ := HAH.out (by have := HNN.out; omega)
              have c0 := kc hb (kc HKH6.out (HEH.out j (by have := HNN.out; omega)))
              rw [show H.getD j 0 = H[j]'(by have := HNN.out; omega) by simp [List.getD, show j < H.length by have := HNN.out; omega], hjx] at c0
              have hatb : 0 ≤ atR T p j ∧ atR T p j ≤ 4294967295 := by
                unfold atR
                split
                · exact HBP.out
                · rw [show T.getD (j - 1) 0 = T[j - 1]'(by omega) by simp [List.getD, show j - 1 < T.length by omega]]
                  exact (HOB.out _ (List.getElem_mem _)).1
              have HXN : Hid (T[j] ≠ p) := Lib.hid (HOB.out _ (List.getElem_mem hjT)).2
              have HNC : Hid ((T.take j).contains T[j] = false) := Lib.hid (by
                rw [Bool.eq_false_iff]
                intro hc
                have hm : T[j] ∈ T.take j := by simpa using hc
                obtain ⟨k, hk, he⟩ := List.getElem_of_mem hm
                rw [List.length_take] at hk
                rw [List.getElem_take] at he
                have := (List.getElem_inj HND.out).1 he
                omega)
              have HXT : Hid (T.getD j 0 = T[j]) := Lib.hid (by simp [List.getD, hjT])
              have HCUTV := Lib.hid (HVH6.out.keep hb)
              have hr1 := HCUTV.out
              have hcut := run_cut_to (P := Try.prog) rgElem (some ⟨gh, oh, none⟩) N ch j (by omega)
              rw [cutA_zero] at hcut
              obtain ⟨x, hx⟩ : ∃ x, x = T[j] := ⟨_, rfl⟩
              rw [← hx] at c0 HNX HXN HNC HXT
              rw [HNN.out] at hr1
              have hr2 := hr1.cutA (lo := 0) (hi := j) (Nat.zero_le _) (by have := HNN.out; omega)
              rw [cutA_zero, List.drop_zero, Nat.sub_zero, Nat.sub_zero, hjt] at hr2
              have HCT := Lib.hid hr2
              obtain ⟨at_, hat⟩ : ∃ q, q = atR T p j := ⟨_, rfl⟩
              rw [← hat] at hatb HNX ⊢
              have HAB := Lib.hid hatb
              have hxp : (x == p) = false := beq_eq_false_iff_ne.2 HXN.out
              have hjN : (j : Int) < (N : Int) := by omega
              have hNc : (N : Int) ≤ ch := by omega
              clear hjx hjt hgh hatb hx hr1 hr2 hat HCUTV hb
              go_wp2_with fail
              refine (rg_next w.heap.size b L at_ wr HP7.out HAB.out).mono ?_
              rw [HNX.out]
              rintro e w8 ⟨rfl, hk⟩
              have c1 := kc hk c0
              have HCT8 := Lib.hid (HCT.out.keep hk)
              have HK8 := Lib.hid (nest HKW.out hk)
              clear hk c0 HCT HP7
              go_upto_region 19 with fail
              refine Run.region_walk (S := fun z => z.cell? ⟨gh, oh + j, none⟩ = some (.int .u32 x) ∧ Below w8.heap.size w8 z)
                lrgheirs.rows18 lrgheirs.plan18 (l := ?_) (by kernel_rfl) (by kernel_rfl) (by kernel_rfl) (by kernel_rfl) ?_ ⟨kc (Below.refl _ _).drew c1, (Below.refl _ _).drew⟩ ?_
              rotate_left
              (· simp only [lrgheirs.plan18, Run.stepsOf, Run.stepOf, Run.guardOf, List.getElem?_toArray, List.getElem?_cons_zero, List.getElem?_cons_succ, Option.map_some, Option.map_none, Option.bind_some, Option.toList_some, List.map_cons, List.map_nil, List.cons_append, List.nil_append, List.append_eq]
                 rfl)
              repeat ((first
                | (refine Run.takes (v := ?_) ?_ ?_; rotate_left; (· intro w' hS'; go_simp; (try with_reducible rfl)))
                | (refine Run.takesG (v := ?_) ?_ ?_ ?_; rotate_left; (· simp only [List.getElem?_cons_zero, List.getElem?_cons_succ]); (· intro w' hS'; go_simp; (try with_reducible rfl)))
                | (refine Run.skipsT ?_ ?_; (· simp only [List.getElem?_cons_zero, List.getElem?_cons_succ]))
                | (refine Run.skipsF ?_ ?_; (· simp only [List.getElem?_cons_zero, List.getElem?_cons_succ]))
                | (refine Run.skipsU ?_ ?_; (· simp only [List.getElem?_cons_zero, List.getElem?_cons_succ]))
                | (refine Run.passT ?_ ?_; (· simp only [List.getElem?_cons_zero, List.getElem?_cons_succ]))
                | (refine Run.passF ?_ ?_; (· simp only [List.getElem?_cons_zero, List.getElem?_cons_succ]))
                | (refine Run.passU ?_ ?_; (· simp only [List.getElem?_cons_zero, List.getElem?_cons_succ]))
                | (refine Run.runs ?_
                   (first
                   | (refine Run.callF 28 (by kernel_rfl) (fun hS => inU_any _ (T.take j) x _ (HCT8.out.keep hS.2)) rfl ?_)
                   | (refine Run.callG 28 (by kernel_rfl) ?_ (fun hS => inU_any _ (T.take j) x _ (HCT8.out.keep hS.2)) rfl ?_; (· simp only [List.getElem?_cons_zero, List.getElem?_cons_succ]))
                   | fail)
                   (first
                   | (rw [HNC.out]; rintro hS e w' ⟨rfl, hb⟩; refine ⟨_, rfl, ⟨kc hb hS.1, nest hS.2 hb⟩, ?_⟩)
                   | (rintro hS e w' ⟨rfl, rfl⟩; refine ⟨_, rfl, hS, ?_⟩)
                   | fail))
                | fail); simp only [Act.put, List.setIfInBounds_toArray, List.set_cons_zero, List.set_cons_succ])
              refine Run.ends (fun hS => ?_)
              have c2 := hS.1
              have HK9 := Lib.hid (nest HK8.out hS.2)
              clear hS c1 hcut
              go_wp2_with fail
              exact ⟨⟨j + 1, by omega, by unfold atR; rw [if_neg (by omega), show j + 1 - 1 = j by omega, HXT.out], by go_num, HK9.out⟩, by simp [intOf]; omega⟩
            · have hjN : j = N := by omega
              subst hjN
              clear hb
              go_wp2_with fail
              refine (rg_heirs w.heap.size b L p wr (-1) HP7.out HBP.out (by omega)).mono ?_
              rw [show heirsR L p (-1) = [] from rfl]
              rintro e w8 ⟨vh, rfl, hv, hk⟩
              obtain ⟨a8, c8, rfl, _, _⟩ := hv.form
              have HE := Lib.hid (nest HK6.out (nest HKW.out hk))
              clear hv hk
              go_wp2_with fail
              go_ret
              exact ⟨rfl, HE.out⟩
      | true =>
        have HOL2 : Hid (T.length = L.length - 1) := Lib.hid (by have := HOL.out; simpa using this)
        obtain ⟨oc, hoc⟩ : ∃ o : Nat, o = L.length - 1 := ⟨_, rfl⟩
        have hLp : 0 < L.length := HCC.out rfl
        have hwl : IntKind.i64.wrap ((L.length : Int) - 1) = (oc : Int) := by rw [IntWalk.i64_in _ (by have := HLN.out; omega)]; omega
        have hwl2 : wrap64 ((L.length : Int) - 1) = (oc : Int) := by have := HLN.out; unfold wrap64; omega
        by_cases hmn : (oc : Int) < (m : Int)
        · have hNe : N = oc := by have := HHL.out; rw [HOL2.out, ← hoc] at this; split at this <;> omega
          have hmi : min (m : Int) (oc : Int) = (N : Int) := by omega
          clear hoc
          subst hNe
          go_wp2_with fail
          refine (rgawake_any w5).mono ?_
          rintro e w6 ⟨rfl, hk⟩
          have HP6 := Lib.hid (HP5.out.keep hk)
          have HK6 := Lib.hid (nest HK5.out hk)
          have HVH6 := Lib.hid (HVH5.out.keep hk)
          have HKH6 := Lib.hid (nest HKH.out hk)
          clear hk HP5 HK5 HVH5 HKH
          go_upto_block 99 with fail
          clear hmn hmi
          go_loopw [12, 13] (fun av jv wr => ∃ j : Nat, j ≤ N ∧ av = .int .u32 (atR T p j) ∧ jv = .int .i64 j ∧ Below w6.heap.size w6 wr) (fun _ jv _ => N - (intOf jv).toNat)
          case atStart => exact ⟨0, Nat.zero_le _, rfl, rfl, Below.refl _ _⟩
          case round =>
            obtain ⟨j, hj, rfl, rfl, hb⟩ := hrel
            have HKW := Lib.hid hb
            have HP7 := Lib.hid (HP6.out.keep hb)
            by_cases hlt : j < N
            · obtain ⟨hjT, hjx, hjt⟩ := HHT.out j (by have := HNN.out; omega)
              have HNX : Hid (nextR L (atR T p j) = (T[j], true)) := Lib.hid (HHN.out j hjT)
              obtain ⟨rfl, hgh⟩ := HAH.out (by have := HNN.out; omega)
              have c0 := kc hb (kc HKH6.out (HEH.out j (by have := HNN.out; omega)))
              rw [show H.getD j 0 = H[j]'(by have := HNN.out; omega) by simp [List.getD, show j < H.length by have := HNN.out; omega], hjx] at c0
              have hatb : 0 ≤ atR T p j ∧ atR T p j ≤ 4294967295 := by
                unfold atR
                split
                · exact HBP.out
                · rw [show T.getD (j - 1) 0 = T[j - 1]'(by omega) by simp [List.getD, show j - 1 < T.length by omega]]
                  exact (HOB.out _ (List.getElem_mem _)).1
              have HXN : Hid (T[j] ≠ p) := Lib.hid (HOB.out _ (List.getElem_mem hjT)).2
              have HNC : Hid ((T.take j).contains T[j] = false) := Lib.hid (by
                rw [Bool.eq_false_iff]
                intro hc
                have hm : T[j] ∈ T.take j := by simpa using hc
                obtain ⟨k, hk, he⟩ := List.getElem_of_mem hm
                rw [List.length_take] at hk
                rw [List.getElem_take] at he
                have := (List.getElem_inj HND.out).1 he
                omega)
              have HXT : Hid (T.getD j 0 = T[j]) := Lib.hid (by simp [List.getD, hjT])
              have HCUTV := Lib.hid (HVH6.out.keep hb)
              have hr1 := HCUTV.out
              have hcut := run_cut_to (P := Try.prog) rgElem (some ⟨gh, oh, none⟩) N ch j (by omega)
              rw [cutA_zero] at hcut
              obtain ⟨x, hx⟩ : ∃ x, x = T[j] := ⟨_, rfl⟩
              rw [← hx] at c0 HNX HXN HNC HXT
              rw [HNN.out] at hr1
              have hr2 := hr1.cutA (lo := 0) (hi := j) (Nat.zero_le _) (by have := HNN.out; omega)
              rw [cutA_zero, List.drop_zero, Nat.sub_zero, Nat.sub_zero, hjt] at hr2
              have HCT := Lib.hid hr2
              obtain ⟨at_, hat⟩ : ∃ q, q = atR T p j := ⟨_, rfl⟩
              rw [← hat] at hatb HNX ⊢
              have HAB := Lib.hid hatb
              have hxp : (x == p) = false := beq_eq_false_iff_ne.2 HXN.out
              have hjN : (j : Int) < (N : Int) := by omega
              have hNc : (N : Int) ≤ ch := by omega
              clear hjx hjt hgh hatb hx hr1 hr2 hat HCUTV hb
              go_wp2_with fail
              refine (rg_next w.heap.size b L at_ wr HP7.out HAB.out).mono ?_
              rw [HNX.out]
              rintro e w8 ⟨rfl, hk⟩
              have c1 := kc hk c0
              have HCT8 := Lib.hid (HCT.out.keep hk)
              have HK8 := Lib.hid (nest HKW.out hk)
              clear hk c0 HCT HP7
              go_upto_region 19 with fail
              refine Run.region_walk (S := fun z => z.cell? ⟨gh, oh + j, none⟩ = some (.int .u32 x) ∧ Below w8.heap.size w8 z)
                lrgheirs.rows18 lrgheirs.plan18 (l := ?_) (by kernel_rfl) (by kernel_rfl) (by kernel_rfl) (by kernel_rfl) ?_ ⟨kc (Below.refl _ _).drew c1, (Below.refl _ _).drew⟩ ?_
              rotate_left
              (· simp only [lrgheirs.plan18, Run.stepsOf, Run.stepOf, Run.guardOf, List.getElem?_toArray, List.getElem?_cons_zero, List.getElem?_cons_succ, Option.map_some, Option.map_none, Option.bind_some, Option.toList_some, List.map_cons, List.map_nil, List.cons_append, List.nil_append, List.append_eq]
                 rfl)
              repeat ((first
                | (refine Run.takes (v := ?_) ?_ ?_; rotate_left; (· intro w' hS'; go_simp; (try with_reducible rfl)))
                | (refine Run.takesG (v := ?_) ?_ ?_ ?_; rotate_left; (· simp only [List.getElem?_cons_zero, List.getElem?_cons_succ]); (· intro w' hS'; go_simp; (try with_reducible rfl)))
                | (refine Run.skipsT ?_ ?_; (· simp only [List.getElem?_cons_zero, List.getElem?_cons_succ]))
                | (refine Run.skipsF ?_ ?_; (· simp only [List.getElem?_cons_zero, List.getElem?_cons_succ]))
                | (refine Run.skipsU ?_ ?_; (· simp only [List.getElem?_cons_zero, List.getElem?_cons_succ]))
                | (refine Run.passT ?_ ?_; (· simp only [List.getElem?_cons_zero, List.getElem?_cons_succ]))
                | (refine Run.passF ?_ ?_; (· simp only [List.getElem?_cons_zero, List.getElem?_cons_succ]))
                | (refine Run.passU ?_ ?_; (· simp only [List.getElem?_cons_zero, List.getElem?_cons_succ]))
                | (refine Run.runs ?_
                   (first
                   | (refine Run.callF 28 (by kernel_rfl) (fun hS => inU_any _ (T.take j) x _ (HCT8.out.keep hS.2)) rfl ?_)
                   | (refine Run.callG 28 (by kernel_rfl) ?_ (fun hS => inU_any _ (T.take j) x _ (HCT8.out.keep hS.2)) rfl ?_; (· simp only [List.getElem?_cons_zero, List.getElem?_cons_succ]))
                   | fail)
                   (first
                   | (rw [HNC.out]; rintro hS e w' ⟨rfl, hb⟩; refine ⟨_, rfl, ⟨kc hb hS.1, nest hS.2 hb⟩, ?_⟩)
                   | (rintro hS e w' ⟨rfl, rfl⟩; refine ⟨_, rfl, hS, ?_⟩)
                   | fail))
                | fail); simp only [Act.put, List.setIfInBounds_toArray, List.set_cons_zero, List.set_cons_succ])
              refine Run.ends (fun hS => ?_)
              have c2 := hS.1
              have HK9 := Lib.hid (nest HK8.out hS.2)
              clear hS c1 hcut
              go_wp2_with fail
              exact ⟨⟨j + 1, by omega, by unfold atR; rw [if_neg (by omega), show j + 1 - 1 = j by omega, HXT.out], by go_num, HK9.out⟩, by simp [intOf]; omega⟩
            · have hjN : j = N := by omega
              subst hjN
              clear hb
              go_wp2_with fail
              refine (rg_heirs w.heap.size b L p wr (-1) HP7.out HBP.out (by omega)).mono ?_
              rw [show heirsR L p (-1) = [] from rfl]
              rintro e w8 ⟨vh, rfl, hv, hk⟩
              obtain ⟨a8, c8, rfl, _, _⟩ := hv.form
              have HE := Lib.hid (nest HK6.out (nest HKW.out hk))
              clear hv hk
              go_wp2_with fail
              go_ret
              exact ⟨rfl, HE.out⟩
        · have hNe : N = m := by have := HHL.out; rw [HOL2.out, ← hoc] at this; split at this <;> omega
          have hmi : min (m : Int) (oc : Int) = (N : Int) := by omega
          clear hoc
          subst hNe
          go_wp2_with fail
          refine (rgawake_any w5).mono ?_
          rintro e w6 ⟨rfl, hk⟩
          have HP6 := Lib.hid (HP5.out.keep hk)
          have HK6 := Lib.hid (nest HK5.out hk)
          have HVH6 := Lib.hid (HVH5.out.keep hk)
          have HKH6 := Lib.hid (nest HKH.out hk)
          clear hk HP5 HK5 HVH5 HKH
          go_upto_block 99 with fail
          clear hmn hmi
          go_loopw [12, 13] (fun av jv wr => ∃ j : Nat, j ≤ N ∧ av = .int .u32 (atR T p j) ∧ jv = .int .i64 j ∧ Below w6.heap.size w6 wr) (fun _ jv _ => N - (intOf jv).toNat)
          case atStart => exact ⟨0, Nat.zero_le _, rfl, rfl, Below.refl _ _⟩
          case round =>
            obtain ⟨j, hj, rfl, rfl, hb⟩ := hrel
            have HKW := Lib.hid hb
            have HP7 := Lib.hid (HP6.out.keep hb)
            by_cases hlt : j < N
            · obtain ⟨hjT, hjx, hjt⟩ := HHT.out j (by have := HNN.out; omega)
              have HNX : Hid (nextR L (atR T p j) = (T[j], true)) := Lib.hid (HHN.out j hjT)
              obtain ⟨rfl, hgh⟩ := HAH.out (by have := HNN.out; omega)
              have c0 := kc hb (kc HKH6.out (HEH.out j (by have := HNN.out; omega)))
              rw [show H.getD j 0 = H[j]'(by have := HNN.out; omega) by simp [List.getD, show j < H.length by have := HNN.out; omega], hjx] at c0
              have hatb : 0 ≤ atR T p j ∧ atR T p j ≤ 4294967295 := by
                unfold atR
                split
                · exact HBP.out
                · rw [show T.getD (j - 1) 0 = T[j - 1]'(by omega) by simp [List.getD, show j - 1 < T.length by omega]]
                  exact (HOB.out _ (List.getElem_mem _)).1
              have HXN : Hid (T[j] ≠ p) := Lib.hid (HOB.out _ (List.getElem_mem hjT)).2
              have HNC : Hid ((T.take j).contains T[j] = false) := Lib.hid (by
                rw [Bool.eq_false_iff]
                intro hc
                have hm : T[j] ∈ T.take j := by simpa using hc
                obtain ⟨k, hk, he⟩ := List.getElem_of_mem hm
                rw [List.length_take] at hk
                rw [List.getElem_take] at he
                have := (List.getElem_inj HND.out).1 he
                omega)
              have HXT : Hid (T.getD j 0 = T[j]) := Lib.hid (by simp [List.getD, hjT])
              have HCUTV := Lib.hid (HVH6.out.keep hb)
              have hr1 := HCUTV.out
              have hcut := run_cut_to (P := Try.prog) rgElem (some ⟨gh, oh, none⟩) N ch j (by omega)
              rw [cutA_zero] at hcut
              obtain ⟨x, hx⟩ : ∃ x, x = T[j] := ⟨_, rfl⟩
              rw [← hx] at c0 HNX HXN HNC HXT
              rw [HNN.out] at hr1
              have hr2 := hr1.cutA (lo := 0) (hi := j) (Nat.zero_le _) (by have := HNN.out; omega)
              rw [cutA_zero, List.drop_zero, Nat.sub_zero, Nat.sub_zero, hjt] at hr2
              have HCT := Lib.hid hr2
              obtain ⟨at_, hat⟩ : ∃ q, q = atR T p j := ⟨_, rfl⟩
              rw [← hat] at hatb HNX ⊢
              have HAB := Lib.hid hatb
              have hxp : (x == p) = false := beq_eq_false_iff_ne.2 HXN.out
              have hjN : (j : Int) < (N : Int) := by omega
              have hNc : (N : Int) ≤ ch := by omega
              clear hjx hjt hgh hatb hx hr1 hr2 hat HCUTV hb
              go_wp2_with fail
              refine (rg_next w.heap.size b L at_ wr HP7.out HAB.out).mono ?_
              rw [HNX.out]
              rintro e w8 ⟨rfl, hk⟩
              have c1 := kc hk c0
              have HCT8 := Lib.hid (HCT.out.keep hk)
              have HK8 := Lib.hid (nest HKW.out hk)
              clear hk c0 HCT HP7
              go_upto_region 19 with fail
              refine Run.region_walk (S := fun z => z.cell? ⟨gh, oh + j, none⟩ = some (.int .u32 x) ∧ Below w8.heap.size w8 z)
                lrgheirs.rows18 lrgheirs.plan18 (l := ?_) (by kernel_rfl) (by kernel_rfl) (by kernel_rfl) (by kernel_rfl) ?_ ⟨kc (Below.refl _ _).drew c1, (Below.refl _ _).drew⟩ ?_
              rotate_left
              (· simp only [lrgheirs.plan18, Run.stepsOf, Run.stepOf, Run.guardOf, List.getElem?_toArray, List.getElem?_cons_zero, List.getElem?_cons_succ, Option.map_some, Option.map_none, Option.bind_some, Option.toList_some, List.map_cons, List.map_nil, List.cons_append, List.nil_append, List.append_eq]
                 rfl)
              repeat ((first
                | (refine Run.takes (v := ?_) ?_ ?_; rotate_left; (· intro w' hS'; go_simp; (try with_reducible rfl)))
                | (refine Run.takesG (v := ?_) ?_ ?_ ?_; rotate_left; (· simp only [List.getElem?_cons_zero, List.getElem?_cons_succ]); (· intro w' hS'; go_simp; (try with_reducible rfl)))
                | (refine Run.skipsT ?_ ?_; (· simp only [List.getElem?_cons_zero, List.getElem?_cons_succ]))
                | (refine Run.skipsF ?_ ?_; (· simp only [List.getElem?_cons_zero, List.getElem?_cons_succ]))
                | (refine Run.skipsU ?_ ?_; (· simp only [List.getElem?_cons_zero, List.getElem?_cons_succ]))
                | (refine Run.passT ?_ ?_; (· simp only [List.getElem?_cons_zero, List.getElem?_cons_succ]))
                | (refine Run.passF ?_ ?_; (· simp only [List.getElem?_cons_zero, List.getElem?_cons_succ]))
                | (refine Run.passU ?_ ?_; (· simp only [List.getElem?_cons_zero, List.getElem?_cons_succ]))
                | (refine Run.runs ?_
                   (first
                   | (refine Run.callF 28 (by kernel_rfl) (fun hS => inU_any _ (T.take j) x _ (HCT8.out.keep hS.2)) rfl ?_)
                   | (refine Run.callG 28 (by kernel_rfl) ?_ (fun hS => inU_any _ (T.take j) x _ (HCT8.out.keep hS.2)) rfl ?_; (· simp only [List.getElem?_cons_zero, List.getElem?_cons_succ]))
                   | fail)
                   (first
                   | (rw [HNC.out]; rintro hS e w' ⟨rfl, hb⟩; refine ⟨_, rfl, ⟨kc hb hS.1, nest hS.2 hb⟩, ?_⟩)
                   | (rintro hS e w' ⟨rfl, rfl⟩; refine ⟨_, rfl, hS, ?_⟩)
                   | fail))
                | fail); simp only [Act.put, List.setIfInBounds_toArray, List.set_cons_zero, List.set_cons_succ])
              refine Run.ends (fun hS => ?_)
              have c2 := hS.1
              have HK9 := Lib.hid (nest HK8.out hS.2)
              clear hS c1 hcut
              go_wp2_with fail
              exact ⟨⟨j + 1, by omega, by unfold atR; rw [if_neg (by omega), show j + 1 - 1 = j by omega, HXT.out], by go_num, HK9.out⟩, by simp [intOf]; omega⟩
            · have hjN : j = N := by omega
              subst hjN
              clear hb
              go_wp2_with fail
              refine (rg_heirs w.heap.size b L p wr (-1) HP7.out HBP.out (by omega)).mono ?_
              rw [show heirsR L p (-1) = [] from rfl]
              rintro e w8 ⟨vh, rfl, hv, hk⟩
              obtain ⟨a8, c8, rfl, _, _⟩ := hv.form
              have HE := Lib.hid (nest HK6.out (nest HKW.out hk))
              clear hv hk
              go_wp2_with fail
              go_ret
              exact ⟨rfl, HE.out⟩
end Go.Proofs.Ytpgljdngbiicmaa.ringHeirs
