/- Walk of the law RingJoins. -/
import Derived.Test.YtpgljdngbiicmaaRgLaw
import Derived.Test.YtpgljdngbiicmaaRgPlans
import Derived.Test.YtpgljdngbiicmaaRef
set_option maxRecDepth 4000
namespace Go.Proofs.Ytpgljdngbiicmaa.ringJoins
open Go.RowKit Mem
set_option linter.unusedSimpArgs false
set_option linter.unusedVariables false
attribute [local irreducible] Go.Calls

/-- a point that was not there, added -/
theorem join_add {L : List Int} (h : okR L) {p : Int} (bp : 0 ≤ p ∧ p ≤ 4294967295) (hn : L.length < 64) (hp : L.contains p = false) : (addR L p).2 = 0 ∧ okR (addR L p).1 ∧ (∀ x, x ∈ (addR L p).1 ↔ x ∈ L ∨ x = p) ∧ dropR (addR L p).1 p = (L, 0) ∧ dropR L p = (L, 6) := by
  have hm := add_mem h (p := p) hn
  have ho := add_ok h bp
  refine ⟨?_, ho, hm, ?_, ?_⟩
  · unfold addR
    rw [if_neg (by rw [hp]; decide), if_neg (by omega)]
  · unfold dropR
    rw [if_pos (by simpa using (hm p).2 (.inr rfl))]
    congr 1
    refine sorted_same (ho.1.sublist List.filter_sublist) h.1 fun x => ?_
    rw [List.mem_filter, hm]
    have hp' : ¬ p ∈ L := by simpa using hp
    constructor
    · rintro ⟨h1 | h1, h2⟩
      · exact h1
      · subst h1; simp at h2
    · intro h1
      refine ⟨.inl h1, ?_⟩
      have : x ≠ p := fun e => hp' (by rw [← e]; exact h1)
      simpa using this
  · unfold dropR
    rw [if_neg (by rw [hp]; decide)]
/-- all others keep their owners -/
theorem join_keep {L M : List Int} (h : okR L) (h' : okR M) {p v : Int} (bv : 0 ≤ v ∧ v ≤ 4294967295) (hL : L ≠ []) (hm : ∀ x, x ∈ M ↔ x ∈ L ∨ x = p) (hne : (ownR M v).1 ≠ p) : (ownR M v).1 = (ownR L v).1 := by
  have hM : M ≠ [] := fun e => by
    have := (hm p).2 (.inr rfl)
    rw [e] at this
    cases this
  have h1 := (own_head v hM).2
  have h2 : (ownR M v).1 ∈ L := by
    rcases (hm _).1 h1 with e | e
    · exact e
    · exact absurd e hne
  exact (own_is h bv h2 (fun y hy => own_min h' bv ((hm y).2 (.inl hy)))).symm

set_option maxRecDepth 100000 in
set_option maxHeartbeats 8000000 in
theorem walk (v : Value) (l : List Int) (p : Int) (bp : 0 ≤ p ∧ p ≤ 4294967295) (t : Int) (bt : 0 ≤ t ∧ t ≤ 4294967295) (w : World) (h : Rd (intE .u32) w v l) (hb : ∀ x ∈ l, 0 ≤ x ∧ x ≤ 4294967295) :
    Calls Try.prog 6 #[v, .int .u32 p, .int .u32 t] w fun e w' => e = .returned (.bool true) ∧ Below w.heap.size w w' := by
  obtain ⟨a, g, o, c, rfl, hc, hm, ha, hcells⟩ := Mem.Rd.loopI h
  have hm' : c ≤ 9223372036854775807 := hm
  have HA := Lib.hid ha
  have HC := Lib.hid hcells
  have HB := Lib.hid hb
  have HBT := Lib.hid bt
  have HBP := Lib.hid bp
  clear h ha hcells hm hb bt bp
  go_enter Try.func6, Try.ntmps6
  go_wp2_with fail
  refine (rgnew_any w).mono ?_
  rintro e w1 ⟨b, W, R, rfl, hp, hr, hk⟩
  have HP := Lib.hid (rg_new (B := w.heap.size) hp hr (Nat.le_refl _))
  have HK := Lib.hid hk
  clear hp hr hk
  go_upto_block 99 with fail
  go_loopw [8] (fun iv wr => ∃ i : Nat, i ≤ l.length ∧ i ≤ 40 ∧ iv = .int .i64 i ∧ Rg w.heap.size wr b (addsR [] (l.take i)) ∧ Below w.heap.size w wr) (fun iv _ => 40 - (intOf iv).toNat)
  case atStart => exact ⟨0, Nat.zero_le _, Nat.zero_le _, rfl, HP.out, HK.out⟩
  case round =>
    obtain ⟨i, hi, hi40, rfl, hp, hk⟩ := hrel
    have HP2 := Lib.hid hp
    have HK2 := Lib.hid hk
    have HF := Lib.hid (addsR_facts l HB.out i hi (by omega))
    clear hp hk HP HK
    by_cases hin : i < l.length ∧ i < 40
    · obtain ⟨h1, h2⟩ := hin
      obtain ⟨rfl, hg⟩ := HA.out (by omega)
      have d0 := kc HK2.out (HC.out i h1)
      have HST := Lib.hid (addsR_step [] h1)
      have HBX : Hid (0 ≤ l.getD i 0 ∧ l.getD i 0 ≤ 4294967295) := Lib.hid (HB.out _ (by rw [show l.getD i 0 = l[i] by simp [List.getD, h1]]; exact List.getElem_mem h1))
      obtain ⟨x, hx⟩ : ∃ x, x = l.getD i 0 := ⟨_, rfl⟩
      rw [← hx] at d0 HST HBX
      have hil : (i : Int) < (l.length : Int) := by omega
      have hi4 : (i : Int) < 40 := by omega
      clear hx hg
      go_wp2_with fail
      refine (rg_add w.heap.size b _ x wr HP2.out HK2.out.size HBX.out).mono ?_
      rintro e w3 ⟨rfl, hp, hk⟩
      have HP3 := Lib.hid hp
      have HK3 := Lib.hid (HK2.out.trans hk)
      clear hp hk HP2 HK2
      go_wp2_with fail
      exact ⟨⟨i + 1, by omega, by omega, by go_num, by rw [HST.out]; exact HP3.out, HK3.out⟩, by simp [intOf]; omega⟩
    obtain ⟨L, hL⟩ : ∃ L, L = addsR [] (l.take i) := ⟨_, rfl⟩
    rw [← hL] at HP2 HF
    clear hL HA HC
    have HO := Lib.hid HP2.out.ok
    have HLL : Hid (L.length < 64) := Lib.hid (by have := HF.out.2.1; omega)
    rcases (show ¬ (i : Int) < (l.length : Int) ∨ ((i : Int) < (l.length : Int) ∧ ¬ (i : Int) < 40) by omega) with q | ⟨q1, q2⟩
    all_goals
      go_wp2_with fail
      refine (rg_owner w.heap.size b L t wr HP2.out HBT.out).mono ?_
      obtain ⟨OW, iw⟩ : ∃ q, q = ownR L t := ⟨_, rfl⟩
      rw [← iw]
      have HOW := Lib.hid iw
      have HIS : Hid (OW.2 = !L.isEmpty) := Lib.hid (by rw [iw]; rfl)
      clear iw
      obtain ⟨ow, isw⟩ := OW
      rintro e w3 ⟨rfl, hk⟩
      have HP3 := Lib.hid (HP2.out.keep hk)
      have HK3 := Lib.hid (nest HK2.out hk)
      clear hk HP2 HK2
      have HIS2 : Hid (isw = !L.isEmpty) := Lib.hid HIS.out
      clear HIS
      by_cases hL0 : L = []
      · have hisf : isw = false := by rw [HIS2.out, hL0]; rfl
        clear HIS2 hL0
        subst hisf
        obtain ⟨cc, hcc⟩ : ∃ q, q = L.contains p := ⟨_, rfl⟩
        go_wp2_with fail
        refine (rgawake_any w3).mono ?_
        rintro e w4 ⟨rfl, hk⟩
        have HP4 := Lib.hid (HP3.out.keep hk)
        have HK4 := Lib.hid (nest HK3.out hk)
        clear hk HP3 HK3
        go_wp2_with fail
        refine (rg_has w.heap.size b L p w4 HP4.out HBP.out).mono ?_
        rw [← hcc]
        rintro e w5 ⟨rfl, hk⟩
        have HK5 := Lib.hid (nest HK4.out hk)
        clear hk HP4 HK4 hcc
        cases cc
        all_goals
          go_wp2_with fail
          refine (rgawake_any w5).mono ?_
          rintro e w6 ⟨rfl, hk⟩
          have HK6 := Lib.hid (nest HK5.out hk)
          clear hk
          go_wp2_with fail
          go_ret
          exact ⟨rfl, HK6.out⟩
      have hist : isw = true := by rw [HIS2.out]; cases L <;> simp at hL0 ⊢
      clear HIS2
      subst hist
      have HL0 := Lib.hid hL0
      clear hL0
      go_wp2_with fail
      refine (rgawake_any w3).mono ?_
      rintro e w4 ⟨rfl, hk⟩
      have HP4 := Lib.hid (HP3.out.keep hk)
      have HK4 := Lib.hid (nest HK3.out hk)
      clear hk HP3 HK3
      go_wp2_with fail
      refine (rg_has w.heap.size b L p w4 HP4.out HBP.out).mono ?_
      obtain ⟨cc, hcc⟩ : ∃ q, q = L.contains p := ⟨_, rfl⟩
      rw [← hcc]
      rintro e w5 ⟨rfl, hk⟩
      have HP5 := Lib.hid (HP4.out.keep hk)
      have HK5 := Lib.hid (nest HK4.out hk)
      clear hk HP4 HK4
      cases cc with
      | true =>
        clear hcc
        go_wp2_with fail
        refine (rgawake_any w5).mono ?_
        rintro e w6 ⟨rfl, hk⟩
        have HK6 := Lib.hid (nest HK5.out hk)
        clear hk
        go_wp2_with fail
        go_ret
        exact ⟨rfl, HK6.out⟩
      | false =>
        have HJ := Lib.hid (join_add HO.out HBP.out HLL.out hcc.symm)
        clear hcc
        go_wp2_with fail
        refine (rg_add w.heap.size b L p w5 HP5.out HK5.out.size HBP.out).mono ?_
        rw [HJ.out.1]
        rintro e w6 ⟨rfl, hp, hk⟩
        obtain ⟨M, hM⟩ : ∃ M, M = (addR L p).1 := ⟨_, rfl⟩
        rw [← hM] at hp HJ
        have HP6 := Lib.hid hp
        have HK6 := Lib.hid (HK5.out.trans hk)
        have hpm : p ∈ M := (HJ.out.2.2.1 p).2 (.inr rfl)
        have HOM := Lib.hid HJ.out.2.1
        have HSP : Hid (spanR M p = ((predR M p, p), true)) := Lib.hid (by unfold spanR; rw [if_pos (by simpa using hpm)])
        have HPB := Lib.hid (HOM.out.2.1 _ (pred_min HOM.out hpm hpm).1)
        have HOS : Hid (decide (Cir.beh (predR M p) t ≤ Cir.beh (predR M p) p) = decide ((ownR M t).1 = p)) := Lib.hid (by
          have := own_span HOM.out (v := t) HBT.out hpm
          unfold Cir.beh
          refine decide_eq_decide.2 ⟨fun h => this.1 (by omega), fun h => ?_⟩
          have := this.2 h
          omega)
        have HKP : Hid ((ownR M t).1 ≠ p → (ownR M t).1 = ow) := Lib.hid (fun hne => by
          have := join_keep HO.out HOM.out HBT.out HL0.out HJ.out.2.2.1 hne
          rw [← HOW.out] at this
          exact this)
        obtain ⟨NW, inw⟩ : ∃ q, q = ownR M t := ⟨_, rfl⟩
        rw [← inw] at HOS HKP
        have HNW := Lib.hid inw
        obtain ⟨nw, nis⟩ := NW
        obtain ⟨pr, hpr⟩ : ∃ q, q = predR M p := ⟨_, rfl⟩
        rw [← hpr] at HSP HPB HOS
        have HHAS : Hid (∀ z, Calls Try.prog 29 #[.agg #[.int .u32 pr, .int .u32 p], .int .u32 t] z fun e z' => e = .returned (.bool (decide (nw = p))) ∧ Below z.heap.size z z') := Lib.hid (fun z => by have := rhas_any pr p t HPB.out HBP.out HBT.out z; rwa [HOS.out] at this)
        clear hp hk hM hpm inw hpr HP5 HK5
        go_upto_region 12 with (first | (go_at_call 21; refine (rg_span w.heap.size b M p _ HP6.out HBP.out).mono ?_; rw [HSP.out]; rintro e z6 ⟨rfl, hk6⟩) | (refine at_store 11 rfl ?_; refine wpList_store_row rfl 36 (.tmp 11) (.tmp 60) rfl z6.heap.size #[.int .u32 pr, .int .u32 p] rfl rfl 36 _ (heap_alloc_new z6 _) span_infoR rfl (by simp [Value.oneCell']) ?_))
        (try rw [World.setRow_alloc_new])
        have hX := more (Below.refl z6.heap.size z6) (.cells #[.int .u32 pr, .int .u32 p] 36)
        have HB7 := Lib.hid (Blk.new z6 36 #[.int .u32 pr, .int .u32 p])
        have HP7 := Lib.hid ((HP6.out.keep hk6).keep hX)
        have HK7 := Lib.hid (nest (nest HK6.out hk6) hX)
        clear hX hk6 HP6 HK6
        generalize z6.alloc (.cells #[.int .u32 pr, .int .u32 p] 36) = z7 at *
        obtain ⟨g11, hg11⟩ : ∃ g, g = z6.heap.size := ⟨_, rfl⟩
        rw [← hg11] at HB7 ⊢
        clear hg11
        go_wp2_with fail
        refine (rg_owner w.heap.size b M t z7 HP7.out HBT.out).mono ?_
        rw [← HNW.out]
        rintro e z8 ⟨rfl, hk⟩
        have HP8 := Lib.hid (HP7.out.keep hk)
        have HB8 := Lib.hid (HB7.out.keep hk)
        have HK8 := Lib.hid (nest HK7.out hk)
        clear hk HP7 HB7 HK7
        go_upto_region 13 with fail
        by_cases hnp : nw = p
        · subst hnp
          refine Run.region_seq (S := fun z => Blk z g11 36 #[.int .u32 pr, .int .u32 nw] ∧ Below z8.heap.size z8 z)
            [0, 0, 1, 0, 0, 0, 0, 0, 0, 0, 1, 0, 0, 0, 0, 0, 0, 0] (l := ?_) ?_ ⟨HB8.out, Below.refl _ _⟩ ?_
          rotate_left
          (· simp only [Run.seqOf, List.toList_toArray, Run.stepsOf, Run.stepOf, Run.guardOf, List.getElem?_toArray, List.getElem?_cons_zero, List.getElem?_cons_succ, Option.map_some, Option.map_none, Option.bind_some, Option.toList_some, List.map_cons, List.map_nil, List.cons_append, List.nil_append, List.append_eq]
             rfl)
          repeat ((first
            | (refine Run.takes (v := ?_) ?_ ?_; rotate_left; (· intro w' hS'; (first | (refine exec_load_blk (n := 2) (x := .tmp 11) (l := [.int .u32 pr, .int .u32 nw]) ?_ Try.underlying36 span_infoR ?_ ?_ hS'.1 <;> rfl) | (go_simp; (try with_reducible rfl)))))
            | (refine Run.takesG (v := ?_) ?_ ?_ ?_; rotate_left; (· simp only [List.getElem?_cons_zero, List.getElem?_cons_succ]); (· intro w' hS'; (first | (refine exec_load_blk (n := 2) (x := .tmp 11) (l := [.int .u32 pr, .int .u32 nw]) ?_ Try.underlying36 span_infoR ?_ ?_ hS'.1 <;> rfl) | (go_simp; (try with_reducible rfl)))))
            | (refine Run.skipsT ?_ ?_; (· simp only [List.getElem?_cons_zero, List.getElem?_cons_succ]))
            | (refine Run.skipsF ?_ ?_; (· simp only [List.getElem?_cons_zero, List.getElem?_cons_succ]))
            | (refine Run.skipsU ?_ ?_; (· simp only [List.getElem?_cons_zero, List.getElem?_cons_succ]))
            | (refine Run.passT ?_ ?_; (· simp only [List.getElem?_cons_zero, List.getElem?_cons_succ]))
            | (refine Run.passF ?_ ?_; (· simp only [List.getElem?_cons_zero, List.getElem?_cons_succ]))
            | (refine Run.passU ?_ ?_; (· simp only [List.getElem?_cons_zero, List.getElem?_cons_succ]))
            | (refine Run.runs ?_
               (first
               | (refine Run.callF 29 (by kernel_rfl) (fun hS => HHAS.out _) rfl ?_)
               | (refine Run.callG 29 (by kernel_rfl) ?_ (fun hS => HHAS.out _) rfl ?_; (· simp only [List.getElem?_cons_zero, List.getElem?_cons_succ]))
               | fail)
               (first
               | (rintro hS e w' ⟨rfl, rfl⟩; refine ⟨_, rfl, hS, ?_⟩)
               | (rintro hS e w' ⟨rfl, hb⟩; refine ⟨_, rfl, ⟨hS.1.keep hb, nest hS.2 hb⟩, ?_⟩)
               | fail))
            | fail); simp only [Act.put, List.setIfInBounds_toArray, List.set_cons_zero, List.set_cons_succ])
          refine Run.ends (fun hS => ?_)
          have HP9 := Lib.hid (HP8.out.keep hS.2)
          have HK9 := Lib.hid (nest HK8.out hS.2)
          obtain ⟨z9, hz9⟩ : ∃ z, z = w' := ⟨_, rfl⟩
          subst hz9
          clear hS HP8 HK8 HB8
          go_wp2_with fail
          refine (rg_drop w.heap.size b M nw z9 HP9.out HK9.out.size HBP.out).mono ?_
          rw [HJ.out.2.2.2.1]
          rintro e z10 ⟨rfl, hp, hk⟩
          have HP10 := Lib.hid hp
          have HK10 := Lib.hid (HK9.out.trans hk)
          clear hp hk HP9 HK9
          go_wp2_with fail
          refine (rg_drop w.heap.size b L nw z10 HP10.out HK10.out.size HBP.out).mono ?_
          rw [HJ.out.2.2.2.2]
          rintro e z11 ⟨rfl, hp, hk⟩
          have HP11 := Lib.hid hp
          have HK11 := Lib.hid (HK10.out.trans hk)
          clear hp hk HP10 HK10
          go_wp2_with fail
          refine (rg_owner w.heap.size b L t z11 HP11.out HBT.out).mono ?_
          rw [← HOW.out]
          rintro e z12 ⟨rfl, hk⟩
          have HE := Lib.hid (nest HK11.out hk)
          clear hk HP11 HK11
          go_wp2_with fail
          go_ret
          exact ⟨rfl, HE.out⟩
        · have hn2 : (nw == p) = false := beq_eq_false_iff_ne.2 hnp
          have hno : nw = ow := HKP.out hnp
          subst hno
          refine Run.region_seq (S := fun z => Blk z g11 36 #[.int .u32 pr, .int .u32 p] ∧ Below z8.heap.size z8 z)
            [0, 0, 1, 0, 0, 0, 0, 0, 0, 0, 1, 0, 0, 0, 0, 0, 0, 0] (l := ?_) ?_ ⟨HB8.out, Below.refl _ _⟩ ?_
          rotate_left
          (· simp only [Run.seqOf, List.toList_toArray, Run.stepsOf, Run.stepOf, Run.guardOf, List.getElem?_toArray, List.getElem?_cons_zero, List.getElem?_cons_succ, Option.map_some, Option.map_none, Option.bind_some, Option.toList_some, List.map_cons, List.map_nil, List.cons_append, List.nil_append, List.append_eq]
             rfl)
          repeat ((first
            | (refine Run.takes (v := ?_) ?_ ?_; rotate_left; (· intro w' hS'; (first | (refine exec_load_blk (n := 2) (x := .tmp 11) (l := [.int .u32 pr, .int .u32 p]) ?_ Try.underlying36 span_infoR ?_ ?_ hS'.1 <;> rfl) | (go_simp; (try with_reducible rfl)))))
            | (refine Run.takesG (v := ?_) ?_ ?_ ?_; rotate_left; (· simp only [List.getElem?_cons_zero, List.getElem?_cons_succ]); (· intro w' hS'; (first | (refine exec_load_blk (n := 2) (x := .tmp 11) (l := [.int .u32 pr, .int .u32 p]) ?_ Try.underlying36 span_infoR ?_ ?_ hS'.1 <;> rfl) | (go_simp; (try with_reducible rfl)))))
            | (refine Run.skipsT ?_ ?_; (· simp only [List.getElem?_cons_zero, List.getElem?_cons_succ]))
            | (refine Run.skipsF ?_ ?_; (· simp only [List.getElem?_cons_zero, List.getElem?_cons_succ]))
            | (refine Run.skipsU ?_ ?_; (· simp only [List.getElem?_cons_zero, List.getElem?_cons_succ]))
            | (refine Run.passT ?_ ?_; (· simp only [List.getElem?_cons_zero, List.getElem?_cons_succ]))
            | (refine Run.passF ?_ ?_; (· simp only [List.getElem?_cons_zero, List.getElem?_cons_succ]))
            | (refine Run.passU ?_ ?_; (· simp only [List.getElem?_cons_zero, List.getElem?_cons_succ]))
            | (refine Run.runs ?_
               (first
               | (refine Run.callF 29 (by kernel_rfl) (fun hS => HHAS.out _) rfl ?_)
               | (refine Run.callG 29 (by kernel_rfl) ?_ (fun hS => HHAS.out _) rfl ?_; (· simp only [List.getElem?_cons_zero, List.getElem?_cons_succ]))
               | fail)
               (first
               | (rintro hS e w' ⟨rfl, rfl⟩; refine ⟨_, rfl, hS, ?_⟩)
               | (rintro hS e w' ⟨rfl, hb⟩; refine ⟨_, rfl, ⟨hS.1.keep hb, nest hS.2 hb⟩, ?_⟩)
               | fail))
            | fail); simp only [Act.put, List.setIfInBounds_toArray, List.set_cons_zero, List.set_cons_succ])
          refine Run.ends (fun hS => ?_)
          have HP9 := Lib.hid (HP8.out.keep hS.2)
          have HK9 := Lib.hid (nest HK8.out hS.2)
          obtain ⟨z9, hz9⟩ : ∃ z, z = w' := ⟨_, rfl⟩
          subst hz9
          clear hS HP8 HK8 HB8
          go_wp2_with fail
          refine (rg_drop w.heap.size b M p z9 HP9.out HK9.out.size HBP.out).mono ?_
          rw [HJ.out.2.2.2.1]
          rintro e z10 ⟨rfl, hp, hk⟩
          have HP10 := Lib.hid hp
          have HK10 := Lib.hid (HK9.out.trans hk)
          clear hp hk HP9 HK9
          go_wp2_with fail
          refine (rg_drop w.heap.size b L p z10 HP10.out HK10.out.size HBP.out).mono ?_
          rw [HJ.out.2.2.2.2]
          rintro e z11 ⟨rfl, hp, hk⟩
          have HP11 := Lib.hid hp
          have HK11 := Lib.hid (HK10.out.trans hk)
          clear hp hk HP10 HK10
          go_wp2_with fail
          refine (rg_owner w.heap.size b L t z11 HP11.out HBT.out).mono ?_
          rw [← HOW.out]
          rintro e z12 ⟨rfl, hk⟩
          have HE := Lib.hid (nest HK11.out hk)
          clear hk HP11 HK11
          go_wp2_with fail
          go_ret
          exact ⟨rfl, HE.out⟩
end Go.Proofs.Ytpgljdngbiicmaa.ringJoins
