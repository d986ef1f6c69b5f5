/- Walks that the laws of density share: awake, few. -/
import Derived.Test.YtpfdmjgojpngjaaDensityC
import Derived.Test.YtpfdmjgojpngjaaDnOpen
set_option maxRecDepth 4000
namespace Go.Proofs.Ytpfdmjgojpngjaa
open Go.RowKit Mem Cir
set_option linter.unusedSimpArgs false
set_option linter.unusedVariables false
attribute [local irreducible] Go.Calls

theorem rep_zero (n k : Nat) : (List.replicate n (0 : Int)).getD k 0 = 0 := by
  rw [List.getD_eq_getElem?_getD, List.getElem?_replicate]
  split <;> rfl
theorem awake_within : withD (addD zeroD 0 8) (4294967295, 134217727) = 4 := by
  have e : addD zeroD 0 8 = [8, 0, 0, 0, 0, 0, 0, 0, 0, 0, 0, 0, 0, 0, 0, 0] := by decide
  rw [e]
  have h0 : shareD 0 (4294967295, 134217727) = 134217728 := by rw [share_is 0 (by omega) _ (by simp) (by simp)]; decide
  have hz : ∀ k, 1 ≤ k → partD [8, 0, 0, 0, 0, 0, 0, 0, 0, 0, 0, 0, 0, 0, 0, 0] (4294967295, 134217727) k = 0 := by
    intro k hk
    unfold partD
    have : ([8, 0, 0, 0, 0, 0, 0, 0, 0, 0, 0, 0, 0, 0, 0, 0] : List Int).getD k 0 = 0 := by
      match k, hk with
      | k + 1, _ => rw [List.getD_cons_succ]; exact rep_zero 15 k
    rw [this, Int.zero_mul]
    rfl
  unfold withD
  have hp0 : partD [8, 0, 0, 0, 0, 0, 0, 0, 0, 0, 0, 0, 0, 0, 0, 0] (4294967295, 134217727) 0 = 4 := by
    unfold partD
    rw [show ((0 : Nat) : Int) = 0 from rfl, h0]
    decide
  simp only [withT, hp0, hz 1 (by omega), hz 2 (by omega), hz 3 (by omega), hz 4 (by omega), hz 5 (by omega), hz 6 (by omega), hz 7 (by omega), hz 8 (by omega), hz 9 (by omega), hz 10 (by omega), hz 11 (by omega), hz 12 (by omega), hz 13 (by omega), hz 14 (by omega), hz 15 (by omega)]
  decide
set_option maxRecDepth 100000 in
set_option maxHeartbeats 2000000 in
theorem dawake_any (w : World) : Calls Try.prog 9 #[] w fun e w' => e = .returned (.bool true) ∧ Below w.heap.size w w' := by
  have HADD := Lib.hid (fun z => dadd_any zeroD 0 8 okD_zero (by omega) (by omega) z)
  have HO := Lib.hid (okD_zero.add 0 8)
  have HALL := Lib.hid (fun z => dall_any (addD zeroD 0 8) HO.out z)
  have HWI := Lib.hid (fun z => dwithin_any (addD zeroD 0 8) 4294967295 134217727 HO.out (by omega) (by omega) z)
  rw [awake_within] at HWI
  rw [show allD (addD zeroD 0 8) = 8 by decide] at HALL
  have HL : Hid ((addD zeroD 0 8).length = 16) := Lib.hid HO.out.1
  have HC0 : Hid ((dcs (addD zeroD 0 8)).toArray[0]? = some (.int .u32 8)) := Lib.hid (by rw [dcs_at _ (by rw [HL.out]; omega), show (addD zeroD 0 8).getD 0 0 = 8 by decide])
  obtain ⟨D, hD⟩ : ∃ D, D = addD zeroD 0 8 := ⟨_, rfl⟩
  rw [← hD] at HADD HALL HWI HL HC0
  clear hD HO
  go_enter Try.func9, Try.ntmps9
  go_upto_region 2 with (first | (go_at_call 11; refine (HADD.out _).mono ?_; rintro e w1 ⟨rfl, hk⟩) | (refine at_store 1 rfl ?_; refine wpList_store_row rfl 24 (.tmp 1) (.tmp 3) rfl w1.heap.size (dcs D).toArray rfl rfl 24 _ (heap_alloc_new w1 _) (den_info _ HL.out) (den_sz HL.out) (dcs_one _) ?_))
  rw [World.setRow_alloc_new]
  have HK : Hid (Below w.heap.size w (w1.alloc (.cells (dcs D).toArray 24))) := Lib.hid (more hk _)
  have HB : Hid (Blk (w1.alloc (.cells (dcs D).toArray 24)) w1.heap.size 24 (dcs D).toArray) := Lib.hid (Blk.new _ _ _)
  clear hk HADD
  generalize w1.alloc (.cells (dcs D).toArray 24) = w2 at *
  obtain ⟨g, hg⟩ : ∃ g, g = w1.heap.size := ⟨_, rfl⟩
  rw [← hg] at HB ⊢
  clear hg
  have c0 : w2.cell? ⟨g, 0, none⟩ = some (.int .u32 8) := by rw [HB.out.cell]; exact HC0.out
  refine Run.region_seq (S := fun z => z.cell? ⟨g, 0, none⟩ = some (.int .u32 8) ∧ Blk z g 24 (dcs D).toArray ∧ Below w2.heap.size w2 z)
    [0, 0, 0, 0, 0, 1, 0, 0, 0, 0, 0, 1, 0, 0, 0] (l := ?_) ?_ ⟨c0, HB.out, Below.refl _ _⟩ ?_
  rotate_left
  (· simp only [Run.seqOf, List.toList_toArray, Run.stepsOf, Run.stepOf, Run.guardOf, List.getElem?_toArray, List.getElem?_cons_zero, List.getElem?_cons_succ, Option.map_some, Option.map_none, Option.bind_some, Option.toList_some, List.map_cons, List.map_nil, List.cons_append, List.nil_append, List.append_eq]
     rfl)
  repeat ((first
    | (refine Run.takes (v := ?_) ?_ ?_; rotate_left; (· intro w' hS'; (first | (refine exec_load_arr (n := 16) (x := .tmp 1) (l := dcs D) ?_ Try.underlying24 den_i (by rw [dcs_len]; exact HL.out) ?_ hS'.2.1 <;> rfl) | (have h1 := hS'.1; go_simp; done) | (go_simp; (try with_reducible rfl)))))
    | (refine Run.takesG (v := ?_) ?_ ?_ ?_; rotate_left; (· simp only [List.getElem?_cons_zero, List.getElem?_cons_succ]); (· intro w' hS'; (first | (refine exec_load_arr (n := 16) (x := .tmp 1) (l := dcs D) ?_ Try.underlying24 den_i (by rw [dcs_len]; exact HL.out) ?_ hS'.2.1 <;> rfl) | (have h1 := hS'.1; go_simp; done) | (go_simp; (try with_reducible rfl)))))
    | (refine Run.skipsT ?_ ?_; (· simp only [List.getElem?_cons_zero, List.getElem?_cons_succ]))
    | (refine Run.skipsF ?_ ?_; (· simp only [List.getElem?_cons_zero, List.getElem?_cons_succ]))
    | (refine Run.skipsU ?_ ?_; (· simp only [List.getElem?_cons_zero, List.getElem?_cons_succ]))
    | (refine Run.passT ?_ ?_; (· simp only [List.getElem?_cons_zero, List.getElem?_cons_succ]))
    | (refine Run.passF ?_ ?_; (· simp only [List.getElem?_cons_zero, List.getElem?_cons_succ]))
    | (refine Run.passU ?_ ?_; (· simp only [List.getElem?_cons_zero, List.getElem?_cons_succ]))
    | (refine Run.runs ?_
       (first
       | (refine Run.callF 13 (by kernel_rfl) (fun hS => HALL.out _) rfl ?_)
       | (refine Run.callG 13 (by kernel_rfl) ?_ (fun hS => HALL.out _) rfl ?_; (· simp only [List.getElem?_cons_zero, List.getElem?_cons_succ]))
       | (refine Run.callF 19 (by kernel_rfl) (fun hS => HWI.out _) rfl ?_)
       | (refine Run.callG 19 (by kernel_rfl) ?_ (fun hS => HWI.out _) rfl ?_; (· simp only [List.getElem?_cons_zero, List.getElem?_cons_succ]))
       | fail)
       (first
       | (rintro hS e w' ⟨rfl, rfl⟩; refine ⟨_, rfl, hS, ?_⟩)
       | (rintro hS e w' ⟨rfl, hb⟩; refine ⟨_, rfl, ⟨kc hb hS.1, hS.2.1.keep hb, nest hS.2.2 hb⟩, ?_⟩)
       | fail))
    | fail); simp only [Act.put, List.setIfInBounds_toArray, List.set_cons_zero, List.set_cons_succ])
  refine Run.ends (fun hS => ?_)
  have HK5 := Lib.hid (nest HK.out hS.2.2)
  clear hS c0
  go_wp2_with fail
  go_ret
  exact ⟨rfl, HK5.out⟩
/-- not too much -/
def fewD (l : List Ent) : Bool := decide (l.length ≤ 60) && l.all fun y => decide (y.2.1.2.2.length ≤ 20)
theorem fewd_yes {l : List Ent} : fewD l = true ↔ l.length ≤ 60 ∧ ∀ y ∈ l, y.2.1.2.2.length ≤ 20 := by simp [fewD]
set_option maxRecDepth 100000 in
set_option maxHeartbeats 2000000 in
theorem dfew_any (Q : Nat → Prop) (v : Value) (l : List Ent) (w : World) (h : EntsIn Q w v l) : Calls Try.prog 8 #[v] w fun e w' => e = .returned (.bool (fewD l)) ∧ Below w.heap.size w w' := by
  obtain ⟨RES, hRES⟩ : ∃ r, r = fewD l := ⟨_, rfl⟩
  rw [← hRES]
  have HRES := Lib.hid hRES
  clear hRES
  obtain ⟨a, g, off, c, rfl, hc1, hc2, hc3, hc4⟩ := h.at
  have hc2' : c ≤ 9223372036854775807 := hc2
  have HC3 := Lib.hid hc3
  have HC4 := Lib.hid hc4
  clear h hc3 hc4 hc2
  go_enter Try.func8, Try.ntmps8
  go_upto_block 99 with fail
  go_loopw [3] (fun n wr => ∃ j : Nat, j ≤ l.length ∧ n = .int .i64 j ∧ (∀ t, t < j → (l.getD t e0).2.1.2.2.length ≤ 20) ∧ Below w.heap.size w wr) (fun n _ => l.length - (intOf n).toNat)
  case atStart => exact ⟨0, Nat.zero_le _, rfl, fun t ht => absurd ht (Nat.not_lt_zero _), Below.refl _ _⟩
  case round =>
    obtain ⟨j, hj, rfl, hno, hb⟩ := hrel
    have HNO := Lib.hid hno
    have HBB := Lib.hid hb
    clear hno
    by_cases hlt : j < l.length
    · obtain ⟨rfl, hg1, hg2⟩ := HC3.out (by omega)
      obtain ⟨x, _, _, _, d3, _, hrx, _⟩ := HC4.out j hlt
      obtain ⟨ax, cx, rfl, _, _⟩ := hrx.form
      have d3 := kc hb d3
      have HMEM : Hid (l.getD j e0 ∈ l) := Lib.hid (by rw [show l.getD j e0 = l[j] by simp [List.getD, hlt]]; exact List.getElem_mem _)
      have HJ : Hid ((l.getD j e0).2.1.2.2.length = (l.getD j e0).2.1.2.2.length) := Lib.hid rfl
      obtain ⟨p, hp⟩ : ∃ p, p = (l.getD j e0).2.1.2.2.length := ⟨_, rfl⟩
      rw [← hp] at d3
      have HPP := Lib.hid hp
      clear hp hrx hb hg1 hg2 HJ
      by_cases h20 : p > 20
      · have hr : Hid (RES = false) := Lib.hid (by
          rw [HRES.out]
          cases hf : fewD l with
          | false => rfl
          | true => have := (fewd_yes.1 hf).2 _ HMEM.out; rw [← HPP.out] at this; omega)
        have e20 : (p : Int) > 20 := by omega
        go_wp2_with fail
        go_ret
        exact ⟨by rw [hr.out]; rfl, HBB.out⟩
      · have e20 : ¬ (p : Int) > 20 := by omega
        go_wp2_with fail
        exact ⟨⟨j + 1, by omega, by go_num, fun t ht => by rcases Nat.lt_or_ge t j with h | h; exact HNO.out t h; rw [show t = j by omega, ← HPP.out]; omega, HBB.out⟩, by simp [intOf]; omega⟩
    · have hjl : j = l.length := by omega
      subst hjl
      have hr : Hid (RES = decide ((l.length : Int) ≤ 60)) := Lib.hid (by
        rw [HRES.out]
        unfold fewD
        have : (l.all fun y => decide (y.2.1.2.2.length ≤ 20)) = true := by
          rw [List.all_eq_true]
          intro y hy
          obtain ⟨i, hi, rfl⟩ := List.getElem_of_mem hy
          have := HNO.out i hi
          rw [show l.getD i e0 = l[i] by simp [List.getD, hi]] at this
          simpa using this
        rw [this, Bool.and_true]
        exact decide_eq_decide.2 (by omega))
      go_wp2_with fail
      go_ret
      exact ⟨by rw [hr.out]; rfl, HBB.out⟩
end Go.Proofs.Ytpfdmjgojpngjaa
