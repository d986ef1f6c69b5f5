/- petasoshelp.Plain, Own and Kept of loads. -/
import Derived.Test.YtgkmkpkbdmciiaaLoads
import Derived.Test.YtgkmkpkbdmciiaaLdPlans
import Derived.Test.YtgkmkpkbdmciiaaRun2
import Derived.Laws.StructEq
import Derived.Deep.DeepCutAuto
import Derived.Deep.CutBlock
import Derived.Deep.Light
set_option maxRecDepth 4000
namespace Go.Proofs.Ytgkmkpkbdmciiaa
open Go.RowKit Mem
set_option linter.unusedSimpArgs false
set_option linter.unusedVariables false
attribute [local irreducible] Go.Calls

/-- a load's cells -/
def lcs (x : Ld) : List Value := [.int .u32 x.1, .int .i64 x.2]
theorem lcs_len (x : Ld) : (lcs x).length = 2 := rfl
theorem lcs_info (x : Ld) : (Try.prog.info? 29).map (·.size) = some (lcs x).toArray.size := ld_info
theorem ldE_one {x : Ld} : ∀ v ∈ lcs x, v.oneCell' = true := fun v hv => by unfold lcs at hv; simp at hv; rcases hv with rfl | rfl <;> rfl
theorem eqL_yes (x : Ld) (w : World) :
    Calls Try.prog 35 #[.agg (lcs x).toArray, .agg (lcs x).toArray] w fun e w' => e = .returned (.bool true) ∧ Below w.heap.size w w' := by
  obtain ⟨p, q⟩ := x
  unfold lcs
  go_enter Try.func35, Try.ntmps35
  go_wp2
  go_ret
  exact ⟨rfl, more (more (Below.refl _ _) _) _⟩
theorem ld_neq (x : Ld) (w : World) : (binOp .neq 29 (.agg (lcs x).toArray) (.agg (lcs x).toArray)).run Try.prog w = .ok (.bool false) w := by
  unfold lcs
  go_simp
/-- where a load of a slice lies -/
theorem ld_row {w : World} {v : Value} {L : List Ld} (h : Rd ldE w v L) :
    ∃ a g off c, v = .slice a L.length c ∧ L.length ≤ c ∧ c ≤ maxLen ∧ (0 < L.length → a = some ⟨g, off, none⟩) ∧ ∀ (i : Nat) (hi : i < L.length) (j : Nat) (u : Value), (lcs L[i])[j]? = some u → w.cell? ⟨g, off + i * 2 + j, none⟩ = some u := by
  by_cases hl : 0 < L.length
  · obtain ⟨g, off, c, hv, h1, h2, hc⟩ := Rd.cells (E := pr2E .u32 .i64) h hl
    refine ⟨_, g, off, c, hv, h1, h2, fun _ => rfl, fun i hi j u hu => ?_⟩
    have hj : j < 2 := by have := (List.getElem?_eq_some_iff.1 hu).1; rw [lcs_len] at this; exact this
    have h3 : w.cell? ⟨g, off + (i * 2 + j), none⟩ = (lcs L[i])[j]? := hc i hi j hj
    rw [Nat.add_assoc, h3, hu]
  · obtain ⟨a, c, hv, h1, h2⟩ := h.form
    exact ⟨a, 0, 0, c, hv, h1, h2, fun h => absurd h hl, fun i hi => absurd hi (by omega)⟩
set_option maxHeartbeats 1000000 in
theorem sameL_yes (v1 v2 : Value) (L : List Ld) (w : World) (h1 : Rd ldE w v1 L) (h2 : Rd ldE w v2 L) :
    Calls Try.prog 34 #[v1, v2, .func (.func 35) #[] #[]] w fun e w' => e = .returned (.bool true) ∧ Below w.heap.size w w' := by
  obtain ⟨a1, g1, o1, c1, rfl, hc1, hm1, ha1, k1⟩ := ld_row h1
  obtain ⟨a2, g2, o2, c2, rfl, hc2, hm2, ha2, k2⟩ := ld_row h2
  have hm1' : c1 ≤ 9223372036854775807 := hm1
  have hm2' : c2 ≤ 9223372036854775807 := hm2
  have H1 := Lib.hid k1
  have H2 := Lib.hid k2
  have HA1 := Lib.hid ha1
  have HA2 := Lib.hid ha2
  clear h1 h2 ha1 ha2 k1 k2
  go_enter Try.func34, Try.ntmps34
  go_wp2_with fail
  go_loopw [7] (fun i wr => ∃ k : Nat, k ≤ L.length ∧ i = .int .i64 k ∧ Below w.heap.size w wr) (fun i _ => L.length - (intOf i).toNat)
  case atStart => exact ⟨0, Nat.zero_le _, rfl, Below.refl _ _⟩
  case round =>
    obtain ⟨k, hk, rfl, hb⟩ := hrel
    have HB := Lib.hid hb
    clear hb
    by_cases hlt : k < L.length
    · obtain rfl := HA1.out (by omega)
      obtain rfl := HA2.out (by omega)
      have q1 := Lib.hid (H1.out k hlt)
      have q2 := Lib.hid (H2.out k hlt)
      have HEQ := Lib.hid (eqL_yes L[k])
      obtain ⟨X, hX⟩ : ∃ X, X = L[k] := ⟨_, rfl⟩
      rw [← hX] at q1 q2 HEQ
      clear hX
      have hkl : (k : Int) < (L.length : Int) := by omega
      go_upto_region 6 with fail
      refine Run.region_walk (S := fun z => (∀ (j : Nat) (u : Value), (lcs X)[j]? = some u → z.cell? ⟨g1, o1 + k * 2 + j, none⟩ = some u) ∧ (∀ (j : Nat) (u : Value), (lcs X)[j]? = some u → z.cell? ⟨g2, o2 + k * 2 + j, none⟩ = some u) ∧ Below w.heap.size w z)
        samel.rows5 samel.plan5 (l := ?steps1) (by kernel_rfl) (by kernel_rfl) (by kernel_rfl) (by kernel_rfl) ?written1 ⟨fun j u hu => (HB.out.cell (World.block_lt_of_cell? w _ (q1.out j u hu))).trans (q1.out j u hu), fun j u hu => (HB.out.cell (World.block_lt_of_cell? w _ (q2.out j u hu))).trans (q2.out j u hu), HB.out.drew⟩ ?onward1
      case written1 =>
        simp only [samel.plan5, Run.stepsOf, Run.stepOf, Run.guardOf, List.getElem?_toArray, List.getElem?_cons_zero, List.getElem?_cons_succ, Option.map_some, Option.map_none, Option.bind_some, Option.toList_some, List.map_cons, List.map_nil, List.cons_append, List.nil_append, List.append_eq]
        rfl
      repeat ((first
        | (refine Run.takes (v := ?_) ?_ ?_; rotate_left; (· intro w' hS'; (first | (refine exec_load_agg (n := 2) (x := .tmp 22) (l := lcs X) ?_ Try.underlying29 ld_info ?_ ?_ hS'.1 <;> rfl) | (refine exec_load_agg (n := 2) (x := .tmp 26) (l := lcs X) ?_ Try.underlying29 ld_info ?_ ?_ hS'.2.1 <;> rfl) | (go_simp; (try with_reducible rfl)))))
        | (refine Run.takesG (v := ?_) ?_ ?_ ?_; rotate_left; (· simp only [List.getElem?_cons_zero, List.getElem?_cons_succ]); (· intro w' hS'; (first | (refine exec_load_agg (n := 2) (x := .tmp 22) (l := lcs X) ?_ Try.underlying29 ld_info ?_ ?_ hS'.1 <;> rfl) | (refine exec_load_agg (n := 2) (x := .tmp 26) (l := lcs X) ?_ Try.underlying29 ld_info ?_ ?_ hS'.2.1 <;> rfl) | (go_simp; (try with_reducible rfl)))))
        | (refine Run.skipsT ?_ ?_; (· simp only [List.getElem?_cons_zero, List.getElem?_cons_succ]))
        | (refine Run.skipsF ?_ ?_; (· simp only [List.getElem?_cons_zero, List.getElem?_cons_succ]))
        | (refine Run.skipsU ?_ ?_; (· simp only [List.getElem?_cons_zero, List.getElem?_cons_succ]))
        | (refine Run.passT ?_ ?_; (· simp only [List.getElem?_cons_zero, List.getElem?_cons_succ]))
        | (refine Run.passF ?_ ?_; (· simp only [List.getElem?_cons_zero, List.getElem?_cons_succ]))
        | (refine Run.passU ?_ ?_; (· simp only [List.getElem?_cons_zero, List.getElem?_cons_succ]))
        | fail); simp only [Act.put, List.setIfInBounds_toArray, List.set_cons_zero, List.set_cons_succ])
      refine Run.runs (Run.one (fun hS K hK => ?_))
      go_simp
      refine (HEQ.out _).mono ?_
      rintro e z ⟨rfl, hz⟩
      have hS1 := hS
      refine hK.out _ _ ⟨fun j u hu => kc hz (hS.1 j u hu), fun j u hu => kc hz (hS.2.1 j u hu), nest hS.2.2 hz⟩ ?_
      clear hK hS1
      repeat ((first
        | (refine Run.takes (v := ?_) ?_ ?_; rotate_left; (· intro w' hS'; go_simp; (try with_reducible rfl)))
        | (refine Run.takesG (v := ?_) ?_ ?_ ?_; rotate_left; (· simp only [List.getElem?_cons_zero, List.getElem?_cons_succ]); (· intro w' hS'; go_simp; (try with_reducible rfl)))
        | (refine Run.skipsT ?_ ?_; (· simp only [List.getElem?_cons_zero, List.getElem?_cons_succ]))
        | (refine Run.skipsF ?_ ?_; (· simp only [List.getElem?_cons_zero, List.getElem?_cons_succ]))
        | (refine Run.skipsU ?_ ?_; (· simp only [List.getElem?_cons_zero, List.getElem?_cons_succ]))
        | (refine Run.passT ?_ ?_; (· simp only [List.getElem?_cons_zero, List.getElem?_cons_succ]))
        | (refine Run.passF ?_ ?_; (· simp only [List.getElem?_cons_zero, List.getElem?_cons_succ]))
        | (refine Run.passU ?_ ?_; (· simp only [List.getElem?_cons_zero, List.getElem?_cons_succ]))
        | fail); simp only [Act.put, List.setIfInBounds_toArray, List.set_cons_zero, List.set_cons_succ])
      refine Run.ends (fun hS2 => ?_)
      clear K
      have HB2 := Lib.hid hS2.2.2
      clear hS hS2
      go_wp2_with fail
      exact ⟨⟨k + 1, by omega, by go_num, HB2.out⟩, by simp [intOf]; omega⟩
    · have hkn : k = L.length := by omega
      subst hkn
      go_wp2_with fail
      go_ret
      exact ⟨rfl, HB.out⟩
theorem plainL_yes (v1 v2 : Value) (L : List Ld) (w : World) (h1 : Rd ldE w v1 L) (h2 : Rd ldE w v2 L) :
    Calls Try.prog 29 #[v1, v2] w fun e w' => e = .returned (.bool true) ∧ Below w.heap.size w w' := by
  have HC := Lib.hid (sameL_yes v1 v2 L w h1 h2)
  obtain ⟨a1, c1, rfl, _⟩ := h1.form
  obtain ⟨a2, c2, rfl, _⟩ := h2.form
  clear h1 h2
  go_enter Try.func29, Try.ntmps29
  go_wp2_with (go_at_call 34; refine HC.out.mono ?_; rintro e w' ⟨rfl, hk⟩)
  go_ret
  exact ⟨rfl, hk⟩
def OwnPostL (w : World) (L : List Ld) (X : Ld) (e : Ending) (w' : World) : Prop :=
  ∃ g, e = .returned (.slice (some ⟨g, 0, none⟩) L.length (L.length + 3)) ∧ Row ldE 29 w.heap.size w' (.slice (some ⟨g, 0, none⟩) (L.length + 3) (L.length + 3)) (L ++ [X, X, X]) ∧ Below w.heap.size w w'
set_option maxHeartbeats 2000000 in
theorem ownl_any (v : Value) (L : List Ld) (X : Ld) (w : World) (h : Rd ldE w v L) (hL : L.length ≤ 1000000) :
    Calls Try.prog 9 #[v, .agg (lcs X).toArray] w (OwnPostL w L X) := by
  have hX := more (Below.refl w.heap.size w) (.cells (lcs X).toArray 29)
  have hF := Blk.new w 29 (lcs X).toArray
  have h := h.keep hX
  generalize hW : w.alloc (.cells (lcs X).toArray 29) = W at *
  have HW := Lib.hid hW
  clear hW
  obtain ⟨ht, ii, z, hi, hz, hs, hby, hzs⟩ := ldElem
  obtain ⟨w1, hmk, hown, hg1⟩ := run_make_own (P := Try.prog) W W.heap.size 22 29 ii z 2 ht hi hz hs .i64 .i64 (L.length + 3) (by rw [hby]; omega) (by unfold maxLen; omega) (Nat.le_refl _)
  have hcast : ((L.length + 3 : Nat) : Int) = (L.length : Int) + 3 := by omega
  rw [hcast] at hmk
  have hrow : Row ldE 29 W.heap.size w1 (.slice (some ⟨W.heap.size, 0, none⟩) 0 (L.length + 3)) [] := hown
  have hb1 : Below W.heap.size W w1 := grown_below hg1 (Nat.le_refl _) (fun k hk => nomatch hk)
  have hr1 := h.keep hb1
  obtain ⟨g, hg⟩ : ∃ g, W.heap.size = g := ⟨_, rfl⟩
  have HG := Lib.hid hg
  have hrow' : Row ldE 29 W.heap.size w1 (.slice (some ⟨g, 0, none⟩) 0 (L.length + 3)) [] := hg ▸ hrow
  have hmk' : (Instr.makeSlice 22 (.int .i64 0) (.int .i64 ((L.length : Int) + 3))).run Try.prog W = .ok (.slice (some ⟨g, 0, none⟩) 0 (L.length + 3)) w1 := hg ▸ hmk
  clear hmk hrow hown hg1 ht hi hz hs hby hzs hcast
  obtain ⟨a, c, rfl, h1, h2⟩ := h.form
  clear h hg
  have hcut := run_cut_to (P := Try.prog) ldElem (some ⟨g, 0, none⟩) L.length (L.length + 3) (L.length + 3) (Nat.le_refl _)
  rw [cutA_zero, show ((L.length + 3 : Nat) : Int) = (L.length : Int) + 3 by omega] at hcut
  have HFB := Lib.hid hF
  have HXB := Lib.hid hX
  have hlt : w.heap.size < W.heap.size := hF.lt
  clear hF hX
  go_enter Try.func9, Try.ntmps9
  refine wp_seq_k (fun K0 hK0 => ?_)
  have HK0 := Lib.hid hK0
  clear hK0
  go_wp2_with fail
  refine HK0.out _ _ ?_
  rw [HW.out]
  clear HK0
  go_wp2_with (at_builtin; go_must (refine Mem.wpList_append_fits (E := ldE) (B := W.heap.size) (bytes := 16) (g := g) (n := 0) (cap := L.length + 3) (l := []) (m := L) (x := .slice a L.length c) ldElem rfl (.tmp 12) (.tmp 13) rfl rfl hrow' rfl rfl hr1 (by omega) ?_); intro w2 hr2 hg2)
  rw [Nat.zero_add, List.nil_append] at hr2
  have hb2 : Below W.heap.size W w2 := hb1.trans (grown_below hg2 hb1.size (fun k hk => by injection hk with hk; rw [← hk, ← HG.out]; exact Nat.le_refl _))
  clear hg2 hb1 hr1 hcut hmk' hrow'
  go_loopw [7] (fun i wr => ∃ k : Nat, k ≤ 3 ∧ i = .int .i64 ((L.length + k : Nat) : Int) ∧ Row ldE 29 W.heap.size wr (.slice (some ⟨g, 0, none⟩) (L.length + k) (L.length + 3)) (L ++ List.replicate k X) ∧ Below W.heap.size W wr) (fun i _ => L.length + 3 - (intOf i).toNat)
  case atStart => exact ⟨0, by omega, rfl, by simpa using hr2, hb2⟩
  case round =>
    obtain ⟨k, hk, rfl, hro, hb⟩ := hrel
    have HRO := Lib.hid hro
    have HB := Lib.hid hb
    by_cases hlt3 : k < 3
    · obtain ⟨cur, hcur, _⟩ := Row.blk hro (by simp)
      have hm := Row.moreE hro (by simp) (by omega) X hcur
      have HCUR := Lib.hid hcur
      have HM1 : Hid ((L.length + k) * 2 + (lcs X).length ≤ cur.size) := Lib.hid hm.1
      have HM2 := Lib.hid hm.2
      have HF := Lib.hid (HFB.out.below hb hlt)
      have e1 : ((L.length + k : Nat) : Int) < (L.length : Int) + 3 := by omega
      have hcc : ((L.length + 3 : Nat) : Int) = (L.length : Int) + 3 := by omega
      clear hm hro hb hcur
      generalize hj : L.length + k = j at *
      have HJ := Lib.hid hj
      clear hj
      go_wp2_with (first | (refine at_load 3 rfl ?_; refine wpList_load_row rfl 29 (.tmp 3) rfl w.heap.size rfl 29 _ (0, 0) _ HF.out Try.underlying29 rfl (lcs_info _) ?_) | (refine at_store 31 rfl ?_; refine wpList_store_part rfl 29 (.tmp 31) (.tmp 30) rfl g (j * 2) (lcs X) rfl rfl 29 cur HCUR.out ld_info HM1.out ldE_one ?_))
      rw [← List.append_assoc]
      have hst : Row ldE 29 W.heap.size (wr.setRow g (List.take (j * 2) cur.toList ++ lcs X ++ List.drop (j * 2 + (lcs X).length) cur.toList).toArray) (.slice (some ⟨g, 0, none⟩) (j + 1) (L.length + 3)) (L ++ List.replicate k X ++ [X]) := HM2.out
      rw [show L ++ List.replicate k X ++ [X] = L ++ List.replicate (k + 1) X by rw [List.append_assoc, ← List.replicate_succ']] at hst
      exact ⟨⟨k + 1, by omega, by rw [← HJ.out]; go_num, by rw [show L.length + (k + 1) = j + 1 by rw [← HJ.out]; omega]; exact hst, HB.out.trans ((Only.rowS wr _).below (by rw [HG.out]; exact Nat.le_refl _) HB.out.size)⟩, by simp [intOf]; omega⟩
    · have hkk : k = 3 := by omega
      subst hkk
      have e1 : ¬ ((L.length + 3 : Nat) : Int) < (L.length : Int) + 3 := by omega
      clear hro hb
      go_wp2_with fail
      go_ret
      exact ⟨g, rfl, HRO.out.mono (Nat.le_of_lt hlt), nest HXB.out HB.out⟩
set_option maxHeartbeats 2000000 in
theorem keptl_yes (g : Nat) (v : Value) (L : List Ld) (X : Ld) (w : World) (h1 : Rd ldE w (.slice (some ⟨g, 0, none⟩) (L.length + 3) (L.length + 3)) (L ++ [X, X, X])) (h2 : Rd ldE w v L) (hl : L.length ≤ 1000000) :
    Calls Try.prog 16 #[.slice (some ⟨g, 0, none⟩) L.length (L.length + 3), v, .agg (lcs X).toArray] w fun e w' => e = .returned (.bool true) ∧ Below w.heap.size w w' := by
  have hX := more (Below.refl w.heap.size w) (.cells (lcs X).toArray 29)
  have hF := Blk.new w 29 (lcs X).toArray
  have h0 : Rd ldE w (.slice (some ⟨g, 0, none⟩) L.length (L.length + 3)) L := own_rdE (m := [X, X, X]) h1
  have h1 := h1.keep hX
  have h0 := h0.keep hX
  have h2 := h2.keep hX
  generalize hW : w.alloc (.cells (lcs X).toArray 29) = W at *
  have HW := Lib.hid hW
  clear hW
  have hwW : w.heap.size < W.heap.size := hF.lt
  have hlen3 : (L ++ [X, X, X]).length = L.length + 3 := by simp
  obtain ⟨a', g', off, c', hv', _, _, ha', hcell⟩ := ld_row h1
  injection hv' with f1 f2 f3
  subst f1
  have f1 := ha' (by simp)
  injection f1 with f1
  injection f1 with f1 f4
  subst f1 f4
  have hf : ∀ k, k < 3 → ∀ (j : Nat) (u : Value), (lcs X)[j]? = some u → W.cell? ⟨g, (L.length + k) * 2 + j, none⟩ = some u := by
    intro k hk j u hu
    have hkl : L.length + k < (L ++ [X, X, X]).length := by rw [hlen3]; omega
    have h3 : k = 0 ∨ k = 1 ∨ k = 2 := by omega
    have e : (L ++ [X, X, X])[L.length + k] = X := by
      rw [List.getElem_append_right (by omega)]
      rcases h3 with rfl | rfl | rfl <;> simp
    have := hcell (L.length + k) hkl j u (by rw [e]; exact hu)
    rwa [Nat.zero_add] at this
  have HF := Lib.hid hf
  have hcut := run_cut_to (P := Try.prog) ldElem (some ⟨g, 0, none⟩) L.length (L.length + 3) (L.length + 3) (Nat.le_refl _)
  rw [cutA_zero, show ((L.length + 3 : Nat) : Int) = (L.length : Int) + 3 by omega] at hcut
  have HP := Lib.hid (plainL_yes _ _ L W h0 h2)
  obtain ⟨a, c, rfl, k1, k2⟩ := h2.form
  have HFB := Lib.hid hF
  have HXB := Lib.hid hX
  have hneq := fun w => ld_neq X w
  clear h0 h1 h2 hcell f2 f3 hf ha' hF hX
  go_enter Try.func16, Try.ntmps16
  refine wp_seq_k (fun K0 hK0 => ?_)
  have HK0 := Lib.hid hK0
  clear hK0
  go_wp2_with fail
  refine HK0.out _ _ ?_
  rw [HW.out]
  clear HK0
  go_wp2_with (go_at_call 29; refine HP.out.mono ?_; rintro e w1 ⟨rfl, hk⟩)
  clear hcut
  go_loopw [8] (fun i wr => ∃ k : Nat, k ≤ 3 ∧ i = .int .i64 ((L.length + k : Nat) : Int) ∧ Below W.heap.size W wr) (fun i _ => L.length + 3 - (intOf i).toNat)
  case atStart => exact ⟨0, by omega, rfl, hk⟩
  case round =>
    obtain ⟨k, hk3, rfl, hb⟩ := hrel
    have HB := Lib.hid hb
    by_cases hlt : k < 3
    · have q1 := Lib.hid (HF.out k hlt)
      have q2 := Lib.hid (HFB.out.below hb hwW)
      have e1 : ((L.length + k : Nat) : Int) < (L.length : Int) + 3 := by omega
      clear hb
      generalize hj : L.length + k = j at *
      have HJ := Lib.hid hj
      clear hj
      go_upto_region 7 with fail
      refine Run.region_walk (S := fun z => (∀ (i : Nat) (u : Value), (lcs X)[i]? = some u → z.cell? ⟨g, j * 2 + i, none⟩ = some u) ∧ Blk z w.heap.size 29 (lcs X).toArray ∧ Below W.heap.size W z)
        keptl.rows6 keptl.plan6 (l := ?steps3) (by kernel_rfl) (by kernel_rfl) (by kernel_rfl) (by kernel_rfl) ?written3 ⟨fun i u hu => (HB.out.cell (World.block_lt_of_cell? W _ (q1.out i u hu))).trans (q1.out i u hu), q2.out.keep (Below.refl _ _).drew, HB.out.drew⟩ ?onward3
      case written3 =>
        simp only [keptl.plan6, Run.stepsOf, Run.stepOf, Run.guardOf, List.getElem?_toArray, List.getElem?_cons_zero, List.getElem?_cons_succ, Option.map_some, Option.map_none, Option.bind_some, Option.toList_some, List.map_cons, List.map_nil, List.cons_append, List.nil_append, List.append_eq]
        rfl
      repeat ((first
        | (refine Run.takes (v := ?_) ?_ ?_; rotate_left; (· intro w' hS'; (first | (refine exec_load_agg (n := 2) (x := .tmp 36) (l := lcs X) ?_ Try.underlying29 ld_info ?_ ?_ hS'.1 <;> rfl) | (refine exec_load_blk (n := 2) (x := .tmp 5) (l := lcs X) ?_ Try.underlying29 ld_info ?_ ?_ hS'.2.1 <;> rfl) | (go_simp; (try with_reducible rfl)))))
        | (refine Run.takesG (v := ?_) ?_ ?_ ?_; rotate_left; (· simp only [List.getElem?_cons_zero, List.getElem?_cons_succ]); (· intro w' hS'; (first | (refine exec_load_agg (n := 2) (x := .tmp 36) (l := lcs X) ?_ Try.underlying29 ld_info ?_ ?_ hS'.1 <;> rfl) | (refine exec_load_blk (n := 2) (x := .tmp 5) (l := lcs X) ?_ Try.underlying29 ld_info ?_ ?_ hS'.2.1 <;> rfl) | (go_simp; (try with_reducible rfl)))))
        | (refine Run.skipsT ?_ ?_; (· simp only [List.getElem?_cons_zero, List.getElem?_cons_succ]))
        | (refine Run.skipsF ?_ ?_; (· simp only [List.getElem?_cons_zero, List.getElem?_cons_succ]))
        | (refine Run.skipsU ?_ ?_; (· simp only [List.getElem?_cons_zero, List.getElem?_cons_succ]))
        | (refine Run.passT ?_ ?_; (· simp only [List.getElem?_cons_zero, List.getElem?_cons_succ]))
        | (refine Run.passF ?_ ?_; (· simp only [List.getElem?_cons_zero, List.getElem?_cons_succ]))
        | (refine Run.passU ?_ ?_; (· simp only [List.getElem?_cons_zero, List.getElem?_cons_succ]))
        | fail); simp only [Act.put, List.setIfInBounds_toArray, List.set_cons_zero, List.set_cons_succ])
      refine Run.ends (fun hS => ?_)
      have HB5 := Lib.hid hS.2.2
      clear hS HB
      go_wp2_with fail
      exact ⟨⟨k + 1, by omega, by rw [← HJ.out]; go_num, HB5.out⟩, by simp [intOf]; omega⟩
    · have hkk : k = 3 := by omega
      subst hkk
      have e1 : ¬ ((L.length + 3 : Nat) : Int) < (L.length : Int) + 3 := by omega
      clear hb
      go_wp2_with fail
      go_ret
      exact ⟨rfl, nest HXB.out HB.out⟩
end Go.Proofs.Ytgkmkpkbdmciiaa
