/- petasoshelp.Plain, Own and Kept of ranges. -/
import Derived.Test.YthdcgobdcdfefaaMem
import Derived.Test.YthdcgobdcdfefaaBoxPlans
import Derived.Test.YthdcgobdcdfefaaRun
set_option maxRecDepth 4000
namespace Go.Proofs.Ythdcgobdcdfefaa
open Go.RowKit Mem
set_option linter.unusedSimpArgs false
set_option linter.unusedVariables false
attribute [local irreducible] Go.Calls

abbrev rngE : Enc (Int × Int × Int) := tripE .i64 .u32 .u32
theorem rngElem : Elem Try.prog 28 26 3 16 := elem_of (z := .agg #[.int .i64 0, .int .u32 0, .int .u32 0]) Try.underlying28 (by kernel_rfl) rfl
theorem eqR_yes (k a b : Int) (w : World) :
    Calls Try.prog 36 #[.agg #[.int .i64 k, .int .u32 a, .int .u32 b], .agg #[.int .i64 k, .int .u32 a, .int .u32 b]] w fun e w' => e = .returned (.bool true) ∧ Below w.heap.size w w' := by
  go_enter Try.func36, Try.ntmps36
  go_wp2
  go_ret
  exact ⟨rfl, more (more (Below.refl _ _) _) _⟩
set_option maxHeartbeats 1000000 in
theorem sameR_yes (v1 v2 : Value) (l : List (Int × Int × Int)) (w : World) (h1 : Rd rngE w v1 l) (h2 : Rd rngE w v2 l) :
    Calls Try.prog 35 #[v1, v2, .func (.func 36) #[] #[]] w fun e w' => e = .returned (.bool true) ∧ Below w.heap.size w w' := by
  obtain ⟨a1, g1, o1, c1, rfl, hc1, hm1, ha1, k1⟩ := Rd.loop3 h1
  obtain ⟨a2, g2, o2, c2, rfl, hc2, hm2, ha2, k2⟩ := Rd.loop3 h2
  have hm1' : c1 ≤ 9223372036854775807 := hm1
  have hm2' : c2 ≤ 9223372036854775807 := hm2
  have H1 := Lib.hid k1
  have H2 := Lib.hid k2
  have HA1 := Lib.hid ha1
  have HA2 := Lib.hid ha2
  clear h1 h2 ha1 ha2 k1 k2
  go_enter Try.func35, Try.ntmps35
  go_wp2_with fail
  go_loopw [7] (fun i wr => ∃ k : Nat, k ≤ l.length ∧ i = .int .i64 k ∧ Below w.heap.size w wr) (fun i _ => l.length - (intOf i).toNat)
  case atStart => exact ⟨0, Nat.zero_le _, rfl, Below.refl _ _⟩
  case round =>
    obtain ⟨k, hk, rfl, hb⟩ := hrel
    by_cases hlt : k < l.length
    · obtain ⟨rfl, hg1⟩ := HA1.out (by omega)
      obtain ⟨rfl, hg2⟩ := HA2.out (by omega)
      have d1 := (hb.cell (p := ⟨g1, o1 + k * 3, none⟩) hg1).trans (H1.out k hlt).1
      have d2 := (hb.cell (p := ⟨g1, o1 + k * 3 + 1, none⟩) hg1).trans (H1.out k hlt).2.1
      have d3 := (hb.cell (p := ⟨g1, o1 + k * 3 + 2, none⟩) hg1).trans (H1.out k hlt).2.2
      have d4 := (hb.cell (p := ⟨g2, o2 + k * 3, none⟩) hg2).trans (H2.out k hlt).1
      have d5 := (hb.cell (p := ⟨g2, o2 + k * 3 + 1, none⟩) hg2).trans (H2.out k hlt).2.1
      have d6 := (hb.cell (p := ⟨g2, o2 + k * 3 + 2, none⟩) hg2).trans (H2.out k hlt).2.2
      go_wp2_with fail
      generalize (l.getD k (0, 0, 0)).1 = x at *
      generalize (l.getD k (0, 0, 0)).2.1 = y at *
      generalize (l.getD k (0, 0, 0)).2.2 = u at *
      refine Run.region_walk (S := fun z => z.cell? ⟨g1, o1 + k * 3, none⟩ = some (.int .i64 x) ∧ z.cell? ⟨g1, o1 + k * 3 + 1, none⟩ = some (.int .u32 y) ∧ z.cell? ⟨g1, o1 + k * 3 + 2, none⟩ = some (.int .u32 u) ∧ z.cell? ⟨g2, o2 + k * 3, none⟩ = some (.int .i64 x) ∧ z.cell? ⟨g2, o2 + k * 3 + 1, none⟩ = some (.int .u32 y) ∧ z.cell? ⟨g2, o2 + k * 3 + 2, none⟩ = some (.int .u32 u) ∧ Below w.heap.size w z)
        samer.rows5 samer.plan5 (l := ?steps1) (by kernel_rfl) (by kernel_rfl) (by kernel_rfl) (by kernel_rfl) ?written1 ⟨d1, d2, d3, d4, d5, d6, hb.drew⟩ ?onward1
      case written1 =>
        simp only [samer.plan5, Run.stepsOf, Run.stepOf, Run.guardOf, List.getElem?_toArray, List.getElem?_cons_zero, List.getElem?_cons_succ, Option.map_some, Option.map_none, Option.bind_some, Option.toList_some, List.map_cons, List.map_nil, List.cons_append, List.nil_append, List.append_eq]
        rfl
      repeat ((first
        | (refine Run.takes (v := ?_) ?_ ?_; rotate_left; (· intro w' hS'; go_simp; (try with_reducible rfl)))
        | (refine Run.takesG (v := ?_) ?_ ?_ ?_; rotate_left; (· simp only [List.getElem?_cons_zero, List.getElem?_cons_succ]); (· intro w' hS'; go_simp; (try with_reducible rfl)))
        | (refine Run.skipsT ?_ ?_; (· simp only [List.getElem?_cons_zero, List.getElem?_cons_succ]))
        | (refine Run.skipsF ?_ ?_; (· simp only [List.getElem?_cons_zero, List.getElem?_cons_succ]))
        | (refine Run.skipsU ?_ ?_; (· simp only [List.getElem?_cons_zero, List.getElem?_cons_succ]))
        | (refine Run.passT ?_ ?_; (· simp only [List.getElem?_cons_zero, List.getElem?_cons_succ]))
        | (refine Run.passF ?_ ?_; (· simp only [List.getElem?_cons_zero, List.getElem?_cons_succ]))
        | (refine Run.passU ?_ ?_; (· simp only [List.getElem?_cons_zero, List.getElem?_cons_succ]))
        | fail); simp only [Act.put, List.setIfInBounds_toArray, List.set_cons_zero, List.set_cons_succ])
      refine Run.runs (Run.one (fun hS K hK => ?_))
      go_simp
      refine (eqR_yes _ _ _ _).mono ?_
      rintro e z ⟨rfl, hz⟩
      have hS1 := hS
      refine hK.out _ _ ⟨kc hz hS.1, kc hz hS.2.1, kc hz hS.2.2.1, kc hz hS.2.2.2.1, kc hz hS.2.2.2.2.1, kc hz hS.2.2.2.2.2.1, nest hS.2.2.2.2.2.2 hz⟩ ?_
      clear hK hS1
      repeat ((first
        | (refine Run.takes (v := ?_) ?_ ?_; rotate_left; (· intro w' hS'; go_simp; (try with_reducible rfl)))
        | (refine Run.takesG (v := ?_) ?_ ?_ ?_; rotate_left; (· simp only [List.getElem?_cons_zero, List.getElem?_cons_succ]); (· intro w' hS'; go_simp; (try with_reducible rfl)))
        | (refine Run.skipsT ?_ ?_; (· simp only [List.getElem?_cons_zero, List.getElem?_cons_succ]))
        | (refine Run.skipsF ?_ ?_; (· simp only [List.getElem?_cons_zero, List.getElem?_cons_succ]))
        | (refine Run.skipsU ?_ ?_; (· simp only [List.getElem?_cons_zero, List.getElem?_cons_succ]))
        | (refine Run.passT ?_ ?_; (· simp only [List.getElem?_cons_zero, List.getElem?_cons_succ]))
        | (refine Run.passF ?_ ?_; (· simp only [List.getElem?_cons_zero, List.getElem?_cons_succ]))
        | (refine Run.passU ?_ ?_; (· simp only [List.getElem?_cons_zero, List.getElem?_cons_succ]))
        | fail); simp only [Act.put, List.setIfInBounds_toArray, List.set_cons_zero, List.set_cons_succ])
      refine Run.ends (fun hS2 => ?_)
      clear K d1 d2 d3 d4 d5 d6
      obtain ⟨_, _, _, _, _, _, hb2⟩ := hS2
      go_wp2
      go_roundw
      case rel => exact ⟨k + 1, by omega, by go_num, hb2⟩
      case measure => simp [intOf]; omega
    · have hkn : k = l.length := by omega
      subst hkn
      go_wp2
      go_ret
      exact ⟨rfl, hb⟩
theorem plainR_yes (v1 v2 : Value) (l : List (Int × Int × Int)) (w : World) (h1 : Rd rngE w v1 l) (h2 : Rd rngE w v2 l) :
    Calls Try.prog 27 #[v1, v2] w fun e w' => e = .returned (.bool true) ∧ Below w.heap.size w w' := by
  have HC := Lib.hid (sameR_yes v1 v2 l w h1 h2)
  obtain ⟨a1, c1, rfl, _⟩ := h1.form
  obtain ⟨a2, c2, rfl, _⟩ := h2.form
  clear h1 h2
  go_enter Try.func27, Try.ntmps27
  go_wp2_with (go_at_call 35; refine HC.out.mono ?_; rintro e w' ⟨rfl, hk⟩)
  go_ret
  exact ⟨rfl, hk⟩

def OwnPostR (w : World) (l : List (Int × Int × Int)) (x : Int × Int × Int) (e : Ending) (w' : World) : Prop :=
  ∃ g, e = .returned (.slice (some ⟨g, 0, none⟩) l.length (l.length + 3)) ∧ Row rngE 26 w.heap.size w' (.slice (some ⟨g, 0, none⟩) (l.length + 3) (l.length + 3)) (l ++ [x, x, x]) ∧ Below w.heap.size w w'
set_option maxHeartbeats 2000000 in
theorem ownr_any (v : Value) (l : List (Int × Int × Int)) (x y u : Int) (w : World) (h : Rd rngE w v l) (hl : l.length ≤ 1000000) :
    Calls Try.prog 9 #[v, .agg #[.int .i64 x, .int .u32 y, .int .u32 u]] w (OwnPostR w l (x, y, u)) := by
  have hX := more (Below.refl w.heap.size w) (.cells #[.int .i64 x, .int .u32 y, .int .u32 u] 26)
  have hF := Blk.new w 26 #[.int .i64 x, .int .u32 y, .int .u32 u]
  have h := h.keep hX
  generalize hW : w.alloc (.cells #[.int .i64 x, .int .u32 y, .int .u32 u] 26) = W at *
  have HW := Lib.hid hW
  clear hW
  obtain ⟨ht, ii, z, hi, hz, hs, hby, hzs⟩ := rngElem
  obtain ⟨w1, hmk, hown, hg1⟩ := run_make_own (P := Try.prog) W W.heap.size 28 26 ii z 3 ht hi hz hs .i64 .i64 (l.length + 3) (by rw [hby]; omega) (by unfold maxLen; omega) (Nat.le_refl _)
  have hcast : ((l.length + 3 : Nat) : Int) = (l.length : Int) + 3 := by omega
  rw [hcast] at hmk
  have hrow : Row rngE 26 W.heap.size w1 (.slice (some ⟨W.heap.size, 0, none⟩) 0 (l.length + 3)) [] := hown
  have hb1 : Below W.heap.size W w1 := grown_below hg1 (Nat.le_refl _) (fun k hk => nomatch hk)
  have hr1 := h.keep hb1
  obtain ⟨g, hg⟩ : ∃ g, W.heap.size = g := ⟨_, rfl⟩
  have HG := Lib.hid hg
  have hrow' : Row rngE 26 W.heap.size w1 (.slice (some ⟨g, 0, none⟩) 0 (l.length + 3)) [] := hg ▸ hrow
  have hmk' : (Instr.makeSlice 28 (.int .i64 0) (.int .i64 ((l.length : Int) + 3))).run Try.prog W = .ok (.slice (some ⟨g, 0, none⟩) 0 (l.length + 3)) w1 := hg ▸ hmk
  clear hmk hrow hown hg1 ht hi hz hs hby hzs hcast
  obtain ⟨a, c, rfl, h1, h2⟩ := h.form
  clear h hg
  have hcut := run_cut_to (P := Try.prog) rngElem (some ⟨g, 0, none⟩) l.length (l.length + 3) (l.length + 3) (Nat.le_refl _)
  rw [cutA_zero, show ((l.length + 3 : Nat) : Int) = (l.length : Int) + 3 by omega] at hcut
  have HFB := Lib.hid hF
  have HXB := Lib.hid hX
  have hlt : w.heap.size < W.heap.size := hF.lt
  clear hF hX
  go_enter Try.func9, Try.ntmps9
  refine wp_seq_k (fun K0 hK0 => ?_)
  have HK0 := Lib.hid hK0
  clear hK0
  go_wp2_with fail
  refine HK0.out _ _ ?_
  rw [HW.out]
  clear HK0
  go_wp2_with (at_builtin; go_must (refine Mem.wpList_append_fits (E := rngE) (B := W.heap.size) (bytes := 16) (g := g) (n := 0) (cap := l.length + 3) (l := []) (m := l) (x := .slice a l.length c) rngElem rfl (.tmp 12) (.tmp 13) rfl rfl hrow' rfl rfl hr1 (by omega) ?_); intro w2 hr2 hg2)
  rw [Nat.zero_add, List.nil_append] at hr2
  have hb2 : Below W.heap.size W w2 := hb1.trans (grown_below hg2 hb1.size (fun k hk => by injection hk with hk; rw [← hk, ← HG.out]; exact Nat.le_refl _))
  clear hg2 hb1 hr1 hcut hmk' hrow'
  go_loopw [7] (fun i wr => ∃ k : Nat, k ≤ 3 ∧ i = .int .i64 ((l.length + k : Nat) : Int) ∧ Row rngE 26 W.heap.size wr (.slice (some ⟨g, 0, none⟩) (l.length + k) (l.length + 3)) (l ++ List.replicate k (x, y, u)) ∧ Below W.heap.size W wr) (fun i _ => l.length + 3 - (intOf i).toNat)
  case atStart => exact ⟨0, by omega, rfl, by simpa using hr2, hb2⟩
  case round =>
    obtain ⟨k, hk, rfl, hro, hb⟩ := hrel
    by_cases hlt3 : k < 3
    · have hm := Row.more3 hro (by simp) (by omega) x y u
      obtain ⟨⟨u0, hu0⟩, hfz0⟩ := Row.room3 hro (by simp) (j := (l.length + k) * 3) (by omega)
      obtain ⟨⟨u1, hu1⟩, hfz1⟩ := Row.room3 hro (by simp) (j := (l.length + k) * 3 + 1) (by omega)
      obtain ⟨⟨u2, hu2⟩, hfz2⟩ := Row.room3 hro (by simp) (j := (l.length + k) * 3 + 2) (by omega)
      have hb3 := hb.trans (grown_below hm.2 hb.size (fun j hj => by injection hj with hj; rw [← hj, ← HG.out]; exact Nat.le_refl _))
      have hm1 := hm.1
      rw [List.append_assoc, ← List.replicate_succ'] at hm1
      have hF := HFB.out.below hb hlt
      have q0 : wr.cell? ⟨w.heap.size, 0, none⟩ = some (.int .i64 x) := hF.cell 0
      have q1 : wr.cell? ⟨w.heap.size, 1, none⟩ = some (.int .u32 y) := hF.cell 1
      have q2 : wr.cell? ⟨w.heap.size, 2, none⟩ = some (.int .u32 u) := hF.cell 2
      have e1 : ((l.length + k : Nat) : Int) < (l.length : Int) + 3 := by omega
      have hcc : ((l.length + 3 : Nat) : Int) = (l.length : Int) + 3 := by omega
      have H1 := Lib.hid hm1
      have H2 := Lib.hid hb3
      clear hm hm1 hb3 hF hro hb
      generalize hj : l.length + k = j at *
      have HJ := Lib.hid hj
      clear hj
      go_wp2_with fail
      exact ⟨⟨k + 1, by omega, by rw [← HJ.out]; go_num, by rw [show l.length + (k + 1) = j + 1 by rw [← HJ.out]; omega]; exact H1.out, H2.out⟩, by simp [intOf]; omega⟩
    · have hkk : k = 3 := by omega
      subst hkk
      have e1 : ¬ ((l.length + 3 : Nat) : Int) < (l.length : Int) + 3 := by omega
      have HRO := Lib.hid hro
      have HBB := Lib.hid hb
      clear hro hb
      go_wp2_with fail
      go_ret
      exact ⟨g, rfl, HRO.out.mono (Nat.le_of_lt hlt), nest HXB.out HBB.out⟩

set_option maxHeartbeats 2000000 in
theorem keptr_yes (g : Nat) (v : Value) (l : List (Int × Int × Int)) (x y u : Int) (w : World) (h1 : Rd rngE w (.slice (some ⟨g, 0, none⟩) (l.length + 3) (l.length + 3)) (l ++ [(x, y, u), (x, y, u), (x, y, u)])) (h2 : Rd rngE w v l) (hl : l.length ≤ 1000000) :
    Calls Try.prog 15 #[.slice (some ⟨g, 0, none⟩) l.length (l.length + 3), v, .agg #[.int .i64 x, .int .u32 y, .int .u32 u]] w fun e w' => e = .returned (.bool true) ∧ Below w.heap.size w w' := by
  have hX := more (Below.refl w.heap.size w) (.cells #[.int .i64 x, .int .u32 y, .int .u32 u] 26)
  have hF := Blk.new w 26 #[.int .i64 x, .int .u32 y, .int .u32 u]
  have h0 : Rd rngE w (.slice (some ⟨g, 0, none⟩) l.length (l.length + 3)) l := own_rdE (m := [(x, y, u), (x, y, u), (x, y, u)]) h1
  have h1 := h1.keep hX
  have h0 := h0.keep hX
  have h2 := h2.keep hX
  generalize hW : w.alloc (.cells #[.int .i64 x, .int .u32 y, .int .u32 u] 26) = W at *
  have HW := Lib.hid hW
  clear hW
  have hwW : w.heap.size < W.heap.size := hF.lt
  obtain ⟨a', g', off, c', hv', _, _, ha', hcell⟩ := Rd.loop3 h1
  injection hv' with f1 f2 f3
  subst f1
  obtain ⟨f1, hglt⟩ := ha' (by simp)
  injection f1 with f1
  injection f1 with f1 f4
  subst f1 f4
  have hf : ∀ j, j < 3 → W.cell? ⟨g, (l.length + j) * 3, none⟩ = some (.int .i64 x) ∧ W.cell? ⟨g, (l.length + j) * 3 + 1, none⟩ = some (.int .u32 y) ∧ W.cell? ⟨g, (l.length + j) * 3 + 2, none⟩ = some (.int .u32 u) := by
    intro j hj
    have := hcell (l.length + j) (by simp; omega)
    rw [Nat.zero_add] at this
    have h3 : j = 0 ∨ j = 1 ∨ j = 2 := by omega
    have e : (l ++ [(x, y, u), (x, y, u), (x, y, u)]).getD (l.length + j) (0, 0, 0) = (x, y, u) := by
      rcases h3 with rfl | rfl | rfl <;> simp [List.getD, List.getElem?_append]
    rw [e] at this
    exact this
  have HF := Lib.hid hf
  have hcut := run_cut_to (P := Try.prog) rngElem (some ⟨g, 0, none⟩) l.length (l.length + 3) (l.length + 3) (Nat.le_refl _)
  rw [cutA_zero, show ((l.length + 3 : Nat) : Int) = (l.length : Int) + 3 by omega] at hcut
  have HP := Lib.hid (plainR_yes _ _ l W h0 h2)
  obtain ⟨a, c, rfl, k1, k2⟩ := h2.form
  have HFB := Lib.hid hF
  have HXB := Lib.hid hX
  clear h0 h1 h2 hcell f2 f3 hf ha' hF hX
  go_enter Try.func15, Try.ntmps15
  refine wp_seq_k (fun K0 hK0 => ?_)
  have HK0 := Lib.hid hK0
  clear hK0
  go_wp2_with fail
  refine HK0.out _ _ ?_
  rw [HW.out]
  clear HK0
  go_wp2_with (go_at_call 27; refine HP.out.mono ?_; rintro e w1 ⟨rfl, hk⟩)
  clear hcut
  go_loopw [8] (fun i wr => ∃ k : Nat, k ≤ 3 ∧ i = .int .i64 ((l.length + k : Nat) : Int) ∧ Below W.heap.size W wr) (fun i _ => l.length + 3 - (intOf i).toNat)
  case atStart => exact ⟨0, by omega, rfl, hk⟩
  case round =>
    obtain ⟨k, hk3, rfl, hb⟩ := hrel
    by_cases hlt : k < 3
    · obtain ⟨d0, d1, d2⟩ := HF.out k hlt
      replace d0 := kc hb d0
      replace d1 := kc hb d1
      replace d2 := kc hb d2
      have hFk := HFB.out.below hb hwW
      have q0 : wr.cell? ⟨w.heap.size, 0, none⟩ = some (.int .i64 x) := hFk.cell 0
      have q1 : wr.cell? ⟨w.heap.size, 1, none⟩ = some (.int .u32 y) := hFk.cell 1
      have q2 : wr.cell? ⟨w.heap.size, 2, none⟩ = some (.int .u32 u) := hFk.cell 2
      have e1 : ((l.length + k : Nat) : Int) < (l.length : Int) + 3 := by omega
      clear hFk
      generalize hj : l.length + k = j at *
      have HJ := Lib.hid hj
      clear hj
      go_wp2_with fail
      refine Run.region_walk (S := fun z => z.cell? ⟨g, j * 3, none⟩ = some (.int .i64 x) ∧ z.cell? ⟨g, j * 3 + 1, none⟩ = some (.int .u32 y) ∧ z.cell? ⟨g, j * 3 + 2, none⟩ = some (.int .u32 u) ∧ z.cell? ⟨w.heap.size, 0, none⟩ = some (.int .i64 x) ∧ z.cell? ⟨w.heap.size, 1, none⟩ = some (.int .u32 y) ∧ z.cell? ⟨w.heap.size, 2, none⟩ = some (.int .u32 u) ∧ Below W.heap.size W z)
        keptr.rows6 keptr.plan6 (l := ?steps3) (by kernel_rfl) (by kernel_rfl) (by kernel_rfl) (by kernel_rfl) ?written3 ⟨d0, d1, d2, q0, q1, q2, hb.drew⟩ ?onward3
      case written3 =>
        simp only [keptr.plan6, Run.stepsOf, Run.stepOf, Run.guardOf, List.getElem?_toArray, List.getElem?_cons_zero, List.getElem?_cons_succ, Option.map_some, Option.map_none, Option.bind_some, Option.toList_some, List.map_cons, List.map_nil, List.cons_append, List.nil_append, List.append_eq]
        rfl
      repeat ((first
        | (refine Run.takes (v := ?_) ?_ ?_; rotate_left; (· intro w' hS'; go_simp; (try with_reducible rfl)))
        | (refine Run.takesG (v := ?_) ?_ ?_ ?_; rotate_left; (· simp only [List.getElem?_cons_zero, List.getElem?_cons_succ]); (· intro w' hS'; go_simp; (try with_reducible rfl)))
        | (refine Run.skipsT ?_ ?_; (· simp only [List.getElem?_cons_zero, List.getElem?_cons_succ]))
        | (refine Run.skipsF ?_ ?_; (· simp only [List.getElem?_cons_zero, List.getElem?_cons_succ]))
        | (refine Run.skipsU ?_ ?_; (· simp only [List.getElem?_cons_zero, List.getElem?_cons_succ]))
        | (refine Run.passT ?_ ?_; (· simp only [List.getElem?_cons_zero, List.getElem?_cons_succ]))
        | (refine Run.passF ?_ ?_; (· simp only [List.getElem?_cons_zero, List.getElem?_cons_succ]))
        | (refine Run.passU ?_ ?_; (· simp only [List.getElem?_cons_zero, List.getElem?_cons_succ]))
        | fail); simp only [Act.put, List.setIfInBounds_toArray, List.set_cons_zero, List.set_cons_succ])
      refine Run.ends (fun hS => ?_)
      have hb5 := hS.2.2.2.2.2.2
      clear hS d0 d1 d2 q0 q1 q2 hb
      go_wp2_with fail
      exact ⟨⟨k + 1, by omega, by rw [← HJ.out]; go_num, hb5⟩, by simp [intOf]; omega⟩
    · have hkk : k = 3 := by omega
      subst hkk
      have e1 : ¬ ((l.length + 3 : Nat) : Int) < (l.length : Int) + 3 := by omega
      go_wp2_with fail
      go_ret
      exact ⟨rfl, nest HXB.out hb⟩
end Go.Proofs.Ythdcgobdcdfefaa
