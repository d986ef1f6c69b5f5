/- petasoshelp.Own: a copy with room behind it; Kept: is it as it was? -/
import Derived.Test.YtbhnpidbgckinaaSameU
import Derived.Test.YtbhnpidbgckinaaMem
set_option maxRecDepth 4000
namespace Go.Proofs.Ytbhnpidbgckinaa
open Go.RowKit Mem
set_option linter.unusedSimpArgs false
set_option linter.unusedVariables false
attribute [local irreducible] Go.Calls


theorem u32Elem : Elem Try.prog 22 23 1 4 := elem_of (z := .int .u32 0) Try.underlying22 (by kernel_rfl) rfl
def OwnPostU (w : World) (l : List Int) (x : Int) (e : Ending) (w' : World) : Prop :=
  ∃ g, e = .returned (.slice (some ⟨g, 0, none⟩) l.length (l.length + 3)) ∧ Row (intE .u32) 23 w.heap.size w' (.slice (some ⟨g, 0, none⟩) (l.length + 3) (l.length + 3)) (l ++ [x, x, x]) ∧ Below w.heap.size w w'
set_option maxHeartbeats 1000000 in
theorem ownu_any (v : Value) (l : List Int) (x : Int) (w : World) (h : Rd (intE .u32) w v l) (hl : l.length ≤ 1000000) :
    Calls Try.prog 10 #[v, .int .u32 x] w (OwnPostU w l x) := by
  obtain ⟨ht, ii, z, hi, hz, hs, hby, hzs⟩ := u32Elem
  obtain ⟨w1, hmk, hown, hg1⟩ := run_make_own (P := Try.prog) w w.heap.size 22 23 ii z 1 ht hi hz hs .i64 .i64 (l.length + 3) (by rw [hby]; omega) (by unfold maxLen; omega) (Nat.le_refl _)
  have hcast : ((l.length + 3 : Nat) : Int) = (l.length : Int) + 3 := by omega
  rw [hcast] at hmk
  have hrow : Row (intE .u32) 23 w.heap.size w1 (.slice (some ⟨w.heap.size, 0, none⟩) 0 (l.length + 3)) [] := hown
  have hb1 : Below w.heap.size w w1 := grown_below hg1 (Nat.le_refl _) (fun k hk => nomatch hk)
  have hr1 := h.keep hb1
  obtain ⟨g, hg⟩ : ∃ g, w.heap.size = g := ⟨_, rfl⟩
  have HG := Lib.hid hg
  have hrow' : Row (intE .u32) 23 w.heap.size w1 (.slice (some ⟨g, 0, none⟩) 0 (l.length + 3)) [] := hg ▸ hrow
  have hmk' : (Instr.makeSlice 22 (.int .i64 0) (.int .i64 ((l.length : Int) + 3))).run Try.prog w = .ok (.slice (some ⟨g, 0, none⟩) 0 (l.length + 3)) w1 := hg ▸ hmk
  clear hmk hrow hown hg1 ht hi hz hs hby hzs hcast
  obtain ⟨a, c, rfl, h1, h2⟩ := h.form
  clear h hg
  have hcut := run_cut_to (P := Try.prog) u32Elem (some ⟨g, 0, none⟩) l.length (l.length + 3) (l.length + 3) (Nat.le_refl _)
  rw [cutA_zero, show ((l.length + 3 : Nat) : Int) = (l.length : Int) + 3 by omega] at hcut
  go_enter Try.func10, Try.ntmps10
  go_wp2_with (at_builtin; go_must (refine Mem.wpList_append_fits (E := intE .u32) (B := w.heap.size) (bytes := 4) (g := g) (n := 0) (cap := l.length + 3) (l := []) (m := l) (x := .slice a l.length c) u32Elem rfl (.tmp 12) (.tmp 13) rfl rfl hrow' rfl rfl hr1 (by omega) ?_); intro w2 hr2 hg2)
  rw [Nat.zero_add, List.nil_append] at hr2
  have hb2 : Below w.heap.size w w2 := hb1.trans (grown_below hg2 hb1.size (fun k hk => by injection hk with hk; rw [← hk, ← HG.out]; exact Nat.le_refl _))
  clear hg2 hb1 hr1 hcut hmk' hrow'
  go_loopw [7] (fun i wr => ∃ k : Nat, k ≤ 3 ∧ i = .int .i64 ((l.length + k : Nat) : Int) ∧ Row (intE .u32) 23 w.heap.size wr (.slice (some ⟨g, 0, none⟩) (l.length + k) (l.length + 3)) (l ++ List.replicate k x) ∧ Below w.heap.size w wr) (fun i _ => l.length + 3 - (intOf i).toNat)
  case atStart => exact ⟨0, by omega, rfl, by simpa using hr2, hb2⟩
  case round =>
    obtain ⟨k, hk, rfl, hro, hb⟩ := hrel
    by_cases hlt : k < 3
    · have hm := Row.more hro (by simp) (by omega) x
      obtain ⟨⟨u, hu⟩, hfz⟩ := Row.room hro (by simp) (j := l.length + k) (by omega)
      have hb3 := hb.trans (grown_below hm.2 hb.size (fun j hj => by injection hj with hj; rw [← hj, ← HG.out]; exact Nat.le_refl _))
      have hm1 := hm.1
      rw [List.append_assoc, ← List.replicate_succ'] at hm1
      have e1 : ((l.length + k : Nat) : Int) < (l.length : Int) + 3 := by omega
      have hcc : ((l.length + 3 : Nat) : Int) = (l.length : Int) + 3 := by omega
      have H1 := Lib.hid hm1
      have H2 := Lib.hid hb3
      clear hm hm1 hb3
      generalize hj : l.length + k = j at *
      have HJ := Lib.hid hj
      clear hj
      go_wp2_with fail
      exact ⟨⟨k + 1, by omega, by rw [← HJ.out]; go_num, by rw [show l.length + (k + 1) = j + 1 by rw [← HJ.out]; omega]; exact H1.out, H2.out⟩, by simp [intOf]; omega⟩
    · have hkk : k = 3 := by omega
      subst hkk
      have e1 : ¬ ((l.length + 3 : Nat) : Int) < (l.length : Int) + 3 := by omega
      go_wp2_with fail
      go_ret
      exact ⟨g, rfl, hro, hb⟩

set_option maxHeartbeats 1000000 in
theorem keptu_yes (g : Nat) (v : Value) (l : List Int) (x : Int) (w : World) (h1 : Rd (intE .u32) w (.slice (some ⟨g, 0, none⟩) (l.length + 3) (l.length + 3)) (l ++ [x, x, x])) (h2 : Rd (intE .u32) w v l) (hl : l.length ≤ 1000000) :
    Calls Try.prog 13 #[.slice (some ⟨g, 0, none⟩) l.length (l.length + 3), v, .int .u32 x] w fun e w' => e = .returned (.bool true) ∧ Below w.heap.size w w' := by
  have h0 : Rd (intE .u32) w (.slice (some ⟨g, 0, none⟩) l.length (l.length + 3)) l := own_rd (m := [x, x, x]) h1
  obtain ⟨g', off, c', hv', _, _, hcell⟩ := Mem.Rd.ints h1 (by simp)
  injection hv' with f1 f2 f3
  injection f1 with f1
  injection f1 with f1 f4
  subst f1 f4
  have hf : ∀ j, j < 3 → w.cell? ⟨g, l.length + j, none⟩ = some (.int .u32 x) := by
    intro j hj
    have := hcell (l.length + j) (by simp; omega)
    rw [Nat.zero_add] at this
    rw [this]
    have h3 : j = 0 ∨ j = 1 ∨ j = 2 := by omega
    rcases h3 with rfl | rfl | rfl <;> simp [List.getD, List.getElem?_append]
  have HF := Lib.hid hf
  have hcut := run_cut_to (P := Try.prog) u32Elem (some ⟨g, 0, none⟩) l.length (l.length + 3) (l.length + 3) (Nat.le_refl _)
  rw [cutA_zero, show ((l.length + 3 : Nat) : Int) = (l.length : Int) + 3 by omega] at hcut
  obtain ⟨a, c, rfl, k1, k2⟩ := h2.form
  clear h1 hcell f2 f3 hf
  go_enter Try.func13, Try.ntmps13
  go_wp2_with (go_at_call 17; refine (plainU_yes _ _ l w h0 h2).mono ?_; rintro e w1 ⟨rfl, hk⟩)
  clear hcut
  go_loopw [8] (fun i wr => ∃ k : Nat, k ≤ 3 ∧ i = .int .i64 ((l.length + k : Nat) : Int) ∧ Below w.heap.size w wr) (fun i _ => l.length + 3 - (intOf i).toNat)
  case atStart => exact ⟨0, by omega, rfl, hk⟩
  case round =>
    obtain ⟨k, hk3, rfl, hb⟩ := hrel
    by_cases hlt : k < 3
    · have hd := kc hb (HF.out k hlt)
      have e1 : ((l.length + k : Nat) : Int) < (l.length : Int) + 3 := by omega
      generalize hj : l.length + k = j at *
      have HJ := Lib.hid hj
      clear hj
      go_wp2_with fail
      exact ⟨⟨k + 1, by omega, by rw [← HJ.out]; go_num, hb⟩, by simp [intOf]; omega⟩
    · have hkk : k = 3 := by omega
      subst hkk
      have e1 : ¬ ((l.length + 3 : Nat) : Int) < (l.length : Int) + 3 := by omega
      go_wp2_with fail
      go_ret
      exact ⟨rfl, hb⟩
end Go.Proofs.Ytbhnpidbgckinaa
