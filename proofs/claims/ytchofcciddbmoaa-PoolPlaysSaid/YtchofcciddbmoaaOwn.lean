/- Two lists of bytes held against each other, one by one: petasoshelp.Plain. -/
import Derived.Test.YtchofcciddbmoaaBytes
import Derived.Test.YtchofcciddbmoaaOctRefPlans
import Derived.Test.YtchofcciddbmoaaRun
import Derived.Test.YtchofcciddbmoaaMem
set_option maxRecDepth 4000
namespace Go.Proofs.Ytchofcciddbmoaa
open Go.RowKit Mem
set_option linter.unusedSimpArgs false
set_option linter.unusedVariables false

theorem eqb_yes (a : Int) (w : World) :
    Calls Try.prog 24 #[.int .u8 a, .int .u8 a] w fun e w' => e = .returned (.bool true) ∧ Below w.heap.size w w' := by
  go_enter Try.func24, Try.ntmps24
  go_wp2
  go_ret
  exact ⟨by simp, Below.refl _ _⟩

theorem sameb_none (a1 a2 : Option Addr) (c1 c2 : Nat) (w : World) :
    Calls Try.prog 23 #[.slice a1 0 c1, .slice a2 0 c2, .func (.func 24) #[] #[]] w fun e w' => e = .returned (.bool true) ∧ w = w' := by
  go_enter Try.func23, Try.ntmps23
  go_wp2
  go_loop [7] (fun i => i = .int .i64 0) (fun _ => 0)
  case atStart => rfl
  case round =>
    subst hrel
    go_wp2
    go_ret
    exact ⟨rfl, rfl⟩

set_option maxHeartbeats 1000000 in
theorem sameb_some (g1 o1 g2 o2 n c1 c2 : Nat) (l : List Int) (hn : l.length = n) (hn0 : n ≤ 140737488351232) (w : World) (hg1 : g1 < w.heap.size) (hg2 : g2 < w.heap.size)
    (h1 : ∀ i, i < n → w.cell? ⟨g1, o1 + i, none⟩ = some (.int .u8 (l.getD i 0)))
    (h2 : ∀ i, i < n → w.cell? ⟨g2, o2 + i, none⟩ = some (.int .u8 (l.getD i 0))) :
    Calls Try.prog 23 #[.slice (some ⟨g1, o1, none⟩) n c1, .slice (some ⟨g2, o2, none⟩) n c2, .func (.func 24) #[] #[]] w fun e w' => e = .returned (.bool true) ∧ Below w.heap.size w w' := by
  have H1 := Lib.hid h1
  have H2 := Lib.hid h2
  have HN := Lib.hid hn
  clear h1 h2 hn
  go_enter Try.func23, Try.ntmps23
  go_wp2
  go_loopw [7] (fun i wr => ∃ k : Nat, k ≤ n ∧ i = .int .i64 k ∧ Below w.heap.size w wr) (fun i _ => n - (intOf i).toNat)
  case atStart => exact ⟨0, Nat.zero_le _, rfl, Below.refl _ _⟩
  case round =>
    obtain ⟨k, hk, rfl, hb⟩ := hrel
    by_cases hlt : k < n
    · have d1 := (hb.cell (p := ⟨g1, o1 + k, none⟩) hg1).trans (H1.out k hlt)
      have d2 := (hb.cell (p := ⟨g2, o2 + k, none⟩) hg2).trans (H2.out k hlt)
      go_wp2_with fail
      generalize l.getD k 0 = x at *
      refine Run.region_walk (S := fun z => z.cell? ⟨g1, o1 + k, none⟩ = some (.int .u8 x) ∧ z.cell? ⟨g2, o2 + k, none⟩ = some (.int .u8 x) ∧ Below w.heap.size w z)
        sameb.rows5 sameb.plan5 (l := ?steps1) (by kernel_rfl) (by kernel_rfl) (by kernel_rfl) (by kernel_rfl) ?written1 ⟨d1, d2, hb.drew⟩ ?onward1
      case written1 =>
        simp only [sameb.plan5, Run.stepsOf, Run.stepOf, Run.guardOf, List.getElem?_toArray, List.getElem?_cons_zero, List.getElem?_cons_succ, Option.map_some, Option.map_none, Option.bind_some, Option.toList_some, List.map_cons, List.map_nil, List.cons_append, List.nil_append]
        rfl
      repeat ((first
        | (refine Run.takes (v := ?_) ?_ ?_; rotate_left; (· intro w' hS'; go_simp; (try with_reducible rfl)))
        | (refine Run.takesG (v := ?_) ?_ ?_ ?_; rotate_left; (· simp only [List.getElem?_cons_zero, List.getElem?_cons_succ]); (· intro w' hS'; go_simp; (try with_reducible rfl)))
        | (refine Run.skipsT ?_ ?_; (· simp only [List.getElem?_cons_zero, List.getElem?_cons_succ]))
        | (refine Run.skipsF ?_ ?_; (· simp only [List.getElem?_cons_zero, List.getElem?_cons_succ]))
        | (refine Run.skipsU ?_ ?_; (· simp only [List.getElem?_cons_zero, List.getElem?_cons_succ]))
        | (refine Run.passT ?_ ?_; (· simp only [List.getElem?_cons_zero, List.getElem?_cons_succ]))
        | (refine Run.passF ?_ ?_; (· simp only [List.getElem?_cons_zero, List.getElem?_cons_succ]))
        | (refine Run.passU ?_ ?_; (· simp only [List.getElem?_cons_zero, List.getElem?_cons_succ]))
        | fail); simp only [Act.put, List.setIfInBounds_toArray, List.set_cons_zero, List.set_cons_succ])
      refine Run.runs (Run.one (fun hS K hK => ?_))
      go_simp
      refine (eqb_yes _ _).mono ?_
      rintro e z ⟨rfl, hz⟩
      have hS1 := hS
      refine hK.out _ _ ⟨kc hz hS.1, kc hz hS.2.1, nest hS.2.2 hz⟩ ?_
      clear hK hS1
      repeat ((first
        | (refine Run.takes (v := ?_) ?_ ?_; rotate_left; (· intro w' hS'; go_simp; (try with_reducible rfl)))
        | (refine Run.takesG (v := ?_) ?_ ?_ ?_; rotate_left; (· simp only [List.getElem?_cons_zero, List.getElem?_cons_succ]); (· intro w' hS'; go_simp; (try with_reducible rfl)))
        | (refine Run.skipsT ?_ ?_; (· simp only [List.getElem?_cons_zero, List.getElem?_cons_succ]))
        | (refine Run.skipsF ?_ ?_; (· simp only [List.getElem?_cons_zero, List.getElem?_cons_succ]))
        | (refine Run.skipsU ?_ ?_; (· simp only [List.getElem?_cons_zero, List.getElem?_cons_succ]))
        | (refine Run.passT ?_ ?_; (· simp only [List.getElem?_cons_zero, List.getElem?_cons_succ]))
        | (refine Run.passF ?_ ?_; (· simp only [List.getElem?_cons_zero, List.getElem?_cons_succ]))
        | (refine Run.passU ?_ ?_; (· simp only [List.getElem?_cons_zero, List.getElem?_cons_succ]))
        | fail); simp only [Act.put, List.setIfInBounds_toArray, List.set_cons_zero, List.set_cons_succ])
      refine Run.ends (fun hS2 => ?_)
      clear K d1 d2
      obtain ⟨_, _, hb2⟩ := hS2
      go_wp2
      go_roundw
      case rel => exact ⟨k + 1, by omega, by go_num, hb2⟩
      case measure => simp [intOf]; omega
    · have hkn : k = n := by omega
      subst hkn
      go_wp2
      go_ret
      exact ⟨rfl, hb⟩

theorem plainb_yes (v1 v2 : Value) (l : List Int) (hl : l.length ≤ 140737488351232) (w : World) (h1 : Rd (intE .u8) w v1 l) (h2 : Rd (intE .u8) w v2 l) :
    Calls Try.prog 21 #[v1, v2] w fun e w' => e = .returned (.bool true) ∧ Below w.heap.size w w' := by
  by_cases h0 : 0 < l.length
  · obtain ⟨g1, o1, c1, rfl, _, _, k1⟩ := Mem.Rd.ints h1 h0
    obtain ⟨g2, o2, c2, rfl, _, _, k2⟩ := Mem.Rd.ints h2 h0
    have hc := sameb_some g1 o1 g2 o2 l.length c1 c2 l rfl hl w (World.block_lt_of_cell? w _ (k1 0 h0)) (World.block_lt_of_cell? w _ (k2 0 h0)) k1 k2
    have HC := Lib.hid hc
    clear hc k1 k2 h1 h2
    go_enter Try.func21, Try.ntmps21
    go_wp2_with (go_at_call 23; refine HC.out.mono ?_; rintro e w' ⟨rfl, hk⟩)
    go_ret
    exact ⟨rfl, hk⟩
  · obtain ⟨a1, c1, rfl, _⟩ := h1.form
    obtain ⟨a2, c2, rfl, _⟩ := h2.form
    have hz : l.length = 0 := by omega
    rw [hz]
    clear h1 h2
    go_enter Try.func21, Try.ntmps21
    go_wp2_with (go_at_call 23; refine (sameb_none _ _ _ _ _).mono ?_; rintro e w' ⟨rfl, rfl⟩)
    go_ret
    exact ⟨rfl, Below.refl _ _⟩
end Go.Proofs.Ytchofcciddbmoaa
/- petasoshelp.Own: a copy with room behind it; Kept: is it as it was? -/
namespace Go.Proofs.Ytchofcciddbmoaa
open Go.RowKit Mem
set_option linter.unusedSimpArgs false
set_option linter.unusedVariables false
attribute [local irreducible] Go.Calls


def OwnPost (w : World) (l : List Int) (x : Int) (e : Ending) (w' : World) : Prop :=
  ∃ g, e = .returned (.slice (some ⟨g, 0, none⟩) l.length (l.length + 3)) ∧ Row (intE .u8) 5 w.heap.size w' (.slice (some ⟨g, 0, none⟩) (l.length + 3) (l.length + 3)) (l ++ [x, x, x]) ∧ Below w.heap.size w w'
set_option maxHeartbeats 1000000 in
theorem ownb_any (v : Value) (l : List Int) (x : Int) (w : World) (h : Rd (intE .u8) w v l) (hl : l.length ≤ 140737488351232) :
    Calls Try.prog 15 #[v, .int .u8 x] w (OwnPost w l x) := by
  obtain ⟨ht, ii, z, hi, hz, hs, hby, hzs⟩ := byteElem
  obtain ⟨w1, hmk, hown, hg1⟩ := run_make_own (P := Try.prog) w w.heap.size 27 5 ii z 1 ht hi hz hs .i64 .i64 (l.length + 3) (by rw [hby]; omega) (by unfold maxLen; omega) (Nat.le_refl _)
  have hcast : ((l.length + 3 : Nat) : Int) = (l.length : Int) + 3 := by omega
  rw [hcast] at hmk
  have hrow : Row (intE .u8) 5 w.heap.size w1 (.slice (some ⟨w.heap.size, 0, none⟩) 0 (l.length + 3)) [] := hown
  have hb1 : Below w.heap.size w w1 := grown_below hg1 (Nat.le_refl _) (fun k hk => nomatch hk)
  have hr1 := h.keep hb1
  obtain ⟨g, hg⟩ : ∃ g, w.heap.size = g := ⟨_, rfl⟩
  have HG := Lib.hid hg
  have hrow' : Row (intE .u8) 5 w.heap.size w1 (.slice (some ⟨g, 0, none⟩) 0 (l.length + 3)) [] := hg ▸ hrow
  have hmk' : (Instr.makeSlice 27 (.int .i64 0) (.int .i64 ((l.length : Int) + 3))).run Try.prog w = .ok (.slice (some ⟨g, 0, none⟩) 0 (l.length + 3)) w1 := hg ▸ hmk
  clear hmk hrow hown hg1 ht hi hz hs hby hzs hcast
  obtain ⟨a, c, rfl, h1, h2⟩ := h.form
  clear h hg
  have hcut := run_cut_to (P := Try.prog) byteElem (some ⟨g, 0, none⟩) l.length (l.length + 3) (l.length + 3) (Nat.le_refl _)
  rw [cutA_zero, show ((l.length + 3 : Nat) : Int) = (l.length : Int) + 3 by omega] at hcut
  go_enter Try.func15, Try.ntmps15
  go_wp2_with (at_builtin; go_must (refine Mem.wpList_append_fits (E := intE .u8) (B := w.heap.size) (bytes := 1) (g := g) (n := 0) (cap := l.length + 3) (l := []) (m := l) (x := .slice a l.length c) byteElem rfl (.tmp 12) (.tmp 13) rfl rfl hrow' rfl rfl hr1 (by omega) ?_); intro w2 hr2 hg2)
  rw [Nat.zero_add, List.nil_append] at hr2
  have hb2 : Below w.heap.size w w2 := hb1.trans (grown_below hg2 hb1.size (fun k hk => by injection hk with hk; rw [← hk, ← HG.out]; exact Nat.le_refl _))
  clear hg2 hb1 hr1 hcut hmk' hrow'
  go_loopw [7] (fun i wr => ∃ k : Nat, k ≤ 3 ∧ i = .int .i64 ((l.length + k : Nat) : Int) ∧ Row (intE .u8) 5 w.heap.size wr (.slice (some ⟨g, 0, none⟩) (l.length + k) (l.length + 3)) (l ++ List.replicate k x) ∧ Below w.heap.size w wr) (fun i _ => l.length + 3 - (intOf i).toNat)
  case atStart => exact ⟨0, by omega, rfl, by simpa using hr2, hb2⟩
  case round =>
    obtain ⟨k, hk, rfl, hro, hb⟩ := hrel
    by_cases hlt : k < 3
    · have hm := Row.more hro (by simp) (by omega) x
      obtain ⟨⟨u, hu⟩, hfz⟩ := Row.room hro (by simp) (j := l.length + k) (by omega)
      have hb3 := hb.trans (grown_below hm.2 hb.size (fun j hj => by injection hj with hj; rw [← hj, ← HG.out]; exact Nat.le_refl _))
      have hm1 := hm.1
      rw [List.append_assoc, ← List.replicate_succ'] at hm1
      have e1 : ((l.length + k : Nat) : Int) < (l.length : Int) + 3 := by omega
      have hcc : ((l.length + 3 : Nat) : Int) = (l.length : Int) + 3 := by omega
      have H1 := Lib.hid hm1
      have H2 := Lib.hid hb3
      clear hm hm1 hb3
      generalize hj : l.length + k = j at *
      have HJ := Lib.hid hj
      clear hj
      go_wp2_with fail
      exact ⟨⟨k + 1, by omega, by rw [← HJ.out]; go_num, by rw [show l.length + (k + 1) = j + 1 by rw [← HJ.out]; omega]; exact H1.out, H2.out⟩, by simp [intOf]; omega⟩
    · have hkk : k = 3 := by omega
      subst hkk
      have e1 : ¬ ((l.length + 3 : Nat) : Int) < (l.length : Int) + 3 := by omega
      go_wp2_with fail
      go_ret
      exact ⟨g, rfl, hro, hb⟩

set_option maxHeartbeats 1000000 in
theorem keptb_yes (g : Nat) (v : Value) (l : List Int) (x : Int) (w : World) (h1 : Rd (intE .u8) w (.slice (some ⟨g, 0, none⟩) (l.length + 3) (l.length + 3)) (l ++ [x, x, x])) (h2 : Rd (intE .u8) w v l) (hl : l.length ≤ 140737488351232) :
    Calls Try.prog 16 #[.slice (some ⟨g, 0, none⟩) l.length (l.length + 3), v, .int .u8 x] w fun e w' => e = .returned (.bool true) ∧ Below w.heap.size w w' := by
  have h0 : Rd (intE .u8) w (.slice (some ⟨g, 0, none⟩) l.length (l.length + 3)) l := own_rd (m := [x, x, x]) h1
  obtain ⟨g', off, c', hv', _, _, hcell⟩ := Mem.Rd.ints h1 (by simp)
  injection hv' with f1 f2 f3
  injection f1 with f1
  injection f1 with f1 f4
  subst f1 f4
  have hf : ∀ j, j < 3 → w.cell? ⟨g, l.length + j, none⟩ = some (.int .u8 x) := by
    intro j hj
    have := hcell (l.length + j) (by simp; omega)
    rw [Nat.zero_add] at this
    rw [this]
    have h3 : j = 0 ∨ j = 1 ∨ j = 2 := by omega
    rcases h3 with rfl | rfl | rfl <;> simp [List.getD, List.getElem?_append]
  have HF := Lib.hid hf
  have hcut := run_cut_to (P := Try.prog) byteElem (some ⟨g, 0, none⟩) l.length (l.length + 3) (l.length + 3) (Nat.le_refl _)
  rw [cutA_zero, show ((l.length + 3 : Nat) : Int) = (l.length : Int) + 3 by omega] at hcut
  obtain ⟨a, c, rfl, k1, k2⟩ := h2.form
  clear h1 hcell f2 f3 hf
  go_enter Try.func16, Try.ntmps16
  go_wp2_with (go_at_call 21; refine (plainb_yes _ _ l hl w h0 h2).mono ?_; rintro e w1 ⟨rfl, hk⟩)
  clear hcut
  go_loopw [8] (fun i wr => ∃ k : Nat, k ≤ 3 ∧ i = .int .i64 ((l.length + k : Nat) : Int) ∧ Below w.heap.size w wr) (fun i _ => l.length + 3 - (intOf i).toNat)
  case atStart => exact ⟨0, by omega, rfl, hk⟩
  case round =>
    obtain ⟨k, hk3, rfl, hb⟩ := hrel
    by_cases hlt : k < 3
    · have hd := kc hb (HF.out k hlt)
      have e1 : ((l.length + k : Nat) : Int) < (l.length : Int) + 3 := by omega
      generalize hj : l.length + k = j at *
      have HJ := Lib.hid hj
      clear hj
      go_wp2_with fail
      exact ⟨⟨k + 1, by omega, by rw [← HJ.out]; go_num, hb⟩, by simp [intOf]; omega⟩
    · have hkk : k = 3 := by omega
      subst hkk
      have e1 : ¬ ((l.length + 3 : Nat) : Int) < (l.length : Int) + 3 := by omega
      go_wp2_with fail
      go_ret
      exact ⟨rfl, hb⟩
end Go.Proofs.Ytchofcciddbmoaa
