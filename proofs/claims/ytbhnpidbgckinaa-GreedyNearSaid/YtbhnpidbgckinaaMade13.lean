/- Walk that the laws of greedy share: a ring, and the document's, made of the same points. -/
import Derived.Test.YtbhnpidbgckinaaRgPair
set_option maxRecDepth 4000
namespace Go.Proofs.Ytbhnpidbgckinaa
open Go.RowKit Mem
set_option linter.unusedSimpArgs false
set_option linter.unusedVariables false
attribute [local irreducible] Go.Calls

set_option maxHeartbeats 4000000 in
theorem made13_any (v : Value) (l : List Int) (w : World) (h : Rd (intE .u32) w v l) (hb : ∀ x ∈ l, 0 ≤ x ∧ x ≤ 4294967295) :
    Calls Try.prog 8 #[v] w fun e w' => ∃ r rr, e = .returned (.tuple #[.pointer (some ⟨r, 0, none⟩), .pointer (some ⟨rr, 0, none⟩)]) ∧ Pr w.heap.size w' r rr (addsR [] (l.take 60)) (addsR [] (l.take 60)) ∧ Below w.heap.size w w' := by
  obtain ⟨a, g, o, c, rfl, hc, hm, ha, hcells⟩ := Mem.Rd.loopI h
  have hm' : c ≤ 9223372036854775807 := hm
  have HA := Lib.hid ha
  have HC := Lib.hid hcells
  have HB := Lib.hid hb
  clear h ha hcells hm hb
  go_enter Try.func8, Try.ntmps8
  go_upto_region 2 with (go_at_call 19; refine (rgnew_any w).mono ?_; rintro e w1 ⟨r, W, R, rfl, hp, hr, hk⟩)
  have hX : Below w1.heap.size w1 (w1.alloc (.cells #[.slice none 0 0] 37)) := more (Below.refl _ _) _
  have hbl : Blk (w1.alloc (.cells #[.slice none 0 0] 37)) w1.heap.size 37 #[.slice none 0 0] := Blk.new _ _ _
  have HP := Lib.hid (Pr.new (B := w.heap.size) (rg_new hp hr (Nat.le_refl _)) hX ⟨_, hbl, Rd.nil _ _ (Nat.zero_le _), fun g hg => (by cases hg), ⟨List.Pairwise.nil, fun x hx => (nomatch hx), Nat.zero_le _⟩⟩ (Nat.le_refl _) (fun v g hv hg => by rw [hbl.cell 0] at hv; injection hv with hv; subst hv; cases hg) hk.size)
  have HK := Lib.hid (nest hk hX)
  clear hp hr hk hX hbl
  generalize w1.alloc (.cells #[.slice none 0 0] 37) = w2 at *
  generalize w1.heap.size = rr at *
  go_upto_block 99 with fail
  go_loopw [6] (fun iv wr => ∃ i : Nat, i ≤ l.length ∧ i ≤ 60 ∧ iv = .int .i64 i ∧ Pr w.heap.size wr r rr (addsR [] (l.take i)) (addsR [] (l.take i)) ∧ Below w.heap.size w wr) (fun iv _ => 60 - (intOf iv).toNat)
  case atStart => exact ⟨0, Nat.zero_le _, Nat.zero_le _, rfl, HP.out, HK.out⟩
  case round =>
    obtain ⟨i, hi, hi60, rfl, hpr, hbw⟩ := hrel
    have HPR := Lib.hid hpr
    have HKI := Lib.hid hbw
    clear hpr hbw HP HK
    by_cases hlt : i < l.length ∧ i < 60
    · obtain ⟨h1, h2⟩ := hlt
      obtain ⟨rfl, hg⟩ := HA.out (by omega)
      have d0 := kc HKI.out (HC.out i h1)
      have HSL := Lib.hid (addsR_step [] h1)
      have HBX : Hid (0 ≤ l.getD i 0 ∧ l.getD i 0 ≤ 4294967295) := Lib.hid (HB.out _ (by rw [show l.getD i 0 = l[i] by simp [List.getD, h1]]; exact List.getElem_mem h1))
      obtain ⟨x, hx⟩ : ∃ x, x = l.getD i 0 := ⟨_, rfl⟩
      rw [← hx] at d0 HSL HBX
      have HC0 : Hid (w.cell? ⟨g, o + i, none⟩ = some (.int .u32 x)) := Lib.hid (by rw [hx]; exact HC.out i h1)
      have hil : (i : Int) < (l.length : Int) := by omega
      have hcl : (l.length : Int) ≤ c := by omega
      have hi60' : (i : Int) < 60 := by omega
      clear hx hg
      go_upto_region 6 with (go_at_call 20; refine (pr_gadd w.heap.size r rr _ _ x wr HPR.out HKI.out.size HBX.out).mono ?_; rintro e w3 ⟨rfl, hp, hk⟩)
      have HP3 := Lib.hid hp
      have HK3 := Lib.hid (HKI.out.trans hk)
      clear hp hk d0
      have d1 := kc HK3.out HC0.out
      go_wp2_with (go_at_call 21; refine (pr_radd w.heap.size r rr _ _ x w3 HP3.out HK3.out.size HBX.out).mono ?_; rintro e w4 ⟨rfl, hp, hk⟩)
      exact ⟨⟨i + 1, by omega, by omega, by go_num, by rw [HSL.out]; exact hp, HK3.out.trans hk⟩, by simp [intOf]; omega⟩
    · have HE : Hid (l.take i = l.take 60) := Lib.hid (by
        by_cases h1 : i < l.length
        · rw [show i = 60 by omega]
        · rw [List.take_of_length_le (by omega), List.take_of_length_le (by omega)])
      rcases (show ¬ (i : Int) < (l.length : Int) ∨ ((i : Int) < (l.length : Int) ∧ ¬ (i : Int) < 60) by omega) with q | ⟨q1, q2⟩
      all_goals
        go_wp2_with fail
        go_ret2
        exact ⟨r, rr, rfl, by rw [← HE.out]; exact HPR.out, HKI.out⟩
end Go.Proofs.Ytbhnpidbgckinaa
