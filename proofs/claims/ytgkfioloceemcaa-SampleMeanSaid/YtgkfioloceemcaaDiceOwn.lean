/- The landed package dice: New, Step, Roll, Fork, of any dice, and of none. -/
import Derived.Test.YtgkfioloceemcaaDiceRef
set_option maxRecDepth 4000
namespace Go.Proofs.Ytgkfioloceemcaa
open Go.RowKit Mem
set_option linter.unusedSimpArgs false
set_option linter.unusedVariables false
attribute [local irreducible] Go.Calls

/-- dice of state s at block b -/
def DAt (w : World) (b : Nat) (s : Int) : Prop := Blk w b 62 #[.int .u64 s]
theorem DAt.keep {w w' : World} {b : Nat} {s : Int} (h : DAt w b s) (k : Below w.heap.size w w') : DAt w' b s := Blk.keep h k
theorem DAt.only {w w' : World} {b d : Nat} {s : Int} (h : DAt w b s) (k : Only d w w') (hne : b ≠ d) : DAt w' b s := Blk.only h k hne
theorem DAt.lt {w : World} {b : Nat} {s : Int} (h : DAt w b s) : b < w.heap.size := Blk.lt h
set_option maxHeartbeats 400000 in
theorem dnew_own (s : Int) (w : World) : Calls Try.prog 11 #[.int .u64 s] w fun e w' => ∃ b, e = .returned (.pointer (some ⟨b, 0, none⟩)) ∧ w.heap.size ≤ b ∧ DAt w' b s ∧ Below w.heap.size w w' := by
  go_enter Try.func11, Try.ntmps11
  go_wp2_with fail
  go_ret
  exact ⟨_, rfl, Nat.le_refl _, Blk.new w 62 #[.int .u64 s], more (Below.refl w.heap.size w) (.cells #[.int .u64 s] 62)⟩
theorem dnew_any (s : Int) (bs : 0 ≤ s ∧ s ≤ 18446744073709551615) (w : World) : Calls Try.prog 11 #[.int .u64 s] w fun e w' => ∃ b, e = .returned (.pointer (some ⟨b, 0, none⟩)) ∧ w.heap.size ≤ b ∧ DAt w' b s ∧ Below w.heap.size w w' := dnew_own s w
set_option maxHeartbeats 400000 in
theorem dfold_30 (x : Int) (w : World) : Calls Try.prog 29 #[.int .u64 x, .int .i64 30] w fun e w' => e = .returned (.int .u64 (xr x 1073741824)) ∧ w' = w := by
  go_enter Try.func29, Try.ntmps29
  go_wp2_with fail
  go_ret
  exact ⟨by unfold xr; rfl, rfl⟩
set_option maxHeartbeats 400000 in
theorem dfold_27 (x : Int) (w : World) : Calls Try.prog 29 #[.int .u64 x, .int .i64 27] w fun e w' => e = .returned (.int .u64 (xr x 134217728)) ∧ w' = w := by
  go_enter Try.func29, Try.ntmps29
  go_wp2_with fail
  go_ret
  exact ⟨by unfold xr; rfl, rfl⟩
set_option maxHeartbeats 400000 in
theorem dfold_31 (x : Int) (w : World) : Calls Try.prog 29 #[.int .u64 x, .int .i64 31] w fun e w' => e = .returned (.int .u64 (xr x 2147483648)) ∧ w' = w := by
  go_enter Try.func29, Try.ntmps29
  go_wp2_with fail
  go_ret
  exact ⟨by unfold xr; rfl, rfl⟩
attribute [local irreducible] xr in
set_option maxHeartbeats 1000000 in
theorem dstep_any (b : Nat) (s : Int) (bs : 0 ≤ s ∧ s ≤ 18446744073709551615) (w : World) (h : DAt w b s) : Calls Try.prog 17 #[.pointer (some ⟨b, 0, none⟩)] w fun e w' => e = .returned (.int .u64 (dmix (dnext s))) ∧ DAt w' b (dnext s) ∧ Only b w w' := by
  have h : Blk w b 62 #[.int .u64 s] := h
  have hc : w.cell? ⟨b, 0, none⟩ = some (.int .u64 s) := h.cell 0
  have hf : w.frozen? ⟨b, 0, none⟩ = false := h.frozen 0
  have hw : IntKind.u64.wrap (s + 11400714819323198485) = dnext s := by rw [IntKind.wrap_u64]; unfold dnext; rfl
  go_enter Try.func17, Try.ntmps17
  go_wp2_with fail
  have hB := h.set_ 0 (.int .u64 (dnext s))
  have hO : Only b w (w.setCell ⟨b, 0, none⟩ (.int .u64 (dnext s))) := Only.set _ _ _
  have HB : Hid (Blk (w.setCell ⟨b, 0, none⟩ (.int .u64 (dnext s))) b 62 #[.int .u64 (dnext s)]) := Lib.hid hB
  have HO := Lib.hid hO
  clear hB hO h hc hf hw
  generalize w.setCell ⟨b, 0, none⟩ (.int .u64 (dnext s)) = w1 at *
  have q : w1.cell? ⟨b, 0, none⟩ = some (.int .u64 (dnext s)) := HB.out.cell 0
  go_wp2_with fail
  refine (dfold_30 _ w1).mono ?_
  rintro e w2 ⟨rfl, rfl⟩
  go_wp2_with fail
  refine (dfold_27 _ w2).mono ?_
  rintro e w3 ⟨rfl, rfl⟩
  go_wp2_with fail
  refine (dfold_31 _ w3).mono ?_
  rintro e w4 ⟨rfl, rfl⟩
  go_wp2_with fail
  go_ret
  exact ⟨by unfold dmix; rfl, HB.out, HO.out⟩
set_option maxHeartbeats 400000 in
theorem dstep_nil (w : World) : Calls Try.prog 17 #[.pointer none] w fun e w' => e = .returned (.int .u64 0) ∧ Below w.heap.size w w' := by
  go_enter Try.func17, Try.ntmps17
  go_wp2_with fail
  go_ret
  exact ⟨rfl, Below.refl _ _⟩
set_option maxHeartbeats 400000 in
theorem ddroll_any (b : Nat) (s : Int) (bs : 0 ≤ s ∧ s ≤ 18446744073709551615) (n : Int) (bn : -9223372036854775808 ≤ n ∧ n ≤ 9223372036854775807) (w : World) (h : DAt w b s) : Calls Try.prog 25 #[.pointer (some ⟨b, 0, none⟩), .int .i64 n] w fun e w' => e = .returned (.int .i64 (droll s n)) ∧ DAt w' b (dafter s n) ∧ Only b w w' := by
  unfold droll dafter
  by_cases hn : n < 1
  · rw [if_pos hn, if_pos hn]
    go_enter Try.func25, Try.ntmps25
    go_wp2_with fail
    go_ret
    exact ⟨rfl, h, Only.refl _ _⟩
  · rw [if_neg hn, if_neg hn]
    have HB := Lib.hid h
    have e1 : IntKind.u64.wrap n = n := by rw [IntKind.wrap_u64]; omega
    have hbd := dmix_bd (dnext s)
    have h1 := Int.emod_nonneg (dmix (dnext s)) (show n ≠ 0 by omega)
    have h2 := Int.emod_lt_of_pos (dmix (dnext s)) (show 0 < n by omega)
    have e2 : wrap64 (dmix (dnext s) % n) = dmix (dnext s) % n := by unfold wrap64; omega
    have hn0 : ¬ n = 0 := by omega
    clear h
    go_enter Try.func25, Try.ntmps25
    go_wp2_with fail
    refine (dstep_any b s bs w HB.out).mono ?_
    rintro e w1 ⟨rfl, hb1, ho1⟩
    have HB1 := Lib.hid hb1
    have HO1 := Lib.hid ho1
    clear hb1 ho1
    go_wp2_with fail
    go_ret
    exact ⟨rfl, HB1.out, HO1.out⟩
set_option maxHeartbeats 1000000 in
theorem ddroll_nil (n : Int) (bn : -9223372036854775808 ≤ n ∧ n ≤ 9223372036854775807) (w : World) : Calls Try.prog 25 #[.pointer none, .int .i64 n] w fun e w' => e = .returned (.int .i64 0) ∧ Below w.heap.size w w' := by
  by_cases hn : n < 1
  · go_enter Try.func25, Try.ntmps25
    go_wp2_with fail
    go_ret
    exact ⟨rfl, Below.refl _ _⟩
  · have hn0 : ¬ n = 0 := by omega
    have bn0 : (0 : Int) < 1 := by omega
    have e1 : ∃ m, IntKind.u64.wrap n = m := ⟨_, rfl⟩
    have hz : (IntKind.u64.wrap n = 0) = False := by rw [IntKind.wrap_u64]; simp only [eq_iff_iff, iff_false]; omega
    obtain ⟨m, hm⟩ := e1
    rw [hm] at hz
    have hm0 : ¬ m = 0 := by intro h; rw [hz] at h; exact h
    have e2 : (0 : Int) % m = 0 := Int.zero_emod _
    have e3 : wrap64 0 = 0 := by unfold wrap64; omega
    clear hz
    go_enter Try.func25, Try.ntmps25
    go_wp2_with fail
    refine (dstep_nil w).mono ?_
    rintro e w1 ⟨rfl, ho1⟩
    have HO1 := Lib.hid ho1
    clear ho1
    go_wp2_with fail
    go_ret
    exact ⟨rfl, HO1.out⟩
end Go.Proofs.Ytgkfioloceemcaa
