/- Walks of package sample: the mean of loads. -/
import Derived.Test.YtgkmkpkbdmciiaaLdRef
import Derived.Deep.CutBlock
import Derived.Deep.Light
set_option maxRecDepth 4000
namespace Go.Proofs.Ytgkmkpkbdmciiaa
open Go.RowKit Mem
set_option linter.unusedSimpArgs false
set_option linter.unusedVariables false
attribute [local irreducible] Go.Calls

set_option maxHeartbeats 1000000 in
theorem sshare_any (s : Int) (n : Nat) (hs : 0 ≤ s ∧ s ≤ 2147483647 * n) (hn : 0 < n ∧ n ≤ 1000000) (w : World) : Calls Try.prog 32 #[.int .u64 s, .int .u64 n] w fun e w' => e = .returned (.int .u64 (256 * s / n)) ∧ Below w.heap.size w w' := by
  have hn0 : ¬ (n : Int) = 0 := by omega
  obtain ⟨q, hq⟩ : ∃ q, q = s / n := ⟨_, rfl⟩
  obtain ⟨r, hr⟩ : ∃ r, r = s % n := ⟨_, rfl⟩
  have hqr : s = n * q + r := by rw [hq, hr]; exact (Int.mul_ediv_add_emod s n).symm
  have hr0 : 0 ≤ r := by rw [hr]; exact Int.emod_nonneg _ hn0
  have hr1 : r < n := by rw [hr]; exact Int.emod_lt_of_pos _ (by omega)
  have hq0 : 0 ≤ q := by rw [hq]; exact Int.ediv_nonneg hs.1 (by omega)
  have hq1 : q ≤ 2147483647 := by
    rw [hq]
    exact Int.le_of_lt_add_one (Int.ediv_lt_of_lt_mul (by omega) (by omega))
  obtain ⟨t, ht⟩ : ∃ t, t = r * 256 / n := ⟨_, rfl⟩
  have ht0 : 0 ≤ t := by rw [ht]; exact Int.ediv_nonneg (by omega) (by omega)
  have ht1 : t < 256 := by rw [ht]; exact Int.ediv_lt_of_lt_mul (by omega) (by omega)
  have HE : Hid (256 * s / n = q * 256 + t) := Lib.hid (by
    rw [hqr, ht, show 256 * ((n : Int) * q + r) = r * 256 + (q * 256) * n by rw [Int.mul_add, Int.mul_comm 256 r, Int.mul_comm (n : Int) q, Int.add_comm, ← Int.mul_assoc, Int.mul_comm 256 q], Int.add_mul_ediv_right _ _ hn0, Int.add_comm])
  have f1 : s.tdiv (n : Int) = q := by rw [Int.tdiv_eq_ediv_of_nonneg hs.1, hq]
  have f2 : s.tmod (n : Int) = r := by rw [Int.tmod_eq_emod_of_nonneg hs.1, hr]
  have f3 : (r * 256).tdiv (n : Int) = t := by rw [Int.tdiv_eq_ediv_of_nonneg (by omega), ht]
  have HF := Lib.hid (And.intro f1 (And.intro f2 f3))
  have g1 : IntKind.u64.wrap q = q := by rw [IntKind.wrap_u64]; omega
  have g2 : IntKind.u64.wrap (q * 256) = q * 256 := by rw [IntKind.wrap_u64]; omega
  have g3 : IntKind.u64.wrap r = r := by rw [IntKind.wrap_u64]; omega
  have g4 : IntKind.u64.wrap (r * 256) = r * 256 := by rw [IntKind.wrap_u64]; omega
  have g5 : IntKind.u64.wrap t = t := by rw [IntKind.wrap_u64]; omega
  have g6 : IntKind.u64.wrap (q * 256 + t) = q * 256 + t := by rw [IntKind.wrap_u64]; omega
  rw [HE.out]
  clear hq hr hqr hr0 hr1 hq0 hq1 ht ht0 ht1 HE hs hn HF
  go_enter Try.func32, Try.ntmps32
  go_wp2_with fail
  go_region
  go_wp2_with fail
  go_ret
  exact ⟨rfl, (Below.refl _ _).drew⟩

set_option maxHeartbeats 1000000 in
theorem smean_any (v : Value) (l : List Ld) (w : World) (h : Rd ldE w v l) (hb : ∀ x ∈ l, okLd x) (hl : l.length ≤ 1000000) : Calls Try.prog 25 #[v] w fun e w' => e = .returned (.int .u64 (meanV l)) ∧ Below w.heap.size w w' := by
  obtain ⟨a, g, off, c, rfl, _, hc2, hga, hcs⟩ := h.loop2
  have hc2' : c ≤ 9223372036854775807 := hc2
  have HC := Lib.hid hcs
  have HG := Lib.hid hga
  have HLL := Lib.hid hl
  clear h hcs hga
  by_cases h0 : l = []
  · subst h0
    go_enter Try.func25, Try.ntmps25
    go_wp2_with fail
    go_ret
    exact ⟨rfl, Below.refl _ _⟩
  have hpos : 0 < l.length := List.length_pos_iff.2 h0
  have hne : ((l.length : Int) == 0) = false := beq_eq_false_iff_ne.2 (by omega)
  have HM := Lib.hid (meanV_some hpos)
  have HSB := Lib.hid (sumP_bd l)
  have HPOS := Lib.hid hpos
  obtain ⟨rfl, _⟩ := HG.out hpos
  obtain ⟨RES, hRES⟩ : ∃ x, x = meanV l := ⟨_, rfl⟩
  rw [← hRES] at HM ⊢
  clear hRES h0 hb
  go_enter Try.func25, Try.ntmps25
  go_upto_block 99 with fail
  go_loopw [3, 11] (fun s i wr => ∃ k : Nat, k ≤ l.length ∧ s = .int .u64 (sumP (l.take k)) ∧ i = .int .i64 k ∧ Below w.heap.size w wr) (fun _ i _ => l.length - (intOf i).toNat)
  case atStart => exact ⟨0, by omega, rfl, rfl, Below.refl _ _⟩
  case round =>
    obtain ⟨k, hk, rfl, rfl, hb⟩ := hrel
    have HB := Lib.hid hb
    by_cases hlt : k < l.length
    · have hkl : (k : Int) < (l.length : Int) := by omega
      have d0 := kc hb (HC.out k hlt).1
      have d1 := kc hb (HC.out k hlt).2
      have HST := Lib.hid (sumP_step hlt)
      have HB2 := Lib.hid (sumP_bd (l.take (k + 1)))
      have HLN : Hid ((l.take (k + 1)).length ≤ 1000000) := Lib.hid (by rw [List.length_take]; omega)
      obtain ⟨e, he⟩ : ∃ e, e = (l.getD k (0, 0)).2 := ⟨_, rfl⟩
      obtain ⟨e1, he1⟩ : ∃ e, e = (l.getD k (0, 0)).1 := ⟨_, rfl⟩
      rw [← he] at d1 HST
      rw [← he1] at d0
      clear he hb he1
      have HPB := Lib.hid (posV_bd e)
      have hmin : min (max e 0) 2147483647 = posV e := by unfold posV; omega
      obtain ⟨m, hmm⟩ : ∃ m, max e 0 = m := ⟨_, rfl⟩
      have hmax2 : (if e < 0 then 0 else e) = m := by rw [← hmm]; omega
      rw [hmm] at hmin
      have hmin2 : (if m < 2147483647 then m else 2147483647) = posV e := by rw [← hmin]; omega
      have hmin3 : (if 2147483647 < m then 2147483647 else m) = posV e := by rw [← hmin]; omega
      obtain ⟨p, hp⟩ : ∃ p, p = posV e := ⟨_, rfl⟩
      rw [← hp] at hmin hmin2 hmin3 HST HPB
      have hpw : IntKind.u64.wrap p = p := by rw [IntKind.wrap_u64]; have := HPB.out; omega
      have hsw : IntKind.u64.wrap (sumP (l.take k) + p) = sumP (l.take (k + 1)) := by rw [IntKind.wrap_u64, HST.out]; have := HB2.out; have := HST.out; have := HLN.out; omega
      clear hp
      go_wp2_with fail
      exact ⟨⟨k + 1, by omega, rfl, by go_num, more HB.out _⟩, by simp [intOf]; omega⟩
    · have hkl : k = l.length := by omega
      subst hkl
      rw [List.take_length]
      have hm2 : IntKind.u64.wrap (l.length : Int) = (l.length : Int) := by rw [IntKind.wrap_u64]; have := HLL.out; omega
      have HS := Lib.hid (fun z => sshare_any (sumP l) l.length HSB.out ⟨HPOS.out, HLL.out⟩ z)
      rw [← HM.out] at HS
      generalize sumP l = s at *
      clear hb
      go_wp2_with (go_at_call 32; refine (HS.out _).mono ?_; rintro e w2 ⟨rfl, hk2⟩)
      go_ret
      exact ⟨rfl, nest HB.out hk2⟩

end Go.Proofs.Ytgkmkpkbdmciiaa
