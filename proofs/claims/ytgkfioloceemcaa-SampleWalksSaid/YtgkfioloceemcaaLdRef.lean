/- The document's answers for packages sample and balance (petasosref17): Mean, May, better, most, Heavy, Light, Plan. -/
import Derived.Test.YtgkfioloceemcaaLoads
import Derived.Test.YtgkfioloceemcaaLdMath
import Derived.Test.YtgkfioloceemcaaLdPlans
import Derived.Test.YtgkfioloceemcaaRun2
import Derived.Deep.DeepCutAuto
import Derived.Deep.CutBlock
import Derived.Deep.Light
set_option maxRecDepth 4000
namespace Go.Proofs.Ytgkfioloceemcaa
open Go.RowKit Mem
set_option linter.unusedSimpArgs false
set_option linter.unusedVariables false
attribute [local irreducible] Go.Calls

set_option maxHeartbeats 1000000 in
theorem rmean_any (v : Value) (l : List Ld) (w : World) (h : Rd ldE w v l) (hl : l.length ≤ 1000000) : Calls Try.prog 20 #[v] w fun e w' => e = .returned (.int .u64 (meanV l)) ∧ Below w.heap.size w w' := by
  obtain ⟨a, g, off, c, rfl, _, hc2, hga, hcs⟩ := h.loop2
  have hc2' : c ≤ 9223372036854775807 := hc2
  have HC := Lib.hid hcs
  have HG := Lib.hid hga
  have HLL := Lib.hid hl
  clear h hcs hga
  by_cases h0 : l = []
  · subst h0
    go_enter Try.func20, Try.ntmps20
    go_wp2_with fail
    go_ret
    exact ⟨rfl, Below.refl _ _⟩
  have hpos : 0 < l.length := List.length_pos_iff.2 h0
  have hne : ((l.length : Int) == 0) = false := beq_eq_false_iff_ne.2 (by omega)
  have HM := Lib.hid (meanV_some hpos)
  have HMB := Lib.hid (meanV_bd l)
  have HSB := Lib.hid (sumP_bd l)
  obtain ⟨rfl, _⟩ := HG.out hpos
  obtain ⟨RES, hRES⟩ : ∃ x, x = meanV l := ⟨_, rfl⟩
  rw [← hRES] at HM HMB ⊢
  clear hRES h0
  go_enter Try.func20, Try.ntmps20
  go_wp2_with fail
  go_loopw [3, 4] (fun s i wr => ∃ k : Nat, k ≤ l.length ∧ s = .int .u64 (sumP (l.take k)) ∧ i = .int .i64 k ∧ Below w.heap.size w wr) (fun _ i _ => l.length - (intOf i).toNat)
  case atStart => exact ⟨0, by omega, rfl, rfl, Below.refl _ _⟩
  case round =>
    obtain ⟨k, hk, rfl, rfl, hb⟩ := hrel
    have HB := Lib.hid hb
    by_cases hlt : k < l.length
    · have hkl : (k : Int) < (l.length : Int) := by omega
      have d1 := kc hb (HC.out k hlt).2
      have HST := Lib.hid (sumP_step hlt)
      have HB2 := Lib.hid (sumP_bd (l.take (k + 1)))
      have HLN : Hid ((l.take (k + 1)).length ≤ 1000000) := Lib.hid (by rw [List.length_take]; omega)
      obtain ⟨e, he⟩ : ∃ e, e = (l.getD k (0, 0)).2 := ⟨_, rfl⟩
      rw [← he] at d1 HST
      clear he hb
      obtain ⟨m, hmin⟩ : ∃ m, (if (2147483647 : Int) < e then 2147483647 else e) = m := ⟨_, rfl⟩
      have hmax : (if 0 < m then m else 0) = posV e := by rw [← hmin]; unfold posV; split <;> split <;> omega
      have HPB := Lib.hid (posV_bd e)
      obtain ⟨p, hp⟩ : ∃ p, p = posV e := ⟨_, rfl⟩
      rw [← hp] at hmax HST HPB
      have hpw : IntKind.u64.wrap p = p := by rw [IntKind.wrap_u64]; have := HPB.out; omega
      have hsw : IntKind.u64.wrap (sumP (l.take k) + p) = sumP (l.take (k + 1)) := by rw [IntKind.wrap_u64, HST.out]; have := HB2.out; have := HST.out; have := HLN.out; omega
      clear hp
      go_wp2_with fail
      exact ⟨⟨k + 1, by omega, by go_num, by go_num, HB.out⟩, by simp [intOf]; omega⟩
    · have hkl : k = l.length := by omega
      subst hkl
      rw [List.take_length]
      generalize sumP l = s at *
      have hm1 : IntKind.u64.wrap (256 * s) = 256 * s := by rw [IntKind.wrap_u64]; have := HSB.out; have := HLL.out; omega
      have hm2 : IntKind.u64.wrap (l.length : Int) = (l.length : Int) := by rw [IntKind.wrap_u64]; have := HLL.out; omega
      have hm3 : (256 * s).tdiv (l.length : Int) = RES := by rw [HM.out, Int.tdiv_eq_ediv_of_nonneg (by have := HSB.out; omega)]
      have hm4 : IntKind.u64.wrap RES = RES := by rw [IntKind.wrap_u64]; have := HMB.out; omega
      have hm5 : ¬ (l.length : Int) = 0 := by omega
      clear hb
      go_wp2_with fail
      go_ret
      exact ⟨rfl, HB.out⟩
end Go.Proofs.Ytgkfioloceemcaa
