/- Walks beneath package balance: how two loads are compared, the least one of a list (slices.MinFunc), whether loads may be so. -/
import Derived.Test.YtgkmkpkbdmciiaaMeanC
import Derived.Test.YtgkmkpkbdmciiaaBcPlans
import Derived.Test.YtgkmkpkbdmciiaaLdRef2
import Derived.Test.YtgkmkpkbdmciiaaMaps
import Derived.Test.YtgkmkpkbdmciiaaGrMap
import Derived.Test.YtgkmkpkbdmciiaaNums
import Derived.Deep.CutBlock
import Derived.Deep.Light
set_option maxRecDepth 4000
namespace Go.Proofs.Ytgkmkpkbdmciiaa.Run
open Go Go.RowKit
section
variable {P : Program} {Q : Exit → Act → World → Prop} {a : Act} {w : World} {S : World → Prop}
/-- a call of a function that lies in a slot -/
theorem wp_callV {f : FuncId} {x : Operand} {dst : Option Tmp} {xs : Array Operand} {ts : Array TypeId} {ty : TypeId} {pos : String} {after : Array Edge} {guard : Option (Nat × Bool)} {vs : Array Value} {T : Ending → World → Prop} {R K : Act → World → Prop}
    (hx : a.eval x = .func (.func f) #[] #[]) (hf : enterable P f = true) (c : Calls P f vs w T) (hargs : xs.toList.map a.eval = vs.toList) (hK : Shut (∀ a' w', S w' → R a' w' → K a' w'))
    (h : ∀ e w', T e w' → ∃ v, e = .returned v ∧ S w' ∧ R (a.put dst v) w') : Oper.wp P { dst, op := .call { callee := .value x, args := xs, argTypes := ts }, type := ty, pos, after, guard } a w K Q := by
  have e1 : execOp a.eval { dst, op := .call { callee := .value x, args := xs, argTypes := ts }, type := ty, pos, after, guard } = callFunc f (#[] ++ xs.map a.eval ++ #[]) := by
    simp [execOp, resolve, Deferred.ofValue, hx, invoke]
  have e2 : execOp a.eval { dst, op := .call { callee := .value (.func f), args := xs, argTypes := ts }, type := ty, pos, after, guard } = callFunc f (#[] ++ xs.map a.eval ++ #[]) := rfl
  have h2 := wp_call (P := P) (Q := Q) (dst := dst) (ts := ts) (ty := ty) (pos := pos) (after := after) (guard := guard) hf c hargs hK h
  unfold Oper.wp at h2 ⊢
  rw [e2] at h2
  rw [e1]
  exact h2
theorem callV (f : FuncId) {x : Operand} {dst : Option Tmp} {xs : Array Operand} {ts : Array TypeId} {ty : TypeId} {pos : String} {after : Array Edge} {guard : Option (Nat × Bool)} {vs : Array Value} {T : Ending → World → Prop} {R : Act → World → Prop}
    (hx : a.eval x = .func (.func f) #[] #[]) (hf : enterable P f = true) (c : S w → Calls P f vs w T) (hargs : xs.toList.map a.eval = vs.toList) (h : S w → ∀ e w', T e w' → ∃ v, e = .returned v ∧ S w' ∧ R (a.put dst v) w') :
    Act1 P Q S none { dst, op := .call { callee := .value x, args := xs, argTypes := ts }, type := ty, pos, after, guard } a w R :=
  one fun hS _ hK => wp_callV hx hf (c hS) hargs hK (h hS)
end
end Go.Proofs.Ytgkmkpkbdmciiaa.Run
namespace Go.Proofs.Ytgkmkpkbdmciiaa
open Go.RowKit Mem
set_option linter.unusedSimpArgs false
set_option linter.unusedVariables false
attribute [local irreducible] Go.Calls

theorem nanI_any (x : Int) (w : World) : Calls Try.prog 30 #[.int .i64 x] w fun e w' => e = .returned (.bool false) ∧ w' = w := by
  go_enter Try.func30, Try.ntmps30
  go_wp2_with fail
  go_ret
  exact ⟨rfl, rfl⟩
theorem cmpI_any (x y : Int) (w : World) : Calls Try.prog 23 #[.int .i64 x, .int .i64 y] w fun e w' => e = .returned (.int .i64 (Lib.compareInt x y)) ∧ w' = w := by
  rcases Int.lt_trichotomy x y with h | h | h
  · have e : Lib.compareInt x y = -1 := by unfold Lib.compareInt; rw [if_pos h]
    rw [e]
    go_enter Try.func23, Try.ntmps23
    go_wp2_with (go_at_call 30; refine (nanI_any _ _).mono ?_; rintro e w' ⟨rfl, rfl⟩)
    go_ret
    exact ⟨rfl, rfl⟩
  · have e : Lib.compareInt x y = 0 := by unfold Lib.compareInt; rw [if_neg (by omega), if_neg (by omega)]
    have h1 : ¬ x < y := by omega
    have h2 : ¬ x > y := by omega
    rw [e]
    clear h
    go_enter Try.func23, Try.ntmps23
    go_wp2_with (go_at_call 30; refine (nanI_any _ _).mono ?_; rintro e w' ⟨rfl, rfl⟩)
    go_ret
    exact ⟨rfl, rfl⟩
  · have e : Lib.compareInt x y = 1 := by unfold Lib.compareInt; rw [if_neg (by omega), if_pos h]
    have h1 : ¬ x < y := by omega
    have h2 : x > y := h
    rw [e]
    clear h
    go_enter Try.func23, Try.ntmps23
    go_wp2_with (go_at_call 30; refine (nanI_any _ _).mono ?_; rintro e w' ⟨rfl, rfl⟩)
    go_ret
    exact ⟨rfl, rfl⟩
/-- the first that is not 0 -/
def orV : List Int → Int
  | [] => 0
  | x :: l => if x = 0 then orV l else x
theorem orV_drop {l : List Int} {k : Nat} (h : k < l.length) : orV (l.drop k) = if l.getD k 0 = 0 then orV (l.drop (k + 1)) else l.getD k 0 := by
  rw [List.drop_eq_getElem_cons h]
  rw [show l.getD k 0 = l[k] by simp [List.getD, h]]
  rfl
theorem or_any (v : Value) (l : List Int) (w : World) (h : Rd (intE .i64) w v l) : Calls Try.prog 22 #[v] w fun e w' => e = .returned (.int .i64 (orV l)) ∧ w' = w := by
  obtain ⟨a, g, o, c, rfl, hc, hm, ha, hk⟩ := Mem.Rd.loopI h
  have hm' : c ≤ 9223372036854775807 := hm
  have HK := Lib.hid hk
  have HA := Lib.hid ha
  clear hk ha h hm
  obtain ⟨RES, hRES⟩ : ∃ x, x = orV l := ⟨_, rfl⟩
  rw [← hRES]
  have HR := Lib.hid hRES
  clear hRES
  go_enter Try.func22, Try.ntmps22
  go_wp2_with fail
  go_loopw [8] (fun iv wr => ∃ k : Nat, k ≤ l.length ∧ iv = .int .i64 k ∧ Hid (RES = orV (l.drop k)) ∧ wr = w) (fun iv _ => l.length - (intOf iv).toNat)
  case atStart => exact ⟨0, by omega, rfl, Lib.hid HR.out, rfl⟩
  case round =>
    obtain ⟨k, hk, rfl, HO, rfl⟩ := hrel
    by_cases hlt : k < l.length
    · have hkl : (k : Int) < (l.length : Int) := by omega
      obtain ⟨rfl, _⟩ := HA.out (by omega)
      have d0 := HK.out k hlt
      have HD := Lib.hid (orV_drop hlt)
      obtain ⟨x, hx⟩ : ∃ x, x = l.getD k 0 := ⟨_, rfl⟩
      rw [← hx] at d0 HD
      clear hx
      by_cases h0 : x = 0
      · have h1 : (x != 0) = false := by simp [h0]
        have HE : Hid (RES = orV (l.drop (k + 1))) := Lib.hid (by rw [HO.out, HD.out, if_pos h0])
        clear h0
        go_wp2_with fail
        exact ⟨⟨k + 1, by omega, by go_num, HE, trivial⟩, by simp [intOf]; omega⟩
      · have h1 : (x != 0) = true := by simp [h0]
        have HE : Hid (RES = x) := Lib.hid (by rw [HO.out, HD.out, if_neg h0])
        clear h0
        go_wp2_with fail
        go_ret
        exact ⟨by rw [HE.out]; rfl, rfl⟩
    · have hkl : k = l.length := by omega
      subst hkl
      have HE : Hid (RES = 0) := Lib.hid (by rw [HO.out, List.drop_length]; rfl)
      go_wp2_with fail
      go_ret
      exact ⟨by rw [HE.out]; rfl, rfl⟩
/-- which of two loads comes first: by their entries, then by their points -/
def cmpL (a b : Ld) (more : Bool) : Int := orV [if more then Lib.compareInt b.2 a.2 else Lib.compareInt a.2 b.2, Lib.compareInt a.1 b.1]
theorem cmpL_lt (a b : Ld) (more : Bool) : cmpL a b more < 0 ↔ betterV a b more = true := by
  unfold cmpL betterV orV orV orV Lib.compareInt
  cases more
  · rcases Int.lt_trichotomy a.2 b.2 with h | h | h
    · simp [h, show ¬ b.2 < a.2 by omega, show a.2 ≠ b.2 by omega]
    · simp [h]; by_cases h2 : a.1 < b.1 <;> by_cases h3 : b.1 < a.1 <;> simp [h2, h3]
    · simp [h, show ¬ a.2 < b.2 by omega, show a.2 ≠ b.2 by omega]
  · rcases Int.lt_trichotomy a.2 b.2 with h | h | h
    · simp [h, show ¬ b.2 < a.2 by omega, show a.2 ≠ b.2 by omega]
    · simp [h]; by_cases h2 : a.1 < b.1 <;> by_cases h3 : b.1 < a.1 <;> simp [h2, h3]
    · simp [h, show ¬ a.2 < b.2 by omega, show a.2 ≠ b.2 by omega]
abbrev ldv (x : Ld) : Value := .agg #[.int .u32 x.1, .int .i64 x.2]
end Go.Proofs.Ytgkmkpkbdmciiaa
