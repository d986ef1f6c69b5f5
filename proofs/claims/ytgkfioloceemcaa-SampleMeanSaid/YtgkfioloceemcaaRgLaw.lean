/- Walks that the laws of rings share: awake, petasoshelp.In; a ring made within a call. -/
import Derived.Test.YtgkfioloceemcaaRingC
import Derived.Test.YtgkfioloceemcaaSameU
import Derived.Deep.DeepCutAuto
import Derived.Deep.CutBlock
import Derived.Deep.Light
set_option maxRecDepth 4000
namespace Go.Proofs.Ytgkfioloceemcaa
open Go.RowKit Mem
set_option linter.unusedSimpArgs false
set_option linter.unusedVariables false
attribute [local irreducible] Go.Calls

theorem rgElem : Elem Try.prog 22 24 1 4 := elem_of (z := .int .u32 0) Try.underlying22 (by kernel_rfl) rfl
theorem RgAt.keep {w w' : World} {b : Nat} {W R : Nat → Prop} {L : List Int} (h : RgAt w b W R L) (k : Below w.heap.size w w') : RgAt w' b W R L := h.turned (S := fun _ => False) (Turned.of_below k) (fun _ _ h => h)
/-- a ring made within a call whose world had B blocks -/
def Rg (B : Nat) (w : World) (b : Nat) (L : List Int) : Prop := ∃ W R, RgAt w b W R L ∧ ∀ j, R j → B ≤ j
theorem Rg.keep {B : Nat} {w w' : World} {b : Nat} {L : List Int} (h : Rg B w b L) (k : Below w.heap.size w w') : Rg B w' b L := by
  obtain ⟨W, R, h, hr⟩ := h
  exact ⟨W, R, h.keep k, hr⟩
theorem Rg.ok {B : Nat} {w : World} {b : Nat} {L : List Int} (h : Rg B w b L) : okR L := by
  obtain ⟨W, R, h, hr⟩ := h
  exact h.ok
theorem rg_new {B : Nat} {w w' : World} {b : Nat} {W R : Nat → Prop} (h : RgAt w' b W R []) (hr : ∀ j, R j → w.heap.size ≤ j) (hB : B ≤ w.heap.size) : Rg B w' b [] := ⟨W, R, h, fun j hj => Nat.le_trans hB (hr j hj)⟩
theorem Rg.step {B : Nat} {w w' : World} {b : Nat} {W R : Nat → Prop} {L L' : List Int} (h : RgAt w b W R L) (hr : ∀ j, R j → B ≤ j) (hB : B ≤ w.heap.size) (k : GStep W R w w' b L') : Rg B w' b L' ∧ Below B w w' := by
  obtain ⟨W', R', h', t, hw, hr'⟩ := k
  exact ⟨⟨W', R', h', fun j hj => by rcases hr' j hj with h1 | h1; exact hr j h1; omega⟩, t.below hB (fun j hj => hr j (h.sub hj))⟩
section
variable (B b : Nat) (L : List Int) (p : Int) (w : World)
theorem rg_add (h : Rg B w b L) (hB : B ≤ w.heap.size) (bp : 0 ≤ p ∧ p ≤ 4294967295) :
    Calls Try.prog 8 #[.pointer (some ⟨b, 0, none⟩), .int .u32 p] w fun e w' => e = .returned (.int .i64 (addR L p).2) ∧ Rg B w' b (addR L p).1 ∧ Below B w w' := by
  obtain ⟨W, R, h, hR⟩ := h
  exact (rgadd_any b W R L p w h bp).mono fun e w' ⟨he, hs⟩ => ⟨he, Rg.step h hR hB hs⟩
theorem rg_has (h : Rg B w b L) (bp : 0 ≤ p ∧ p ≤ 4294967295) : Calls Try.prog 23 #[.pointer (some ⟨b, 0, none⟩), .int .u32 p] w fun e w' => e = .returned (.bool (L.contains p)) ∧ Below w.heap.size w w' := by
  obtain ⟨W, R, h, hR⟩ := h
  exact rghas_any b W R L p w h bp
theorem rg_next (h : Rg B w b L) (bp : 0 ≤ p ∧ p ≤ 4294967295) : Calls Try.prog 34 #[.pointer (some ⟨b, 0, none⟩), .int .u32 p] w fun e w' => e = .returned (.tuple #[.int .u32 (nextR L p).1, .bool (nextR L p).2]) ∧ Below w.heap.size w w' := by
  obtain ⟨W, R, h, hR⟩ := h
  exact rgnext_any b W R L p w h bp
end
/-- is a number among them? -/
theorem any_step {l : List Int} {x : Int} {k : Nat} (hk : k < l.length) : (l.take (k + 1)).contains x = ((l.take k).contains x || (l.getD k 0 == x)) := by
  rw [List.take_add_one, List.getElem?_eq_getElem hk, Option.toList_some, show l.getD k 0 = l[k] by simp [List.getD, hk]]
  rw [Bool.eq_iff_iff, Bool.or_eq_true, List.contains_iff_mem, List.contains_iff_mem, List.mem_append, List.mem_singleton, beq_iff_eq]
  exact ⟨fun h => h.imp_right Eq.symm, fun h => h.imp_right Eq.symm⟩
set_option maxHeartbeats 2000000 in
theorem inU_any (v : Value) (l : List Int) (x : Int) (w : World) (h : Rd (intE .u32) w v l) :
    Calls Try.prog 13 #[v, .int .u32 x] w fun e w' => e = .returned (.bool (l.contains x)) ∧ Below w.heap.size w w' := by
  obtain ⟨a, g, o, c, rfl, hc, hm, ha, k1⟩ := Mem.Rd.loopI h
  have hm' : c ≤ 9223372036854775807 := hm
  have HA := Lib.hid ha
  have HC := Lib.hid k1
  obtain ⟨RES, hRES⟩ : ∃ r, r = l.contains x := ⟨_, rfl⟩
  rw [← hRES]
  have HRES := Lib.hid hRES
  clear h ha k1 hm hRES
  go_enter Try.func13, Try.ntmps13
  go_wp2_with fail
  go_loopw [5] (fun i wr => ∃ k : Nat, k ≤ l.length ∧ i = .int .i64 k ∧ (l.take k).contains x = false ∧ Below w.heap.size w wr) (fun i _ => l.length - (intOf i).toNat)
  case atStart => exact ⟨0, Nat.zero_le _, rfl, rfl, Below.refl _ _⟩
  case round =>
    obtain ⟨k, hk, rfl, hu, hb⟩ := hrel
    have HU := Lib.hid hu
    have HB := Lib.hid hb
    clear hu
    by_cases hlt : k < l.length
    · obtain ⟨rfl, hg⟩ := HA.out (by omega)
      have d0 := kc hb (HC.out k hlt)
      have HST := Lib.hid (any_step (x := x) hlt)
      have HIN : Hid (l.getD k 0 = x → l.contains x = true) := Lib.hid (fun e => by rw [← e, show l.getD k 0 = l[k] by simp [List.getD, hlt]]; simp)
      obtain ⟨y, hy⟩ : ∃ y, y = l.getD k 0 := ⟨_, rfl⟩
      rw [← hy] at d0 HST HIN
      have hkl : (k : Int) < (l.length : Int) := by omega
      clear hy hb hg
      by_cases e : y = x
      · have HR : Hid (RES = true) := Lib.hid (by rw [HRES.out]; exact HIN.out e)
        subst e
        go_wp2_with fail
        go_ret
        exact ⟨by rw [HR.out]; rfl, HB.out⟩
      · have n1 : (y == x) = false := beq_eq_false_iff_ne.2 e
        have HN : Hid ((l.take (k + 1)).contains x = false) := Lib.hid (by rw [HST.out, HU.out, n1]; rfl)
        go_wp2_with fail
        exact ⟨⟨k + 1, by omega, by go_num, HN.out, HB.out⟩, by simp [intOf]; omega⟩
    · have hkl : k = l.length := by omega
      subst hkl
      have HR : Hid (RES = false) := Lib.hid (by rw [HRES.out]; have := HU.out; rwa [List.take_length] at this)
      clear hb
      go_wp2_with fail
      go_ret
      exact ⟨by rw [HR.out]; rfl, HB.out⟩
end Go.Proofs.Ytgkfioloceemcaa
