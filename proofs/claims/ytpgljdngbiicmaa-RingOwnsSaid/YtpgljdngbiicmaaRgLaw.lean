/- Walks that the laws of rings share: awake, petasoshelp.In; a ring made within a call. -/
import Derived.Test.YtpgljdngbiicmaaRingC
import Derived.Test.YtpgljdngbiicmaaSameU
import Derived.Deep.DeepCutAuto
import Derived.Deep.CutBlock
import Derived.Deep.Light
set_option maxRecDepth 4000
namespace Go.Proofs.Ytpgljdngbiicmaa
open Go.RowKit Mem
set_option linter.unusedSimpArgs false
set_option linter.unusedVariables false
attribute [local irreducible] Go.Calls

theorem rgElem : Elem Try.prog 22 24 1 4 := elem_of (z := .int .u32 0) Try.underlying22 (by kernel_rfl) rfl
theorem span_infoR : (Try.prog.info? 36).map (·.size) = some 2 := by kernel_rfl
theorem RgAt.keep {w w' : World} {b : Nat} {W R : Nat → Prop} {L : List Int} (h : RgAt w b W R L) (k : Below w.heap.size w w') : RgAt w' b W R L := h.turned (S := fun _ => False) (Turned.of_below k) (fun _ _ h => h)
/-- a ring made within a call whose world had B blocks -/
def Rg (B : Nat) (w : World) (b : Nat) (L : List Int) : Prop := ∃ W R, RgAt w b W R L ∧ ∀ j, R j → B ≤ j
theorem Rg.keep {B : Nat} {w w' : World} {b : Nat} {L : List Int} (h : Rg B w b L) (k : Below w.heap.size w w') : Rg B w' b L := by
  obtain ⟨W, R, h, hr⟩ := h
  exact ⟨W, R, h.keep k, hr⟩
theorem Rg.ok {B : Nat} {w : World} {b : Nat} {L : List Int} (h : Rg B w b L) : okR L := by
  obtain ⟨W, R, h, hr⟩ := h
  exact h.ok
theorem rg_new {B : Nat} {w w' : World} {b : Nat} {W R : Nat → Prop} (h : RgAt w' b W R []) (hr : ∀ j, R j → w.heap.size ≤ j) (hB : B ≤ w.heap.size) : Rg B w' b [] := ⟨W, R, h, fun j hj => Nat.le_trans hB (hr j hj)⟩
theorem Rg.step {B : Nat} {w w' : World} {b : Nat} {W R : Nat → Prop} {L L' : List Int} (h : RgAt w b W R L) (hr : ∀ j, R j → B ≤ j) (hB : B ≤ w.heap.size) (k : GStep W R w w' b L') : Rg B w' b L' ∧ Below B w w' := by
  obtain ⟨W', R', h', t, hw, hr'⟩ := k
  exact ⟨⟨W', R', h', fun j hj => by rcases hr' j hj with h1 | h1; exact hr j h1; omega⟩, t.below hB (fun j hj => hr j (h.sub hj))⟩
section
variable (B b : Nat) (L : List Int) (p : Int) (w : World)
theorem rg_add (h : Rg B w b L) (hB : B ≤ w.heap.size) (bp : 0 ≤ p ∧ p ≤ 4294967295) :
    Calls Try.prog 14 #[.pointer (some ⟨b, 0, none⟩), .int .u32 p] w fun e w' => e = .returned (.int .i64 (addR L p).2) ∧ Rg B w' b (addR L p).1 ∧ Below B w w' := by
  obtain ⟨W, R, h, hR⟩ := h
  exact (rgadd_any b W R L p w h bp).mono fun e w' ⟨he, hs⟩ => ⟨he, Rg.step h hR hB hs⟩
theorem rg_drop (h : Rg B w b L) (hB : B ≤ w.heap.size) (bp : 0 ≤ p ∧ p ≤ 4294967295) :
    Calls Try.prog 12 #[.pointer (some ⟨b, 0, none⟩), .int .u32 p] w fun e w' => e = .returned (.int .i64 (dropR L p).2) ∧ Rg B w' b (dropR L p).1 ∧ Below B w w' := by
  obtain ⟨W, R, h, hR⟩ := h
  exact (rgdrop_any b W R L p w h bp).mono fun e w' ⟨he, hs⟩ => ⟨he, Rg.step h hR hB hs⟩
theorem rg_has (h : Rg B w b L) (bp : 0 ≤ p ∧ p ≤ 4294967295) : Calls Try.prog 27 #[.pointer (some ⟨b, 0, none⟩), .int .u32 p] w fun e w' => e = .returned (.bool (L.contains p)) ∧ Below w.heap.size w w' := by
  obtain ⟨W, R, h, hR⟩ := h
  exact rghas_any b W R L p w h bp
theorem rg_owner (h : Rg B w b L) (bp : 0 ≤ p ∧ p ≤ 4294967295) : Calls Try.prog 17 #[.pointer (some ⟨b, 0, none⟩), .int .u32 p] w fun e w' => e = .returned (.tuple #[.int .u32 (ownR L p).1, .bool (ownR L p).2]) ∧ Below w.heap.size w w' := by
  obtain ⟨W, R, h, hR⟩ := h
  exact rgowner_any b W R L p w h bp
theorem rg_next (h : Rg B w b L) (bp : 0 ≤ p ∧ p ≤ 4294967295) : Calls Try.prog 19 #[.pointer (some ⟨b, 0, none⟩), .int .u32 p] w fun e w' => e = .returned (.tuple #[.int .u32 (nextR L p).1, .bool (nextR L p).2]) ∧ Below w.heap.size w w' := by
  obtain ⟨W, R, h, hR⟩ := h
  exact rgnext_any b W R L p w h bp
theorem rg_span (h : Rg B w b L) (bp : 0 ≤ p ∧ p ≤ 4294967295) : Calls Try.prog 21 #[.pointer (some ⟨b, 0, none⟩), .int .u32 p] w fun e w' => e = .returned (.tuple #[.agg #[.int .u32 (spanR L p).1.1, .int .u32 (spanR L p).1.2], .bool (spanR L p).2]) ∧ Below w.heap.size w w' := by
  obtain ⟨W, R, h, hR⟩ := h
  exact rgspan_any b W R L p w h bp
theorem rg_heirs (n : Int) (h : Rg B w b L) (bp : 0 ≤ p ∧ p ≤ 4294967295) (bn : -9223372036854775808 ≤ n ∧ n ≤ 9223372036854775807) : Calls Try.prog 25 #[.pointer (some ⟨b, 0, none⟩), .int .u32 p, .int .i64 n] w fun e w' => ∃ v, e = .returned v ∧ Rd (intE .u32) w' v (heirsR L p n) ∧ Below w.heap.size w w' := by
  obtain ⟨W, R, h, hR⟩ := h
  exact rgheirs_any b W R L p n w h bp bn
theorem rg_points (h : Rg B w b L) : Calls Try.prog 24 #[.pointer (some ⟨b, 0, none⟩)] w fun e w' => ∃ v, e = .returned v ∧ Rd (intE .u32) w' v L ∧ Below w.heap.size w w' := by
  obtain ⟨W, R, h, hR⟩ := h
  exact (rgpoints_any b W R L w h).mono fun e w' ⟨v, he, hv, _, hk⟩ => ⟨v, he, hv, hk⟩
end
set_option maxHeartbeats 2000000 in
theorem rgawake_any (w : World) : Calls Try.prog 11 #[] w fun e w' => e = .returned (.bool true) ∧ Below w.heap.size w w' := by
  go_enter Try.func11, Try.ntmps11
  go_wp2_with fail
  refine (rgnew_any w).mono ?_
  rintro e w1 ⟨b, W, R, rfl, hp, hr, hk⟩
  have HP := Lib.hid (rg_new (B := w.heap.size) hp hr (Nat.le_refl _))
  have HK := Lib.hid hk
  clear hp hr hk
  go_wp2_with fail
  refine (rg_add w.heap.size b [] 10 w1 HP.out HK.out.size (by omega)).mono ?_
  rw [show addR [] 10 = ([10], 0) from rfl]
  rintro e w2 ⟨rfl, hp, hk⟩
  have HP2 := Lib.hid hp
  have HK2 := Lib.hid (HK.out.trans hk)
  clear hp hk HP HK
  go_wp2_with fail
  refine (rg_add w.heap.size b [10] 20 w2 HP2.out HK2.out.size (by omega)).mono ?_
  rw [show addR [10] 20 = ([10, 20], 0) from rfl]
  rintro e w3 ⟨rfl, hp, hk⟩
  have HP3 := Lib.hid hp
  have HK3 := Lib.hid (HK2.out.trans hk)
  clear hp hk HP2 HK2
  go_wp2_with fail
  refine (rg_owner w.heap.size b [10, 20] 15 w3 HP3.out (by omega)).mono ?_
  rw [show ownR [10, 20] 15 = (20, true) from rfl]
  rintro e w4 ⟨rfl, hk⟩
  have HP4 := Lib.hid (HP3.out.keep hk)
  have HK4 := Lib.hid (nest HK3.out hk)
  clear hk HP3 HK3
  go_wp2_with fail
  refine (rg_points w.heap.size b [10, 20] w4 HP4.out).mono ?_
  rintro e w5 ⟨v, rfl, hv, hk⟩
  have HV := Lib.hid hv
  have HK5 := Lib.hid (nest HK4.out hk)
  obtain ⟨av, cv, rfl, _, _⟩ := hv.form
  clear hv hk HP4 HK4
  have hX := more (Below.refl w5.heap.size w5) (.cells #[.int .u32 10, .int .u32 20] 24)
  have HX := Lib.hid (Row.lit (E := intE .u32) (T := 24) 0 w5 #[.int .u32 10, .int .u32 20] [10, 20] 2 w5.heap.size rfl rfl rfl (Nat.zero_le _) (by simp [maxLen])).rd
  have HV6 := Lib.hid (HV.out.keep hX)
  have HK6 := Lib.hid (nest HK5.out hX)
  clear hX HV HK5
  go_wp2_with fail
  refine (plainU_yes _ _ [10, 20] _ HV6.out HX.out).mono ?_
  rintro e w7 ⟨rfl, hk⟩
  have HK7 := Lib.hid (nest HK6.out hk)
  clear hk HV6 HX HK6
  go_wp2_with fail
  go_ret
  exact ⟨rfl, HK7.out⟩
/-- is a number among them? -/
theorem any_step {l : List Int} {x : Int} {k : Nat} (hk : k < l.length) : (l.take (k + 1)).contains x = ((l.take k).contains x || (l.getD k 0 == x)) := by
  rw [List.take_add_one, List.getElem?_eq_getElem hk, Option.toList_some, show l.getD k 0 = l[k] by simp [List.getD, hk]]
  rw [Bool.eq_iff_iff, Bool.or_eq_true, List.contains_iff_mem, List.contains_iff_mem, List.mem_append, List.mem_singleton, beq_iff_eq]
  exact ⟨fun h => h.imp_right Eq.symm, fun h => h.imp_right Eq.symm⟩
set_option maxHeartbeats 2000000 in
theorem inU_any (v : Value) (l : List Int) (x : Int) (w : World) (h : Rd (intE .u32) w v l) :
    Calls Try.prog 28 #[v, .int .u32 x] w fun e w' => e = .returned (.bool (l.contains x)) ∧ Below w.heap.size w w' := by
  obtain ⟨a, g, o, c, rfl, hc, hm, ha, k1⟩ := Mem.Rd.loopI h
  have hm' : c ≤ 9223372036854775807 := hm
  have HA := Lib.hid ha
  have HC := Lib.hid k1
  obtain ⟨RES, hRES⟩ : ∃ r, r = l.contains x := ⟨_, rfl⟩
  rw [← hRES]
  have HRES := Lib.hid hRES
  clear h ha k1 hm hRES
  go_enter Try.func28, Try.ntmps28
  go_wp2_with fail
  go_loopw [5] (fun i wr => ∃ k : Nat, k ≤ l.length ∧ i = .int .i64 k ∧ (l.take k).contains x = false ∧ Below w.heap.size w wr) (fun i _ => l.length - (intOf i).toNat)
  case atStart => exact ⟨0, Nat.zero_le _, rfl, rfl, Below.refl _ _⟩
  case round =>
    obtain ⟨k, hk, rfl, hu, hb⟩ := hrel
    have HU := Lib.hid hu
    have HB := Lib.hid hb
    clear hu
    by_cases hlt : k < l.length
    · obtain ⟨rfl, hg⟩ := HA.out (by omega)
      have d0 := kc hb (HC.out k hlt)
      have HST := Lib.hid (any_step (x := x) hlt)
      have HIN : Hid (l.getD k 0 = x → l.contains x = true) := Lib.hid (fun e => by rw [← e, show l.getD k 0 = l[k] by simp [List.getD, hlt]]; simp)
      obtain ⟨y, hy⟩ : ∃ y, y = l.getD k 0 := ⟨_, rfl⟩
      rw [← hy] at d0 HST HIN
      have hkl : (k : Int) < (l.length : Int) := by omega
      clear hy hb hg
      by_cases e : y = x
      · have HR : Hid (RES = true) := Lib.hid (by rw [HRES.out]; exact HIN.out e)
        subst e
        go_wp2_with fail
        go_ret
        exact ⟨by rw [HR.out]; rfl, HB.out⟩
      · have n1 : (y == x) = false := beq_eq_false_iff_ne.2 e
        have HN : Hid ((l.take (k + 1)).contains x = false) := Lib.hid (by rw [HST.out, HU.out, n1]; rfl)
        go_wp2_with fail
        exact ⟨⟨k + 1, by omega, by go_num, HN.out, HB.out⟩, by simp [intOf]; omega⟩
    · have hkl : k = l.length := by omega
      subst hkl
      have HR : Hid (RES = false) := Lib.hid (by rw [HRES.out]; have := HU.out; rwa [List.take_length] at this)
      clear hb
      go_wp2_with fail
      go_ret
      exact ⟨by rw [HR.out]; rfl, HB.out⟩
end Go.Proofs.Ytpgljdngbiicmaa
