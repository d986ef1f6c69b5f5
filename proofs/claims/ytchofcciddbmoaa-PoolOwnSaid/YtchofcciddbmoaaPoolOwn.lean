/- Walk of the law PoolOwn. -/
import Derived.Test.YtchofcciddbmoaaPoolAwake
set_option maxRecDepth 4000
namespace Go.Proofs.Ytchofcciddbmoaa.poolOwn
open Go.RowKit Mem
set_option linter.unusedSimpArgs false
set_option linter.unusedVariables false
attribute [local irreducible] Go.Calls

set_option maxHeartbeats 2000000 in
theorem walk (v : Value) (l : List Int) (w : World) (h : Rd (intE .u8) w v l) (bl : ∀ x ∈ l, 0 ≤ x ∧ x ≤ 255) :
    Calls Try.prog 6 #[v] w fun e w' => e = .returned (.bool true) ∧ Below w.heap.size w w' := by
  obtain ⟨a, c, rfl, hc1, hm1⟩ := h.form
  have hm1' : c ≤ 9223372036854775807 := hm1
  have H := Lib.hid h
  have BL := Lib.hid bl
  clear h bl
  have hcase : l.length = 0 ∨ l.length > 50 ∨ (0 < l.length ∧ l.length ≤ 50) := by omega
  rcases hcase with h0 | h50 | ⟨hp0, hp50⟩
  · have e0 : ((l.length : Int) == 0) = true := by simp [h0]
    go_enter Try.func6, Try.ntmps6
    go_wp2_with fail
    refine (pawake_any w).mono ?_
    rintro e w1 ⟨rfl, hk1⟩
    go_wp2_with fail
    go_ret
    exact ⟨rfl, hk1⟩
  · have e0 : ((l.length : Int) == 0) = false := beq_eq_false_iff_ne.2 (by omega)
    have e1 : (l.length : Int) > 50 := by omega
    go_enter Try.func6, Try.ntmps6
    go_wp2_with fail
    refine (pawake_any w).mono ?_
    rintro e w1 ⟨rfl, hk1⟩
    go_wp2_with fail
    go_ret
    exact ⟨rfl, hk1⟩
  have e0 : ((l.length : Int) == 0) = false := beq_eq_false_iff_ne.2 (by omega)
  have e1 : ¬ (l.length : Int) > 50 := by omega
  go_enter Try.func6, Try.ntmps6
  go_wp2_with fail
  refine (pnew_any w).mono ?_
  rintro e w1 ⟨b, W, R, rfl, hp, hr, hk⟩
  have HP := Lib.hid (po_new (B := w.heap.size) hp hr (Nat.le_refl _))
  have HK := Lib.hid hk
  have H1 := Lib.hid (H.out.keep hk)
  clear hp hr hk
  go_wp2_with fail
  refine (po_push w.heap.size b [] _ l w1 HP.out HK.out.size H1.out (by unfold pmax; omega) BL.out (by simp)).mono ?_
  rintro e w2 ⟨rfl, hp, hb⟩
  rw [List.nil_append] at hp
  have HP2 := Lib.hid hp
  have HK2 := Lib.hid (HK.out.trans hb)
  clear hp hb HP HK
  go_wp2_with fail
  refine (po_peek w.heap.size b [l] 0 w2 HP2.out (by simp)).mono ?_
  rintro e w3 ⟨x, rfl, hx, hk⟩
  have hx : Own8 w2.heap.size w3 x l := hx
  obtain ⟨hxr, gx, cx, rfl, hgx, hglt, hcx, hmx, hfz⟩ := hx
  have hfz := hfz 0 hp0
  obtain ⟨gy, oy, cy, hvy, _, _, hcy⟩ := Mem.Rd.ints hxr hp0
  injection hvy with f1 f2 f3
  injection f1 with f1
  injection f1 with f1 f4
  subst f1 f4
  have hc0 : w3.cell? ⟨gx, 0, none⟩ = some (.int .u8 (l.getD 0 0)) := by have := hcy 0 hp0; simpa using this
  have hb5 : Below w2.heap.size w2 (w3.setCell ⟨gx, 0, none⟩ (.int .u8 (bits .xor .u8 (l.getD 0 0) 1))) := hk.setCell hgx _
  have HP5 := Lib.hid (HP2.out.keep hb5)
  have HK5 := Lib.hid (nest HK2.out hb5)
  have H5 := Lib.hid (H.out.keep HK5.out)
  clear hxr hk hcy f2 f3 hb5
  have hpn : (l.length : Int) ≠ 0 := by omega
  have hpl : (0 : Int) < l.length := by omega
  generalize l.getD 0 0 = q at *
  go_wp2_with fail
  refine (po_peek w.heap.size b [l] 0 _ HP5.out (by simp)).mono ?_
  rintro e w4 ⟨y, rfl, hy, hk⟩
  have HY := Lib.hid hy.1
  have HK6 := Lib.hid (nest HK5.out hk)
  have H6 := Lib.hid (H5.out.keep hk)
  clear hk hy
  go_wp2_with fail
  refine (pawake_any w4).mono ?_
  rintro e w5 ⟨rfl, hk⟩
  have HY7 := Lib.hid (HY.out.keep hk)
  have HK7 := Lib.hid (nest HK6.out hk)
  have H7 := Lib.hid (H6.out.keep hk)
  clear hk
  go_wp2_with fail
  refine (bytes_yes _ _ l w5 HY7.out H7.out).mono ?_
  rintro e w6 ⟨rfl, hk⟩
  have HK8 := Lib.hid (nest HK7.out hk)
  clear hk
  go_wp2_with fail
  go_ret
  exact ⟨rfl, HK8.out⟩
end Go.Proofs.Ytchofcciddbmoaa.poolOwn
