/- Walk of the cover laws' awake. -/
import Derived.Test.YtbdijeekekaibaaCover5
import Derived.Test.YtbdijeekekaibaaCoverLawPlans
import Derived.Test.YtbdijeekekaibaaSame
namespace Go.Proofs.Ytbdijeekekaibaa
open Go.RowKit Cir Mem
set_option linter.unusedSimpArgs false
set_option linter.unusedVariables false
attribute [local irreducible] Go.Calls

theorem aw1 : beh 0 10 = 10 := by unfold beh; decide
theorem aw2 : addL (prts 0 10 2 5) [(0, 10)] = [(0, 2), (5, 10)] := by decide +kernel
theorem aw3 : sumL [(0, 10)] - sumL [(0, 2), (5, 10)] = 3 := by decide +kernel
theorem aw4 : [((0 : Int), (2 : Int)), (5, 10)].map (spanP 0) = [(0, 2), (5, 10)] := by decide +kernel
theorem aw5 : sumL [(0, 2), (5, 10)] = 7 := by decide +kernel
theorem aw6 : Norm 10 0 [(0, 2), (5, 10)] := by simp [Norm]
theorem aw7 : Norm 10 0 [(0, 10)] := by simp [Norm]

set_option maxHeartbeats 1000000 in
theorem cawake_any (w : World) : Calls Try.prog 9 #[] w fun e w' => e = .returned (.bool true) ∧ Below w.heap.size w w' := by
  go_enter Try.func9, Try.ntmps9
  go_wp2_with fail
  refine (cnew_any 0 10 w).mono ?_
  rintro e w1 ⟨b, rfl, hc1, hk1⟩
  rw [aw1] at hc1
  have hbb := hc1.1
  go_wp2_with fail
  refine (cadd_any w.heap.size b 0 10 2 5 (by omega) (by omega) (by omega) (by omega) _ w1 hc1 (by rw [aw1]; exact aw7) (by simp)).mono ?_
  rintro e w2 ⟨rfl, hc2, ho2⟩
  rw [aw2] at hc2 ⊢
  rw [aw3]
  have hk2 : Below w.heap.size w w2 := hk1.trans (ho2.below hbb hk1.size)
  clear hc1 ho2
  go_wp2_with fail
  refine (cgaps_any w.heap.size b 0 10 10 _ w2 hc2 aw6 (by omega) (by simp)).mono ?_
  rintro e w3 ⟨v3, rfl, hr3, hk3⟩
  rw [aw4] at hr3
  have hc3 := hc2.keep hk3
  have hk4 := hk2.trans (hk3.mono hk2.size)
  clear hc2
  go_wp2_with fail
  have hX : Below w3.heap.size w3 (w3.alloc (Obj.cells #[Value.int IntKind.u32 0, Value.int IntKind.u32 2, Value.int IntKind.u32 5, Value.int IntKind.u32 10] 24)) := more (Below.refl _ _) _
  have hr4 : Row (pairE .u32) 24 w3.heap.size (w3.alloc (Obj.cells #[Value.int IntKind.u32 0, Value.int IntKind.u32 2, Value.int IntKind.u32 5, Value.int IntKind.u32 10] 24)) (.slice (some ⟨w3.heap.size, 0, none⟩) 2 2) [(0, 2), (5, 10)] :=
    Row.lit _ _ _ _ _ _ rfl rfl rfl (Nat.le_refl _) (by simp [maxLen])
  have hc4 := hc3.keep hX
  have hk5 := hk4.trans (hX.mono hk4.size)
  refine (plain_yes _ _ v3 _ [(0, 2), (5, 10)] (by simp) _ (hr3.keep hX) hr4).mono ?_
  rintro e w4 ⟨rfl, hk6⟩
  have hc5 := hc4.keep hk6
  have hk7 := hk5.trans (hk6.mono hk5.size)
  clear hc3 hc4 hr3 hr4 hk3 hX hk1 hk2 hk4 hk5 hk6
  go_wp2_with fail
  refine (cwhole_any w.heap.size b 0 10 _ w4 hc5).mono ?_
  rintro e w5 ⟨rfl, hk8⟩
  have hc6 := hc5.keep hk8
  have hk9 := hk7.trans (hk8.mono hk7.size)
  go_wp2_with fail
  refine (cleft_any w.heap.size b 0 10 10 _ w5 hc6 aw6 (by omega)).mono ?_
  rintro e w6 ⟨rfl, hk10⟩
  rw [aw5]
  have hk11 := hk9.trans (hk10.mono hk9.size)
  go_wp2_with fail
  go_ret
  exact ⟨rfl, hk11⟩
end Go.Proofs.Ytbdijeekekaibaa
