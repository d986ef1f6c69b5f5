/- Walk of the dice laws' awake. -/
import Derived.Test.YthhelhhlofdehaaDiceOwn
set_option maxRecDepth 4000
namespace Go.Proofs.Ythhelhhlofdehaa
open Go.RowKit Mem
set_option linter.unusedSimpArgs false
set_option linter.unusedVariables false
attribute [local irreducible] Go.Calls

theorem DAt.other {w w' : World} {b d : Nat} {s : Int} (h : DAt w b s) (k : Only d w w') (hne : b ≠ d) : DAt w' b s := h.only k hne
theorem droll_one (s : Int) : droll s 1 = 0 := by unfold droll; rw [if_neg (by decide)]; omega
set_option maxHeartbeats 1000000 in
theorem dawake_any (w : World) : Calls Try.prog 22 #[] w fun e w' => e = .returned (.bool true) ∧ Below w.heap.size w w' := by
  go_enter Try.func22, Try.ntmps22
  go_wp2_with fail
  refine (dnew_any 1 (by omega) w).mono ?_
  rintro e w1 ⟨b, rfl, hb, hd, hk⟩
  have hX := more (Below.refl w1.heap.size w1) (.cells #[.int .u64 1] 57)
  have HD := Lib.hid (hd.keep hX)
  have HR := Lib.hid (Blk.new w1 57 #[.int .u64 1])
  have HX := Lib.hid (nest hk hX)
  have hlt := hd.lt
  clear hd hk hX
  go_wp2_with fail
  generalize w1.alloc (.cells #[.int .u64 1] 57) = w2 at *
  refine (dstep_any b 1 (by omega) w2 HD.out).mono ?_
  rintro e w3 ⟨rfl, hd, ho⟩
  have HR3 := Lib.hid (HR.out.only ho (by omega))
  have HD3 := Lib.hid hd
  have HX3 := Lib.hid (HX.out.trans (ho.below hb HX.out.size))
  clear hd ho HD HR HX
  go_wp2_with fail
  refine (rdstep_any _ 1 (by omega) w3 HR3.out).mono ?_
  rintro e w4 ⟨rfl, hr, ho⟩
  have HD4 := Lib.hid (HD3.out.only ho (by omega))
  have HX4 := Lib.hid (HX3.out.trans (ho.below (by omega) HX3.out.size))
  clear hr ho HD3 HR3 HX3
  go_wp2_with fail
  refine (ddroll_any b _ (dnext_bd 1) 1 (by omega) w4 HD4.out).mono ?_
  rintro e w5 ⟨rfl, hd, ho⟩
  rw [droll_one]
  have HX5 := Lib.hid (HX4.out.trans (ho.below hb HX4.out.size))
  clear hd ho
  go_wp2_with fail
  go_ret
  exact ⟨rfl, HX5.out⟩
end Go.Proofs.Ythhelhhlofdehaa
