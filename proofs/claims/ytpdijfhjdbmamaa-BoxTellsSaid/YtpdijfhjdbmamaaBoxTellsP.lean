/- For every input the law BoxTells answers true: no conditions. -/
import Derived.Test.YtpdijfhjdbmamaaBoxTells
import Derived.Test.YtpdijfhjdbmamaaOpen
import Derived.Test.YtpdijfhjdbmamaaOpenRows
import Derived.Test.YtpdijfhjdbmamaaBoxOpen
namespace Go.Proofs.Ytpdijfhjdbmamaa.boxTells
open Go.ChangeShapes Go.WideShapes Go.ChangeAt Go.RowKit

set_option maxRecDepth 100000 in
theorem lifted (os : Os) (started : os.Started) (H : Type) (enc : TypeId × Value → H) :
    ReturnsInHanded {} Try.checked os 3 .any (Rows.boxTellsSpec.pre6 enc Try.prog Try.f3 [] false) (Rows.boxTellsSpec.post enc Try.prog Try.f3 false true false false) := by
  refine law_lift (C := Try.checked) own started (by kernel_rfl) Try.func3
    (ChangeSpec.witness6 (enc := enc) (C := Try.checked) false ⟨#[], #[.int .i64 0, .slice none 0 0, .slice none 0 0, .agg #[.int .i64 0, .int .u32 0, .int .u32 0], .int .u32 0], []⟩ 8 (by kernel_rfl) (by kernel_rfl) (by kernel_rfl) (by kernel_rfl))
    rfl (fun l hl => by match l, hl with | [_, _, _, _, _], _ => rfl) laidOut (by kernel_rfl) (by kernel_rfl) Try.underlying4 ?_
  intro W base args ds p hval hA _
  have hval : ∀ (j : Nat) t v, Try.f3.params[j]? = some t → args[j]? = some v → Value.okWide Try.prog W .any base t v := hval
  have hA : DataW.TrodAll enc Try.prog W 0 (fun _ => true) true Try.f3.params.toList args.toList ds p := hA
  rw [Try.params3] at hA hval
  obtain ⟨v0, vs0, d0, ds0, p0, q0, hargs, rfl, rfl, h0, r0⟩ := trodAll_cons hA
  obtain ⟨v1, vs1, d1, ds1, p1, q1, rfl, rfl, rfl, h1, r1⟩ := trodAll_cons r0
  obtain ⟨v2, vs2, d2, ds2, p2, q2, rfl, rfl, rfl, h2, r2⟩ := trodAll_cons r1
  obtain ⟨v3, vs3, d3, ds3, p3, q3, rfl, rfl, rfl, h3, r3⟩ := trodAll_cons r2
  obtain ⟨v4, vs4, d4, ds4, p4, q4, rfl, rfl, rfl, h4, r4⟩ := trodAll_cons r3
  obtain ⟨rfl, rfl, rfl⟩ := trodAll_nil r4
  obtain rfl : args = #[v0, v1, v2, v3, v4] := by cases args; simp_all
  obtain ⟨a0, rfl, rfl, rfl, w0⟩ := open_int Try.underlying3 (hval 0 3 v0 rfl rfl) h0
  obtain ⟨l1, hk1⟩ := Mem.open_kd Try.underlying22 opens_ranges (hval 1 22 v1 rfl rfl) h1
  obtain ⟨rd1, wr1⟩ := Mem.kd_trips hk1
  obtain ⟨l2, rd2, wf2⟩ := open_rd_ints Try.underlying23 Try.underlying24 (by kernel_rfl) (hval 2 23 v2 rfl rfl) h2
  obtain ⟨cs3, rfl, ⟨k3, a3, b3⟩, hy3⟩ := Mem.open_kd_struct Try.underlying26 opens_range (hval 3 26 v3 rfl rfl) h3
  obtain ⟨rfl, wk3, wa3, wb3⟩ := range_cells hy3
  obtain ⟨a4, rfl, rfl, rfl, w4⟩ := open_int Try.underlying24 (hval 4 24 v4 rfl rfl) h4
  exact walk a0 (bd64 w0) v1 l1 v2 l2 k3 a3 b3 (bd64 wk3) (bd32 wa3) (bd32 wb3) a4 (bd32 w4) W rd1 (fun x hx => ⟨bd64 (wr1 x hx).1, bd32 (wr1 x hx).2.1, bd32 (wr1 x hx).2.2⟩) rd2 (fun x hx => bd32 (wf2 x hx))

theorem proved : Rows.BoxTellsSaid :=
  OpenClaim.holds_of_wide 3 Try.f3 rfl rfl rfl rfl rfl rfl rfl ⟨rfl, rfl, rfl, rfl, rfl⟩ rfl rfl rfl rfl rfl (by kernel_rfl) Try.func3 (by kernel_rfl)
    (of_decide_eq_true (by kernel_rfl)) (by unfold Func.isWrapper; rw [if_neg (of_decide_eq_false (by kernel_rfl))]; exact ⟨rfl, rfl⟩)
    (fun os started H enc _ => lifted os started H enc)
end Go.Proofs.Ytpdijfhjdbmamaa.boxTells
