/- For every input the law BoxMatches answers true: no conditions. -/
import Derived.Test.YtpdijfhjdbmamaaBoxMatches
import Derived.Test.YtpdijfhjdbmamaaOpen
import Derived.Test.YtpdijfhjdbmamaaOpenRows
import Derived.Test.YtpdijfhjdbmamaaBoxOpen
namespace Go.Proofs.Ytpdijfhjdbmamaa.boxMatches
open Go.ChangeShapes Go.WideShapes Go.ChangeAt Go.RowKit

set_option maxRecDepth 100000 in
theorem lifted (os : Os) (started : os.Started) (H : Type) (enc : TypeId × Value → H) :
    ReturnsInHanded {} Try.checked os 6 .any (Rows.boxMatchesSpec.pre6 enc Try.prog Try.f6 [] false) (Rows.boxMatchesSpec.post enc Try.prog Try.f6 false true false false) := by
  refine law_lift (C := Try.checked) own started (by kernel_rfl) Try.func6
    (ChangeSpec.witness6 (enc := enc) (C := Try.checked) false ⟨#[], #[.slice none 0 0, .slice none 0 0], []⟩ 8 (by kernel_rfl) (by kernel_rfl) (by kernel_rfl) (by kernel_rfl))
    rfl (fun l hl => by match l, hl with | [_, _], _ => rfl) laidOut (by kernel_rfl) (by kernel_rfl) Try.underlying4 ?_
  intro W base args ds p hval hA _
  have hval : ∀ (j : Nat) t v, Try.f6.params[j]? = some t → args[j]? = some v → Value.okWide Try.prog W .any base t v := hval
  have hA : DataW.TrodAll enc Try.prog W 0 (fun _ => true) true Try.f6.params.toList args.toList ds p := hA
  rw [Try.params6] at hA hval
  obtain ⟨v0, vs0, d0, ds0, p0, q0, hargs, rfl, rfl, h0, r0⟩ := trodAll_cons hA
  obtain ⟨v1, vs1, d1, ds1, p1, q1, rfl, rfl, rfl, h1, r1⟩ := trodAll_cons r0
  obtain ⟨rfl, rfl, rfl⟩ := trodAll_nil r1
  obtain rfl : args = #[v0, v1] := by cases args; simp_all
  obtain ⟨l0, hk0⟩ := Mem.open_kd Try.underlying22 opens_ranges (hval 0 22 v0 rfl rfl) h0
  obtain ⟨rd0, wr0⟩ := Mem.kd_trips hk0
  obtain ⟨l1, rd1, wf1⟩ := open_rd_ints Try.underlying23 Try.underlying24 (by kernel_rfl) (hval 1 23 v1 rfl rfl) h1
  exact walk v0 l0 v1 l1 W rd0 (fun x hx => ⟨bd64 (wr0 x hx).1, bd32 (wr0 x hx).2.1, bd32 (wr0 x hx).2.2⟩) rd1 (fun x hx => bd32 (wf1 x hx))

theorem proved : Rows.BoxMatchesSaid :=
  OpenClaim.holds_of_wide 6 Try.f6 rfl rfl rfl rfl rfl rfl rfl ⟨rfl, rfl, rfl, rfl, rfl⟩ rfl rfl rfl rfl rfl (by kernel_rfl) Try.func6 (by kernel_rfl)
    (of_decide_eq_true (by kernel_rfl)) (by unfold Func.isWrapper; rw [if_neg (of_decide_eq_false (by kernel_rfl))]; exact ⟨rfl, rfl⟩)
    (fun os started H enc _ => lifted os started H enc)
end Go.Proofs.Ytpdijfhjdbmamaa.boxMatches
