/- For every input the law CoverApart answers true: no conditions. -/
import Derived.Test.YtbdijeekekaibaaCoverApart
import Derived.Test.YtbdijeekekaibaaOpen
import Derived.Test.YtbdijeekekaibaaOpenRows
namespace Go.Proofs.Ytbdijeekekaibaa.coverApart
open Go.ChangeShapes Go.WideShapes Go.ChangeAt Go.RowKit

set_option maxRecDepth 100000 in
theorem lifted (os : Os) (started : os.Started) (H : Type) (enc : TypeId × Value → H) :
    ReturnsInHanded {} Try.checked os 7 .any (Rows.coverApartSpec.pre6 enc Try.prog Try.f7 [] false) (Rows.coverApartSpec.post enc Try.prog Try.f7 false true false false) := by
  refine law_lift (C := Try.checked) own started (by kernel_rfl) Try.func7
    (ChangeSpec.witness6 (enc := enc) (C := Try.checked) false ⟨#[], #[.agg #[.int .u32 0, .int .u32 0], .slice none 0 0], []⟩ 8 (by kernel_rfl) (by kernel_rfl) (by kernel_rfl) (by kernel_rfl))
    rfl (fun l hl => by match l, hl with | [_, _], _ => rfl) laidOut (by kernel_rfl) (by kernel_rfl) Try.underlying4 ?_
  intro W base args ds p hval hA _
  have hval : ∀ (j : Nat) t v, Try.f7.params[j]? = some t → args[j]? = some v → Value.okWide Try.prog W .any base t v := hval
  have hA : DataW.TrodAll enc Try.prog W 0 (fun _ => true) true Try.f7.params.toList args.toList ds p := hA
  rw [Try.params7] at hA hval
  obtain ⟨v0, vs0, d0, ds0, p0, q0, hargs, rfl, rfl, h0, r0⟩ := trodAll_cons hA
  obtain ⟨v1, vs1, d1, ds1, p1, q1, rfl, rfl, rfl, h1, r1⟩ := trodAll_cons r0
  obtain ⟨rfl, rfl, rfl⟩ := trodAll_nil r1
  obtain rfl : args = #[v0, v1] := by cases args; simp_all
  obtain ⟨f0, t0, rfl, bf0, bt0⟩ := open_span (hval 0 24 v0 rfl rfl) h0
  obtain ⟨l1, rd1, wf1⟩ := open_rd_pairs Try.underlying25 Try.underlying24 Try.underlying22 Try.underlying22 (by kernel_rfl) (by kernel_rfl) (hval 1 25 v1 rfl rfl) h1
  exact walk f0 t0 bf0 bt0 v1 l1 W rd1 (fun x hx => ⟨bd32 (wf1 x hx).1, bd32 (wf1 x hx).2⟩)

theorem proved : Rows.CoverApartSaid :=
  OpenClaim.holds_of_wide 7 Try.f7 rfl rfl rfl rfl rfl rfl rfl ⟨rfl, rfl, rfl, rfl, rfl⟩ rfl rfl rfl rfl rfl (by kernel_rfl) Try.func7 (by kernel_rfl)
    (of_decide_eq_true (by kernel_rfl)) (by unfold Func.isWrapper; rw [if_neg (of_decide_eq_false (by kernel_rfl))]; exact ⟨rfl, rfl⟩)
    (fun os started H enc _ => lifted os started H enc)
end Go.Proofs.Ytbdijeekekaibaa.coverApart
