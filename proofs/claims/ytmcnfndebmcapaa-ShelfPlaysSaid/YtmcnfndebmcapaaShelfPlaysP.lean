/- For every input the law ShelfPlays answers true: no conditions. -/
import Derived.Test.YtmcnfndebmcapaaShelfPlays
import Derived.Test.YtmcnfndebmcapaaMem
set_option maxRecDepth 4000
namespace Go.Proofs.Ytmcnfndebmcapaa.shelfPlays
open Go.ChangeShapes Go.WideShapes Go.ChangeAt Go.RowKit

set_option maxRecDepth 100000 in
theorem lifted (os : Os) (started : os.Started) (H : Type) (enc : TypeId × Value → H) :
    ReturnsInHanded {} Try.checked os 3 .any (Rows.shelfPlaysSpec.pre6 enc Try.prog Try.f3 [] false) (Rows.shelfPlaysSpec.post enc Try.prog Try.f3 false true false false) := by
  refine law_lift (C := Try.checked) own started (by kernel_rfl) Try.func3
    (ChangeSpec.witness6 (enc := enc) (C := Try.checked) false ⟨#[], #[.slice none 0 0, .agg #[.int .u32 0, .int .u32 0], .agg #[.int .u32 0, .int .u64 0]], []⟩ 8 (by kernel_rfl) (by kernel_rfl) (by kernel_rfl) (by kernel_rfl))
    rfl (fun l hl => by match l, hl with | [_, _, _], _ => rfl) laidOut (by kernel_rfl) (by kernel_rfl) Try.underlying4 ?_
  intro W base args ds p hval hA _
  have hval : ∀ (j : Nat) t v, Try.f3.params[j]? = some t → args[j]? = some v → Value.okWide Try.prog W .any base t v := hval
  have hA : DataW.TrodAll enc Try.prog W 0 (fun _ => true) true Try.f3.params.toList args.toList ds p := hA
  rw [Try.params3] at hA hval
  obtain ⟨v0, vs0, d0, ds0, p0, q0, hargs, rfl, rfl, h0, r0⟩ := trodAll_cons hA
  obtain ⟨v1, vs1, d1, ds1, p1, q1, rfl, rfl, rfl, h1, r1⟩ := trodAll_cons r0
  obtain ⟨v2, vs2, d2, ds2, p2, q2, rfl, rfl, rfl, h2, r2⟩ := trodAll_cons r1
  obtain ⟨rfl, rfl, rfl⟩ := trodAll_nil r2
  obtain rfl : args = #[v0, v1, v2] := by cases args; simp_all
  obtain ⟨l0, hk0⟩ := Mem.open_kd Try.underlying22 opens_sops (hval 0 22 v0 rfl rfl) h0
  obtain ⟨f1, t1, rfl, bf1, bt1⟩ := open_span (hval 1 25 v1 rfl rfl) h1
  obtain ⟨cs2, rfl, ⟨a2, b2⟩, hy2⟩ := Mem.open_kd_struct Try.underlying28 opens_key (hval 2 28 v2 rfl rfl) h2
  obtain ⟨rfl, wa2, wb2⟩ := key_cells hy2
  exact walk v0 l0 f1 t1 bf1 bt1 a2 b2 (bd32 wa2) (bdu64 wb2) W hk0

theorem proved : Rows.ShelfPlaysSaid :=
  OpenClaim.holds_of_wide 3 Try.f3 rfl rfl rfl rfl rfl rfl rfl ⟨rfl, rfl, rfl, rfl, rfl⟩ rfl rfl rfl rfl rfl (by kernel_rfl) Try.func3 (by kernel_rfl)
    (of_decide_eq_true (by kernel_rfl)) (by unfold Func.isWrapper; rw [if_neg (of_decide_eq_false (by kernel_rfl))]; exact ⟨rfl, rfl⟩)
    (fun os started H enc _ => lifted os started H enc)
end Go.Proofs.Ytmcnfndebmcapaa.shelfPlays
