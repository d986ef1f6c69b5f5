/- For every input the law EstimateTells answers true: no conditions. -/
import Derived.Test.YthdcgobdcdfefaaEstimateTells
import Derived.Test.YthdcgobdcdfefaaMem
import Derived.Test.YthdcgobdcdfefaaBoxOpen
set_option maxRecDepth 4000
namespace Go.Proofs.Ythdcgobdcdfefaa.estimateTells
open Go.ChangeShapes Go.WideShapes Go.ChangeAt Go.RowKit

set_option maxRecDepth 100000 in
theorem lifted (os : Os) (started : os.Started) (H : Type) (enc : TypeId × Value → H) :
    ReturnsInHanded {} Try.checked os 3 .any (Rows.estimateTellsSpec.pre6 enc Try.prog Try.f3 [] false) (Rows.estimateTellsSpec.post enc Try.prog Try.f3 false true false false) := by
  refine law_lift (C := Try.checked) own started (by kernel_rfl) Try.func3
    (ChangeSpec.witness6 (enc := enc) (C := Try.checked) false ⟨#[], #[.agg #[.int .u32 0, .int .u32 0, .int .u32 0, .int .u32 0, .int .u32 0, .int .u32 0, .int .u32 0, .int .u32 0, .int .u32 0, .int .u32 0, .int .u32 0, .int .u32 0, .int .u32 0, .int .u32 0, .int .u32 0, .int .u32 0], .agg #[.int .i64 0, .int .u32 0, .int .u32 0], .slice none 0 0, .slice none 0 0], []⟩ 8 (by kernel_rfl) (by kernel_rfl) (by kernel_rfl) (by kernel_rfl))
    rfl (fun l hl => by match l, hl with | [_, _, _, _], _ => rfl) laidOut (by kernel_rfl) (by kernel_rfl) Try.underlying4 ?_
  intro W base args ds p hval hA _
  have hval : ∀ (j : Nat) t v, Try.f3.params[j]? = some t → args[j]? = some v → Value.okWide Try.prog W .any base t v := hval
  have hA : DataW.TrodAll enc Try.prog W 0 (fun _ => true) true Try.f3.params.toList args.toList ds p := hA
  rw [Try.params3] at hA hval
  obtain ⟨v0, vs0, d0, ds0, p0, q0, hargs, rfl, rfl, h0, r0⟩ := trodAll_cons hA
  obtain ⟨v1, vs1, d1, ds1, p1, q1, rfl, rfl, rfl, h1, r1⟩ := trodAll_cons r0
  obtain ⟨v2, vs2, d2, ds2, p2, q2, rfl, rfl, rfl, h2, r2⟩ := trodAll_cons r1
  obtain ⟨v3, vs3, d3, ds3, p3, q3, rfl, rfl, rfl, h3, r3⟩ := trodAll_cons r2
  obtain ⟨rfl, rfl, rfl⟩ := trodAll_nil r3
  obtain rfl : args = #[v0, v1, v2, v3] := by cases args; simp_all
  obtain ⟨x0, rfl, wl0, wf0⟩ := Mem.open_kd_vec Try.underlying24 opens_den (hval 0 24 v0 rfl rfl) h0
  obtain ⟨cs1, rfl, ⟨k1, a1, b1⟩, hy1⟩ := Mem.open_kd_struct Try.underlying26 opens_range (hval 1 26 v1 rfl rfl) h1
  obtain ⟨rfl, wk1, wa1, wb1⟩ := range_cells hy1
  obtain ⟨l2, hk2⟩ := Mem.open_kd Try.underlying27 opens_dens (hval 2 27 v2 rfl rfl) h2
  obtain ⟨l3, hk3⟩ := Mem.open_kd Try.underlying28 opens_ranges (hval 3 28 v3 rfl rfl) h3
  obtain ⟨rd3, wr3⟩ := Mem.kd_trips hk3
  exact walk x0 ⟨wl0, fun y hy => bd32 (wf0 y hy)⟩ k1 a1 b1 (bd64 wk1) (bd32 wa1) (bd32 wb1) v2 l2 v3 l3 W hk2 rd3 (fun x hx => ⟨bd64 (wr3 x hx).1, bd32 (wr3 x hx).2.1, bd32 (wr3 x hx).2.2⟩)

theorem proved : Rows.EstimateTellsSaid :=
  OpenClaim.holds_of_wide 3 Try.f3 rfl rfl rfl rfl rfl rfl rfl ⟨rfl, rfl, rfl, rfl, rfl⟩ rfl rfl rfl rfl rfl (by kernel_rfl) Try.func3 (by kernel_rfl)
    (of_decide_eq_true (by kernel_rfl)) (by unfold Func.isWrapper; rw [if_neg (of_decide_eq_false (by kernel_rfl))]; exact ⟨rfl, rfl⟩)
    (fun os started H enc _ => lifted os started H enc)
end Go.Proofs.Ythdcgobdcdfefaa.estimateTells
