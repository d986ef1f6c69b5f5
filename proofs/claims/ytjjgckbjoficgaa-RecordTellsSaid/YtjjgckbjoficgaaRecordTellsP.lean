/- For every input the law RecordTells answers true: no conditions. -/
import Derived.Test.YtjjgckbjoficgaaRecordTells
import Derived.Test.YtjjgckbjoficgaaOpen
import Derived.Test.YtjjgckbjoficgaaOpenRows
import Derived.Test.YtjjgckbjoficgaaRecOpen
namespace Go.Proofs.Ytjjgckbjoficgaa.recordTells
open Go.ChangeShapes Go.WideShapes Go.ChangeAt Go.RowKit

set_option maxRecDepth 100000 in
theorem lifted (os : Os) (started : os.Started) (H : Type) (enc : TypeId × Value → H) :
    ReturnsInHanded {} Try.checked os 3 .any (Rows.recordTellsSpec.pre6 enc Try.prog Try.f3 [] false) (Rows.recordTellsSpec.post enc Try.prog Try.f3 false true false false) := by
  refine law_lift (C := Try.checked) own started (by kernel_rfl) Try.func3
    (ChangeSpec.witness6 (enc := enc) (C := Try.checked) false ⟨#[], #[.int .i64 0, .agg #[.int .u32 0, .int .u64 0, .int .u64 0, .slice none 0 0, .bool false], .agg #[.int .u32 0, .int .u64 0, .int .u64 0, .slice none 0 0, .bool false], .int .i64 0, .int .u32 0], []⟩ 8 (by kernel_rfl) (by kernel_rfl) (by kernel_rfl) (by kernel_rfl))
    rfl (fun l hl => by match l, hl with | [_, _, _, _, _], _ => rfl) laidOut (by kernel_rfl) (by kernel_rfl) Try.underlying4 ?_
  intro W base args ds p hval hA _
  have hval : ∀ (j : Nat) t v, Try.f3.params[j]? = some t → args[j]? = some v → Value.okWide Try.prog W .any base t v := hval
  have hA : DataW.TrodAll enc Try.prog W 0 (fun _ => true) true Try.f3.params.toList args.toList ds p := hA
  rw [Try.params3] at hA hval
  obtain ⟨v0, vs0, d0, ds0, p0, q0, hargs, rfl, rfl, h0, r0⟩ := trodAll_cons hA
  obtain ⟨v1, vs1, d1, ds1, p1, q1, rfl, rfl, rfl, h1, r1⟩ := trodAll_cons r0
  obtain ⟨v2, vs2, d2, ds2, p2, q2, rfl, rfl, rfl, h2, r2⟩ := trodAll_cons r1
  obtain ⟨v3, vs3, d3, ds3, p3, q3, rfl, rfl, rfl, h3, r3⟩ := trodAll_cons r2
  obtain ⟨v4, vs4, d4, ds4, p4, q4, rfl, rfl, rfl, h4, r4⟩ := trodAll_cons r3
  obtain ⟨rfl, rfl, rfl⟩ := trodAll_nil r4
  obtain rfl : args = #[v0, v1, v2, v3, v4] := by cases args; simp_all
  obtain ⟨a0, rfl, rfl, rfl, w0⟩ := open_int Try.underlying3 (hval 0 3 v0 rfl rfl) h0
  obtain ⟨cs1, rfl, ⟨x1, ⟨i1, u1, m1⟩, b1⟩, hy1⟩ := Mem.open_kd_struct Try.underlying28 opens_entry (hval 1 28 v1 rfl rfl) h1
  obtain ⟨s1, rfl, wx1, wi1, wu1, rd1, wm1⟩ := entry_cells hy1
  obtain ⟨cs2, rfl, ⟨x2, ⟨i2, u2, m2⟩, b2⟩, hy2⟩ := Mem.open_kd_struct Try.underlying28 opens_entry (hval 2 28 v2 rfl rfl) h2
  obtain ⟨s2, rfl, wx2, wi2, wu2, rd2, wm2⟩ := entry_cells hy2
  obtain ⟨a3, rfl, rfl, rfl, w3⟩ := open_int Try.underlying3 (hval 3 3 v3 rfl rfl) h3
  obtain ⟨a4, rfl, rfl, rfl, w4⟩ := open_int Try.underlying22 (hval 4 22 v4 rfl rfl) h4
  exact walk a0 (bd64 w0) x1 i1 u1 s1 m1 b1 (bd32 wx1) (bdu64 wi1) (bdu64 wu1) x2 i2 u2 s2 m2 b2 (bd32 wx2) (bdu64 wi2) (bdu64 wu2) a3 (bd64 w3) a4 (bd32 w4) W rd1 (fun x hx => bd32 (wm1 x hx)) rd2 (fun x hx => bd32 (wm2 x hx))

theorem proved : Rows.RecordTellsSaid :=
  OpenClaim.holds_of_wide 3 Try.f3 rfl rfl rfl rfl rfl rfl rfl ⟨rfl, rfl, rfl, rfl, rfl⟩ rfl rfl rfl rfl rfl (by kernel_rfl) Try.func3 (by kernel_rfl)
    (of_decide_eq_true (by kernel_rfl)) (by unfold Func.isWrapper; rw [if_neg (of_decide_eq_false (by kernel_rfl))]; exact ⟨rfl, rfl⟩)
    (fun os started H enc _ => lifted os started H enc)
end Go.Proofs.Ytjjgckbjoficgaa.recordTells
