/- For every input the law RecordNewer answers true: no conditions. -/
import Derived.Test.YtjjgckbjoficgaaRecordNewer
import Derived.Test.YtjjgckbjoficgaaOpen
import Derived.Test.YtjjgckbjoficgaaOpenRows
import Derived.Test.YtjjgckbjoficgaaRecOpen
namespace Go.Proofs.Ytjjgckbjoficgaa.recordNewer
open Go.ChangeShapes Go.WideShapes Go.ChangeAt Go.RowKit

set_option maxRecDepth 100000 in
theorem lifted (os : Os) (started : os.Started) (H : Type) (enc : TypeId × Value → H) :
    ReturnsInHanded {} Try.checked os 4 .any (Rows.recordNewerSpec.pre6 enc Try.prog Try.f4 [] false) (Rows.recordNewerSpec.post enc Try.prog Try.f4 false true false false) := by
  refine law_lift (C := Try.checked) own started (by kernel_rfl) Try.func4
    (ChangeSpec.witness6 (enc := enc) (C := Try.checked) false ⟨#[], #[.agg #[.int .u32 0, .int .u64 0, .int .u64 0, .slice none 0 0, .bool false], .agg #[.int .u32 0, .int .u64 0, .int .u64 0, .slice none 0 0, .bool false], .agg #[.int .u32 0, .int .u64 0, .int .u64 0, .slice none 0 0, .bool false]], []⟩ 8 (by kernel_rfl) (by kernel_rfl) (by kernel_rfl) (by kernel_rfl))
    rfl (fun l hl => by match l, hl with | [_, _, _], _ => rfl) laidOut (by kernel_rfl) (by kernel_rfl) Try.underlying4 ?_
  intro W base args ds p hval hA _
  have hval : ∀ (j : Nat) t v, Try.f4.params[j]? = some t → args[j]? = some v → Value.okWide Try.prog W .any base t v := hval
  have hA : DataW.TrodAll enc Try.prog W 0 (fun _ => true) true Try.f4.params.toList args.toList ds p := hA
  rw [Try.params4] at hA hval
  obtain ⟨v0, vs0, d0, ds0, p0, q0, hargs, rfl, rfl, h0, r0⟩ := trodAll_cons hA
  obtain ⟨v1, vs1, d1, ds1, p1, q1, rfl, rfl, rfl, h1, r1⟩ := trodAll_cons r0
  obtain ⟨v2, vs2, d2, ds2, p2, q2, rfl, rfl, rfl, h2, r2⟩ := trodAll_cons r1
  obtain ⟨rfl, rfl, rfl⟩ := trodAll_nil r2
  obtain rfl : args = #[v0, v1, v2] := by cases args; simp_all
  obtain ⟨cs0, rfl, ⟨x0, ⟨i0, u0, m0⟩, b0⟩, hy0⟩ := Mem.open_kd_struct Try.underlying28 opens_entry (hval 0 28 v0 rfl rfl) h0
  obtain ⟨s0, rfl, wx0, wi0, wu0, rd0, wm0⟩ := entry_cells hy0
  obtain ⟨cs1, rfl, ⟨x1, ⟨i1, u1, m1⟩, b1⟩, hy1⟩ := Mem.open_kd_struct Try.underlying28 opens_entry (hval 1 28 v1 rfl rfl) h1
  obtain ⟨s1, rfl, wx1, wi1, wu1, rd1, wm1⟩ := entry_cells hy1
  obtain ⟨cs2, rfl, ⟨x2, ⟨i2, u2, m2⟩, b2⟩, hy2⟩ := Mem.open_kd_struct Try.underlying28 opens_entry (hval 2 28 v2 rfl rfl) h2
  obtain ⟨s2, rfl, wx2, wi2, wu2, rd2, wm2⟩ := entry_cells hy2
  exact walk x0 i0 u0 s0 m0 b0 (bd32 wx0) (bdu64 wi0) (bdu64 wu0) x1 i1 u1 s1 m1 b1 (bd32 wx1) (bdu64 wi1) (bdu64 wu1) x2 i2 u2 s2 m2 b2 (bd32 wx2) (bdu64 wi2) (bdu64 wu2) W rd0 (fun x hx => bd32 (wm0 x hx)) rd1 (fun x hx => bd32 (wm1 x hx)) rd2 (fun x hx => bd32 (wm2 x hx))

theorem proved : Rows.RecordNewerSaid :=
  OpenClaim.holds_of_wide 4 Try.f4 rfl rfl rfl rfl rfl rfl rfl ⟨rfl, rfl, rfl, rfl, rfl⟩ rfl rfl rfl rfl rfl (by kernel_rfl) Try.func4 (by kernel_rfl)
    (of_decide_eq_true (by kernel_rfl)) (by unfold Func.isWrapper; rw [if_neg (of_decide_eq_false (by kernel_rfl))]; exact ⟨rfl, rfl⟩)
    (fun os started H enc _ => lifted os started H enc)
end Go.Proofs.Ytjjgckbjoficgaa.recordNewer
