/- The document's answers for package density (petasosref14): held, All, Add, Within, Sum, Count. -/
import Derived.Test.YthdcgobdcdfefaaRefMeet
import Derived.Test.YthdcgobdcdfefaaBytes
import Derived.Test.YthdcgobdcdfefaaRun2
import Derived.Test.YthdcgobdcdfefaaDnMath
import Derived.Test.YthdcgobdcdfefaaEnts
import Derived.Deep.DeepCutAuto
import Derived.Deep.CutBlock
import Derived.Deep.Light
set_option maxRecDepth 4000
namespace Go.Proofs.Ythdcgobdcdfefaa
open Go.RowKit Mem Cir
set_option linter.unusedSimpArgs false
set_option linter.unusedVariables false
attribute [local irreducible] Go.Calls

/-- a density's cells -/
def dcs (l : List Int) : List Value := l.map (Value.int .u32)
theorem dcs_len (l : List Int) : (dcs l).length = l.length := by simp [dcs]
theorem dcs_at (l : List Int) {k : Nat} (hk : k < l.length) : (dcs l).toArray[k]? = some (.int .u32 (l.getD k 0)) := by simp [dcs, List.getD, hk]
theorem dcs_set (l : List Int) (k : Nat) (a : Int) : (dcs l).toArray.setIfInBounds k (.int .u32 a) = (dcs (l.set k a)).toArray := by simp [dcs, List.map_set]
theorem rall_any (l : List Int) (h : okD l) (w : World) : Calls Try.prog 23 #[.agg (dcs l).toArray] w fun e w' => e = .returned (.int .u64 (allD l)) ∧ Below w.heap.size w w' := by
  have HO := Lib.hid h
  obtain ⟨N, hN⟩ : ∃ n : Nat, n = 16 := ⟨_, rfl⟩
  have HL : Hid (l.length = 16) := Lib.hid h.1
  clear h
  go_enter Try.func23, Try.ntmps23
  go_upto_region 2 with fail
  have hk0 : Below w.heap.size w (w.alloc (.cells (dcs l).toArray 24)) := more (Below.refl _ _) _
  have HB : Hid (Blk (w.alloc (.cells (dcs l).toArray 24)) w.heap.size 24 (dcs l).toArray) := Lib.hid (Blk.new _ _ _)
  have HK := Lib.hid hk0
  clear hk0
  generalize w.alloc (.cells (dcs l).toArray 24) = w1 at *
  obtain ⟨g, hg⟩ : ∃ g, g = w.heap.size := ⟨_, rfl⟩
  rw [← hg] at HB ⊢
  clear hg
  go_wp2_with fail
  go_loopw [3, 4] (fun s i wr => ∃ k : Nat, k ≤ 16 ∧ s = .int .u64 ((l.take k).sum) ∧ i = .int .i64 k ∧ wr = w1) (fun _ i _ => 16 - (intOf i).toNat)
  case atStart => exact ⟨0, by omega, by simp, rfl, by trivial⟩
  case round =>
    obtain ⟨k, hk, rfl, rfl, rfl⟩ := hrel
    by_cases hlt : k < 16
    · have d0 : wr.cell? ⟨g, k, none⟩ = some (.int .u32 (l.getD k 0)) := by rw [HB.out.cell]; exact dcs_at l (by rw [HL.out]; exact hlt)
      have hkl : (k : Int) < 16 := by omega
      have HS := Lib.hid (sum_step l (k := k) (by rw [HL.out]; exact hlt))
      have HBD := Lib.hid (sum_take_bd HO.out (k + 1))
      have HB0 := Lib.hid (HO.out.at k)
      generalize l.getD k 0 = x at *
      generalize (l.take k).sum = t at *
      have hw : IntKind.u64.wrap (t + x) = (l.take (k + 1)).sum := by rw [IntKind.wrap_u64, HS.out]; have := HBD.out; have := HS.out; omega
      have hx : IntKind.u64.wrap x = x := by rw [IntKind.wrap_u64]; have := HB0.out; omega
      go_wp2_with fail
      exact ⟨⟨k + 1, by omega, by go_num, by go_num, by trivial⟩, by simp [intOf]; omega⟩
    · have hkl : k = 16 := by omega
      subst hkl
      have HR : Hid ((l.take 16).sum = allD l) := Lib.hid (by rw [List.take_of_length_le (by rw [HL.out]; omega)]; rfl)
      rw [HR.out]
      go_wp2_with fail
      go_ret
      exact ⟨rfl, HK.out⟩
theorem den_info (l : List Int) (h : l.length = 16) : (Try.prog.info? 24).map (·.size) = some (dcs l).toArray.size := by rw [List.size_toArray, dcs_len, h]; kernel_rfl
theorem dcs_one (l : List Int) : (dcs l).toArray.all (·.oneCell') = true := by simp [dcs, Value.oneCell']
theorem addD_bd {l : List Int} (h : okD l) (k : Nat) (n : Int) : -2000000000000 ≤ l.getD k 0 + clampV n ∧ l.getD k 0 + clampV n ≤ 2000000000000 := by
  have := h.at k
  have := clampV_bd n
  omega
end Go.Proofs.Ythdcgobdcdfefaa
