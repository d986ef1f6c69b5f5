/- Densities as arguments; what laws of densities and estimates share. -/
import Derived.Test.YthdcgobdcdfefaaOwnD
set_option maxRecDepth 4000
namespace Go.Proofs.Ythdcgobdcdfefaa
open Go.RowKit Mem Cir
set_option linter.unusedSimpArgs false
set_option linter.unusedVariables false
attribute [local irreducible] Go.Calls

theorem spn_info : (Try.prog.info? 46).map (·.size) = some 2 := by kernel_rfl
theorem opens_den {H : Type} {enc : TypeId × Value → H} : Opens enc Try.prog 24 (kVec 16 .u32) := opens_vec Try.underlying24 Try.underlying22 (by kernel_rfl) (by kernel_rfl)
theorem opens_dens {H : Type} {enc : TypeId × Value → H} : Opens enc Try.prog 27 (kSlice (kVec 16 .u32)) := opens_slice Try.underlying27 (by kernel_rfl) (by decide) opens_den
/-- a slice of densities, as an argument -/
theorem dens_of_kd {w : World} {v : Value} {l : List (List Int)} (h : (kSlice (kVec 16 .u32)).rd w [v] l) : ∃ L : List Den, L.length = l.length ∧ Rd denE w v L ∧ ∀ x ∈ L, okD x.1 := by
  obtain ⟨L, hL, hr, hw⟩ := kd_vecs (by decide) h
  refine ⟨L, by rw [← hL, List.length_map], hr, fun x hx => ⟨x.2, fun y hy => bd32 (hw x.1 (by rw [← hL]; exact List.mem_map.2 ⟨x, hx, rfl⟩) y hy)⟩⟩
theorem den_sz {l : List Int} (h : l.length = 16) : (#[.int .u32 0, .int .u32 0, .int .u32 0, .int .u32 0, .int .u32 0, .int .u32 0, .int .u32 0, .int .u32 0, .int .u32 0, .int .u32 0, .int .u32 0, .int .u32 0, .int .u32 0, .int .u32 0, .int .u32 0, .int .u32 0] : Array Value).size = (dcs l).toArray.size := by show 16 = _; rw [List.size_toArray, dcs_len, h]
end Go.Proofs.Ythdcgobdcdfefaa
