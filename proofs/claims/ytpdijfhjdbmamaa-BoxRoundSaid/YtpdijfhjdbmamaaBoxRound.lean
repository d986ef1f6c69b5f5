/- Walk of the law BoxRound. -/
import Derived.Test.YtpdijfhjdbmamaaBoxAwake
import Derived.Test.YtpdijfhjdbmamaaRef
namespace Go.Proofs.Ytpdijfhjdbmamaa.boxRound
open Go.RowKit Mem Cir
set_option linter.unusedSimpArgs false
set_option linter.unusedVariables false
attribute [local irreducible] Go.Calls

theorem math (lo hi : Int) (bl : 0 ≤ lo ∧ lo ≤ 4294967295) (bh : 0 ≤ hi ∧ hi ≤ 4294967295) :
    inV (2, lo, hi) lo = true ∧ inV (2, lo, hi) hi = true ∧ inV (2, lo, hi) ((hi + 1) % 4294967296) = ((hi + 1) % 4294967296 == lo) ∧ inV (2, lo, hi) ((lo - 1) % 4294967296) = ((hi + 1) % 4294967296 == lo) ∧
      ((lo - 1) % 4294967296 == hi) = ((hi + 1) % 4294967296 == lo) ∧ (beh ((lo - 1) % 4294967296) hi == 4294967296) = ((hi + 1) % 4294967296 == lo) := by
  unfold inV beh
  refine ⟨?_, ?_, ?_, ?_, ?_, ?_⟩
  · simp; omega
  · simp
  · rw [Bool.eq_iff_iff]; simp; omega
  · rw [Bool.eq_iff_iff]; simp; omega
  · rw [Bool.eq_iff_iff]; simp; omega
  · rw [Bool.eq_iff_iff]; simp; omega
set_option maxHeartbeats 1000000 in
theorem walk (lo : Int) (bl : 0 ≤ lo ∧ lo ≤ 4294967295) (hi : Int) (bh : 0 ≤ hi ∧ hi ≤ 4294967295) (w : World) :
    Calls Try.prog 5 #[.int .u32 lo, .int .u32 hi] w fun e w' => e = .returned (.bool true) ∧ Below w.heap.size w w' := by
  obtain ⟨m1, m2, m3, m4, m5, m6⟩ := math lo hi bl bh
  have M1 := Lib.hid m1
  have M2 := Lib.hid m2
  have M3 := Lib.hid m3
  have M4 := Lib.hid m4
  have M6 := Lib.hid m6
  have hs : spanV (2, lo, hi) = ((lo - 1) % 4294967296, hi, true) := rfl
  have HS := Lib.hid hs
  clear m1 m2 m3 m4 m6 hs
  generalize hall : ((hi + 1) % 4294967296 == lo) = all at *
  have hB := Blk.new w 26 #[.int .i64 2, .int .u32 lo, .int .u32 hi]
  have hX := more (Below.refl w.heap.size w) (.cells #[.int .i64 2, .int .u32 lo, .int .u32 hi] 26)
  have HB := Lib.hid hB
  have HX := Lib.hid hX
  have bm : 0 ≤ (lo - 1) % 4294967296 ∧ (lo - 1) % 4294967296 ≤ 4294967295 := by omega
  have bp : 0 ≤ (hi + 1) % 4294967296 ∧ (hi + 1) % 4294967296 ≤ 4294967295 := by omega
  clear hB hX
  go_enter Try.func5, Try.ntmps5
  go_wp2_with fail
  refine (ospan_any 2 lo hi bl bh _).mono ?_
  rintro e w1 ⟨rfl, hk1⟩
  rw [HS.out]
  have B2 := HB.out.keep (nest hk1 (more (Below.refl _ _) (.cells #[.int .u32 ((lo - 1) % 4294967296), .int .u32 hi] 31)))
  have S2 := Blk.new w1 31 #[.int .u32 ((lo - 1) % 4294967296), .int .u32 hi]
  have X2 := nest HX.out (nest hk1 (more (Below.refl _ _) (.cells #[.int .u32 ((lo - 1) % 4294967296), .int .u32 hi] 31)))
  have JB := Lib.hid B2
  have JS := Lib.hid S2
  have JX := Lib.hid X2
  clear B2 S2 X2 HB HX hk1
  go_wp2_with fail
  generalize w1.alloc (.cells #[.int .u32 ((lo - 1) % 4294967296), .int .u32 hi] 31) = w2 at *
  generalize w1.heap.size = bs at *
  refine (bawake_any w2).mono ?_
  rintro e w3 ⟨rfl, hk3⟩
  have KB := Lib.hid (JB.out.keep hk3)
  have KS := Lib.hid (JS.out.keep hk3)
  have KX := Lib.hid (nest JX.out hk3)
  clear hk3 JB JS JX
  have c0 : w3.cell? ⟨w.heap.size, 0, none⟩ = some (.int .i64 2) := KB.out.cell 0
  have c1 : w3.cell? ⟨w.heap.size, 1, none⟩ = some (.int .u32 lo) := KB.out.cell 1
  have c2 : w3.cell? ⟨w.heap.size, 2, none⟩ = some (.int .u32 hi) := KB.out.cell 2
  go_wp2_with fail
  refine (oin_any 2 lo hi lo bl bh bl w3).mono ?_
  rintro e w4 ⟨rfl, hk4⟩
  rw [M1.out]
  replace c0 := kc hk4 c0
  replace c1 := kc hk4 c1
  replace c2 := kc hk4 c2
  go_wp2_with fail
  refine (oin_any 2 lo hi hi bl bh bh w4).mono ?_
  rintro e w5 ⟨rfl, hk5⟩
  rw [M2.out]
  replace c0 := kc hk5 c0
  replace c1 := kc hk5 c1
  replace c2 := kc hk5 c2
  go_wp2_with fail
  refine (oin_any 2 lo hi _ bl bh bp w5).mono ?_
  rintro e w6 ⟨rfl, hk6⟩
  rw [M3.out]
  replace c0 := kc hk6 c0
  replace c1 := kc hk6 c1
  replace c2 := kc hk6 c2
  go_wp2_with fail
  refine (oin_any 2 lo hi _ bl bh bm w6).mono ?_
  rintro e w7 ⟨rfl, hk7⟩
  rw [M4.out]
  have hk := nest (nest (nest hk4 hk5) hk6) hk7
  have LX := Lib.hid (nest KX.out hk)
  have LS := Lib.hid (KS.out.keep hk)
  clear c0 c1 c2 hk4 hk5 hk6 hk7 hk
  have s0 : w7.cell? ⟨bs, 0, none⟩ = some (.int .u32 ((lo - 1) % 4294967296)) := LS.out.cell 0
  have s1 : w7.cell? ⟨bs, 1, none⟩ = some (.int .u32 hi) := LS.out.cell 1
  cases all with
  | true =>
    go_wp2_with fail
    refine (rsize_any _ hi bm bh w7).mono ?_
    rintro e w8 ⟨rfl, hk8⟩
    have LX8 := Lib.hid (nest LX.out hk8)
    have m6 := M6.out
    clear hk8 s0 s1
    go_wp2_with fail
    go_ret
    exact ⟨rfl, LX8.out⟩
  | false =>
    go_wp2_with fail
    refine (rsize_any _ hi bm bh w7).mono ?_
    rintro e w8 ⟨rfl, hk8⟩
    have LX8 := Lib.hid (nest LX.out hk8)
    have m6 := M6.out
    clear hk8 s0 s1
    go_wp2_with fail
    go_ret
    exact ⟨rfl, LX8.out⟩
end Go.Proofs.Ytpdijfhjdbmamaa.boxRound
