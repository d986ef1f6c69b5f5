/- Walks that the laws of samples share: awake. -/
import Derived.Test.YtgkfioloceemcaaSampleC
import Derived.Test.YtgkfioloceemcaaRgLaw
import Derived.Test.YtgkfioloceemcaaLdPlans
set_option maxRecDepth 4000
namespace Go.Proofs.Ytgkfioloceemcaa
open Go.RowKit Mem
set_option linter.unusedSimpArgs false
set_option linter.unusedVariables false
attribute [local irreducible] Go.Calls

theorem walk_ten (s : Int) : walkR [10] (fun _ => []) 10 2 s = [10, 10, 10] := by
  have h : ∀ i, (hops [10] (fun _ => []) 10 s i).1 = 10 := fun i => List.mem_singleton.1 (hops_mem (List.mem_singleton.2 rfl) i)
  unfold walkR
  rw [if_pos (by decide), show stepsN 2 = 2 from by decide]
  unfold walkL
  rw [show List.range (2 + 1) = [0, 1, 2] from by decide]
  simp only [List.map_cons, List.map_nil, h]
theorem sa_turn {B d : Nat} {w z z' : World} (h : Below B w z) (t : Turned (fun j => j = d) z z') (hd : B ≤ d) (hB : B ≤ w.heap.size) : Below B w z' := h.trans (t.below (Nat.le_trans hB h.size) (fun j hj => by rw [hj]; exact hd))
theorem turned_upto {S : Nat → Prop} {w x y : World} (h : Turned S w x) (k : Below w.heap.size x y) : Turned S w y := ⟨k.os.trans h.os, k.tape.trans h.tape, k.output.trans h.output, Nat.le_trans h.size k.size, fun j hj hs => (k.block j hj).trans (h.block j hj hs)⟩
theorem walkE_bd (L : List Int) (K : Int → List Int) (a steps : Int) {s : Int} (bs : 0 ≤ s ∧ s ≤ 18446744073709551615) : 0 ≤ walkE L K a steps s ∧ walkE L K a steps s ≤ 18446744073709551615 := by
  unfold walkE
  split
  · exact hops_bd bs _
  · exact bs
set_option maxRecDepth 100000 in
set_option maxHeartbeats 2000000 in
theorem saawake_any (w : World) : Calls Try.prog 10 #[] w fun e w' => e = .returned (.bool true) ∧ Below w.heap.size w w' := by
  go_enter Try.func10, Try.ntmps10
  go_wp2_with fail
  refine (rgnew_any w).mono ?_
  rintro e w1 ⟨b, W, R, rfl, hp, hr, hk⟩
  have HP := Lib.hid (rg_new (B := w.heap.size) hp hr (Nat.le_refl _))
  have HK := Lib.hid hk
  clear hp hr hk
  go_wp2_with fail
  refine (rg_add w.heap.size b [] 10 w1 HP.out HK.out.size (by omega)).mono ?_
  rw [show addR [] 10 = ([10], 0) from rfl]
  rintro e w2 ⟨rfl, hp, hk⟩
  have HK2 := Lib.hid (HK.out.trans hk)
  obtain ⟨W2, R2, hg2, hb2⟩ := hp
  have HG2 := Lib.hid hg2
  have HB2 := Lib.hid hb2
  clear hk HP HK hg2 hb2
  go_wp2_with fail
  refine (dnew_any 1 (by omega) w2).mono ?_
  rintro e w3 ⟨d, rfl, hd0, hd, hk⟩
  have HG3 := Lib.hid (RgAt.keep HG2.out hk)
  have HD3 := Lib.hid hd
  have HND : Hid (¬ R2 d) := Lib.hid (fun h => by have := HG2.out.lt h; omega)
  have HDB : Hid (w.heap.size ≤ d) := Lib.hid (Nat.le_trans HK2.out.size hd0)
  have HK3 := Lib.hid (nest HK2.out hk)
  clear hd0 hd hk HK2
  go_wp2_with fail
  refine (swalk_any b d W2 R2 [10] (fun _ => []) (.map none) 10 2 1 w3 HG3.out (LinksIs.nil w3) (fun _ => Nat.zero_le _) HD3.out HND.out (by omega) (by omega) (by omega)).mono ?_
  rw [walk_ten]
  rintro e w4 ⟨x, rfl, hx, _, _, ht⟩
  have HX := Lib.hid hx
  have HK4 := Lib.hid (sa_turn HK3.out ht HDB.out (Nat.le_refl _))
  obtain ⟨ax, cx, rfl, _, _⟩ := hx.form
  clear hx ht HK3 HG3 HD3
  have hY := more (Below.refl w4.heap.size w4) (.cells #[.int .u32 10, .int .u32 10, .int .u32 10] 24)
  have HY := Lib.hid (Row.lit (E := intE .u32) (T := 24) 0 w4 #[.int .u32 10, .int .u32 10, .int .u32 10] [10, 10, 10] 3 w4.heap.size rfl rfl rfl (Nat.zero_le _) (by simp [maxLen])).rd
  have HX5 := Lib.hid (HX.out.keep hY)
  have HK5 := Lib.hid (nest HK4.out hY)
  clear hY HX HK4
  go_wp2_with fail
  refine (plainU_yes _ _ [10, 10, 10] _ HX5.out HY.out).mono ?_
  rintro e w5 ⟨rfl, hk⟩
  have HK6 := Lib.hid (nest HK5.out hk)
  clear hk HX5 HY HK5
  have hZ := more (Below.refl w5.heap.size w5) (.cells #[.int .u32 0, .int .i64 3, .int .u32 1, .int .i64 0] 51)
  have HR := Lib.hid (Row.lit (E := ldE) (T := 51) 0 w5 #[.int .u32 0, .int .i64 3, .int .u32 1, .int .i64 0] [(0, 3), (1, 0)] 2 w5.heap.size rfl rfl rfl (Nat.zero_le _) (by simp [maxLen])).rd
  have HK7 := Lib.hid (nest HK6.out hZ)
  clear hZ HK6
  go_wp2_with fail
  refine (smean_any _ [(0, 3), (1, 0)] _ HR.out (by intro x hx; simp at hx; rcases hx with rfl | rfl <;> simp [okLd]) (by simp)).mono ?_
  rw [show meanV [(0, 3), (1, 0)] = 384 from by decide]
  rintro e w8 ⟨rfl, hk⟩
  have HK8 := Lib.hid (nest HK7.out hk)
  clear hk HR HK7
  go_wp2_with fail
  go_ret
  exact ⟨rfl, HK8.out⟩
end Go.Proofs.Ytgkfioloceemcaa
