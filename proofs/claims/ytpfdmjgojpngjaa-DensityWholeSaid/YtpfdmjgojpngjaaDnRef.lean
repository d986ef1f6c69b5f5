/- The document's answers for package density (petasosref14): held, All, Add, Within, Sum, Count. -/
import Derived.Test.YtpfdmjgojpngjaaRefMeet
import Derived.Test.YtpfdmjgojpngjaaBytes
import Derived.Test.YtpfdmjgojpngjaaRun2
import Derived.Test.YtpfdmjgojpngjaaDnMath
import Derived.Test.YtpfdmjgojpngjaaEnts
import Derived.Deep.DeepCutAuto
import Derived.Deep.CutBlock
import Derived.Deep.Light
set_option maxRecDepth 4000
namespace Go.Proofs.Ytpfdmjgojpngjaa
open Go.RowKit Mem Cir
set_option linter.unusedSimpArgs false
set_option linter.unusedVariables false
attribute [local irreducible] Go.Calls

/-- a density's cells -/
def dcs (l : List Int) : List Value := l.map (Value.int .u32)
theorem dcs_len (l : List Int) : (dcs l).length = l.length := by simp [dcs]
theorem dcs_at (l : List Int) {k : Nat} (hk : k < l.length) : (dcs l).toArray[k]? = some (.int .u32 (l.getD k 0)) := by simp [dcs, List.getD, hk]
theorem dcs_set (l : List Int) (k : Nat) (a : Int) : (dcs l).toArray.setIfInBounds k (.int .u32 a) = (dcs (l.set k a)).toArray := by simp [dcs, List.map_set]
theorem rheld_any (a : Int) (w : World) : Calls Try.prog 25 #[.int .i64 a] w fun e w' => e = .returned (.int .u32 (heldV a)) ∧ Below w.heap.size w w' := by
  have hw : IntKind.u32.wrap (heldV a) = heldV a := by rw [IntKind.wrap_u32]; have := heldV_bd a; omega
  obtain ⟨m, hmin⟩ : ∃ m, (if (2147483647 : Int) < a then 2147483647 else a) = m := ⟨_, rfl⟩
  have hmax : (if 0 < m then m else 0) = heldV a := by rw [← hmin]; unfold heldV; split <;> split <;> omega
  obtain ⟨x, hx⟩ : ∃ x, x = heldV a := ⟨_, rfl⟩
  rw [← hx] at hw hmax ⊢
  clear hx
  go_enter Try.func25, Try.ntmps25
  go_wp2_with fail
  go_ret
  exact ⟨rfl, Below.refl _ _⟩
theorem rall_any (l : List Int) (h : okD l) (w : World) : Calls Try.prog 14 #[.agg (dcs l).toArray] w fun e w' => e = .returned (.int .u64 (allD l)) ∧ Below w.heap.size w w' := by
  have HO := Lib.hid h
  obtain ⟨N, hN⟩ : ∃ n : Nat, n = 16 := ⟨_, rfl⟩
  have HL : Hid (l.length = 16) := Lib.hid h.1
  clear h
  go_enter Try.func14, Try.ntmps14
  go_upto_region 2 with fail
  have hk0 : Below w.heap.size w (w.alloc (.cells (dcs l).toArray 24)) := more (Below.refl _ _) _
  have HB : Hid (Blk (w.alloc (.cells (dcs l).toArray 24)) w.heap.size 24 (dcs l).toArray) := Lib.hid (Blk.new _ _ _)
  have HK := Lib.hid hk0
  clear hk0
  generalize w.alloc (.cells (dcs l).toArray 24) = w1 at *
  obtain ⟨g, hg⟩ : ∃ g, g = w.heap.size := ⟨_, rfl⟩
  rw [← hg] at HB ⊢
  clear hg
  go_wp2_with fail
  go_loopw [3, 4] (fun s i wr => ∃ k : Nat, k ≤ 16 ∧ s = .int .u64 ((l.take k).sum) ∧ i = .int .i64 k ∧ wr = w1) (fun _ i _ => 16 - (intOf i).toNat)
  case atStart => exact ⟨0, by omega, by simp, rfl, by trivial⟩
  case round =>
    obtain ⟨k, hk, rfl, rfl, rfl⟩ := hrel
    by_cases hlt : k < 16
    · have d0 : wr.cell? ⟨g, k, none⟩ = some (.int .u32 (l.getD k 0)) := by rw [HB.out.cell]; exact dcs_at l (by rw [HL.out]; exact hlt)
      have hkl : (k : Int) < 16 := by omega
      have HS := Lib.hid (sum_step l (k := k) (by rw [HL.out]; exact hlt))
      have HBD := Lib.hid (sum_take_bd HO.out (k + 1))
      have HB0 := Lib.hid (HO.out.at k)
      generalize l.getD k 0 = x at *
      generalize (l.take k).sum = t at *
      have hw : IntKind.u64.wrap (t + x) = (l.take (k + 1)).sum := by rw [IntKind.wrap_u64, HS.out]; have := HBD.out; have := HS.out; omega
      have hx : IntKind.u64.wrap x = x := by rw [IntKind.wrap_u64]; have := HB0.out; omega
      go_wp2_with fail
      exact ⟨⟨k + 1, by omega, by go_num, by go_num, by trivial⟩, by simp [intOf]; omega⟩
    · have hkl : k = 16 := by omega
      subst hkl
      have HR : Hid ((l.take 16).sum = allD l) := Lib.hid (by rw [List.take_of_length_le (by rw [HL.out]; omega)]; rfl)
      rw [HR.out]
      go_wp2_with fail
      go_ret
      exact ⟨rfl, HK.out⟩
theorem den_info (l : List Int) (h : l.length = 16) : (Try.prog.info? 24).map (·.size) = some (dcs l).toArray.size := by rw [List.size_toArray, dcs_len, h]; kernel_rfl
theorem dcs_one (l : List Int) : (dcs l).toArray.all (·.oneCell') = true := by simp [dcs, Value.oneCell']
theorem addD_bd {l : List Int} (h : okD l) (k : Nat) (n : Int) : -2000000000000 ≤ l.getD k 0 + clampV n ∧ l.getD k 0 + clampV n ≤ 2000000000000 := by
  have := h.at k
  have := clampV_bd n
  omega
set_option maxHeartbeats 1000000 in
theorem radd_any (l : List Int) (v n : Int) (h : okD l) (bv : 0 ≤ v ∧ v ≤ 4294967295) (w : World) : Calls Try.prog 12 #[.agg (dcs l).toArray, .int .u32 v, .int .i64 n] w fun e w' => e = .returned (.agg (dcs (addD l v n)).toArray) ∧ Below w.heap.size w w' := by
  obtain ⟨k, hk, hkl⟩ : ∃ k : Nat, (k : Int) = v / 268435456 ∧ k < 16 := ⟨(v / 268435456).toNat, by omega, by omega⟩
  have hkt : (v / 268435456).toNat = k := by omega
  have HRES : Hid (addD l v n = l.set k (heldV (l.getD k 0 + clampV n))) := Lib.hid (by unfold addD; rw [hkt])
  have HO := Lib.hid h
  have HL : Hid (l.length = 16) := Lib.hid h.1
  have HO2 : Hid ((l.set k (heldV (l.getD k 0 + clampV n))).length = 16) := Lib.hid (by rw [List.length_set]; exact h.1)
  obtain ⟨m, hmin⟩ : ∃ m, (if (1099511627776 : Int) < n then 1099511627776 else n) = m := ⟨_, rfl⟩
  have hmax : (if -1099511627776 < m then m else -1099511627776) = clampV n := by rw [← hmin]; unfold clampV; split <;> split <;> omega
  have hab := addD_bd h k n
  have HX := Lib.hid (h.at k)
  have d0 : (dcs l).toArray[k]? = some (.int .u32 (l.getD k 0)) := dcs_at l (by rw [h.1]; exact hkl)
  rw [HRES.out]
  obtain ⟨c, hc⟩ : ∃ c, c = clampV n := ⟨_, rfl⟩
  rw [← hc] at hmax hab HO2 ⊢
  obtain ⟨x, hx⟩ : ∃ x, x = l.getD k 0 := ⟨_, rfl⟩
  rw [← hx] at hab HX HO2 d0 ⊢
  have hxw : IntKind.i64.wrap x = x := by rw [IntWalk.i64_in _ (by have := HX.out; omega)]
  have hcw : wrap64 (x + c) = x + c := IntWalk.wrap64_in _ (by omega)
  obtain ⟨a, ha⟩ : ∃ a, a = heldV (x + c) := ⟨_, rfl⟩
  have HH : Hid (∀ z, Calls Try.prog 25 #[.int .i64 (x + c)] z fun e w' => e = .returned (.int .u32 a) ∧ Below z.heap.size z w') := Lib.hid (fun z => by rw [ha]; exact rheld_any _ z)
  rw [← ha] at HO2 ⊢
  obtain ⟨R, hR⟩ : ∃ R, R = l.set k a := ⟨_, rfl⟩
  have HRR := Lib.hid hR
  rw [← hR] at HO2 ⊢
  clear hR
  have hkq : v / 268435456 = (k : Int) := by omega
  clear h hc hx hab ha hk hkt
  go_enter Try.func12, Try.ntmps12
  go_upto_region 2 with fail
  obtain ⟨W, hW⟩ : ∃ W, W = (w.alloc (.cells (dcs l).toArray 24)).alloc (.cells (dcs zeroD).toArray 24) := ⟨_, rfl⟩
  have HK : Hid (Below w.heap.size w W) := Lib.hid (hW ▸ more (more (Below.refl _ _) _) _)
  have HG : Hid (Blk W w.heap.size 24 (dcs l).toArray) := Lib.hid (by rw [hW]; exact (Blk.new w _ _).keep (more (Below.refl _ _) _))
  have HR : Hid (Blk W (w.heap.size + 1) 24 (dcs zeroD).toArray) := Lib.hid (by rw [hW]; exact Blk.newAt _ _ _ (by rw [size_alloc]))
  have hW' := hW
  simp only [dcs, zeroD, List.replicate, List.map_cons, List.map_nil] at hW'
  rw [show w.alloc (.cells (dcs l).toArray 24) = w.alloc (.cells (l.map (Value.int .u32)).toArray 24) from rfl, ← hW']
  obtain ⟨g, hg⟩ : ∃ g, g = w.heap.size := ⟨_, rfl⟩
  obtain ⟨r, hr⟩ : ∃ r, r = w.heap.size + 1 := ⟨_, rfl⟩
  have HE : Hid (g = w.heap.size ∧ r = w.heap.size + 1) := Lib.hid ⟨hg, hr⟩
  rw [← hr] at HR ⊢
  rw [← hg] at HG ⊢
  clear hW hW' hg hr
  have d1 : W.cell? ⟨g, k, none⟩ = some (.int .u32 x) := by rw [HG.out.cell]; exact d0
  go_upto_region 3 with (go_at_call 25; refine (HH.out _).mono ?_; rintro e z ⟨rfl, hk⟩; have hz1 := kc hk d1; have hz2 : z.frozen? ⟨g, k, none⟩ = false := (HG.out.keep hk).frozen k)
  have HG2 : Hid (Blk (z.setCell ⟨g, k, none⟩ (.int .u32 a)) g 24 (dcs R).toArray) := Lib.hid (by rw [HRR.out, ← dcs_set]; exact (HG.out.keep hk).set_ k _)
  have HR2 : Hid (Blk (z.setCell ⟨g, k, none⟩ (.int .u32 a)) r 24 (dcs zeroD).toArray) := Lib.hid ((HR.out.keep hk).only (Only.set z k _) (by have := HE.out; omega))
  have HK2 : Hid (Below w.heap.size w (z.setCell ⟨g, k, none⟩ (.int .u32 a))) := Lib.hid ((nest HK.out hk).trans ((Only.set z k _).below (by have := HE.out; omega) (nest HK.out hk).size))
  clear hz1 hz2 hk d1 HG HR HK
  generalize z.setCell ⟨g, k, none⟩ (.int .u32 a) = z2 at *
  go_wp2_with (first | (refine at_load 3 rfl ?_; refine wpList_load_row rfl 24 (.tmp 3) rfl g rfl 24 _ (0, 0) _ HG2.out Try.underlying24 rfl (den_info _ HO2.out) ?_) | (refine at_store 6 rfl ?_; refine wpList_store_row rfl 24 (.tmp 6) (.tmp 21) rfl r _ rfl rfl 24 _ HR2.out (den_info _ HO2.out) (by rw [List.size_toArray, List.size_toArray, dcs_len, dcs_len, HO2.out]; rfl) (dcs_one _) ?_))
  refine bodyPost_ret (results_cell_row rfl _ _ r 24 _ (0, 0) _ rfl (Blk.rowS HR2.out _) Try.underlying24 rfl (den_info _ HO2.out)) rfl ?_
  exact ⟨rfl, HK2.out.trans ((Only.rowS z2 _).below (by have := HE.out; omega) HK2.out.size)⟩
end Go.Proofs.Ytpfdmjgojpngjaa
