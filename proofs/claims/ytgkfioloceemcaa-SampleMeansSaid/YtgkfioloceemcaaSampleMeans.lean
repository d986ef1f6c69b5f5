/- Walk of the law SampleMeans. -/
import Derived.Test.YtgkfioloceemcaaSaLaw
set_option maxRecDepth 4000
namespace Go.Proofs.Ytgkfioloceemcaa.sampleMeans
open Go.RowKit Mem
set_option linter.unusedSimpArgs false
set_option linter.unusedVariables false
attribute [local irreducible] Go.Calls

set_option maxRecDepth 100000 in
set_option maxHeartbeats 8000000 in
theorem walk (v : Value) (l : List Ld) (n : Int) (bn : -9223372036854775808 ≤ n ∧ n ≤ 9223372036854775807) (w : World) (h : (kSlice (kPair (kInt .u32) (kInt .i64))).rd w [v] l) :
    Calls Try.prog 6 #[v, .int .i64 n] w fun e w' => e = .returned (.bool true) ∧ Below w.heap.size w w' := by
  obtain ⟨hL, hLB⟩ := loads_of_kd h
  have HLR := Lib.hid hL
  have HLB := Lib.hid hLB
  obtain ⟨a, c, rfl, _, _⟩ := hL.form
  obtain ⟨N, hN, hNq⟩ : ∃ N : Int, (0 ≤ N ∧ N ≤ 1048575) ∧ wrap64 ((IntKind.u64.wrap n).tmod 1048576) = N := by
    have q0 : 0 ≤ IntKind.u64.wrap n := by rw [IntKind.wrap_u64]; omega
    have q1 : 0 ≤ (IntKind.u64.wrap n).tmod 1048576 := Int.tmod_nonneg _ q0
    have q2 := Int.tmod_lt_of_pos (IntKind.u64.wrap n) (show (0 : Int) < 1048576 by omega)
    exact ⟨_, by unfold wrap64; omega, rfl⟩
  have HN := Lib.hid hN
  clear h hL hLB bn hN
  go_enter Try.func6, Try.ntmps6
  by_cases h80 : l.length > 60
  · have e80 : (l.length : Int) > 60 := by omega
    go_wp2_with (go_at_call 10; refine (saawake_any w).mono ?_; rintro e w2 ⟨rfl, hk⟩)
    go_ret
    exact ⟨rfl, hk⟩
  have e80 : ¬ (l.length : Int) > 60 := by omega
  have HLL : Hid (l.length ≤ 60) := Lib.hid (by omega)
  clear h80
  go_upto_region 4 with fail
  rw [hNq]
  clear hNq e80
  have HNG := Lib.hid (means_neg l N HN.out.1)
  have HZR := Lib.hid (means_zero l)
  have HTW := Lib.hid (means_twice l)
  have HOK1 : Hid (∀ x ∈ l ++ [(0, -1 - N)], okLd x) := Lib.hid (by
    intro x hx
    rcases List.mem_append.1 hx with hx | hx
    · exact HLB.out x hx
    · rw [List.mem_singleton.1 hx]; have := HN.out; unfold okLd; omega)
  have HOK2 : Hid (∀ x ∈ l ++ [((0 : Int), (0 : Int))], okLd x) := Lib.hid (by
    intro x hx
    rcases List.mem_append.1 hx with hx | hx
    · exact HLB.out x hx
    · rw [List.mem_singleton.1 hx]; unfold okLd; omega)
  have hw1 : IntKind.i64.wrap (-1 - N) = -1 - N := IntWalk.i64_in _ (by have := HN.out; omega)
  have hw2 : wrap64 (-1 - N) = -1 - N := by have := HN.out; unfold wrap64; omega
  refine Run.region_seq (S := fun z => Below w.heap.size w z)
    [0, 1, 0, 0, 0, 1, 1, 0] (l := ?_) ?_ (Below.refl _ _) ?_
  rotate_left
  (· simp only [Run.seqOf, List.toList_toArray, Run.stepsOf, Run.stepOf, Run.guardOf, List.getElem?_toArray, List.getElem?_cons_zero, List.getElem?_cons_succ, Option.map_some, Option.map_none, Option.bind_some, Option.toList_some, List.map_cons, List.map_nil, List.cons_append, List.nil_append, List.append_eq]
     rfl)
  repeat ((first
    | (refine Run.takes (v := ?_) ?_ ?_; rotate_left; (· intro w' hS'; go_simp; (try with_reducible rfl)))
    | (refine Run.takesG (v := ?_) ?_ ?_ ?_; rotate_left; (· simp only [List.getElem?_cons_zero, List.getElem?_cons_succ]); (· intro w' hS'; go_simp; (try with_reducible rfl)))
    | (refine Run.skipsT ?_ ?_; (· simp only [List.getElem?_cons_zero, List.getElem?_cons_succ]))
    | (refine Run.skipsF ?_ ?_; (· simp only [List.getElem?_cons_zero, List.getElem?_cons_succ]))
    | (refine Run.skipsU ?_ ?_; (· simp only [List.getElem?_cons_zero, List.getElem?_cons_succ]))
    | (refine Run.passT ?_ ?_; (· simp only [List.getElem?_cons_zero, List.getElem?_cons_succ]))
    | (refine Run.passF ?_ ?_; (· simp only [List.getElem?_cons_zero, List.getElem?_cons_succ]))
    | (refine Run.passU ?_ ?_; (· simp only [List.getElem?_cons_zero, List.getElem?_cons_succ]))
    | fail); simp only [Act.put, List.setIfInBounds_toArray, List.set_cons_zero, List.set_cons_succ])
  refine Run.runsS (Run.one (fun hS K hK => ?_))
  refine wp_append (E := ldE) (B := w.heap.size) (l := []) (m := l) (bytes := 16) ldElem Nat.zero_lt_two (.const (.slice none 0 0)) (.tmp 16) rfl rfl Row.nil rfl HLR.out (by have := HLL.out; simp [maxLen]; omega) (by have := HLL.out; simp; omega) hS.size ?_
  intro vaN waN hr hk hg _
  rw [List.nil_append] at hr
  have HRAN := Lib.hid hr
  have HKAN : Hid (Below w.heap.size w waN) := Lib.hid (hS.trans hk)
  obtain ⟨aaN, caN, rfl, _, _⟩ := hr.rd.form
  refine hK.out _ _ HKAN.out (fun _ => ⟨fun z => Below w.heap.size w z, fun z h => h, HKAN.out, ?_⟩)
  clear hK K hS hr hk hg
  simp only [Act.put, List.setIfInBounds_toArray, List.set_cons_zero, List.set_cons_succ]
  repeat ((first
    | (refine Run.takes (v := ?_) ?_ ?_; rotate_left; (· intro w' hS'; go_simp; (try with_reducible rfl)))
    | (refine Run.takesG (v := ?_) ?_ ?_ ?_; rotate_left; (· simp only [List.getElem?_cons_zero, List.getElem?_cons_succ]); (· intro w' hS'; go_simp; (try with_reducible rfl)))
    | (refine Run.skipsT ?_ ?_; (· simp only [List.getElem?_cons_zero, List.getElem?_cons_succ]))
    | (refine Run.skipsF ?_ ?_; (· simp only [List.getElem?_cons_zero, List.getElem?_cons_succ]))
    | (refine Run.skipsU ?_ ?_; (· simp only [List.getElem?_cons_zero, List.getElem?_cons_succ]))
    | (refine Run.passT ?_ ?_; (· simp only [List.getElem?_cons_zero, List.getElem?_cons_succ]))
    | (refine Run.passF ?_ ?_; (· simp only [List.getElem?_cons_zero, List.getElem?_cons_succ]))
    | (refine Run.passU ?_ ?_; (· simp only [List.getElem?_cons_zero, List.getElem?_cons_succ]))
    | fail); simp only [Act.put, List.setIfInBounds_toArray, List.set_cons_zero, List.set_cons_succ])
  refine Run.runsS (Run.one (fun hS K hK => ?_))
  go_simp
  have hX : Below waN.heap.size waN (waN.alloc (.cells #[.int .u32 0, .int .i64 (-1 - N)] 51)) := more (Below.refl _ _) _
  have HXN := Lib.hid (Row.lit (E := ldE) waN.heap.size waN #[.int .u32 0, .int .i64 (-1 - N)] [((0 : Int), (-1 - N : Int))] 1 waN.heap.size rfl rfl rfl (Nat.le_refl _) (by simp [maxLen]) : Row ldE 51 waN.heap.size (waN.alloc (.cells #[.int .u32 0, .int .i64 (-1 - N)] 51)) (.slice (some ⟨waN.heap.size, 0, none⟩) 1 1) [((0 : Int), (-1 - N : Int))])
  have HRXN := Lib.hid (HRAN.out.keep hX)
  have HKXN := Lib.hid (nest HKAN.out hX)
  refine hK.out _ _ HKXN.out (fun _ => ⟨fun z => Below w.heap.size w z, fun z h => h, HKXN.out, ?_⟩)
  clear hK K hS hX
  generalize waN.alloc (.cells #[.int .u32 0, .int .i64 (-1 - N)] 51) = wxN at *
  try simp only [Act.put, List.setIfInBounds_toArray, List.set_cons_zero, List.set_cons_succ]
  repeat ((first
    | (refine Run.takes (v := ?_) ?_ ?_; rotate_left; (· intro w' hS'; go_simp; (try with_reducible rfl)))
    | (refine Run.takesG (v := ?_) ?_ ?_ ?_; rotate_left; (· simp only [List.getElem?_cons_zero, List.getElem?_cons_succ]); (· intro w' hS'; go_simp; (try with_reducible rfl)))
    | (refine Run.skipsT ?_ ?_; (· simp only [List.getElem?_cons_zero, List.getElem?_cons_succ]))
    | (refine Run.skipsF ?_ ?_; (· simp only [List.getElem?_cons_zero, List.getElem?_cons_succ]))
    | (refine Run.skipsU ?_ ?_; (· simp only [List.getElem?_cons_zero, List.getElem?_cons_succ]))
    | (refine Run.passT ?_ ?_; (· simp only [List.getElem?_cons_zero, List.getElem?_cons_succ]))
    | (refine Run.passF ?_ ?_; (· simp only [List.getElem?_cons_zero, List.getElem?_cons_succ]))
    | (refine Run.passU ?_ ?_; (· simp only [List.getElem?_cons_zero, List.getElem?_cons_succ]))
    | fail); simp only [Act.put, List.setIfInBounds_toArray, List.set_cons_zero, List.set_cons_succ])
  refine Run.runsS (Run.one (fun hS K hK => ?_))
  refine wp_append (E := ldE) (B := w.heap.size) (l := l) (m := [((0 : Int), (-1 - N : Int))]) (bytes := 16) ldElem Nat.zero_lt_two (.tmp 17) (.tmp 21) rfl rfl HRXN.out rfl HXN.out.rd (by have := HLL.out; simp [maxLen]; omega) (by have := HLL.out; simp; omega) HKXN.out.size ?_
  intro vbN wbN hr hk hg _
  obtain ⟨LN, hL⟩ : ∃ q, q = l ++ [((0 : Int), (-1 - N : Int))] := ⟨_, rfl⟩
  rw [← hL] at hr HNG HOK1
  have HLNN : Hid (LN.length ≤ 61) := Lib.hid (by rw [hL]; have := HLL.out; simp; omega)
  have HRBN := Lib.hid hr.rd
  have HKBN : Hid (Below w.heap.size w wbN) := Lib.hid (HKXN.out.trans hk)
  obtain ⟨abN, cbN, rfl, _, _⟩ := hr.rd.form
  refine hK.out _ _ HKBN.out (fun _ => ⟨fun z => Below w.heap.size w z, fun z h => h, HKBN.out, ?_⟩)
  clear hK K hS hr hk hg hL
  simp only [Act.put, List.setIfInBounds_toArray, List.set_cons_zero, List.set_cons_succ]
  repeat ((first
    | (refine Run.takes (v := ?_) ?_ ?_; rotate_left; (· intro w' hS'; go_simp; (try with_reducible rfl)))
    | (refine Run.takesG (v := ?_) ?_ ?_ ?_; rotate_left; (· simp only [List.getElem?_cons_zero, List.getElem?_cons_succ]); (· intro w' hS'; go_simp; (try with_reducible rfl)))
    | (refine Run.skipsT ?_ ?_; (· simp only [List.getElem?_cons_zero, List.getElem?_cons_succ]))
    | (refine Run.skipsF ?_ ?_; (· simp only [List.getElem?_cons_zero, List.getElem?_cons_succ]))
    | (refine Run.skipsU ?_ ?_; (· simp only [List.getElem?_cons_zero, List.getElem?_cons_succ]))
    | (refine Run.passT ?_ ?_; (· simp only [List.getElem?_cons_zero, List.getElem?_cons_succ]))
    | (refine Run.passF ?_ ?_; (· simp only [List.getElem?_cons_zero, List.getElem?_cons_succ]))
    | (refine Run.passU ?_ ?_; (· simp only [List.getElem?_cons_zero, List.getElem?_cons_succ]))
    | fail); simp only [Act.put, List.setIfInBounds_toArray, List.set_cons_zero, List.set_cons_succ])
  refine Run.ends (fun _ => ?_)
  go_upto_region 5 with fail
  refine Run.region_seq (S := fun z => Below wbN.heap.size wbN z)
    [0, 1, 0, 1, 1, 0] (l := ?_) ?_ (Below.refl _ _) ?_
  rotate_left
  (· simp only [Run.seqOf, List.toList_toArray, Run.stepsOf, Run.stepOf, Run.guardOf, List.getElem?_toArray, List.getElem?_cons_zero, List.getElem?_cons_succ, Option.map_some, Option.map_none, Option.bind_some, Option.toList_some, List.map_cons, List.map_nil, List.cons_append, List.nil_append, List.append_eq]
     rfl)
  repeat ((first
    | (refine Run.takes (v := ?_) ?_ ?_; rotate_left; (· intro w' hS'; go_simp; (try with_reducible rfl)))
    | (refine Run.takesG (v := ?_) ?_ ?_ ?_; rotate_left; (· simp only [List.getElem?_cons_zero, List.getElem?_cons_succ]); (· intro w' hS'; go_simp; (try with_reducible rfl)))
    | (refine Run.skipsT ?_ ?_; (· simp only [List.getElem?_cons_zero, List.getElem?_cons_succ]))
    | (refine Run.skipsF ?_ ?_; (· simp only [List.getElem?_cons_zero, List.getElem?_cons_succ]))
    | (refine Run.skipsU ?_ ?_; (· simp only [List.getElem?_cons_zero, List.getElem?_cons_succ]))
    | (refine Run.passT ?_ ?_; (· simp only [List.getElem?_cons_zero, List.getElem?_cons_succ]))
    | (refine Run.passF ?_ ?_; (· simp only [List.getElem?_cons_zero, List.getElem?_cons_succ]))
    | (refine Run.passU ?_ ?_; (· simp only [List.getElem?_cons_zero, List.getElem?_cons_succ]))
    | fail); simp only [Act.put, List.setIfInBounds_toArray, List.set_cons_zero, List.set_cons_succ])
  refine Run.runsS (Run.one (fun hS K hK => ?_))
  refine wp_append (E := ldE) (B := wbN.heap.size) (l := []) (m := l) (bytes := 16) ldElem Nat.zero_lt_two (.const (.slice none 0 0)) (.tmp 23) rfl rfl Row.nil rfl (HLR.out.keep HKBN.out) (by have := HLL.out; simp [maxLen]; omega) (by have := HLL.out; simp; omega) hS.size ?_
  intro vaZ waZ hr hk hg _
  rw [List.nil_append] at hr
  have HRAZ := Lib.hid hr
  have HKAZ : Hid (Below wbN.heap.size wbN waZ) := Lib.hid (hS.trans hk)
  obtain ⟨aaZ, caZ, rfl, _, _⟩ := hr.rd.form
  refine hK.out _ _ HKAZ.out (fun _ => ⟨fun z => Below wbN.heap.size wbN z, fun z h => h, HKAZ.out, ?_⟩)
  clear hK K hS hr hk hg
  simp only [Act.put, List.setIfInBounds_toArray, List.set_cons_zero, List.set_cons_succ]
  repeat ((first
    | (refine Run.takes (v := ?_) ?_ ?_; rotate_left; (· intro w' hS'; go_simp; (try with_reducible rfl)))
    | (refine Run.takesG (v := ?_) ?_ ?_ ?_; rotate_left; (· simp only [List.getElem?_cons_zero, List.getElem?_cons_succ]); (· intro w' hS'; go_simp; (try with_reducible rfl)))
    | (refine Run.skipsT ?_ ?_; (· simp only [List.getElem?_cons_zero, List.getElem?_cons_succ]))
    | (refine Run.skipsF ?_ ?_; (· simp only [List.getElem?_cons_zero, List.getElem?_cons_succ]))
    | (refine Run.skipsU ?_ ?_; (· simp only [List.getElem?_cons_zero, List.getElem?_cons_succ]))
    | (refine Run.passT ?_ ?_; (· simp only [List.getElem?_cons_zero, List.getElem?_cons_succ]))
    | (refine Run.passF ?_ ?_; (· simp only [List.getElem?_cons_zero, List.getElem?_cons_succ]))
    | (refine Run.passU ?_ ?_; (· simp only [List.getElem?_cons_zero, List.getElem?_cons_succ]))
    | fail); simp only [Act.put, List.setIfInBounds_toArray, List.set_cons_zero, List.set_cons_succ])
  refine Run.runsS (Run.one (fun hS K hK => ?_))
  go_simp
  have hX : Below waZ.heap.size waZ (waZ.alloc (.cells #[.int .u32 0, .int .i64 0] 51)) := more (Below.refl _ _) _
  have HXZ := Lib.hid (Row.lit (E := ldE) waZ.heap.size waZ #[.int .u32 0, .int .i64 0] [((0 : Int), (0 : Int))] 1 waZ.heap.size rfl rfl rfl (Nat.le_refl _) (by simp [maxLen]) : Row ldE 51 waZ.heap.size (waZ.alloc (.cells #[.int .u32 0, .int .i64 0] 51)) (.slice (some ⟨waZ.heap.size, 0, none⟩) 1 1) [((0 : Int), (0 : Int))])
  have HRXZ := Lib.hid (HRAZ.out.keep hX)
  have HKXZ := Lib.hid (nest HKAZ.out hX)
  refine hK.out _ _ HKXZ.out (fun _ => ⟨fun z => Below wbN.heap.size wbN z, fun z h => h, HKXZ.out, ?_⟩)
  clear hK K hS hX
  generalize waZ.alloc (.cells #[.int .u32 0, .int .i64 0] 51) = wxZ at *
  try simp only [Act.put, List.setIfInBounds_toArray, List.set_cons_zero, List.set_cons_succ]
  repeat ((first
    | (refine Run.takes (v := ?_) ?_ ?_; rotate_left; (· intro w' hS'; go_simp; (try with_reducible rfl)))
    | (refine Run.takesG (v := ?_) ?_ ?_ ?_; rotate_left; (· simp only [List.getElem?_cons_zero, List.getElem?_cons_succ]); (· intro w' hS'; go_simp; (try with_reducible rfl)))
    | (refine Run.skipsT ?_ ?_; (· simp only [List.getElem?_cons_zero, List.getElem?_cons_succ]))
    | (refine Run.skipsF ?_ ?_; (· simp only [List.getElem?_cons_zero, List.getElem?_cons_succ]))
    | (refine Run.skipsU ?_ ?_; (· simp only [List.getElem?_cons_zero, List.getElem?_cons_succ]))
    | (refine Run.passT ?_ ?_; (· simp only [List.getElem?_cons_zero, List.getElem?_cons_succ]))
    | (refine Run.passF ?_ ?_; (· simp only [List.getElem?_cons_zero, List.getElem?_cons_succ]))
    | (refine Run.passU ?_ ?_; (· simp only [List.getElem?_cons_zero, List.getElem?_cons_succ]))
    | fail); simp only [Act.put, List.setIfInBounds_toArray, List.set_cons_zero, List.set_cons_succ])
  refine Run.runsS (Run.one (fun hS K hK => ?_))
  refine wp_append (E := ldE) (B := wbN.heap.size) (l := l) (m := [((0 : Int), (0 : Int))]) (bytes := 16) ldElem Nat.zero_lt_two (.tmp 24) (.tmp 26) rfl rfl HRXZ.out rfl HXZ.out.rd (by have := HLL.out; simp [maxLen]; omega) (by have := HLL.out; simp; omega) HKXZ.out.size ?_
  intro vbZ wbZ hr hk hg _
  obtain ⟨LZ, hL⟩ : ∃ q, q = l ++ [((0 : Int), (0 : Int))] := ⟨_, rfl⟩
  rw [← hL] at hr HNG HZR HOK2
  have HLNZ : Hid (LZ.length ≤ 61) := Lib.hid (by rw [hL]; have := HLL.out; simp; omega)
  have HRBZ := Lib.hid hr.rd
  have HKBZ : Hid (Below wbN.heap.size wbN wbZ) := Lib.hid (HKXZ.out.trans hk)
  obtain ⟨abZ, cbZ, rfl, _, _⟩ := hr.rd.form
  refine hK.out _ _ HKBZ.out (fun _ => ⟨fun z => Below wbN.heap.size wbN z, fun z h => h, HKBZ.out, ?_⟩)
  clear hK K hS hr hk hg hL
  simp only [Act.put, List.setIfInBounds_toArray, List.set_cons_zero, List.set_cons_succ]
  repeat ((first
    | (refine Run.takes (v := ?_) ?_ ?_; rotate_left; (· intro w' hS'; go_simp; (try with_reducible rfl)))
    | (refine Run.takesG (v := ?_) ?_ ?_ ?_; rotate_left; (· simp only [List.getElem?_cons_zero, List.getElem?_cons_succ]); (· intro w' hS'; go_simp; (try with_reducible rfl)))
    | (refine Run.skipsT ?_ ?_; (· simp only [List.getElem?_cons_zero, List.getElem?_cons_succ]))
    | (refine Run.skipsF ?_ ?_; (· simp only [List.getElem?_cons_zero, List.getElem?_cons_succ]))
    | (refine Run.skipsU ?_ ?_; (· simp only [List.getElem?_cons_zero, List.getElem?_cons_succ]))
    | (refine Run.passT ?_ ?_; (· simp only [List.getElem?_cons_zero, List.getElem?_cons_succ]))
    | (refine Run.passF ?_ ?_; (· simp only [List.getElem?_cons_zero, List.getElem?_cons_succ]))
    | (refine Run.passU ?_ ?_; (· simp only [List.getElem?_cons_zero, List.getElem?_cons_succ]))
    | fail); simp only [Act.put, List.setIfInBounds_toArray, List.set_cons_zero, List.set_cons_succ])
  refine Run.ends (fun _ => ?_)
  have HLZ := Lib.hid (HLR.out.keep (nest HKBN.out HKBZ.out))
  have HM0 := Lib.hid (fun z (hz : Below wbZ.heap.size wbZ z) => smean_any _ l z (HLZ.out.keep hz) HLB.out (by have := HLL.out; omega))
  have HRN := Lib.hid (HRBN.out.keep HKBZ.out)
  have HKB := Lib.hid (nest HKBN.out HKBZ.out)
  go_upto_region 7 with (go_at_call 19; refine (HM0.out _ (Below.refl _ _)).mono ?_; rintro e w3 ⟨rfl, hk⟩)
  have HK3 := Lib.hid (nest HKB.out hk)
  have HRN3 := Lib.hid (HRN.out.keep hk)
  have HRZ3 := Lib.hid (HRBZ.out.keep hk)
  have HL3 := Lib.hid (HLZ.out.keep hk)
  have HMN := Lib.hid (fun z (hz : Below w3.heap.size w3 z) => smean_any _ LN z (HRN3.out.keep hz) HOK1.out (by have := HLNN.out; omega))
  have HMZ := Lib.hid (fun z (hz : Below w3.heap.size w3 z) => smean_any _ LZ z (HRZ3.out.keep hz) HOK2.out (by have := HLNZ.out; omega))
  rw [HNG.out] at HMN
  obtain ⟨mz, hmz⟩ : ∃ x, x = meanV LZ := ⟨_, rfl⟩
  rw [← hmz] at HMN HMZ HZR
  have HOKT : Hid (∀ x ∈ l ++ l, okLd x) := Lib.hid (fun x hx => by rcases List.mem_append.1 hx with hx | hx <;> exact HLB.out x hx)
  obtain ⟨ml, hml⟩ : ∃ x, x = meanV l := ⟨_, rfl⟩
  rw [← hml] at HTW HZR ⊢
  have hle := HZR.out
  clear hk HNG HRN HRBN HRBZ HLZ HM0 HKB HKBN HKBZ HOK1 HOK2 HZR hmz hml HRAN HRAZ HKAN HKAZ HRXN HRXZ HKXN HKXZ HXN HXZ
  refine Run.region_seq (S := fun z => Below w3.heap.size w3 z)
    [1, 0, 0, 1, 0, 1, 0, 0, 0, 0, 1, 0, 0, 0, 0, 0, 1, 0, 1, 1, 0, 0, 0, 0] (l := ?_) ?_ (Below.refl _ _) ?_
  rotate_left
  (· simp only [Run.seqOf, List.toList_toArray, Run.stepsOf, Run.stepOf, Run.guardOf, List.getElem?_toArray, List.getElem?_cons_zero, List.getElem?_cons_succ, Option.map_some, Option.map_none, Option.bind_some, Option.toList_some, List.map_cons, List.map_nil, List.cons_append, List.nil_append, List.append_eq]
     rfl)
  repeat ((first
    | (refine Run.takes (v := ?_) ?_ ?_; rotate_left; (· intro w' hS'; go_simp; (try with_reducible rfl)))
    | (refine Run.takesG (v := ?_) ?_ ?_ ?_; rotate_left; (· simp only [List.getElem?_cons_zero, List.getElem?_cons_succ]); (· intro w' hS'; go_simp; (try with_reducible rfl)))
    | (refine Run.skipsT ?_ ?_; (· simp only [List.getElem?_cons_zero, List.getElem?_cons_succ]))
    | (refine Run.skipsF ?_ ?_; (· simp only [List.getElem?_cons_zero, List.getElem?_cons_succ]))
    | (refine Run.skipsU ?_ ?_; (· simp only [List.getElem?_cons_zero, List.getElem?_cons_succ]))
    | (refine Run.passT ?_ ?_; (· simp only [List.getElem?_cons_zero, List.getElem?_cons_succ]))
    | (refine Run.passF ?_ ?_; (· simp only [List.getElem?_cons_zero, List.getElem?_cons_succ]))
    | (refine Run.passU ?_ ?_; (· simp only [List.getElem?_cons_zero, List.getElem?_cons_succ]))
    | (refine Run.runs ?_
       (first
       | (refine Run.callF 10 (by kernel_rfl) (fun hS => saawake_any _) rfl ?_)
       | (refine Run.callG 10 (by kernel_rfl) ?_ (fun hS => saawake_any _) rfl ?_; (· simp only [List.getElem?_cons_zero, List.getElem?_cons_succ]))
       | (refine Run.callF 19 (by kernel_rfl) (fun hS => HMN.out _ hS) rfl ?_)
       | (refine Run.callG 19 (by kernel_rfl) ?_ (fun hS => HMN.out _ hS) rfl ?_; (· simp only [List.getElem?_cons_zero, List.getElem?_cons_succ]))
       | (refine Run.callF 19 (by kernel_rfl) (fun hS => HMZ.out _ hS) rfl ?_)
       | (refine Run.callG 19 (by kernel_rfl) ?_ (fun hS => HMZ.out _ hS) rfl ?_; (· simp only [List.getElem?_cons_zero, List.getElem?_cons_succ]))
       | fail)
       (first
       | (rintro hS e w' ⟨rfl, rfl⟩; refine ⟨_, rfl, hS, ?_⟩)
       | (rintro hS e w' ⟨rfl, hb⟩; refine ⟨_, rfl, nest hS hb, ?_⟩)
       | fail))
    | fail); simp only [Act.put, List.setIfInBounds_toArray, List.set_cons_zero, List.set_cons_succ])
  refine Run.runsS (Run.oneG (by first | rfl | simp only [List.getElem?_cons_zero, List.getElem?_cons_succ]) (fun hS K hK => ?_))
  refine wp_append (E := ldE) (B := w3.heap.size) (l := []) (m := l) (bytes := 16) ldElem Nat.zero_lt_two (.const (.slice none 0 0)) (.tmp 45) rfl rfl Row.nil rfl (HL3.out.keep hS) (by have := HLL.out; simp [maxLen]; omega) (by have := HLL.out; simp; omega) hS.size ?_
  intro v5 w5 hr hk hg _
  rw [List.nil_append] at hr
  have HR5 := Lib.hid hr
  have HK5 : Hid (Below w3.heap.size w3 w5) := Lib.hid (hS.trans hk)
  obtain ⟨a5, c5, rfl, _, _⟩ := hr.rd.form
  refine hK.out _ _ HK5.out (fun _ => ⟨fun z => Below w3.heap.size w3 z, fun z h => h, HK5.out, ?_⟩)
  clear hK K hS hr hk hg
  simp only [Act.put, List.setIfInBounds_toArray, List.set_cons_zero, List.set_cons_succ]
  repeat ((first
    | (refine Run.takes (v := ?_) ?_ ?_; rotate_left; (· intro w' hS'; go_simp; (try with_reducible rfl)))
    | (refine Run.takesG (v := ?_) ?_ ?_ ?_; rotate_left; (· simp only [List.getElem?_cons_zero, List.getElem?_cons_succ]); (· intro w' hS'; go_simp; (try with_reducible rfl)))
    | (refine Run.skipsT ?_ ?_; (· simp only [List.getElem?_cons_zero, List.getElem?_cons_succ]))
    | (refine Run.skipsF ?_ ?_; (· simp only [List.getElem?_cons_zero, List.getElem?_cons_succ]))
    | (refine Run.skipsU ?_ ?_; (· simp only [List.getElem?_cons_zero, List.getElem?_cons_succ]))
    | (refine Run.passT ?_ ?_; (· simp only [List.getElem?_cons_zero, List.getElem?_cons_succ]))
    | (refine Run.passF ?_ ?_; (· simp only [List.getElem?_cons_zero, List.getElem?_cons_succ]))
    | (refine Run.passU ?_ ?_; (· simp only [List.getElem?_cons_zero, List.getElem?_cons_succ]))
    | fail); simp only [Act.put, List.setIfInBounds_toArray, List.set_cons_zero, List.set_cons_succ])
  refine Run.runsS (Run.oneG (by first | rfl | simp only [List.getElem?_cons_zero, List.getElem?_cons_succ]) (fun hS K hK => ?_))
  refine wp_append (E := ldE) (B := w3.heap.size) (l := l) (m := l) (bytes := 16) ldElem Nat.zero_lt_two (.tmp 46) (.tmp 47) rfl rfl HR5.out rfl (HL3.out.keep hS) (by have := HLL.out; simp [maxLen]; omega) (by have := HLL.out; simp; omega) hS.size ?_
  intro v6 w6 hr hk hg _
  have HK6 : Hid (Below w3.heap.size w3 w6) := Lib.hid (hS.trans hk)
  have HMT := Lib.hid (smean_any _ (l ++ l) w6 hr.rd HOKT.out (by have := HLL.out; simp; omega))
  rw [HTW.out] at HMT
  obtain ⟨LT, hLT⟩ : ∃ q, q = l ++ l := ⟨_, rfl⟩
  rw [← hLT] at hr
  obtain ⟨a6, c6, rfl, _, _⟩ := hr.rd.form
  refine hK.out _ _ HK6.out (fun _ => ⟨fun z => Below w3.heap.size w3 z, fun z h => h, HK6.out, ?_⟩)
  clear hK K hS hr hk hg hLT HOKT HTW HR5 HK5
  simp only [Act.put, List.setIfInBounds_toArray, List.set_cons_zero, List.set_cons_succ]
  repeat ((first
    | (refine Run.takes (v := ?_) ?_ ?_; rotate_left; (· intro w' hS'; go_simp; (try with_reducible rfl)))
    | (refine Run.takesG (v := ?_) ?_ ?_ ?_; rotate_left; (· simp only [List.getElem?_cons_zero, List.getElem?_cons_succ]); (· intro w' hS'; go_simp; (try with_reducible rfl)))
    | (refine Run.skipsT ?_ ?_; (· simp only [List.getElem?_cons_zero, List.getElem?_cons_succ]))
    | (refine Run.skipsF ?_ ?_; (· simp only [List.getElem?_cons_zero, List.getElem?_cons_succ]))
    | (refine Run.skipsU ?_ ?_; (· simp only [List.getElem?_cons_zero, List.getElem?_cons_succ]))
    | (refine Run.passT ?_ ?_; (· simp only [List.getElem?_cons_zero, List.getElem?_cons_succ]))
    | (refine Run.passF ?_ ?_; (· simp only [List.getElem?_cons_zero, List.getElem?_cons_succ]))
    | (refine Run.passU ?_ ?_; (· simp only [List.getElem?_cons_zero, List.getElem?_cons_succ]))
    | (refine Run.runs ?_
       (first
       | (refine Run.callF 19 (by kernel_rfl) (fun hS => HMT.out) rfl ?_)
       | (refine Run.callG 19 (by kernel_rfl) ?_ (fun hS => HMT.out) rfl ?_; (· simp only [List.getElem?_cons_zero, List.getElem?_cons_succ]))
       | fail)
       (first
       | (rintro hS e w' ⟨rfl, rfl⟩; refine ⟨_, rfl, hS, ?_⟩)
       | (rintro hS e w' ⟨rfl, hb⟩; refine ⟨_, rfl, nest hS hb, ?_⟩)
       | fail))
    | fail); simp only [Act.put, List.setIfInBounds_toArray, List.set_cons_zero, List.set_cons_succ])
  refine Run.ends (fun hS => ?_)
  have HE := Lib.hid (nest HK3.out hS)
  clear hS
  go_wp2_with fail
  go_ret
  exact ⟨rfl, HE.out⟩
end Go.Proofs.Ytgkfioloceemcaa.sampleMeans
