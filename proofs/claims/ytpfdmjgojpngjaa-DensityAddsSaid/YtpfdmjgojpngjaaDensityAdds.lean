/- Walk of the law DensityAdds. -/
import Derived.Test.YtpfdmjgojpngjaaDnLaw
import Derived.Test.YtpfdmjgojpngjaaDnMath2
import Derived.Test.YtpfdmjgojpngjaaDnPlansT
set_option maxRecDepth 4000
namespace Go.Proofs.Ytpfdmjgojpngjaa.Mem
open Go Go.RowKit
/-- a slice literal of two structs, or arrays -/
theorem run_fill_two (n : Nat) (Z : Array Value) (C D : List Value) (hZ : Z.size = 2 * n) (hC : C.length = n) (hD : D.length = n) : Instr.fill (fun i => some (i * n, n)) Z [(0, .agg C.toArray), (1, .agg D.toArray)] = some (C ++ D).toArray := by
  have e1 := fold_set C 0 Z (by omega)
  have e2 := fold_set D n (C ++ Z.toList.drop n).toArray (by simp [hC, hZ, hD]; omega)
  have s1 : splice Z.toList 0 C = C ++ Z.toList.drop n := by simp [splice, hC]
  have s2 : splice (C ++ Z.toList.drop n) n D = C ++ D := by
    unfold splice
    rw [List.take_append_of_le_length (by omega), List.take_of_length_le (by omega), List.drop_append, List.drop_drop, List.drop_of_length_le (l := C) (by omega)]
    rw [List.drop_of_length_le (by simp [hZ, hC, hD]; omega)]
    simp
  rw [s1] at e1
  rw [show ((C ++ Z.toList.drop n).toArray).toList = C ++ Z.toList.drop n from rfl, s2] at e2
  have c1 : (Value.agg C.toArray).cells = C.toArray := rfl
  have c2 : (Value.agg D.toArray).cells = D.toArray := rfl
  simp only [Instr.fill, c1, c2, Nat.zero_mul, Nat.one_mul, hC, hD, List.size_toArray]
  rw [e1, e2, if_neg (by simp; omega), if_neg (by simp; omega)]
theorem wp_build_two {P : Program} {t e : TypeId} {size bytes : Nat} (I : Elem P t e size bytes) (hpos : 0 < size) (hsm : size ≤ 1000) {o : Oper} {a : Act} {w : World} {K : Act → World → Prop} {Q : Exit → Act → World → Prop} (x y : Operand) (ho : o.op = .buildSlice t 2 #[(0, x), (1, y)])
    {C D : List Value} (hx : a.eval x = .agg C.toArray) (hy : a.eval y = .agg D.toArray) (hC : C.length = size) (hD : D.length = size) (h : K (a.put o.dst (.slice (some ⟨w.heap.size, 0, none⟩) 2 2)) (w.alloc (.cells (C ++ D).toArray e))) : o.wp P a w K Q := by
  obtain ⟨hu, i, z, hi, hz, hs, _, hzs⟩ := I
  refine wp_buildSlice t e 2 _ ho (C ++ D).toArray i z hu hi hz (by omega) (by omega) ?_ h
  have e1 : (#[(0, x), (1, y)].map fun (i, x) => (i, a.eval x)).toList = [(0, Value.agg C.toArray), (1, Value.agg D.toArray)] := by simp [hx, hy]
  rw [e1, hs]
  exact run_fill_two size _ _ _ (by simp) hC hD
end Go.Proofs.Ytpfdmjgojpngjaa.Mem
namespace Go.Proofs.Ytpfdmjgojpngjaa.densityAdds
open Go.RowKit Mem Cir
set_option linter.unusedSimpArgs false
set_option linter.unusedVariables false
attribute [local irreducible] Go.Calls

theorem two_rd (w : World) (X Y : Den) : Rd denE (w.alloc (.cells (dcs X.1 ++ dcs Y.1).toArray 24)) (.slice (some ⟨w.heap.size, 0, none⟩) 2 2) [X, Y] := by
  refine ⟨_, 2, rfl, Nat.le_refl _, by decide, fun _ => ⟨w.heap.size, 0, rfl, fun j u hu => ?_⟩⟩
  rw [Nat.zero_add, (Blk.new w 24 (dcs X.1 ++ dcs Y.1).toArray).cell, List.getElem?_toArray]
  have e : (vecE 16 .u32).flat [X, Y] = dcs X.1 ++ dcs Y.1 := by simp [Enc.flat, vecE, dcs]
  rw [← e]
  exact hu
set_option maxRecDepth 100000 in
set_option maxHeartbeats 8000000 in
theorem walk (a : Int) (ba : 0 ≤ a ∧ a ≤ 4294967295) (b : Int) (bb : 0 ≤ b ∧ b ≤ 4294967295) (n : Int) (bn : -9223372036854775808 ≤ n ∧ n ≤ 9223372036854775807) (m : Int) (bm : -9223372036854775808 ≤ m ∧ m ≤ 9223372036854775807) (w : World) :
    Calls Try.prog 6 #[.int .u32 a, .int .u32 b, .int .i64 n, .int .i64 m] w fun e w' => e = .returned (.bool true) ∧ Below w.heap.size w w' := by
  have HBA := Lib.hid ba
  have HBB := Lib.hid bb
  obtain ⟨N, hN, hNq⟩ : ∃ N : Int, (0 ≤ N ∧ N ≤ 999) ∧ wrap64 ((IntKind.u64.wrap n).tmod 1000) = N := by
    have q0 : 0 ≤ IntKind.u64.wrap n := by rw [IntKind.wrap_u64]; omega
    have q1 : 0 ≤ (IntKind.u64.wrap n).tmod 1000 := Int.tmod_nonneg _ q0
    have q2 := Int.tmod_lt_of_pos (IntKind.u64.wrap n) (show (0 : Int) < 1000 by omega)
    exact ⟨_, by unfold wrap64; omega, rfl⟩
  obtain ⟨M, hM, hMq⟩ : ∃ N : Int, (0 ≤ N ∧ N ≤ 999) ∧ wrap64 ((IntKind.u64.wrap m).tmod 1000) = N := by
    have q0 : 0 ≤ IntKind.u64.wrap m := by rw [IntKind.wrap_u64]; omega
    have q1 : 0 ≤ (IntKind.u64.wrap m).tmod 1000 := Int.tmod_nonneg _ q0
    have q2 := Int.tmod_lt_of_pos (IntKind.u64.wrap m) (show (0 : Int) < 1000 by omega)
    exact ⟨_, by unfold wrap64; omega, rfl⟩
  have HN := Lib.hid hN
  have HM := Lib.hid hM
  clear ba bb hN hM
  go_enter Try.func6, Try.ntmps6
  go_upto_region 2 with fail
  rw [hNq, hMq]
  clear hNq hMq bn bm
  have HX1 := Lib.hid (fun z => dadd_any zeroD a N okD_zero HBA.out (by have := HN.out; omega) z)
  have HY1 := Lib.hid (fun z => dadd_any zeroD b M okD_zero HBB.out (by have := HM.out; omega) z)
  have HX2 := Lib.hid (fun z => dadd_any (addD zeroD a N) b M (okD_zero.add _ _) HBB.out (by have := HM.out; omega) z)
  have HY2 := Lib.hid (fun z => dadd_any (addD zeroD b M) a N (okD_zero.add _ _) HBA.out (by have := HN.out; omega) z)
  have HXO := Lib.hid ((okD_zero.add a N).add b M)
  have HZ1 := Lib.hid (fun z => dadd_any (addD (addD zeroD a N) b M) a (-N) HXO.out HBA.out (by have := HN.out; omega) z)
  have HZ2 := Lib.hid (fun z => dadd_any (addD (addD (addD zeroD a N) b M) a (-N)) b (-M) (HXO.out.add _ _) HBB.out (by have := HM.out; omega) z)
  have HAL := Lib.hid (fun z => dall_any (addD (addD zeroD a N) b M) HXO.out z)
  rw [← adds_same a b N M HBA.out HBB.out HN.out HM.out] at HY2
  rw [adds_back a b N M HBA.out HBB.out HN.out HM.out] at HZ2
  rw [adds_all a b N M HBA.out HBB.out HN.out HM.out] at HAL
  have HL5 := Lib.hid (fun z => dadd_any zeroD a (-5) okD_zero HBA.out (by omega) z)
  rw [adds_less a HBA.out] at HL5
  have HXL : Hid ((addD (addD zeroD a N) b M).length = 16) := Lib.hid HXO.out.1
  generalize addD (addD (addD zeroD a N) b M) a (-N) = Z1 at *
  generalize addD (addD zeroD a N) b M = X at *
  generalize addD zeroD a N = X1 at *
  generalize addD zeroD b M = Y1 at *
  go_upto_region 3 with (first | (go_at_call 11; first | (refine (HX1.out _).mono ?_; rintro e w1a ⟨rfl, hk1a⟩) | (refine (HX2.out _).mono ?_; rintro e w1b ⟨rfl, hk1b⟩)) | (refine at_store 9 rfl ?_; refine wpList_store_row rfl 24 (.tmp 9) (.tmp 26) rfl w1b.heap.size (dcs X).toArray rfl rfl 24 _ (heap_alloc_new w1b _) (den_info _ HXL.out) (den_sz HXL.out) (dcs_one _) ?_))
  rw [World.setRow_alloc_new]
  have HK1 : Hid (Below w.heap.size w (w1b.alloc (.cells (dcs X).toArray 24))) := Lib.hid (more (nest hk1a hk1b) _)
  have HP : Hid (Blk (w1b.alloc (.cells (dcs X).toArray 24)) w1b.heap.size 24 (dcs X).toArray) := Lib.hid (Blk.new _ _ _)
  clear hk1a hk1b
  generalize w1b.alloc (.cells (dcs X).toArray 24) = w2 at *
  obtain ⟨p, hp⟩ : ∃ p, p = w1b.heap.size := ⟨_, rfl⟩
  rw [← hp] at HP ⊢
  clear hp
  go_upto_region 4 with (first | (go_at_call 11; first | (refine (HY1.out _).mono ?_; rintro e w3a ⟨rfl, hk3a⟩) | (refine (HY2.out _).mono ?_; rintro e w3b ⟨rfl, hk3b⟩)) | (refine at_store 10 rfl ?_; refine wpList_store_row rfl 24 (.tmp 10) (.tmp 33) rfl w3b.heap.size (dcs X).toArray rfl rfl 24 _ (heap_alloc_new w3b _) (den_info _ HXL.out) (den_sz HXL.out) (dcs_one _) ?_))
  rw [World.setRow_alloc_new]
  have hk : Below w2.heap.size w2 (w3b.alloc (.cells (dcs X).toArray 24)) := more (nest hk3a hk3b) _
  replace HK1 := Lib.hid (nest HK1.out hk)
  replace HP := Lib.hid (HP.out.keep hk)
  have HQ : Hid (Blk (w3b.alloc (.cells (dcs X).toArray 24)) w3b.heap.size 24 (dcs X).toArray) := Lib.hid (Blk.new _ _ _)
  clear hk3a hk3b hk
  generalize w3b.alloc (.cells (dcs X).toArray 24) = w4 at *
  obtain ⟨q, hq⟩ : ∃ p, p = w3b.heap.size := ⟨_, rfl⟩
  rw [← hq] at HQ ⊢
  clear hq
  have hneg1 : wrap64 (-N) = -N := IntWalk.wrap64_in _ (by have := HN.out; omega)
  have hneg2 : wrap64 (-M) = -M := IntWalk.wrap64_in _ (by have := HM.out; omega)
  go_upto_region 5 with (first | (go_at_call 11; first | (refine (HZ1.out _).mono ?_; rintro e w5a ⟨rfl, hk5a⟩) | (refine (HZ2.out _).mono ?_; rintro e w5b ⟨rfl, hk5b⟩)) | (refine at_load 9 rfl ?_; refine wpList_load_row rfl 24 (.tmp 9) rfl p rfl 24 _ (0, 0) _ HP.out Try.underlying24 rfl (den_info _ HXL.out) ?_) | (refine at_store 11 rfl ?_; refine wpList_store_row rfl 24 (.tmp 11) (.tmp 42) rfl w5b.heap.size (dcs zeroD).toArray rfl rfl 24 _ (heap_alloc_new w5b _) (den_info _ rfl) (den_sz rfl) (dcs_one _) ?_))
  rw [World.setRow_alloc_new]
  have hk : Below w4.heap.size w4 (w5b.alloc (.cells (dcs zeroD).toArray 24)) := more (nest hk5a hk5b) _
  replace HK1 := Lib.hid (nest HK1.out hk)
  replace HP := Lib.hid (HP.out.keep hk)
  replace HQ := Lib.hid (HQ.out.keep hk)
  have HZ : Hid (Blk (w5b.alloc (.cells (dcs zeroD).toArray 24)) w5b.heap.size 24 (dcs zeroD).toArray) := Lib.hid (Blk.new _ _ _)
  clear hk5a hk5b hk hneg1 hneg2 HX1 HX2 HY1 HY2 HZ1 HZ2
  generalize w5b.alloc (.cells (dcs zeroD).toArray 24) = w6 at *
  obtain ⟨r, hr⟩ : ∃ p, p = w5b.heap.size := ⟨_, rfl⟩
  rw [← hr] at HZ ⊢
  clear hr
  simp only [Act.put]
  have heq1 := fun z => den_eql HXL.out HXL.out z
  have heq2 := fun z => den_eql (l := zeroD) (m := zeroD) rfl rfl z
  rw [show decide (X = X) = true by simp] at heq1
  rw [show decide (zeroD = zeroD) = true by simp] at heq2
  have heq3 : ∀ z, (binOp .eql 24 (.agg (dcs zeroD).toArray) (.agg #[.int .u32 0, .int .u32 0, .int .u32 0, .int .u32 0, .int .u32 0, .int .u32 0, .int .u32 0, .int .u32 0, .int .u32 0, .int .u32 0, .int .u32 0, .int .u32 0, .int .u32 0, .int .u32 0, .int .u32 0, .int .u32 0])).run Try.prog z = .ok (.bool true) z := heq2
  have hs1 : IntKind.i64.wrap (N + M) = N + M := by rw [IntWalk.i64_in _ (by have := HN.out; have := HM.out; omega)]
  have hs2 : IntKind.u64.wrap (N + M) = N + M := by rw [IntKind.wrap_u64]; have := HN.out; have := HM.out; omega
  obtain ⟨SX, hSX⟩ : ∃ x, x = sumD (vals [⟨X, HXL.out⟩, ⟨X, HXL.out⟩]) := ⟨_, rfl⟩
  have hSO : SX.length = 16 := by rw [hSX]; exact (okD.sum _).1
  have heq4 := fun z => den_eql hSO hSO z
  rw [show decide (SX = SX) = true by simp] at heq4
  have HSM := Lib.hid (fun (z : World) (v : Value) (hv : Rd denE z v [⟨X, HXL.out⟩, ⟨X, HXL.out⟩]) => dsum_any v [⟨X, HXL.out⟩, ⟨X, HXL.out⟩] z hv (fun x hx => by simp at hx; subst hx; exact HXO.out) (by simp))
  rw [← hSX] at HSM
  clear hSX hSO
  refine Run.region_tree (S := fun z => Below w6.heap.size w6 z)
    ldadds.rows5 ldadds.tree5 (l := ?_) (by kernel_rfl) (by kernel_rfl) (by kernel_rfl) (by kernel_rfl) ?_ (Below.refl _ _).drew ?_
  rotate_left
  (· simp only [ldadds.tree5, Run.treeOf, Option.elim_some, Run.guardOf, List.getElem?_toArray, List.getElem?_cons_zero, List.getElem?_cons_succ, Option.map_some, Option.map_none, Option.bind_some, List.append_eq]
     rfl)
  repeat ((first
    | (refine Run.tTakes (v := ?_) ?_ ?_; rotate_left; (· intro w' hS'; (first | (refine exec_load_arr (n := 16) (x := .tmp 9) (l := dcs X) ?_ Try.underlying24 den_i (by rw [dcs_len]; exact HXL.out) ?_ (HP.out.keep hS') <;> rfl) | (refine exec_load_arr (n := 16) (x := .tmp 10) (l := dcs X) ?_ Try.underlying24 den_i (by rw [dcs_len]; exact HXL.out) ?_ (HQ.out.keep hS') <;> rfl) | (refine exec_load_arr (n := 16) (x := .tmp 11) (l := dcs zeroD) ?_ Try.underlying24 den_i (by rw [dcs_len]; rfl) ?_ (HZ.out.keep hS') <;> rfl) | (go_simp; (try with_reducible rfl)))))
    | (refine Run.tTakesG (v := ?_) ?_ ?_ ?_; rotate_left; (· simp only [List.getElem?_cons_zero, List.getElem?_cons_succ]); (· intro w' hS'; (first | (refine exec_load_arr (n := 16) (x := .tmp 9) (l := dcs X) ?_ Try.underlying24 den_i (by rw [dcs_len]; exact HXL.out) ?_ (HP.out.keep hS') <;> rfl) | (refine exec_load_arr (n := 16) (x := .tmp 10) (l := dcs X) ?_ Try.underlying24 den_i (by rw [dcs_len]; exact HXL.out) ?_ (HQ.out.keep hS') <;> rfl) | (refine exec_load_arr (n := 16) (x := .tmp 11) (l := dcs zeroD) ?_ Try.underlying24 den_i (by rw [dcs_len]; rfl) ?_ (HZ.out.keep hS') <;> rfl) | (go_simp; (try with_reducible rfl)))))
    | (refine Run.tSkipsT ?_ ?_; (· simp only [List.getElem?_cons_zero, List.getElem?_cons_succ]))
    | (refine Run.tSkipsF ?_ ?_; (· simp only [List.getElem?_cons_zero, List.getElem?_cons_succ]))
    | (refine Run.tSkipsU ?_ ?_; (· simp only [List.getElem?_cons_zero, List.getElem?_cons_succ]))
    | (refine Run.tPassT ?_ ?_; (· simp only [List.getElem?_cons_zero, List.getElem?_cons_succ]))
    | (refine Run.tPassF ?_ ?_; (· simp only [List.getElem?_cons_zero, List.getElem?_cons_succ]))
    | (refine Run.tPassU ?_ ?_; (· simp only [List.getElem?_cons_zero, List.getElem?_cons_succ]))
    | (refine Run.tRuns ?_
       (first
       | (refine Run.callF 9 (by kernel_rfl) (fun hS => dawake_any _) rfl ?_)
       | (refine Run.callG 9 (by kernel_rfl) ?_ (fun hS => dawake_any _) rfl ?_; (· simp only [List.getElem?_cons_zero, List.getElem?_cons_succ]))
       | (refine Run.callF 13 (by kernel_rfl) (fun hS => HAL.out _) rfl ?_)
       | (refine Run.callG 13 (by kernel_rfl) ?_ (fun hS => HAL.out _) rfl ?_; (· simp only [List.getElem?_cons_zero, List.getElem?_cons_succ]))
       | (refine Run.callF 11 (by kernel_rfl) (fun hS => HL5.out _) rfl ?_)
       | (refine Run.callG 11 (by kernel_rfl) ?_ (fun hS => HL5.out _) rfl ?_; (· simp only [List.getElem?_cons_zero, List.getElem?_cons_succ]))
       | fail)
       (first
       | (rintro hS e w' ⟨rfl, rfl⟩; refine ⟨_, rfl, hS, ?_⟩)
       | (rintro hS e w' ⟨rfl, hb⟩; refine ⟨_, rfl, nest hS hb, ?_⟩)
       | fail))
    | fail); simp only [Act.put, List.setIfInBounds_toArray, List.set_cons_zero, List.set_cons_succ])
  refine Run.tNode (Run.tAlt ?_ (Run.tAlt ?_ Run.tStop))
  · skip
    refine Run.oneG (by simp only [List.getElem?_cons_zero, List.getElem?_cons_succ]) (fun hS K hK => ?_)
    refine wp_build_two denElem (by decide) (by decide) (.tmp 71) (.tmp 72) rfl (C := dcs X) (D := dcs X) rfl rfl (by rw [dcs_len]; exact HXL.out) (by rw [dcs_len]; exact HXL.out) ?_
    have hsz1 : Below w6.heap.size w6 (w'.alloc (.cells (dcs X ++ dcs X).toArray 24)) := more hS _
    refine hK.out _ _ hsz1 ?_
    have R73 : Hid (Rd denE (w'.alloc (.cells (dcs X ++ dcs X).toArray 24)) (.slice (some ⟨w'.heap.size, 0, none⟩) 2 2) [⟨X, HXL.out⟩, ⟨X, HXL.out⟩]) := Lib.hid (two_rd w' ⟨X, HXL.out⟩ ⟨X, HXL.out⟩)
    clear hK K hS
    simp only [Act.put, List.setIfInBounds_toArray, List.set_cons_zero, List.set_cons_succ]
    generalize w'.alloc (.cells (dcs X ++ dcs X).toArray 24) = z1 at *
    generalize w'.heap.size = n73 at R73 ⊢
    refine Run.tNode (Run.tAlt ?_ (Run.tAlt ?_ Run.tStop))
    · skip
      refine Run.callG 17 (by kernel_rfl) (by simp only [List.getElem?_cons_zero, List.getElem?_cons_succ]) (fun hS => HSM.out _ _ R73.out) rfl ?_
      rintro hS e z2 ⟨rfl, hb⟩
      refine ⟨_, rfl, nest hS hb, ?_⟩
      replace R73 := Lib.hid (R73.out.keep hb)
      clear hS hb
      simp only [Act.put, List.setIfInBounds_toArray, List.set_cons_zero, List.set_cons_succ]
      refine Run.tNode (Run.tAlt ?_ Run.tStop)
      refine Run.oneG (by simp only [List.getElem?_cons_zero, List.getElem?_cons_succ]) (fun hS K hK => ?_)
      refine wp_build_two denElem (by decide) (by decide) (.tmp 75) (.tmp 76) rfl (C := dcs X) (D := dcs X) rfl rfl (by rw [dcs_len]; exact HXL.out) (by rw [dcs_len]; exact HXL.out) ?_
      have hsz3 : Below w6.heap.size w6 (z2.alloc (.cells (dcs X ++ dcs X).toArray 24)) := more hS _
      refine hK.out _ _ hsz3 ?_
      have R77 : Hid (Rd denE (z2.alloc (.cells (dcs X ++ dcs X).toArray 24)) (.slice (some ⟨z2.heap.size, 0, none⟩) 2 2) [⟨X, HXL.out⟩, ⟨X, HXL.out⟩]) := Lib.hid (two_rd z2 ⟨X, HXL.out⟩ ⟨X, HXL.out⟩)
      clear hK K hS
      simp only [Act.put, List.setIfInBounds_toArray, List.set_cons_zero, List.set_cons_succ]
      generalize z2.alloc (.cells (dcs X ++ dcs X).toArray 24) = z3 at *
      generalize z2.heap.size = n77 at R77 ⊢
      refine Run.tNode (Run.tAlt ?_ Run.tStop)
      refine Run.callG 17 (by kernel_rfl) (by simp only [List.getElem?_cons_zero, List.getElem?_cons_succ]) (fun hS => HSM.out _ _ R77.out) rfl ?_
      rintro hS e z4 ⟨rfl, hb⟩
      refine ⟨_, rfl, nest hS hb, ?_⟩
      clear hS hb
      simp only [Act.put, List.setIfInBounds_toArray, List.set_cons_zero, List.set_cons_succ]
      repeat ((first
        | (refine Run.tTakes (v := ?_) ?_ ?_; rotate_left; (· intro w' hS'; go_simp; (try with_reducible rfl)))
        | (refine Run.tTakesG (v := ?_) ?_ ?_ ?_; rotate_left; (· simp only [List.getElem?_cons_zero, List.getElem?_cons_succ]); (· intro w' hS'; go_simp; (try with_reducible rfl)))
        | (refine Run.tSkipsT ?_ ?_; (· simp only [List.getElem?_cons_zero, List.getElem?_cons_succ]))
        | (refine Run.tSkipsF ?_ ?_; (· simp only [List.getElem?_cons_zero, List.getElem?_cons_succ]))
        | (refine Run.tSkipsU ?_ ?_; (· simp only [List.getElem?_cons_zero, List.getElem?_cons_succ]))
        | (refine Run.tPassT ?_ ?_; (· simp only [List.getElem?_cons_zero, List.getElem?_cons_succ]))
        | (refine Run.tPassF ?_ ?_; (· simp only [List.getElem?_cons_zero, List.getElem?_cons_succ]))
        | (refine Run.tPassU ?_ ?_; (· simp only [List.getElem?_cons_zero, List.getElem?_cons_succ]))
        | fail); simp only [Act.put, List.setIfInBounds_toArray, List.set_cons_zero, List.set_cons_succ])
      refine Run.tEnds (fun hS => ?_)
      have HK5 := Lib.hid (nest HK1.out hS)
      clear hS
      go_wp2_with fail
      go_ret
      exact ⟨rfl, HK5.out⟩
    · skip
      refine Run.oneG (by simp only [List.getElem?_cons_zero, List.getElem?_cons_succ]) (fun hS K hK => ?_)
      refine wp_build_two denElem (by decide) (by decide) (.tmp 75) (.tmp 76) rfl (C := dcs X) (D := dcs X) rfl rfl (by rw [dcs_len]; exact HXL.out) (by rw [dcs_len]; exact HXL.out) ?_
      have hsz3 : Below w6.heap.size w6 (z1.alloc (.cells (dcs X ++ dcs X).toArray 24)) := more hS _
      refine hK.out _ _ hsz3 ?_
      have R77 : Hid (Rd denE (z1.alloc (.cells (dcs X ++ dcs X).toArray 24)) (.slice (some ⟨z1.heap.size, 0, none⟩) 2 2) [⟨X, HXL.out⟩, ⟨X, HXL.out⟩]) := Lib.hid (two_rd z1 ⟨X, HXL.out⟩ ⟨X, HXL.out⟩)
      replace R73 := Lib.hid (R73.out.keep (more (Below.refl _ _) (.cells (dcs X ++ dcs X).toArray 24) : Below z1.heap.size z1 _))
      clear hK K hS
      simp only [Act.put, List.setIfInBounds_toArray, List.set_cons_zero, List.set_cons_succ]
      generalize z1.alloc (.cells (dcs X ++ dcs X).toArray 24) = z3 at *
      generalize z1.heap.size = n77 at R77 ⊢
      refine Run.tNode (Run.tAlt ?_ Run.tStop)
      refine Run.callG 17 (by kernel_rfl) (by simp only [List.getElem?_cons_zero, List.getElem?_cons_succ]) (fun hS => HSM.out _ _ R73.out) rfl ?_
      rintro hS e z2 ⟨rfl, hb⟩
      refine ⟨_, rfl, nest hS hb, ?_⟩
      replace R77 := Lib.hid (R77.out.keep hb)
      clear hS hb
      simp only [Act.put, List.setIfInBounds_toArray, List.set_cons_zero, List.set_cons_succ]
      refine Run.tNode (Run.tAlt ?_ Run.tStop)
      refine Run.callG 17 (by kernel_rfl) (by simp only [List.getElem?_cons_zero, List.getElem?_cons_succ]) (fun hS => HSM.out _ _ R77.out) rfl ?_
      rintro hS e z4 ⟨rfl, hb⟩
      refine ⟨_, rfl, nest hS hb, ?_⟩
      clear hS hb
      simp only [Act.put, List.setIfInBounds_toArray, List.set_cons_zero, List.set_cons_succ]
      repeat ((first
        | (refine Run.tTakes (v := ?_) ?_ ?_; rotate_left; (· intro w' hS'; go_simp; (try with_reducible rfl)))
        | (refine Run.tTakesG (v := ?_) ?_ ?_ ?_; rotate_left; (· simp only [List.getElem?_cons_zero, List.getElem?_cons_succ]); (· intro w' hS'; go_simp; (try with_reducible rfl)))
        | (refine Run.tSkipsT ?_ ?_; (· simp only [List.getElem?_cons_zero, List.getElem?_cons_succ]))
        | (refine Run.tSkipsF ?_ ?_; (· simp only [List.getElem?_cons_zero, List.getElem?_cons_succ]))
        | (refine Run.tSkipsU ?_ ?_; (· simp only [List.getElem?_cons_zero, List.getElem?_cons_succ]))
        | (refine Run.tPassT ?_ ?_; (· simp only [List.getElem?_cons_zero, List.getElem?_cons_succ]))
        | (refine Run.tPassF ?_ ?_; (· simp only [List.getElem?_cons_zero, List.getElem?_cons_succ]))
        | (refine Run.tPassU ?_ ?_; (· simp only [List.getElem?_cons_zero, List.getElem?_cons_succ]))
        | fail); simp only [Act.put, List.setIfInBounds_toArray, List.set_cons_zero, List.set_cons_succ])
      refine Run.tEnds (fun hS => ?_)
      have HK5 := Lib.hid (nest HK1.out hS)
      clear hS
      go_wp2_with fail
      go_ret
      exact ⟨rfl, HK5.out⟩
  · skip
    refine Run.oneG (by simp only [List.getElem?_cons_zero, List.getElem?_cons_succ]) (fun hS K hK => ?_)
    refine wp_build_two denElem (by decide) (by decide) (.tmp 75) (.tmp 76) rfl (C := dcs X) (D := dcs X) rfl rfl (by rw [dcs_len]; exact HXL.out) (by rw [dcs_len]; exact HXL.out) ?_
    have hsz1 : Below w6.heap.size w6 (w'.alloc (.cells (dcs X ++ dcs X).toArray 24)) := more hS _
    refine hK.out _ _ hsz1 ?_
    have R77 : Hid (Rd denE (w'.alloc (.cells (dcs X ++ dcs X).toArray 24)) (.slice (some ⟨w'.heap.size, 0, none⟩) 2 2) [⟨X, HXL.out⟩, ⟨X, HXL.out⟩]) := Lib.hid (two_rd w' ⟨X, HXL.out⟩ ⟨X, HXL.out⟩)
    clear hK K hS
    simp only [Act.put, List.setIfInBounds_toArray, List.set_cons_zero, List.set_cons_succ]
    generalize w'.alloc (.cells (dcs X ++ dcs X).toArray 24) = z1 at *
    generalize w'.heap.size = n77 at R77 ⊢
    refine Run.tNode (Run.tAlt ?_ Run.tStop)
    refine Run.oneG (by simp only [List.getElem?_cons_zero, List.getElem?_cons_succ]) (fun hS K hK => ?_)
    refine wp_build_two denElem (by decide) (by decide) (.tmp 71) (.tmp 72) rfl (C := dcs X) (D := dcs X) rfl rfl (by rw [dcs_len]; exact HXL.out) (by rw [dcs_len]; exact HXL.out) ?_
    have hsz3 : Below w6.heap.size w6 (z1.alloc (.cells (dcs X ++ dcs X).toArray 24)) := more hS _
    refine hK.out _ _ hsz3 ?_
    have R73 : Hid (Rd denE (z1.alloc (.cells (dcs X ++ dcs X).toArray 24)) (.slice (some ⟨z1.heap.size, 0, none⟩) 2 2) [⟨X, HXL.out⟩, ⟨X, HXL.out⟩]) := Lib.hid (two_rd z1 ⟨X, HXL.out⟩ ⟨X, HXL.out⟩)
    replace R77 := Lib.hid (R77.out.keep (more (Below.refl _ _) (.cells (dcs X ++ dcs X).toArray 24) : Below z1.heap.size z1 _))
    clear hK K hS
    simp only [Act.put, List.setIfInBounds_toArray, List.set_cons_zero, List.set_cons_succ]
    generalize z1.alloc (.cells (dcs X ++ dcs X).toArray 24) = z3 at *
    generalize z1.heap.size = n73 at R73 ⊢
    refine Run.tNode (Run.tAlt ?_ Run.tStop)
    refine Run.callG 17 (by kernel_rfl) (by simp only [List.getElem?_cons_zero, List.getElem?_cons_succ]) (fun hS => HSM.out _ _ R73.out) rfl ?_
    rintro hS e z2 ⟨rfl, hb⟩
    refine ⟨_, rfl, nest hS hb, ?_⟩
    replace R77 := Lib.hid (R77.out.keep hb)
    clear hS hb
    simp only [Act.put, List.setIfInBounds_toArray, List.set_cons_zero, List.set_cons_succ]
    refine Run.tNode (Run.tAlt ?_ Run.tStop)
    refine Run.callG 17 (by kernel_rfl) (by simp only [List.getElem?_cons_zero, List.getElem?_cons_succ]) (fun hS => HSM.out _ _ R77.out) rfl ?_
    rintro hS e z4 ⟨rfl, hb⟩
    refine ⟨_, rfl, nest hS hb, ?_⟩
    clear hS hb
    simp only [Act.put, List.setIfInBounds_toArray, List.set_cons_zero, List.set_cons_succ]
    repeat ((first
      | (refine Run.tTakes (v := ?_) ?_ ?_; rotate_left; (· intro w' hS'; go_simp; (try with_reducible rfl)))
      | (refine Run.tTakesG (v := ?_) ?_ ?_ ?_; rotate_left; (· simp only [List.getElem?_cons_zero, List.getElem?_cons_succ]); (· intro w' hS'; go_simp; (try with_reducible rfl)))
      | (refine Run.tSkipsT ?_ ?_; (· simp only [List.getElem?_cons_zero, List.getElem?_cons_succ]))
      | (refine Run.tSkipsF ?_ ?_; (· simp only [List.getElem?_cons_zero, List.getElem?_cons_succ]))
      | (refine Run.tSkipsU ?_ ?_; (· simp only [List.getElem?_cons_zero, List.getElem?_cons_succ]))
      | (refine Run.tPassT ?_ ?_; (· simp only [List.getElem?_cons_zero, List.getElem?_cons_succ]))
      | (refine Run.tPassF ?_ ?_; (· simp only [List.getElem?_cons_zero, List.getElem?_cons_succ]))
      | (refine Run.tPassU ?_ ?_; (· simp only [List.getElem?_cons_zero, List.getElem?_cons_succ]))
      | fail); simp only [Act.put, List.setIfInBounds_toArray, List.set_cons_zero, List.set_cons_succ])
    refine Run.tEnds (fun hS => ?_)
    have HK5 := Lib.hid (nest HK1.out hS)
    clear hS
    go_wp2_with fail
    go_ret
    exact ⟨rfl, HK5.out⟩
end Go.Proofs.Ytpfdmjgojpngjaa.densityAdds
