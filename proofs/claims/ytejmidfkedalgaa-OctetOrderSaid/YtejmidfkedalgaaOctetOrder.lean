/- Walk of the law OctetOrder. -/
import Derived.Test.YtejmidfkedalgaaOctAwake
namespace Go.Proofs.Ytejmidfkedalgaa.octetOrder
open Go.RowKit Mem
set_option linter.unusedSimpArgs false
set_option linter.unusedVariables false
attribute [local irreducible] Go.Calls

theorem size_of (x : Int) : ∃ j : Nat, j ≤ 7 ∧ (IntKind.u64.wrap x).tmod 8 = (j : Int) := by
  have h0 := wrap_u64_nonneg x
  have h1 := Int.tmod_nonneg 8 h0
  have h2 := Int.tmod_lt_of_pos (IntKind.u64.wrap x) (show (0 : Int) < 8 by omega)
  exact ⟨((IntKind.u64.wrap x).tmod 8).toNat, by omega, by omega⟩
theorem num_of {a : Int} (ba : 0 ≤ a) {j s : Nat} (hj : j ≤ 7) (hs : s + 8 * j = 56) : 0 ≤ IntKind.u64.wrap (a * 2 ^ s) / 2 ^ s ∧ IntKind.u64.wrap (a * 2 ^ s) / 2 ^ s ≤ 18446744073709551615 ∧ num (be (j + 1) (IntKind.u64.wrap (a * 2 ^ s) / 2 ^ s)) = IntKind.u64.wrap (a * 2 ^ s) / 2 ^ s := by
  have h := shift_mod ba (k := j + 1) (by omega) (by omega)
  rw [show 64 - 8 * (j + 1) = s by omega] at h
  rw [IntKind.wrap_u64, h, num_be]
  have h2 : j = 0 ∨ j = 1 ∨ j = 2 ∨ j = 3 ∨ j = 4 ∨ j = 5 ∨ j = 6 ∨ j = 7 := by omega
  rcases h2 with rfl | rfl | rfl | rfl | rfl | rfl | rfl | rfl <;> simp only [Nat.reduceMul, Nat.reduceAdd, Int.reducePow] <;> omega
theorem szj {j : Nat} (hj : j ≤ 7) : szN (1 + (j : Int)) = j + 1 := by unfold szN; split <;> (try split) <;> omega
theorem text_size (l : List Int) : (strOfNums l).size = l.length := by
  have h : (strOfNums l).data.toList = l.map u8 := rfl
  show (strOfNums l).data.size = _
  rw [← Array.length_toList, h]
  simp
theorem conv_exec {o : Oper} {a : Act} {x : Operand} {v : Value} {l : List Int} {w : World} (ho : o.op = .convert 27 9 x) (hx : a.eval x = v) (h : Rd (intE .u8) w v l) :
    (execOp a.eval o).run Try.prog w = .ok (.value (.string (strOfNums l))) w := by
  unfold execOp
  simp only [ho, hx, Sem.run_bind, conv_rd h, Result.andThen_ok, Sem.run_pure]
set_option maxHeartbeats 1000000 in
theorem walk (a : Int) (ba : 0 ≤ a ∧ a ≤ 18446744073709551615) (b : Int) (bb : 0 ≤ b ∧ b ≤ 18446744073709551615) (n : Int) (bn : -9223372036854775808 ≤ n ∧ n ≤ 9223372036854775807) (w : World) :
    Calls Try.prog 6 #[.int .u64 a, .int .u64 b, .int .i64 n] w fun e w' => e = .returned (.bool true) ∧ Below w.heap.size w w' := by
  obtain ⟨j, hj7, hj⟩ := size_of n
  obtain ⟨s, hs⟩ : ∃ s, s + 8 * j = 56 := ⟨56 - 8 * j, by omega⟩
  have e1 : (64 : Int) - 8 * (1 + (j : Int)) = (s : Int) := by omega
  have hs56 : s ≤ 56 := by omega
  have hz : ∀ w, (zeroValue 26).run Try.prog w = .ok (.agg wnew.toArray) w := fun w => run_zero_of (n := 66) wnew_info w
  have HS := Lib.hid hs
  clear hs
  go_enter Try.func6, Try.ntmps6
  go_wp2_with fail
  have hk0 : Below w.heap.size w ((w.alloc (Obj.cells wnew.toArray 26)).alloc (Obj.cells wnew.toArray 26)) := more (more (Below.refl _ _) _) _
  have hw1 : WrAt ((w.alloc (Obj.cells wnew.toArray 26)).alloc (Obj.cells wnew.toArray 26)) w.heap.size [] := (wr_new w).keep (more (Below.refl _ _) _)
  have hw2 : WrAt ((w.alloc (Obj.cells wnew.toArray 26)).alloc (Obj.cells wnew.toArray 26)) (w.heap.size + 1) [] := by
    have := wr_new (w.alloc (Obj.cells wnew.toArray 26))
    simpa using this
  generalize (w.alloc (Obj.cells wnew.toArray 26)).alloc (Obj.cells wnew.toArray 26) = w0 at *
  obtain ⟨a1, a2, a3⟩ := num_of ba.1 hj7 HS.out
  obtain ⟨b1, b2, b3⟩ := num_of bb.1 hj7 HS.out
  generalize IntKind.u64.wrap (a * 2 ^ s) / 2 ^ s = A at *
  generalize IntKind.u64.wrap (b * 2 ^ s) / 2 ^ s = C at *
  clear hz e1 hj
  have hsz := szj hj7
  have HA := Lib.hid a3
  have HC := Lib.hid b3
  have HSZ := Lib.hid hsz
  clear a3 b3 hsz
  refine (oput_any w.heap.size [] A _ ⟨a1, a2⟩ w0 hw1 (by simp)).mono ?_
  rintro e w1 ⟨⟨u, rfl⟩, hx1, ho1⟩
  rw [HSZ.out, List.nil_append] at hx1
  have hy1 := hw2.other ho1 (by omega) hw1
  have hk1 := hk0.trans (ho1.below (Nat.le_refl _) hk0.size)
  clear hw1 hw2 hk0 ho1
  go_wp2_with fail
  refine (oput_any (w.heap.size + 1) [] C _ ⟨b1, b2⟩ w1 hy1 (by simp)).mono ?_
  rintro e w2 ⟨⟨u, rfl⟩, hy2, ho2⟩
  rw [HSZ.out, List.nil_append] at hy2
  have hx2 := hx1.other ho2 (by omega) hy1
  have hk2 := hk1.trans (ho2.below (Nat.le_succ _) hk1.size)
  clear hx1 hy1 hk1 ho2
  have hl1 : (be (j + 1) A).length = j + 1 := be_len _ _
  have hl2 : (be (j + 1) C).length = j + 1 := be_len _ _
  have hy1 := be_byt A (j + 1)
  have hy3 := be_byt C (j + 1)
  obtain ⟨less, same⟩ := less_num _ _ hy1 hy3 (by rw [hl1, hl2])
  rw [HA.out, HC.out] at less same
  generalize be (j + 1) A = L at *
  generalize be (j + 1) C = M at *
  clear hy1 hy3 HA HC
  have HL := Lib.hid less
  have HM := Lib.hid same
  have HX := Lib.hid hx2
  have HY := Lib.hid hy2
  have H1 := Lib.hid hl1
  have H2 := Lib.hid hl2
  clear less same hx2 hy2 hl1 hl2
  go_wp2_with fail
  refine Run.region_walk (S := fun z => Below w2.heap.size w2 z)
    lorder.rows6 lorder.plan6 (l := ?steps5) (by kernel_rfl) (by kernel_rfl) (by kernel_rfl) (by kernel_rfl) ?written5 (Below.refl _ _).drew ?onward5
  case written5 =>
    simp only [lorder.plan6, Run.stepsOf, Run.stepOf, Run.guardOf, List.getElem?_toArray, List.getElem?_cons_zero, List.getElem?_cons_succ, Option.map_some, Option.map_none, Option.bind_some, Option.toList_some, List.map_cons, List.map_nil, List.cons_append, List.nil_append]
    rfl
  repeat ((first
    | (refine Run.takes (v := ?_) ?_ ?_; rotate_left; (· intro w' hS'; go_simp; (try with_reducible rfl)))
    | (refine Run.takesG (v := ?_) ?_ ?_ ?_; rotate_left; (· simp only [List.getElem?_cons_zero, List.getElem?_cons_succ]); (· intro w' hS'; go_simp; (try with_reducible rfl)))
    | (refine Run.skipsT ?_ ?_; (· simp only [List.getElem?_cons_zero, List.getElem?_cons_succ]))
    | (refine Run.skipsF ?_ ?_; (· simp only [List.getElem?_cons_zero, List.getElem?_cons_succ]))
    | (refine Run.skipsU ?_ ?_; (· simp only [List.getElem?_cons_zero, List.getElem?_cons_succ]))
    | (refine Run.passT ?_ ?_; (· simp only [List.getElem?_cons_zero, List.getElem?_cons_succ]))
    | (refine Run.passF ?_ ?_; (· simp only [List.getElem?_cons_zero, List.getElem?_cons_succ]))
    | (refine Run.passU ?_ ?_; (· simp only [List.getElem?_cons_zero, List.getElem?_cons_succ]))
    | fail); simp only [Act.put, List.setIfInBounds_toArray, List.set_cons_zero, List.set_cons_succ])
  refine Run.runsS (Run.callF 14 (by kernel_rfl) (fun hS => obytes_any w.heap.size L _ (HX.out.keep hS) (by rw [H1.out]; omega)) rfl ?_)
  rintro hS e z1 ⟨v1, rfl, hr1, hz1⟩
  have hz2 := nest hS hz1
  refine ⟨_, rfl, hz2, fun _ => ⟨fun z => Below w2.heap.size w2 z ∧ Rd (intE .u8) z v1 L, fun z h => h.1, ⟨hz2, hr1.rd⟩, ?_⟩⟩
  simp only [Act.put, List.setIfInBounds_toArray, List.set_cons_zero, List.set_cons_succ]
  obtain ⟨a1', c1, rfl, _, _⟩ := hr1.rd.form
  clear hS hz1 hz2 hr1
  repeat ((first
    | (refine Run.takes (v := ?_) ?_ ?_; rotate_left; (· intro w' hS'; (first | (refine conv_exec (x := .tmp 44) ?_ ?_ hS'.2 <;> rfl) | (go_simp; (try with_reducible rfl)))))
    | (refine Run.takesG (v := ?_) ?_ ?_ ?_; rotate_left; (· simp only [List.getElem?_cons_zero, List.getElem?_cons_succ]); (· intro w' hS'; (first | (refine conv_exec (x := .tmp 44) ?_ ?_ hS'.2 <;> rfl) | (go_simp; (try with_reducible rfl)))))
    | (refine Run.skipsT ?_ ?_; (· simp only [List.getElem?_cons_zero, List.getElem?_cons_succ]))
    | (refine Run.skipsF ?_ ?_; (· simp only [List.getElem?_cons_zero, List.getElem?_cons_succ]))
    | (refine Run.skipsU ?_ ?_; (· simp only [List.getElem?_cons_zero, List.getElem?_cons_succ]))
    | (refine Run.passT ?_ ?_; (· simp only [List.getElem?_cons_zero, List.getElem?_cons_succ]))
    | (refine Run.passF ?_ ?_; (· simp only [List.getElem?_cons_zero, List.getElem?_cons_succ]))
    | (refine Run.passU ?_ ?_; (· simp only [List.getElem?_cons_zero, List.getElem?_cons_succ]))
    | fail); simp only [Act.put, List.setIfInBounds_toArray, List.set_cons_zero, List.set_cons_succ])
  refine Run.runsS (Run.callF 14 (by kernel_rfl) (fun hS => obytes_any (w.heap.size + 1) M _ (HY.out.keep hS.1) (by rw [H2.out]; omega)) rfl ?_)
  rintro hS e z2 ⟨v2, rfl, hr2, hz2⟩
  have hz3 := nest hS.1 hz2
  refine ⟨_, rfl, ⟨hz3, hS.2.keep hz2⟩, fun _ => ⟨fun z => (Below w2.heap.size w2 z ∧ Rd (intE .u8) z (.slice a1' L.length c1) L) ∧ Rd (intE .u8) z v2 M, fun z h => h.1, ⟨⟨hz3, hS.2.keep hz2⟩, hr2.rd⟩, ?_⟩⟩
  simp only [Act.put, List.setIfInBounds_toArray, List.set_cons_zero, List.set_cons_succ]
  obtain ⟨a2', c2, rfl, _, _⟩ := hr2.rd.form
  clear hS hz2 hr2
  repeat ((first
    | (refine Run.takes (v := ?_) ?_ ?_; rotate_left; (· intro w' hS'; (first | (refine conv_exec (x := .tmp 46) ?_ ?_ hS'.2 <;> rfl) | (go_simp; (try with_reducible rfl)))))
    | (refine Run.takesG (v := ?_) ?_ ?_ ?_; rotate_left; (· simp only [List.getElem?_cons_zero, List.getElem?_cons_succ]); (· intro w' hS'; (first | (refine conv_exec (x := .tmp 46) ?_ ?_ hS'.2 <;> rfl) | (go_simp; (try with_reducible rfl)))))
    | (refine Run.skipsT ?_ ?_; (· simp only [List.getElem?_cons_zero, List.getElem?_cons_succ]))
    | (refine Run.skipsF ?_ ?_; (· simp only [List.getElem?_cons_zero, List.getElem?_cons_succ]))
    | (refine Run.skipsU ?_ ?_; (· simp only [List.getElem?_cons_zero, List.getElem?_cons_succ]))
    | (refine Run.passT ?_ ?_; (· simp only [List.getElem?_cons_zero, List.getElem?_cons_succ]))
    | (refine Run.passF ?_ ?_; (· simp only [List.getElem?_cons_zero, List.getElem?_cons_succ]))
    | (refine Run.passU ?_ ?_; (· simp only [List.getElem?_cons_zero, List.getElem?_cons_succ]))
    | fail); simp only [Act.put, List.setIfInBounds_toArray, List.set_cons_zero, List.set_cons_succ])
  refine Run.ends (fun hS => ?_)
  have hk3 := hk2.trans (hS.1.1.mono hk2.size)
  clear hS hk2 hz3
  generalize hSx : strOfNums L = X at *
  generalize hSy : strOfNums M = Y at *
  have sx : ((X.size : Nat) : Int) = 1 + (j : Int) := by rw [← hSx, text_size, H1.out]; omega
  have sy : ((Y.size : Nat) : Int) = 1 + (j : Int) := by rw [← hSy, text_size, H2.out]; omega
  have hless := HL.out
  have hsame := HM.out
  rw [← text_list, ← text_list, hSx, hSy] at hless hsame
  have HSX := Lib.hid hSx
  have HSY := Lib.hid hSy
  clear hSx hSy
  go_wp2_with fail
  refine (oawake_any z2).mono ?_
  rintro e z3 ⟨rfl, hk4⟩
  have hk5 := hk3.trans (hk4.mono hk3.size)
  clear hk3 hk4
  go_wp2_with fail
  go_ret
  refine ⟨?_, hk5⟩
  have e : decide (A = C) = (A == C) := by
    rw [Bool.eq_iff_iff]
    simp
  show Ending.returned (Value.bool (decide (A = C) == (A == C))) = _
  rw [e, beq_self_eq_true]
end Go.Proofs.Ytejmidfkedalgaa.octetOrder
