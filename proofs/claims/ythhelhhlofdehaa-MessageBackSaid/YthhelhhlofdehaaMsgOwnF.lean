/- Package message: putParts, kinds 1 to 4 (written by genmsgput.py). -/
import Derived.Test.YthhelhhlofdehaaMsgOwnE
import Derived.Test.YthhelhhlofdehaaMsgPack
import Derived.Deep.WholeRow
import Derived.Deep.DeepCutAuto
set_option maxRecDepth 4000
namespace Go.Proofs.Ythhelhhlofdehaa
open Go.RowKit Mem
set_option linter.unusedSimpArgs false
set_option linter.unusedVariables false
attribute [local irreducible] Go.Calls

theorem pcs_one' (p : Prt) : (pcs p).toArray.all (fun x => x.oneCell') = true := by simp [pcs, Value.oneCell']
set_option maxRecDepth 100000 in
set_option maxHeartbeats 4000000 in
theorem oput1_any (b : Nat) (Q : List Int) (attrs : Int) (m : Msg) (v bx r : Value) (w0 w : World) (hq : m.kind = 1) (hF : RightF attrs m) (hM : MRd w0 m v bx r) (hBD : MB m) (hw : WrAt w b Q) (hk : Below w0.heap.size w0 w) (hb : w0.heap.size ≤ b) (hQ : Q.length ≤ 100) :
    Calls Try.prog 29 #[.pointer (some ⟨b, 0, none⟩), .agg (mcs m v bx r).toArray] w (AddPost b (Q ++ tailM m) w) := by
  have hlt := hw.lt
  have hk0 : Below w.heap.size w (w.alloc (.cells (mcs m v bx r).toArray 34)) := more (Below.refl _ _) _
  have HBK := Lib.hid (Blk.newAt w 34 (mcs m v bx r).toArray rfl)
  have HW0 := Lib.hid (hw.keep hk0)
  have HO0 := Lib.hid (Only.of_below (b := b) hk0)
  have HM := Lib.hid hM
  have HBD := Lib.hid hBD
  have HF := Lib.hid hF
  have HKW := Lib.hid hk
  have HB := Lib.hid hb
  have HLT := Lib.hid hlt
  have HQ := Lib.hid hq
  obtain ⟨Q0, hQ0⟩ : ∃ Q0, Q0 = Q := ⟨_, rfl⟩
  rw [← hQ0] at HW0 hQ
  have HE0 := Lib.hid hQ0
  have HL0 : Hid (Q0.length ≤ 100) := Lib.hid hQ
  have kh := hF.hops
  have kt := hF.turn
  have kow : 0 ≤ m.owner ∧ m.owner ≤ 4294967295 := hBD.owner
  have ksf : 0 ≤ m.sf ∧ m.sf ≤ 4294967295 := hBD.sf
  have kst : 0 ≤ m.st ∧ m.st ≤ 4294967295 := hBD.st
  have uw_hops : IntKind.u64.wrap m.hops = m.hops := IntWalk.u64_in _ (by omega)
  have uw_turn : IntKind.u64.wrap m.turn = m.turn := IntWalk.u64_in _ (by omega)
  have uw_owner : IntKind.u64.wrap m.owner = m.owner := IntWalk.u64_in _ (by omega)
  have uw_sf : IntKind.u64.wrap m.sf = m.sf := IntWalk.u64_in _ (by omega)
  have uw_st : IntKind.u64.wrap m.st = m.st := IntWalk.u64_in _ (by omega)
  obtain ⟨gn, hgn⟩ : ∃ gn : Int, gn = if m.gone then 1 else 0 := ⟨_, rfl⟩
  have HN : Hid (∀ z, Calls Try.prog 55 #[.bool m.gone] z fun e w' => e = .returned (.int .u64 gn) ∧ Below z.heap.size z w') := Lib.hid (fun z => by rw [hgn]; exact number_any m.gone z)
  have HGB : Hid (0 ≤ gn ∧ gn ≤ 18446744073709551615) := Lib.hid (by rw [hgn]; cases m.gone <;> simp)
  have HGN := Lib.hid hgn
  have HKH := Lib.hid (show 0 ≤ m.hops ∧ m.hops ≤ 18446744073709551615 by omega)
  have HKT := Lib.hid (show 0 ≤ m.turn ∧ m.turn ≤ 18446744073709551615 by omega)
  have HKO := Lib.hid (show 0 ≤ m.owner ∧ m.owner ≤ 18446744073709551615 by omega)
  have HKF := Lib.hid (show 0 ≤ m.sf ∧ m.sf ≤ 18446744073709551615 by omega)
  have HKS := Lib.hid (show 0 ≤ m.st ∧ m.st ≤ 18446744073709551615 by omega)
  have HVL : Hid (m.vals.length ≤ 20) := Lib.hid (by have := (hF.vals (by omega)).1; have := hF.a; omega)
  clear hk0 hM hBD hF hw hlt hk hb hQ hQ0 hgn kh kt kow ksf kst
  go_enter Try.func29, Try.ntmps29
  go_upto_region 1 with fail
  generalize w.alloc (.cells (mcs m v bx r).toArray 34) = w1 at *
  obtain ⟨g, hg⟩ : ∃ g, g = w.heap.size := ⟨_, rfl⟩
  rw [← hg] at HBK HLT ⊢
  have HNE : Hid (g ≠ b) := Lib.hid (by have := HLT.out; omega)
  have HG := Lib.hid hg
  clear hg
  have c0 : w1.cell? ⟨g, 0, none⟩ = some (.int .i64 1) := by rw [← hq]; exact HBK.out.cell 0
  clear hq
  have HPC : Hid (∀ z, Calls Try.prog 40 #[.int .i64 1] z fun e w' => e = .returned (.tuple #[.agg (pcs ⟨true, true, false, true, false, false, false⟩).toArray, .bool true]) ∧ Below z.heap.size z w') := Lib.hid (fun z => oparts_any 1 z)
  go_upto_region 2 with (first | (go_at_call 40; refine (HPC.out _).mono ?_; rintro e w2 ⟨rfl, hk2⟩) | (refine wpList_store_row rfl 84 (.tmp 4) (.tmp 14) rfl w2.heap.size (pcs ⟨true, true, false, true, false, false, false⟩).toArray rfl rfl 84 _ (heap_alloc_new w2 _) parts_info rfl (pcs_one' _) ?_))
  rw [World.setRow_alloc_new]
  have hX : Below w2.heap.size w2 (w2.alloc (.cells (pcs ⟨true, true, false, true, false, false, false⟩).toArray 84)) := more (Below.refl _ _) _
  have hP0 : Blk (w2.alloc (.cells (pcs ⟨true, true, false, true, false, false, false⟩).toArray 84)) w2.heap.size 84 (pcs ⟨true, true, false, true, false, false, false⟩).toArray := Blk.new _ _ _
  have HPK := Lib.hid hP0
  have HNP0 : w2.heap.size ≠ b := by have := HW0.out.lt; have := hk2.size; omega
  have HBK := Lib.hid (HBK.out.keep (nest hk2 hX))
  have HW0 := Lib.hid (HW0.out.keep (nest hk2 hX))
  have HO0 := Lib.hid (HO0.out.trans (Only.of_below (b := b) (nest hk2 hX)))
  generalize w2.alloc (.cells (pcs ⟨true, true, false, true, false, false, false⟩).toArray 84) = z0 at *
  obtain ⟨gp, hgp⟩ : ∃ gp, gp = w2.heap.size := ⟨_, rfl⟩
  rw [← hgp] at HPK HNP0 ⊢
  have HNP := Lib.hid HNP0
  clear hgp hX hP0 hk2 c0 HNP0 HPC
  have p1 : z0.cell? ⟨gp, 1, none⟩ = some (.bool true) := HPK.out.cell 1
  have p2 : z0.cell? ⟨gp, 2, none⟩ = some (.bool false) := HPK.out.cell 2
  have p3 : z0.cell? ⟨gp, 3, none⟩ = some (.bool true) := HPK.out.cell 3
  have p4 : z0.cell? ⟨gp, 4, none⟩ = some (.bool false) := HPK.out.cell 4
  have p5 : z0.cell? ⟨gp, 5, none⟩ = some (.bool false) := HPK.out.cell 5
  have p6 : z0.cell? ⟨gp, 6, none⟩ = some (.bool false) := HPK.out.cell 6
  have c_gone : z0.cell? ⟨g, 13, none⟩ = some (.bool m.gone) := HBK.out.cell 13
  go_upto_region 4 with (first | (go_at_call 55; refine (HN.out _).mono ?_; rintro e y1 ⟨rfl, hy1⟩) | (go_at_call 28; refine (oput_any b Q0 gn 1 HGB.out _ (HW0.out.keep hy1) (by have := HL0.out; omega)).mono ?_; rintro e z1 ⟨⟨u1, rfl⟩, hw1, ho1⟩))
  have ho1 := (Only.of_below (b := b) hy1).trans ho1
  rw [sz1] at hw1
  obtain ⟨Q1, hQ1⟩ : ∃ q, q = Q0 ++ be 1 gn := ⟨_, rfl⟩
  rw [← hQ1] at hw1
  have HE1 := Lib.hid hQ1
  have HL1 : Hid (Q1.length ≤ 101) := Lib.hid (by rw [hQ1, List.length_append, be_len]; have := HL0.out; omega)
  have HW1 := Lib.hid hw1
  have HO1 := Lib.hid (HO0.out.trans ho1)
  have HBK := Lib.hid (HBK.out.only ho1 HNE.out)
  have HPK := Lib.hid (HPK.out.only ho1 HNP.out)
  clear hy1
  clear hw1 ho1 hQ1
  clear p1 p2 p3 p4 p5 p6 c_gone
  have p1 : z1.cell? ⟨gp, 1, none⟩ = some (.bool true) := HPK.out.cell 1
  have p2 : z1.cell? ⟨gp, 2, none⟩ = some (.bool false) := HPK.out.cell 2
  have p3 : z1.cell? ⟨gp, 3, none⟩ = some (.bool true) := HPK.out.cell 3
  have p4 : z1.cell? ⟨gp, 4, none⟩ = some (.bool false) := HPK.out.cell 4
  have p5 : z1.cell? ⟨gp, 5, none⟩ = some (.bool false) := HPK.out.cell 5
  have p6 : z1.cell? ⟨gp, 6, none⟩ = some (.bool false) := HPK.out.cell 6
  have c_eid : z1.cell? ⟨g, 10, none⟩ = some (.int .u64 m.eid) := HBK.out.cell 10
  have c_ever : z1.cell? ⟨g, 11, none⟩ = some (.int .u64 m.ever) := HBK.out.cell 11
  have c_v : z1.cell? ⟨g, 12, none⟩ = some (v) := HBK.out.cell 12
  go_upto_region 5 with (go_at_call 56; refine (oprec_any b Q1 m.eid m.ever v m.vals w0 _ HW1.out HM.out.vals (HKW.out.trans (HO1.out.below HB.out HKW.out.size)) HB.out HBD.out.eid HBD.out.ever HBD.out.vals (by have := HL1.out; omega) HVL.out).mono ?_; rintro e z2 ⟨⟨u2, rfl⟩, hw2, ho2⟩)
  obtain ⟨Q2, hQ2⟩ : ∃ q, q = Q1 ++ recP (m.eid, m.ever, m.vals) := ⟨_, rfl⟩
  rw [← hQ2] at hw2
  have HE2 := Lib.hid hQ2
  have HL2 : Hid (Q2.length ≤ 197) := Lib.hid (by rw [hQ2, List.length_append, recP_len]; have := HVL.out; simp only []; have := HL1.out; omega)
  have HW2 := Lib.hid hw2
  have HO2 := Lib.hid (HO1.out.trans ho2)
  have HBK := Lib.hid (HBK.out.only ho2 HNE.out)
  have HPK := Lib.hid (HPK.out.only ho2 HNP.out)
  clear hw2 ho2 hQ2
  clear p1 p2 p3 p4 p5 p6 c_eid c_ever c_v
  have p1 : z2.cell? ⟨gp, 1, none⟩ = some (.bool true) := HPK.out.cell 1
  have p2 : z2.cell? ⟨gp, 2, none⟩ = some (.bool false) := HPK.out.cell 2
  have p3 : z2.cell? ⟨gp, 3, none⟩ = some (.bool true) := HPK.out.cell 3
  have p4 : z2.cell? ⟨gp, 4, none⟩ = some (.bool false) := HPK.out.cell 4
  have p5 : z2.cell? ⟨gp, 5, none⟩ = some (.bool false) := HPK.out.cell 5
  have p6 : z2.cell? ⟨gp, 6, none⟩ = some (.bool false) := HPK.out.cell 6
  have c_hops : z2.cell? ⟨g, 6, none⟩ = some (.int .i64 m.hops) := HBK.out.cell 6
  go_upto_region 10 with (go_at_call 28; refine (oput_any b Q2 m.hops 1 HKH.out _ HW2.out (by have := HL2.out; omega)).mono ?_; rintro e z3 ⟨⟨u3, rfl⟩, hw3, ho3⟩)
  rw [sz1] at hw3
  obtain ⟨Q3, hQ3⟩ : ∃ q, q = Q2 ++ be 1 m.hops := ⟨_, rfl⟩
  rw [← hQ3] at hw3
  have HE3 := Lib.hid hQ3
  have HL3 : Hid (Q3.length ≤ 198) := Lib.hid (by rw [hQ3, List.length_append, be_len]; have := HL2.out; omega)
  have HW3 := Lib.hid hw3
  have HO3 := Lib.hid (HO2.out.trans ho3)
  have HBK := Lib.hid (HBK.out.only ho3 HNE.out)
  have HPK := Lib.hid (HPK.out.only ho3 HNP.out)
  clear hw3 ho3 hQ3
  clear p1 p2 p3 p4 p5 p6 c_hops
  have p1 : z3.cell? ⟨gp, 1, none⟩ = some (.bool true) := HPK.out.cell 1
  have p2 : z3.cell? ⟨gp, 2, none⟩ = some (.bool false) := HPK.out.cell 2
  have p3 : z3.cell? ⟨gp, 3, none⟩ = some (.bool true) := HPK.out.cell 3
  have p4 : z3.cell? ⟨gp, 4, none⟩ = some (.bool false) := HPK.out.cell 4
  have p5 : z3.cell? ⟨gp, 5, none⟩ = some (.bool false) := HPK.out.cell 5
  have p6 : z3.cell? ⟨gp, 6, none⟩ = some (.bool false) := HPK.out.cell 6
  go_wp2_with fail
  go_end0
  have HT : Q3 = Q ++ tailM m := by
    unfold tailM entM
    rw [if_pos HQ.out]
    rw [HE3.out, HE2.out, HE1.out, HE0.out, ← HGN.out]
    simp only [List.append_assoc]
  exact ⟨⟨_, rfl⟩, by rw [← HT]; exact HW3.out, HO3.out⟩
set_option maxRecDepth 100000 in
set_option maxHeartbeats 4000000 in
theorem oput2_any (b : Nat) (Q : List Int) (attrs : Int) (m : Msg) (v bx r : Value) (w0 w : World) (hq : m.kind = 2) (hF : RightF attrs m) (hM : MRd w0 m v bx r) (hBD : MB m) (hw : WrAt w b Q) (hk : Below w0.heap.size w0 w) (hb : w0.heap.size ≤ b) (hQ : Q.length ≤ 100) :
    Calls Try.prog 29 #[.pointer (some ⟨b, 0, none⟩), .agg (mcs m v bx r).toArray] w (AddPost b (Q ++ tailM m) w) := by
  have hlt := hw.lt
  have hk0 : Below w.heap.size w (w.alloc (.cells (mcs m v bx r).toArray 34)) := more (Below.refl _ _) _
  have HBK := Lib.hid (Blk.newAt w 34 (mcs m v bx r).toArray rfl)
  have HW0 := Lib.hid (hw.keep hk0)
  have HO0 := Lib.hid (Only.of_below (b := b) hk0)
  have HM := Lib.hid hM
  have HBD := Lib.hid hBD
  have HF := Lib.hid hF
  have HKW := Lib.hid hk
  have HB := Lib.hid hb
  have HLT := Lib.hid hlt
  have HQ := Lib.hid hq
  obtain ⟨Q0, hQ0⟩ : ∃ Q0, Q0 = Q := ⟨_, rfl⟩
  rw [← hQ0] at HW0 hQ
  have HE0 := Lib.hid hQ0
  have HL0 : Hid (Q0.length ≤ 100) := Lib.hid hQ
  have kh := hF.hops
  have kt := hF.turn
  have kow : 0 ≤ m.owner ∧ m.owner ≤ 4294967295 := hBD.owner
  have ksf : 0 ≤ m.sf ∧ m.sf ≤ 4294967295 := hBD.sf
  have kst : 0 ≤ m.st ∧ m.st ≤ 4294967295 := hBD.st
  have uw_hops : IntKind.u64.wrap m.hops = m.hops := IntWalk.u64_in _ (by omega)
  have uw_turn : IntKind.u64.wrap m.turn = m.turn := IntWalk.u64_in _ (by omega)
  have uw_owner : IntKind.u64.wrap m.owner = m.owner := IntWalk.u64_in _ (by omega)
  have uw_sf : IntKind.u64.wrap m.sf = m.sf := IntWalk.u64_in _ (by omega)
  have uw_st : IntKind.u64.wrap m.st = m.st := IntWalk.u64_in _ (by omega)
  obtain ⟨gn, hgn⟩ : ∃ gn : Int, gn = if m.gone then 1 else 0 := ⟨_, rfl⟩
  have HN : Hid (∀ z, Calls Try.prog 55 #[.bool m.gone] z fun e w' => e = .returned (.int .u64 gn) ∧ Below z.heap.size z w') := Lib.hid (fun z => by rw [hgn]; exact number_any m.gone z)
  have HGB : Hid (0 ≤ gn ∧ gn ≤ 18446744073709551615) := Lib.hid (by rw [hgn]; cases m.gone <;> simp)
  have HGN := Lib.hid hgn
  have HKH := Lib.hid (show 0 ≤ m.hops ∧ m.hops ≤ 18446744073709551615 by omega)
  have HKT := Lib.hid (show 0 ≤ m.turn ∧ m.turn ≤ 18446744073709551615 by omega)
  have HKO := Lib.hid (show 0 ≤ m.owner ∧ m.owner ≤ 18446744073709551615 by omega)
  have HKF := Lib.hid (show 0 ≤ m.sf ∧ m.sf ≤ 18446744073709551615 by omega)
  have HKS := Lib.hid (show 0 ≤ m.st ∧ m.st ≤ 18446744073709551615 by omega)
  have HVL : Hid (m.vals.length ≤ 20) := Lib.hid (by have := (hF.vals (by omega)).1; have := hF.a; omega)
  clear hk0 hM hBD hF hw hlt hk hb hQ hQ0 hgn kh kt kow ksf kst
  go_enter Try.func29, Try.ntmps29
  go_upto_region 1 with fail
  generalize w.alloc (.cells (mcs m v bx r).toArray 34) = w1 at *
  obtain ⟨g, hg⟩ : ∃ g, g = w.heap.size := ⟨_, rfl⟩
  rw [← hg] at HBK HLT ⊢
  have HNE : Hid (g ≠ b) := Lib.hid (by have := HLT.out; omega)
  have HG := Lib.hid hg
  clear hg
  have c0 : w1.cell? ⟨g, 0, none⟩ = some (.int .i64 2) := by rw [← hq]; exact HBK.out.cell 0
  clear hq
  have HPC : Hid (∀ z, Calls Try.prog 40 #[.int .i64 2] z fun e w' => e = .returned (.tuple #[.agg (pcs ⟨true, true, true, false, false, false, false⟩).toArray, .bool true]) ∧ Below z.heap.size z w') := Lib.hid (fun z => oparts_any 2 z)
  go_upto_region 2 with (first | (go_at_call 40; refine (HPC.out _).mono ?_; rintro e w2 ⟨rfl, hk2⟩) | (refine wpList_store_row rfl 84 (.tmp 4) (.tmp 14) rfl w2.heap.size (pcs ⟨true, true, true, false, false, false, false⟩).toArray rfl rfl 84 _ (heap_alloc_new w2 _) parts_info rfl (pcs_one' _) ?_))
  rw [World.setRow_alloc_new]
  have hX : Below w2.heap.size w2 (w2.alloc (.cells (pcs ⟨true, true, true, false, false, false, false⟩).toArray 84)) := more (Below.refl _ _) _
  have hP0 : Blk (w2.alloc (.cells (pcs ⟨true, true, true, false, false, false, false⟩).toArray 84)) w2.heap.size 84 (pcs ⟨true, true, true, false, false, false, false⟩).toArray := Blk.new _ _ _
  have HPK := Lib.hid hP0
  have HNP0 : w2.heap.size ≠ b := by have := HW0.out.lt; have := hk2.size; omega
  have HBK := Lib.hid (HBK.out.keep (nest hk2 hX))
  have HW0 := Lib.hid (HW0.out.keep (nest hk2 hX))
  have HO0 := Lib.hid (HO0.out.trans (Only.of_below (b := b) (nest hk2 hX)))
  generalize w2.alloc (.cells (pcs ⟨true, true, true, false, false, false, false⟩).toArray 84) = z0 at *
  obtain ⟨gp, hgp⟩ : ∃ gp, gp = w2.heap.size := ⟨_, rfl⟩
  rw [← hgp] at HPK HNP0 ⊢
  have HNP := Lib.hid HNP0
  clear hgp hX hP0 hk2 c0 HNP0 HPC
  have p1 : z0.cell? ⟨gp, 1, none⟩ = some (.bool true) := HPK.out.cell 1
  have p2 : z0.cell? ⟨gp, 2, none⟩ = some (.bool true) := HPK.out.cell 2
  have p3 : z0.cell? ⟨gp, 3, none⟩ = some (.bool false) := HPK.out.cell 3
  have p4 : z0.cell? ⟨gp, 4, none⟩ = some (.bool false) := HPK.out.cell 4
  have p5 : z0.cell? ⟨gp, 5, none⟩ = some (.bool false) := HPK.out.cell 5
  have p6 : z0.cell? ⟨gp, 6, none⟩ = some (.bool false) := HPK.out.cell 6
  have c_gone : z0.cell? ⟨g, 13, none⟩ = some (.bool m.gone) := HBK.out.cell 13
  go_upto_region 4 with (first | (go_at_call 55; refine (HN.out _).mono ?_; rintro e y1 ⟨rfl, hy1⟩) | (go_at_call 28; refine (oput_any b Q0 gn 1 HGB.out _ (HW0.out.keep hy1) (by have := HL0.out; omega)).mono ?_; rintro e z1 ⟨⟨u1, rfl⟩, hw1, ho1⟩))
  have ho1 := (Only.of_below (b := b) hy1).trans ho1
  rw [sz1] at hw1
  obtain ⟨Q1, hQ1⟩ : ∃ q, q = Q0 ++ be 1 gn := ⟨_, rfl⟩
  rw [← hQ1] at hw1
  have HE1 := Lib.hid hQ1
  have HL1 : Hid (Q1.length ≤ 101) := Lib.hid (by rw [hQ1, List.length_append, be_len]; have := HL0.out; omega)
  have HW1 := Lib.hid hw1
  have HO1 := Lib.hid (HO0.out.trans ho1)
  have HBK := Lib.hid (HBK.out.only ho1 HNE.out)
  have HPK := Lib.hid (HPK.out.only ho1 HNP.out)
  clear hy1
  clear hw1 ho1 hQ1
  clear p1 p2 p3 p4 p5 p6 c_gone
  have p1 : z1.cell? ⟨gp, 1, none⟩ = some (.bool true) := HPK.out.cell 1
  have p2 : z1.cell? ⟨gp, 2, none⟩ = some (.bool true) := HPK.out.cell 2
  have p3 : z1.cell? ⟨gp, 3, none⟩ = some (.bool false) := HPK.out.cell 3
  have p4 : z1.cell? ⟨gp, 4, none⟩ = some (.bool false) := HPK.out.cell 4
  have p5 : z1.cell? ⟨gp, 5, none⟩ = some (.bool false) := HPK.out.cell 5
  have p6 : z1.cell? ⟨gp, 6, none⟩ = some (.bool false) := HPK.out.cell 6
  have c_eid : z1.cell? ⟨g, 10, none⟩ = some (.int .u64 m.eid) := HBK.out.cell 10
  have c_ever : z1.cell? ⟨g, 11, none⟩ = some (.int .u64 m.ever) := HBK.out.cell 11
  have c_v : z1.cell? ⟨g, 12, none⟩ = some (v) := HBK.out.cell 12
  go_upto_region 5 with (go_at_call 56; refine (oprec_any b Q1 m.eid m.ever v m.vals w0 _ HW1.out HM.out.vals (HKW.out.trans (HO1.out.below HB.out HKW.out.size)) HB.out HBD.out.eid HBD.out.ever HBD.out.vals (by have := HL1.out; omega) HVL.out).mono ?_; rintro e z2 ⟨⟨u2, rfl⟩, hw2, ho2⟩)
  obtain ⟨Q2, hQ2⟩ : ∃ q, q = Q1 ++ recP (m.eid, m.ever, m.vals) := ⟨_, rfl⟩
  rw [← hQ2] at hw2
  have HE2 := Lib.hid hQ2
  have HL2 : Hid (Q2.length ≤ 197) := Lib.hid (by rw [hQ2, List.length_append, recP_len]; have := HVL.out; simp only []; have := HL1.out; omega)
  have HW2 := Lib.hid hw2
  have HO2 := Lib.hid (HO1.out.trans ho2)
  have HBK := Lib.hid (HBK.out.only ho2 HNE.out)
  have HPK := Lib.hid (HPK.out.only ho2 HNP.out)
  clear hw2 ho2 hQ2
  clear p1 p2 p3 p4 p5 p6 c_eid c_ever c_v
  have p1 : z2.cell? ⟨gp, 1, none⟩ = some (.bool true) := HPK.out.cell 1
  have p2 : z2.cell? ⟨gp, 2, none⟩ = some (.bool true) := HPK.out.cell 2
  have p3 : z2.cell? ⟨gp, 3, none⟩ = some (.bool false) := HPK.out.cell 3
  have p4 : z2.cell? ⟨gp, 4, none⟩ = some (.bool false) := HPK.out.cell 4
  have p5 : z2.cell? ⟨gp, 5, none⟩ = some (.bool false) := HPK.out.cell 5
  have p6 : z2.cell? ⟨gp, 6, none⟩ = some (.bool false) := HPK.out.cell 6
  have c_owner : z2.cell? ⟨g, 7, none⟩ = some (.int .u32 m.owner) := HBK.out.cell 7
  go_upto_region 7 with (go_at_call 28; refine (oput_any b Q2 m.owner 4 HKO.out _ HW2.out (by have := HL2.out; omega)).mono ?_; rintro e z3 ⟨⟨u3, rfl⟩, hw3, ho3⟩)
  rw [sz4'] at hw3
  obtain ⟨Q3, hQ3⟩ : ∃ q, q = Q2 ++ be 4 m.owner := ⟨_, rfl⟩
  rw [← hQ3] at hw3
  have HE3 := Lib.hid hQ3
  have HL3 : Hid (Q3.length ≤ 201) := Lib.hid (by rw [hQ3, List.length_append, be_len]; have := HL2.out; omega)
  have HW3 := Lib.hid hw3
  have HO3 := Lib.hid (HO2.out.trans ho3)
  have HBK := Lib.hid (HBK.out.only ho3 HNE.out)
  have HPK := Lib.hid (HPK.out.only ho3 HNP.out)
  clear hw3 ho3 hQ3
  clear p1 p2 p3 p4 p5 p6 c_owner
  have p1 : z3.cell? ⟨gp, 1, none⟩ = some (.bool true) := HPK.out.cell 1
  have p2 : z3.cell? ⟨gp, 2, none⟩ = some (.bool true) := HPK.out.cell 2
  have p3 : z3.cell? ⟨gp, 3, none⟩ = some (.bool false) := HPK.out.cell 3
  have p4 : z3.cell? ⟨gp, 4, none⟩ = some (.bool false) := HPK.out.cell 4
  have p5 : z3.cell? ⟨gp, 5, none⟩ = some (.bool false) := HPK.out.cell 5
  have p6 : z3.cell? ⟨gp, 6, none⟩ = some (.bool false) := HPK.out.cell 6
  have c_turn : z3.cell? ⟨g, 8, none⟩ = some (.int .i64 m.turn) := HBK.out.cell 8
  go_upto_region 8 with (go_at_call 28; refine (oput_any b Q3 m.turn 4 HKT.out _ HW3.out (by have := HL3.out; omega)).mono ?_; rintro e z4 ⟨⟨u4, rfl⟩, hw4, ho4⟩)
  rw [sz4'] at hw4
  obtain ⟨Q4, hQ4⟩ : ∃ q, q = Q3 ++ be 4 m.turn := ⟨_, rfl⟩
  rw [← hQ4] at hw4
  have HE4 := Lib.hid hQ4
  have HL4 : Hid (Q4.length ≤ 205) := Lib.hid (by rw [hQ4, List.length_append, be_len]; have := HL3.out; omega)
  have HW4 := Lib.hid hw4
  have HO4 := Lib.hid (HO3.out.trans ho4)
  have HBK := Lib.hid (HBK.out.only ho4 HNE.out)
  have HPK := Lib.hid (HPK.out.only ho4 HNP.out)
  clear hw4 ho4 hQ4
  clear p1 p2 p3 p4 p5 p6 c_turn
  have p1 : z4.cell? ⟨gp, 1, none⟩ = some (.bool true) := HPK.out.cell 1
  have p2 : z4.cell? ⟨gp, 2, none⟩ = some (.bool true) := HPK.out.cell 2
  have p3 : z4.cell? ⟨gp, 3, none⟩ = some (.bool false) := HPK.out.cell 3
  have p4 : z4.cell? ⟨gp, 4, none⟩ = some (.bool false) := HPK.out.cell 4
  have p5 : z4.cell? ⟨gp, 5, none⟩ = some (.bool false) := HPK.out.cell 5
  have p6 : z4.cell? ⟨gp, 6, none⟩ = some (.bool false) := HPK.out.cell 6
  go_wp2_with fail
  go_end0
  have HT : Q4 = Q ++ tailM m := by
    unfold tailM entM
    rw [if_neg (by rw [HQ.out]; decide), if_pos (.inl HQ.out)]
    rw [HE4.out, HE3.out, HE2.out, HE1.out, HE0.out, ← HGN.out]
    simp only [List.append_assoc]
  exact ⟨⟨_, rfl⟩, by rw [← HT]; exact HW4.out, HO4.out⟩
set_option maxRecDepth 100000 in
set_option maxHeartbeats 4000000 in
theorem oput3_any (b : Nat) (Q : List Int) (attrs : Int) (m : Msg) (v bx r : Value) (w0 w : World) (hq : m.kind = 3) (hF : RightF attrs m) (hM : MRd w0 m v bx r) (hBD : MB m) (hw : WrAt w b Q) (hk : Below w0.heap.size w0 w) (hb : w0.heap.size ≤ b) (hQ : Q.length ≤ 100) :
    Calls Try.prog 29 #[.pointer (some ⟨b, 0, none⟩), .agg (mcs m v bx r).toArray] w (AddPost b (Q ++ tailM m) w) := by
  have hlt := hw.lt
  have hk0 : Below w.heap.size w (w.alloc (.cells (mcs m v bx r).toArray 34)) := more (Below.refl _ _) _
  have HBK := Lib.hid (Blk.newAt w 34 (mcs m v bx r).toArray rfl)
  have HW0 := Lib.hid (hw.keep hk0)
  have HO0 := Lib.hid (Only.of_below (b := b) hk0)
  have HM := Lib.hid hM
  have HBD := Lib.hid hBD
  have HF := Lib.hid hF
  have HKW := Lib.hid hk
  have HB := Lib.hid hb
  have HLT := Lib.hid hlt
  have HQ := Lib.hid hq
  obtain ⟨Q0, hQ0⟩ : ∃ Q0, Q0 = Q := ⟨_, rfl⟩
  rw [← hQ0] at HW0 hQ
  have HE0 := Lib.hid hQ0
  have HL0 : Hid (Q0.length ≤ 100) := Lib.hid hQ
  have kh := hF.hops
  have kt := hF.turn
  have kow : 0 ≤ m.owner ∧ m.owner ≤ 4294967295 := hBD.owner
  have ksf : 0 ≤ m.sf ∧ m.sf ≤ 4294967295 := hBD.sf
  have kst : 0 ≤ m.st ∧ m.st ≤ 4294967295 := hBD.st
  have uw_hops : IntKind.u64.wrap m.hops = m.hops := IntWalk.u64_in _ (by omega)
  have uw_turn : IntKind.u64.wrap m.turn = m.turn := IntWalk.u64_in _ (by omega)
  have uw_owner : IntKind.u64.wrap m.owner = m.owner := IntWalk.u64_in _ (by omega)
  have uw_sf : IntKind.u64.wrap m.sf = m.sf := IntWalk.u64_in _ (by omega)
  have uw_st : IntKind.u64.wrap m.st = m.st := IntWalk.u64_in _ (by omega)
  obtain ⟨gn, hgn⟩ : ∃ gn : Int, gn = if m.gone then 1 else 0 := ⟨_, rfl⟩
  have HN : Hid (∀ z, Calls Try.prog 55 #[.bool m.gone] z fun e w' => e = .returned (.int .u64 gn) ∧ Below z.heap.size z w') := Lib.hid (fun z => by rw [hgn]; exact number_any m.gone z)
  have HGB : Hid (0 ≤ gn ∧ gn ≤ 18446744073709551615) := Lib.hid (by rw [hgn]; cases m.gone <;> simp)
  have HGN := Lib.hid hgn
  have HKH := Lib.hid (show 0 ≤ m.hops ∧ m.hops ≤ 18446744073709551615 by omega)
  have HKT := Lib.hid (show 0 ≤ m.turn ∧ m.turn ≤ 18446744073709551615 by omega)
  have HKO := Lib.hid (show 0 ≤ m.owner ∧ m.owner ≤ 18446744073709551615 by omega)
  have HKF := Lib.hid (show 0 ≤ m.sf ∧ m.sf ≤ 18446744073709551615 by omega)
  have HKS := Lib.hid (show 0 ≤ m.st ∧ m.st ≤ 18446744073709551615 by omega)
  have HVL : Hid (m.vals.length ≤ 20) := Lib.hid (by have := (hF.vals (by omega)).1; have := hF.a; omega)
  clear hk0 hM hBD hF hw hlt hk hb hQ hQ0 hgn kh kt kow ksf kst
  go_enter Try.func29, Try.ntmps29
  go_upto_region 1 with fail
  generalize w.alloc (.cells (mcs m v bx r).toArray 34) = w1 at *
  obtain ⟨g, hg⟩ : ∃ g, g = w.heap.size := ⟨_, rfl⟩
  rw [← hg] at HBK HLT ⊢
  have HNE : Hid (g ≠ b) := Lib.hid (by have := HLT.out; omega)
  have HG := Lib.hid hg
  clear hg
  have c0 : w1.cell? ⟨g, 0, none⟩ = some (.int .i64 3) := by rw [← hq]; exact HBK.out.cell 0
  clear hq
  have HPC : Hid (∀ z, Calls Try.prog 40 #[.int .i64 3] z fun e w' => e = .returned (.tuple #[.agg (pcs ⟨true, true, true, false, false, false, false⟩).toArray, .bool true]) ∧ Below z.heap.size z w') := Lib.hid (fun z => oparts_any 3 z)
  go_upto_region 2 with (first | (go_at_call 40; refine (HPC.out _).mono ?_; rintro e w2 ⟨rfl, hk2⟩) | (refine wpList_store_row rfl 84 (.tmp 4) (.tmp 14) rfl w2.heap.size (pcs ⟨true, true, true, false, false, false, false⟩).toArray rfl rfl 84 _ (heap_alloc_new w2 _) parts_info rfl (pcs_one' _) ?_))
  rw [World.setRow_alloc_new]
  have hX : Below w2.heap.size w2 (w2.alloc (.cells (pcs ⟨true, true, true, false, false, false, false⟩).toArray 84)) := more (Below.refl _ _) _
  have hP0 : Blk (w2.alloc (.cells (pcs ⟨true, true, true, false, false, false, false⟩).toArray 84)) w2.heap.size 84 (pcs ⟨true, true, true, false, false, false, false⟩).toArray := Blk.new _ _ _
  have HPK := Lib.hid hP0
  have HNP0 : w2.heap.size ≠ b := by have := HW0.out.lt; have := hk2.size; omega
  have HBK := Lib.hid (HBK.out.keep (nest hk2 hX))
  have HW0 := Lib.hid (HW0.out.keep (nest hk2 hX))
  have HO0 := Lib.hid (HO0.out.trans (Only.of_below (b := b) (nest hk2 hX)))
  generalize w2.alloc (.cells (pcs ⟨true, true, true, false, false, false, false⟩).toArray 84) = z0 at *
  obtain ⟨gp, hgp⟩ : ∃ gp, gp = w2.heap.size := ⟨_, rfl⟩
  rw [← hgp] at HPK HNP0 ⊢
  have HNP := Lib.hid HNP0
  clear hgp hX hP0 hk2 c0 HNP0 HPC
  have p1 : z0.cell? ⟨gp, 1, none⟩ = some (.bool true) := HPK.out.cell 1
  have p2 : z0.cell? ⟨gp, 2, none⟩ = some (.bool true) := HPK.out.cell 2
  have p3 : z0.cell? ⟨gp, 3, none⟩ = some (.bool false) := HPK.out.cell 3
  have p4 : z0.cell? ⟨gp, 4, none⟩ = some (.bool false) := HPK.out.cell 4
  have p5 : z0.cell? ⟨gp, 5, none⟩ = some (.bool false) := HPK.out.cell 5
  have p6 : z0.cell? ⟨gp, 6, none⟩ = some (.bool false) := HPK.out.cell 6
  have c_gone : z0.cell? ⟨g, 13, none⟩ = some (.bool m.gone) := HBK.out.cell 13
  go_upto_region 4 with (first | (go_at_call 55; refine (HN.out _).mono ?_; rintro e y1 ⟨rfl, hy1⟩) | (go_at_call 28; refine (oput_any b Q0 gn 1 HGB.out _ (HW0.out.keep hy1) (by have := HL0.out; omega)).mono ?_; rintro e z1 ⟨⟨u1, rfl⟩, hw1, ho1⟩))
  have ho1 := (Only.of_below (b := b) hy1).trans ho1
  rw [sz1] at hw1
  obtain ⟨Q1, hQ1⟩ : ∃ q, q = Q0 ++ be 1 gn := ⟨_, rfl⟩
  rw [← hQ1] at hw1
  have HE1 := Lib.hid hQ1
  have HL1 : Hid (Q1.length ≤ 101) := Lib.hid (by rw [hQ1, List.length_append, be_len]; have := HL0.out; omega)
  have HW1 := Lib.hid hw1
  have HO1 := Lib.hid (HO0.out.trans ho1)
  have HBK := Lib.hid (HBK.out.only ho1 HNE.out)
  have HPK := Lib.hid (HPK.out.only ho1 HNP.out)
  clear hy1
  clear hw1 ho1 hQ1
  clear p1 p2 p3 p4 p5 p6 c_gone
  have p1 : z1.cell? ⟨gp, 1, none⟩ = some (.bool true) := HPK.out.cell 1
  have p2 : z1.cell? ⟨gp, 2, none⟩ = some (.bool true) := HPK.out.cell 2
  have p3 : z1.cell? ⟨gp, 3, none⟩ = some (.bool false) := HPK.out.cell 3
  have p4 : z1.cell? ⟨gp, 4, none⟩ = some (.bool false) := HPK.out.cell 4
  have p5 : z1.cell? ⟨gp, 5, none⟩ = some (.bool false) := HPK.out.cell 5
  have p6 : z1.cell? ⟨gp, 6, none⟩ = some (.bool false) := HPK.out.cell 6
  have c_eid : z1.cell? ⟨g, 10, none⟩ = some (.int .u64 m.eid) := HBK.out.cell 10
  have c_ever : z1.cell? ⟨g, 11, none⟩ = some (.int .u64 m.ever) := HBK.out.cell 11
  have c_v : z1.cell? ⟨g, 12, none⟩ = some (v) := HBK.out.cell 12
  go_upto_region 5 with (go_at_call 56; refine (oprec_any b Q1 m.eid m.ever v m.vals w0 _ HW1.out HM.out.vals (HKW.out.trans (HO1.out.below HB.out HKW.out.size)) HB.out HBD.out.eid HBD.out.ever HBD.out.vals (by have := HL1.out; omega) HVL.out).mono ?_; rintro e z2 ⟨⟨u2, rfl⟩, hw2, ho2⟩)
  obtain ⟨Q2, hQ2⟩ : ∃ q, q = Q1 ++ recP (m.eid, m.ever, m.vals) := ⟨_, rfl⟩
  rw [← hQ2] at hw2
  have HE2 := Lib.hid hQ2
  have HL2 : Hid (Q2.length ≤ 197) := Lib.hid (by rw [hQ2, List.length_append, recP_len]; have := HVL.out; simp only []; have := HL1.out; omega)
  have HW2 := Lib.hid hw2
  have HO2 := Lib.hid (HO1.out.trans ho2)
  have HBK := Lib.hid (HBK.out.only ho2 HNE.out)
  have HPK := Lib.hid (HPK.out.only ho2 HNP.out)
  clear hw2 ho2 hQ2
  clear p1 p2 p3 p4 p5 p6 c_eid c_ever c_v
  have p1 : z2.cell? ⟨gp, 1, none⟩ = some (.bool true) := HPK.out.cell 1
  have p2 : z2.cell? ⟨gp, 2, none⟩ = some (.bool true) := HPK.out.cell 2
  have p3 : z2.cell? ⟨gp, 3, none⟩ = some (.bool false) := HPK.out.cell 3
  have p4 : z2.cell? ⟨gp, 4, none⟩ = some (.bool false) := HPK.out.cell 4
  have p5 : z2.cell? ⟨gp, 5, none⟩ = some (.bool false) := HPK.out.cell 5
  have p6 : z2.cell? ⟨gp, 6, none⟩ = some (.bool false) := HPK.out.cell 6
  have c_owner : z2.cell? ⟨g, 7, none⟩ = some (.int .u32 m.owner) := HBK.out.cell 7
  go_upto_region 7 with (go_at_call 28; refine (oput_any b Q2 m.owner 4 HKO.out _ HW2.out (by have := HL2.out; omega)).mono ?_; rintro e z3 ⟨⟨u3, rfl⟩, hw3, ho3⟩)
  rw [sz4'] at hw3
  obtain ⟨Q3, hQ3⟩ : ∃ q, q = Q2 ++ be 4 m.owner := ⟨_, rfl⟩
  rw [← hQ3] at hw3
  have HE3 := Lib.hid hQ3
  have HL3 : Hid (Q3.length ≤ 201) := Lib.hid (by rw [hQ3, List.length_append, be_len]; have := HL2.out; omega)
  have HW3 := Lib.hid hw3
  have HO3 := Lib.hid (HO2.out.trans ho3)
  have HBK := Lib.hid (HBK.out.only ho3 HNE.out)
  have HPK := Lib.hid (HPK.out.only ho3 HNP.out)
  clear hw3 ho3 hQ3
  clear p1 p2 p3 p4 p5 p6 c_owner
  have p1 : z3.cell? ⟨gp, 1, none⟩ = some (.bool true) := HPK.out.cell 1
  have p2 : z3.cell? ⟨gp, 2, none⟩ = some (.bool true) := HPK.out.cell 2
  have p3 : z3.cell? ⟨gp, 3, none⟩ = some (.bool false) := HPK.out.cell 3
  have p4 : z3.cell? ⟨gp, 4, none⟩ = some (.bool false) := HPK.out.cell 4
  have p5 : z3.cell? ⟨gp, 5, none⟩ = some (.bool false) := HPK.out.cell 5
  have p6 : z3.cell? ⟨gp, 6, none⟩ = some (.bool false) := HPK.out.cell 6
  have c_turn : z3.cell? ⟨g, 8, none⟩ = some (.int .i64 m.turn) := HBK.out.cell 8
  go_upto_region 8 with (go_at_call 28; refine (oput_any b Q3 m.turn 4 HKT.out _ HW3.out (by have := HL3.out; omega)).mono ?_; rintro e z4 ⟨⟨u4, rfl⟩, hw4, ho4⟩)
  rw [sz4'] at hw4
  obtain ⟨Q4, hQ4⟩ : ∃ q, q = Q3 ++ be 4 m.turn := ⟨_, rfl⟩
  rw [← hQ4] at hw4
  have HE4 := Lib.hid hQ4
  have HL4 : Hid (Q4.length ≤ 205) := Lib.hid (by rw [hQ4, List.length_append, be_len]; have := HL3.out; omega)
  have HW4 := Lib.hid hw4
  have HO4 := Lib.hid (HO3.out.trans ho4)
  have HBK := Lib.hid (HBK.out.only ho4 HNE.out)
  have HPK := Lib.hid (HPK.out.only ho4 HNP.out)
  clear hw4 ho4 hQ4
  clear p1 p2 p3 p4 p5 p6 c_turn
  have p1 : z4.cell? ⟨gp, 1, none⟩ = some (.bool true) := HPK.out.cell 1
  have p2 : z4.cell? ⟨gp, 2, none⟩ = some (.bool true) := HPK.out.cell 2
  have p3 : z4.cell? ⟨gp, 3, none⟩ = some (.bool false) := HPK.out.cell 3
  have p4 : z4.cell? ⟨gp, 4, none⟩ = some (.bool false) := HPK.out.cell 4
  have p5 : z4.cell? ⟨gp, 5, none⟩ = some (.bool false) := HPK.out.cell 5
  have p6 : z4.cell? ⟨gp, 6, none⟩ = some (.bool false) := HPK.out.cell 6
  go_wp2_with fail
  go_end0
  have HT : Q4 = Q ++ tailM m := by
    unfold tailM entM
    rw [if_neg (by rw [HQ.out]; decide), if_pos (.inr HQ.out)]
    rw [HE4.out, HE3.out, HE2.out, HE1.out, HE0.out, ← HGN.out]
    simp only [List.append_assoc]
  exact ⟨⟨_, rfl⟩, by rw [← HT]; exact HW4.out, HO4.out⟩
set_option maxRecDepth 100000 in
set_option maxHeartbeats 4000000 in
theorem oput4_any (b : Nat) (Q : List Int) (attrs : Int) (m : Msg) (v bx r : Value) (w0 w : World) (hq : m.kind = 4) (hF : RightF attrs m) (hM : MRd w0 m v bx r) (hBD : MB m) (hw : WrAt w b Q) (hk : Below w0.heap.size w0 w) (hb : w0.heap.size ≤ b) (hQ : Q.length ≤ 100) :
    Calls Try.prog 29 #[.pointer (some ⟨b, 0, none⟩), .agg (mcs m v bx r).toArray] w (AddPost b (Q ++ tailM m) w) := by
  have hlt := hw.lt
  have hk0 : Below w.heap.size w (w.alloc (.cells (mcs m v bx r).toArray 34)) := more (Below.refl _ _) _
  have HBK := Lib.hid (Blk.newAt w 34 (mcs m v bx r).toArray rfl)
  have HW0 := Lib.hid (hw.keep hk0)
  have HO0 := Lib.hid (Only.of_below (b := b) hk0)
  have HM := Lib.hid hM
  have HBD := Lib.hid hBD
  have HF := Lib.hid hF
  have HKW := Lib.hid hk
  have HB := Lib.hid hb
  have HLT := Lib.hid hlt
  have HQ := Lib.hid hq
  obtain ⟨Q0, hQ0⟩ : ∃ Q0, Q0 = Q := ⟨_, rfl⟩
  rw [← hQ0] at HW0 hQ
  have HE0 := Lib.hid hQ0
  have HL0 : Hid (Q0.length ≤ 100) := Lib.hid hQ
  have kh := hF.hops
  have kt := hF.turn
  have kow : 0 ≤ m.owner ∧ m.owner ≤ 4294967295 := hBD.owner
  have ksf : 0 ≤ m.sf ∧ m.sf ≤ 4294967295 := hBD.sf
  have kst : 0 ≤ m.st ∧ m.st ≤ 4294967295 := hBD.st
  have uw_hops : IntKind.u64.wrap m.hops = m.hops := IntWalk.u64_in _ (by omega)
  have uw_turn : IntKind.u64.wrap m.turn = m.turn := IntWalk.u64_in _ (by omega)
  have uw_owner : IntKind.u64.wrap m.owner = m.owner := IntWalk.u64_in _ (by omega)
  have uw_sf : IntKind.u64.wrap m.sf = m.sf := IntWalk.u64_in _ (by omega)
  have uw_st : IntKind.u64.wrap m.st = m.st := IntWalk.u64_in _ (by omega)
  obtain ⟨gn, hgn⟩ : ∃ gn : Int, gn = if m.gone then 1 else 0 := ⟨_, rfl⟩
  have HN : Hid (∀ z, Calls Try.prog 55 #[.bool m.gone] z fun e w' => e = .returned (.int .u64 gn) ∧ Below z.heap.size z w') := Lib.hid (fun z => by rw [hgn]; exact number_any m.gone z)
  have HGB : Hid (0 ≤ gn ∧ gn ≤ 18446744073709551615) := Lib.hid (by rw [hgn]; cases m.gone <;> simp)
  have HGN := Lib.hid hgn
  have HKH := Lib.hid (show 0 ≤ m.hops ∧ m.hops ≤ 18446744073709551615 by omega)
  have HKT := Lib.hid (show 0 ≤ m.turn ∧ m.turn ≤ 18446744073709551615 by omega)
  have HKO := Lib.hid (show 0 ≤ m.owner ∧ m.owner ≤ 18446744073709551615 by omega)
  have HKF := Lib.hid (show 0 ≤ m.sf ∧ m.sf ≤ 18446744073709551615 by omega)
  have HKS := Lib.hid (show 0 ≤ m.st ∧ m.st ≤ 18446744073709551615 by omega)
  have HVL : Hid (m.vals.length ≤ 20) := Lib.hid (by have := (hF.vals (by omega)).1; have := hF.a; omega)
  clear hk0 hM hBD hF hw hlt hk hb hQ hQ0 hgn kh kt kow ksf kst
  go_enter Try.func29, Try.ntmps29
  go_upto_region 1 with fail
  generalize w.alloc (.cells (mcs m v bx r).toArray 34) = w1 at *
  obtain ⟨g, hg⟩ : ∃ g, g = w.heap.size := ⟨_, rfl⟩
  rw [← hg] at HBK HLT ⊢
  have HNE : Hid (g ≠ b) := Lib.hid (by have := HLT.out; omega)
  have HG := Lib.hid hg
  clear hg
  have c0 : w1.cell? ⟨g, 0, none⟩ = some (.int .i64 4) := by rw [← hq]; exact HBK.out.cell 0
  clear hq
  have HPC : Hid (∀ z, Calls Try.prog 40 #[.int .i64 4] z fun e w' => e = .returned (.tuple #[.agg (pcs ⟨false, true, false, false, false, false, false⟩).toArray, .bool true]) ∧ Below z.heap.size z w') := Lib.hid (fun z => oparts_any 4 z)
  go_upto_region 2 with (first | (go_at_call 40; refine (HPC.out _).mono ?_; rintro e w2 ⟨rfl, hk2⟩) | (refine wpList_store_row rfl 84 (.tmp 4) (.tmp 14) rfl w2.heap.size (pcs ⟨false, true, false, false, false, false, false⟩).toArray rfl rfl 84 _ (heap_alloc_new w2 _) parts_info rfl (pcs_one' _) ?_))
  rw [World.setRow_alloc_new]
  have hX : Below w2.heap.size w2 (w2.alloc (.cells (pcs ⟨false, true, false, false, false, false, false⟩).toArray 84)) := more (Below.refl _ _) _
  have hP0 : Blk (w2.alloc (.cells (pcs ⟨false, true, false, false, false, false, false⟩).toArray 84)) w2.heap.size 84 (pcs ⟨false, true, false, false, false, false, false⟩).toArray := Blk.new _ _ _
  have HPK := Lib.hid hP0
  have HNP0 : w2.heap.size ≠ b := by have := HW0.out.lt; have := hk2.size; omega
  have HBK := Lib.hid (HBK.out.keep (nest hk2 hX))
  have HW0 := Lib.hid (HW0.out.keep (nest hk2 hX))
  have HO0 := Lib.hid (HO0.out.trans (Only.of_below (b := b) (nest hk2 hX)))
  generalize w2.alloc (.cells (pcs ⟨false, true, false, false, false, false, false⟩).toArray 84) = z0 at *
  obtain ⟨gp, hgp⟩ : ∃ gp, gp = w2.heap.size := ⟨_, rfl⟩
  rw [← hgp] at HPK HNP0 ⊢
  have HNP := Lib.hid HNP0
  clear hgp hX hP0 hk2 c0 HNP0 HPC
  have p1 : z0.cell? ⟨gp, 1, none⟩ = some (.bool true) := HPK.out.cell 1
  have p2 : z0.cell? ⟨gp, 2, none⟩ = some (.bool false) := HPK.out.cell 2
  have p3 : z0.cell? ⟨gp, 3, none⟩ = some (.bool false) := HPK.out.cell 3
  have p4 : z0.cell? ⟨gp, 4, none⟩ = some (.bool false) := HPK.out.cell 4
  have p5 : z0.cell? ⟨gp, 5, none⟩ = some (.bool false) := HPK.out.cell 5
  have p6 : z0.cell? ⟨gp, 6, none⟩ = some (.bool false) := HPK.out.cell 6
  have c_gone : z0.cell? ⟨g, 13, none⟩ = some (.bool m.gone) := HBK.out.cell 13
  go_upto_region 4 with (first | (go_at_call 55; refine (HN.out _).mono ?_; rintro e y1 ⟨rfl, hy1⟩) | (go_at_call 28; refine (oput_any b Q0 gn 1 HGB.out _ (HW0.out.keep hy1) (by have := HL0.out; omega)).mono ?_; rintro e z1 ⟨⟨u1, rfl⟩, hw1, ho1⟩))
  have ho1 := (Only.of_below (b := b) hy1).trans ho1
  rw [sz1] at hw1
  obtain ⟨Q1, hQ1⟩ : ∃ q, q = Q0 ++ be 1 gn := ⟨_, rfl⟩
  rw [← hQ1] at hw1
  have HE1 := Lib.hid hQ1
  have HL1 : Hid (Q1.length ≤ 101) := Lib.hid (by rw [hQ1, List.length_append, be_len]; have := HL0.out; omega)
  have HW1 := Lib.hid hw1
  have HO1 := Lib.hid (HO0.out.trans ho1)
  have HBK := Lib.hid (HBK.out.only ho1 HNE.out)
  have HPK := Lib.hid (HPK.out.only ho1 HNP.out)
  clear hy1
  clear hw1 ho1 hQ1
  clear p1 p2 p3 p4 p5 p6 c_gone
  have p1 : z1.cell? ⟨gp, 1, none⟩ = some (.bool true) := HPK.out.cell 1
  have p2 : z1.cell? ⟨gp, 2, none⟩ = some (.bool false) := HPK.out.cell 2
  have p3 : z1.cell? ⟨gp, 3, none⟩ = some (.bool false) := HPK.out.cell 3
  have p4 : z1.cell? ⟨gp, 4, none⟩ = some (.bool false) := HPK.out.cell 4
  have p5 : z1.cell? ⟨gp, 5, none⟩ = some (.bool false) := HPK.out.cell 5
  have p6 : z1.cell? ⟨gp, 6, none⟩ = some (.bool false) := HPK.out.cell 6
  have c_eid : z1.cell? ⟨g, 10, none⟩ = some (.int .u64 m.eid) := HBK.out.cell 10
  have c_ever : z1.cell? ⟨g, 11, none⟩ = some (.int .u64 m.ever) := HBK.out.cell 11
  have c_v : z1.cell? ⟨g, 12, none⟩ = some (v) := HBK.out.cell 12
  go_upto_region 5 with (go_at_call 56; refine (oprec_any b Q1 m.eid m.ever v m.vals w0 _ HW1.out HM.out.vals (HKW.out.trans (HO1.out.below HB.out HKW.out.size)) HB.out HBD.out.eid HBD.out.ever HBD.out.vals (by have := HL1.out; omega) HVL.out).mono ?_; rintro e z2 ⟨⟨u2, rfl⟩, hw2, ho2⟩)
  obtain ⟨Q2, hQ2⟩ : ∃ q, q = Q1 ++ recP (m.eid, m.ever, m.vals) := ⟨_, rfl⟩
  rw [← hQ2] at hw2
  have HE2 := Lib.hid hQ2
  have HL2 : Hid (Q2.length ≤ 197) := Lib.hid (by rw [hQ2, List.length_append, recP_len]; have := HVL.out; simp only []; have := HL1.out; omega)
  have HW2 := Lib.hid hw2
  have HO2 := Lib.hid (HO1.out.trans ho2)
  have HBK := Lib.hid (HBK.out.only ho2 HNE.out)
  have HPK := Lib.hid (HPK.out.only ho2 HNP.out)
  clear hw2 ho2 hQ2
  clear p1 p2 p3 p4 p5 p6 c_eid c_ever c_v
  have p1 : z2.cell? ⟨gp, 1, none⟩ = some (.bool true) := HPK.out.cell 1
  have p2 : z2.cell? ⟨gp, 2, none⟩ = some (.bool false) := HPK.out.cell 2
  have p3 : z2.cell? ⟨gp, 3, none⟩ = some (.bool false) := HPK.out.cell 3
  have p4 : z2.cell? ⟨gp, 4, none⟩ = some (.bool false) := HPK.out.cell 4
  have p5 : z2.cell? ⟨gp, 5, none⟩ = some (.bool false) := HPK.out.cell 5
  have p6 : z2.cell? ⟨gp, 6, none⟩ = some (.bool false) := HPK.out.cell 6
  go_wp2_with fail
  go_end0
  have HT : Q2 = Q ++ tailM m := by
    unfold tailM entM
    rw [if_neg (by rw [HQ.out]; decide), if_neg (by rw [HQ.out]; decide), if_pos HQ.out]
    rw [HE2.out, HE1.out, HE0.out, ← HGN.out]
    simp only [List.append_assoc]
  exact ⟨⟨_, rfl⟩, by rw [← HT]; exact HW2.out, HO2.out⟩
end Go.Proofs.Ythhelhhlofdehaa
