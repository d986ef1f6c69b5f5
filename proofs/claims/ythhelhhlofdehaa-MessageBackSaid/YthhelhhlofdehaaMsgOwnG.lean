/- Package message: putParts, kind 5 (written by genmsgput.py). -/
import Derived.Test.YthhelhhlofdehaaMsgOwnF
import Derived.Test.YthhelhhlofdehaaBoxOwn
import Derived.Test.YthhelhhlofdehaaBoxPacksMath
import Derived.Test.YthhelhhlofdehaaRefOctet
import Derived.Deep.WholeRow
import Derived.Deep.DeepCutAuto
set_option maxRecDepth 4000
namespace Go.Proofs.Ythhelhhlofdehaa
open Go.RowKit Mem
set_option linter.unusedSimpArgs false
set_option linter.unusedVariables false
attribute [local irreducible] Go.Calls

theorem be1_byte {x : Int} (h : 0 ≤ x ∧ x ≤ 255) : be 1 x = [x] := by
  unfold be be
  simp
  omega
set_option maxRecDepth 100000 in
set_option maxHeartbeats 4000000 in
theorem oput5_any (b : Nat) (Q : List Int) (attrs : Int) (m : Msg) (v bx r : Value) (w0 w : World) (hq : m.kind = 5) (hF : RightF attrs m) (hM : MRd w0 m v bx r) (hBD : MB m) (hw : WrAt w b Q) (hk : Below w0.heap.size w0 w) (hb : w0.heap.size ≤ b) (hQ : Q.length ≤ 100) :
    Calls Try.prog 29 #[.pointer (some ⟨b, 0, none⟩), .agg (mcs m v bx r).toArray] w (AddPost b (Q ++ tailM m) w) := by
  have hlt := hw.lt
  have hk0 : Below w.heap.size w (w.alloc (.cells (mcs m v bx r).toArray 34)) := more (Below.refl _ _) _
  have HBK := Lib.hid (Blk.newAt w 34 (mcs m v bx r).toArray rfl)
  have HW0 := Lib.hid (hw.keep hk0)
  have HO0 := Lib.hid (Only.of_below (b := b) hk0)
  have HM := Lib.hid hM
  have HBD := Lib.hid hBD
  have HF := Lib.hid hF
  have HKW := Lib.hid hk
  have HB := Lib.hid hb
  have HLT := Lib.hid hlt
  have HQ := Lib.hid hq
  obtain ⟨Q0, hQ0⟩ : ∃ Q0, Q0 = Q := ⟨_, rfl⟩
  rw [← hQ0] at HW0 hQ
  have HE0 := Lib.hid hQ0
  have HL0 : Hid (Q0.length ≤ 100) := Lib.hid hQ
  have kh := hF.hops
  have kt := hF.turn
  have kow : 0 ≤ m.owner ∧ m.owner ≤ 4294967295 := hBD.owner
  have ksf : 0 ≤ m.sf ∧ m.sf ≤ 4294967295 := hBD.sf
  have kst : 0 ≤ m.st ∧ m.st ≤ 4294967295 := hBD.st
  have uw_hops : IntKind.u64.wrap m.hops = m.hops := IntWalk.u64_in _ (by omega)
  have uw_turn : IntKind.u64.wrap m.turn = m.turn := IntWalk.u64_in _ (by omega)
  have uw_owner : IntKind.u64.wrap m.owner = m.owner := IntWalk.u64_in _ (by omega)
  have uw_sf : IntKind.u64.wrap m.sf = m.sf := IntWalk.u64_in _ (by omega)
  have uw_st : IntKind.u64.wrap m.st = m.st := IntWalk.u64_in _ (by omega)
  obtain ⟨gn, hgn⟩ : ∃ gn : Int, gn = if m.gone then 1 else 0 := ⟨_, rfl⟩
  have HN : Hid (∀ z, Calls Try.prog 55 #[.bool m.gone] z fun e w' => e = .returned (.int .u64 gn) ∧ Below z.heap.size z w') := Lib.hid (fun z => by rw [hgn]; exact number_any m.gone z)
  have HGB : Hid (0 ≤ gn ∧ gn ≤ 18446744073709551615) := Lib.hid (by rw [hgn]; cases m.gone <;> simp)
  have HGN := Lib.hid hgn
  have HKH := Lib.hid (show 0 ≤ m.hops ∧ m.hops ≤ 18446744073709551615 by omega)
  have HKT := Lib.hid (show 0 ≤ m.turn ∧ m.turn ≤ 18446744073709551615 by omega)
  have HKO := Lib.hid (show 0 ≤ m.owner ∧ m.owner ≤ 18446744073709551615 by omega)
  have HKF := Lib.hid (show 0 ≤ m.sf ∧ m.sf ≤ 18446744073709551615 by omega)
  have HKS := Lib.hid (show 0 ≤ m.st ∧ m.st ≤ 18446744073709551615 by omega)
  clear hk0 hM hBD hF hw hlt hk hb hQ hQ0 hgn kh kt kow ksf kst
  go_enter Try.func29, Try.ntmps29
  go_upto_region 1 with fail
  generalize w.alloc (.cells (mcs m v bx r).toArray 34) = w1 at *
  obtain ⟨g, hg⟩ : ∃ g, g = w.heap.size := ⟨_, rfl⟩
  rw [← hg] at HBK HLT ⊢
  have HNE : Hid (g ≠ b) := Lib.hid (by have := HLT.out; omega)
  have HG := Lib.hid hg
  clear hg
  have c0 : w1.cell? ⟨g, 0, none⟩ = some (.int .i64 5) := by rw [← hq]; exact HBK.out.cell 0
  clear hq
  have HPC : Hid (∀ z, Calls Try.prog 40 #[.int .i64 5] z fun e w' => e = .returned (.tuple #[.agg (pcs ⟨true, false, false, true, true, true, false⟩).toArray, .bool true]) ∧ Below z.heap.size z w') := Lib.hid (fun z => oparts_any 5 z)
  go_upto_region 2 with (first | (go_at_call 40; refine (HPC.out _).mono ?_; rintro e w2 ⟨rfl, hk2⟩) | (refine wpList_store_row rfl 84 (.tmp 4) (.tmp 14) rfl w2.heap.size (pcs ⟨true, false, false, true, true, true, false⟩).toArray rfl rfl 84 _ (heap_alloc_new w2 _) parts_info rfl (pcs_one' _) ?_))
  rw [World.setRow_alloc_new]
  have hX : Below w2.heap.size w2 (w2.alloc (.cells (pcs ⟨true, false, false, true, true, true, false⟩).toArray 84)) := more (Below.refl _ _) _
  have hP0 : Blk (w2.alloc (.cells (pcs ⟨true, false, false, true, true, true, false⟩).toArray 84)) w2.heap.size 84 (pcs ⟨true, false, false, true, true, true, false⟩).toArray := Blk.new _ _ _
  have HPK := Lib.hid hP0
  have HNP0 : w2.heap.size ≠ b := by have := HW0.out.lt; have := hk2.size; omega
  have HBK := Lib.hid (HBK.out.keep (nest hk2 hX))
  have HW0 := Lib.hid (HW0.out.keep (nest hk2 hX))
  have HO0 := Lib.hid (HO0.out.trans (Only.of_below (b := b) (nest hk2 hX)))
  generalize w2.alloc (.cells (pcs ⟨true, false, false, true, true, true, false⟩).toArray 84) = z0 at *
  obtain ⟨gp, hgp⟩ : ∃ gp, gp = w2.heap.size := ⟨_, rfl⟩
  rw [← hgp] at HPK HNP0 ⊢
  have HNP := Lib.hid HNP0
  clear hgp hX hP0 hk2 c0 HNP0 HPC
  have p1 : z0.cell? ⟨gp, 1, none⟩ = some (.bool false) := HPK.out.cell 1
  have p2 : z0.cell? ⟨gp, 2, none⟩ = some (.bool false) := HPK.out.cell 2
  have p3 : z0.cell? ⟨gp, 3, none⟩ = some (.bool true) := HPK.out.cell 3
  have p4 : z0.cell? ⟨gp, 4, none⟩ = some (.bool true) := HPK.out.cell 4
  have p5 : z0.cell? ⟨gp, 5, none⟩ = some (.bool true) := HPK.out.cell 5
  have p6 : z0.cell? ⟨gp, 6, none⟩ = some (.bool false) := HPK.out.cell 6
  have c_hops : z0.cell? ⟨g, 6, none⟩ = some (.int .i64 m.hops) := HBK.out.cell 6
  go_upto_region 10 with (go_at_call 28; refine (oput_any b Q0 m.hops 1 HKH.out _ HW0.out (by have := HL0.out; omega)).mono ?_; rintro e z1 ⟨⟨u1, rfl⟩, hw1, ho1⟩)
  rw [sz1] at hw1
  obtain ⟨Q1, hQ1⟩ : ∃ q, q = Q0 ++ be 1 m.hops := ⟨_, rfl⟩
  rw [← hQ1] at hw1
  have HE1 := Lib.hid hQ1
  have HL1 : Hid (Q1.length ≤ 101) := Lib.hid (by rw [hQ1, List.length_append, be_len]; have := HL0.out; omega)
  have HW1 := Lib.hid hw1
  have HO1 := Lib.hid (HO0.out.trans ho1)
  have HBK := Lib.hid (HBK.out.only ho1 HNE.out)
  have HPK := Lib.hid (HPK.out.only ho1 HNP.out)
  clear hw1 ho1 hQ1
  clear p1 p2 p3 p4 p5 p6 c_hops
  have p1 : z1.cell? ⟨gp, 1, none⟩ = some (.bool false) := HPK.out.cell 1
  have p2 : z1.cell? ⟨gp, 2, none⟩ = some (.bool false) := HPK.out.cell 2
  have p3 : z1.cell? ⟨gp, 3, none⟩ = some (.bool true) := HPK.out.cell 3
  have p4 : z1.cell? ⟨gp, 4, none⟩ = some (.bool true) := HPK.out.cell 4
  have p5 : z1.cell? ⟨gp, 5, none⟩ = some (.bool true) := HPK.out.cell 5
  have p6 : z1.cell? ⟨gp, 6, none⟩ = some (.bool false) := HPK.out.cell 6
  have c_sf : z1.cell? ⟨g, 14, none⟩ = some (.int .u32 m.sf) := HBK.out.cell 14
  go_upto_region 12 with (go_at_call 28; refine (oput_any b Q1 m.sf 4 HKF.out _ HW1.out (by have := HL1.out; omega)).mono ?_; rintro e z2 ⟨⟨u2, rfl⟩, hw2, ho2⟩)
  rw [sz4'] at hw2
  obtain ⟨Q2, hQ2⟩ : ∃ q, q = Q1 ++ be 4 m.sf := ⟨_, rfl⟩
  rw [← hQ2] at hw2
  have HE2 := Lib.hid hQ2
  have HL2 : Hid (Q2.length ≤ 105) := Lib.hid (by rw [hQ2, List.length_append, be_len]; have := HL1.out; omega)
  have HW2 := Lib.hid hw2
  have HO2 := Lib.hid (HO1.out.trans ho2)
  have HBK := Lib.hid (HBK.out.only ho2 HNE.out)
  have HPK := Lib.hid (HPK.out.only ho2 HNP.out)
  clear hw2 ho2 hQ2
  clear p1 p2 p3 p4 p5 p6 c_sf
  have p1 : z2.cell? ⟨gp, 1, none⟩ = some (.bool false) := HPK.out.cell 1
  have p2 : z2.cell? ⟨gp, 2, none⟩ = some (.bool false) := HPK.out.cell 2
  have p3 : z2.cell? ⟨gp, 3, none⟩ = some (.bool true) := HPK.out.cell 3
  have p4 : z2.cell? ⟨gp, 4, none⟩ = some (.bool true) := HPK.out.cell 4
  have p5 : z2.cell? ⟨gp, 5, none⟩ = some (.bool true) := HPK.out.cell 5
  have p6 : z2.cell? ⟨gp, 6, none⟩ = some (.bool false) := HPK.out.cell 6
  have c_st : z2.cell? ⟨g, 15, none⟩ = some (.int .u32 m.st) := HBK.out.cell 15
  go_upto_region 13 with (go_at_call 28; refine (oput_any b Q2 m.st 4 HKS.out _ HW2.out (by have := HL2.out; omega)).mono ?_; rintro e z3 ⟨⟨u3, rfl⟩, hw3, ho3⟩)
  rw [sz4'] at hw3
  obtain ⟨Q3, hQ3⟩ : ∃ q, q = Q2 ++ be 4 m.st := ⟨_, rfl⟩
  rw [← hQ3] at hw3
  have HE3 := Lib.hid hQ3
  have HL3 : Hid (Q3.length ≤ 109) := Lib.hid (by rw [hQ3, List.length_append, be_len]; have := HL2.out; omega)
  have HW3 := Lib.hid hw3
  have HO3 := Lib.hid (HO2.out.trans ho3)
  have HBK := Lib.hid (HBK.out.only ho3 HNE.out)
  have HPK := Lib.hid (HPK.out.only ho3 HNP.out)
  clear hw3 ho3 hQ3
  clear p1 p2 p3 p4 p5 p6 c_st
  have p1 : z3.cell? ⟨gp, 1, none⟩ = some (.bool false) := HPK.out.cell 1
  have p2 : z3.cell? ⟨gp, 2, none⟩ = some (.bool false) := HPK.out.cell 2
  have p3 : z3.cell? ⟨gp, 3, none⟩ = some (.bool true) := HPK.out.cell 3
  have p4 : z3.cell? ⟨gp, 4, none⟩ = some (.bool true) := HPK.out.cell 4
  have p5 : z3.cell? ⟨gp, 5, none⟩ = some (.bool true) := HPK.out.cell 5
  have p6 : z3.cell? ⟨gp, 6, none⟩ = some (.bool false) := HPK.out.cell 6
  have c_box : z3.cell? ⟨g, 16, none⟩ = some (bx) := HBK.out.cell 16
  obtain ⟨P, hP⟩ : ∃ P, P = packV m.box := ⟨_, rfl⟩
  have HPL : Hid (P.length ≤ 100) := Lib.hid (by rw [hP, packV_len]; have := (HF.out.box HQ.out).1; have := HF.out.a; omega)
  have HPB : Hid (∀ x ∈ P, 0 ≤ x ∧ x ≤ 255) := Lib.hid (by rw [hP]; exact packV_byt m.box)
  have HPP := Lib.hid hP
  have HCB : Hid (Calls Try.prog 57 #[bx] z3 (PutPost z3 P)) := Lib.hid (by rw [hP]; exact opack_row bx m.box z3 (HM.out.box.keep (HKW.out.trans (HO3.out.below HB.out HKW.out.size))) HBD.out.box (by have := (HF.out.box HQ.out).1; have := HF.out.a; omega))
  clear hP
  go_upto_block 99 with (go_at_call 57; refine HCB.out.mono ?_; rintro e zp ⟨vp, rfl, hrp, hkp⟩; obtain ⟨ap, cp, rfl, hcp, hcm⟩ := hrp.rd.form)
  have HBK := Lib.hid (HBK.out.keep hkp)
  have HPK := Lib.hid (HPK.out.keep hkp)
  have HRP := Lib.hid hrp
  have HNX : Hid ((Value.slice ap P.length cp).ownBlock ≠ some b) := Lib.hid (by intro e; have := (hrp.block b e).1; have := HW3.out.lt; omega)
  have HWP := Lib.hid (HW3.out.keep hkp)
  have HOP := Lib.hid (HO3.out.trans (Only.of_below (b := b) hkp))
  clear hrp hkp p1 p2 p3 p4 p5 p6 c_box
  have hcp' : cp ≤ 9223372036854775807 := hcm
  go_loopw [68] (fun i wr => ∃ j : Nat, j ≤ P.length ∧ i = .int .i64 j ∧ WrAt wr b (Q3 ++ P.take j) ∧ Only b zp wr) (fun i _ => P.length - (intOf i).toNat)
  case atStart => exact ⟨0, Nat.zero_le _, rfl, by simpa using HWP.out, Only.refl _ _⟩
  case round =>
    obtain ⟨j, hj, rfl, hr, ho⟩ := hrel
    have HR := Lib.hid hr
    have HOO := Lib.hid ho
    by_cases hlt : j < P.length
    · obtain ⟨a', g', off', c', hv', h1', h2', h3', h4'⟩ := Mem.Rd.loopI (HRP.out.rd.only ho HNX.out)
      injection hv' with e1 e2 e3
      obtain ⟨rfl, hg'⟩ := h3' (by omega)
      subst e1
      have d1 := h4' j hlt
      have hx := HPB.out _ (show P.getD j 0 ∈ P by rw [show P.getD j 0 = P[j] by simp [List.getD, hlt]]; exact List.getElem_mem hlt)
      have HST : Hid (Q3 ++ P.take (j + 1) = (Q3 ++ P.take j) ++ be 1 (P.getD j 0)) := Lib.hid (by rw [be1_byte hx, take_one hlt, List.append_assoc])
      have HLEN : Hid ((Q3 ++ P.take j).length ≤ 900000) := Lib.hid (by rw [List.length_append, List.length_take]; have := HL3.out; have := HPL.out; omega)
      generalize P.getD j 0 = x at *
      generalize Q3 ++ P.take j = R at *
      have hxw : IntKind.u64.wrap x = x := IntWalk.u64_in _ (by omega)
      have HXB : Hid (0 ≤ x ∧ x ≤ 18446744073709551615) := Lib.hid (by omega)
      clear hr ho hx h1' h2' h3' h4' e2 e3
      go_wp2_with fail
      refine (oput_any b R x 1 HXB.out wr HR.out HLEN.out).mono ?_
      rintro e y1 ⟨⟨u1, rfl⟩, hw1, ho1⟩
      rw [sz1] at hw1
      have HW4 := Lib.hid hw1
      have HO4 := Lib.hid (HOO.out.trans ho1)
      clear hw1 ho1
      go_wp2_with fail
      exact ⟨⟨j + 1, by omega, by go_num, by rw [HST.out]; exact HW4.out, HO4.out⟩, by simp [intOf]; omega⟩
    · have hjn : j = P.length := by omega
      subst hjn
      have HPZ := Lib.hid (HPK.out.only ho HNP.out)
      have p6 : wr.cell? ⟨gp, 6, none⟩ = some (.bool false) := HPZ.out.cell 6
      have HT : Hid (Q3 ++ P.take P.length = Q ++ tailM m) := Lib.hid (by
        rw [List.take_length]
        unfold tailM
        rw [if_neg (by rw [HQ.out]; decide), if_neg (by rw [HQ.out]; decide), if_neg (by rw [HQ.out]; decide), if_pos HQ.out]
        rw [HE3.out, HE2.out, HE1.out, HE0.out, HPP.out]
        simp only [List.append_assoc])
      clear hr ho
      go_wp2_with fail
      go_end0
      exact ⟨⟨_, rfl⟩, by rw [← HT.out]; exact HR.out, HOP.out.trans HOO.out⟩
end Go.Proofs.Ythhelhhlofdehaa
/- Package message: putParts, kind 6 (written by genmsgput.py). -/
namespace Go.Proofs.Ythhelhhlofdehaa
open Go.RowKit Mem
set_option linter.unusedSimpArgs false
set_option linter.unusedVariables false
attribute [local irreducible] Go.Calls

set_option maxRecDepth 100000 in
set_option maxHeartbeats 4000000 in
theorem oput6_any (b : Nat) (Q : List Int) (attrs : Int) (m : Msg) (v bx r : Value) (w0 w : World) (hq : m.kind = 6) (hF : RightF attrs m) (hM : MRd w0 m v bx r) (hBD : MB m) (hw : WrAt w b Q) (hk : Below w0.heap.size w0 w) (hb : w0.heap.size ≤ b) (hQ : Q.length ≤ 100) :
    Calls Try.prog 29 #[.pointer (some ⟨b, 0, none⟩), .agg (mcs m v bx r).toArray] w (AddPost b (Q ++ tailM m) w) := by
  have hlt := hw.lt
  have hk0 : Below w.heap.size w (w.alloc (.cells (mcs m v bx r).toArray 34)) := more (Below.refl _ _) _
  have HBK := Lib.hid (Blk.newAt w 34 (mcs m v bx r).toArray rfl)
  have HW0 := Lib.hid (hw.keep hk0)
  have HO0 := Lib.hid (Only.of_below (b := b) hk0)
  have HM := Lib.hid hM
  have HBD := Lib.hid hBD
  have HF := Lib.hid hF
  have HKW := Lib.hid hk
  have HB := Lib.hid hb
  have HLT := Lib.hid hlt
  have HQ := Lib.hid hq
  obtain ⟨Q0, hQ0⟩ : ∃ Q0, Q0 = Q := ⟨_, rfl⟩
  rw [← hQ0] at HW0 hQ
  have HE0 := Lib.hid hQ0
  have HL0 : Hid (Q0.length ≤ 100) := Lib.hid hQ
  have kh := hF.hops
  have kt := hF.turn
  have kow : 0 ≤ m.owner ∧ m.owner ≤ 4294967295 := hBD.owner
  have ksf : 0 ≤ m.sf ∧ m.sf ≤ 4294967295 := hBD.sf
  have kst : 0 ≤ m.st ∧ m.st ≤ 4294967295 := hBD.st
  have uw_hops : IntKind.u64.wrap m.hops = m.hops := IntWalk.u64_in _ (by omega)
  have uw_turn : IntKind.u64.wrap m.turn = m.turn := IntWalk.u64_in _ (by omega)
  have uw_owner : IntKind.u64.wrap m.owner = m.owner := IntWalk.u64_in _ (by omega)
  have uw_sf : IntKind.u64.wrap m.sf = m.sf := IntWalk.u64_in _ (by omega)
  have uw_st : IntKind.u64.wrap m.st = m.st := IntWalk.u64_in _ (by omega)
  obtain ⟨gn, hgn⟩ : ∃ gn : Int, gn = if m.gone then 1 else 0 := ⟨_, rfl⟩
  have HN : Hid (∀ z, Calls Try.prog 55 #[.bool m.gone] z fun e w' => e = .returned (.int .u64 gn) ∧ Below z.heap.size z w') := Lib.hid (fun z => by rw [hgn]; exact number_any m.gone z)
  have HGB : Hid (0 ≤ gn ∧ gn ≤ 18446744073709551615) := Lib.hid (by rw [hgn]; cases m.gone <;> simp)
  have HGN := Lib.hid hgn
  have HKH := Lib.hid (show 0 ≤ m.hops ∧ m.hops ≤ 18446744073709551615 by omega)
  have HKT := Lib.hid (show 0 ≤ m.turn ∧ m.turn ≤ 18446744073709551615 by omega)
  have HKO := Lib.hid (show 0 ≤ m.owner ∧ m.owner ≤ 18446744073709551615 by omega)
  have HKF := Lib.hid (show 0 ≤ m.sf ∧ m.sf ≤ 18446744073709551615 by omega)
  have HKS := Lib.hid (show 0 ≤ m.st ∧ m.st ≤ 18446744073709551615 by omega)
  obtain ⟨ar, gr, orr, cr, hrv, hc1, hc2, ha, hcell⟩ := kd_loop hM.recs
  have HRV := Lib.hid hrv
  have HRC := Lib.hid hcell
  have HRA := Lib.hid ha
  have hcb : cr ≤ 9223372036854775807 := hc2
  have hrl := (hF.recs (by omega)).1
  have HRE := Lib.hid (hF.recs (by omega)).2
  have uw_len : IntKind.u64.wrap (m.recs.length : Int) = m.recs.length := IntWalk.u64_in _ (by omega)
  have HKLEN := Lib.hid (show 0 ≤ (m.recs.length : Int) ∧ (m.recs.length : Int) ≤ 18446744073709551615 by omega)
  clear hcell ha hc2 hrv
  clear hk0 hM hBD hF hw hlt hk hb hQ hQ0 hgn kh kt kow ksf kst
  go_enter Try.func29, Try.ntmps29
  go_upto_region 1 with fail
  generalize w.alloc (.cells (mcs m v bx r).toArray 34) = w1 at *
  obtain ⟨g, hg⟩ : ∃ g, g = w.heap.size := ⟨_, rfl⟩
  rw [← hg] at HBK HLT ⊢
  have HNE : Hid (g ≠ b) := Lib.hid (by have := HLT.out; omega)
  have HG := Lib.hid hg
  clear hg
  have c0 : w1.cell? ⟨g, 0, none⟩ = some (.int .i64 6) := by rw [← hq]; exact HBK.out.cell 0
  clear hq
  have HPC : Hid (∀ z, Calls Try.prog 40 #[.int .i64 6] z fun e w' => e = .returned (.tuple #[.agg (pcs ⟨false, false, false, false, true, false, true⟩).toArray, .bool true]) ∧ Below z.heap.size z w') := Lib.hid (fun z => oparts_any 6 z)
  go_upto_region 2 with (first | (go_at_call 40; refine (HPC.out _).mono ?_; rintro e w2 ⟨rfl, hk2⟩) | (refine wpList_store_row rfl 84 (.tmp 4) (.tmp 14) rfl w2.heap.size (pcs ⟨false, false, false, false, true, false, true⟩).toArray rfl rfl 84 _ (heap_alloc_new w2 _) parts_info rfl (pcs_one' _) ?_))
  rw [World.setRow_alloc_new]
  have hX : Below w2.heap.size w2 (w2.alloc (.cells (pcs ⟨false, false, false, false, true, false, true⟩).toArray 84)) := more (Below.refl _ _) _
  have hP0 : Blk (w2.alloc (.cells (pcs ⟨false, false, false, false, true, false, true⟩).toArray 84)) w2.heap.size 84 (pcs ⟨false, false, false, false, true, false, true⟩).toArray := Blk.new _ _ _
  have HPK := Lib.hid hP0
  have HNP0 : w2.heap.size ≠ b := by have := HW0.out.lt; have := hk2.size; omega
  have HBK := Lib.hid (HBK.out.keep (nest hk2 hX))
  have HW0 := Lib.hid (HW0.out.keep (nest hk2 hX))
  have HO0 := Lib.hid (HO0.out.trans (Only.of_below (b := b) (nest hk2 hX)))
  generalize w2.alloc (.cells (pcs ⟨false, false, false, false, true, false, true⟩).toArray 84) = z0 at *
  obtain ⟨gp, hgp⟩ : ∃ gp, gp = w2.heap.size := ⟨_, rfl⟩
  rw [← hgp] at HPK HNP0 ⊢
  have HNP := Lib.hid HNP0
  clear hgp hX hP0 hk2 c0 HNP0 HPC
  have p1 : z0.cell? ⟨gp, 1, none⟩ = some (.bool false) := HPK.out.cell 1
  have p2 : z0.cell? ⟨gp, 2, none⟩ = some (.bool false) := HPK.out.cell 2
  have p3 : z0.cell? ⟨gp, 3, none⟩ = some (.bool false) := HPK.out.cell 3
  have p4 : z0.cell? ⟨gp, 4, none⟩ = some (.bool true) := HPK.out.cell 4
  have p5 : z0.cell? ⟨gp, 5, none⟩ = some (.bool false) := HPK.out.cell 5
  have p6 : z0.cell? ⟨gp, 6, none⟩ = some (.bool true) := HPK.out.cell 6
  have c_sf : z0.cell? ⟨g, 14, none⟩ = some (.int .u32 m.sf) := HBK.out.cell 14
  go_upto_region 12 with (go_at_call 28; refine (oput_any b Q0 m.sf 4 HKF.out _ HW0.out (by have := HL0.out; omega)).mono ?_; rintro e z1 ⟨⟨u1, rfl⟩, hw1, ho1⟩)
  rw [sz4'] at hw1
  obtain ⟨Q1, hQ1⟩ : ∃ q, q = Q0 ++ be 4 m.sf := ⟨_, rfl⟩
  rw [← hQ1] at hw1
  have HE1 := Lib.hid hQ1
  have HL1 : Hid (Q1.length ≤ 104) := Lib.hid (by rw [hQ1, List.length_append, be_len]; have := HL0.out; omega)
  have HW1 := Lib.hid hw1
  have HO1 := Lib.hid (HO0.out.trans ho1)
  have HBK := Lib.hid (HBK.out.only ho1 HNE.out)
  have HPK := Lib.hid (HPK.out.only ho1 HNP.out)
  clear hw1 ho1 hQ1
  clear p1 p2 p3 p4 p5 p6 c_sf
  have p1 : z1.cell? ⟨gp, 1, none⟩ = some (.bool false) := HPK.out.cell 1
  have p2 : z1.cell? ⟨gp, 2, none⟩ = some (.bool false) := HPK.out.cell 2
  have p3 : z1.cell? ⟨gp, 3, none⟩ = some (.bool false) := HPK.out.cell 3
  have p4 : z1.cell? ⟨gp, 4, none⟩ = some (.bool true) := HPK.out.cell 4
  have p5 : z1.cell? ⟨gp, 5, none⟩ = some (.bool false) := HPK.out.cell 5
  have p6 : z1.cell? ⟨gp, 6, none⟩ = some (.bool true) := HPK.out.cell 6
  have c_st : z1.cell? ⟨g, 15, none⟩ = some (.int .u32 m.st) := HBK.out.cell 15
  go_upto_region 13 with (go_at_call 28; refine (oput_any b Q1 m.st 4 HKS.out _ HW1.out (by have := HL1.out; omega)).mono ?_; rintro e z2 ⟨⟨u2, rfl⟩, hw2, ho2⟩)
  rw [sz4'] at hw2
  obtain ⟨Q2, hQ2⟩ : ∃ q, q = Q1 ++ be 4 m.st := ⟨_, rfl⟩
  rw [← hQ2] at hw2
  have HE2 := Lib.hid hQ2
  have HL2 : Hid (Q2.length ≤ 108) := Lib.hid (by rw [hQ2, List.length_append, be_len]; have := HL1.out; omega)
  have HW2 := Lib.hid hw2
  have HO2 := Lib.hid (HO1.out.trans ho2)
  have HBK := Lib.hid (HBK.out.only ho2 HNE.out)
  have HPK := Lib.hid (HPK.out.only ho2 HNP.out)
  clear hw2 ho2 hQ2
  clear p1 p2 p3 p4 p5 p6 c_st
  have p1 : z2.cell? ⟨gp, 1, none⟩ = some (.bool false) := HPK.out.cell 1
  have p2 : z2.cell? ⟨gp, 2, none⟩ = some (.bool false) := HPK.out.cell 2
  have p3 : z2.cell? ⟨gp, 3, none⟩ = some (.bool false) := HPK.out.cell 3
  have p4 : z2.cell? ⟨gp, 4, none⟩ = some (.bool true) := HPK.out.cell 4
  have p5 : z2.cell? ⟨gp, 5, none⟩ = some (.bool false) := HPK.out.cell 5
  have p6 : z2.cell? ⟨gp, 6, none⟩ = some (.bool true) := HPK.out.cell 6
  have c_recs : z2.cell? ⟨g, 17, none⟩ = some (.slice ar m.recs.length cr) := by rw [← HRV.out]; exact HBK.out.cell 17
  go_upto_region 21 with (go_at_call 28; refine (oput_any b Q2 (m.recs.length : Int) 2 HKLEN.out _ HW2.out (by have := HL2.out; omega)).mono ?_; rintro e z3 ⟨⟨u3, rfl⟩, hw3, ho3⟩)
  rw [sz2] at hw3
  obtain ⟨Q3, hQ3⟩ : ∃ q, q = Q2 ++ be 2 (m.recs.length : Int) := ⟨_, rfl⟩
  rw [← hQ3] at hw3
  have HE3 := Lib.hid hQ3
  have HL3 : Hid (Q3.length ≤ 110) := Lib.hid (by rw [hQ3, List.length_append, be_len]; have := HL2.out; omega)
  have HW3 := Lib.hid hw3
  have HO3 := Lib.hid (HO2.out.trans ho3)
  have HBK := Lib.hid (HBK.out.only ho3 HNE.out)
  have HPK := Lib.hid (HPK.out.only ho3 HNP.out)
  clear hw3 ho3 hQ3
  clear p1 p2 p3 p4 p5 p6 c_recs
  have p1 : z3.cell? ⟨gp, 1, none⟩ = some (.bool false) := HPK.out.cell 1
  have p2 : z3.cell? ⟨gp, 2, none⟩ = some (.bool false) := HPK.out.cell 2
  have p3 : z3.cell? ⟨gp, 3, none⟩ = some (.bool false) := HPK.out.cell 3
  have p4 : z3.cell? ⟨gp, 4, none⟩ = some (.bool true) := HPK.out.cell 4
  have p5 : z3.cell? ⟨gp, 5, none⟩ = some (.bool false) := HPK.out.cell 5
  have p6 : z3.cell? ⟨gp, 6, none⟩ = some (.bool true) := HPK.out.cell 6
  have c_recs : z3.cell? ⟨g, 17, none⟩ = some (.slice ar m.recs.length cr) := by rw [← HRV.out]; exact HBK.out.cell 17
  go_upto_block 99 with fail
  have HPKN := Lib.hid HPK.out
  clear p1 p2 p3 p4 p5 p6 c_recs
  go_loopw [88] (fun i wr => ∃ j : Nat, j ≤ m.recs.length ∧ i = .int .i64 j ∧ WrAt wr b (Q3 ++ recsP (m.recs.take j)) ∧ Only b z3 wr) (fun i _ => m.recs.length - (intOf i).toNat)
  case atStart => exact ⟨0, Nat.zero_le _, rfl, by simpa [recsP] using HW3.out, Only.refl _ _⟩
  case round =>
    obtain ⟨j, hj, rfl, hr, ho⟩ := hrel
    have HR := Lib.hid hr
    have HOO := Lib.hid ho
    have HKR := Lib.hid (HKW.out.trans ((HO3.out.trans ho).below HB.out HKW.out.size))
    by_cases hlt : j < m.recs.length
    · have hbk := HRA.out (by omega)
      subst hbk
      have hmem : m.recs.getD j (0, 0, []) ∈ m.recs := by rw [show m.recs.getD j (0, 0, []) = m.recs[j] by simp [List.getD, hlt]]; exact List.getElem_mem hlt
      have HRB := Lib.hid (HBD.out.recs _ hmem)
      have HUL : Hid ((m.recs.getD j (0, 0, [])).2.2.length ≤ 20) := Lib.hid (by have := HRE.out _ hmem; have := HF.out.a; omega)
      have hy : m.recs[j]? = some (m.recs.getD j (0, 0, [])) := by simp [List.getD, List.getElem?_eq_getElem hlt]
      obtain ⟨es, he, hre⟩ := HRC.out j _ hy
      have HLEN : Hid ((Q3 ++ recsP (m.recs.take j)).length ≤ 800000) := Lib.hid (by
        have h1 := recsP_le (l := m.recs.take j) (n := 8) (fun x hx => by have := HRE.out x (List.mem_of_mem_take hx); have := HF.out.a; omega)
        rw [List.length_take] at h1
        rw [List.length_append]
        have := HL3.out
        have h2 : min j m.recs.length * (16 + 4 * 8) ≤ 48 * j := by have := Nat.min_le_left j m.recs.length; omega
        omega)
      have HST : Hid (Q3 ++ recsP (m.recs.take (j + 1)) = (Q3 ++ recsP (m.recs.take j)) ++ recP (m.recs.getD j (0, 0, []))) := Lib.hid (by rw [recsP_step hlt, List.append_assoc])
      clear hy hmem
      generalize m.recs.getD j (0, 0, []) = q at *
      generalize Q3 ++ recsP (m.recs.take j) = R at *
      obtain ⟨x, y, u⟩ := q
      obtain ⟨vq, rfl, _, _, hrd, _⟩ := record_cells hre
      have HRD0 := Lib.hid hrd
      obtain ⟨aq, cq, rfl, _, _⟩ := hrd.form
      have e1 := kc HKR.out (kc (Below.refl _ _) (he 0 (by decide)))
      have e2 := kc HKR.out (he 1 (by decide))
      have e3 := kc HKR.out (he 2 (by decide))
      have hs3 : recordK.size = 3 := rfl
      rw [hs3] at e1 e2 e3
      simp only [List.getElem?_cons_zero, List.getElem?_cons_succ, Nat.add_zero] at e1 e2 e3
      rw [← Nat.add_assoc] at e2 e3
      clear he hre hrd hr ho
      go_wp2_with (go_at_call 56; refine (oprec_any b R x y _ u w0 _ (HR.out.keep (more (Below.refl _ _) _)) HRD0.out (HKR.out.trans ((more (Below.refl _ _) _).mono HKR.out.size)) HB.out HRB.out.1 HRB.out.2.1 HRB.out.2.2 HLEN.out HUL.out).mono ?_; rintro e y1 ⟨⟨u1, rfl⟩, hw1, ho1⟩)
      have HW4 := Lib.hid hw1
      have HO4 := Lib.hid ((HOO.out.trans (Only.of_below (b := b) (more (Below.refl _ _) _))).trans ho1)
      clear hw1 ho1
      exact ⟨⟨j + 1, by omega, by go_num, by rw [HST.out]; exact HW4.out, HO4.out⟩, by simp [intOf]; omega⟩
    · have hjn : j = m.recs.length := by omega
      subst hjn
      have HT : Hid (Q3 ++ recsP (m.recs.take m.recs.length) = Q ++ tailM m) := Lib.hid (by
        rw [List.take_length]
        unfold tailM
        rw [if_neg (by rw [HQ.out]; decide), if_neg (by rw [HQ.out]; decide), if_neg (by rw [HQ.out]; decide), if_neg (by rw [HQ.out]; decide)]
        rw [HE3.out, HE2.out, HE1.out, HE0.out]
        simp only [List.append_assoc])
      clear hr ho
      go_wp2_with fail
      go_end0
      exact ⟨⟨_, rfl⟩, by rw [← HT.out]; exact HR.out, HO3.out.trans HOO.out⟩
end Go.Proofs.Ythhelhhlofdehaa
