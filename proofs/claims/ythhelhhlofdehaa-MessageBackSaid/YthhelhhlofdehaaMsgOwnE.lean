/- Package message: putRecord. -/
import Derived.Test.YthhelhhlofdehaaMsgOwnA
import Derived.Test.YthhelhhlofdehaaMsgRec
import Derived.Test.YthhelhhlofdehaaOctW
import Derived.Deep.DeepCutAuto
set_option maxRecDepth 4000
namespace Go.Proofs.Ythhelhhlofdehaa
open Go.RowKit Mem
set_option linter.unusedSimpArgs false
set_option linter.unusedVariables false
attribute [local irreducible] Go.Calls

set_option maxRecDepth 100000 in
set_option maxHeartbeats 2000000 in
theorem oprec_any (b : Nat) (Q : List Int) (i v : Int) (s : Value) (l : List Int) (w0 w : World) (hw : WrAt w b Q) (hs : Rd (intE .u32) w0 s l) (hk : Below w0.heap.size w0 w) (hb : w0.heap.size ≤ b) (bi : u64B i) (bv : u64B v) (bl : ∀ x ∈ l, u32B x) (hQ : Q.length ≤ 800000) (hl : l.length ≤ 20) :
    Calls Try.prog 56 #[.pointer (some ⟨b, 0, none⟩), .agg #[.int .u64 i, .int .u64 v, s]] w (AddPost b (Q ++ recP (i, v, l)) w) := by
  obtain ⟨a, g, off, c, rfl, hc1, hm1, ha, hcell⟩ := Mem.Rd.loopI hs
  have hm1' : c ≤ 9223372036854775807 := hm1
  have hlt := hw.lt
  have hk0 : Below w.heap.size w (w.alloc (.cells #[.int .u64 i, .int .u64 v, .slice a l.length c] 26)) := more (Below.refl _ _) _
  have HA := Lib.hid ha
  have HC := Lib.hid hcell
  have HBL := Lib.hid bl
  have HW1 := Lib.hid (hw.keep hk0)
  have HO1 := Lib.hid (Only.of_below (b := b) hk0)
  have HBK := Lib.hid (Blk.newAt w 26 #[.int .u64 i, .int .u64 v, .slice a l.length c] rfl)
  have HBI : Hid (0 ≤ i ∧ i ≤ 18446744073709551615) := Lib.hid bi
  have HBV : Hid (0 ≤ v ∧ v ≤ 18446744073709551615) := Lib.hid bv
  have HLT := Lib.hid hlt
  have HKW := Lib.hid hk
  have HB := Lib.hid hb
  have HQ := Lib.hid hQ
  clear hs ha hcell bl hk0 bi bv hw hlt hk hb hQ
  go_enter Try.func56, Try.ntmps56
  go_upto_region 1 with fail
  generalize w.alloc (.cells #[.int .u64 i, .int .u64 v, .slice a l.length c] 26) = w1 at *
  obtain ⟨g3, hg3⟩ : ∃ g3, g3 = w.heap.size := ⟨_, rfl⟩
  rw [← hg3] at HBK HLT ⊢
  have HG3 := Lib.hid hg3
  clear hg3
  have HNE : Hid (g3 ≠ b) := Lib.hid (by have := HLT.out; omega)
  have e0 : w1.cell? ⟨g3, 0, none⟩ = some (.int .u64 i) := HBK.out.cell 0
  go_upto_region 2 with (go_at_call 28; refine (oput_any b Q i 8 HBI.out _ HW1.out (by have := HQ.out; omega)).mono ?_; rintro e w2 ⟨⟨u, rfl⟩, hw2, ho2⟩)
  rw [sz8] at hw2
  have HW2 := Lib.hid hw2
  have HO2 := Lib.hid (HO1.out.trans ho2)
  have HBK := Lib.hid (HBK.out.only ho2 HNE.out)
  have e1 : w2.cell? ⟨g3, 1, none⟩ = some (.int .u64 v) := HBK.out.cell 1
  clear hw2 ho2 HW1 HO1 e0
  go_upto_region 3 with (go_at_call 28; refine (oput_any b (Q ++ be 8 i) v 8 HBV.out _ HW2.out (by have := HQ.out; rw [List.length_append, be_len]; omega)).mono ?_; rintro e w3 ⟨⟨u3, rfl⟩, hw3, ho3⟩)
  rw [sz8] at hw3
  obtain ⟨Q1, hQ1⟩ : ∃ Q1, Q1 = (Q ++ be 8 i) ++ be 8 v := ⟨_, rfl⟩
  rw [← hQ1] at hw3
  have HW3 := Lib.hid hw3
  have HO3 := Lib.hid (HO2.out.trans ho3)
  have HBK := Lib.hid (HBK.out.only ho3 HNE.out)
  have e2 : w3.cell? ⟨g3, 2, none⟩ = some (.slice a l.length c) := HBK.out.cell 2
  have HL1 : Hid (Q1.length = Q.length + 16) := Lib.hid (by rw [hQ1, List.length_append, List.length_append, be_len, be_len])
  have HE1 := Lib.hid hQ1
  clear hw3 ho3 HW2 HO2 e1 hQ1
  go_wp2_with fail
  go_loopw [17] (fun k wr => ∃ j : Nat, j ≤ l.length ∧ k = .int .i64 j ∧ WrAt wr b (Q1 ++ valP (l.take j)) ∧ Only b w wr) (fun k _ => l.length - (intOf k).toNat)
  case atStart => exact ⟨0, Nat.zero_le _, rfl, by simpa [valP] using HW3.out, HO3.out⟩
  case round =>
    obtain ⟨j, hj, rfl, hr, ho⟩ := hrel
    have HR := Lib.hid hr
    have HO := Lib.hid ho
    by_cases hlt : j < l.length
    · obtain ⟨rfl, hg⟩ := HA.out (by omega)
      have d1 := kc (HKW.out.trans (HO.out.below HB.out HKW.out.size)) (HC.out j hlt)
      have hx := HBL.out _ (show l.getD j 0 ∈ l by rw [show l.getD j 0 = l[j] by simp [List.getD, hlt]]; exact List.getElem_mem hlt)
      have hlen : (Q1 ++ valP (l.take j)).length ≤ 900000 := by rw [List.length_append, HL1.out, valP_len, List.length_take]; have := HQ.out; omega
      have HST : Hid (Q1 ++ valP (l.take (j + 1)) = (Q1 ++ valP (l.take j)) ++ be 4 (l.getD j 0)) := Lib.hid (by rw [valP_step hlt, List.append_assoc])
      have HLEN := Lib.hid hlen
      generalize l.getD j 0 = x at *
      generalize Q1 ++ valP (l.take j) = P at *
      have hxw : IntKind.u64.wrap x = x := IntWalk.u64_in _ (by unfold u32B at hx; omega)
      have HXB : Hid (0 ≤ x ∧ x ≤ 18446744073709551615) := Lib.hid (by unfold u32B at hx; omega)
      clear hr ho hlen hx
      go_wp2_with fail
      refine (oput_any b P x 4 HXB.out wr HR.out HLEN.out).mono ?_
      rintro e z1 ⟨⟨u1, rfl⟩, hw1, ho1⟩
      rw [sz4'] at hw1
      have HW4 := Lib.hid hw1
      have HO4 := Lib.hid (HO.out.trans ho1)
      clear hw1 ho1
      go_wp2_with fail
      exact ⟨⟨j + 1, by omega, by go_num, by rw [HST.out]; exact HW4.out, HO4.out⟩, by simp [intOf]; omega⟩
    · have hjn : j = l.length := by omega
      subst hjn
      have HE : Hid (Q1 ++ valP (l.take l.length) = Q ++ recP (i, v, l)) := Lib.hid (by rw [List.take_length, HE1.out]; simp [recP, List.append_assoc])
      clear hr ho
      go_wp2_with fail
      go_end0
      exact ⟨⟨_, rfl⟩, by rw [← HE.out]; exact HR.out, HO.out⟩
end Go.Proofs.Ythhelhhlofdehaa
