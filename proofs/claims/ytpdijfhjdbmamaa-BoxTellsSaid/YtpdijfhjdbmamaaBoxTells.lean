/- Walk of the law BoxTells. -/
import Derived.Test.YtpdijfhjdbmamaaBoxAwake
import Derived.Test.YtpdijfhjdbmamaaOwnU
namespace Go.Proofs.Ytpdijfhjdbmamaa.boxTells
open Go.RowKit Mem
set_option linter.unusedSimpArgs false
set_option linter.unusedVariables false
attribute [local irreducible] Go.Calls

theorem range_info : (Try.prog.info? 26).map (·.size) = some 3 := by kernel_rfl
set_option maxHeartbeats 4000000 in
theorem walk (attrs : Int) (ba : -9223372036854775808 ≤ attrs ∧ attrs ≤ 9223372036854775807) (v1 : Value) (l : List (Int × Int × Int)) (v2 : Value) (vs : List Int)
    (k a b : Int) (bk : -9223372036854775808 ≤ k ∧ k ≤ 9223372036854775807) (bra : 0 ≤ a ∧ a ≤ 4294967295) (brb : 0 ≤ b ∧ b ≤ 4294967295) (v : Int) (bvv : 0 ≤ v ∧ v ≤ 4294967295) (w : World)
    (h1 : Rd rngE w v1 l) (bl : ∀ x ∈ l, (-9223372036854775808 ≤ x.1 ∧ x.1 ≤ 9223372036854775807) ∧ (0 ≤ x.2.1 ∧ x.2.1 ≤ 4294967295) ∧ (0 ≤ x.2.2 ∧ x.2.2 ≤ 4294967295))
    (h2 : Rd (intE .u32) w v2 vs) (bv : ∀ x ∈ vs, 0 ≤ x ∧ x ≤ 4294967295) :
    Calls Try.prog 3 #[.int .i64 attrs, v1, v2, .agg #[.int .i64 k, .int .u32 a, .int .u32 b], .int .u32 v] w fun e w' => e = .returned (.bool true) ∧ Below w.heap.size w w' := by
  have HRB : Hid (RB l) := Lib.hid (fun x hx => (bl x hx).2)
  have HBV := Lib.hid bv
  have hX := more (Below.refl w.heap.size w) (.cells #[.int .i64 k, .int .u32 a, .int .u32 b] 26)
  have A1 := Blk.new w 26 #[.int .i64 k, .int .u32 a, .int .u32 b]
  obtain ⟨a1, c1, rfl, hc1, hm1⟩ := h1.form
  obtain ⟨a2, c2, rfl, hc2, hm2⟩ := h2.form
  have hm1' : c1 ≤ 9223372036854775807 := hm1
  have hm2' : c2 ≤ 9223372036854775807 := hm2
  have M1 := Lib.hid (h1.keep hX)
  have M2 := Lib.hid (h2.keep hX)
  have HB := Lib.hid A1
  have HX := Lib.hid hX
  clear h1 h2 bl bv hX A1
  by_cases hl1 : l.length > 300
  · have e1 : (l.length : Int) > 300 := by omega
    go_enter Try.func3, Try.ntmps3
    go_wp2_with fail
    refine (bawake_any _).mono ?_
    rintro e w1 ⟨rfl, hk1⟩
    have HK := Lib.hid (nest HX.out hk1)
    clear hk1
    go_wp2_with fail
    go_ret
    exact ⟨rfl, HK.out⟩
  have e1 : ¬ (l.length : Int) > 300 := by omega
  by_cases hl2 : vs.length > 300
  · have e2 : (vs.length : Int) > 300 := by omega
    go_enter Try.func3, Try.ntmps3
    go_wp2_with fail
    refine (bawake_any _).mono ?_
    rintro e w1 ⟨rfl, hk1⟩
    have HK := Lib.hid (nest HX.out hk1)
    clear hk1
    go_wp2_with fail
    go_ret
    exact ⟨rfl, HK.out⟩
  have e2 : ¬ (vs.length : Int) > 300 := by omega
  go_enter Try.func3, Try.ntmps3
  go_wp2_with fail
  generalize w.alloc (.cells #[.int .i64 k, .int .u32 a, .int .u32 b] 26) = W at *
  refine (ownr_any _ l 71 0 0 W M1.out (by omega)).mono ?_
  rintro e w1 ⟨g1, rfl, r1, k1⟩
  have N1 := Lib.hid (M1.out.keep k1)
  have N2 := Lib.hid (M2.out.keep k1)
  have NB := Lib.hid (HB.out.keep k1)
  have NX := Lib.hid (nest HX.out k1)
  have NI := Lib.hid r1.rd
  clear M1 M2 HB HX r1 k1
  go_wp2_with fail
  refine (ownu_any _ vs 71 w1 N2.out (by omega)).mono ?_
  rintro e w2 ⟨g2, rfl, r2, k2⟩
  have O1 := Lib.hid (N1.out.keep k2)
  have O2 := Lib.hid (N2.out.keep k2)
  have OB := Lib.hid (NB.out.keep k2)
  have OX := Lib.hid (nest NX.out k2)
  have OI := Lib.hid (NI.out.keep k2)
  have OJ := Lib.hid r2.rd
  clear N1 N2 NB NX NI r2 k2
  have c0 : w2.cell? ⟨w.heap.size, 0, none⟩ = some (.int .i64 k) := OB.out.cell 0
  have c1' : w2.cell? ⟨w.heap.size, 1, none⟩ = some (.int .u32 a) := OB.out.cell 1
  have c2' : w2.cell? ⟨w.heap.size, 2, none⟩ = some (.int .u32 b) := OB.out.cell 2
  go_wp2_with fail
  refine (ospan_any k a b bra brb w2).mono ?_
  rintro e w3 ⟨rfl, k3⟩
  have hk3 := nest k3 (more (Below.refl w3.heap.size w3) (.cells #[.int .u32 (spanV (k, a, b)).1, .int .u32 (spanV (k, a, b)).2.1] 31))
  have PS := Lib.hid (Blk.new w3 31 #[.int .u32 (spanV (k, a, b)).1, .int .u32 (spanV (k, a, b)).2.1])
  have P1 := Lib.hid (O1.out.keep hk3)
  have P2 := Lib.hid (O2.out.keep hk3)
  have PB := Lib.hid (OB.out.keep hk3)
  have PX := Lib.hid (nest OX.out hk3)
  have PI := Lib.hid (OI.out.keep hk3)
  have PJ := Lib.hid (OJ.out.keep hk3)
  clear O1 O2 OB OX OI OJ k3 c0 c1' c2' hk3
  have c0 : (w3.alloc (.cells #[.int .u32 (spanV (k, a, b)).1, .int .u32 (spanV (k, a, b)).2.1] 31)).cell? ⟨w.heap.size, 0, none⟩ = some (.int .i64 k) := PB.out.cell 0
  have c1' : (w3.alloc (.cells #[.int .u32 (spanV (k, a, b)).1, .int .u32 (spanV (k, a, b)).2.1] 31)).cell? ⟨w.heap.size, 1, none⟩ = some (.int .u32 a) := PB.out.cell 1
  have c2' : (w3.alloc (.cells #[.int .u32 (spanV (k, a, b)).1, .int .u32 (spanV (k, a, b)).2.1] 31)).cell? ⟨w.heap.size, 2, none⟩ = some (.int .u32 b) := PB.out.cell 2
  go_wp2_with fail
  generalize w3.alloc (.cells #[.int .u32 (spanV (k, a, b)).1, .int .u32 (spanV (k, a, b)).2.1] 31) = w4 at *
  generalize w3.heap.size = b13 at *
  refine (rspan_any k a b bra w4).mono ?_
  rintro e w5 ⟨rfl, k5⟩
  have hk5 := nest k5 (more (Below.refl w5.heap.size w5) (.cells #[.int .u32 (spanV (k, a, b)).1, .int .u32 (spanV (k, a, b)).2.1] 31))
  have QT := Lib.hid (Blk.new w5 31 #[.int .u32 (spanV (k, a, b)).1, .int .u32 (spanV (k, a, b)).2.1])
  have QS := Lib.hid (PS.out.keep hk5)
  have Q1 := Lib.hid (P1.out.keep hk5)
  have Q2 := Lib.hid (P2.out.keep hk5)
  have QB := Lib.hid (PB.out.keep hk5)
  have QX := Lib.hid (nest PX.out hk5)
  have QI := Lib.hid (PI.out.keep hk5)
  have QJ := Lib.hid (PJ.out.keep hk5)
  clear P1 P2 PB PX PI PJ PS k5 c0 c1' c2' hk5
  go_wp2_with fail
  generalize w5.alloc (.cells #[.int .u32 (spanV (k, a, b)).1, .int .u32 (spanV (k, a, b)).2.1] 31) = w6 at *
  generalize w5.heap.size = b15 at *
  generalize (spanV (k, a, b)).1 = f at *
  generalize (spanV (k, a, b)).2.1 = t at *
  generalize (spanV (k, a, b)).2.2 = is at *
  refine Run.region_walk (S := fun z => Below w6.heap.size w6 z)
    lbtells.rows6 lbtells.plan6 (l := ?steps26) (by kernel_rfl) (by kernel_rfl) (by kernel_rfl) (by kernel_rfl) ?written26 (Below.refl _ _).drew ?onward26
  case written26 =>
    simp only [lbtells.plan6, Run.stepsOf, Run.stepOf, Run.guardOf, List.getElem?_toArray, List.getElem?_cons_zero, List.getElem?_cons_succ, Option.map_some, Option.map_none, Option.bind_some, Option.toList_some, List.map_cons, List.map_nil, List.cons_append, List.nil_append]
    rfl
  repeat ((first
    | (refine Run.takes (v := ?_) ?_ ?_; rotate_left; (· intro w' hS'; (first | (refine exec_load_blk (n := 2) (x := .tmp 13) (l := [.int .u32 f, .int .u32 t]) ?_ Try.underlying31 span_info ?_ ?_ (QS.out.keep hS') <;> rfl) | (refine exec_load_blk (n := 2) (x := .tmp 15) (l := [.int .u32 f, .int .u32 t]) ?_ Try.underlying31 span_info ?_ ?_ (QT.out.keep hS') <;> rfl) | (refine exec_load_blk (n := 3) (x := .tmp 8) (l := [.int .i64 k, .int .u32 a, .int .u32 b]) ?_ Try.underlying26 range_info ?_ ?_ (QB.out.keep hS') <;> rfl) | (go_simp; (try with_reducible rfl)))))
    | (refine Run.takesG (v := ?_) ?_ ?_ ?_; rotate_left; (· simp only [List.getElem?_cons_zero, List.getElem?_cons_succ]); (· intro w' hS'; (first | (refine exec_load_blk (n := 2) (x := .tmp 13) (l := [.int .u32 f, .int .u32 t]) ?_ Try.underlying31 span_info ?_ ?_ (QS.out.keep hS') <;> rfl) | (refine exec_load_blk (n := 2) (x := .tmp 15) (l := [.int .u32 f, .int .u32 t]) ?_ Try.underlying31 span_info ?_ ?_ (QT.out.keep hS') <;> rfl) | (refine exec_load_blk (n := 3) (x := .tmp 8) (l := [.int .i64 k, .int .u32 a, .int .u32 b]) ?_ Try.underlying26 range_info ?_ ?_ (QB.out.keep hS') <;> rfl) | (go_simp; (try with_reducible rfl)))))
    | (refine Run.skipsT ?_ ?_; (· simp only [List.getElem?_cons_zero, List.getElem?_cons_succ]))
    | (refine Run.skipsF ?_ ?_; (· simp only [List.getElem?_cons_zero, List.getElem?_cons_succ]))
    | (refine Run.skipsU ?_ ?_; (· simp only [List.getElem?_cons_zero, List.getElem?_cons_succ]))
    | (refine Run.passT ?_ ?_; (· simp only [List.getElem?_cons_zero, List.getElem?_cons_succ]))
    | (refine Run.passF ?_ ?_; (· simp only [List.getElem?_cons_zero, List.getElem?_cons_succ]))
    | (refine Run.passU ?_ ?_; (· simp only [List.getElem?_cons_zero, List.getElem?_cons_succ]))
    | (refine Run.runs ?_
       (first
       | (refine Run.callF 9 (by kernel_rfl) (fun hS => bawake_any _) rfl ?_)
       | (refine Run.callG 9 (by kernel_rfl) ?_ (fun hS => bawake_any _) rfl ?_; (· simp only [List.getElem?_cons_zero, List.getElem?_cons_succ]))
       | (refine Run.callF 14 (by kernel_rfl) (fun hS => orightb_any attrs _ l _ (own_rdE (m := [(71, 0, 0), (71, 0, 0), (71, 0, 0)]) (QI.out.keep hS))) rfl ?_)
       | (refine Run.callG 14 (by kernel_rfl) ?_ (fun hS => orightb_any attrs _ l _ (own_rdE (m := [(71, 0, 0), (71, 0, 0), (71, 0, 0)]) (QI.out.keep hS))) rfl ?_; (· simp only [List.getElem?_cons_zero, List.getElem?_cons_succ]))
       | (refine Run.callF 15 (by kernel_rfl) (fun hS => rrightb_any attrs _ l _ (Q1.out.keep hS)) rfl ?_)
       | (refine Run.callG 15 (by kernel_rfl) ?_ (fun hS => rrightb_any attrs _ l _ (Q1.out.keep hS)) rfl ?_; (· simp only [List.getElem?_cons_zero, List.getElem?_cons_succ]))
       | (refine Run.callF 16 (by kernel_rfl) (fun hS => omatch_any _ _ l vs _ (own_rdE (m := [(71, 0, 0), (71, 0, 0), (71, 0, 0)]) (QI.out.keep hS)) (own_rd (m := [71, 71, 71]) (QJ.out.keep hS)) HRB.out HBV.out) rfl ?_)
       | (refine Run.callG 16 (by kernel_rfl) ?_ (fun hS => omatch_any _ _ l vs _ (own_rdE (m := [(71, 0, 0), (71, 0, 0), (71, 0, 0)]) (QI.out.keep hS)) (own_rd (m := [71, 71, 71]) (QJ.out.keep hS)) HRB.out HBV.out) rfl ?_; (· simp only [List.getElem?_cons_zero, List.getElem?_cons_succ]))
       | (refine Run.callF 17 (by kernel_rfl) (fun hS => rmatch_any _ _ l vs _ (Q1.out.keep hS) (Q2.out.keep hS) HRB.out HBV.out) rfl ?_)
       | (refine Run.callG 17 (by kernel_rfl) ?_ (fun hS => rmatch_any _ _ l vs _ (Q1.out.keep hS) (Q2.out.keep hS) HRB.out HBV.out) rfl ?_; (· simp only [List.getElem?_cons_zero, List.getElem?_cons_succ]))
       | (refine Run.callF 18 (by kernel_rfl) (fun hS => oempty_any _ l _ (own_rdE (m := [(71, 0, 0), (71, 0, 0), (71, 0, 0)]) (QI.out.keep hS))) rfl ?_)
       | (refine Run.callG 18 (by kernel_rfl) ?_ (fun hS => oempty_any _ l _ (own_rdE (m := [(71, 0, 0), (71, 0, 0), (71, 0, 0)]) (QI.out.keep hS))) rfl ?_; (· simp only [List.getElem?_cons_zero, List.getElem?_cons_succ]))
       | (refine Run.callF 19 (by kernel_rfl) (fun hS => rempty_any _ l _ (Q1.out.keep hS)) rfl ?_)
       | (refine Run.callG 19 (by kernel_rfl) ?_ (fun hS => rempty_any _ l _ (Q1.out.keep hS)) rfl ?_; (· simp only [List.getElem?_cons_zero, List.getElem?_cons_succ]))
       | (refine Run.callF 23 (by kernel_rfl) (fun hS => oin_any k a b v bra brb bvv _) rfl ?_)
       | (refine Run.callG 23 (by kernel_rfl) ?_ (fun hS => oin_any k a b v bra brb bvv _) rfl ?_; (· simp only [List.getElem?_cons_zero, List.getElem?_cons_succ]))
       | (refine Run.callF 24 (by kernel_rfl) (fun hS => rin_any k a b v bra brb bvv _) rfl ?_)
       | (refine Run.callG 24 (by kernel_rfl) ?_ (fun hS => rin_any k a b v bra brb bvv _) rfl ?_; (· simp only [List.getElem?_cons_zero, List.getElem?_cons_succ]))
       | (refine Run.callF 25 (by kernel_rfl) (fun hS => keptr_yes g1 _ l 71 0 0 _ (QI.out.keep hS) (Q1.out.keep hS) (by omega)) rfl ?_)
       | (refine Run.callG 25 (by kernel_rfl) ?_ (fun hS => keptr_yes g1 _ l 71 0 0 _ (QI.out.keep hS) (Q1.out.keep hS) (by omega)) rfl ?_; (· simp only [List.getElem?_cons_zero, List.getElem?_cons_succ]))
       | (refine Run.callF 26 (by kernel_rfl) (fun hS => keptu_yes g2 _ vs 71 _ (QJ.out.keep hS) (Q2.out.keep hS) (by omega)) rfl ?_)
       | (refine Run.callG 26 (by kernel_rfl) ?_ (fun hS => keptu_yes g2 _ vs 71 _ (QJ.out.keep hS) (Q2.out.keep hS) (by omega)) rfl ?_; (· simp only [List.getElem?_cons_zero, List.getElem?_cons_succ]))
       | fail)
       (first
       | (rintro hS e w' ⟨rfl, rfl⟩; refine ⟨_, rfl, hS, ?_⟩)
       | (rintro hS e w' ⟨rfl, hb⟩; refine ⟨_, rfl, nest hS hb, ?_⟩)
       | fail))
    | fail); simp only [Act.put, List.setIfInBounds_toArray, List.set_cons_zero, List.set_cons_succ])
  refine Run.runsS (Run.callG 21 (by kernel_rfl) ?_ (fun hS => opack_any _ l _ (own_rdE (m := [(71, 0, 0), (71, 0, 0), (71, 0, 0)]) (QI.out.keep hS)) HRB.out (by omega)) rfl ?_)
  · simp only [List.getElem?_cons_zero, List.getElem?_cons_succ]
  rintro hS e z1 ⟨p1, rfl, hr1, hz1⟩
  have hz2 := nest hS hz1
  refine ⟨_, rfl, hz2, fun _ => ⟨fun z => Below w6.heap.size w6 z ∧ Rd (intE .u8) z p1 (packV l), fun z h => h.1, ⟨hz2, hr1⟩, ?_⟩⟩
  simp only [Act.put, List.setIfInBounds_toArray, List.set_cons_zero, List.set_cons_succ]
  obtain ⟨pa1, pc1, rfl, _, _⟩ := hr1.form
  clear hS hz1 hz2 hr1
  repeat ((first
    | (refine Run.takes (v := ?_) ?_ ?_; rotate_left; (· intro w' hS'; (first | (refine exec_load_blk (n := 2) (x := .tmp 13) (l := [.int .u32 f, .int .u32 t]) ?_ Try.underlying31 span_info ?_ ?_ (QS.out.keep hS'.1) <;> rfl) | (refine exec_load_blk (n := 2) (x := .tmp 15) (l := [.int .u32 f, .int .u32 t]) ?_ Try.underlying31 span_info ?_ ?_ (QT.out.keep hS'.1) <;> rfl) | (refine exec_load_blk (n := 3) (x := .tmp 8) (l := [.int .i64 k, .int .u32 a, .int .u32 b]) ?_ Try.underlying26 range_info ?_ ?_ (QB.out.keep hS'.1) <;> rfl) | (go_simp; (try with_reducible rfl)))))
    | (refine Run.takesG (v := ?_) ?_ ?_ ?_; rotate_left; (· simp only [List.getElem?_cons_zero, List.getElem?_cons_succ]); (· intro w' hS'; (first | (refine exec_load_blk (n := 2) (x := .tmp 13) (l := [.int .u32 f, .int .u32 t]) ?_ Try.underlying31 span_info ?_ ?_ (QS.out.keep hS'.1) <;> rfl) | (refine exec_load_blk (n := 2) (x := .tmp 15) (l := [.int .u32 f, .int .u32 t]) ?_ Try.underlying31 span_info ?_ ?_ (QT.out.keep hS'.1) <;> rfl) | (refine exec_load_blk (n := 3) (x := .tmp 8) (l := [.int .i64 k, .int .u32 a, .int .u32 b]) ?_ Try.underlying26 range_info ?_ ?_ (QB.out.keep hS'.1) <;> rfl) | (go_simp; (try with_reducible rfl)))))
    | (refine Run.skipsT ?_ ?_; (· simp only [List.getElem?_cons_zero, List.getElem?_cons_succ]))
    | (refine Run.skipsF ?_ ?_; (· simp only [List.getElem?_cons_zero, List.getElem?_cons_succ]))
    | (refine Run.skipsU ?_ ?_; (· simp only [List.getElem?_cons_zero, List.getElem?_cons_succ]))
    | (refine Run.passT ?_ ?_; (· simp only [List.getElem?_cons_zero, List.getElem?_cons_succ]))
    | (refine Run.passF ?_ ?_; (· simp only [List.getElem?_cons_zero, List.getElem?_cons_succ]))
    | (refine Run.passU ?_ ?_; (· simp only [List.getElem?_cons_zero, List.getElem?_cons_succ]))
    | fail); simp only [Act.put, List.setIfInBounds_toArray, List.set_cons_zero, List.set_cons_succ])
  refine Run.runsS (Run.callG 22 (by kernel_rfl) ?_ (fun hS => rpack_any _ l _ (Q1.out.keep hS.1) HRB.out (by omega)) rfl ?_)
  · simp only [List.getElem?_cons_zero, List.getElem?_cons_succ]
  rintro hS e z2 ⟨p2, rfl, hr2, hz2⟩
  have hz3 := nest hS.1 hz2
  refine ⟨_, rfl, ⟨hz3, hS.2.keep hz2⟩, fun _ => ⟨fun z => (Below w6.heap.size w6 z ∧ Rd (intE .u8) z (.slice pa1 (packV l).length pc1) (packV l)) ∧ Rd (intE .u8) z p2 (packV l), fun z h => h.1, ⟨⟨hz3, hS.2.keep hz2⟩, hr2.rd⟩, ?_⟩⟩
  simp only [Act.put, List.setIfInBounds_toArray, List.set_cons_zero, List.set_cons_succ]
  obtain ⟨pa2, pc2, rfl, _, _⟩ := hr2.rd.form
  clear hS hz2 hz3 hr2
  repeat ((first
    | (refine Run.takes (v := ?_) ?_ ?_; rotate_left; (· intro w' hS'; (first | (refine exec_load_blk (n := 2) (x := .tmp 13) (l := [.int .u32 f, .int .u32 t]) ?_ Try.underlying31 span_info ?_ ?_ (QS.out.keep hS'.1.1) <;> rfl) | (refine exec_load_blk (n := 2) (x := .tmp 15) (l := [.int .u32 f, .int .u32 t]) ?_ Try.underlying31 span_info ?_ ?_ (QT.out.keep hS'.1.1) <;> rfl) | (refine exec_load_blk (n := 3) (x := .tmp 8) (l := [.int .i64 k, .int .u32 a, .int .u32 b]) ?_ Try.underlying26 range_info ?_ ?_ (QB.out.keep hS'.1.1) <;> rfl) | (go_simp; (try with_reducible rfl)))))
    | (refine Run.takesG (v := ?_) ?_ ?_ ?_; rotate_left; (· simp only [List.getElem?_cons_zero, List.getElem?_cons_succ]); (· intro w' hS'; (first | (refine exec_load_blk (n := 2) (x := .tmp 13) (l := [.int .u32 f, .int .u32 t]) ?_ Try.underlying31 span_info ?_ ?_ (QS.out.keep hS'.1.1) <;> rfl) | (refine exec_load_blk (n := 2) (x := .tmp 15) (l := [.int .u32 f, .int .u32 t]) ?_ Try.underlying31 span_info ?_ ?_ (QT.out.keep hS'.1.1) <;> rfl) | (refine exec_load_blk (n := 3) (x := .tmp 8) (l := [.int .i64 k, .int .u32 a, .int .u32 b]) ?_ Try.underlying26 range_info ?_ ?_ (QB.out.keep hS'.1.1) <;> rfl) | (go_simp; (try with_reducible rfl)))))
    | (refine Run.skipsT ?_ ?_; (· simp only [List.getElem?_cons_zero, List.getElem?_cons_succ]))
    | (refine Run.skipsF ?_ ?_; (· simp only [List.getElem?_cons_zero, List.getElem?_cons_succ]))
    | (refine Run.skipsU ?_ ?_; (· simp only [List.getElem?_cons_zero, List.getElem?_cons_succ]))
    | (refine Run.passT ?_ ?_; (· simp only [List.getElem?_cons_zero, List.getElem?_cons_succ]))
    | (refine Run.passF ?_ ?_; (· simp only [List.getElem?_cons_zero, List.getElem?_cons_succ]))
    | (refine Run.passU ?_ ?_; (· simp only [List.getElem?_cons_zero, List.getElem?_cons_succ]))
    | (refine Run.runs ?_
       (first
       | (refine Run.callF 20 (by kernel_rfl) (fun hS => bytes_yes _ _ (packV l) _ hS.1.2 hS.2) rfl ?_)
       | (refine Run.callG 20 (by kernel_rfl) ?_ (fun hS => bytes_yes _ _ (packV l) _ hS.1.2 hS.2) rfl ?_; (· simp only [List.getElem?_cons_zero, List.getElem?_cons_succ]))
       | (refine Run.callF 9 (by kernel_rfl) (fun hS => bawake_any _) rfl ?_)
       | (refine Run.callG 9 (by kernel_rfl) ?_ (fun hS => bawake_any _) rfl ?_; (· simp only [List.getElem?_cons_zero, List.getElem?_cons_succ]))
       | (refine Run.callF 14 (by kernel_rfl) (fun hS => orightb_any attrs _ l _ (own_rdE (m := [(71, 0, 0), (71, 0, 0), (71, 0, 0)]) (QI.out.keep hS.1.1))) rfl ?_)
       | (refine Run.callG 14 (by kernel_rfl) ?_ (fun hS => orightb_any attrs _ l _ (own_rdE (m := [(71, 0, 0), (71, 0, 0), (71, 0, 0)]) (QI.out.keep hS.1.1))) rfl ?_; (· simp only [List.getElem?_cons_zero, List.getElem?_cons_succ]))
       | (refine Run.callF 15 (by kernel_rfl) (fun hS => rrightb_any attrs _ l _ (Q1.out.keep hS.1.1)) rfl ?_)
       | (refine Run.callG 15 (by kernel_rfl) ?_ (fun hS => rrightb_any attrs _ l _ (Q1.out.keep hS.1.1)) rfl ?_; (· simp only [List.getElem?_cons_zero, List.getElem?_cons_succ]))
       | (refine Run.callF 16 (by kernel_rfl) (fun hS => omatch_any _ _ l vs _ (own_rdE (m := [(71, 0, 0), (71, 0, 0), (71, 0, 0)]) (QI.out.keep hS.1.1)) (own_rd (m := [71, 71, 71]) (QJ.out.keep hS.1.1)) HRB.out HBV.out) rfl ?_)
       | (refine Run.callG 16 (by kernel_rfl) ?_ (fun hS => omatch_any _ _ l vs _ (own_rdE (m := [(71, 0, 0), (71, 0, 0), (71, 0, 0)]) (QI.out.keep hS.1.1)) (own_rd (m := [71, 71, 71]) (QJ.out.keep hS.1.1)) HRB.out HBV.out) rfl ?_; (· simp only [List.getElem?_cons_zero, List.getElem?_cons_succ]))
       | (refine Run.callF 17 (by kernel_rfl) (fun hS => rmatch_any _ _ l vs _ (Q1.out.keep hS.1.1) (Q2.out.keep hS.1.1) HRB.out HBV.out) rfl ?_)
       | (refine Run.callG 17 (by kernel_rfl) ?_ (fun hS => rmatch_any _ _ l vs _ (Q1.out.keep hS.1.1) (Q2.out.keep hS.1.1) HRB.out HBV.out) rfl ?_; (· simp only [List.getElem?_cons_zero, List.getElem?_cons_succ]))
       | (refine Run.callF 18 (by kernel_rfl) (fun hS => oempty_any _ l _ (own_rdE (m := [(71, 0, 0), (71, 0, 0), (71, 0, 0)]) (QI.out.keep hS.1.1))) rfl ?_)
       | (refine Run.callG 18 (by kernel_rfl) ?_ (fun hS => oempty_any _ l _ (own_rdE (m := [(71, 0, 0), (71, 0, 0), (71, 0, 0)]) (QI.out.keep hS.1.1))) rfl ?_; (· simp only [List.getElem?_cons_zero, List.getElem?_cons_succ]))
       | (refine Run.callF 19 (by kernel_rfl) (fun hS => rempty_any _ l _ (Q1.out.keep hS.1.1)) rfl ?_)
       | (refine Run.callG 19 (by kernel_rfl) ?_ (fun hS => rempty_any _ l _ (Q1.out.keep hS.1.1)) rfl ?_; (· simp only [List.getElem?_cons_zero, List.getElem?_cons_succ]))
       | (refine Run.callF 23 (by kernel_rfl) (fun hS => oin_any k a b v bra brb bvv _) rfl ?_)
       | (refine Run.callG 23 (by kernel_rfl) ?_ (fun hS => oin_any k a b v bra brb bvv _) rfl ?_; (· simp only [List.getElem?_cons_zero, List.getElem?_cons_succ]))
       | (refine Run.callF 24 (by kernel_rfl) (fun hS => rin_any k a b v bra brb bvv _) rfl ?_)
       | (refine Run.callG 24 (by kernel_rfl) ?_ (fun hS => rin_any k a b v bra brb bvv _) rfl ?_; (· simp only [List.getElem?_cons_zero, List.getElem?_cons_succ]))
       | (refine Run.callF 25 (by kernel_rfl) (fun hS => keptr_yes g1 _ l 71 0 0 _ (QI.out.keep hS.1.1) (Q1.out.keep hS.1.1) (by omega)) rfl ?_)
       | (refine Run.callG 25 (by kernel_rfl) ?_ (fun hS => keptr_yes g1 _ l 71 0 0 _ (QI.out.keep hS.1.1) (Q1.out.keep hS.1.1) (by omega)) rfl ?_; (· simp only [List.getElem?_cons_zero, List.getElem?_cons_succ]))
       | (refine Run.callF 26 (by kernel_rfl) (fun hS => keptu_yes g2 _ vs 71 _ (QJ.out.keep hS.1.1) (Q2.out.keep hS.1.1) (by omega)) rfl ?_)
       | (refine Run.callG 26 (by kernel_rfl) ?_ (fun hS => keptu_yes g2 _ vs 71 _ (QJ.out.keep hS.1.1) (Q2.out.keep hS.1.1) (by omega)) rfl ?_; (· simp only [List.getElem?_cons_zero, List.getElem?_cons_succ]))
       | fail)
       (first
       | (rintro hS e w' ⟨rfl, rfl⟩; refine ⟨_, rfl, hS, ?_⟩)
       | (rintro hS e w' ⟨rfl, hb⟩; refine ⟨_, rfl, ⟨⟨nest hS.1.1 hb, hS.1.2.keep hb⟩, hS.2.keep hb⟩, ?_⟩)
       | fail))
    | fail); simp only [Act.put, List.setIfInBounds_toArray, List.set_cons_zero, List.set_cons_succ])
  refine Run.ends (fun hS => ?_)
  have EX := Lib.hid (nest QX.out hS.1.1)
  clear hS
  go_wp2_with fail
  go_ret
  exact ⟨rfl, EX.out⟩
end Go.Proofs.Ytpdijfhjdbmamaa.boxTells
