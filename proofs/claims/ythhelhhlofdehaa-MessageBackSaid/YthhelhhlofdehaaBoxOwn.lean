/- Package box: is, Span, In. -/
import Derived.Test.YthhelhhlofdehaaBoxRef
import Derived.Test.YthhelhhlofdehaaWalk
import Derived.Test.YthhelhhlofdehaaOctW
set_option maxRecDepth 4000
namespace Go.Proofs.Ythhelhhlofdehaa
open Go.RowKit Mem Cir
set_option linter.unusedSimpArgs false
set_option linter.unusedVariables false
attribute [local irreducible] Go.Calls

theorem ois_any (k : Int) (w : World) : Calls Try.prog 80 #[.int .i64 k] w fun e w' => e = .returned (.bool (kindV k)) ∧ Below w.heap.size w w' := by
  by_cases h1 : k = 1
  · subst h1
    go_enter Try.func80, Try.ntmps80
    go_wp2_with fail
    go_ret
    exact ⟨rfl, Below.refl _ _⟩
  have d1 : (k == 1) = false := by simpa using h1
  by_cases h2 : k = 2
  · subst h2
    go_enter Try.func80, Try.ntmps80
    go_wp2_with fail
    go_ret
    exact ⟨rfl, Below.refl _ _⟩
  have d2 : (k == 2) = false := by simpa using h2
  by_cases h3 : k = 3
  · subst h3
    go_enter Try.func80, Try.ntmps80
    go_wp2_with fail
    go_ret
    exact ⟨rfl, Below.refl _ _⟩
  have d3 : (k == 3) = false := by simpa using h3
  have e : kindV k = false := by simp [kindV]; omega
  rw [e]
  go_enter Try.func80, Try.ntmps80
  go_wp2_with fail
  go_ret
  exact ⟨rfl, Below.refl _ _⟩
theorem span_in (k a b v : Int) : inV (k, a, b) v = ((spanV (k, a, b)).2.2 && decide (beh (spanV (k, a, b)).1 v ≤ beh (spanV (k, a, b)).1 (spanV (k, a, b)).2.1)) := by
  by_cases h1 : k = 1
  · subst h1
    have e : spanV (1, a, b) = (4294967295, 4294967295, true) := by simp [spanV]
    have e2 : inV (1, a, b) v = true := by simp [inV]
    rw [e, e2]
    have : beh 4294967295 v ≤ beh 4294967295 4294967295 := by unfold beh; omega
    rw [decide_eq_true this]
    rfl
  · have d1 : (k == 1) = false := by simpa using h1
    by_cases h2 : k = 2
    · subst h2
      have e : spanV (2, a, b) = ((a - 1) % 4294967296, b, true) := by simp [spanV]
      have e2 : inV (2, a, b) v = decide ((v - a) % 4294967296 ≤ (b - a) % 4294967296) := by simp [inV]
      rw [e, e2, Bool.true_and]
      show _ = decide (beh ((a - 1) % 4294967296) v ≤ beh ((a - 1) % 4294967296) b)
      have : ((v - a) % 4294967296 ≤ (b - a) % 4294967296) ↔ (beh ((a - 1) % 4294967296) v ≤ beh ((a - 1) % 4294967296) b) := by unfold beh; omega
      simp only [this]
    · have d2 : (k == 2) = false := by simpa using h2
      have e : spanV (k, a, b) = (0, 0, false) := by unfold spanV; rw [if_neg h1, if_neg h2]
      have e2 : inV (k, a, b) v = false := by simp [inV, d1, d2]
      rw [e, e2, Bool.false_and]
end Go.Proofs.Ythhelhhlofdehaa
/- Package box: Right, Match, Empty. -/
namespace Go.Proofs.Ythhelhhlofdehaa
open Go.RowKit Mem Cir
set_option linter.unusedSimpArgs false
set_option linter.unusedVariables false
attribute [local irreducible] Go.Calls

theorem rinfo3 : (Try.prog.info? 65).map (·.size) = some 3 := by kernel_rfl
set_option maxHeartbeats 1000000 in
theorem orightb_any (attrs : Int) (v : Value) (l : List (Int × Int × Int)) (w : World) (h : Rd rngE w v l) :
    Calls Try.prog 65 #[.int .i64 attrs, v] w fun e w' => e = .returned (.bool (rightB attrs l)) ∧ Below w.heap.size w w' := by
  obtain ⟨a, g, off, c, rfl, hc1, hm1, ha, hcell⟩ := Rd.loop3 h
  have hm1' : c ≤ 9223372036854775807 := hm1
  have HA := Lib.hid ha
  have HC := Lib.hid hcell
  clear h ha hcell
  by_cases h1 : attrs < 1
  · have e : rightB attrs l = false := by simp [rightB]; omega
    rw [e]
    go_enter Try.func65, Try.ntmps65
    go_wp2_with fail
    go_ret
    exact ⟨rfl, Below.refl _ _⟩
  by_cases h2 : attrs > 8
  · have e : rightB attrs l = false := by simp [rightB]; omega
    rw [e]
    go_enter Try.func65, Try.ntmps65
    go_wp2_with fail
    go_ret
    exact ⟨rfl, Below.refl _ _⟩
  by_cases h3 : (l.length : Int) = attrs
  case neg =>
    have e : rightB attrs l = false := by simp [rightB]; omega
    rw [e]
    have d3 : ((l.length : Int) == attrs) = false := by simpa using h3
    go_enter Try.func65, Try.ntmps65
    go_wp2_with fail
    go_ret
    exact ⟨rfl, Below.refl _ _⟩
  subst h3
  have e : rightB l.length l = l.all (fun (r : Int × Int × Int) => kindV r.1) := by
    have h1' : (1 : Int) ≤ l.length := by omega
    have h2' : (l.length : Int) ≤ 8 := by omega
    unfold rightB
    rw [decide_eq_true h1', decide_eq_true h2', decide_eq_true rfl]
    simp
  rw [e]
  have HY : Hid ((∀ i, i < l.length → kindV (l.getD i (0, 0, 0)).1 = true) → l.all (fun (r : Int × Int × Int) => kindV r.1) = true) := Lib.hid (fun h => all_yes (f := fun (r : Int × Int × Int) => kindV r.1) h)
  have HN : Hid (∀ k, k < l.length → kindV (l.getD k (0, 0, 0)).1 = false → l.all (fun (r : Int × Int × Int) => kindV r.1) = false) := Lib.hid (fun k hk h => all_no (f := fun (r : Int × Int × Int) => kindV r.1) hk h)
  generalize l.all (fun (r : Int × Int × Int) => kindV r.1) = res at *
  clear e
  go_enter Try.func65, Try.ntmps65
  go_wp2_with fail
  go_loopw [21] (fun i wr => ∃ k : Nat, k ≤ l.length ∧ i = .int .i64 k ∧ (∀ i, i < k → kindV (l.getD i (0, 0, 0)).1 = true) ∧ Below w.heap.size w wr) (fun i _ => l.length - (intOf i).toNat)
  case atStart => exact ⟨0, Nat.zero_le _, rfl, fun i hi => absurd hi (Nat.not_lt_zero _), Below.refl _ _⟩
  case round =>
    obtain ⟨k, hk, rfl, hu, hb⟩ := hrel
    have HU := Lib.hid hu
    clear hu
    by_cases hlt : k < l.length
    · obtain ⟨rfl, hg⟩ := HA.out (by omega)
      have d1 := (hb.cell (p := ⟨g, off + k * 3, none⟩) hg).trans (HC.out k hlt).1
      have d2 := (hb.cell (p := ⟨g, off + k * 3 + 1, none⟩) hg).trans (HC.out k hlt).2.1
      have d3 := (hb.cell (p := ⟨g, off + k * 3 + 2, none⟩) hg).trans (HC.out k hlt).2.2
      have HX : Hid (kindV (l.getD k (0, 0, 0)).1 = true → ∀ i, i < k + 1 → kindV (l.getD i (0, 0, 0)).1 = true) := Lib.hid (fun h => next_all HU.out h)
      have HNk := Lib.hid (HN.out k hlt)
      generalize (l.getD k (0, 0, 0)).1 = x at *
      generalize (l.getD k (0, 0, 0)).2.1 = y at *
      generalize (l.getD k (0, 0, 0)).2.2 = u at *
      have HB := Lib.hid hb
      clear hb
      go_wp2_with fail
      refine (ois_any x _).mono ?_
      rintro e w1 ⟨rfl, hb1⟩
      have HB1 := Lib.hid (nest (nest HB.out (more (Below.refl _ _) _)) hb1)
      clear hb1 d1 d2 d3
      cases hx : kindV x with
      | true =>
        have H2 := Lib.hid (HX.out hx)
        clear hx
        go_wp2_with fail
        exact ⟨⟨k + 1, by omega, by go_num, H2.out, HB1.out⟩, by simp [intOf]; omega⟩
      | false =>
        have H2 := Lib.hid (HNk.out hx)
        clear hx
        go_wp2_with fail
        go_ret
        exact ⟨by rw [H2.out]; rfl, HB1.out⟩
    · have hkn : k = l.length := by omega
      subst hkn
      have HR := Lib.hid (HY.out HU.out)
      go_wp2_with fail
      go_ret
      exact ⟨by rw [HR.out]; rfl, hb⟩
end Go.Proofs.Ythhelhhlofdehaa
/- Package box: Pack. -/
namespace Go.Proofs.Ythhelhhlofdehaa
open Go.RowKit Mem Cir
set_option linter.unusedSimpArgs false
set_option linter.unusedVariables false
attribute [local irreducible] Go.Calls

set_option maxHeartbeats 2000000 in
theorem opack_row (v : Value) (l : List (Int × Int × Int)) (w : World) (h : Rd rngE w v l) (bl : RB l) (hl : l.length ≤ 1000) :
    Calls Try.prog 57 #[v] w (PutPost w (packV l)) := by
  obtain ⟨a, g, off, c, rfl, hc1, hm1, ha, hcell⟩ := Rd.loop3 h
  have hm1' : c ≤ 9223372036854775807 := hm1
  have HA := Lib.hid ha
  have HC := Lib.hid hcell
  have HBL := Lib.hid bl
  clear h ha hcell bl
  have hw : IntKind.u64.wrap (l.length : Int) = l.length := by rw [show IntKind.u64.wrap (l.length : Int) = (l.length : Int) % 18446744073709551616 by simp [IntKind.wrap, IntKind.bits, IntKind.signed]]; omega
  have hz : ∀ w, (zeroValue 69).run Try.prog w = .ok (.agg wnew.toArray) w := fun w => run_zero_of (n := 66) wnew_info w
  have HW0 := Lib.hid (wr_new w)
  have hk0 : Below w.heap.size w (w.alloc (.cells wnew.toArray 69)) := more (Below.refl _ _) _
  have HK0 := Lib.hid hk0
  have HSZ := Lib.hid hk0.size
  clear hk0
  go_enter Try.func57, Try.ntmps57
  go_wp2_with fail
  clear hz
  generalize w.alloc (.cells wnew.toArray 69) = w0 at *
  obtain ⟨b, hb⟩ : ∃ b, b = w.heap.size := ⟨_, rfl⟩
  rw [← hb] at HW0 ⊢
  have HBB := Lib.hid hb
  clear hb
  refine (oput_any b [] l.length 1 (by omega) w0 HW0.out (by simp)).mono ?_
  rintro e w1 ⟨⟨u, rfl⟩, hw1, ho1⟩
  rw [sz1, List.nil_append] at hw1
  have HW1 := Lib.hid hw1
  have HB1 := Lib.hid (HK0.out.trans (ho1.below (by rw [HBB.out]; exact Nat.le_refl _) HSZ.out))
  clear hw1 ho1 HW0
  go_wp2_with fail
  go_loopw [12] (fun i wr => ∃ k : Nat, k ≤ l.length ∧ i = .int .i64 k ∧ WrAt wr b (be 1 l.length ++ packs (l.take k)) ∧ Below w.heap.size w wr) (fun i _ => l.length - (intOf i).toNat)
  case atStart => exact ⟨0, Nat.zero_le _, rfl, by simpa [packs] using HW1.out, HB1.out⟩
  case round =>
    obtain ⟨k, hk, rfl, hr, hb⟩ := hrel
    by_cases hlt : k < l.length
    · obtain ⟨rfl, hg⟩ := HA.out (by omega)
      have d1 := (hb.cell (p := ⟨g, off + k * 3, none⟩) hg).trans (HC.out k hlt).1
      have d2 := (hb.cell (p := ⟨g, off + k * 3 + 1, none⟩) hg).trans (HC.out k hlt).2.1
      have d3 := (hb.cell (p := ⟨g, off + k * 3 + 2, none⟩) hg).trans (HC.out k hlt).2.2
      have hbl := HBL.out.at hlt
      have HST : Hid (be 1 l.length ++ packs (l.take (k + 1)) = (be 1 l.length ++ packs (l.take k)) ++ packR (l.getD k (0, 0, 0))) := Lib.hid (by rw [packs_step hlt, List.append_assoc])
      have hlen : (be 1 l.length ++ packs (l.take k)).length = 1 + 9 * k := by rw [List.length_append, be_len, packs_len, List.length_take]; omega
      have HR := Lib.hid hr
      have HB := Lib.hid hb
      have HLEN := Lib.hid hlen
      generalize l.getD k (0, 0, 0) = r at *
      generalize be 1 l.length ++ packs (l.take k) = Q at *
      obtain ⟨x, y, u⟩ := r
      simp only [] at d1 d2 d3 hbl
      clear hr hb hlen
      have hbx := u64_bd x
      have hwy : IntKind.u64.wrap y = y := IntWalk.u64_in _ (by omega)
      have hwu : IntKind.u64.wrap u = u := IntWalk.u64_in _ (by omega)
      have hw0 : IntKind.u64.wrap 0 = 0 := rfl
      by_cases hx2 : x = 2
      · subst hx2
        have HBK := Lib.hid (Blk.newAt wr 65 #[.int .i64 2, .int .u32 y, .int .u32 u] rfl)
        have HKW : Hid (Below wr.heap.size wr (wr.alloc (.cells #[.int .i64 2, .int .u32 y, .int .u32 u] 65))) := Lib.hid (more (Below.refl _ _) _)
        go_wp2_with fail
        clear d1 d2 d3
        generalize (wr.alloc (.cells #[.int .i64 2, .int .u32 y, .int .u32 u] 65)) = z at *
        obtain ⟨b0, hb0⟩ : ∃ b0, b0 = wr.heap.size := ⟨_, rfl⟩
        rw [← hb0] at HBK ⊢
        have HNE : Hid (b0 ≠ b) := Lib.hid (by have := HR.out.lt; omega)
        have HRZ := Lib.hid (HR.out.keep HKW.out)
        have HBZ := Lib.hid (nest HB.out HKW.out)
        clear HR HB HKW hb0
        refine (oput_any b Q (IntKind.u64.wrap 2) 1 hbx z HRZ.out (by rw [HLEN.out]; omega)).mono ?_
        rintro e z1 ⟨⟨uu, rfl⟩, hp1, ho1⟩
        rw [sz1] at hp1
        obtain ⟨Q1, hQ1⟩ : ∃ Q1, Q1 = Q ++ be 1 (IntKind.u64.wrap 2) := ⟨_, rfl⟩
        rw [← hQ1] at hp1
        have HQ1 := Lib.hid hQ1
        have HL1 : Hid (Q1.length = 2 + 9 * k) := Lib.hid (by rw [hQ1, List.length_append, be_len, HLEN.out]; omega)
        have hbk1 := HBK.out.only ho1 HNE.out
        have dy1 : z1.cell? ⟨b0, 1, none⟩ = some (.int .u32 y) := hbk1.cell 1
        have HBK1 := Lib.hid hbk1
        have HP1 := Lib.hid hp1
        have HZ1 := Lib.hid (HBZ.out.trans (ho1.below (by rw [HBB.out]; exact Nat.le_refl _) HBZ.out.size))
        clear hp1 ho1 hQ1 hbk1 HBZ HRZ HBK
        go_wp2_with fail
        refine (oput_any b Q1 (y) 4 (by omega) z1 HP1.out (by rw [HL1.out]; omega)).mono ?_
        rintro e z2 ⟨⟨uu2, rfl⟩, hp2, ho2⟩
        rw [sz4'] at hp2
        obtain ⟨Q2, hQ2⟩ : ∃ Q2, Q2 = Q1 ++ be 4 (y) := ⟨_, rfl⟩
        rw [← hQ2] at hp2
        have HQ2 := Lib.hid hQ2
        have HL2 : Hid (Q2.length = 6 + 9 * k) := Lib.hid (by rw [hQ2, List.length_append, be_len, HL1.out]; omega)
        have hbk2 := HBK1.out.only ho2 HNE.out
        have du2 : z2.cell? ⟨b0, 2, none⟩ = some (.int .u32 u) := hbk2.cell 2
        have HP2 := Lib.hid hp2
        have HZ2 := Lib.hid (HZ1.out.trans (ho2.below (by rw [HBB.out]; exact Nat.le_refl _) HZ1.out.size))
        clear hp2 ho2 hQ2 hbk2 dy1 HBK1 HZ1 HP1
        go_wp2_with fail
        refine (oput_any b Q2 (u) 4 (by omega) z2 HP2.out (by rw [HL2.out]; omega)).mono ?_
        rintro e z3 ⟨⟨uu3, rfl⟩, hp3, ho3⟩
        rw [sz4'] at hp3
        have HP3 := Lib.hid hp3
        have HZ3 := Lib.hid (HZ2.out.trans (ho3.below (by rw [HBB.out]; exact Nat.le_refl _) HZ2.out.size))
        clear hp3 ho3 du2 HZ2 HP2
        go_wp2_with fail
        refine ⟨⟨k + 1, by omega, by go_num, ?_, HZ3.out⟩, by simp [intOf]; omega⟩
        rw [HST.out]
        have := HP3.out
        have e : Q2 ++ be 4 (u) = Q ++ packR (2, y, u) := by rw [HQ2.out, HQ1.out]; simp [packR]
        rw [← e]
        exact this
      · have e2 : (x == 2) = false := by simpa using hx2
        have HBK := Lib.hid (Blk.newAt wr 65 #[.int .i64 x, .int .u32 0, .int .u32 0] rfl)
        have HKW : Hid (Below wr.heap.size wr (wr.alloc (.cells #[.int .i64 x, .int .u32 0, .int .u32 0] 65))) := Lib.hid (more (Below.refl _ _) _)
        go_wp2_with fail
        clear d1 d2 d3
        generalize (wr.alloc (.cells #[.int .i64 x, .int .u32 0, .int .u32 0] 65)) = z at *
        obtain ⟨b0, hb0⟩ : ∃ b0, b0 = wr.heap.size := ⟨_, rfl⟩
        rw [← hb0] at HBK ⊢
        have HNE : Hid (b0 ≠ b) := Lib.hid (by have := HR.out.lt; omega)
        have HRZ := Lib.hid (HR.out.keep HKW.out)
        have HBZ := Lib.hid (nest HB.out HKW.out)
        clear HR HB HKW hb0
        refine (oput_any b Q (IntKind.u64.wrap x) 1 hbx z HRZ.out (by rw [HLEN.out]; omega)).mono ?_
        rintro e z1 ⟨⟨uu, rfl⟩, hp1, ho1⟩
        rw [sz1] at hp1
        obtain ⟨Q1, hQ1⟩ : ∃ Q1, Q1 = Q ++ be 1 (IntKind.u64.wrap x) := ⟨_, rfl⟩
        rw [← hQ1] at hp1
        have HQ1 := Lib.hid hQ1
        have HL1 : Hid (Q1.length = 2 + 9 * k) := Lib.hid (by rw [hQ1, List.length_append, be_len, HLEN.out]; omega)
        have hbk1 := HBK.out.only ho1 HNE.out
        have dy1 : z1.cell? ⟨b0, 1, none⟩ = some (.int .u32 0) := hbk1.cell 1
        have HBK1 := Lib.hid hbk1
        have HP1 := Lib.hid hp1
        have HZ1 := Lib.hid (HBZ.out.trans (ho1.below (by rw [HBB.out]; exact Nat.le_refl _) HBZ.out.size))
        clear hp1 ho1 hQ1 hbk1 HBZ HRZ HBK
        go_wp2_with fail
        refine (oput_any b Q1 (0) 4 (by omega) z1 HP1.out (by rw [HL1.out]; omega)).mono ?_
        rintro e z2 ⟨⟨uu2, rfl⟩, hp2, ho2⟩
        rw [sz4'] at hp2
        obtain ⟨Q2, hQ2⟩ : ∃ Q2, Q2 = Q1 ++ be 4 (0) := ⟨_, rfl⟩
        rw [← hQ2] at hp2
        have HQ2 := Lib.hid hQ2
        have HL2 : Hid (Q2.length = 6 + 9 * k) := Lib.hid (by rw [hQ2, List.length_append, be_len, HL1.out]; omega)
        have hbk2 := HBK1.out.only ho2 HNE.out
        have du2 : z2.cell? ⟨b0, 2, none⟩ = some (.int .u32 0) := hbk2.cell 2
        have HP2 := Lib.hid hp2
        have HZ2 := Lib.hid (HZ1.out.trans (ho2.below (by rw [HBB.out]; exact Nat.le_refl _) HZ1.out.size))
        clear hp2 ho2 hQ2 hbk2 dy1 HBK1 HZ1 HP1
        go_wp2_with fail
        refine (oput_any b Q2 (0) 4 (by omega) z2 HP2.out (by rw [HL2.out]; omega)).mono ?_
        rintro e z3 ⟨⟨uu3, rfl⟩, hp3, ho3⟩
        rw [sz4'] at hp3
        have HP3 := Lib.hid hp3
        have HZ3 := Lib.hid (HZ2.out.trans (ho3.below (by rw [HBB.out]; exact Nat.le_refl _) HZ2.out.size))
        clear hp3 ho3 du2 HZ2 HP2
        go_wp2_with fail
        refine ⟨⟨k + 1, by omega, by go_num, ?_, HZ3.out⟩, by simp [intOf]; omega⟩
        rw [HST.out]
        have := HP3.out
        have e : Q2 ++ be 4 (0) = Q ++ packR (x, y, u) := by rw [HQ2.out, HQ1.out]; simp [packR, hx2]
        rw [← e]
        exact this
    · have hkn : k = l.length := by omega
      subst hkn
      have HR := Lib.hid hr
      have HB := Lib.hid hb
      clear hr hb
      go_wp2_with fail
      rw [List.take_length] at HR
      have hle : (be 1 l.length ++ packs l).length ≤ 1000000 := by rw [List.length_append, be_len, packs_len]; omega
      have hpv : packV l = be 1 l.length ++ packs l := rfl
      rw [← hpv] at hle HR
      clear hpv
      generalize packV l = R at *
      refine (obytes_any b _ wr HR.out hle).mono ?_
      rintro e w2 ⟨v2, rfl, hr2, hb2⟩
      have HR2 := Lib.hid (hr2.mono HB.out.size)
      have HB2 := Lib.hid (nest HB.out hb2)
      obtain ⟨ar, cr, rfl, _, _⟩ := hr2.rd.form
      clear hr2 hb2
      go_wp2_with fail
      go_ret
      exact ⟨_, rfl, HR2.out, HB2.out⟩
theorem opack_any (v : Value) (l : List (Int × Int × Int)) (w : World) (h : Rd rngE w v l) (bl : RB l) (hl : l.length ≤ 1000) :
    Calls Try.prog 57 #[v] w (PackPost w (packV l)) :=
  (opack_row v l w h bl hl).mono fun e w' ⟨v, h1, h2, h3⟩ => ⟨v, h1, h2.rd, h3⟩
end Go.Proofs.Ythhelhhlofdehaa
