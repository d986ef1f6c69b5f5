/- Walk of the law DiceRoll. -/
import Derived.Test.YthhelhhlofdehaaDiceAwake
import Derived.Test.YthhelhhlofdehaaBytes
set_option maxRecDepth 4000
namespace Go.Proofs.Ythhelhhlofdehaa.diceRoll
open Go.RowKit Mem
set_option linter.unusedSimpArgs false
set_option linter.unusedVariables false
attribute [local irreducible] Go.Calls

theorem ib_at {l : List Int} (h : ∀ x ∈ l, -9223372036854775808 ≤ x ∧ x ≤ 9223372036854775807) {k : Nat} (hk : k < l.length) : -9223372036854775808 ≤ l.getD k 0 ∧ l.getD k 0 ≤ 9223372036854775807 := by
  rw [show l.getD k 0 = l[k] by simp [List.getD, hk]]
  exact h _ (List.getElem_mem hk)
/-- dice and the document's dice in step -/
def Step2 (w wr : World) (bw : Nat) (vd : Value) : Prop := ∃ (b : Nat) (s : Int), vd = .pointer (some ⟨b, 0, none⟩) ∧ w.heap.size ≤ b ∧ b ≠ bw ∧ (0 ≤ s ∧ s ≤ 18446744073709551615) ∧ DAt wr b s ∧ Blk wr bw 57 #[.int .u64 s] ∧ Below w.heap.size w wr
set_option maxHeartbeats 2000000 in
theorem walk (seed : Int) (bs : 0 ≤ seed ∧ seed ≤ 18446744073709551615) (v : Value) (l : List Int) (fk : Int) (bfk : -9223372036854775808 ≤ fk ∧ fk ≤ 9223372036854775807) (w : World) (h : Rd (intE .i64) w v l) (bl : ∀ x ∈ l, -9223372036854775808 ≤ x ∧ x ≤ 9223372036854775807) :
    Calls Try.prog 6 #[.int .u64 seed, v, .int .i64 fk] w fun e w' => e = .returned (.bool true) ∧ Below w.heap.size w w' := by
  obtain ⟨a, g, off, c, rfl, hc1, hm1, ha, hcell⟩ := Mem.Rd.loopI h
  have hm1' : c ≤ 9223372036854775807 := hm1
  have HA := Lib.hid ha
  have HC := Lib.hid hcell
  have HBL := Lib.hid bl
  clear h ha hcell bl
  go_enter Try.func6, Try.ntmps6
  go_wp2_with fail
  refine (dnew_any seed bs w).mono ?_
  rintro e w1 ⟨b, rfl, hb, hd, hk⟩
  have hX := more (Below.refl w1.heap.size w1) (.cells #[.int .u64 seed] 57)
  have HD := Lib.hid (hd.keep hX)
  have HR := Lib.hid (Blk.new w1 57 #[.int .u64 seed])
  have HX := Lib.hid (nest hk hX)
  have hlt := hd.lt
  have hbw : w.heap.size ≤ w1.heap.size := hk.size
  clear hd hk hX
  go_wp2_with fail
  generalize w1.alloc (.cells #[.int .u64 seed] 57) = w2 at *
  generalize w1.heap.size = bw at *
  refine (dawake_any w2).mono ?_
  rintro e w3 ⟨rfl, hk3⟩
  have HS : Hid (Step2 w w3 bw (.pointer (some ⟨b, 0, none⟩))) := Lib.hid ⟨b, seed, rfl, hb, by omega, bs, HD.out.keep hk3, HR.out.keep hk3, nest HX.out hk3⟩
  clear hk3 HD HR HX
  go_wp2_with fail
  go_loopw [7, 9] (fun vd i wr => ∃ k : Nat, k ≤ l.length ∧ k ≤ 100 ∧ i = .int .i64 k ∧ Step2 w wr bw vd) (fun _ i _ => 100 - (intOf i).toNat)
  case atStart => exact ⟨0, Nat.zero_le _, Nat.zero_le _, rfl, HS.out⟩
  case round =>
    obtain ⟨k, hkl, hk100, rfl, b', s, rfl, hb', hne, bs', hd, hr, hkk⟩ := hrel
    have HD := Lib.hid hd
    have HR := Lib.hid hr
    have HK := Lib.hid hkk
    clear hd hr hkk HS
    have hcase : (k < l.length ∧ k < 100) ∨ (¬ k < l.length) ∨ (k < l.length ∧ ¬ k < 100) := by omega
    have fin : (k < l.length ∧ ¬ k < 100) ∨ (¬ k < l.length) → True := fun _ => trivial
    clear fin
    rcases hcase with ⟨hlt, hlt2⟩ | hge | ⟨hlt, hge⟩
    · obtain ⟨rfl, hg⟩ := HA.out (by omega)
      have d1 := (HK.out.cell (p := ⟨g, off + k, none⟩) hg).trans (HC.out k hlt)
      have hbn := ib_at HBL.out hlt
      generalize l.getD k 0 = n at *
      go_wp2_with fail
      refine Run.region_walk (S := fun z => z.cell? ⟨g, off + k, none⟩ = some (.int .i64 n))
        ldroll.rows6 ldroll.plan6 (l := ?steps1) (by kernel_rfl) (by kernel_rfl) (by kernel_rfl) (by kernel_rfl) ?written1 d1 ?onward1
      case written1 =>
        simp only [ldroll.plan6, Run.stepsOf, Run.stepOf, Run.guardOf, List.getElem?_toArray, List.getElem?_cons_zero, List.getElem?_cons_succ, Option.map_some, Option.map_none, Option.bind_some, Option.toList_some, List.map_cons, List.map_nil, List.cons_append, List.nil_append]
        rfl
      repeat ((first
        | (refine Run.takes (v := ?_) ?_ ?_; rotate_left; (· intro w' hS'; go_simp; (try with_reducible rfl)))
        | (refine Run.takesG (v := ?_) ?_ ?_ ?_; rotate_left; (· simp only [List.getElem?_cons_zero, List.getElem?_cons_succ]); (· intro w' hS'; go_simp; (try with_reducible rfl)))
        | (refine Run.skipsT ?_ ?_; (· simp only [List.getElem?_cons_zero, List.getElem?_cons_succ]))
        | (refine Run.skipsF ?_ ?_; (· simp only [List.getElem?_cons_zero, List.getElem?_cons_succ]))
        | (refine Run.skipsU ?_ ?_; (· simp only [List.getElem?_cons_zero, List.getElem?_cons_succ]))
        | (refine Run.passT ?_ ?_; (· simp only [List.getElem?_cons_zero, List.getElem?_cons_succ]))
        | (refine Run.passF ?_ ?_; (· simp only [List.getElem?_cons_zero, List.getElem?_cons_succ]))
        | (refine Run.passU ?_ ?_; (· simp only [List.getElem?_cons_zero, List.getElem?_cons_succ]))
        | fail); simp only [Act.put, List.setIfInBounds_toArray, List.set_cons_zero, List.set_cons_succ])
      refine Run.runs (Run.callF 23 (by kernel_rfl) (fun hS => ddroll_any b' s bs' n hbn _ (HD.out.keep (Below.refl _ _).drew)) rfl ?_)
      rintro hS e z1 ⟨rfl, hd, ho⟩
      have hkd := HK.out.drew
      have HR1 := Lib.hid ((HR.out.keep (Below.refl _ _).drew).only ho (Ne.symm hne))
      have HK1 := Lib.hid (hkd.trans (ho.below hb' hkd.size))
      have HD1 := Lib.hid hd
      have d2 : z1.cell? ⟨g, off + k, none⟩ = some (.int .i64 n) := (HK1.out.cell (p := ⟨g, off + k, none⟩) hg).trans ((HK.out.cell (p := ⟨g, off + k, none⟩) hg).symm.trans d1)
      refine ⟨_, rfl, d2, ?_⟩
      simp only [Act.put, List.setIfInBounds_toArray, List.set_cons_zero, List.set_cons_succ]
      clear hS hd ho hkd
      refine Run.runs (Run.callF 24 (by kernel_rfl) (fun hS => rdroll_any bw s bs' n hbn _ HR1.out) rfl ?_)
      rintro hS e z2 ⟨rfl, hr, ho⟩
      have HD2 := Lib.hid (HD1.out.only ho hne)
      have HK2 := Lib.hid (HK1.out.trans (ho.below hbw HK1.out.size))
      have HR2 := Lib.hid hr
      have d3 : z2.cell? ⟨g, off + k, none⟩ = some (.int .i64 n) := (HK2.out.cell (p := ⟨g, off + k, none⟩) hg).trans ((HK.out.cell (p := ⟨g, off + k, none⟩) hg).symm.trans d1)
      refine ⟨_, rfl, d3, ?_⟩
      simp only [Act.put, List.setIfInBounds_toArray, List.set_cons_zero, List.set_cons_succ]
      clear hS hr ho d2
      have bda := dafter_bd s n bs'
      generalize droll s n = r at *
      generalize dafter s n = s2 at *
      repeat ((first
        | (refine Run.takes (v := ?_) ?_ ?_; rotate_left; (· intro w' hS'; go_simp; (try with_reducible rfl)))
        | (refine Run.takesG (v := ?_) ?_ ?_ ?_; rotate_left; (· simp only [List.getElem?_cons_zero, List.getElem?_cons_succ]); (· intro w' hS'; go_simp; (try with_reducible rfl)))
        | (refine Run.skipsT ?_ ?_; (· simp only [List.getElem?_cons_zero, List.getElem?_cons_succ]))
        | (refine Run.skipsF ?_ ?_; (· simp only [List.getElem?_cons_zero, List.getElem?_cons_succ]))
        | (refine Run.skipsU ?_ ?_; (· simp only [List.getElem?_cons_zero, List.getElem?_cons_succ]))
        | (refine Run.passT ?_ ?_; (· simp only [List.getElem?_cons_zero, List.getElem?_cons_succ]))
        | (refine Run.passF ?_ ?_; (· simp only [List.getElem?_cons_zero, List.getElem?_cons_succ]))
        | (refine Run.passU ?_ ?_; (· simp only [List.getElem?_cons_zero, List.getElem?_cons_succ]))
        | fail); simp only [Act.put, List.setIfInBounds_toArray, List.set_cons_zero, List.set_cons_succ])
      refine Run.ends (fun hS => ?_)
      clear hS d1 d3 HD HR HD1 HR1 HK1
      by_cases hf : (k : Int) = fk
      · have df : ((k : Int) == fk) = true := by simpa using hf
        clear hf
        go_wp2_with fail
        refine (dfork_any b' s2 z2 HD2.out).mono ?_
        rintro e z3 ⟨b3, rfl, hb3, hd3, hk3⟩
        have hlt2' := HD2.out.lt
        have hltr := HR2.out.lt
        have hb3w : w.heap.size ≤ b3 := by have := HK2.out.size; omega
        have HD3 := Lib.hid (HD2.out.keep hk3)
        have HE3 := Lib.hid hd3
        have HR3 := Lib.hid (HR2.out.keep hk3)
        have HK3 := Lib.hid (nest HK2.out hk3)
        clear hd3 hk3
        go_wp2_with fail
        refine (dstep_any b' s2 bda z3 HD3.out).mono ?_
        rintro e z4 ⟨rfl, hd4, ho⟩
        have HE4 := Lib.hid (HE3.out.only ho (by omega))
        have HR4 := Lib.hid (HR3.out.only ho (Ne.symm hne))
        have HK4 := Lib.hid (HK3.out.trans (ho.below hb' HK3.out.size))
        clear hd4 ho
        go_wp2_with fail
        exact ⟨⟨k + 1, by omega, by omega, by go_num, b3, s2, rfl, hb3w, by omega, bda, HE4.out, HR4.out, HK4.out⟩, by simp [intOf]; omega⟩
      · have df : ((k : Int) == fk) = false := by simpa using hf
        clear hf
        go_wp2_with fail
        exact ⟨⟨k + 1, by omega, by omega, by go_num, b', s2, rfl, hb', hne, bda, HD2.out, HR2.out, HK2.out⟩, by simp [intOf]; omega⟩
    · go_wp2_with fail
      refine (dstep_any b' s bs' wr HD.out).mono ?_
      rintro e z1 ⟨rfl, hd, ho⟩
      have HR1 := Lib.hid (HR.out.only ho (Ne.symm hne))
      have HK1 := Lib.hid (HK.out.trans (ho.below hb' HK.out.size))
      clear hd ho
      go_wp2_with fail
      refine (rdstep_any bw s bs' z1 HR1.out).mono ?_
      rintro e z2 ⟨rfl, hr, ho⟩
      have HK2 := Lib.hid (HK1.out.trans (ho.below hbw HK1.out.size))
      clear hr ho
      go_wp2_with fail
      go_ret
      exact ⟨by simp, HK2.out⟩
    · go_wp2_with fail
      refine (dstep_any b' s bs' wr HD.out).mono ?_
      rintro e z1 ⟨rfl, hd, ho⟩
      have HR1 := Lib.hid (HR.out.only ho (Ne.symm hne))
      have HK1 := Lib.hid (HK.out.trans (ho.below hb' HK.out.size))
      clear hd ho
      go_wp2_with fail
      refine (rdstep_any bw s bs' z1 HR1.out).mono ?_
      rintro e z2 ⟨rfl, hr, ho⟩
      have HK2 := Lib.hid (HK1.out.trans (ho.below hbw HK1.out.size))
      clear hr ho
      go_wp2_with fail
      go_ret
      exact ⟨by simp, HK2.out⟩
end Go.Proofs.Ythhelhhlofdehaa.diceRoll
