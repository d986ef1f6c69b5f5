/- The document's answer for package box: Pack. -/
import Derived.Test.YtkenldpmogogaaaBoxRef2
set_option maxRecDepth 4000
namespace Go.Proofs.Ytkenldpmogogaaa
open Go.RowKit Mem
set_option linter.unusedSimpArgs false
set_option linter.unusedVariables false
attribute [local irreducible] Go.Calls

/-- what package box's Pack hands out -/
def PackPost (w : World) (l : List Int) (e : Ending) (w' : World) : Prop := ∃ v, e = .returned v ∧ Rd (intE .u8) w' v l ∧ Below w.heap.size w w'
theorem sz1 : szN 1 = 1 := by decide
theorem sz4' : szN 4 = 4 := by decide
theorem u64_bd (x : Int) : 0 ≤ IntKind.u64.wrap x ∧ IntKind.u64.wrap x ≤ 18446744073709551615 := by rw [show IntKind.u64.wrap x = x % 18446744073709551616 by simp [IntKind.wrap, IntKind.bits, IntKind.signed]]; omega
theorem wrap2 : IntKind.u64.wrap 2 = 2 := by decide
set_option maxHeartbeats 2000000 in
theorem rpack_any (v : Value) (l : List (Int × Int × Int)) (w : World) (h : Rd rngE w v l) (bl : RB l) (hl : l.length ≤ 100000) :
    Calls Try.prog 26 #[v] w (PutPost w (packV l)) := by
  obtain ⟨a, g, off, c, rfl, hc1, hm1, ha, hcell⟩ := Rd.loop3 h
  have hm1' : c ≤ 9223372036854775807 := hm1
  have HA := Lib.hid ha
  have HC := Lib.hid hcell
  have HBL := Lib.hid bl
  clear h ha hcell bl
  have hw : IntKind.u64.wrap (l.length : Int) = l.length := by rw [show IntKind.u64.wrap (l.length : Int) = (l.length : Int) % 18446744073709551616 by simp [IntKind.wrap, IntKind.bits, IntKind.signed]]; omega
  go_enter Try.func26, Try.ntmps26
  go_wp2_with fail
  refine (rput_any (.slice none 0 0) [] l.length 1 (by omega) w (Rd.nil _ _ (by unfold maxLen; omega)) (by simp)).mono ?_
  rintro e w1 ⟨v1, rfl, hr1, hb1⟩
  rw [sz1, List.nil_append] at hr1
  obtain ⟨a1, c1, rfl, _, _⟩ := hr1.rd.form
  go_wp2_with fail
  go_loopw [3, 4] (fun o i wr => ∃ k : Nat, k ≤ l.length ∧ i = .int .i64 k ∧ (∃ a c n, o = .slice a n c) ∧ Row (intE .u8) 5 w.heap.size wr o (be 1 l.length ++ packs (l.take k)) ∧ Below w.heap.size w wr) (fun _ i _ => l.length - (intOf i).toNat)
  case atStart => exact ⟨0, Nat.zero_le _, rfl, ⟨_, _, _, rfl⟩, by simpa [packs] using hr1, hb1⟩
  case round =>
    obtain ⟨k, hk, rfl, ⟨ao, co, no, rfl⟩, hr, hb⟩ := hrel
    by_cases hlt : k < l.length
    · obtain ⟨rfl, hg⟩ := HA.out (by omega)
      have d1 := (hb.cell (p := ⟨g, off + k * 3, none⟩) hg).trans (HC.out k hlt).1
      have d2 := (hb.cell (p := ⟨g, off + k * 3 + 1, none⟩) hg).trans (HC.out k hlt).2.1
      have d3 := (hb.cell (p := ⟨g, off + k * 3 + 2, none⟩) hg).trans (HC.out k hlt).2.2
      have hbl := HBL.out.at hlt
      have HST : Hid (be 1 l.length ++ packs (l.take (k + 1)) = (be 1 l.length ++ packs (l.take k)) ++ packR (l.getD k (0, 0, 0))) := Lib.hid (by rw [packs_step hlt, List.append_assoc])
      have hlen : (be 1 l.length ++ packs (l.take k)).length = 1 + 9 * k := by rw [List.length_append, be_len, packs_len, List.length_take]; omega
      have HR := Lib.hid hr
      have HB := Lib.hid hb
      have HLEN := Lib.hid hlen
      generalize l.getD k (0, 0, 0) = r at *
      generalize be 1 l.length ++ packs (l.take k) = Q at *
      obtain ⟨x, y, u⟩ := r
      simp only [] at d1 d2 d3 hbl
      clear hr hb hlen
      go_wp2_with fail
      refine Run.region_walk (S := fun z => z.cell? ⟨g, off + k * 3, none⟩ = some (.int .i64 x) ∧ z.cell? ⟨g, off + k * 3 + 1, none⟩ = some (.int .u32 y) ∧ z.cell? ⟨g, off + k * 3 + 2, none⟩ = some (.int .u32 u) ∧ Below wr.heap.size wr z)
        rpack.rows4 rpack.plan4 (l := ?steps5) (by kernel_rfl) (by kernel_rfl) (by kernel_rfl) (by kernel_rfl) ?written5 ⟨d1, d2, d3, (Below.refl _ _).drew⟩ ?onward5
      case written5 =>
        simp only [rpack.plan4, Run.stepsOf, Run.stepOf, Run.guardOf, List.getElem?_toArray, List.getElem?_cons_zero, List.getElem?_cons_succ, Option.map_some, Option.map_none, Option.bind_some, Option.toList_some, List.map_cons, List.map_nil, List.cons_append, List.nil_append]
        rfl
      repeat ((first
        | (refine Run.takes (v := ?_) ?_ ?_; rotate_left; (· intro w' hS'; go_simp; (try with_reducible rfl)))
        | (refine Run.takesG (v := ?_) ?_ ?_ ?_; rotate_left; (· simp only [List.getElem?_cons_zero, List.getElem?_cons_succ]); (· intro w' hS'; go_simp; (try with_reducible rfl)))
        | (refine Run.skipsT ?_ ?_; (· simp only [List.getElem?_cons_zero, List.getElem?_cons_succ]))
        | (refine Run.skipsF ?_ ?_; (· simp only [List.getElem?_cons_zero, List.getElem?_cons_succ]))
        | (refine Run.skipsU ?_ ?_; (· simp only [List.getElem?_cons_zero, List.getElem?_cons_succ]))
        | (refine Run.passT ?_ ?_; (· simp only [List.getElem?_cons_zero, List.getElem?_cons_succ]))
        | (refine Run.passF ?_ ?_; (· simp only [List.getElem?_cons_zero, List.getElem?_cons_succ]))
        | (refine Run.passU ?_ ?_; (· simp only [List.getElem?_cons_zero, List.getElem?_cons_succ]))
        | fail); simp only [Act.put, List.setIfInBounds_toArray, List.set_cons_zero, List.set_cons_succ])
      refine Run.ends (fun hS2 => ?_)
      have HZ := Lib.hid hS2.2.2.2
      have d1 := hS2.1
      clear hS2
      by_cases hx2 : x = 2
      · subst hx2
        obtain ⟨ao2, co2, hao, hco1, hco2⟩ := HR.out.rd.form
        cases hao
        go_wp2_with fail
        refine (rput_any _ _ (2) 1 (by omega) _ (HR.out.rd.keep HZ.out) (by rw [HLEN.out]; omega)).mono ?_
        rintro e z1 ⟨p1, rfl, hp1, hz1⟩
        rw [sz1] at hp1
        obtain ⟨Q1, hQ1⟩ : ∃ Q1, Q1 = Q ++ be 1 (2) := ⟨_, rfl⟩
        rw [← hQ1] at hp1
        have HQ1 := Lib.hid hQ1
        have HL1 : Hid (Q1.length = 2 + 9 * k) := Lib.hid (by rw [hQ1, List.length_append, be_len, HLEN.out]; omega)
        obtain ⟨b1, f1, rfl, _, _⟩ := hp1.rd.form
        have HP1 := Lib.hid hp1.rd
        have HZ1 := Lib.hid (nest HZ.out hz1)
        clear hp1 hz1 hQ1
        go_wp2_with fail
        refine (rput_any _ _ (y) 4 (by omega) z1 HP1.out (by rw [HL1.out]; omega)).mono ?_
        rintro e z2 ⟨p2, rfl, hp2, hz2⟩
        rw [sz4'] at hp2
        obtain ⟨Q2, hQ2⟩ : ∃ Q2, Q2 = Q1 ++ be 4 (y) := ⟨_, rfl⟩
        rw [← hQ2] at hp2
        have HQ2 := Lib.hid hQ2
        have HL2 : Hid (Q2.length = 6 + 9 * k) := Lib.hid (by rw [hQ2, List.length_append, be_len, HL1.out]; omega)
        obtain ⟨b2, f2, rfl, _, _⟩ := hp2.rd.form
        have HP2 := Lib.hid hp2.rd
        have HZ2 := Lib.hid (nest HZ1.out hz2)
        clear hp2 hz2 hQ2
        go_wp2_with fail
        refine (rput_any _ _ (u) 4 (by omega) z2 HP2.out (by rw [HL2.out]; omega)).mono ?_
        rintro e z3 ⟨p3, rfl, hp3, hz3⟩
        rw [sz4'] at hp3
        obtain ⟨Q3, hQ3⟩ : ∃ Q3, Q3 = Q2 ++ be 4 (u) := ⟨_, rfl⟩
        rw [← hQ3] at hp3
        have HQ3 := Lib.hid hQ3
        have HP3 := Lib.hid (hp3.mono (show w.heap.size ≤ z2.heap.size by have := HB.out.size; have := HZ2.out.size; omega))
        have HZ3 := Lib.hid (nest HB.out (nest HZ2.out hz3))
        obtain ⟨b3, f3, rfl, _, _⟩ := hp3.rd.form
        clear hp3 hz3 hQ3
        go_wp2_with fail
        refine ⟨⟨k + 1, by omega, by go_num, ⟨_, _, _, rfl⟩, ?_, HZ3.out⟩, by simp [intOf]; omega⟩
        rw [HST.out]
        have := HP3.out
        have e : Q3 = Q ++ packR (2, y, u) := by rw [HQ3.out, HQ2.out, HQ1.out]; simp [packR, wrap2]
        rw [← e]
        exact this
      · have e2 : (x == 2) = false := by simpa using hx2
        obtain ⟨ao2, co2, hao, hco1, hco2⟩ := HR.out.rd.form
        cases hao
        go_wp2_with fail
        refine (rput_any _ _ (IntKind.u64.wrap x) 1 (u64_bd x) _ (HR.out.rd.keep HZ.out) (by rw [HLEN.out]; omega)).mono ?_
        rintro e z1 ⟨p1, rfl, hp1, hz1⟩
        rw [sz1] at hp1
        obtain ⟨Q1, hQ1⟩ : ∃ Q1, Q1 = Q ++ be 1 (IntKind.u64.wrap x) := ⟨_, rfl⟩
        rw [← hQ1] at hp1
        have HQ1 := Lib.hid hQ1
        have HL1 : Hid (Q1.length = 2 + 9 * k) := Lib.hid (by rw [hQ1, List.length_append, be_len, HLEN.out]; omega)
        obtain ⟨b1, f1, rfl, _, _⟩ := hp1.rd.form
        have HP1 := Lib.hid hp1.rd
        have HZ1 := Lib.hid (nest HZ.out hz1)
        clear hp1 hz1 hQ1
        go_wp2_with fail
        refine (rput_any _ _ (0) 4 (by omega) z1 HP1.out (by rw [HL1.out]; omega)).mono ?_
        rintro e z2 ⟨p2, rfl, hp2, hz2⟩
        rw [sz4'] at hp2
        obtain ⟨Q2, hQ2⟩ : ∃ Q2, Q2 = Q1 ++ be 4 (0) := ⟨_, rfl⟩
        rw [← hQ2] at hp2
        have HQ2 := Lib.hid hQ2
        have HL2 : Hid (Q2.length = 6 + 9 * k) := Lib.hid (by rw [hQ2, List.length_append, be_len, HL1.out]; omega)
        obtain ⟨b2, f2, rfl, _, _⟩ := hp2.rd.form
        have HP2 := Lib.hid hp2.rd
        have HZ2 := Lib.hid (nest HZ1.out hz2)
        clear hp2 hz2 hQ2
        go_wp2_with fail
        refine (rput_any _ _ (0) 4 (by omega) z2 HP2.out (by rw [HL2.out]; omega)).mono ?_
        rintro e z3 ⟨p3, rfl, hp3, hz3⟩
        rw [sz4'] at hp3
        obtain ⟨Q3, hQ3⟩ : ∃ Q3, Q3 = Q2 ++ be 4 (0) := ⟨_, rfl⟩
        rw [← hQ3] at hp3
        have HQ3 := Lib.hid hQ3
        have HP3 := Lib.hid (hp3.mono (show w.heap.size ≤ z2.heap.size by have := HB.out.size; have := HZ2.out.size; omega))
        have HZ3 := Lib.hid (nest HB.out (nest HZ2.out hz3))
        obtain ⟨b3, f3, rfl, _, _⟩ := hp3.rd.form
        clear hp3 hz3 hQ3
        go_wp2_with fail
        refine ⟨⟨k + 1, by omega, by go_num, ⟨_, _, _, rfl⟩, ?_, HZ3.out⟩, by simp [intOf]; omega⟩
        rw [HST.out]
        have := HP3.out
        have e : Q3 = Q ++ packR (x, y, u) := by rw [HQ3.out, HQ2.out, HQ1.out]; simp [packR, hx2]
        rw [← e]
        exact this
    · have hkn : k = l.length := by omega
      subst hkn
      have HR := Lib.hid hr
      have HB := Lib.hid hb
      clear hr hb
      go_wp2_with fail
      go_ret
      exact ⟨_, rfl, by have := HR.out; rw [List.take_length] at this; exact this, HB.out⟩
end Go.Proofs.Ytkenldpmogogaaa
