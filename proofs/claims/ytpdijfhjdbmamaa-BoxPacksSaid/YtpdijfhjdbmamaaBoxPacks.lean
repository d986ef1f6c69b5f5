/- Walk of the law BoxPacks. -/
import Derived.Test.YtpdijfhjdbmamaaBoxAwake
import Derived.Test.YtpdijfhjdbmamaaBoxHeld
namespace Go.Proofs.Ytpdijfhjdbmamaa.boxPacks
open Go.RowKit Mem
set_option linter.unusedSimpArgs false
set_option linter.unusedVariables false
attribute [local irreducible] Go.Calls

/-- the first k made to bear kinds that there are -/
def stepL (l : List (Int × Int × Int)) (k : Nat) : List (Int × Int × Int) := (l.take k).map heldV ++ l.drop k
theorem stepL_len (l : List (Int × Int × Int)) (k : Nat) (hk : k ≤ l.length) : (stepL l k).length = l.length := by simp [stepL]; omega
theorem stepL_at {l : List (Int × Int × Int)} {k : Nat} (hk : k < l.length) : (stepL l k).getD k (0, 0, 0) = l.getD k (0, 0, 0) := by
  unfold stepL
  have e : ((l.take k).map heldV).length = k := by simp; omega
  rw [List.getD, List.getElem?_append_right (by omega), e, Nat.sub_self, List.getElem?_drop, Nat.add_zero, List.getD]
theorem stepL_next {l : List (Int × Int × Int)} {k : Nat} (hk : k < l.length) : stepL l (k + 1) = (stepL l k).take k ++ ([heldV (l.getD k (0, 0, 0))] ++ (stepL l k).drop (k + 1)) := by
  have e : ((l.take k).map heldV).length = k := by simp; omega
  have e1 : (stepL l k).take k = (l.take k).map heldV := by
    unfold stepL
    rw [List.take_append, e, Nat.sub_self, List.take_zero, List.append_nil, List.take_of_length_le (by omega)]
  have e2 : (stepL l k).drop (k + 1) = l.drop (k + 1) := by
    unfold stepL
    rw [List.drop_append, List.drop_eq_nil_of_le (by omega), List.nil_append, e, List.drop_drop]
    congr 1
    omega
  rw [e1, e2]
  unfold stepL
  rw [List.take_add_one, List.getElem?_eq_getElem hk, Option.toList_some, List.map_append, List.append_assoc, List.map_cons, List.map_nil, show l.getD k (0, 0, 0) = l[k] by simp [List.getD, hk]]
theorem stepL_zero (l : List (Int × Int × Int)) : stepL l 0 = l := by simp [stepL]
theorem stepL_all (l : List (Int × Int × Int)) : stepL l l.length = l.map heldV := by simp [stepL]
set_option pp.maxSteps 1000000 in
set_option maxHeartbeats 4000000 in
theorem walk (v1 : Value) (l : List (Int × Int × Int)) (v2 : Value) (m : List (Int × Int × Int)) (v3 : Value) (vs : List Int) (w : World)
    (h1 : Rd rngE w v1 l) (bl : ∀ x ∈ l, (-9223372036854775808 ≤ x.1 ∧ x.1 ≤ 9223372036854775807) ∧ (0 ≤ x.2.1 ∧ x.2.1 ≤ 4294967295) ∧ (0 ≤ x.2.2 ∧ x.2.2 ≤ 4294967295))
    (h2 : Rd rngE w v2 m) (bm : ∀ x ∈ m, (-9223372036854775808 ≤ x.1 ∧ x.1 ≤ 9223372036854775807) ∧ (0 ≤ x.2.1 ∧ x.2.1 ≤ 4294967295) ∧ (0 ≤ x.2.2 ∧ x.2.2 ≤ 4294967295))
    (h3 : Rd (intE .u32) w v3 vs) (bv : ∀ x ∈ vs, 0 ≤ x ∧ x ≤ 4294967295) :
    Calls Try.prog 8 #[v1, v2, v3] w fun e w' => e = .returned (.bool true) ∧ Below w.heap.size w w' := by
  have M1 := Lib.hid h1
  have M2 := Lib.hid h2
  have M3 := Lib.hid h3
  have HBL := Lib.hid bl
  have HBM := Lib.hid bm
  have HBV := Lib.hid bv
  obtain ⟨a1, c1, rfl, hc1, hm1⟩ := h1.form
  obtain ⟨a2, c2, rfl, hc2, hm2⟩ := h2.form
  obtain ⟨a3, c3, rfl, hc3, hm3⟩ := h3.form
  have hm1' : c1 ≤ 9223372036854775807 := hm1
  have hm2' : c2 ≤ 9223372036854775807 := hm2
  have hm3' : c3 ≤ 9223372036854775807 := hm3
  clear h1 h2 h3 bl bm bv
  by_cases hl1 : l.length > 20
  · have e1 : (l.length : Int) > 20 := by omega
    go_enter Try.func8, Try.ntmps8
    go_wp2_with fail
    refine (bawake_any _).mono ?_
    rintro e w1 ⟨rfl, hk1⟩
    go_wp2_with fail
    go_ret
    exact ⟨rfl, hk1⟩
  have e1 : ¬ (l.length : Int) > 20 := by omega
  by_cases hl2 : m.length > 20
  · have e2 : (m.length : Int) > 20 := by omega
    go_enter Try.func8, Try.ntmps8
    go_wp2_with fail
    refine (bawake_any _).mono ?_
    rintro e w1 ⟨rfl, hk1⟩
    go_wp2_with fail
    go_ret
    exact ⟨rfl, hk1⟩
  have e2 : ¬ (m.length : Int) > 20 := by omega
  by_cases hl3 : vs.length > 20
  · have e3 : (vs.length : Int) > 20 := by omega
    go_enter Try.func8, Try.ntmps8
    go_wp2_with fail
    refine (bawake_any _).mono ?_
    rintro e w1 ⟨rfl, hk1⟩
    go_wp2_with fail
    go_ret
    exact ⟨rfl, hk1⟩
  have e3 : ¬ (vs.length : Int) > 20 := by omega
  go_enter Try.func8, Try.ntmps8
  go_wp2_with fail
  go_loopw [0, 7] (fun va i wr => ∃ k : Nat, k ≤ l.length ∧ i = .int .i64 k ∧ Rd rngE wr va (stepL l k) ∧ Below w.heap.size w wr) (fun _ i _ => l.length - (intOf i).toNat)
  case atStart => exact ⟨0, Nat.zero_le _, rfl, by rw [stepL_zero]; exact M1.out, Below.refl _ _⟩
  case round =>
    obtain ⟨k, hk, rfl, hr, hb⟩ := hrel
    by_cases hlt : k < l.length
    · skip
      obtain ⟨a, g, off, c, rfl, hc1, hm1, ha, hcell⟩ := Rd.loop3 hr
      have hlen : (stepL l k).length = l.length := stepL_len _ _ (by omega)
      have hm1' : c ≤ 9223372036854775807 := hm1
      rw [hlen] at hc1 ha
      rw [hlen]
      obtain ⟨rfl, hg⟩ := ha (by omega)
      have hk1 := stepL_at hlt
      have d := hcell k (by rw [hlen]; exact hlt)
      rw [hk1] at d
      obtain ⟨d1, d2, d3⟩ := d
      have hcut1 := run_cut_to (P := Try.prog) rngElem (some ⟨g, off, none⟩) l.length c k (by omega)
      rw [cutA_zero] at hcut1
      have hcut2 := run_cut_from (P := Try.prog) rngElem (some ⟨g, off, none⟩) l.length c (k + 1) (by omega) (by omega)
      rw [show ((k + 1 : Nat) : Int) = IntKind.i64.wrap ((k : Int) + 1) by rw [IntKind.wrap_i64]; omega] at hcut2
      have hr' := hr
      rw [hlen] at hr'
      have hr1 := hr'.cutA (lo := 0) (hi := k) (Nat.zero_le _) (by omega)
      rw [cutA_zero, List.drop_zero, Nat.sub_zero, Nat.sub_zero] at hr1
      have hr2 := hr'.cutA (lo := k + 1) (hi := l.length) (by omega) (by omega)
      rw [List.take_of_length_le (by omega)] at hr2
      have e3 : rngE.size = 3 := rfl
      rw [e3] at hr2
      generalize cutA (some ⟨g, off, none⟩) c (k + 1) 3 = ac at *
      have HR1 := Lib.hid hr1
      have HR2 := Lib.hid hr2
      have HB := Lib.hid hb
      have HT1 : Hid (((stepL l k).take k).length = k) := Lib.hid (by rw [List.length_take, hlen]; omega)
      have HT2 : Hid (((stepL l k).drop (k + 1)).length = l.length - (k + 1)) := Lib.hid (by rw [List.length_drop, hlen])
      have HST := Lib.hid (stepL_next hlt)
      have HLEN1 : Hid ((stepL l (k + 1)).length = l.length) := Lib.hid (stepL_len _ _ (by omega))
      clear hr hr' hr1 hr2 hcell hlen ha hb
      generalize (stepL l k).take k = L1 at *
      generalize (stepL l k).drop (k + 1) = L2 at *
      generalize l.getD k (0, 0, 0) = r at *
      obtain ⟨x, y, u⟩ := r
      simp only [] at d1 d2 d3
      have q1 : (k : Int) < l.length := by omega
      go_wp2_with fail
      refine Run.region_walk (S := fun z => z.cell? ⟨g, off + k * 3, none⟩ = some (.int .i64 x) ∧ z.cell? ⟨g, off + k * 3 + 1, none⟩ = some (.int .u32 y) ∧ z.cell? ⟨g, off + k * 3 + 2, none⟩ = some (.int .u32 u) ∧ Below wr.heap.size wr z)
        lbpacks.rows5 lbpacks.plan5 (l := ?steps20) (by kernel_rfl) (by kernel_rfl) (by kernel_rfl) (by kernel_rfl) ?written20 ⟨d1, d2, d3, (Below.refl _ _).drew⟩ ?onward20
      case written20 =>
        simp only [lbpacks.plan5, Run.stepsOf, Run.stepOf, Run.guardOf, List.getElem?_toArray, List.getElem?_cons_zero, List.getElem?_cons_succ, Option.map_some, Option.map_none, Option.bind_some, Option.toList_some, List.map_cons, List.map_nil, List.cons_append, List.nil_append]
        rfl
      repeat ((first
        | (refine Run.takes (v := ?_) ?_ ?_; rotate_left; (· intro w' hS'; go_simp; (try with_reducible rfl)))
        | (refine Run.takesG (v := ?_) ?_ ?_ ?_; rotate_left; (· simp only [List.getElem?_cons_zero, List.getElem?_cons_succ]); (· intro w' hS'; go_simp; (try with_reducible rfl)))
        | (refine Run.skipsT ?_ ?_; (· simp only [List.getElem?_cons_zero, List.getElem?_cons_succ]))
        | (refine Run.skipsF ?_ ?_; (· simp only [List.getElem?_cons_zero, List.getElem?_cons_succ]))
        | (refine Run.skipsU ?_ ?_; (· simp only [List.getElem?_cons_zero, List.getElem?_cons_succ]))
        | (refine Run.passT ?_ ?_; (· simp only [List.getElem?_cons_zero, List.getElem?_cons_succ]))
        | (refine Run.passF ?_ ?_; (· simp only [List.getElem?_cons_zero, List.getElem?_cons_succ]))
        | (refine Run.passU ?_ ?_; (· simp only [List.getElem?_cons_zero, List.getElem?_cons_succ]))
        | fail); simp only [Act.put, List.setIfInBounds_toArray, List.set_cons_zero, List.set_cons_succ])
      refine Run.runs (Run.one (fun hS K hK => ?_))
      refine wp_append (E := rngE) (B := wr.heap.size) (v := .slice none 0 0) (l := []) (x := .slice (some ⟨g, off, none⟩) k c) (m := L1) rngElem (by decide) (.const (.slice none 0 0)) (.tmp 32) rfl rfl Row.nil rfl (HR1.out.keep hS.2.2.2) (by rw [HT1.out]; unfold maxLen; simp; omega) (by rw [HT1.out]; simp; omega) hS.2.2.2.size (fun p1 z1 hro hbz hgr _ => ?_)
      have hb1 : Below wr.heap.size wr z1 := hS.2.2.2.trans hbz
      refine hK.out _ _ ⟨kc hb1 d1, kc hb1 d2, kc hb1 d3, hb1⟩ ?_
      simp only [Act.put, List.setIfInBounds_toArray, List.set_cons_zero, List.set_cons_succ]
      rw [List.nil_append] at hro
      have HO1 := Lib.hid hro
      have HB1 := Lib.hid hb1
      clear hK hS hb1 hbz hgr hro
      refine Run.runs (Run.callF 29 (by kernel_rfl) (fun hS => held_any x y u _) rfl ?_)
      rintro hS e z2 ⟨rfl, hb2⟩
      have hb2' := nest HB1.out hb2
      refine ⟨_, rfl, ⟨kc hb2' d1, kc hb2' d2, kc hb2' d3, hb2'⟩, ?_⟩
      simp only [Act.put, List.setIfInBounds_toArray, List.set_cons_zero, List.set_cons_succ]
      have HO2 := Lib.hid (HO1.out.keep hb2)
      have HB2 := Lib.hid hb2'
      clear hS hb2 hb2' HO1 HB1
      refine Run.runs (Run.one (fun hS K hK => ?_))
      go_simp
      have hb3 := nest HB2.out (more (Below.refl z2.heap.size z2) (.cells #[.int .i64 (heldV (x, y, u)).1, .int .u32 y, .int .u32 u] 26))
      refine hK.out _ _ ⟨kc hb3 d1, kc hb3 d2, kc hb3 d3, hb3⟩ ?_
      (try simp only [Act.put, List.setIfInBounds_toArray, List.set_cons_zero, List.set_cons_succ])
      have HO3 := Lib.hid (HO2.out.keep (more (Below.refl z2.heap.size z2) (.cells #[.int .i64 (heldV (x, y, u)).1, .int .u32 y, .int .u32 u] 26)))
      have HN3 := Lib.hid (Rd.fresh (E := rngE) z2 (heldV (x, y, u)) #[.int .i64 (heldV (x, y, u)).1, .int .u32 y, .int .u32 u] 26 _ rfl rfl)
      have HB3 := Lib.hid hb3
      clear hK hS hb3 HO2 HB2
      generalize z2.alloc (.cells #[.int .i64 (heldV (x, y, u)).1, .int .u32 y, .int .u32 u] 26) = z3 at *
      generalize z2.heap.size = bn at *
      refine Run.runs (Run.one (fun hS K hK => ?_))
      refine wp_append (E := rngE) (B := wr.heap.size) (v := p1) (l := L1) (x := .slice (some ⟨bn, 0, none⟩) 1 1) (m := [heldV (x, y, u)]) rngElem (by decide) (.tmp 33) (.tmp 39) rfl rfl HO3.out rfl HN3.out (by rw [HT1.out]; unfold maxLen; simp; omega) (by rw [HT1.out]; simp; omega) hS.2.2.2.size (fun p2 z4 hro hbz hgr _ => ?_)
      have hb4 : Below wr.heap.size wr z4 := hS.2.2.2.trans hbz
      refine hK.out _ _ ⟨kc hb4 d1, kc hb4 d2, kc hb4 d3, hb4⟩ ?_
      simp only [Act.put, List.setIfInBounds_toArray, List.set_cons_zero, List.set_cons_succ]
      have HO4 := Lib.hid hro
      clear hK hS hb4 hbz hgr hro HO3 HN3 HB3
      refine Run.runs (Run.one (fun hS K hK => ?_))
      refine wp_append (E := rngE) (B := wr.heap.size) (v := p2) (l := L1 ++ [heldV (x, y, u)]) (x := .slice ac (l.length - (k + 1)) (c - (k + 1))) (m := L2) rngElem (by decide) (.tmp 40) (.tmp 44) rfl rfl HO4.out rfl (HR2.out.keep hS.2.2.2) (by rw [List.length_append, HT1.out, HT2.out]; unfold maxLen; simp; omega) (by rw [List.length_append, HT1.out, HT2.out]; simp; omega) hS.2.2.2.size (fun p3 z5 hro hbz hgr _ => ?_)
      have hb5 : Below wr.heap.size wr z5 := hS.2.2.2.trans hbz
      obtain ⟨ap3, cp3, rfl, _, _⟩ := hro.rd.form
      refine hK.out _ _ ⟨kc hb5 d1, kc hb5 d2, kc hb5 d3, hb5⟩ ?_
      simp only [Act.put, List.setIfInBounds_toArray, List.set_cons_zero, List.set_cons_succ]
      have HO5 := Lib.hid hro.rd
      have HB5 := Lib.hid hb5
      clear hK hS hb5 hbz hgr hro HO4
      repeat ((first
        | (refine Run.takes (v := ?_) ?_ ?_; rotate_left; (· intro w' hS'; go_simp; (try with_reducible rfl)))
        | (refine Run.takesG (v := ?_) ?_ ?_ ?_; rotate_left; (· simp only [List.getElem?_cons_zero, List.getElem?_cons_succ]); (· intro w' hS'; go_simp; (try with_reducible rfl)))
        | (refine Run.skipsT ?_ ?_; (· simp only [List.getElem?_cons_zero, List.getElem?_cons_succ]))
        | (refine Run.skipsF ?_ ?_; (· simp only [List.getElem?_cons_zero, List.getElem?_cons_succ]))
        | (refine Run.skipsU ?_ ?_; (· simp only [List.getElem?_cons_zero, List.getElem?_cons_succ]))
        | (refine Run.passT ?_ ?_; (· simp only [List.getElem?_cons_zero, List.getElem?_cons_succ]))
        | (refine Run.passF ?_ ?_; (· simp only [List.getElem?_cons_zero, List.getElem?_cons_succ]))
        | (refine Run.passU ?_ ?_; (· simp only [List.getElem?_cons_zero, List.getElem?_cons_succ]))
        | fail); simp only [Act.put, List.setIfInBounds_toArray, List.set_cons_zero, List.set_cons_succ])
      refine Run.ends (fun hS => ?_)
      clear hS d1 d2 d3
      have HBE := Lib.hid (nest HB.out HB5.out)
      go_wp2_with fail
      refine ⟨⟨k + 1, by omega, by go_num, ?_, HBE.out⟩, by simp [intOf]; omega⟩
      rw [HST.out]
      have hfin := HO5.out
      rw [List.append_assoc] at hfin
      have e : (L1 ++ ([heldV (x, y, u)] ++ L2)).length = L1.length + (L2.length + 1) := by simp
      rw [e] at hfin
      exact hfin
    · have hkn : k = l.length := by omega
      subst hkn
      rw [stepL_all] at hr
      have ML := Lib.hid hr
      obtain ⟨al, cl, rfl, hcl, hml⟩ := hr.form
      have hml' : cl ≤ 9223372036854775807 := hml
      have ell : (l.map heldV).length = l.length := by simp
      rw [ell]
      have M2k := Lib.hid (M2.out.keep hb)
      have M3k := Lib.hid (M3.out.keep hb)
      have HBk := Lib.hid hb
      clear hr hb M1 M2 M3
      have q1 : ¬ (l.length : Int) < l.length := by omega
      go_wp2_with fail
      go_loopw [1, 8] (fun vb i wz => ∃ k : Nat, k ≤ m.length ∧ i = .int .i64 k ∧ Rd rngE wz vb (stepL m k) ∧ Below wr.heap.size wr wz) (fun _ i _ => m.length - (intOf i).toNat)
      case atStart => exact ⟨0, Nat.zero_le _, rfl, by rw [stepL_zero]; exact M2k.out, Below.refl _ _⟩
      case round =>
        obtain ⟨k, hk, rfl, hr, hb⟩ := hrel
        by_cases hlt : k < m.length
        · skip
          obtain ⟨a, g, off, c, rfl, hc1, hm1, ha, hcell⟩ := Rd.loop3 hr
          have hlen : (stepL m k).length = m.length := stepL_len _ _ (by omega)
          have hm1' : c ≤ 9223372036854775807 := hm1
          rw [hlen] at hc1 ha
          rw [hlen]
          obtain ⟨rfl, hg⟩ := ha (by omega)
          have hk1 := stepL_at hlt
          have d := hcell k (by rw [hlen]; exact hlt)
          rw [hk1] at d
          obtain ⟨d1, d2, d3⟩ := d
          have hcut1 := run_cut_to (P := Try.prog) rngElem (some ⟨g, off, none⟩) m.length c k (by omega)
          rw [cutA_zero] at hcut1
          have hcut2 := run_cut_from (P := Try.prog) rngElem (some ⟨g, off, none⟩) m.length c (k + 1) (by omega) (by omega)
          rw [show ((k + 1 : Nat) : Int) = IntKind.i64.wrap ((k : Int) + 1) by rw [IntKind.wrap_i64]; omega] at hcut2
          have hr' := hr
          rw [hlen] at hr'
          have hr1 := hr'.cutA (lo := 0) (hi := k) (Nat.zero_le _) (by omega)
          rw [cutA_zero, List.drop_zero, Nat.sub_zero, Nat.sub_zero] at hr1
          have hr2 := hr'.cutA (lo := k + 1) (hi := m.length) (by omega) (by omega)
          rw [List.take_of_length_le (by omega)] at hr2
          have e3 : rngE.size = 3 := rfl
          rw [e3] at hr2
          generalize cutA (some ⟨g, off, none⟩) c (k + 1) 3 = ac at *
          have HR1 := Lib.hid hr1
          have HR2 := Lib.hid hr2
          have HB := Lib.hid hb
          have HT1 : Hid (((stepL m k).take k).length = k) := Lib.hid (by rw [List.length_take, hlen]; omega)
          have HT2 : Hid (((stepL m k).drop (k + 1)).length = m.length - (k + 1)) := Lib.hid (by rw [List.length_drop, hlen])
          have HST := Lib.hid (stepL_next hlt)
          have HLEN1 : Hid ((stepL m (k + 1)).length = m.length) := Lib.hid (stepL_len _ _ (by omega))
          clear hr hr' hr1 hr2 hcell hlen ha hb
          generalize (stepL m k).take k = L1 at *
          generalize (stepL m k).drop (k + 1) = L2 at *
          generalize m.getD k (0, 0, 0) = r at *
          obtain ⟨x, y, u⟩ := r
          simp only [] at d1 d2 d3
          have q1 : (k : Int) < m.length := by omega
          go_wp2_with fail
          refine Run.region_walk (S := fun z => z.cell? ⟨g, off + k * 3, none⟩ = some (.int .i64 x) ∧ z.cell? ⟨g, off + k * 3 + 1, none⟩ = some (.int .u32 y) ∧ z.cell? ⟨g, off + k * 3 + 2, none⟩ = some (.int .u32 u) ∧ Below wr.heap.size wr z)
            lbpacks.rows9 lbpacks.plan9 (l := ?steps22) (by kernel_rfl) (by kernel_rfl) (by kernel_rfl) (by kernel_rfl) ?written22 ⟨d1, d2, d3, (Below.refl _ _).drew⟩ ?onward22
          case written22 =>
            simp only [lbpacks.plan9, Run.stepsOf, Run.stepOf, Run.guardOf, List.getElem?_toArray, List.getElem?_cons_zero, List.getElem?_cons_succ, Option.map_some, Option.map_none, Option.bind_some, Option.toList_some, List.map_cons, List.map_nil, List.cons_append, List.nil_append]
            rfl
          repeat ((first
            | (refine Run.takes (v := ?_) ?_ ?_; rotate_left; (· intro w' hS'; go_simp; (try with_reducible rfl)))
            | (refine Run.takesG (v := ?_) ?_ ?_ ?_; rotate_left; (· simp only [List.getElem?_cons_zero, List.getElem?_cons_succ]); (· intro w' hS'; go_simp; (try with_reducible rfl)))
            | (refine Run.skipsT ?_ ?_; (· simp only [List.getElem?_cons_zero, List.getElem?_cons_succ]))
            | (refine Run.skipsF ?_ ?_; (· simp only [List.getElem?_cons_zero, List.getElem?_cons_succ]))
            | (refine Run.skipsU ?_ ?_; (· simp only [List.getElem?_cons_zero, List.getElem?_cons_succ]))
            | (refine Run.passT ?_ ?_; (· simp only [List.getElem?_cons_zero, List.getElem?_cons_succ]))
            | (refine Run.passF ?_ ?_; (· simp only [List.getElem?_cons_zero, List.getElem?_cons_succ]))
            | (refine Run.passU ?_ ?_; (· simp only [List.getElem?_cons_zero, List.getElem?_cons_succ]))
            | fail); simp only [Act.put, List.setIfInBounds_toArray, List.set_cons_zero, List.set_cons_succ])
          refine Run.runs (Run.one (fun hS K hK => ?_))
          refine wp_append (E := rngE) (B := wr.heap.size) (v := .slice none 0 0) (l := []) (x := .slice (some ⟨g, off, none⟩) k c) (m := L1) rngElem (by decide) (.const (.slice none 0 0)) (.tmp 54) rfl rfl Row.nil rfl (HR1.out.keep hS.2.2.2) (by rw [HT1.out]; unfold maxLen; simp; omega) (by rw [HT1.out]; simp; omega) hS.2.2.2.size (fun p1 z1 hro hbz hgr _ => ?_)
          have hb1 : Below wr.heap.size wr z1 := hS.2.2.2.trans hbz
          refine hK.out _ _ ⟨kc hb1 d1, kc hb1 d2, kc hb1 d3, hb1⟩ ?_
          simp only [Act.put, List.setIfInBounds_toArray, List.set_cons_zero, List.set_cons_succ]
          rw [List.nil_append] at hro
          have HO1 := Lib.hid hro
          have HB1 := Lib.hid hb1
          clear hK hS hb1 hbz hgr hro
          refine Run.runs (Run.callF 29 (by kernel_rfl) (fun hS => held_any x y u _) rfl ?_)
          rintro hS e z2 ⟨rfl, hb2⟩
          have hb2' := nest HB1.out hb2
          refine ⟨_, rfl, ⟨kc hb2' d1, kc hb2' d2, kc hb2' d3, hb2'⟩, ?_⟩
          simp only [Act.put, List.setIfInBounds_toArray, List.set_cons_zero, List.set_cons_succ]
          have HO2 := Lib.hid (HO1.out.keep hb2)
          have HB2 := Lib.hid hb2'
          clear hS hb2 hb2' HO1 HB1
          refine Run.runs (Run.one (fun hS K hK => ?_))
          go_simp
          have hb3 := nest HB2.out (more (Below.refl z2.heap.size z2) (.cells #[.int .i64 (heldV (x, y, u)).1, .int .u32 y, .int .u32 u] 26))
          refine hK.out _ _ ⟨kc hb3 d1, kc hb3 d2, kc hb3 d3, hb3⟩ ?_
          (try simp only [Act.put, List.setIfInBounds_toArray, List.set_cons_zero, List.set_cons_succ])
          have HO3 := Lib.hid (HO2.out.keep (more (Below.refl z2.heap.size z2) (.cells #[.int .i64 (heldV (x, y, u)).1, .int .u32 y, .int .u32 u] 26)))
          have HN3 := Lib.hid (Rd.fresh (E := rngE) z2 (heldV (x, y, u)) #[.int .i64 (heldV (x, y, u)).1, .int .u32 y, .int .u32 u] 26 _ rfl rfl)
          have HB3 := Lib.hid hb3
          clear hK hS hb3 HO2 HB2
          generalize z2.alloc (.cells #[.int .i64 (heldV (x, y, u)).1, .int .u32 y, .int .u32 u] 26) = z3 at *
          generalize z2.heap.size = bn at *
          refine Run.runs (Run.one (fun hS K hK => ?_))
          refine wp_append (E := rngE) (B := wr.heap.size) (v := p1) (l := L1) (x := .slice (some ⟨bn, 0, none⟩) 1 1) (m := [heldV (x, y, u)]) rngElem (by decide) (.tmp 55) (.tmp 61) rfl rfl HO3.out rfl HN3.out (by rw [HT1.out]; unfold maxLen; simp; omega) (by rw [HT1.out]; simp; omega) hS.2.2.2.size (fun p2 z4 hro hbz hgr _ => ?_)
          have hb4 : Below wr.heap.size wr z4 := hS.2.2.2.trans hbz
          refine hK.out _ _ ⟨kc hb4 d1, kc hb4 d2, kc hb4 d3, hb4⟩ ?_
          simp only [Act.put, List.setIfInBounds_toArray, List.set_cons_zero, List.set_cons_succ]
          have HO4 := Lib.hid hro
          clear hK hS hb4 hbz hgr hro HO3 HN3 HB3
          refine Run.runs (Run.one (fun hS K hK => ?_))
          refine wp_append (E := rngE) (B := wr.heap.size) (v := p2) (l := L1 ++ [heldV (x, y, u)]) (x := .slice ac (m.length - (k + 1)) (c - (k + 1))) (m := L2) rngElem (by decide) (.tmp 62) (.tmp 66) rfl rfl HO4.out rfl (HR2.out.keep hS.2.2.2) (by rw [List.length_append, HT1.out, HT2.out]; unfold maxLen; simp; omega) (by rw [List.length_append, HT1.out, HT2.out]; simp; omega) hS.2.2.2.size (fun p3 z5 hro hbz hgr _ => ?_)
          have hb5 : Below wr.heap.size wr z5 := hS.2.2.2.trans hbz
          obtain ⟨ap3, cp3, rfl, _, _⟩ := hro.rd.form
          refine hK.out _ _ ⟨kc hb5 d1, kc hb5 d2, kc hb5 d3, hb5⟩ ?_
          simp only [Act.put, List.setIfInBounds_toArray, List.set_cons_zero, List.set_cons_succ]
          have HO5 := Lib.hid hro.rd
          have HB5 := Lib.hid hb5
          clear hK hS hb5 hbz hgr hro HO4
          repeat ((first
            | (refine Run.takes (v := ?_) ?_ ?_; rotate_left; (· intro w' hS'; go_simp; (try with_reducible rfl)))
            | (refine Run.takesG (v := ?_) ?_ ?_ ?_; rotate_left; (· simp only [List.getElem?_cons_zero, List.getElem?_cons_succ]); (· intro w' hS'; go_simp; (try with_reducible rfl)))
            | (refine Run.skipsT ?_ ?_; (· simp only [List.getElem?_cons_zero, List.getElem?_cons_succ]))
            | (refine Run.skipsF ?_ ?_; (· simp only [List.getElem?_cons_zero, List.getElem?_cons_succ]))
            | (refine Run.skipsU ?_ ?_; (· simp only [List.getElem?_cons_zero, List.getElem?_cons_succ]))
            | (refine Run.passT ?_ ?_; (· simp only [List.getElem?_cons_zero, List.getElem?_cons_succ]))
            | (refine Run.passF ?_ ?_; (· simp only [List.getElem?_cons_zero, List.getElem?_cons_succ]))
            | (refine Run.passU ?_ ?_; (· simp only [List.getElem?_cons_zero, List.getElem?_cons_succ]))
            | fail); simp only [Act.put, List.setIfInBounds_toArray, List.set_cons_zero, List.set_cons_succ])
          refine Run.ends (fun hS => ?_)
          clear hS d1 d2 d3
          have HBE := Lib.hid (nest HB.out HB5.out)
          go_wp2_with fail
          refine ⟨⟨k + 1, by omega, by go_num, ?_, HBE.out⟩, by simp [intOf]; omega⟩
          rw [HST.out]
          have hfin := HO5.out
          rw [List.append_assoc] at hfin
          have e : (L1 ++ ([heldV (x, y, u)] ++ L2)).length = L1.length + (L2.length + 1) := by simp
          rw [e] at hfin
          exact hfin
        · have hkn : k = m.length := by omega
          subst hkn
          rw [stepL_all] at hr
          have MM := Lib.hid hr
          obtain ⟨am, cm, rfl, hcm, hmm⟩ := hr.form
          have elm : (m.map heldV).length = m.length := by simp
          rw [elm]
          have MLk := Lib.hid (ML.out.keep hb)
          have M3z := Lib.hid (M3k.out.keep hb)
          have HBz := Lib.hid (nest HBk.out hb)
          have KL : Hid (∀ x ∈ l.map heldV, HK x) := Lib.hid (fun x hx => by
            obtain ⟨r, hr', rfl⟩ := List.mem_map.1 hx
            exact ⟨held_kind r, (HBL.out r hr').2.1, (HBL.out r hr').2.2⟩)
          have KM : Hid (∀ x ∈ m.map heldV, HK x) := Lib.hid (fun x hx => by
            obtain ⟨r, hr', rfl⟩ := List.mem_map.1 hx
            exact ⟨held_kind r, (HBM.out r hr').2.1, (HBM.out r hr').2.2⟩)
          have EL := Lib.hid ell
          have EM := Lib.hid elm
          rw [ell] at hcl
          rw [elm] at hcm
          clear hr hb ML M3k HBk ell elm M2k
          have hRL : Rd rngE wr (.slice al l.length cl) (l.map heldV) := by have h := MLk.out; rw [EL.out] at h; exact h
          have hRM : Rd rngE wr (.slice am m.length cm) (m.map heldV) := by have h := MM.out; rw [EM.out] at h; exact h
          have HRL := Lib.hid hRL
          have HRM := Lib.hid hRM
          clear hRL hRM MLk MM
          have hmatch : packV (l.map heldV) = packV (m.map heldV) → matchV (l.map heldV) vs = matchV (m.map heldV) vs := fun h => packV_match KL.out KM.out h vs
          have HMT := Lib.hid hmatch
          have HPL : Hid ((packV (l.map heldV)).length = 1 + 9 * l.length) := Lib.hid (by rw [packV_len, EL.out])
          have HPM : Hid ((packV (m.map heldV)).length = 1 + 9 * m.length) := Lib.hid (by rw [packV_len, EM.out])
          have RBL : Hid (RB (l.map heldV)) := Lib.hid (fun x hx => (KL.out x hx).2)
          have RBM : Hid (RB (m.map heldV)) := Lib.hid (fun x hx => (KM.out x hx).2)
          have hLE : (l.map heldV).length ≤ 1000 := by rw [EL.out]; omega
          have hME : (m.map heldV).length ≤ 1000 := by rw [EM.out]; omega
          clear hmatch KL KM HBL HBM
          have HINJ : Hid (((strOfNums (packV (l.map heldV))).toList == (strOfNums (packV (m.map heldV))).toList) = true → packV (l.map heldV) = packV (m.map heldV)) := Lib.hid (fun h => bytes_inj (packV_byt _) (packV_byt _) h)
          generalize l.map heldV = la at *
          generalize m.map heldV = lb at *
          have q2 : ¬ (m.length : Int) < m.length := by omega
          go_wp2_with fail
          refine (opack_any _ la wr HRL.out RBL.out hLE).mono ?_
          rintro e z1 ⟨p1, rfl, hp1, hk1⟩
          obtain ⟨pa1, pc1, rfl, _, _⟩ := hp1.form
          have PL1 := Lib.hid hp1
          have BZ1 := Lib.hid hk1
          clear hp1 hk1
          go_wp2_with fail
          refine (opack_any _ lb z1 (HRM.out.keep BZ1.out) RBM.out hME).mono ?_
          rintro e z2 ⟨p2, rfl, hp2, hk2⟩
          obtain ⟨pa2, pc2, rfl, _, _⟩ := hp2.form
          have PL2 := Lib.hid (PL1.out.keep hk2)
          have PM2 := Lib.hid hp2
          have BZ2 := Lib.hid (nest BZ1.out hk2)
          clear hp2 hk2 PL1 BZ1
          go_wp2_with fail
          refine (bytes_any _ _ _ _ z2 PL2.out PM2.out).mono ?_
          rintro e z3 ⟨rfl, hk3⟩
          have BZ3 := Lib.hid (nest BZ2.out hk3)
          clear hk3 PL2 PM2 BZ2
          generalize hal : ((strOfNums (packV la)).toList == (strOfNums (packV lb)).toList) = al' at *
          clear hal
          go_wp2_with fail
          refine (bawake_any z3).mono ?_
          rintro e z4 ⟨rfl, hk4⟩
          have BZ4 := Lib.hid (nest BZ3.out hk4)
          clear hk4 BZ3
          cases al' with
          | true =>
            have hmm := HMT.out (HINJ.out rfl)
            have HMM := Lib.hid hmm
            clear hmm
            go_wp2_with fail
            refine (omatch_any _ _ la vs z4 (HRL.out.keep BZ4.out) (M3z.out.keep BZ4.out) RBL.out HBV.out).mono ?_
            rintro e z5 ⟨rfl, hk5⟩
            rw [HMM.out]
            have BZ5 := Lib.hid (nest BZ4.out hk5)
            clear hk5
            go_wp2_with fail
            refine (omatch_any _ _ lb vs z5 (HRM.out.keep BZ5.out) (M3z.out.keep BZ5.out) RBM.out HBV.out).mono ?_
            rintro e z6 ⟨rfl, hk6⟩
            have BZ6 := Lib.hid (nest BZ5.out hk6)
            clear hk6
            go_wp2_with fail
            refine (opack_any _ la z6 (HRL.out.keep BZ6.out) RBL.out hLE).mono ?_
            rintro e z7 ⟨p7, rfl, hp7, hk7⟩
            obtain ⟨pa7, pc7, rfl, _, _⟩ := hp7.form
            rw [HPL.out]
            have BZ7 := Lib.hid (nest HBz.out (nest BZ6.out hk7))
            clear hp7 hk7
            have hq9 : ((1 + 9 * l.length : Nat) : Int) = 1 + 9 * (l.length : Int) := by omega
            have hq8 : IntKind.i64.wrap (9 * (l.length : Int)) = 9 * (l.length : Int) := by rw [IntKind.wrap_i64]; omega
            go_wp2_with fail
            go_ret
            exact ⟨by simp, BZ7.out⟩
          | false =>
            go_wp2_with fail
            refine (opack_any _ la z4 (HRL.out.keep BZ4.out) RBL.out hLE).mono ?_
            rintro e z7 ⟨p7, rfl, hp7, hk7⟩
            obtain ⟨pa7, pc7, rfl, _, _⟩ := hp7.form
            rw [HPL.out]
            have BZ7 := Lib.hid (nest HBz.out (nest BZ4.out hk7))
            clear hp7 hk7
            have hq9 : ((1 + 9 * l.length : Nat) : Int) = 1 + 9 * (l.length : Int) := by omega
            have hq8 : IntKind.i64.wrap (9 * (l.length : Int)) = 9 * (l.length : Int) := by rw [IntKind.wrap_i64]; omega
            go_wp2_with fail
            go_ret
            exact ⟨by simp, BZ7.out⟩
end Go.Proofs.Ytpdijfhjdbmamaa.boxPacks
