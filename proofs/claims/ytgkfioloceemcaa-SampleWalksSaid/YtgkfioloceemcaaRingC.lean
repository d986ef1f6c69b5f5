/- Walks of package ring: a ring is a block of one cell, the slice of its points, rising; such slices are not written again. -/
import Derived.Test.YtgkfioloceemcaaRgOps
set_option maxRecDepth 4000
namespace Go.Proofs.Ytgkfioloceemcaa
open Go.RowKit Mem
set_option linter.unusedSimpArgs false
set_option linter.unusedVariables false
attribute [local irreducible] Go.Calls

/-- a ring at block b of the points L, rising: it writes blocks of W alone, and reads those of R alone -/
def RgAt (w : World) (b : Nat) (W R : Nat → Prop) (L : List Int) : Prop :=
  okR L ∧ (∀ j, W j ↔ j = b) ∧ R b ∧ (∀ j, R j → j < w.heap.size) ∧
    ∃ v, Blk w b 57 #[v] ∧ Rd (intE .u32) w v L ∧ ∀ g, v.ownBlock = some g → R g ∧ g ≠ b
theorem RgAt.turned {w w' : World} {b : Nat} {W R S : Nat → Prop} {L : List Int} (h : RgAt w b W R L) (k : Turned S w w') (hs : ∀ j, R j → ¬ S j) : RgAt w' b W R L := by
  obtain ⟨h1, h3, h4, h5, v, h6, h7, h8⟩ := h
  exact ⟨h1, h3, h4, fun j hj => Nat.lt_of_lt_of_le (h5 j hj) k.size, v, h6.turned k (hs b h4), h7.turned k (fun g hg => hs g (h8 g hg).1), h8⟩
theorem RgAt.lt {w : World} {b : Nat} {W R : Nat → Prop} {L : List Int} (h : RgAt w b W R L) {j : Nat} (hj : R j) : j < w.heap.size := h.2.2.2.1 j hj
theorem RgAt.sub {w : World} {b : Nat} {W R : Nat → Prop} {L : List Int} (h : RgAt w b W R L) {j : Nat} (hj : W j) : R j := by
  rw [(h.2.1 j).1 hj]
  exact h.2.2.1
theorem RgAt.ok {w : World} {b : Nat} {W R : Nat → Prop} {L : List Int} (h : RgAt w b W R L) : okR L := h.1
/-- what a call leaves -/
def GStep (W R : Nat → Prop) (w w' : World) (b : Nat) (L : List Int) : Prop := ∃ W' R', RgAt w' b W' R' L ∧ Turned W w w' ∧ (∀ j, W' j → W j ∨ w.heap.size ≤ j) ∧ (∀ j, R' j → R j ∨ w.heap.size ≤ j)
theorem GStep.same {W R : Nat → Prop} {w w' : World} {b : Nat} {L : List Int} (h : RgAt w b W R L) (k : Below w.heap.size w w') : GStep W R w w' b L :=
  ⟨W, R, h.turned (S := fun _ => False) (Turned.of_below k) (fun _ _ h => h), Turned.of_below k, fun _ h => .inl h, fun _ h => .inl h⟩
/-! ### the mathematics of it -/
theorem rlow_take {L : List Int} (h : L.Pairwise (· < ·)) (p : Int) : L.take (lowR L p).length = lowR L p ∧ L.drop (lowR L p).length = (if L.contains p then [p] else []) ++ upR L p := by
  have h1 : ∀ (A B : List Int), L = A ++ B → L.take A.length = A ∧ L.drop A.length = B := fun A B e => by
    subst e
    exact ⟨List.take_left' rfl, List.drop_left' rfl⟩
  exact h1 _ _ (split_R h p)
theorem add_cat {L : List Int} (h : L.Pairwise (· < ·)) {p : Int} (hn : L.contains p = false) : [L.take (lowR L p).length, [p], L.drop (lowR L p).length].flatten = lowR L p ++ p :: upR L p := by
  obtain ⟨h1, h2⟩ := rlow_take h p
  rw [h1, h2, hn]
  simp
theorem drop_cat {L : List Int} (h : L.Pairwise (· < ·)) {p : Int} (hn : L.contains p = true) : [L.take (lowR L p).length, L.drop ((lowR L p).length + 1)].flatten = L.filter (fun x => !(x == p)) := by
  obtain ⟨h1, h2⟩ := rlow_take h p
  rw [h1, ← List.drop_drop, h2, hn]
  have e := split_R h p
  rw [hn] at e
  have e2 : L.filter (fun x => !(x == p)) = (lowR L p ++ ([p] ++ upR L p)).filter (fun x => !(x == p)) := by
    have := congrArg (List.filter (fun x => !(x == p))) e
    simpa using this
  rw [e2, List.filter_append, List.filter_append]
  have f1 : (lowR L p).filter (fun x => !(x == p)) = lowR L p := List.filter_eq_self.2 (fun x hx => by have := (lowR_mem.1 hx).2; simp; omega)
  have f2 : (upR L p).filter (fun x => !(x == p)) = upR L p := List.filter_eq_self.2 (fun x hx => by have := (upR_mem.1 hx).2; simp; omega)
  rw [f1, f2]
  simp
theorem next_is {L : List Int} (h : okR L) {p m : Int} (hp : 0 ≤ p ∧ p ≤ 4294967295) (hm : m ∈ L) (hall : ∀ y ∈ L, stR p m + 1 ≤ stR p y + 1) : nextR L p = (m, true) := by
  have hne : L ≠ [] := fun e => by rw [e] at hm; cases hm
  have h1 := own_is h (v := (p + 1) % 4294967296) (by omega) hm (fun y hy => by have := hall y hy; unfold stR at this; omega)
  unfold nextR
  refine Prod.ext h1 ?_
  exact (own_head _ hne).1
theorem pred_is {L : List Int} (h : okR L) {p m : Int} (hp : p ∈ L) (hm : m ∈ L) (hall : ∀ y ∈ L, stR m p + 1 ≤ stR y p + 1) : spanR L p = ((m, p), true) := by
  obtain ⟨h1, h2⟩ := pred_min h hp hm
  have h3 := hall _ h1
  have b1 := h.2.1 _ h1
  have b2 := h.2.1 _ hm
  have e : predR L p = m := by
    unfold stR at h3
    rw [show p - m - 1 = p - m - 1 from rfl] at h3
    omega
  unfold spanR
  rw [if_pos (by simpa using hp), e]
theorem heirs_nat {L : List Int} {p n : Int} : heirsR L p n = (othR L p).take (min (max n 0) ((othR L p).length : Int)).toNat := by
  unfold heirsR
  rcases Int.le_total n 0 with h | h
  · rw [show (min (max n 0) ((othR L p).length : Int)).toNat = 0 by omega, show n.toNat = 0 by omega]
  · rcases Int.le_total n ((othR L p).length : Int) with h2 | h2
    · rw [show (min (max n 0) ((othR L p).length : Int)).toNat = n.toNat by omega]
    · rw [show (min (max n 0) ((othR L p).length : Int)).toNat = (othR L p).length by omega, List.take_length, List.take_of_length_le (by omega)]
/-! ### the ring's calls -/
theorem rgnew_any (w : World) : Calls Try.prog 7 #[] w fun e w' => ∃ b W R, e = .returned (.pointer (some ⟨b, 0, none⟩)) ∧ RgAt w' b W R [] ∧ (∀ j, R j → w.heap.size ≤ j) ∧ Below w.heap.size w w' := by
  go_enter Try.func7, Try.ntmps7
  go_wp2_with fail
  go_ret
  refine ⟨w.heap.size, fun j => j = w.heap.size, fun j => j = w.heap.size, rfl, ⟨⟨List.Pairwise.nil, fun x hx => (nomatch hx), Nat.zero_le _⟩, fun j => Iff.rfl, rfl, fun j hj => by simp only [] at hj; subst hj; simp, .slice none 0 0, Blk.new w _ _, Rd.nil none 0 (Nat.zero_le _), by intro g hg; cases hg⟩, fun j hj => Nat.le_of_eq hj.symm, more (Below.refl _ _) _⟩
/-- what a call that writes the one cell leaves -/
theorem rg_stored {w y : World} {b : Nat} {W R : Nat → Prop} {L L' : List Int} {v : Value} (h : RgAt w b W R L) (hk : Below w.heap.size w y) (hr : Row (intE .u32) 24 w.heap.size y v L') (hl : okR L') :
    GStep W R w (y.setCell ⟨b, 0, none⟩ v) b L' := by
  obtain ⟨_, h3, h4, h5, v0, h6, _, _⟩ := h
  have hb : b < w.heap.size := h6.lt
  have hset := Only.set (b := b) y 0 v
  have hne : v.ownBlock ≠ some b := fun e => by have := (hr.block b e).1; omega
  refine ⟨fun j => j = b, fun j => j = b ∨ v.ownBlock = some j, ⟨hl, fun j => Iff.rfl, .inl rfl, fun j hj => ?_, v, ?_, hr.rd.only hset hne, fun g hg => ⟨.inr hg, fun e => hne (e ▸ hg)⟩⟩, ?_, fun j hj => .inl ((h3 j).2 hj), fun j hj => ?_⟩
  · refine Nat.lt_of_lt_of_le ?_ hset.size
    rcases hj with rfl | hj
    · exact Nat.lt_of_lt_of_le hb hk.size
    · exact (hr.block j hj).2
  · have := (h6.keep hk).set_ 0 v
    simpa using this
  · exact (Turned.of_below hk).trans (S' := W) (Turned.of_only hset ((h3 b).2 rfl)) (fun _ _ h => h)
  · rcases hj with rfl | hj
    · exact .inl h4
    · exact .inr (hr.block j hj).1
theorem rghas_any (b : Nat) (W R : Nat → Prop) (L : List Int) (p : Int) (w : World) (h : RgAt w b W R L) (bp : 0 ≤ p ∧ p ≤ 4294967295) :
    Calls Try.prog 23 #[.pointer (some ⟨b, 0, none⟩), .int .u32 p] w fun e w' => e = .returned (.bool (L.contains p)) ∧ Below w.heap.size w w' := by
  obtain ⟨h1, h3, h4, h5, v, h6, h7, h8⟩ := id h
  obtain ⟨a, c, rfl, hc1, hm1⟩ := h7.form
  have d0 : w.cell? ⟨b, 0, none⟩ = some (.slice a L.length c) := h6.cell 0
  have HB := Lib.hid (bsearch32_any _ L p w h7 h1.1 (by have := h1.2.2; omega))
  generalize L.contains p = RES at *
  clear h h1 h3 h4 h5 h6 h7 h8 hc1 hm1
  go_enter Try.func23, Try.ntmps23
  go_wp2_with fail
  refine HB.out.mono ?_
  rintro e w' ⟨rfl, rfl⟩
  clear HB
  go_wp2_with fail
  go_ret
  exact ⟨rfl, Below.refl _ _⟩
theorem rghas_nil (p : Int) (w : World) : Calls Try.prog 23 #[.pointer none, .int .u32 p] w fun e w' => e = .returned (.bool false) ∧ Below w.heap.size w w' := by
  go_enter Try.func23, Try.ntmps23
  go_wp2_with fail
  go_ret
  exact ⟨rfl, Below.refl _ _⟩
theorem rgadd_nil (p : Int) (w : World) : Calls Try.prog 8 #[.pointer none, .int .u32 p] w fun e w' => e = .returned (.int .i64 2) ∧ Below w.heap.size w w' := by
  go_enter Try.func8, Try.ntmps8
  go_wp2_with fail
  go_ret
  exact ⟨rfl, Below.refl _ _⟩
theorem rgnext_nil (p : Int) (w : World) : Calls Try.prog 34 #[.pointer none, .int .u32 p] w fun e w' => ∃ x, e = .returned (.tuple #[.int .u32 x, .bool false]) ∧ Below w.heap.size w w' := by
  go_enter Try.func34, Try.ntmps34
  go_wp2_with fail
  go_ret2
  exact ⟨0, rfl, Below.refl _ _⟩
set_option maxRecDepth 100000 in
theorem rgnext_any (b : Nat) (W R : Nat → Prop) (L : List Int) (p : Int) (w : World) (h : RgAt w b W R L) (bp : 0 ≤ p ∧ p ≤ 4294967295) :
    Calls Try.prog 34 #[.pointer (some ⟨b, 0, none⟩), .int .u32 p] w fun e w' => e = .returned (.tuple #[.int .u32 (nextR L p).1, .bool (nextR L p).2]) ∧ Below w.heap.size w w' := by
  obtain ⟨h1, h3, h4, h5, v, h6, h7, h8⟩ := id h
  obtain ⟨a, c, rfl, hc1, hm1⟩ := h7.form
  have d0 : w.cell? ⟨b, 0, none⟩ = some (.slice a L.length c) := h6.cell 0
  have H1 := Lib.hid h1
  have H7 := Lib.hid h7
  obtain ⟨RES, hRES⟩ : ∃ r, r = nextR L p := ⟨_, rfl⟩
  have HRES := Lib.hid hRES
  rw [← hRES]
  clear hRES h h1 h3 h4 h5 h6 h7 h8 hc1 hm1
  by_cases hl : L = []
  · subst hl
    have HR := Lib.hid (show RES = (0, false) from HRES.out)
    go_enter Try.func34, Try.ntmps34
    go_wp2_with fail
    go_ret2
    exact ⟨by rw [HR.out]; rfl, Below.refl _ _⟩
  · have hpos : 0 < L.length := List.length_pos_iff.2 hl
    have hne : ((L.length : Int) == 0) = false := by simp; exact hl
    have HPOS := Lib.hid hpos
    have HN := Lib.hid H1.out.2.2
    generalize hN : L.length = N at *
    have HNN := Lib.hid hN
    clear hl hpos hN
    go_enter Try.func34, Try.ntmps34
    go_upto_region 3 with fail
    refine Run.region_walk (S := fun z => z.cell? ⟨b, 0, none⟩ = some (.slice a N c) ∧ Below w.heap.size w z)
      ornext.rows3 ornext.plan3 (l := ?steps1) (by kernel_rfl) (by kernel_rfl) (by kernel_rfl) (by kernel_rfl) ?written1 ⟨d0, (Below.refl _ _).drew⟩ ?onward1
    case written1 =>
      simp only [ornext.plan3, Run.stepsOf, Run.stepOf, Run.guardOf, List.getElem?_toArray, List.getElem?_cons_zero, List.getElem?_cons_succ, Option.map_some, Option.map_none, Option.bind_some, Option.toList_some, List.map_cons, List.map_nil, List.cons_append, List.nil_append, List.append_eq]
      rfl
    repeat ((first
      | (refine Run.takes (v := ?_) ?_ ?_; rotate_left; (· intro w' hS'; go_simp; (try with_reducible rfl)))
      | (refine Run.takesG (v := ?_) ?_ ?_ ?_; rotate_left; (· simp only [List.getElem?_cons_zero, List.getElem?_cons_succ]); (· intro w' hS'; go_simp; (try with_reducible rfl)))
      | (refine Run.skipsT ?_ ?_; (· simp only [List.getElem?_cons_zero, List.getElem?_cons_succ]))
      | (refine Run.skipsF ?_ ?_; (· simp only [List.getElem?_cons_zero, List.getElem?_cons_succ]))
      | (refine Run.skipsU ?_ ?_; (· simp only [List.getElem?_cons_zero, List.getElem?_cons_succ]))
      | (refine Run.passT ?_ ?_; (· simp only [List.getElem?_cons_zero, List.getElem?_cons_succ]))
      | (refine Run.passF ?_ ?_; (· simp only [List.getElem?_cons_zero, List.getElem?_cons_succ]))
      | (refine Run.passU ?_ ?_; (· simp only [List.getElem?_cons_zero, List.getElem?_cons_succ]))
      | fail); simp only [Act.put, List.setIfInBounds_toArray, List.set_cons_zero, List.set_cons_succ])
    have hB := (Below.refl w.heap.size w).drew
    refine Run.runsS (Run.callF 37 (by kernel_rfl) (fun hS => rgbehind_any p _) rfl ?_)
    rintro hS e z ⟨rfl, rfl⟩
    have hk := more hB (.cells #[.int .u32 p] 24)
    have dp : (w.drew.alloc (.cells #[.int .u32 p] 24)).cell? ⟨w.drew.heap.size, 0, none⟩ = some (.int .u32 p) := (Blk.new w.drew 24 #[.int .u32 p]).cell 0
    have d1 := kc hk d0
    have HR7 := Lib.hid (H7.out.keep hk)
    refine ⟨_, rfl, ⟨d1, hk⟩, fun _ => ⟨fun z => z.cell? ⟨b, 0, none⟩ = some (.slice a N c) ∧ Below w.heap.size w z, fun z h => h, ⟨d1, hk⟩, ?_⟩⟩
    generalize w.drew.alloc (.cells #[.int .u32 p] 24) = y at *
    generalize w.drew.heap.size = gp at *
    have HK := Lib.hid hk
    clear hS hB hk
    simp only [Act.put, List.setIfInBounds_toArray, List.set_cons_zero, List.set_cons_succ]
    repeat ((first
      | (refine Run.takes (v := ?_) ?_ ?_; rotate_left; (· intro w' hS'; go_simp; (try with_reducible rfl)))
      | (refine Run.takesG (v := ?_) ?_ ?_ ?_; rotate_left; (· simp only [List.getElem?_cons_zero, List.getElem?_cons_succ]); (· intro w' hS'; go_simp; (try with_reducible rfl)))
      | (refine Run.skipsT ?_ ?_; (· simp only [List.getElem?_cons_zero, List.getElem?_cons_succ]))
      | (refine Run.skipsF ?_ ?_; (· simp only [List.getElem?_cons_zero, List.getElem?_cons_succ]))
      | (refine Run.skipsU ?_ ?_; (· simp only [List.getElem?_cons_zero, List.getElem?_cons_succ]))
      | (refine Run.passT ?_ ?_; (· simp only [List.getElem?_cons_zero, List.getElem?_cons_succ]))
      | (refine Run.passF ?_ ?_; (· simp only [List.getElem?_cons_zero, List.getElem?_cons_succ]))
      | (refine Run.passU ?_ ?_; (· simp only [List.getElem?_cons_zero, List.getElem?_cons_succ]))
      | fail); simp only [Act.put, List.setIfInBounds_toArray, List.set_cons_zero, List.set_cons_succ])
    have HM := Lib.hid (minfunc32_any 38 #[.pointer (some ⟨gp, 0, none⟩)] (fun x => stR p x + 1) _ L y HR7.out (by rw [HNN.out]; exact HPOS.out) (by rw [HNN.out]; have := HN.out; omega) (Run.callFunc_enters (by kernel_rfl))
      (fun z' hz x y' => rgcmp_any gp p x y' z' (kc hz.below dp)))
    refine Run.runsS (Run.callF 36 (by kernel_rfl) (fun hS => HM.out) rfl ?_)
    rintro hS e z ⟨m, rfl, hm, hall, hg⟩
    have hk := nest HK.out hg.below
    have HR := Lib.hid (show RES = (m, true) by rw [HRES.out]; exact next_is H1.out bp hm hall)
    refine ⟨_, rfl, ⟨kc hg.below d1, hk⟩, fun _ => ⟨fun z => z.cell? ⟨b, 0, none⟩ = some (.slice a N c) ∧ Below w.heap.size w z, fun z h => h, ⟨kc hg.below d1, hk⟩, ?_⟩⟩
    clear hS hk hm hall hg HM d1 dp
    simp only [Act.put, List.setIfInBounds_toArray, List.set_cons_zero, List.set_cons_succ]
    repeat ((first
      | (refine Run.takes (v := ?_) ?_ ?_; rotate_left; (· intro w' hS'; go_simp; (try with_reducible rfl)))
      | (refine Run.takesG (v := ?_) ?_ ?_ ?_; rotate_left; (· simp only [List.getElem?_cons_zero, List.getElem?_cons_succ]); (· intro w' hS'; go_simp; (try with_reducible rfl)))
      | (refine Run.skipsT ?_ ?_; (· simp only [List.getElem?_cons_zero, List.getElem?_cons_succ]))
      | (refine Run.skipsF ?_ ?_; (· simp only [List.getElem?_cons_zero, List.getElem?_cons_succ]))
      | (refine Run.skipsU ?_ ?_; (· simp only [List.getElem?_cons_zero, List.getElem?_cons_succ]))
      | (refine Run.passT ?_ ?_; (· simp only [List.getElem?_cons_zero, List.getElem?_cons_succ]))
      | (refine Run.passF ?_ ?_; (· simp only [List.getElem?_cons_zero, List.getElem?_cons_succ]))
      | (refine Run.passU ?_ ?_; (· simp only [List.getElem?_cons_zero, List.getElem?_cons_succ]))
      | fail); simp only [Act.put, List.setIfInBounds_toArray, List.set_cons_zero, List.set_cons_succ])
    refine Run.ends (fun hS => ?_)
    have HZ := Lib.hid hS.2
    clear hS
    go_wp2_with fail
    go_ret2
    exact ⟨by rw [HR.out]; rfl, HZ.out⟩
theorem rgadd_there (b : Nat) (W R : Nat → Prop) (L : List Int) (p : Int) (w : World) (h : RgAt w b W R L) (hc : L.contains p = true) :
    Calls Try.prog 8 #[.pointer (some ⟨b, 0, none⟩), .int .u32 p] w fun e w' => e = .returned (.int .i64 7) ∧ Below w.heap.size w w' := by
  obtain ⟨h1, h3, h4, h5, v, h6, h7, h8⟩ := id h
  obtain ⟨a, c, rfl, hc1, hm1⟩ := h7.form
  have d0 : w.cell? ⟨b, 0, none⟩ = some (.slice a L.length c) := h6.cell 0
  have HB := Lib.hid (bsearch32_any _ L p w h7 h1.1 (by have := h1.2.2; omega))
  rw [hc] at HB
  clear h h1 h3 h4 h5 h6 h7 h8 hc1 hm1 hc
  go_enter Try.func8, Try.ntmps8
  go_wp2_with fail
  refine HB.out.mono ?_
  rintro e w' ⟨rfl, rfl⟩
  clear HB
  go_wp2_with fail
  go_ret
  exact ⟨rfl, Below.refl _ _⟩
theorem rgadd_full (b : Nat) (W R : Nat → Prop) (L : List Int) (p : Int) (w : World) (h : RgAt w b W R L) (hc : L.contains p = false) (hf : 64 ≤ L.length) :
    Calls Try.prog 8 #[.pointer (some ⟨b, 0, none⟩), .int .u32 p] w fun e w' => e = .returned (.int .i64 5) ∧ Below w.heap.size w w' := by
  obtain ⟨h1, h3, h4, h5, v, h6, h7, h8⟩ := id h
  obtain ⟨a, c, rfl, hc1, hm1⟩ := h7.form
  have d0 : w.cell? ⟨b, 0, none⟩ = some (.slice a L.length c) := h6.cell 0
  have HB := Lib.hid (bsearch32_any _ L p w h7 h1.1 (by have := h1.2.2; omega))
  rw [hc] at HB
  have hge : (L.length : Int) ≥ 64 := by omega
  clear h h1 h3 h4 h5 h6 h7 h8 hc1 hm1 hc hf
  go_enter Try.func8, Try.ntmps8
  go_wp2_with fail
  refine HB.out.mono ?_
  rintro e w' ⟨rfl, rfl⟩
  clear HB
  go_wp2_with fail
  go_ret
  exact ⟨rfl, Below.refl _ _⟩
set_option maxHeartbeats 1000000 in
set_option maxRecDepth 100000 in
theorem rgadd_ok (b : Nat) (W R : Nat → Prop) (L : List Int) (p : Int) (w : World) (h : RgAt w b W R L) (bp : 0 ≤ p ∧ p ≤ 4294967295) (hc : L.contains p = false) (hf : L.length < 64) :
    Calls Try.prog 8 #[.pointer (some ⟨b, 0, none⟩), .int .u32 p] w fun e w' => e = .returned (.int .i64 0) ∧ GStep W R w w' b (lowR L p ++ p :: upR L p) := by
  obtain ⟨h1, h3, h4, h5, v, h6, h7, h8⟩ := id h
  obtain ⟨a, c, rfl, hc1, hm1⟩ := h7.form
  have d0 : w.cell? ⟨b, 0, none⟩ = some (.slice a L.length c) := h6.cell 0
  have HB := Lib.hid (bsearch32_any _ L p w h7 h1.1 (by have := h1.2.2; omega))
  rw [hc] at HB
  have hlt : ¬ ((L.length : Int) ≥ 64) := by omega
  have HP := Lib.hid h
  have H6 := Lib.hid h6
  have H7 := Lib.hid h7
  have HCAT := Lib.hid (add_cat h1.1 hc)
  have HOK := Lib.hid (show okR (lowR L p ++ p :: upR L p) by have := add_ok h1 bp; unfold addR at this; rw [hc, if_neg (by simp), if_neg (by omega)] at this; exact this)
  have HF := Lib.hid hf
  have hkl := low_len L p
  generalize (lowR L p).length = k at *
  have hcut1 := run_cut_to u32Elem32 a L.length c k (by omega)
  have hcut2 := run_cut_from u32Elem32 a L.length c k hkl hc1
  rw [cutA_zero] at hcut1
  have G1 : Hid (Rd (intE .u32) w (.slice a k c) (L.take k)) := Lib.hid (by
    have := h7.cutA (lo := 0) (hi := k) (Nat.zero_le _) (by omega)
    rw [cutA_zero] at this
    simpa using this)
  have G2 : Hid (Rd (intE .u32) w (.slice (cutA a c k 1) (L.length - k) (c - k)) (L.drop k)) := Lib.hid (by
    have := h7.cutA (lo := k) (hi := L.length) (by omega) (Nat.le_refl _)
    rw [List.take_length] at this
    exact this)
  have HBP := Lib.hid bp
  have hkc : (k : Int) ≤ c := by omega
  have hkl' : (k : Int) ≤ L.length := by omega
  clear h h1 h3 h4 h5 h6 h7 h8 hc hf bp
  go_enter Try.func8, Try.ntmps8
  go_wp2_with fail
  refine HB.out.mono ?_
  rintro e w' ⟨rfl, hw⟩
  obtain rfl := hw.symm
  clear HB
  go_upto_region 8 with fail
  refine Run.region_walkZ (S := fun z => z.cell? ⟨b, 0, none⟩ = some (.slice a L.length c) ∧ Below w.heap.size w z)
    oradd.rows8 oradd.plan8z 19 _ (l := ?steps4) (by kernel_rfl) (by kernel_rfl) (by kernel_rfl) (by kernel_rfl) rfl rfl ?written4 ⟨d0, (Below.refl _ _).drew⟩ ?onward4
  case written4 =>
    simp only [oradd.plan8z, Run.stepsOf, Run.stepOf, Run.guardOf, List.getElem?_toArray, List.getElem?_cons_zero, List.getElem?_cons_succ, Option.map_some, Option.map_none, Option.bind_some, Option.toList_some, List.map_cons, List.map_nil, List.cons_append, List.nil_append, List.append_eq]
    rfl
  repeat ((first
    | (refine Run.takes (v := ?_) ?_ ?_; rotate_left; (· intro w' hS'; go_simp; (try with_reducible rfl)))
    | (refine Run.takesG (v := ?_) ?_ ?_ ?_; rotate_left; (· simp only [List.getElem?_cons_zero, List.getElem?_cons_succ]); (· intro w' hS'; go_simp; (try with_reducible rfl)))
    | (refine Run.skipsT ?_ ?_; (· simp only [List.getElem?_cons_zero, List.getElem?_cons_succ]))
    | (refine Run.skipsF ?_ ?_; (· simp only [List.getElem?_cons_zero, List.getElem?_cons_succ]))
    | (refine Run.skipsU ?_ ?_; (· simp only [List.getElem?_cons_zero, List.getElem?_cons_succ]))
    | (refine Run.passT ?_ ?_; (· simp only [List.getElem?_cons_zero, List.getElem?_cons_succ]))
    | (refine Run.passF ?_ ?_; (· simp only [List.getElem?_cons_zero, List.getElem?_cons_succ]))
    | (refine Run.passU ?_ ?_; (· simp only [List.getElem?_cons_zero, List.getElem?_cons_succ]))
    | fail); simp only [Act.put, List.setIfInBounds_toArray, List.set_cons_zero, List.set_cons_succ])
  refine Run.runs (Run.one (fun hS K hK => ?_))
  go_simp
  have hY1 : Below w.heap.size w (w.alloc (.cells #[.int .u32 p] 24)).drew := (more (Below.refl _ _) _).drew
  have g3 : Rd (intE .u32) (w.alloc (.cells #[.int .u32 p] 24)).drew (.slice (some ⟨w.heap.size, 0, none⟩) 1 1) [p] := (Rd.fresh (E := intE .u32) w p #[.int .u32 p] 24 w.heap.size rfl rfl).keep (Below.refl _ _).drew
  refine hK.out _ _ ⟨kc hY1 d0, hY1⟩ ?_
  clear hK K hS
  generalize (w.alloc (.cells #[.int .u32 p] 24)).drew = y at *
  obtain ⟨n0, hn0⟩ : ∃ n, n = w.heap.size := ⟨_, rfl⟩
  have HG3 := Lib.hid g3
  have d1 := kc hY1 d0
  have HY1 := Lib.hid hY1
  clear g3 hY1
  refine Run.runs (Run.one (fun hS K hK => ?_))
  go_simp
  have hY2 : Below w.heap.size w (y.alloc (.cells #[.slice a k c, .slice (some ⟨w.heap.size, 0, none⟩) 1 1, .slice (cutA a c k 1) (L.length - k) (c - k)] 22)) := more HY1.out _
  have hk2 := more (Below.refl y.heap.size y) (.cells #[.slice a k c, .slice (some ⟨w.heap.size, 0, none⟩) 1 1, .slice (cutA a c k 1) (L.length - k) (c - k)] 22)
  have hbq := Blk.new y 22 #[.slice a k c, .slice (some ⟨w.heap.size, 0, none⟩) 1 1, .slice (cutA a c k 1) (L.length - k) (c - k)]
  have hsl : USlices32 (y.alloc (.cells #[.slice a k c, .slice (some ⟨w.heap.size, 0, none⟩) 1 1, .slice (cutA a c k 1) (L.length - k) (c - k)] 22)) y.heap.size [.slice a k c, .slice (some ⟨w.heap.size, 0, none⟩) 1 1, .slice (cutA a c k 1) (L.length - k) (c - k)] [L.take k, [p], L.drop k] := by
    refine ⟨rfl, fun i hi => ?_⟩
    have hi3 : i = 0 ∨ i = 1 ∨ i = 2 := by simp at hi; omega
    rcases hi3 with rfl | rfl | rfl
    · exact ⟨hbq.cell 0, (G1.out.keep (HY1.out)).keep hk2⟩
    · exact ⟨hbq.cell 1, HG3.out.keep hk2⟩
    · exact ⟨hbq.cell 2, (G2.out.keep (HY1.out)).keep hk2⟩
  have HSL := Lib.hid hsl
  have d2 := kc hk2 d1
  refine hK.out _ _ ⟨d2, hY2⟩ ?_
  clear hK K hS hsl hbq hk2 d1
  generalize y.alloc (.cells #[.slice a k c, .slice (some ⟨w.heap.size, 0, none⟩) 1 1, .slice (cutA a c k 1) (L.length - k) (c - k)] 22) = Y at *
  generalize y.heap.size = ny at *
  have HY2 := Lib.hid hY2
  clear hY2 hn0
  refine Run.runs (Run.callF 22 (by kernel_rfl) (fun hS => uconcat32_any ny 3 _ _ Y HSL.out rfl (by omega) (by have := HF.out; simp only [utot32, List.map_cons, List.map_nil, List.sum_cons, List.sum_nil, List.length_take, List.length_drop, List.length_cons, List.length_nil]; omega)) rfl ?_)
  rintro hS e z ⟨v8, rfl, hr8, hk8⟩
  have hz := nest HY2.out hk8
  refine ⟨_, rfl, ⟨kc hk8 hS.1, hz⟩, ?_⟩
  have hr8 := hr8.mono HY2.out.size
  rw [HCAT.out] at hr8
  clear hS HSL
  simp only [Act.put, List.setIfInBounds_toArray, List.set_cons_zero, List.set_cons_succ]
  repeat ((first
    | (refine Run.takes (v := ?_) ?_ ?_; rotate_left; (· intro w' hS'; go_simp; (try with_reducible rfl)))
    | (refine Run.takesG (v := ?_) ?_ ?_ ?_; rotate_left; (· simp only [List.getElem?_cons_zero, List.getElem?_cons_succ]); (· intro w' hS'; go_simp; (try with_reducible rfl)))
    | (refine Run.skipsT ?_ ?_; (· simp only [List.getElem?_cons_zero, List.getElem?_cons_succ]))
    | (refine Run.skipsF ?_ ?_; (· simp only [List.getElem?_cons_zero, List.getElem?_cons_succ]))
    | (refine Run.skipsU ?_ ?_; (· simp only [List.getElem?_cons_zero, List.getElem?_cons_succ]))
    | (refine Run.passT ?_ ?_; (· simp only [List.getElem?_cons_zero, List.getElem?_cons_succ]))
    | (refine Run.passF ?_ ?_; (· simp only [List.getElem?_cons_zero, List.getElem?_cons_succ]))
    | (refine Run.passU ?_ ?_; (· simp only [List.getElem?_cons_zero, List.getElem?_cons_succ]))
    | fail); simp only [Act.put, List.setIfInBounds_toArray, List.set_cons_zero, List.set_cons_succ])
  have hbz := H6.out.keep hz
  have q1' := hbz.frozen 0
  have q2 : z.cell? ⟨b, 0, none⟩ = some (.slice a L.length c) := hbz.cell 0
  obtain ⟨Q, hQ⟩ : ∃ Q, Q = lowR L p ++ p :: upR L p := ⟨_, rfl⟩
  rw [← hQ] at hr8 HOK
  have HQ := Lib.hid hQ
  clear hQ
  have HR8 := Lib.hid hr8
  have HZ := Lib.hid hz
  obtain ⟨a8, c8, rfl, _, _⟩ := hr8.rd.form
  clear hr8 hz hbz hk8
  refine Run.endsZ (fun hS K hK => ?_)
  go_simp
  refine hK.out _ _ (NoPanic.normal ?_)
  clear hK K hS
  have HST := Lib.hid (rg_stored HP.out HZ.out HR8.out HOK.out)
  clear q1' q2 d0 d2 hcut1 hcut2
  generalize z.setCell ⟨b, 0, none⟩ (.slice a8 Q.length c8) = V at *
  go_wp2_with fail
  go_ret
  rw [← HQ.out]
  exact ⟨rfl, HST.out⟩
theorem rgadd_any (b : Nat) (W R : Nat → Prop) (L : List Int) (p : Int) (w : World) (h : RgAt w b W R L) (bp : 0 ≤ p ∧ p ≤ 4294967295) :
    Calls Try.prog 8 #[.pointer (some ⟨b, 0, none⟩), .int .u32 p] w fun e w' => e = .returned (.int .i64 (addR L p).2) ∧ GStep W R w w' b (addR L p).1 := by
  cases hc : L.contains p with
  | true =>
    have e : addR L p = (L, 7) := by unfold addR; rw [hc]; rfl
    rw [e]
    exact (rgadd_there b W R L p w h hc).mono fun e w' ⟨he, hk⟩ => ⟨he, GStep.same h hk⟩
  | false =>
    by_cases hf : 64 ≤ L.length
    · have e : addR L p = (L, 5) := by unfold addR; rw [hc, if_neg (by simp), if_pos hf]
      rw [e]
      exact (rgadd_full b W R L p w h hc hf).mono fun e w' ⟨he, hk⟩ => ⟨he, GStep.same h hk⟩
    · have e : addR L p = (lowR L p ++ p :: upR L p, 0) := by unfold addR; rw [hc, if_neg (by simp), if_neg hf]
      rw [e]
      exact rgadd_ok b W R L p w h bp hc (by omega)
end Go.Proofs.Ytgkfioloceemcaa
