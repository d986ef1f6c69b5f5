/- Walks of package ring: a ring is a block of one cell, the slice of its points, rising; such slices are not written again. -/
import Derived.Test.YtpgljdngbiicmaaRgOps
set_option maxRecDepth 4000
namespace Go.Proofs.Ytpgljdngbiicmaa
open Go.RowKit Mem
set_option linter.unusedSimpArgs false
set_option linter.unusedVariables false
attribute [local irreducible] Go.Calls

/-- a ring at block b of the points L, rising: it writes blocks of W alone, and reads those of R alone -/
def RgAt (w : World) (b : Nat) (W R : Nat → Prop) (L : List Int) : Prop :=
  okR L ∧ (∀ j, W j ↔ j = b) ∧ R b ∧ (∀ j, R j → j < w.heap.size) ∧
    ∃ v, Blk w b 56 #[v] ∧ Rd (intE .u32) w v L ∧ ∀ g, v.ownBlock = some g → R g ∧ g ≠ b
theorem RgAt.turned {w w' : World} {b : Nat} {W R S : Nat → Prop} {L : List Int} (h : RgAt w b W R L) (k : Turned S w w') (hs : ∀ j, R j → ¬ S j) : RgAt w' b W R L := by
  obtain ⟨h1, h3, h4, h5, v, h6, h7, h8⟩ := h
  exact ⟨h1, h3, h4, fun j hj => Nat.lt_of_lt_of_le (h5 j hj) k.size, v, h6.turned k (hs b h4), h7.turned k (fun g hg => hs g (h8 g hg).1), h8⟩
theorem RgAt.lt {w : World} {b : Nat} {W R : Nat → Prop} {L : List Int} (h : RgAt w b W R L) {j : Nat} (hj : R j) : j < w.heap.size := h.2.2.2.1 j hj
theorem RgAt.sub {w : World} {b : Nat} {W R : Nat → Prop} {L : List Int} (h : RgAt w b W R L) {j : Nat} (hj : W j) : R j := by
  rw [(h.2.1 j).1 hj]
  exact h.2.2.1
theorem RgAt.ok {w : World} {b : Nat} {W R : Nat → Prop} {L : List Int} (h : RgAt w b W R L) : okR L := h.1
/-- what a call leaves -/
def GStep (W R : Nat → Prop) (w w' : World) (b : Nat) (L : List Int) : Prop := ∃ W' R', RgAt w' b W' R' L ∧ Turned W w w' ∧ (∀ j, W' j → W j ∨ w.heap.size ≤ j) ∧ (∀ j, R' j → R j ∨ w.heap.size ≤ j)
theorem GStep.same {W R : Nat → Prop} {w w' : World} {b : Nat} {L : List Int} (h : RgAt w b W R L) (k : Below w.heap.size w w') : GStep W R w w' b L :=
  ⟨W, R, h.turned (S := fun _ => False) (Turned.of_below k) (fun _ _ h => h), Turned.of_below k, fun _ h => .inl h, fun _ h => .inl h⟩
/-! ### the mathematics of it -/
theorem rlow_take {L : List Int} (h : L.Pairwise (· < ·)) (p : Int) : L.take (lowR L p).length = lowR L p ∧ L.drop (lowR L p).length = (if L.contains p then [p] else []) ++ upR L p := by
  have h1 : ∀ (A B : List Int), L = A ++ B → L.take A.length = A ∧ L.drop A.length = B := fun A B e => by
    subst e
    exact ⟨List.take_left' rfl, List.drop_left' rfl⟩
  exact h1 _ _ (split_R h p)
theorem add_cat {L : List Int} (h : L.Pairwise (· < ·)) {p : Int} (hn : L.contains p = false) : [L.take (lowR L p).length, [p], L.drop (lowR L p).length].flatten = lowR L p ++ p :: upR L p := by
  obtain ⟨h1, h2⟩ := rlow_take h p
  rw [h1, h2, hn]
  simp
theorem drop_cat {L : List Int} (h : L.Pairwise (· < ·)) {p : Int} (hn : L.contains p = true) : [L.take (lowR L p).length, L.drop ((lowR L p).length + 1)].flatten = L.filter (fun x => !(x == p)) := by
  obtain ⟨h1, h2⟩ := rlow_take h p
  rw [h1, ← List.drop_drop, h2, hn]
  have e := split_R h p
  rw [hn] at e
  have e2 : L.filter (fun x => !(x == p)) = (lowR L p ++ ([p] ++ upR L p)).filter (fun x => !(x == p)) := by
    have := congrArg (List.filter (fun x => !(x == p))) e
    simpa using this
  rw [e2, List.filter_append, List.filter_append]
  have f1 : (lowR L p).filter (fun x => !(x == p)) = lowR L p := List.filter_eq_self.2 (fun x hx => by have := (lowR_mem.1 hx).2; simp; omega)
  have f2 : (upR L p).filter (fun x => !(x == p)) = upR L p := List.filter_eq_self.2 (fun x hx => by have := (upR_mem.1 hx).2; simp; omega)
  rw [f1, f2]
  simp
theorem next_is {L : List Int} (h : okR L) {p m : Int} (hp : 0 ≤ p ∧ p ≤ 4294967295) (hm : m ∈ L) (hall : ∀ y ∈ L, stR p m + 1 ≤ stR p y + 1) : nextR L p = (m, true) := by
  have hne : L ≠ [] := fun e => by rw [e] at hm; cases hm
  have h1 := own_is h (v := (p + 1) % 4294967296) (by omega) hm (fun y hy => by have := hall y hy; unfold stR at this; omega)
  unfold nextR
  refine Prod.ext h1 ?_
  exact (own_head _ hne).1
theorem pred_is {L : List Int} (h : okR L) {p m : Int} (hp : p ∈ L) (hm : m ∈ L) (hall : ∀ y ∈ L, stR m p + 1 ≤ stR y p + 1) : spanR L p = ((m, p), true) := by
  obtain ⟨h1, h2⟩ := pred_min h hp hm
  have h3 := hall _ h1
  have b1 := h.2.1 _ h1
  have b2 := h.2.1 _ hm
  have e : predR L p = m := by
    unfold stR at h3
    rw [show p - m - 1 = p - m - 1 from rfl] at h3
    omega
  unfold spanR
  rw [if_pos (by simpa using hp), e]
theorem heirs_nat {L : List Int} {p n : Int} : heirsR L p n = (othR L p).take (min (max n 0) ((othR L p).length : Int)).toNat := by
  unfold heirsR
  rcases Int.le_total n 0 with h | h
  · rw [show (min (max n 0) ((othR L p).length : Int)).toNat = 0 by omega, show n.toNat = 0 by omega]
  · rcases Int.le_total n ((othR L p).length : Int) with h2 | h2
    · rw [show (min (max n 0) ((othR L p).length : Int)).toNat = n.toNat by omega]
    · rw [show (min (max n 0) ((othR L p).length : Int)).toNat = (othR L p).length by omega, List.take_length, List.take_of_length_le (by omega)]
/-! ### the ring's calls -/
theorem rgnew_any (w : World) : Calls Try.prog 10 #[] w fun e w' => ∃ b W R, e = .returned (.pointer (some ⟨b, 0, none⟩)) ∧ RgAt w' b W R [] ∧ (∀ j, R j → w.heap.size ≤ j) ∧ Below w.heap.size w w' := by
  go_enter Try.func10, Try.ntmps10
  go_wp2_with fail
  go_ret
  refine ⟨w.heap.size, fun j => j = w.heap.size, fun j => j = w.heap.size, rfl, ⟨⟨List.Pairwise.nil, fun x hx => (nomatch hx), Nat.zero_le _⟩, fun j => Iff.rfl, rfl, fun j hj => by simp only [] at hj; subst hj; simp, .slice none 0 0, Blk.new w _ _, Rd.nil none 0 (Nat.zero_le _), by intro g hg; cases hg⟩, fun j hj => Nat.le_of_eq hj.symm, more (Below.refl _ _) _⟩
/-- what a call that writes the one cell leaves -/
theorem rg_stored {w y : World} {b : Nat} {W R : Nat → Prop} {L L' : List Int} {v : Value} (h : RgAt w b W R L) (hk : Below w.heap.size w y) (hr : Row (intE .u32) 24 w.heap.size y v L') (hl : okR L') :
    GStep W R w (y.setCell ⟨b, 0, none⟩ v) b L' := by
  obtain ⟨_, h3, h4, h5, v0, h6, _, _⟩ := h
  have hb : b < w.heap.size := h6.lt
  have hset := Only.set (b := b) y 0 v
  have hne : v.ownBlock ≠ some b := fun e => by have := (hr.block b e).1; omega
  refine ⟨fun j => j = b, fun j => j = b ∨ v.ownBlock = some j, ⟨hl, fun j => Iff.rfl, .inl rfl, fun j hj => ?_, v, ?_, hr.rd.only hset hne, fun g hg => ⟨.inr hg, fun e => hne (e ▸ hg)⟩⟩, ?_, fun j hj => .inl ((h3 j).2 hj), fun j hj => ?_⟩
  · refine Nat.lt_of_lt_of_le ?_ hset.size
    rcases hj with rfl | hj
    · exact Nat.lt_of_lt_of_le hb hk.size
    · exact (hr.block j hj).2
  · have := (h6.keep hk).set_ 0 v
    simpa using this
  · exact (Turned.of_below hk).trans (S' := W) (Turned.of_only hset ((h3 b).2 rfl)) (fun _ _ h => h)
  · rcases hj with rfl | hj
    · exact .inl h4
    · exact .inr (hr.block j hj).1
theorem rghas_any (b : Nat) (W R : Nat → Prop) (L : List Int) (p : Int) (w : World) (h : RgAt w b W R L) (bp : 0 ≤ p ∧ p ≤ 4294967295) :
    Calls Try.prog 27 #[.pointer (some ⟨b, 0, none⟩), .int .u32 p] w fun e w' => e = .returned (.bool (L.contains p)) ∧ Below w.heap.size w w' := by
  obtain ⟨h1, h3, h4, h5, v, h6, h7, h8⟩ := id h
  obtain ⟨a, c, rfl, hc1, hm1⟩ := h7.form
  have d0 : w.cell? ⟨b, 0, none⟩ = some (.slice a L.length c) := h6.cell 0
  have HB := Lib.hid (bsearch32_any _ L p w h7 h1.1 (by have := h1.2.2; omega))
  generalize L.contains p = RES at *
  clear h h1 h3 h4 h5 h6 h7 h8 hc1 hm1
  go_enter Try.func27, Try.ntmps27
  go_wp2_with fail
  refine HB.out.mono ?_
  rintro e w' ⟨rfl, rfl⟩
  clear HB
  go_wp2_with fail
  go_ret
  exact ⟨rfl, Below.refl _ _⟩
theorem rghas_nil (p : Int) (w : World) : Calls Try.prog 27 #[.pointer none, .int .u32 p] w fun e w' => e = .returned (.bool false) ∧ Below w.heap.size w w' := by
  go_enter Try.func27, Try.ntmps27
  go_wp2_with fail
  go_ret
  exact ⟨rfl, Below.refl _ _⟩
theorem rgadd_nil (p : Int) (w : World) : Calls Try.prog 14 #[.pointer none, .int .u32 p] w fun e w' => e = .returned (.int .i64 2) ∧ Below w.heap.size w w' := by
  go_enter Try.func14, Try.ntmps14
  go_wp2_with fail
  go_ret
  exact ⟨rfl, Below.refl _ _⟩
theorem rgdrop_nil (p : Int) (w : World) : Calls Try.prog 12 #[.pointer none, .int .u32 p] w fun e w' => e = .returned (.int .i64 2) ∧ Below w.heap.size w w' := by
  go_enter Try.func12, Try.ntmps12
  go_wp2_with fail
  go_ret
  exact ⟨rfl, Below.refl _ _⟩
theorem rgfork_nil (w : World) : Calls Try.prog 16 #[.pointer none] w fun e w' => e = .returned (.pointer none) ∧ Below w.heap.size w w' := by
  go_enter Try.func16, Try.ntmps16
  go_wp2_with fail
  go_ret
  exact ⟨rfl, Below.refl _ _⟩
theorem rgpoints_nil (w : World) : Calls Try.prog 24 #[.pointer none] w fun e w' => ∃ a c, e = .returned (.slice a 0 c) ∧ c ≤ maxLen ∧ Below w.heap.size w w' := by
  go_enter Try.func24, Try.ntmps24
  go_wp2_with fail
  go_ret
  exact ⟨_, _, rfl, Nat.zero_le _, Below.refl _ _⟩
theorem rgfork_any (b : Nat) (W R : Nat → Prop) (L : List Int) (w : World) (h : RgAt w b W R L) : Calls Try.prog 16 #[.pointer (some ⟨b, 0, none⟩)] w fun e w' =>
    ∃ b' W' R', e = .returned (.pointer (some ⟨b', 0, none⟩)) ∧ RgAt w' b' W' R' L ∧ (∀ j, W' j → w.heap.size ≤ j) ∧ (∀ j, R' j → (R j ∧ ¬ W j) ∨ w.heap.size ≤ j) ∧ Below w.heap.size w w' := by
  obtain ⟨h1, h3, h4, h5, v, h6, h7, h8⟩ := id h
  obtain ⟨a, c, rfl, hc1, hm1⟩ := h7.form
  have d0 : w.cell? ⟨b, 0, none⟩ = some (.slice a L.length c) := h6.cell 0
  have H3 := Lib.hid h3
  have H5 := Lib.hid h5
  have H7 := Lib.hid h7
  have H8 := Lib.hid h8
  clear h h3 h4 h5 h6 h7 h8
  go_enter Try.func16, Try.ntmps16
  go_wp2_with fail
  go_ret
  have hm := more (Below.refl w.heap.size w) (.cells #[.slice a L.length c] 56)
  refine ⟨w.heap.size, fun j => j = w.heap.size, fun j => j = w.heap.size ∨ (Value.slice a L.length c).ownBlock = some j, rfl, ⟨h1, fun j => Iff.rfl, .inl rfl, fun j hj => ?_, _, Blk.new w _ _, H7.out.keep hm, fun g hg => ⟨.inr hg, fun e => ?_⟩⟩, fun j hj => Nat.le_of_eq hj.symm, fun j hj => ?_, hm⟩
  · rw [size_alloc]
    rcases hj with rfl | hj
    · omega
    · have := H5.out j (H8.out j hj).1; omega
  · have := H5.out g (H8.out g hg).1; omega
  · rcases hj with rfl | hj
    · exact .inr (Nat.le_refl _)
    · exact .inl ⟨(H8.out j hj).1, fun hw => (H8.out j hj).2 ((H3.out j).1 hw)⟩
theorem rgpoints_row (b : Nat) (W R : Nat → Prop) (L : List Int) (w : World) (h : RgAt w b W R L) :
    Calls Try.prog 24 #[.pointer (some ⟨b, 0, none⟩)] w fun e w' => ∃ v, e = .returned v ∧ Row (intE .u32) 24 w.heap.size w' v L ∧ Below w.heap.size w w' := by
  obtain ⟨h1, h3, h4, h5, v, h6, h7, h8⟩ := id h
  obtain ⟨a, c, rfl, hc1, hm1⟩ := h7.form
  have d0 : w.cell? ⟨b, 0, none⟩ = some (.slice a L.length c) := h6.cell 0
  have H7 := Lib.hid (clone32_any _ L w h7 (by have := h1.2.2; omega))
  clear h h1 h3 h4 h5 h6 h7 h8
  go_enter Try.func24, Try.ntmps24
  go_wp2_with fail
  refine H7.out.mono ?_
  rintro e z ⟨x, rfl, hr, hk⟩
  have HR := Lib.hid hr
  have HK := Lib.hid hk
  obtain ⟨ax, cx, rfl, _, _⟩ := hr.rd.form
  clear hr hk H7
  go_wp2_with fail
  go_ret
  exact ⟨_, rfl, HR.out, HK.out⟩
/-- what is told lies in blocks that the ring leaves be from now on -/
theorem rgpoints_any (b : Nat) (W R : Nat → Prop) (L : List Int) (w : World) (h : RgAt w b W R L) :
    Calls Try.prog 24 #[.pointer (some ⟨b, 0, none⟩)] w fun e w' => ∃ v, e = .returned v ∧ Rd (intE .u32) w' v L ∧ (0 < L.length → ∀ g, v.ownBlock = some g → ¬ W g ∧ (R g ∨ w.heap.size ≤ g)) ∧ Below w.heap.size w w' :=
  (rgpoints_row b W R L w h).mono fun e w' ⟨v, he, hr, hk⟩ => ⟨v, he, hr.rd, fun _ g hg => ⟨fun hw => by have := h.lt (h.sub hw); have := (hr.block g hg).1; omega, .inr (hr.block g hg).1⟩, hk⟩
theorem span_infoC : (Try.prog.info? 36).map (·.size) = some 2 := by kernel_rfl
theorem rgspan_nil (p : Int) (w : World) : Calls Try.prog 21 #[.pointer none, .int .u32 p] w fun e w' => ∃ x y, e = .returned (.tuple #[.agg #[.int .u32 x, .int .u32 y], .bool false]) ∧ Below w.heap.size w w' := by
  have HK := Lib.hid (more (more (Below.refl w.heap.size w) (.cells #[.int .u32 p] 24)) (.cells #[.int .u32 0, .int .u32 0] 36))
  have HB := Lib.hid (Blk.newAt (w.alloc (.cells #[.int .u32 p] 24)) 36 #[.int .u32 0, .int .u32 0] (size_alloc _ _).symm)
  have HP := Lib.hid (((Blk.new w 24 #[.int .u32 p]).keep (more (Below.refl _ _) (.cells #[.int .u32 0, .int .u32 0] 36))).cell 0)
  go_enter Try.func21, Try.ntmps21
  go_upto_region 1 with fail
  generalize (w.alloc (.cells #[.int .u32 p] 24)).alloc (.cells #[.int .u32 0, .int .u32 0] 36) = y at *
  have dp := HP.out
  simp only [List.getElem?_toArray, List.getElem?_cons_zero] at dp
  go_wp2_with fail
  refine (rghas_nil p y).mono ?_
  rintro e z ⟨rfl, hk⟩
  have HK2 := Lib.hid (nest HK.out hk)
  have HB2 := Lib.hid (HB.out.keep hk)
  clear hk HB HK HP dp
  go_wp2_with (first | (refine at_store 4 rfl ?_; refine wpList_store_row rfl 36 (.tmp 4) (.tmp 11) rfl (w.heap.size + 1) #[.int .u32 0, .int .u32 0] rfl rfl 36 _ HB2.out span_infoC rfl (by simp [Value.oneCell']) ?_))
  refine bodyPost_ret (results_blk_tmp (l := [.int .u32 0, .int .u32 0]) rfl Try.underlying36 span_infoC rfl rfl (Blk.rowS HB2.out _)) rfl ?_
  exact ⟨0, 0, rfl, HK2.out.trans ((Only.rowS _ _).below (Nat.le_succ _) HK2.out.size)⟩
set_option maxRecDepth 100000 in
theorem rgspan_any (b : Nat) (W R : Nat → Prop) (L : List Int) (p : Int) (w : World) (h : RgAt w b W R L) (bp : 0 ≤ p ∧ p ≤ 4294967295) :
    Calls Try.prog 21 #[.pointer (some ⟨b, 0, none⟩), .int .u32 p] w fun e w' => e = .returned (.tuple #[.agg #[.int .u32 (spanR L p).1.1, .int .u32 (spanR L p).1.2], .bool (spanR L p).2]) ∧ Below w.heap.size w w' := by
  have hk := more (more (Below.refl w.heap.size w) (.cells #[.int .u32 p] 24)) (.cells #[.int .u32 0, .int .u32 0] 36)
  have HH := Lib.hid (h.turned (S := fun _ => False) (Turned.of_below hk) (fun _ _ h => h))
  have HK := Lib.hid hk
  have HB := Lib.hid (Blk.newAt (w.alloc (.cells #[.int .u32 p] 24)) 36 #[.int .u32 0, .int .u32 0] (size_alloc _ _).symm)
  have HP := Lib.hid (((Blk.new w 24 #[.int .u32 p]).keep (more (Below.refl _ _) (.cells #[.int .u32 0, .int .u32 0] 36))))
  obtain ⟨RES, hRES⟩ : ∃ r, r = spanR L p := ⟨_, rfl⟩
  have HRES := Lib.hid hRES
  rw [← hRES]
  clear hRES h hk
  go_enter Try.func21, Try.ntmps21
  go_upto_region 1 with fail
  generalize (w.alloc (.cells #[.int .u32 p] 24)).alloc (.cells #[.int .u32 0, .int .u32 0] 36) = y at *
  have dp : y.cell? ⟨w.heap.size, 0, none⟩ = some (.int .u32 p) := HP.out.cell 0
  obtain ⟨gp, hgp⟩ : ∃ g, g = w.heap.size := ⟨_, rfl⟩
  rw [← hgp] at dp HP HB ⊢
  have HGP := Lib.hid hgp
  clear hgp
  go_wp2_with fail
  refine (rghas_any b W R L p y HH.out bp).mono ?_
  rintro e z ⟨rfl, hk⟩
  have HK2 := Lib.hid (nest HK.out hk)
  have HB2 := Lib.hid (HB.out.keep hk)
  have HH2 := Lib.hid (HH.out.turned (S := fun _ => False) (Turned.of_below hk) (fun _ _ h => h))
  have dp2 := kc hk dp
  clear hk HB HK HP dp HH
  cases hc : L.contains p with
  | false =>
    have HR := Lib.hid (show RES = ((0, 0), false) by rw [HRES.out]; unfold spanR; rw [hc]; rfl)
    clear hc
    go_wp2_with (first | (refine at_store 4 rfl ?_; refine wpList_store_row rfl 36 (.tmp 4) (.tmp 11) rfl (gp + 1) #[.int .u32 0, .int .u32 0] rfl rfl 36 _ HB2.out span_infoC rfl (by simp [Value.oneCell']) ?_))
    refine bodyPost_ret (results_blk_tmp (l := [.int .u32 0, .int .u32 0]) rfl Try.underlying36 span_infoC rfl rfl (Blk.rowS HB2.out _)) rfl ?_
    exact ⟨by rw [HR.out]; rfl, HK2.out.trans ((Only.rowS _ _).below (by rw [HGP.out]; exact Nat.le_succ _) HK2.out.size)⟩
  | true =>
    have HC := Lib.hid (show p ∈ L by simpa using hc)
    clear hc
    obtain ⟨h1, h3, h4, h5, v, h6, h7, h8⟩ := id HH2.out
    obtain ⟨a, c, rfl, hc1, hm1⟩ := h7.form
    have d0 : z.cell? ⟨b, 0, none⟩ = some (.slice a L.length c) := h6.cell 0
    have HM := Lib.hid (minfunc32_any 35 #[.pointer (some ⟨gp, 0, none⟩)] (fun x => stR x p + 1) _ L z h7 (List.length_pos_of_mem HC.out) (by have := h1.2.2; omega) (Run.callFunc_enters (by kernel_rfl))
      (fun z' hz x y => rgspc_any gp p x y z' (kc hz.below dp2)))
    have H1 := Lib.hid h1
    clear h1 h3 h4 h5 h6 h7 h8 hc1 hm1
    go_wp2_with fail
    refine HM.out.mono ?_
    rintro e u ⟨m, rfl, hm, hall, hg⟩
    have hk := hg.below
    have HR := Lib.hid (show RES = ((m, p), true) by rw [HRES.out]; exact pred_is H1.out HC.out hm hall)
    have HK3 := Lib.hid (nest HK2.out hk)
    have HB3 := Lib.hid (HB2.out.keep hk)
    have dp3 := kc hk dp2
    clear hm hall hg hk HM d0 dp2
    go_wp2_with (first | (refine at_store 4 rfl ?_; refine wpList_store_row rfl 36 (.tmp 4) (.tmp 20) rfl (gp + 1) #[.int .u32 m, .int .u32 p] rfl rfl 36 _ HB3.out span_infoC rfl (by simp [Value.oneCell']) ?_))
    refine bodyPost_ret (results_blk_tmp (l := [.int .u32 m, .int .u32 p]) rfl Try.underlying36 span_infoC rfl rfl (Blk.rowS HB3.out _)) rfl ?_
    exact ⟨by rw [HR.out]; rfl, HK3.out.trans ((Only.rowS _ _).below (by rw [HGP.out]; exact Nat.le_succ _) HK3.out.size)⟩
theorem rgnext_nil (p : Int) (w : World) : Calls Try.prog 19 #[.pointer none, .int .u32 p] w fun e w' => ∃ x, e = .returned (.tuple #[.int .u32 x, .bool false]) ∧ Below w.heap.size w w' := by
  go_enter Try.func19, Try.ntmps19
  go_wp2_with fail
  go_ret2
  exact ⟨0, rfl, Below.refl _ _⟩
set_option maxRecDepth 100000 in
theorem rgnext_any (b : Nat) (W R : Nat → Prop) (L : List Int) (p : Int) (w : World) (h : RgAt w b W R L) (bp : 0 ≤ p ∧ p ≤ 4294967295) :
    Calls Try.prog 19 #[.pointer (some ⟨b, 0, none⟩), .int .u32 p] w fun e w' => e = .returned (.tuple #[.int .u32 (nextR L p).1, .bool (nextR L p).2]) ∧ Below w.heap.size w w' := by
  obtain ⟨h1, h3, h4, h5, v, h6, h7, h8⟩ := id h
  obtain ⟨a, c, rfl, hc1, hm1⟩ := h7.form
  have d0 : w.cell? ⟨b, 0, none⟩ = some (.slice a L.length c) := h6.cell 0
  have H1 := Lib.hid h1
  have H7 := Lib.hid h7
  obtain ⟨RES, hRES⟩ : ∃ r, r = nextR L p := ⟨_, rfl⟩
  have HRES := Lib.hid hRES
  rw [← hRES]
  clear hRES h h1 h3 h4 h5 h6 h7 h8 hc1 hm1
  by_cases hl : L = []
  · subst hl
    have HR := Lib.hid (show RES = (0, false) from HRES.out)
    go_enter Try.func19, Try.ntmps19
    go_wp2_with fail
    go_ret2
    exact ⟨by rw [HR.out]; rfl, Below.refl _ _⟩
  · have hpos : 0 < L.length := List.length_pos_iff.2 hl
    have hne : ((L.length : Int) == 0) = false := by simp; exact hl
    have HPOS := Lib.hid hpos
    have HN := Lib.hid H1.out.2.2
    generalize hN : L.length = N at *
    have HNN := Lib.hid hN
    clear hl hpos hN
    go_enter Try.func19, Try.ntmps19
    go_upto_region 3 with fail
    refine Run.region_walk (S := fun z => z.cell? ⟨b, 0, none⟩ = some (.slice a N c) ∧ Below w.heap.size w z)
      ornext.rows3 ornext.plan3 (l := ?steps1) (by kernel_rfl) (by kernel_rfl) (by kernel_rfl) (by kernel_rfl) ?written1 ⟨d0, (Below.refl _ _).drew⟩ ?onward1
    case written1 =>
      simp only [ornext.plan3, Run.stepsOf, Run.stepOf, Run.guardOf, List.getElem?_toArray, List.getElem?_cons_zero, List.getElem?_cons_succ, Option.map_some, Option.map_none, Option.bind_some, Option.toList_some, List.map_cons, List.map_nil, List.cons_append, List.nil_append, List.append_eq]
      rfl
    repeat ((first
      | (refine Run.takes (v := ?_) ?_ ?_; rotate_left; (· intro w' hS'; go_simp; (try with_reducible rfl)))
      | (refine Run.takesG (v := ?_) ?_ ?_ ?_; rotate_left; (· simp only [List.getElem?_cons_zero, List.getElem?_cons_succ]); (· intro w' hS'; go_simp; (try with_reducible rfl)))
      | (refine Run.skipsT ?_ ?_; (· simp only [List.getElem?_cons_zero, List.getElem?_cons_succ]))
      | (refine Run.skipsF ?_ ?_; (· simp only [List.getElem?_cons_zero, List.getElem?_cons_succ]))
      | (refine Run.skipsU ?_ ?_; (· simp only [List.getElem?_cons_zero, List.getElem?_cons_succ]))
      | (refine Run.passT ?_ ?_; (· simp only [List.getElem?_cons_zero, List.getElem?_cons_succ]))
      | (refine Run.passF ?_ ?_; (· simp only [List.getElem?_cons_zero, List.getElem?_cons_succ]))
      | (refine Run.passU ?_ ?_; (· simp only [List.getElem?_cons_zero, List.getElem?_cons_succ]))
      | fail); simp only [Act.put, List.setIfInBounds_toArray, List.set_cons_zero, List.set_cons_succ])
    have hB := (Below.refl w.heap.size w).drew
    refine Run.runsS (Run.callF 34 (by kernel_rfl) (fun hS => rgbehind_any p _) rfl ?_)
    rintro hS e z ⟨rfl, rfl⟩
    have hk := more hB (.cells #[.int .u32 p] 24)
    have dp : (w.drew.alloc (.cells #[.int .u32 p] 24)).cell? ⟨w.drew.heap.size, 0, none⟩ = some (.int .u32 p) := (Blk.new w.drew 24 #[.int .u32 p]).cell 0
    have d1 := kc hk d0
    have HR7 := Lib.hid (H7.out.keep hk)
    refine ⟨_, rfl, ⟨d1, hk⟩, fun _ => ⟨fun z => z.cell? ⟨b, 0, none⟩ = some (.slice a N c) ∧ Below w.heap.size w z, fun z h => h, ⟨d1, hk⟩, ?_⟩⟩
    generalize w.drew.alloc (.cells #[.int .u32 p] 24) = y at *
    generalize w.drew.heap.size = gp at *
    have HK := Lib.hid hk
    clear hS hB hk
    simp only [Act.put, List.setIfInBounds_toArray, List.set_cons_zero, List.set_cons_succ]
    repeat ((first
      | (refine Run.takes (v := ?_) ?_ ?_; rotate_left; (· intro w' hS'; go_simp; (try with_reducible rfl)))
      | (refine Run.takesG (v := ?_) ?_ ?_ ?_; rotate_left; (· simp only [List.getElem?_cons_zero, List.getElem?_cons_succ]); (· intro w' hS'; go_simp; (try with_reducible rfl)))
      | (refine Run.skipsT ?_ ?_; (· simp only [List.getElem?_cons_zero, List.getElem?_cons_succ]))
      | (refine Run.skipsF ?_ ?_; (· simp only [List.getElem?_cons_zero, List.getElem?_cons_succ]))
      | (refine Run.skipsU ?_ ?_; (· simp only [List.getElem?_cons_zero, List.getElem?_cons_succ]))
      | (refine Run.passT ?_ ?_; (· simp only [List.getElem?_cons_zero, List.getElem?_cons_succ]))
      | (refine Run.passF ?_ ?_; (· simp only [List.getElem?_cons_zero, List.getElem?_cons_succ]))
      | (refine Run.passU ?_ ?_; (· simp only [List.getElem?_cons_zero, List.getElem?_cons_succ]))
      | fail); simp only [Act.put, List.setIfInBounds_toArray, List.set_cons_zero, List.set_cons_succ])
    have HM := Lib.hid (minfunc32_any 48 #[.pointer (some ⟨gp, 0, none⟩)] (fun x => stR p x + 1) _ L y HR7.out (by rw [HNN.out]; exact HPOS.out) (by rw [HNN.out]; have := HN.out; omega) (Run.callFunc_enters (by kernel_rfl))
      (fun z' hz x y' => rgcmp_any gp p x y' z' (kc hz.below dp)))
    refine Run.runsS (Run.callF 33 (by kernel_rfl) (fun hS => HM.out) rfl ?_)
    rintro hS e z ⟨m, rfl, hm, hall, hg⟩
    have hk := nest HK.out hg.below
    have HR := Lib.hid (show RES = (m, true) by rw [HRES.out]; exact next_is H1.out bp hm hall)
    refine ⟨_, rfl, ⟨kc hg.below d1, hk⟩, fun _ => ⟨fun z => z.cell? ⟨b, 0, none⟩ = some (.slice a N c) ∧ Below w.heap.size w z, fun z h => h, ⟨kc hg.below d1, hk⟩, ?_⟩⟩
    clear hS hk hm hall hg HM d1 dp
    simp only [Act.put, List.setIfInBounds_toArray, List.set_cons_zero, List.set_cons_succ]
    repeat ((first
      | (refine Run.takes (v := ?_) ?_ ?_; rotate_left; (· intro w' hS'; go_simp; (try with_reducible rfl)))
      | (refine Run.takesG (v := ?_) ?_ ?_ ?_; rotate_left; (· simp only [List.getElem?_cons_zero, List.getElem?_cons_succ]); (· intro w' hS'; go_simp; (try with_reducible rfl)))
      | (refine Run.skipsT ?_ ?_; (· simp only [List.getElem?_cons_zero, List.getElem?_cons_succ]))
      | (refine Run.skipsF ?_ ?_; (· simp only [List.getElem?_cons_zero, List.getElem?_cons_succ]))
      | (refine Run.skipsU ?_ ?_; (· simp only [List.getElem?_cons_zero, List.getElem?_cons_succ]))
      | (refine Run.passT ?_ ?_; (· simp only [List.getElem?_cons_zero, List.getElem?_cons_succ]))
      | (refine Run.passF ?_ ?_; (· simp only [List.getElem?_cons_zero, List.getElem?_cons_succ]))
      | (refine Run.passU ?_ ?_; (· simp only [List.getElem?_cons_zero, List.getElem?_cons_succ]))
      | fail); simp only [Act.put, List.setIfInBounds_toArray, List.set_cons_zero, List.set_cons_succ])
    refine Run.ends (fun hS => ?_)
    have HZ := Lib.hid hS.2
    clear hS
    go_wp2_with fail
    go_ret2
    exact ⟨by rw [HR.out]; rfl, HZ.out⟩
theorem rgowner_any (b : Nat) (W R : Nat → Prop) (L : List Int) (p : Int) (w : World) (h : RgAt w b W R L) (bp : 0 ≤ p ∧ p ≤ 4294967295) :
    Calls Try.prog 17 #[.pointer (some ⟨b, 0, none⟩), .int .u32 p] w fun e w' => e = .returned (.tuple #[.int .u32 (ownR L p).1, .bool (ownR L p).2]) ∧ Below w.heap.size w w' := by
  have HN := Lib.hid (rgnext_any b W R L ((p - 1) % 4294967296) w h (by omega))
  have he : nextR L ((p - 1) % 4294967296) = ownR L p := by unfold nextR; rw [show ((p - 1) % 4294967296 + 1) % 4294967296 = p by omega]
  rw [he] at HN
  generalize ownR L p = RES at *
  clear he h
  go_enter Try.func17, Try.ntmps17
  go_wp2_with fail
  refine HN.out.mono ?_
  rintro e z ⟨rfl, hk⟩
  clear HN
  go_wp2_with fail
  go_ret2
  exact ⟨rfl, hk⟩
theorem rgowner_nil (p : Int) (w : World) : Calls Try.prog 17 #[.pointer none, .int .u32 p] w fun e w' => ∃ x, e = .returned (.tuple #[.int .u32 x, .bool false]) ∧ Below w.heap.size w w' := by
  go_enter Try.func17, Try.ntmps17
  go_wp2_with fail
  refine (rgnext_nil _ w).mono ?_
  rintro e z ⟨x, rfl, hk⟩
  go_wp2_with fail
  go_ret2
  exact ⟨x, rfl, hk⟩
theorem rgadd_there (b : Nat) (W R : Nat → Prop) (L : List Int) (p : Int) (w : World) (h : RgAt w b W R L) (hc : L.contains p = true) :
    Calls Try.prog 14 #[.pointer (some ⟨b, 0, none⟩), .int .u32 p] w fun e w' => e = .returned (.int .i64 7) ∧ Below w.heap.size w w' := by
  obtain ⟨h1, h3, h4, h5, v, h6, h7, h8⟩ := id h
  obtain ⟨a, c, rfl, hc1, hm1⟩ := h7.form
  have d0 : w.cell? ⟨b, 0, none⟩ = some (.slice a L.length c) := h6.cell 0
  have HB := Lib.hid (bsearch32_any _ L p w h7 h1.1 (by have := h1.2.2; omega))
  rw [hc] at HB
  clear h h1 h3 h4 h5 h6 h7 h8 hc1 hm1 hc
  go_enter Try.func14, Try.ntmps14
  go_wp2_with fail
  refine HB.out.mono ?_
  rintro e w' ⟨rfl, rfl⟩
  clear HB
  go_wp2_with fail
  go_ret
  exact ⟨rfl, Below.refl _ _⟩
theorem rgadd_full (b : Nat) (W R : Nat → Prop) (L : List Int) (p : Int) (w : World) (h : RgAt w b W R L) (hc : L.contains p = false) (hf : 64 ≤ L.length) :
    Calls Try.prog 14 #[.pointer (some ⟨b, 0, none⟩), .int .u32 p] w fun e w' => e = .returned (.int .i64 5) ∧ Below w.heap.size w w' := by
  obtain ⟨h1, h3, h4, h5, v, h6, h7, h8⟩ := id h
  obtain ⟨a, c, rfl, hc1, hm1⟩ := h7.form
  have d0 : w.cell? ⟨b, 0, none⟩ = some (.slice a L.length c) := h6.cell 0
  have HB := Lib.hid (bsearch32_any _ L p w h7 h1.1 (by have := h1.2.2; omega))
  rw [hc] at HB
  have hge : (L.length : Int) ≥ 64 := by omega
  clear h h1 h3 h4 h5 h6 h7 h8 hc1 hm1 hc hf
  go_enter Try.func14, Try.ntmps14
  go_wp2_with fail
  refine HB.out.mono ?_
  rintro e w' ⟨rfl, rfl⟩
  clear HB
  go_wp2_with fail
  go_ret
  exact ⟨rfl, Below.refl _ _⟩
set_option maxHeartbeats 1000000 in
set_option maxRecDepth 100000 in
theorem rgadd_ok (b : Nat) (W R : Nat → Prop) (L : List Int) (p : Int) (w : World) (h : RgAt w b W R L) (bp : 0 ≤ p ∧ p ≤ 4294967295) (hc : L.contains p = false) (hf : L.length < 64) :
    Calls Try.prog 14 #[.pointer (some ⟨b, 0, none⟩), .int .u32 p] w fun e w' => e = .returned (.int .i64 0) ∧ GStep W R w w' b (lowR L p ++ p :: upR L p) := by
  obtain ⟨h1, h3, h4, h5, v, h6, h7, h8⟩ := id h
  obtain ⟨a, c, rfl, hc1, hm1⟩ := h7.form
  have d0 : w.cell? ⟨b, 0, none⟩ = some (.slice a L.length c) := h6.cell 0
  have HB := Lib.hid (bsearch32_any _ L p w h7 h1.1 (by have := h1.2.2; omega))
  rw [hc] at HB
  have hlt : ¬ ((L.length : Int) ≥ 64) := by omega
  have HP := Lib.hid h
  have H6 := Lib.hid h6
  have H7 := Lib.hid h7
  have HCAT := Lib.hid (add_cat h1.1 hc)
  have HOK := Lib.hid (show okR (lowR L p ++ p :: upR L p) by have := add_ok h1 bp; unfold addR at this; rw [hc, if_neg (by simp), if_neg (by omega)] at this; exact this)
  have HF := Lib.hid hf
  have hkl := low_len L p
  generalize (lowR L p).length = k at *
  have hcut1 := run_cut_to u32Elem32 a L.length c k (by omega)
  have hcut2 := run_cut_from u32Elem32 a L.length c k hkl hc1
  rw [cutA_zero] at hcut1
  have G1 : Hid (Rd (intE .u32) w (.slice a k c) (L.take k)) := Lib.hid (by
    have := h7.cutA (lo := 0) (hi := k) (Nat.zero_le _) (by omega)
    rw [cutA_zero] at this
    simpa using this)
  have G2 : Hid (Rd (intE .u32) w (.slice (cutA a c k 1) (L.length - k) (c - k)) (L.drop k)) := Lib.hid (by
    have := h7.cutA (lo := k) (hi := L.length) (by omega) (Nat.le_refl _)
    rw [List.take_length] at this
    exact this)
  have HBP := Lib.hid bp
  have hkc : (k : Int) ≤ c := by omega
  have hkl' : (k : Int) ≤ L.length := by omega
  clear h h1 h3 h4 h5 h6 h7 h8 hc hf bp
  go_enter Try.func14, Try.ntmps14
  go_wp2_with fail
  refine HB.out.mono ?_
  rintro e w' ⟨rfl, hw⟩
  obtain rfl := hw.symm
  clear HB
  go_upto_region 8 with fail
  refine Run.region_walkZ (S := fun z => z.cell? ⟨b, 0, none⟩ = some (.slice a L.length c) ∧ Below w.heap.size w z)
    oradd.rows8 oradd.plan8z 19 _ (l := ?steps4) (by kernel_rfl) (by kernel_rfl) (by kernel_rfl) (by kernel_rfl) rfl rfl ?written4 ⟨d0, (Below.refl _ _).drew⟩ ?onward4
  case written4 =>
    simp only [oradd.plan8z, Run.stepsOf, Run.stepOf, Run.guardOf, List.getElem?_toArray, List.getElem?_cons_zero, List.getElem?_cons_succ, Option.map_some, Option.map_none, Option.bind_some, Option.toList_some, List.map_cons, List.map_nil, List.cons_append, List.nil_append, List.append_eq]
    rfl
  repeat ((first
    | (refine Run.takes (v := ?_) ?_ ?_; rotate_left; (· intro w' hS'; go_simp; (try with_reducible rfl)))
    | (refine Run.takesG (v := ?_) ?_ ?_ ?_; rotate_left; (· simp only [List.getElem?_cons_zero, List.getElem?_cons_succ]); (· intro w' hS'; go_simp; (try with_reducible rfl)))
    | (refine Run.skipsT ?_ ?_; (· simp only [List.getElem?_cons_zero, List.getElem?_cons_succ]))
    | (refine Run.skipsF ?_ ?_; (· simp only [List.getElem?_cons_zero, List.getElem?_cons_succ]))
    | (refine Run.skipsU ?_ ?_; (· simp only [List.getElem?_cons_zero, List.getElem?_cons_succ]))
    | (refine Run.passT ?_ ?_; (· simp only [List.getElem?_cons_zero, List.getElem?_cons_succ]))
    | (refine Run.passF ?_ ?_; (· simp only [List.getElem?_cons_zero, List.getElem?_cons_succ]))
    | (refine Run.passU ?_ ?_; (· simp only [List.getElem?_cons_zero, List.getElem?_cons_succ]))
    | fail); simp only [Act.put, List.setIfInBounds_toArray, List.set_cons_zero, List.set_cons_succ])
  refine Run.runs (Run.one (fun hS K hK => ?_))
  go_simp
  have hY1 : Below w.heap.size w (w.alloc (.cells #[.int .u32 p] 24)).drew := (more (Below.refl _ _) _).drew
  have g3 : Rd (intE .u32) (w.alloc (.cells #[.int .u32 p] 24)).drew (.slice (some ⟨w.heap.size, 0, none⟩) 1 1) [p] := (Rd.fresh (E := intE .u32) w p #[.int .u32 p] 24 w.heap.size rfl rfl).keep (Below.refl _ _).drew
  refine hK.out _ _ ⟨kc hY1 d0, hY1⟩ ?_
  clear hK K hS
  generalize (w.alloc (.cells #[.int .u32 p] 24)).drew = y at *
  obtain ⟨n0, hn0⟩ : ∃ n, n = w.heap.size := ⟨_, rfl⟩
  have HG3 := Lib.hid g3
  have d1 := kc hY1 d0
  have HY1 := Lib.hid hY1
  clear g3 hY1
  refine Run.runs (Run.one (fun hS K hK => ?_))
  go_simp
  have hY2 : Below w.heap.size w (y.alloc (.cells #[.slice a k c, .slice (some ⟨w.heap.size, 0, none⟩) 1 1, .slice (cutA a c k 1) (L.length - k) (c - k)] 22)) := more HY1.out _
  have hk2 := more (Below.refl y.heap.size y) (.cells #[.slice a k c, .slice (some ⟨w.heap.size, 0, none⟩) 1 1, .slice (cutA a c k 1) (L.length - k) (c - k)] 22)
  have hbq := Blk.new y 22 #[.slice a k c, .slice (some ⟨w.heap.size, 0, none⟩) 1 1, .slice (cutA a c k 1) (L.length - k) (c - k)]
  have hsl : USlices32 (y.alloc (.cells #[.slice a k c, .slice (some ⟨w.heap.size, 0, none⟩) 1 1, .slice (cutA a c k 1) (L.length - k) (c - k)] 22)) y.heap.size [.slice a k c, .slice (some ⟨w.heap.size, 0, none⟩) 1 1, .slice (cutA a c k 1) (L.length - k) (c - k)] [L.take k, [p], L.drop k] := by
    refine ⟨rfl, fun i hi => ?_⟩
    have hi3 : i = 0 ∨ i = 1 ∨ i = 2 := by simp at hi; omega
    rcases hi3 with rfl | rfl | rfl
    · exact ⟨hbq.cell 0, (G1.out.keep (HY1.out)).keep hk2⟩
    · exact ⟨hbq.cell 1, HG3.out.keep hk2⟩
    · exact ⟨hbq.cell 2, (G2.out.keep (HY1.out)).keep hk2⟩
  have HSL := Lib.hid hsl
  have d2 := kc hk2 d1
  refine hK.out _ _ ⟨d2, hY2⟩ ?_
  clear hK K hS hsl hbq hk2 d1
  generalize y.alloc (.cells #[.slice a k c, .slice (some ⟨w.heap.size, 0, none⟩) 1 1, .slice (cutA a c k 1) (L.length - k) (c - k)] 22) = Y at *
  generalize y.heap.size = ny at *
  have HY2 := Lib.hid hY2
  clear hY2 hn0
  refine Run.runs (Run.callF 32 (by kernel_rfl) (fun hS => uconcat32_any ny 3 _ _ Y HSL.out rfl (by omega) (by have := HF.out; simp only [utot32, List.map_cons, List.map_nil, List.sum_cons, List.sum_nil, List.length_take, List.length_drop, List.length_cons, List.length_nil]; omega)) rfl ?_)
  rintro hS e z ⟨v8, rfl, hr8, hk8⟩
  have hz := nest HY2.out hk8
  refine ⟨_, rfl, ⟨kc hk8 hS.1, hz⟩, ?_⟩
  have hr8 := hr8.mono HY2.out.size
  rw [HCAT.out] at hr8
  clear hS HSL
  simp only [Act.put, List.setIfInBounds_toArray, List.set_cons_zero, List.set_cons_succ]
  repeat ((first
    | (refine Run.takes (v := ?_) ?_ ?_; rotate_left; (· intro w' hS'; go_simp; (try with_reducible rfl)))
    | (refine Run.takesG (v := ?_) ?_ ?_ ?_; rotate_left; (· simp only [List.getElem?_cons_zero, List.getElem?_cons_succ]); (· intro w' hS'; go_simp; (try with_reducible rfl)))
    | (refine Run.skipsT ?_ ?_; (· simp only [List.getElem?_cons_zero, List.getElem?_cons_succ]))
    | (refine Run.skipsF ?_ ?_; (· simp only [List.getElem?_cons_zero, List.getElem?_cons_succ]))
    | (refine Run.skipsU ?_ ?_; (· simp only [List.getElem?_cons_zero, List.getElem?_cons_succ]))
    | (refine Run.passT ?_ ?_; (· simp only [List.getElem?_cons_zero, List.getElem?_cons_succ]))
    | (refine Run.passF ?_ ?_; (· simp only [List.getElem?_cons_zero, List.getElem?_cons_succ]))
    | (refine Run.passU ?_ ?_; (· simp only [List.getElem?_cons_zero, List.getElem?_cons_succ]))
    | fail); simp only [Act.put, List.setIfInBounds_toArray, List.set_cons_zero, List.set_cons_succ])
  have hbz := H6.out.keep hz
  have q1' := hbz.frozen 0
  have q2 : z.cell? ⟨b, 0, none⟩ = some (.slice a L.length c) := hbz.cell 0
  obtain ⟨Q, hQ⟩ : ∃ Q, Q = lowR L p ++ p :: upR L p := ⟨_, rfl⟩
  rw [← hQ] at hr8 HOK
  have HQ := Lib.hid hQ
  clear hQ
  have HR8 := Lib.hid hr8
  have HZ := Lib.hid hz
  obtain ⟨a8, c8, rfl, _, _⟩ := hr8.rd.form
  clear hr8 hz hbz hk8
  refine Run.endsZ (fun hS K hK => ?_)
  go_simp
  refine hK.out _ _ (NoPanic.normal ?_)
  clear hK K hS
  have HST := Lib.hid (rg_stored HP.out HZ.out HR8.out HOK.out)
  clear q1' q2 d0 d2 hcut1 hcut2
  generalize z.setCell ⟨b, 0, none⟩ (.slice a8 Q.length c8) = V at *
  go_wp2_with fail
  go_ret
  rw [← HQ.out]
  exact ⟨rfl, HST.out⟩
theorem rgadd_any (b : Nat) (W R : Nat → Prop) (L : List Int) (p : Int) (w : World) (h : RgAt w b W R L) (bp : 0 ≤ p ∧ p ≤ 4294967295) :
    Calls Try.prog 14 #[.pointer (some ⟨b, 0, none⟩), .int .u32 p] w fun e w' => e = .returned (.int .i64 (addR L p).2) ∧ GStep W R w w' b (addR L p).1 := by
  cases hc : L.contains p with
  | true =>
    have e : addR L p = (L, 7) := by unfold addR; rw [hc]; rfl
    rw [e]
    exact (rgadd_there b W R L p w h hc).mono fun e w' ⟨he, hk⟩ => ⟨he, GStep.same h hk⟩
  | false =>
    by_cases hf : 64 ≤ L.length
    · have e : addR L p = (L, 5) := by unfold addR; rw [hc, if_neg (by simp), if_pos hf]
      rw [e]
      exact (rgadd_full b W R L p w h hc hf).mono fun e w' ⟨he, hk⟩ => ⟨he, GStep.same h hk⟩
    · have e : addR L p = (lowR L p ++ p :: upR L p, 0) := by unfold addR; rw [hc, if_neg (by simp), if_neg hf]
      rw [e]
      exact rgadd_ok b W R L p w h bp hc (by omega)
theorem rgdrop_none (b : Nat) (W R : Nat → Prop) (L : List Int) (p : Int) (w : World) (h : RgAt w b W R L) (hc : L.contains p = false) :
    Calls Try.prog 12 #[.pointer (some ⟨b, 0, none⟩), .int .u32 p] w fun e w' => e = .returned (.int .i64 6) ∧ Below w.heap.size w w' := by
  obtain ⟨h1, h3, h4, h5, v, h6, h7, h8⟩ := id h
  obtain ⟨a, c, rfl, hc1, hm1⟩ := h7.form
  have d0 : w.cell? ⟨b, 0, none⟩ = some (.slice a L.length c) := h6.cell 0
  have HB := Lib.hid (bsearch32_any _ L p w h7 h1.1 (by have := h1.2.2; omega))
  rw [hc] at HB
  clear h h1 h3 h4 h5 h6 h7 h8 hc1 hm1 hc
  go_enter Try.func12, Try.ntmps12
  go_wp2_with fail
  refine HB.out.mono ?_
  rintro e w' ⟨rfl, rfl⟩
  clear HB
  go_wp2_with fail
  go_ret
  exact ⟨rfl, Below.refl _ _⟩
set_option maxHeartbeats 1000000 in
set_option maxRecDepth 100000 in
theorem rgdrop_ok (b : Nat) (W R : Nat → Prop) (L : List Int) (p : Int) (w : World) (h : RgAt w b W R L) (hc : L.contains p = true) :
    Calls Try.prog 12 #[.pointer (some ⟨b, 0, none⟩), .int .u32 p] w fun e w' => e = .returned (.int .i64 0) ∧ GStep W R w w' b (L.filter (fun x => !(x == p))) := by
  obtain ⟨h1, h3, h4, h5, v, h6, h7, h8⟩ := id h
  obtain ⟨a, c, rfl, hc1, hm1⟩ := h7.form
  have d0 : w.cell? ⟨b, 0, none⟩ = some (.slice a L.length c) := h6.cell 0
  have HB := Lib.hid (bsearch32_any _ L p w h7 h1.1 (by have := h1.2.2; omega))
  rw [hc] at HB
  have HP := Lib.hid h
  have H6 := Lib.hid h6
  have H7 := Lib.hid h7
  have HCAT := Lib.hid (drop_cat h1.1 hc)
  have HOK := Lib.hid (show okR (L.filter (fun x => !(x == p))) by have := drop_ok h1 p; unfold dropR at this; rw [hc] at this; exact this)
  have HF := Lib.hid h1.2.2
  have hkl : (lowR L p).length < L.length := by
    have := low_there h1.1 p
    rw [hc] at this
    have := of_decide_eq_true this.symm
    exact this.1
  generalize (lowR L p).length = k at *
  have hcut1 := run_cut_to u32Elem32 a L.length c k (by omega)
  have hcut2 := run_cut_from u32Elem32 a L.length c (k + 1) (by omega) hc1
  rw [cutA_zero] at hcut1
  have G1 : Hid (Rd (intE .u32) w (.slice a k c) (L.take k)) := Lib.hid (by
    have := h7.cutA (lo := 0) (hi := k) (Nat.zero_le _) (by omega)
    rw [cutA_zero] at this
    simpa using this)
  have G2 : Hid (Rd (intE .u32) w (.slice (cutA a c (k + 1) 1) (L.length - (k + 1)) (c - (k + 1))) (L.drop (k + 1))) := Lib.hid (by
    have := h7.cutA (lo := k + 1) (hi := L.length) (by omega) (Nat.le_refl _)
    rw [List.take_length] at this
    exact this)
  have hn63 : L.length ≤ 64 := h1.2.2
  have e1 : ((k + 1 : Nat) : Int) = IntKind.i64.wrap ((k : Int) + 1) := by
    rw [IntWalk.i64_in _ (by omega)]
    omega
  rw [e1] at hcut2
  clear e1
  have hkc : (k : Int) ≤ c := by omega
  have hkl' : (k : Int) + 1 ≤ L.length := by omega
  clear h h1 h3 h4 h5 h6 h7 h8 hc
  go_enter Try.func12, Try.ntmps12
  go_wp2_with fail
  refine HB.out.mono ?_
  rintro e w' ⟨rfl, hw⟩
  obtain rfl := hw.symm
  clear HB
  go_upto_region 6 with fail
  refine Run.region_walkZ (S := fun z => z.cell? ⟨b, 0, none⟩ = some (.slice a L.length c) ∧ Below w.heap.size w z)
    ordrop.rows6 ordrop.plan6z 18 _ (l := ?steps6) (by kernel_rfl) (by kernel_rfl) (by kernel_rfl) (by kernel_rfl) rfl rfl ?written6 ⟨d0, (Below.refl _ _).drew⟩ ?onward6
  case written6 =>
    simp only [ordrop.plan6z, Run.stepsOf, Run.stepOf, Run.guardOf, List.getElem?_toArray, List.getElem?_cons_zero, List.getElem?_cons_succ, Option.map_some, Option.map_none, Option.bind_some, Option.toList_some, List.map_cons, List.map_nil, List.cons_append, List.nil_append, List.append_eq]
    rfl
  repeat ((first
    | (refine Run.takes (v := ?_) ?_ ?_; rotate_left; (· intro w' hS'; go_simp; (try with_reducible rfl)))
    | (refine Run.takesG (v := ?_) ?_ ?_ ?_; rotate_left; (· simp only [List.getElem?_cons_zero, List.getElem?_cons_succ]); (· intro w' hS'; go_simp; (try with_reducible rfl)))
    | (refine Run.skipsT ?_ ?_; (· simp only [List.getElem?_cons_zero, List.getElem?_cons_succ]))
    | (refine Run.skipsF ?_ ?_; (· simp only [List.getElem?_cons_zero, List.getElem?_cons_succ]))
    | (refine Run.skipsU ?_ ?_; (· simp only [List.getElem?_cons_zero, List.getElem?_cons_succ]))
    | (refine Run.passT ?_ ?_; (· simp only [List.getElem?_cons_zero, List.getElem?_cons_succ]))
    | (refine Run.passF ?_ ?_; (· simp only [List.getElem?_cons_zero, List.getElem?_cons_succ]))
    | (refine Run.passU ?_ ?_; (· simp only [List.getElem?_cons_zero, List.getElem?_cons_succ]))
    | fail); simp only [Act.put, List.setIfInBounds_toArray, List.set_cons_zero, List.set_cons_succ])
  refine Run.runs (Run.one (fun hS K hK => ?_))
  go_simp
  have hY2 : Below w.heap.size w (w.alloc (.cells #[.slice a k c, .slice (cutA a c (k + 1) 1) (L.length - (k + 1)) (c - (k + 1))] 22)).drew := (more (Below.refl _ _) _).drew
  have hbq : Blk (w.alloc (.cells #[.slice a k c, .slice (cutA a c (k + 1) 1) (L.length - (k + 1)) (c - (k + 1))] 22)).drew w.heap.size 22 #[.slice a k c, .slice (cutA a c (k + 1) 1) (L.length - (k + 1)) (c - (k + 1))] := Blk.new w _ _
  have hsl : USlices32 (w.alloc (.cells #[.slice a k c, .slice (cutA a c (k + 1) 1) (L.length - (k + 1)) (c - (k + 1))] 22)).drew w.heap.size [.slice a k c, .slice (cutA a c (k + 1) 1) (L.length - (k + 1)) (c - (k + 1))] [L.take k, L.drop (k + 1)] := by
    refine ⟨rfl, fun i hi => ?_⟩
    have hi3 : i = 0 ∨ i = 1 := by simp at hi; omega
    rcases hi3 with rfl | rfl
    · exact ⟨hbq.cell 0, G1.out.keep hY2⟩
    · exact ⟨hbq.cell 1, G2.out.keep hY2⟩
  have HSL := Lib.hid hsl
  have d2 := kc hY2 d0
  refine hK.out _ _ ⟨d2, hY2⟩ ?_
  clear hK K hS hsl hbq
  generalize (w.alloc (.cells #[.slice a k c, .slice (cutA a c (k + 1) 1) (L.length - (k + 1)) (c - (k + 1))] 22)).drew = Y at *
  have HY2 := Lib.hid hY2
  clear hY2
  refine Run.runs (Run.callF 32 (by kernel_rfl) (fun hS => uconcat32_any w.heap.size 2 _ _ Y HSL.out rfl (by omega) (by have := HF.out; simp only [utot32, List.map_cons, List.map_nil, List.sum_cons, List.sum_nil, List.length_take, List.length_drop, List.length_cons, List.length_nil]; omega)) rfl ?_)
  rintro hS e z ⟨v8, rfl, hr8, hk8⟩
  have hz := nest HY2.out hk8
  refine ⟨_, rfl, ⟨kc hk8 hS.1, hz⟩, ?_⟩
  have hr8 := hr8.mono HY2.out.size
  rw [HCAT.out] at hr8
  clear hS HSL
  simp only [Act.put, List.setIfInBounds_toArray, List.set_cons_zero, List.set_cons_succ]
  repeat ((first
    | (refine Run.takes (v := ?_) ?_ ?_; rotate_left; (· intro w' hS'; go_simp; (try with_reducible rfl)))
    | (refine Run.takesG (v := ?_) ?_ ?_ ?_; rotate_left; (· simp only [List.getElem?_cons_zero, List.getElem?_cons_succ]); (· intro w' hS'; go_simp; (try with_reducible rfl)))
    | (refine Run.skipsT ?_ ?_; (· simp only [List.getElem?_cons_zero, List.getElem?_cons_succ]))
    | (refine Run.skipsF ?_ ?_; (· simp only [List.getElem?_cons_zero, List.getElem?_cons_succ]))
    | (refine Run.skipsU ?_ ?_; (· simp only [List.getElem?_cons_zero, List.getElem?_cons_succ]))
    | (refine Run.passT ?_ ?_; (· simp only [List.getElem?_cons_zero, List.getElem?_cons_succ]))
    | (refine Run.passF ?_ ?_; (· simp only [List.getElem?_cons_zero, List.getElem?_cons_succ]))
    | (refine Run.passU ?_ ?_; (· simp only [List.getElem?_cons_zero, List.getElem?_cons_succ]))
    | fail); simp only [Act.put, List.setIfInBounds_toArray, List.set_cons_zero, List.set_cons_succ])
  have hbz := H6.out.keep hz
  have q1' := hbz.frozen 0
  have q2 : z.cell? ⟨b, 0, none⟩ = some (.slice a L.length c) := hbz.cell 0
  obtain ⟨Q, hQ⟩ : ∃ Q, Q = L.filter (fun x => !(x == p)) := ⟨_, rfl⟩
  rw [← hQ] at hr8 HOK
  have HQ := Lib.hid hQ
  clear hQ
  have HR8 := Lib.hid hr8
  have HZ := Lib.hid hz
  obtain ⟨a8, c8, rfl, _, _⟩ := hr8.rd.form
  clear hr8 hz hbz hk8
  refine Run.endsZ (fun hS K hK => ?_)
  go_simp
  refine hK.out _ _ (NoPanic.normal ?_)
  clear hK K hS
  have HST := Lib.hid (rg_stored HP.out HZ.out HR8.out HOK.out)
  clear q1' q2 d0 d2 hcut1 hcut2
  generalize z.setCell ⟨b, 0, none⟩ (.slice a8 Q.length c8) = V at *
  go_wp2_with fail
  go_ret
  rw [← HQ.out]
  exact ⟨rfl, HST.out⟩
theorem rgdrop_any (b : Nat) (W R : Nat → Prop) (L : List Int) (p : Int) (w : World) (h : RgAt w b W R L) (bp : 0 ≤ p ∧ p ≤ 4294967295) :
    Calls Try.prog 12 #[.pointer (some ⟨b, 0, none⟩), .int .u32 p] w fun e w' => e = .returned (.int .i64 (dropR L p).2) ∧ GStep W R w w' b (dropR L p).1 := by
  cases hc : L.contains p with
  | true =>
    have e : dropR L p = (L.filter (fun x => !(x == p)), 0) := by unfold dropR; rw [hc]; rfl
    rw [e]
    exact rgdrop_ok b W R L p w h hc
  | false =>
    have e : dropR L p = (L, 6) := by unfold dropR; rw [hc]; rfl
    rw [e]
    exact (rgdrop_none b W R L p w h hc).mono fun e w' ⟨he, hk⟩ => ⟨he, GStep.same h hk⟩
theorem idx32_none (fv : Value) (w : World) : Calls Try.prog 51 #[.slice none 0 0, fv] w fun e w' => e = .returned (.int .i64 (-1)) ∧ w' = w := by
  go_enter Try.func51, Try.ntmps51
  go_wp2_with fail
  refine wp_loop_rounds 1 ?_
  rw [rounds_succ]
  go_wp2_with fail
  go_ret
  exact ⟨rfl, rfl⟩
theorem del32_none (fv : Value) (w : World) : Calls Try.prog 41 #[.slice none 0 0, fv] w fun e w' => e = .returned (.slice none 0 0) ∧ w' = w := by
  go_enter Try.func41, Try.ntmps41
  go_wp2_with (go_at_call 51; refine (idx32_none _ _).mono ?_; rintro e w' ⟨rfl, rfl⟩)
  go_ret
  exact ⟨rfl, rfl⟩
theorem sort32_none (fv : Value) (w : World) : Calls Try.prog 43 #[.slice none 0 0, fv] w fun e w' => e = .returned (.tuple #[]) ∧ w' = w :=
  AnyF.slices_SortFunc_none { laySortU with } none 0 fv w
/-- what DeleteFunc and SortFunc leave of the points, whatever slice they came in -/
theorem rgrest_any (gp N : Nat) (p : Int) (L : List Int) (v : Value) (w : World) (h : Row (intE .u32) 24 N w v L) (hgp : w.cell? ⟨gp, 0, none⟩ = some (.int .u32 p)) (hlt : gp < N) (hN : N ≤ w.heap.size) (hok : okR L) :
    Calls Try.prog 41 #[v, .func (.func 42) #[] #[.pointer (some ⟨gp, 0, none⟩)]] w fun e w' =>
      ∃ a c, e = .returned (.slice a (L.filter fun x => !(x == p)).length c) ∧ c ≤ maxLen ∧ (L.filter fun x => !(x == p)).length ≤ c ∧ Below N w w' ∧
        ∀ z gq, Below w'.heap.size w' z → z.cell? ⟨gq, 0, none⟩ = some (.int .u32 p) → w'.heap.size ≤ gq → (0 ≤ p ∧ p ≤ 4294967295) →
          Calls Try.prog 43 #[.slice a (L.filter fun x => !(x == p)).length c, .func (.func 48) #[] #[.pointer (some ⟨gq, 0, none⟩)]] z fun e w'' =>
            e = .returned (.tuple #[]) ∧ Rd (intE .u32) w'' (.slice a (othR L p).length c) (othR L p) ∧ Below N w w'' := by
  have hlen : (L.filter fun x => !(x == p)).length = (othR L p).length := (oth_perm hok p).length_eq
  rcases h.form with ⟨rfl, rfl⟩ | ⟨g, c, rfl, hg, hg2, hc, hc2⟩
  · refine (del32_none _ w).mono ?_
    rintro e w' ⟨rfl, rfl⟩
    refine ⟨none, 0, rfl, Nat.zero_le _, Nat.le_refl _, Below.refl _ _, fun z gq hz _ _ _ => ?_⟩
    refine (sort32_none _ z).mono ?_
    rintro e w'' ⟨rfl, rfl⟩
    exact ⟨rfl, Rd.nil _ _ (Nat.zero_le _), hz.mono hN⟩
  · refine (rgdel_any gp g c N p L w h hgp (by omega) hg2 hc (by have := hok.2.2; omega)).mono ?_
    rintro e w' ⟨rfl, hH, ho⟩
    have hfl : (L.filter fun x => !(x == p)).length ≤ L.length := List.length_filter_le _ _
    refine ⟨some ⟨g, 0, none⟩, c, rfl, hc2, by omega, ho.below hg (by omega), fun z gq hz hq hqn bp => ?_⟩
    have hg3 : g < w'.heap.size := Nat.lt_of_lt_of_le hg2 ho.size
    have hH2 : Go.Sort.Holds (Value.int .u32) z g 0 (L.filter fun x => !(x == p)).toArray := fun j hj => by
      obtain ⟨h1, h2⟩ := hH j hj
      exact ⟨kc hz h1, by rw [show z.frozen? ⟨g, 0 + j, none⟩ = w'.frozen? ⟨g, 0 + j, none⟩ by unfold World.frozen?; rw [hz.block g hg3]]; exact h2⟩
    refine (rgsort_any gq g c p _ z hH2 hq (by omega) (Nat.lt_of_lt_of_le hg3 hz.size) (by omega) hc2 (by have := hok.2.2; omega) (fun x hx => hok.2.1 x (List.mem_filter.1 hx).1) ((hok.1.imp (fun hlt e => by omega)).sublist List.filter_sublist)).mono ?_
    rintro e w'' ⟨rfl, l', hp, hs, hr, ho2⟩
    have e1 := oth_is hok p bp hp hs
    subst e1
    rw [hlen] at hr
    have hb := ho.below hg hN
    exact ⟨rfl, hr, (hb.trans (hz.mono (Nat.le_trans hN ho.size))).trans (ho2.below hg (Nat.le_trans hN (Nat.le_trans ho.size hz.size)))⟩
theorem rgpoints_row_nil (w : World) : Calls Try.prog 24 #[.pointer none] w fun e w' => e = .returned (.slice none 0 0) ∧ w' = w := by
  go_enter Try.func24, Try.ntmps24
  go_wp2_with fail
  go_ret
  exact ⟨rfl, rfl⟩
set_option maxRecDepth 100000 in
theorem rgheirs_any (b : Nat) (W R : Nat → Prop) (L : List Int) (p n : Int) (w : World) (h : RgAt w b W R L) (bp : 0 ≤ p ∧ p ≤ 4294967295) (bn : -9223372036854775808 ≤ n ∧ n ≤ 9223372036854775807) :
    Calls Try.prog 25 #[.pointer (some ⟨b, 0, none⟩), .int .u32 p, .int .i64 n] w fun e w' => ∃ v, e = .returned v ∧ Rd (intE .u32) w' v (heirsR L p n) ∧ Below w.heap.size w w' := by
  have hk := more (Below.refl w.heap.size w) (.cells #[.int .u32 p] 24)
  have HH := Lib.hid (h.turned (S := fun _ => False) (Turned.of_below hk) (fun _ _ h => h))
  have HK := Lib.hid hk
  have HP := Lib.hid (Blk.new w 24 #[.int .u32 p])
  have HOK := Lib.hid h.ok
  have HS1 := Lib.hid (size_alloc w (.cells #[.int .u32 p] 24))
  clear h hk
  go_enter Try.func25, Try.ntmps25
  go_upto_region 1 with fail
  generalize w.alloc (.cells #[.int .u32 p] 24) = y at *
  obtain ⟨gp, hgp⟩ : ∃ g, g = w.heap.size := ⟨_, rfl⟩
  have HGP := Lib.hid hgp
  have dp : y.cell? ⟨gp, 0, none⟩ = some (.int .u32 p) := by rw [hgp]; exact HP.out.cell 0
  rw [← hgp]
  clear hgp HP
  go_wp2_with fail
  refine (rgpoints_row b W R L y HH.out).mono ?_
  rintro e z ⟨v, rfl, hr, hk⟩
  have hgl : gp < y.heap.size := World.block_lt_of_cell? y _ dp
  have dp2 := kc hk dp
  have HM := Lib.hid (rgrest_any gp y.heap.size p L v z hr dp2 hgl hk.size HOK.out)
  have HK2 := Lib.hid (HK.out.trans (hk.mono HK.out.size))
  have HYS := Lib.hid (HK.out.size)
  obtain ⟨av, cv, rfl, _, _⟩ := hr.rd.form
  have HKY := Lib.hid hk
  clear hr hk
  go_wp2_with fail
  refine HM.out.mono ?_
  rintro e u ⟨aq, cq, rfl, hcq, hlq, hb, hsort⟩
  have dp3 : u.cell? ⟨gp, 0, none⟩ = some (.int .u32 p) := by rw [hb.cell (p := ⟨gp, 0, none⟩) hgl]; exact dp2
  have HSO := Lib.hid hsort
  have hM : (L.filter fun x => !(x == p)).length = (othR L p).length := (oth_perm HOK.out p).length_eq
  rw [hM] at HSO hlq ⊢
  generalize hMM : (othR L p).length = M at *
  have HMM := Lib.hid hMM
  have HCQ := Lib.hid hcq
  have hcq63 : cq ≤ 9223372036854775807 := hcq
  clear hsort hM hb HM hMM hcq dp dp2
  go_wp2_with fail
  refine (rgbehind_any p u).mono ?_
  rintro e u2 ⟨rfl, rfl⟩
  have hu := more (Below.refl u.heap.size u) (.cells #[.int .u32 p] 24)
  have HS2 := Lib.hid (HSO.out _ u.heap.size hu ((Blk.new u 24 #[.int .u32 p]).cell 0) (Nat.le_refl _) bp)
  generalize u.alloc (.cells #[.int .u32 p] 24) = u2 at *
  clear HSO hu dp3
  go_wp2_with fail
  refine HS2.out.mono ?_
  rintro e x ⟨rfl, hr, hb⟩
  have HR := Lib.hid hr
  have HBX := Lib.hid hb
  clear hr hb HS2
  have HNN := Lib.hid (heirs_nat (L := L) (p := p) (n := n))
  rw [HMM.out] at HNN
  obtain ⟨m, hm⟩ : ∃ m, m = (min (max n 0) (M : Int)).toNat := ⟨_, rfl⟩
  rw [← hm] at HNN
  have hmM : m ≤ M := by omega
  have hcut := run_cut_to u32Elem32 aq M cq m (by omega)
  rw [cutA_zero] at hcut
  have HRD := Lib.hid (show Rd (intE .u32) x (.slice aq m cq) ((othR L p).take m) by
    have := HR.out.cutA (lo := 0) (hi := m) (Nat.zero_le _) (by rw [HMM.out]; exact hmM)
    rw [cutA_zero] at this
    simpa using this)
  have HMD := Lib.hid hm
  clear hm hmM hcut
  go_wp2_with fail
  go_ret
  refine ⟨_, rfl, ?_, ?_⟩
  · rw [HNN.out, ← HMD.out]
    exact HRD.out
  · exact HK2.out.trans (HBX.out.mono HYS.out)
theorem rgheirs_nil (p n : Int) (w : World) : Calls Try.prog 25 #[.pointer none, .int .u32 p, .int .i64 n] w fun e w' => ∃ a c, e = .returned (.slice a 0 c) ∧ c ≤ maxLen ∧ Below w.heap.size w w' := by
  have HK := Lib.hid (more (Below.refl w.heap.size w) (.cells #[.int .u32 p] 24))
  have HP := Lib.hid (Blk.new w 24 #[.int .u32 p])
  go_enter Try.func25, Try.ntmps25
  go_upto_region 1 with fail
  generalize w.alloc (.cells #[.int .u32 p] 24) = y at *
  obtain ⟨gp, hgp⟩ : ∃ g, g = w.heap.size := ⟨_, rfl⟩
  have HGP := Lib.hid hgp
  have dp : y.cell? ⟨gp, 0, none⟩ = some (.int .u32 p) := by rw [hgp]; exact HP.out.cell 0
  rw [← hgp]
  clear hgp HP
  go_wp2_with fail
  refine (rgpoints_row_nil y).mono ?_
  rintro e z ⟨rfl, rfl⟩
  go_wp2_with fail
  refine (del32_none _ _).mono ?_
  rintro e z ⟨rfl, rfl⟩
  go_wp2_with fail
  refine (rgbehind_any p _).mono ?_
  rintro e u ⟨rfl, rfl⟩
  go_wp2_with fail
  refine (sort32_none _ _).mono ?_
  rintro e x ⟨rfl, rfl⟩
  clear dp
  have hmm : (min (max n 0) (0 : Int)).toNat = 0 := by omega
  have hcut := run_cut_to u32Elem32 none 0 0 0 (Nat.le_refl _)
  rw [cutA_zero] at hcut
  have hmm2 : min (max n 0) (0 : Int) = 0 := by omega
  go_wp2_with fail
  go_ret
  exact ⟨none, 0, rfl, Nat.zero_le _, HK.out.trans ((more (Below.refl _ _) _).mono HK.out.size)⟩
end Go.Proofs.Ytpgljdngbiicmaa
