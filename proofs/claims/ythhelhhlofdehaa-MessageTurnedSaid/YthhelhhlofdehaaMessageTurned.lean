/- Walk of the law MessageTurned. -/
import Derived.Test.YthhelhhlofdehaaMsgLaw
import Derived.Laws.Bits64
set_option maxRecDepth 4000
namespace Go.Proofs.Ythhelhhlofdehaa
open Go.RowKit Mem
set_option linter.unusedSimpArgs false
set_option linter.unusedVariables false
attribute [local irreducible] Go.Calls

theorem xor_u8 {x y : Int} (hx : 0 ≤ x ∧ x ≤ 255) (hy : 0 < y ∧ y ≤ 255) : (0 ≤ bits .xor .u8 x y ∧ bits .xor .u8 x y ≤ 255) ∧ bits .xor .u8 x y ≠ x := by
  obtain ⟨a, rfl⟩ := Int.eq_ofNat_of_zero_le hx.1
  obtain ⟨b, rfl⟩ := Int.eq_ofNat_of_zero_le (Int.le_of_lt hy.1)
  have hlt : a ^^^ b < 2 ^ 8 := Nat.xor_lt_two_pow (by omega) (by omega)
  have h1 : (BitVec.ofInt 8 (a : Int)).toNat = a := by
    rw [BitVec.ofInt_natCast, BitVec.toNat_ofNat]; exact Nat.mod_eq_of_lt (by omega)
  have h2 : (BitVec.ofInt 8 (b : Int)).toNat = b := by
    rw [BitVec.ofInt_natCast, BitVec.toNat_ofNat]; exact Nat.mod_eq_of_lt (by omega)
  have e : bits .xor .u8 (a : Int) (b : Int) = ((a ^^^ b : Nat) : Int) := by
    show IntKind.u8.wrap (((BitVec.ofInt 8 (a : Int)) ^^^ (BitVec.ofInt 8 (b : Int))).toNat : Int) = _
    rw [BitVec.toNat_xor, h1, h2]
    exact IntWalk.u8_in _ (by omega)
  rw [e]
  refine ⟨by omega, fun h => ?_⟩
  have h3 : a ^^^ b = a := by omega
  have h4 : a ^^^ (a ^^^ b) = b := by rw [← Nat.xor_assoc, Nat.xor_self, Nat.zero_xor]
  rw [h3, Nat.xor_self] at h4
  omega
theorem flat_int (k : IntKind) (l : List Int) : (intE k).flat l = l.map (fun x => .int k x) := by
  induction l with
  | nil => rfl
  | cons x l ih => rw [Enc.flat_cons, ih]; rfl
theorem Row.putI {k : IntKind} {T : TypeId} {B : Nat} {w : World} {g n c : Nat} {l : List Int} (h : Row (intE k) T B w (.slice (some ⟨g, 0, none⟩) n c) l) (hn : n = l.length) (i : Nat) (x : Int) :
    Row (intE k) T B (w.setCell ⟨g, i, none⟩ (.int k x)) (.slice (some ⟨g, 0, none⟩) n c) (l.set i x) := by
  subst hn
  have h1 : w.ownsRow B T 1 (.slice (some ⟨g, 0, none⟩) l.length c) l.length ((intE k).flat l) := h
  have h2 := (World.ownsRow.stored h1 i (.int k x)).1
  have e : ((intE k).flat l).set i (.int k x) = (intE k).flat (l.set i x) := by rw [flat_int, flat_int, List.map_set]
  unfold Row
  rw [List.length_set, ← e]
  exact h2
theorem Row.frozenI {k : IntKind} {T : TypeId} {B : Nat} {w : World} {g n c : Nat} {l : List Int} (h : Row (intE k) T B w (.slice (some ⟨g, 0, none⟩) n c) l) (hn : n = l.length) (j : Nat) : w.frozen? ⟨g, j, none⟩ = false := by
  subst hn
  exact World.ownsRow.frozenAt h j
theorem Row.head {k : IntKind} {T : TypeId} {B : Nat} {w : World} {v : Value} {l : List Int} (h : Row (intE k) T B w v l) (hl : 0 < l.length) : ∃ g c, v = .slice (some ⟨g, 0, none⟩) l.length c ∧ l.length ≤ c ∧ c ≤ maxLen ∧ B ≤ g ∧ g < w.heap.size := by
  rcases h.2 with ⟨hv, hn⟩ | ⟨g, cap, cur, hv, hg, hc, h1, h2, h3, h4⟩
  · omega
  · refine ⟨g, cap, hv, h1, h2, ?_⟩
    exact h.block g (by rw [hv]; rfl)
theorem index_in (x : Int) (n : Nat) (hn : 0 < n) : ∃ k : Nat, k < n ∧ (IntKind.u64.wrap x).tmod (n : Int) = (k : Int) := by
  have h0 := wrap_u64_nonneg x
  have h1 := Int.tmod_nonneg (n : Int) h0
  have h2 := Int.tmod_lt_of_pos (IntKind.u64.wrap x) (show (0 : Int) < (n : Int) by omega)
  exact ⟨((IntKind.u64.wrap x).tmod (n : Int)).toNat, by omega, by omega⟩
theorem packM_len9 (m : Msg) : 9 ≤ (packM m).length := by
  unfold packM headM
  simp only [List.length_append, be_len]
  omega
theorem set_ne {l : List Int} {k : Nat} {y : Int} (hk : k < l.length) (h : y ≠ l.getD k 0) : l.set k y ≠ l := by
  intro e
  have : (l.set k y).getD k 0 = y := by simp [List.getD, hk]
  rw [e] at this
  exact h this.symm
theorem set_byt {l : List Int} (h : Byt l) (k : Nat) {y : Int} (hy : 0 ≤ y ∧ y ≤ 255) : Byt (l.set k y) := by
  intro x hx
  rcases List.mem_or_eq_of_mem_set hx with h1 | h1
  · exact h x h1
  · subst h1; exact hy
theorem packM_few {m : Msg} {attrs : Int} (hr : rightM attrs m = true) (hf : fewM m = true) : (packM m).length ≤ 10000 := by
  have h := right_f hr
  have hl := packM_len h
  have ha := h.a
  unfold fewM at hf
  simp at hf
  have h6 : (m.recs.length : Int) * (16 + 4 * attrs) ≤ 40 * 48 := Int.mul_le_mul (by omega) (by omega) (by omega) (by omega)
  repeat (first | omega | (split at hl))
end Go.Proofs.Ythhelhhlofdehaa
namespace Go.Proofs.Ythhelhhlofdehaa.messageTurned
open Go.RowKit Mem
set_option linter.unusedSimpArgs false
set_option linter.unusedVariables false
attribute [local irreducible] Go.Calls
set_option maxRecDepth 100000 in
set_option maxHeartbeats 4000000 in
theorem walk (attrs : Int) (_ : -9223372036854775808 ≤ attrs ∧ attrs ≤ 9223372036854775807) (m : Msg) (v b r : Value) (at_ : Int) (bat : -9223372036854775808 ≤ at_ ∧ at_ ≤ 9223372036854775807) (by_ : Int) (bby : 0 ≤ by_ ∧ by_ ≤ 255) (w : World) (h : MRd w m v b r) (hb : MB m) :
    Calls Try.prog 5 #[.int .i64 attrs, .agg (mcs m v b r).toArray, .int .i64 at_, .int .u8 by_] w fun e w' => e = .returned (.bool true) ∧ Below w.heap.size w w' := by
  have hk0 : Below w.heap.size w (w.alloc (.cells (mcs m v b r).toArray 34)) := more (Below.refl _ _) _
  have HBK := Lib.hid (Blk.new w 34 (mcs m v b r).toArray)
  have HK := Lib.hid hk0
  have HM := Lib.hid (h.keep hk0)
  have HBD := Lib.hid hb
  have HBB := Lib.hid bby
  clear hk0 h hb bat bby
  go_enter Try.func5, Try.ntmps5
  go_upto_region 1 with fail
  generalize w.alloc (.cells (mcs m v b r).toArray 34) = w1 at *
  obtain ⟨g, hg⟩ : ∃ g, g = w.heap.size := ⟨_, rfl⟩
  rw [← hg] at HBK ⊢
  clear hg
  have HC := Lib.hid (few_any m v b r w1 HM.out)
  cases hf : fewM m with
  | false =>
    rw [hf] at HC
    go_wp2_with (first | (refine at_load 5 rfl ?_; refine wpList_load_row rfl 34 (.tmp 5) rfl g rfl 34 (mcs m v b r).toArray (0, 0) _ HBK.out Try.underlying34 rfl msg_info ?_) | (go_at_call 9; refine HC.out.mono ?_; rintro e w2 ⟨rfl, hk2⟩) | (go_at_call 10; refine (mawake_any _).mono ?_; rintro e w3 ⟨rfl, hk3⟩))
    go_ret
    exact ⟨rfl, nest (nest HK.out hk2) hk3⟩
  | true =>
    rw [hf] at HC
    have HFEW := Lib.hid hf
    clear hf
    go_upto_region 3 with (first | (refine at_load 5 rfl ?_; refine wpList_load_row rfl 34 (.tmp 5) rfl g rfl 34 (mcs m v b r).toArray (0, 0) _ HBK.out Try.underlying34 rfl msg_info ?_) | (go_at_call 9; refine HC.out.mono ?_; rintro e w2 ⟨rfl, hk2⟩))
    have HB2 := Lib.hid (HBK.out.keep hk2)
    have HM2 := Lib.hid (HM.out.keep hk2)
    have HK2 := Lib.hid (nest HK.out hk2)
    clear HBK HM HK HC hk2
    have HC := Lib.hid (rmpack_any attrs m v b r w2 HM2.out HBD.out)
    go_upto_region 4 with (first | (refine at_load 5 rfl ?_; refine wpList_load_row rfl 34 (.tmp 5) rfl g rfl 34 (mcs m v b r).toArray (0, 0) _ HB2.out Try.underlying34 rfl msg_info ?_) | (go_at_call 13; refine HC.out.mono ?_; rintro e w3 (⟨_, rfl, hk3⟩ | ⟨hr, x, rfl, hx, hk3⟩)))
    · go_wp2_with (go_at_call 10; refine (mawake_any _).mono ?_; rintro e w4 ⟨rfl, hk4⟩)
      go_ret
      exact ⟨rfl, nest (nest HK2.out hk3) hk4⟩
    · have hp9 := packM_len9 m
      obtain ⟨gx, cx, rfl, hcx1, hcx2, hgx⟩ := Row.head hx (by omega)
      have HROW := Lib.hid hx
      have HK3 := Lib.hid (nest HK2.out hk3)
      have HB3 := Lib.hid (HB2.out.keep hk3)
      have HM3 := Lib.hid (HM2.out.keep hk3)
      have HGG : Hid (g < w2.heap.size) := Lib.hid HB2.out.lt
      have HGX := Lib.hid hgx
      have HRI := Lib.hid hr
      have HPF := Lib.hid (packM_few hr HFEW.out)
      have HS2 := Lib.hid HK2.out.size
      have HK23 := Lib.hid hk3
      clear hx hk3 hgx HC HB2 HM3 HK2 hr hcx2
      by_cases hby : by_ = 0
      · subst hby
        go_wp2_with (go_at_call 10; refine (mawake_any _).mono ?_; rintro e w4 ⟨rfl, hk4⟩)
        go_ret
        exact ⟨rfl, nest HK3.out hk4⟩
      have HBN : Hid (0 < by_ ∧ by_ ≤ 255) := Lib.hid (by have := HBB.out; omega)
      have hb0 : (by_ == 0) = false := by simpa using hby
      obtain ⟨P, hP⟩ : ∃ P, P = packM m := ⟨_, rfl⟩
      have HPB : Hid (Byt P) := Lib.hid (by rw [hP]; exact packM_byt m)
      rw [← hP] at HROW hp9 HPF hcx1 ⊢
      have HP := Lib.hid hP
      clear hP
      obtain ⟨k, hk, hkx⟩ := index_in at_ P.length (by omega)
      have hlw : IntKind.u64.wrap (P.length : Int) = P.length := IntWalk.u64_in _ (by have := HPF.out; omega)
      have hkw : wrap64 (k : Int) = k := by unfold wrap64; have := HPF.out; omega
      have hz : ¬ (P.length : Int) = 0 := by omega
      go_upto_region 7 with fail
      obtain ⟨_, g', o', c', he, _, _, _, hcell⟩ := Mem.Rd.loopI HROW.out.rd
      obtain ⟨c0, hc0⟩ : ∃ c0, c0 = P.getD k 0 := ⟨_, rfl⟩
      have cc : w3.cell? ⟨gx, k, none⟩ = some (.int .u8 c0) := by
        obtain ⟨a', g2, o2, c2, he2, _, _, ha2, hcell2⟩ := Mem.Rd.loopI HROW.out.rd
        obtain ⟨rfl, _⟩ := ha2 (by omega)
        injection he2 with e1 _ _
        injection e1 with e1
        injection e1 with e1 e2 _
        subst e1 e2
        have := hcell2 k hk
        rw [Nat.zero_add, ← hc0] at this
        exact this
      have cf : w3.frozen? ⟨gx, k, none⟩ = false := Row.frozenI HROW.out rfl k
      have hc0b : 0 ≤ c0 ∧ c0 ≤ 255 := by
        rw [hc0]
        have : P.getD k 0 = P[k] := by simp [List.getD, hk]
        rw [this]
        exact HPB.out _ (List.getElem_mem hk)
      obtain ⟨hyb, hyn⟩ := xor_u8 hc0b HBN.out
      obtain ⟨y, hy⟩ : ∃ y, y = bits .xor .u8 c0 by_ := ⟨_, rfl⟩
      rw [← hy] at hyb hyn
      have hy2 : bits .xor .u8 c0 by_ = y := hy.symm
      have HYB := Lib.hid hyb
      have HYN : Hid (P.set k y ≠ P) := Lib.hid (set_ne hk (by rw [← hc0]; exact hyn))
      have HKL := Lib.hid hk
      clear he hcell hyb hyn hy hc0b hc0 hkx hlw hz hb0
      go_upto_region 8 with fail
      clear cc cf hy2
      have hos := Only.set (b := gx) w3 k (.int .u8 y)
      have HROW4 := Lib.hid (Row.putI HROW.out rfl k y)
      have HB4 := Lib.hid (HB3.out.only hos (by have := HGG.out; have := HGX.out; omega))
      have HK24 := Lib.hid (HK23.out.trans (hos.below HGX.out.1 HK23.out.size))
      have HM4 := Lib.hid (HM2.out.keep HK24.out)
      have HK4 := Lib.hid (HK3.out.trans (hos.below (by have := HGX.out; have := HS2.out; omega) HK3.out.size))
      clear hos HROW HB3 HM2 HK3 HK23
      generalize w3.setCell ⟨gx, k, none⟩ (.int .u8 y) = w4 at *
      obtain ⟨Q, hQ⟩ : ∃ Q, Q = P.set k y := ⟨_, rfl⟩
      have hQL : P.length = Q.length := by rw [hQ, List.length_set]
      have HQB : Hid (Byt Q) := Lib.hid (by rw [hQ]; exact set_byt HPB.out k HYB.out)
      have HQP : Hid (Q ≠ P) := Lib.hid (by rw [hQ]; exact HYN.out)
      rw [← hQ] at HROW4
      have HQ4 : Hid (Rd (intE .u8) w4 (.slice (some ⟨gx, 0, none⟩) P.length cx) Q) := Lib.hid (HROW4.out.rd)
      have HQL : Hid (Q.length ≤ 1000000) := Lib.hid (by have := HPF.out; omega)
      clear hQ hQL HROW4 HYN
      obtain ⟨M, F, hT⟩ : ∃ M F, takeV attrs Q = (M, F) := ⟨_, _, rfl⟩
      have HT := Lib.hid hT
      clear hT
      go_upto_region 9 with (first | (go_at_call 14; refine (otk_u attrs _ Q _ HT.out HQ4.out HQL.out HQB.out).mono ?_; rintro e w6 ⟨v6, b6, r6, rfl, hm6, hb6, hk6⟩) | (refine at_store 12 rfl ?_; refine wpList_store_row rfl 34 (.tmp 12) (.tmp 53) rfl w6.heap.size (mcs M v6 b6 r6).toArray rfl rfl 34 _ (heap_alloc_new w6 _) msg_info rfl (mcs_one hm6) ?_))
      (try rw [World.setRow_alloc_new])
      have hX6 : Below w6.heap.size w6 (w6.alloc (.cells (mcs M v6 b6 r6).toArray 34)) := more (Below.refl _ _) _
      have H12 : Hid (Blk (w6.alloc (.cells (mcs M v6 b6 r6).toArray 34)) w6.heap.size 34 (mcs M v6 b6 r6).toArray) := Lib.hid (Blk.new _ _ _)
      have HQ6 := Lib.hid (hm6.keep hX6)
      have hk6 := nest hk6 hX6
      have HB6 := Lib.hid (HB4.out.keep hk6)
      have HM6 := Lib.hid (HM4.out.keep hk6)
      have HK6 := Lib.hid (nest HK4.out hk6)
      have HQ46 := Lib.hid (HQ4.out.keep hk6)
      clear HB4 HM4 HK4 HQ4 hk6 hX6 hm6 hb6
      generalize w6.alloc (.cells (mcs M v6 b6 r6).toArray 34) = z6 at *
      obtain ⟨g12, hg12⟩ : ∃ x, x = w6.heap.size := ⟨_, rfl⟩
      rw [← hg12] at H12 ⊢
      clear hg12
      go_upto_region 10 with (first | (go_at_call 15; refine (rtk_u attrs _ Q _ HT.out HQ46.out HQL.out HQB.out).mono ?_; rintro e w7 ⟨v7, b7, r7, rfl, hm7, hb7, hk7⟩) | (refine at_store 14 rfl ?_; refine wpList_store_row rfl 34 (.tmp 14) (.tmp 59) rfl w7.heap.size (mcs M v7 b7 r7).toArray rfl rfl 34 _ (heap_alloc_new w7 _) msg_info rfl (mcs_one hm7) ?_))
      (try rw [World.setRow_alloc_new])
      have hX7 : Below w7.heap.size w7 (w7.alloc (.cells (mcs M v7 b7 r7).toArray 34)) := more (Below.refl _ _) _
      have H14 : Hid (Blk (w7.alloc (.cells (mcs M v7 b7 r7).toArray 34)) w7.heap.size 34 (mcs M v7 b7 r7).toArray) := Lib.hid (Blk.new _ _ _)
      have HQ7 := Lib.hid (hm7.keep hX7)
      have hk7 := nest hk7 hX7
      have HB7 := Lib.hid (HB6.out.keep hk7)
      have HM7 := Lib.hid (HM6.out.keep hk7)
      have HK7 := Lib.hid (nest HK6.out hk7)
      have HQ67 := Lib.hid (HQ6.out.keep hk7)
      have H127 := Lib.hid (H12.out.keep hk7)
      clear HB6 HM6 HK6 HQ6 H12 HQ46 hk7 hX7 hm7 hb7
      generalize w7.alloc (.cells (mcs M v7 b7 r7).toArray 34) = z7 at *
      obtain ⟨g14, hg14⟩ : ∃ x, x = w7.heap.size := ⟨_, rfl⟩
      rw [← hg14] at H14 ⊢
      clear hg14
      have hk0 : Below z7.heap.size z7 z7 := Below.refl _ _
      by_cases hF : F = 0
      · subst hF
        have hne : sameM M m = false := by
          cases hs : sameM M m with
          | false => rfl
          | true =>
            have h1 := (takeV_ok HT.out).1
            rw [sameM_eq hs, ← HP.out] at h1
            exact absurd h1.symm HQP.out
        have HNE := Lib.hid (fun (z : World) (h1 : MRd z M v6 b6 r6) (h2 : MRd z m v b r) => hne ▸ message_any M m v6 b6 r6 v b r z h1 h2)
        clear hne
        refine Run.region_seq (S := fun z => Blk z g 34 (mcs m v b r).toArray ∧ Blk z g12 34 (mcs M v6 b6 r6).toArray ∧ Blk z g14 34 (mcs M v7 b7 r7).toArray ∧ Below z7.heap.size z7 z)
          [1, 0, 0, 0, 1, 0, 0, 0, 0, 0, 0, 0, 0, 0, 0, 0, 0, 1, 0, 0, 0, 0] (l := ?_) ?_ ⟨HB7.out, H127.out, H14.out, hk0⟩ ?_
        rotate_left
        (· simp only [Run.seqOf, List.toList_toArray, Run.stepsOf, Run.stepOf, Run.guardOf, List.getElem?_toArray, List.getElem?_cons_zero, List.getElem?_cons_succ, Option.map_some, Option.map_none, Option.bind_some, Option.toList_some, List.map_cons, List.map_nil, List.cons_append, List.nil_append]
           rfl)
        repeat ((first
          | (refine Run.takes (v := ?_) ?_ ?_; rotate_left; (· intro w' hS'; (first | (refine exec_load_blk (n := 18) (x := .tmp 5) (l := mcs m v b r) ?_ Try.underlying34 msg_info ?_ ?_ hS'.1 <;> rfl) | (refine exec_load_blk (n := 18) (x := .tmp 12) (l := mcs M v6 b6 r6) ?_ Try.underlying34 msg_info ?_ ?_ hS'.2.1 <;> rfl) | (refine exec_load_blk (n := 18) (x := .tmp 14) (l := mcs M v7 b7 r7) ?_ Try.underlying34 msg_info ?_ ?_ hS'.2.2.1 <;> rfl) | (go_simp; (try with_reducible rfl)))))
          | (refine Run.takesG (v := ?_) ?_ ?_ ?_; rotate_left; (· simp only [List.getElem?_cons_zero, List.getElem?_cons_succ]); (· intro w' hS'; (first | (refine exec_load_blk (n := 18) (x := .tmp 5) (l := mcs m v b r) ?_ Try.underlying34 msg_info ?_ ?_ hS'.1 <;> rfl) | (refine exec_load_blk (n := 18) (x := .tmp 12) (l := mcs M v6 b6 r6) ?_ Try.underlying34 msg_info ?_ ?_ hS'.2.1 <;> rfl) | (refine exec_load_blk (n := 18) (x := .tmp 14) (l := mcs M v7 b7 r7) ?_ Try.underlying34 msg_info ?_ ?_ hS'.2.2.1 <;> rfl) | (go_simp; (try with_reducible rfl)))))
          | (refine Run.skipsT ?_ ?_; (· simp only [List.getElem?_cons_zero, List.getElem?_cons_succ]))
          | (refine Run.skipsF ?_ ?_; (· simp only [List.getElem?_cons_zero, List.getElem?_cons_succ]))
          | (refine Run.skipsU ?_ ?_; (· simp only [List.getElem?_cons_zero, List.getElem?_cons_succ]))
          | (refine Run.passT ?_ ?_; (· simp only [List.getElem?_cons_zero, List.getElem?_cons_succ]))
          | (refine Run.passF ?_ ?_; (· simp only [List.getElem?_cons_zero, List.getElem?_cons_succ]))
          | (refine Run.passU ?_ ?_; (· simp only [List.getElem?_cons_zero, List.getElem?_cons_succ]))
          | (refine Run.runs ?_
             (first
             | (refine Run.callF 10 (by kernel_rfl) (fun hS => mawake_any _) rfl ?_)
             | (refine Run.callG 10 (by kernel_rfl) ?_ (fun hS => mawake_any _) rfl ?_; (· simp only [List.getElem?_cons_zero, List.getElem?_cons_succ]))
             | (refine Run.callF 19 (by kernel_rfl) (fun hS => message_yes M v6 b6 r6 v7 b7 r7 _ (HQ67.out.keep hS.2.2.2) (HQ7.out.keep hS.2.2.2)) rfl ?_)
             | (refine Run.callG 19 (by kernel_rfl) ?_ (fun hS => message_yes M v6 b6 r6 v7 b7 r7 _ (HQ67.out.keep hS.2.2.2) (HQ7.out.keep hS.2.2.2)) rfl ?_; (· simp only [List.getElem?_cons_zero, List.getElem?_cons_succ]))
             | (refine Run.callF 19 (by kernel_rfl) (fun hS => HNE.out _ (HQ67.out.keep hS.2.2.2) (HM7.out.keep hS.2.2.2)) rfl ?_)
             | (refine Run.callG 19 (by kernel_rfl) ?_ (fun hS => HNE.out _ (HQ67.out.keep hS.2.2.2) (HM7.out.keep hS.2.2.2)) rfl ?_; (· simp only [List.getElem?_cons_zero, List.getElem?_cons_succ]))
             | fail)
             (first
             | (rintro hS e w' ⟨rfl, rfl⟩; refine ⟨_, rfl, hS, ?_⟩)
             | (rintro hS e w' ⟨rfl, hb⟩; refine ⟨_, rfl, ⟨hS.1.keep hb, hS.2.1.keep hb, hS.2.2.1.keep hb, nest hS.2.2.2 hb⟩, ?_⟩)
             | fail))
          | fail); simp only [Act.put, List.setIfInBounds_toArray, List.set_cons_zero, List.set_cons_succ])
        refine Run.ends (fun hS => ?_)
        have HX := Lib.hid hS.2.2.2
        clear hS
        go_wp2_with fail
        go_ret
        exact ⟨rfl, nest HK7.out HX.out⟩
      · have hF1 : (F == 0) = false := by simpa using hF
        have hF2 : decide (F = 0) = false := decide_eq_false hF
        have hF3 : (F != 0) = true := by simpa using hF
        refine Run.region_seq (S := fun z => Blk z g 34 (mcs m v b r).toArray ∧ Blk z g12 34 (mcs M v6 b6 r6).toArray ∧ Blk z g14 34 (mcs M v7 b7 r7).toArray ∧ Below z7.heap.size z7 z)
          [1, 0, 0, 0, 1, 0, 0, 0, 0, 0, 0, 0, 0, 0, 0, 0, 0, 1, 0, 0, 0, 0] (l := ?_) ?_ ⟨HB7.out, H127.out, H14.out, hk0⟩ ?_
        rotate_left
        (· simp only [Run.seqOf, List.toList_toArray, Run.stepsOf, Run.stepOf, Run.guardOf, List.getElem?_toArray, List.getElem?_cons_zero, List.getElem?_cons_succ, Option.map_some, Option.map_none, Option.bind_some, Option.toList_some, List.map_cons, List.map_nil, List.cons_append, List.nil_append]
           rfl)
        repeat ((first
          | (refine Run.takes (v := ?_) ?_ ?_; rotate_left; (· intro w' hS'; (first | (refine exec_load_blk (n := 18) (x := .tmp 5) (l := mcs m v b r) ?_ Try.underlying34 msg_info ?_ ?_ hS'.1 <;> rfl) | (refine exec_load_blk (n := 18) (x := .tmp 12) (l := mcs M v6 b6 r6) ?_ Try.underlying34 msg_info ?_ ?_ hS'.2.1 <;> rfl) | (refine exec_load_blk (n := 18) (x := .tmp 14) (l := mcs M v7 b7 r7) ?_ Try.underlying34 msg_info ?_ ?_ hS'.2.2.1 <;> rfl) | (go_simp; (try with_reducible rfl)))))
          | (refine Run.takesG (v := ?_) ?_ ?_ ?_; rotate_left; (· simp only [List.getElem?_cons_zero, List.getElem?_cons_succ]); (· intro w' hS'; (first | (refine exec_load_blk (n := 18) (x := .tmp 5) (l := mcs m v b r) ?_ Try.underlying34 msg_info ?_ ?_ hS'.1 <;> rfl) | (refine exec_load_blk (n := 18) (x := .tmp 12) (l := mcs M v6 b6 r6) ?_ Try.underlying34 msg_info ?_ ?_ hS'.2.1 <;> rfl) | (refine exec_load_blk (n := 18) (x := .tmp 14) (l := mcs M v7 b7 r7) ?_ Try.underlying34 msg_info ?_ ?_ hS'.2.2.1 <;> rfl) | (go_simp; (try with_reducible rfl)))))
          | (refine Run.skipsT ?_ ?_; (· simp only [List.getElem?_cons_zero, List.getElem?_cons_succ]))
          | (refine Run.skipsF ?_ ?_; (· simp only [List.getElem?_cons_zero, List.getElem?_cons_succ]))
          | (refine Run.skipsU ?_ ?_; (· simp only [List.getElem?_cons_zero, List.getElem?_cons_succ]))
          | (refine Run.passT ?_ ?_; (· simp only [List.getElem?_cons_zero, List.getElem?_cons_succ]))
          | (refine Run.passF ?_ ?_; (· simp only [List.getElem?_cons_zero, List.getElem?_cons_succ]))
          | (refine Run.passU ?_ ?_; (· simp only [List.getElem?_cons_zero, List.getElem?_cons_succ]))
          | (refine Run.runs ?_
             (first
             | (refine Run.callF 10 (by kernel_rfl) (fun hS => mawake_any _) rfl ?_)
             | (refine Run.callG 10 (by kernel_rfl) ?_ (fun hS => mawake_any _) rfl ?_; (· simp only [List.getElem?_cons_zero, List.getElem?_cons_succ]))
             | (refine Run.callF 19 (by kernel_rfl) (fun hS => message_yes M v6 b6 r6 v7 b7 r7 _ (HQ67.out.keep hS.2.2.2) (HQ7.out.keep hS.2.2.2)) rfl ?_)
             | (refine Run.callG 19 (by kernel_rfl) ?_ (fun hS => message_yes M v6 b6 r6 v7 b7 r7 _ (HQ67.out.keep hS.2.2.2) (HQ7.out.keep hS.2.2.2)) rfl ?_; (· simp only [List.getElem?_cons_zero, List.getElem?_cons_succ]))
             | fail)
             (first
             | (rintro hS e w' ⟨rfl, rfl⟩; refine ⟨_, rfl, hS, ?_⟩)
             | (rintro hS e w' ⟨rfl, hb⟩; refine ⟨_, rfl, ⟨hS.1.keep hb, hS.2.1.keep hb, hS.2.2.1.keep hb, nest hS.2.2.2 hb⟩, ?_⟩)
             | fail))
          | fail); simp only [Act.put, List.setIfInBounds_toArray, List.set_cons_zero, List.set_cons_succ])
        refine Run.ends (fun hS => ?_)
        have HX := Lib.hid hS.2.2.2
        clear hS
        go_wp2_with fail
        go_ret
        exact ⟨rfl, nest HK7.out HX.out⟩
end Go.Proofs.Ythhelhhlofdehaa.messageTurned
