/- Package message: Take. -/
import Derived.Test.YthhelhhlofdehaaMsgOread
import Derived.Test.YthhelhhlofdehaaBoxPacksMath
import Derived.Test.YthhelhhlofdehaaOctetMath
set_option maxRecDepth 4000
namespace Go.Proofs.Ythhelhhlofdehaa
open Go.RowKit Mem
set_option linter.unusedSimpArgs false
set_option linter.unusedVariables false
attribute [local irreducible] Go.Calls

/-- the message that is read -/
def msgQ (a : Nat) (l : List Int) : Msg := msgK a l (headQ l)
/-- what Take tells of l -/
def takeV (attrs : Int) (l : List Int) : Msg × Int :=
  if ¬ (1 ≤ attrs ∧ attrs ≤ 8) then (zeroM, 1) else if l.length < 9 then (zeroM, 3) else if ¬ (1 ≤ gq l 0 1 ∧ gq l 0 1 ≤ 6) then (zeroM, 4)
  else if l.length < lenQ attrs.toNat l (gq l 0 1) then (zeroM, 3)
  else if rightM attrs (msgQ attrs.toNat l) = true ∧ packM (msgQ attrs.toNat l) = l then (msgQ attrs.toNat l, 0) else (zeroM, 4)
theorem valP_byt (l : List Int) : Byt (valP l) := by
  induction l with
  | nil => intro x hx; simp [valP] at hx
  | cons x l ih => exact (be_byt x 4).append ih
theorem recP_byt (x : Int × Int × List Int) : Byt (recP x) := (be_byt _ 8).append ((be_byt _ 8).append (valP_byt _))
theorem recsP_byt (l : List (Int × Int × List Int)) : Byt (recsP l) := by
  induction l with
  | nil => intro x hx; simp [recsP] at hx
  | cons x l ih => exact (recP_byt x).append ih
theorem packM_byt (m : Msg) : Byt (packM m) := by
  refine Byt.append ((be_byt _ 1).append ((be_byt _ 1).append ((be_byt _ 1).append ((be_byt _ 2).append (be_byt _ 4))))) ?_
  have he : Byt (entM m) := (be_byt _ 1).append (recP_byt _)
  unfold tailM
  split
  · exact he.append (be_byt _ 1)
  split
  · exact he.append ((be_byt _ 4).append (be_byt _ 4))
  split
  · exact he
  split
  · exact (be_byt _ 1).append ((be_byt _ 4).append ((be_byt _ 4).append (packV_byt _)))
  · exact (be_byt _ 4).append ((be_byt _ 4).append ((be_byt _ 2).append (recsP_byt _)))
theorem equal_raw (v1 v2 : Value) (l1 l2 : List Int) (w : World) (h1 : Rd (intE .u8) w v1 l1) (h2 : Rd (intE .u8) w v2 l2) :
    Calls Try.prog 37 #[v1, v2] w fun e w' => e = .returned (.bool ((strOfNums l1).toList == (strOfNums l2).toList)) ∧ Below w.heap.size w w' := by
  have k1 := conv_rd h1
  have k2 := conv_rd h2
  go_enter Try.func37, Try.ntmps37
  go_wp2_with fail
  go_ret
  exact ⟨rfl, Below.refl _ _⟩
theorem equal_any (v1 v2 : Value) (l1 l2 : List Int) (w : World) (h1 : Rd (intE .u8) w v1 l1) (h2 : Rd (intE .u8) w v2 l2) (b1 : Byt l1) (b2 : Byt l2) :
    Calls Try.prog 37 #[v1, v2] w fun e w' => e = .returned (.bool (decide (l1 = l2))) ∧ Below w.heap.size w w' := by
  have e : ((strOfNums l1).toList == (strOfNums l2).toList) = decide (l1 = l2) := by
    by_cases hl : l1 = l2
    · rw [decide_eq_true hl, hl]; simp
    · rw [decide_eq_false hl]
      cases hq : ((strOfNums l1).toList == (strOfNums l2).toList) with
      | false => rfl
      | true => exact absurd (bytes_inj b1 b2 hq) hl
  rw [← e]
  exact equal_raw v1 v2 l1 l2 w h1 h2
def MTakePost (r : Msg × Int) (w : World) (e : Ending) (w' : World) : Prop :=
  ∃ v b r', e = .returned (.tuple #[.agg (mcs r.1 v b r').toArray, .int .i64 r.2]) ∧ MRd w' r.1 v b r' ∧ MB r.1 ∧ Below w.heap.size w w'
theorem none_take {err : Int} {w : World} {e : Ending} {w' : World} (h : NonePost err w e w') : MTakePost (zeroM, err) w e w' := ⟨_, _, _, by rw [h.1, zcs_eq], zero_rd w', zero_b, h.2⟩
set_option maxRecDepth 100000 in
set_option maxHeartbeats 4000000 in
theorem omtake_good (a : Nat) (v : Value) (l : List Int) (w : World) (h : Rd (intE .u8) w v l) (hlm : l.length ≤ 1000000) (hb : Byt l) (ha : decide (1 ≤ (a : Int) ∧ (a : Int) ≤ 8) = true)
    (HRD : ∀ z, Below w.heap.size w z → Calls Try.prog 36 #[.int .i64 a, v] z fun e w' => (∃ v' b' r', e = .returned (.tuple #[.agg (mcs (msgQ a l) v' b' r').toArray, .int .i64 0]) ∧ PA z.heap.size w' (msgQ a l) v' b' r' ∧ MB (msgQ a l)) ∧ Below z.heap.size z w') :
    Calls Try.prog 14 #[.int .i64 a, v] w (MTakePost (if rightM a (msgQ a l) = true ∧ packM (msgQ a l) = l then (msgQ a l, 0) else (zeroM, 4)) w) := by
  obtain ⟨av, cv, rfl, _, _⟩ := h.form
  generalize msgQ a l = m at *
  obtain ⟨RES, hRES⟩ : ∃ R, R = (if rightM a m = true ∧ packM m = l then (m, (0 : Int)) else (zeroM, 4)) := ⟨_, rfl⟩
  rw [← hRES]
  have HRES := Lib.hid hRES
  clear hRES
  have hst := heap_alloc_new w (.cells zcs.toArray 34)
  have hX : Below w.heap.size w (w.alloc (.cells zcs.toArray 34)) := more (Below.refl _ _) _
  have HX := Lib.hid hX
  have HB4 : Hid (Blk (w.alloc (.cells zcs.toArray 34)) w.heap.size 34 zcs.toArray) := Lib.hid hst
  have HC : Hid (∀ z, Calls Try.prog 35 #[.int .i64 a] z fun e w' => e = .returned (.bool true) ∧ Below z.heap.size z w') := Lib.hid (fun z => by rw [← ha]; exact orattrs_any a z)
  have HRR := Lib.hid HRD
  have HV := Lib.hid h
  have HBY := Lib.hid hb
  clear hst hX ha HRD h hb hlm
  go_enter Try.func14, Try.ntmps14
  go_upto_region 1 with fail
  have hzz : w.alloc (.cells zcs.toArray 34) = w.alloc (.cells #[.int .i64 0, .int .i64 0, .int .u32 0, .int .i64 0, .int .i64 0, .int .u32 0, .int .i64 0, .int .u32 0, .int .i64 0, .int .u32 0, .int .u64 0, .int .u64 0, .slice none 0 0, .bool false, .int .u32 0, .int .u32 0, .slice none 0 0, .slice none 0 0] 34) := rfl
  rw [← hzz]
  clear hzz
  generalize w.alloc (.cells zcs.toArray 34) = w1 at *
  obtain ⟨g4, hg4⟩ : ∃ g4, g4 = w.heap.size := ⟨_, rfl⟩
  rw [← hg4] at HB4 ⊢
  have HG4 := Lib.hid hg4
  clear hg4
  go_upto_region 4 with (first | (go_at_call 35; refine (HC.out _).mono ?_; rintro e w2 ⟨rfl, hk2⟩) | (go_at_call 36; refine (HRR.out _ (nest HX.out hk2)).mono ?_; rintro e w3 ⟨⟨v', b', r', rfl, hpa, hmb⟩, hk3⟩; have hm3 := hpa.rd hmb) | (refine wpList_store_row rfl 34 (.tmp 6) (.tmp 18) rfl w3.heap.size (mcs m v' b' r').toArray rfl rfl 34 _ (heap_alloc_new w3 _) msg_info rfl (mcs_one hm3) ?_))
  (try rw [World.setRow_alloc_new])
  have hX6 : Below w3.heap.size w3 (w3.alloc (.cells (mcs m v' b' r').toArray 34)) := more (Below.refl _ _) _
  have HB5 := Lib.hid (((HB4.out.keep hk2).keep hk3).keep hX6)
  have HX5 := Lib.hid (nest (nest (nest HX.out hk2) hk3) hX6)
  have HB6 := Lib.hid (Blk.new w3 34 (mcs m v' b' r').toArray)
  have HM5 := Lib.hid (hm3.keep hX6)
  have HPA5 := Lib.hid (hpa.keep hX6)
  have HG42 : Hid (g4 < w2.heap.size) := Lib.hid (HB4.out.keep hk2).lt
  have HMB := Lib.hid hmb
  have HN46 : Hid (g4 ≠ w3.heap.size) := Lib.hid (by have := ((HB4.out.keep hk2).keep hk3).lt; omega)
  clear hm3 hk2 hk3 HX HB4 hX6 hmb hpa
  generalize w3.alloc (.cells (mcs m v' b' r').toArray 34) = w5 at *
  obtain ⟨g6, hg6⟩ : ∃ g6, g6 = w3.heap.size := ⟨_, rfl⟩
  rw [← hg6] at HB6 HN46 ⊢
  clear hg6
  have HPK := Lib.hid (ompack_row a m v' b' r' w5 HM5.out HMB.out)
  have HV5 := Lib.hid (HV.out.keep HX5.out)
  cases hr : rightM a m with
  | false =>
    have HCP : Hid (Calls Try.prog 12 #[.int .i64 a, .agg (mcs m v' b' r').toArray] w5 fun e w' => e = .returned (.tuple #[.slice none 0 0, .int .i64 4]) ∧ Below w5.heap.size w5 w') := Lib.hid (HPK.out.mono fun e w' h => by
      rcases h with ⟨_, h2, h3⟩ | ⟨h1, _⟩
      · exact ⟨h2, h3⟩
      · rw [hr] at h1; cases h1)
    have HR := Lib.hid hr
    clear hr HPK
    go_upto_if 99 with (first | (refine wpList_load_row rfl 34 (.tmp 6) rfl g6 rfl 34 _ (0, 0) _ HB6.out Try.underlying34 rfl msg_info ?_) | (go_at_call 12; refine HCP.out.mono ?_; rintro e w6 ⟨rfl, hk6⟩) | (refine wpList_store_row rfl 34 (.tmp 4) (.tmp 38) rfl g4 zcs.toArray rfl rfl 34 _ (HB5.out.keep hk6) msg_info rfl zcs_one ?_))
    refine bodyPost_ret (results_blk_tmp (l := zcs) rfl Try.underlying34 msg_info rfl rfl (Blk.row (HB5.out.keep hk6) _)) rfl ?_
    rw [show RES = (zeroM, 4) by rw [HRES.out, if_neg (by rw [HR.out]; simp)]]
    exact none_take ⟨rfl, (nest HX5.out hk6).trans ((Only.row w6 _).below (by rw [HG4.out]; exact Nat.le_refl _) (nest HX5.out hk6).size)⟩
  | true =>
    have HCP : Hid (Calls Try.prog 12 #[.int .i64 a, .agg (mcs m v' b' r').toArray] w5 fun e w' => (∃ x, e = .returned (.tuple #[x, .int .i64 0]) ∧ Rd (intE .u8) w' x (packM m)) ∧ Below w5.heap.size w5 w') := Lib.hid (HPK.out.mono fun e w' h => by
      rcases h with ⟨h1, _⟩ | ⟨_, x, h2, h3, h4⟩
      · rw [hr] at h1; cases h1
      · exact ⟨⟨x, h2, h3.rd⟩, h4⟩)
    have HR := Lib.hid hr
    clear hr HPK
    go_upto_region 7 with (first | (refine wpList_load_row rfl 34 (.tmp 6) rfl g6 rfl 34 _ (0, 0) _ HB6.out Try.underlying34 rfl msg_info ?_) | (go_at_call 12; refine HCP.out.mono ?_; rintro e w6 ⟨⟨x, rfl, hx⟩, hk6⟩; have HXX := Lib.hid hx; obtain ⟨ax, cx, rfl, _, _⟩ := hx.form; clear hx))
    have HEQ := Lib.hid (equal_any _ _ _ _ w6 HXX.out (HV5.out.keep hk6) (packM_byt m) HBY.out)
    have HB56 := Lib.hid (HB5.out.keep hk6)
    have HB66 := Lib.hid (HB6.out.keep hk6)
    have HX6 := Lib.hid (nest HX5.out hk6)
    have HM6 := Lib.hid (HM5.out.keep hk6)
    have HPA6 := Lib.hid (HPA5.out.keep hk6)
    clear hk6 HCP HV5 HB5 HB6 HX5 HM5
    cases hpq : decide (packM m = l) with
    | false =>
      rw [hpq] at HEQ
      have HPQ := Lib.hid (of_decide_eq_false hpq)
      clear hpq
      go_upto_if 99 with (first | (go_at_call 37; refine HEQ.out.mono ?_; rintro e w7 ⟨rfl, hk7⟩) | (refine wpList_store_row rfl 34 (.tmp 4) (.tmp 38) rfl g4 zcs.toArray rfl rfl 34 _ (HB56.out.keep hk7) msg_info rfl zcs_one ?_))
      refine bodyPost_ret (results_blk_tmp (l := zcs) rfl Try.underlying34 msg_info rfl rfl (Blk.row (HB56.out.keep hk7) _)) rfl ?_
      rw [show RES = (zeroM, 4) by rw [HRES.out, if_neg (fun h => HPQ.out h.2)]]
      exact none_take ⟨rfl, (nest HX6.out hk7).trans ((Only.row w7 _).below (by rw [HG4.out]; exact Nat.le_refl _) (nest HX6.out hk7).size)⟩
    | true =>
      rw [hpq] at HEQ
      have HPQ := Lib.hid (of_decide_eq_true hpq)
      clear hpq
      go_upto_if 99 with (first | (go_at_call 37; refine HEQ.out.mono ?_; rintro e w7 ⟨rfl, hk7⟩) | (refine wpList_load_row rfl 34 (.tmp 6) rfl g6 rfl 34 _ (0, 0) _ (HB66.out.keep hk7) Try.underlying34 rfl msg_info ?_) | (refine wpList_store_row rfl 34 (.tmp 4) (.tmp 39) rfl g4 (mcs m v' b' r').toArray rfl rfl 34 _ (HB56.out.keep hk7) msg_info rfl (mcs_one HM6.out) ?_))
      refine bodyPost_ret (results_blk_tmp (l := mcs m v' b' r') rfl Try.underlying34 msg_info rfl rfl (Blk.row (HB56.out.keep hk7) _)) rfl ?_
      rw [show RES = (m, 0) by rw [HRES.out, if_pos ⟨HR.out, HPQ.out⟩]]
      exact ⟨v', b', r', rfl, ((HPA6.out.keep hk7).only (Only.row w7 _) HG42.out).rd HMB.out, HMB.out, (nest HX6.out hk7).trans ((Only.row w7 _).below (by rw [HG4.out]; exact Nat.le_refl _) (nest HX6.out hk7).size)⟩
/-- Take, of any bytes -/
theorem omtake_any (attrs : Int) (v : Value) (l : List Int) (w : World) (h : Rd (intE .u8) w v l) (hlm : l.length ≤ 1000000) (hb : Byt l) :
    Calls Try.prog 14 #[.int .i64 attrs, v] w (MTakePost (takeV attrs l) w) := by
  by_cases ha : 1 ≤ attrs ∧ attrs ≤ 8
  case neg =>
    have e : takeV attrs l = (zeroM, 1) := by unfold takeV; rw [if_pos ha]
    rw [e]
    exact (omtake_bad attrs v w (decide_eq_false ha)).mono fun _ _ h => none_take h
  obtain ⟨a, rfl⟩ := Int.eq_ofNat_of_zero_le (show 0 ≤ attrs by omega)
  have had : decide (1 ≤ (a : Int) ∧ (a : Int) ≤ 8) = true := decide_eq_true ha
  by_cases hl : l.length < 9
  · have e : takeV a l = (zeroM, 3) := by unfold takeV; rw [if_neg (by simpa using ha), if_pos hl]
    rw [e]
    exact (omtake_short a v l w had h hl).mono fun _ _ h => none_take h
  have hrd := fun z (hz : Below w.heap.size w z) => omread_any a v l z (h.keep hz) (by omega) hlm hb (by omega)
  by_cases hk : 1 ≤ gq l 0 1 ∧ gq l 0 1 ≤ 6
  case neg =>
    have e : takeV a l = (zeroM, 4) := by unfold takeV; rw [if_neg (by simpa using ha), if_neg hl, if_pos hk]
    rw [e]
    refine (omtake_err a 4 v w had (by decide) fun z hz => (hrd z hz).mono ?_).mono fun _ _ h => none_take h
    rintro e w' ⟨m, v', b', r', err, rfl, h1, h2, h3, h4, _⟩
    rw [if_neg hk] at h4
    subst h4
    exact ⟨⟨m, v', b', r', rfl, h1.rd h2⟩, h3⟩
  by_cases hn : l.length < lenQ a l (gq l 0 1)
  · have e : takeV a l = (zeroM, 3) := by unfold takeV; rw [if_neg (by simpa using ha), if_neg hl, if_neg (by simpa using hk), Int.toNat_natCast, if_pos hn]
    rw [e]
    refine (omtake_err a 3 v w had (by decide) fun z hz => (hrd z hz).mono ?_).mono fun _ _ h => none_take h
    rintro e w' ⟨m, v', b', r', err, rfl, h1, h2, h3, h4, _⟩
    rw [if_pos hk, if_neg (by omega)] at h4
    subst h4
    exact ⟨⟨m, v', b', r', rfl, h1.rd h2⟩, h3⟩
  have e : takeV a l = if rightM a (msgQ a l) = true ∧ packM (msgQ a l) = l then (msgQ a l, 0) else (zeroM, 4) := by unfold takeV; rw [if_neg (by simpa using ha), if_neg hl, if_neg (by simpa using hk), Int.toNat_natCast, if_neg hn]
  rw [e]
  refine omtake_good a v l w h hlm hb had fun z hz => (hrd z hz).mono ?_
  rintro e w' ⟨m, v', b', r', err, rfl, h1, h2, h3, h4, h5⟩
  rw [if_pos hk, if_pos (by omega)] at h4
  subst h4
  have h6 := h5 rfl
  subst h6
  exact ⟨⟨v', b', r', rfl, h1, h2⟩, h3⟩
end Go.Proofs.Ythhelhhlofdehaa
