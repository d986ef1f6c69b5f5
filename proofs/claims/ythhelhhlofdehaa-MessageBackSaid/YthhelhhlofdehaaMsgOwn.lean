/- Package message: Pack (written by genmsgpack2.py). -/
import Derived.Test.YthhelhhlofdehaaMsgOwnD
import Derived.Test.YthhelhhlofdehaaMsgOwnG
set_option maxRecDepth 4000
namespace Go.Proofs.Ythhelhhlofdehaa
open Go.RowKit Mem
set_option linter.unusedSimpArgs false
set_option linter.unusedVariables false
attribute [local irreducible] Go.Calls

theorem oputparts_any (b : Nat) (Q : List Int) (attrs : Int) (m : Msg) (v bx r : Value) (w0 w : World) (hF : RightF attrs m) (hM : MRd w0 m v bx r) (hBD : MB m) (hw : WrAt w b Q) (hk : Below w0.heap.size w0 w) (hb : w0.heap.size ≤ b) (hQ : Q.length ≤ 100) :
    Calls Try.prog 29 #[.pointer (some ⟨b, 0, none⟩), .agg (mcs m v bx r).toArray] w (AddPost b (Q ++ tailM m) w) := by
  have h := hF.kind
  have h2 : m.kind = 1 ∨ m.kind = 2 ∨ m.kind = 3 ∨ m.kind = 4 ∨ m.kind = 5 ∨ m.kind = 6 := by omega
  rcases h2 with h2 | h2 | h2 | h2 | h2 | h2
  · exact oput1_any b Q attrs m v bx r w0 w h2 hF hM hBD hw hk hb hQ
  · exact oput2_any b Q attrs m v bx r w0 w h2 hF hM hBD hw hk hb hQ
  · exact oput3_any b Q attrs m v bx r w0 w h2 hF hM hBD hw hk hb hQ
  · exact oput4_any b Q attrs m v bx r w0 w h2 hF hM hBD hw hk hb hQ
  · exact oput5_any b Q attrs m v bx r w0 w h2 hF hM hBD hw hk hb hQ
  · exact oput6_any b Q attrs m v bx r w0 w h2 hF hM hBD hw hk hb hQ
theorem tailM_le {attrs : Int} {m : Msg} (h : RightF attrs m) : (tailM m).length ≤ 490000 := by
  have hk := h.kind
  have ha := h.a
  unfold tailM
  by_cases h1 : m.kind = 1
  · have := (h.vals (by omega)).1
    rw [if_pos h1]
    unfold entM
    rw [List.length_append, List.length_append, be_len, be_len, recP_len]
    simp only []
    omega
  rw [if_neg h1]
  by_cases h2 : m.kind = 2 ∨ m.kind = 3
  · have := (h.vals (by omega)).1
    rw [if_pos h2]
    unfold entM
    rw [List.length_append, List.length_append, List.length_append, be_len, be_len, be_len, recP_len]
    simp only []
    omega
  rw [if_neg h2]
  by_cases h4 : m.kind = 4
  · have := (h.vals (by omega)).1
    rw [if_pos h4]
    unfold entM
    rw [List.length_append, be_len, recP_len]
    simp only []
    omega
  rw [if_neg h4]
  by_cases h5 : m.kind = 5
  · have := (h.box h5).1
    rw [if_pos h5, List.length_append, List.length_append, List.length_append, be_len, be_len, be_len, packV_len]
    omega
  rw [if_neg h5]
  have h6 := h.recs (by omega)
  have e := recsP_le (l := m.recs) (n := 8) (fun x hx => by have := h6.2 x hx; omega)
  rw [List.length_append, List.length_append, List.length_append, be_len, be_len, be_len]
  omega
set_option maxRecDepth 100000 in
set_option maxHeartbeats 4000000 in
theorem ompack_row (attrs : Int) (m : Msg) (v b r : Value) (w : World) (h : MRd w m v b r) (hb : MB m) :
    Calls Try.prog 12 #[.int .i64 attrs, .agg (mcs m v b r).toArray] w (PkPost attrs m w) := by
  have hz : ∀ w, (zeroValue 69).run Try.prog w = .ok (.agg wnew.toArray) w := fun w => run_zero_of (n := 66) wnew_info w
  have hk0 : Below w.heap.size w (w.alloc (.cells (mcs m v b r).toArray 34)) := more (Below.refl _ _) _
  have HBK := Lib.hid (Blk.new w 34 (mcs m v b r).toArray)
  have HK := Lib.hid hk0
  have HM := Lib.hid (h.keep hk0)
  have HBD := Lib.hid hb
  clear hk0 h hb
  go_enter Try.func12, Try.ntmps12
  go_upto_region 1 with fail
  generalize w.alloc (.cells (mcs m v b r).toArray 34) = w1 at *
  obtain ⟨g, hg⟩ : ∃ g, g = w.heap.size := ⟨_, rfl⟩
  rw [← hg] at HBK ⊢
  clear hg
  have HC := Lib.hid (omright_any attrs m v b r w1 HM.out HBD.out)
  cases hr : rightM attrs m with
  | false =>
    rw [hr] at HC
    have HR := Lib.hid hr
    clear hr
    go_wp2_with (first | (refine wpList_load_row rfl 34 (.tmp 3) rfl g rfl 34 (mcs m v b r).toArray (0, 0) _ HBK.out Try.underlying34 rfl msg_info ?_) | (go_at_call 16; refine HC.out.mono ?_; rintro e w2 ⟨rfl, hk2⟩))
    go_ret2
    exact .inl ⟨HR.out, rfl, nest HK.out hk2⟩
  | true =>
    rw [hr] at HC
    have HR := Lib.hid hr
    have HF := Lib.hid (right_f hr)
    clear hr
    go_upto_region 3 with (first | (refine wpList_load_row rfl 34 (.tmp 3) rfl g rfl 34 (mcs m v b r).toArray (0, 0) _ HBK.out Try.underlying34 rfl msg_info ?_) | (go_at_call 16; refine HC.out.mono ?_; rintro e w2 ⟨rfl, hk2⟩))
    have HB2 := Lib.hid (HBK.out.keep hk2)
    have HM2 := Lib.hid (HM.out.keep hk2)
    have HK2 := Lib.hid (nest HK.out hk2)
    clear HBK HM HK HC hk2
    have kk := HF.out.kind
    have kh := HF.out.hub
    have kc' := HF.out.client
    have ko := HF.out.op
    have ka := HF.out.a
    have kp : 0 ≤ m.point ∧ m.point ≤ 4294967295 := HBD.out.point
    have u0 : IntKind.u64.wrap m.kind = m.kind := IntWalk.u64_in _ (by omega)
    have u1 : IntKind.u64.wrap m.hub = m.hub := IntWalk.u64_in _ (by omega)
    have u3 : IntKind.u64.wrap m.client = m.client := IntWalk.u64_in _ (by omega)
    have u4 : IntKind.u64.wrap m.op = m.op := IntWalk.u64_in _ (by omega)
    have u2 : IntKind.u64.wrap m.point = m.point := IntWalk.u64_in _ (by omega)
    have B0 := Lib.hid (show 0 ≤ m.kind ∧ m.kind ≤ 18446744073709551615 by omega)
    have B1 := Lib.hid (show 0 ≤ m.hub ∧ m.hub ≤ 18446744073709551615 by omega)
    have B3 := Lib.hid (show 0 ≤ m.client ∧ m.client ≤ 18446744073709551615 by omega)
    have B4 := Lib.hid (show 0 ≤ m.op ∧ m.op ≤ 18446744073709551615 by omega)
    have B2 := Lib.hid (show 0 ≤ m.point ∧ m.point ≤ 18446744073709551615 by omega)
    clear kk kh kc' ko ka kp
    have HWN := Lib.hid (wr_new w2)
    have hX : Below w2.heap.size w2 (w2.alloc (.cells wnew.toArray 69)) := more (Below.refl _ _) _
    have HBK := Lib.hid (HB2.out.keep hX)
    have HS0 := Lib.hid hX
    have HNE0 : Hid (g < w2.heap.size) := Lib.hid HB2.out.lt
    clear hX
    go_upto_region 4 with fail
    clear hz
    generalize w2.alloc (.cells wnew.toArray 69) = z0 at *
    obtain ⟨bw, hbw⟩ : ∃ bw, bw = w2.heap.size := ⟨_, rfl⟩
    rw [← hbw] at HWN ⊢
    have HNE : Hid (g ≠ bw) := Lib.hid (by have := HNE0.out; omega)
    have HBW : Hid (w2.heap.size ≤ bw) := Lib.hid (by omega)
    clear hbw HNE0
    obtain ⟨Q0, hQ0⟩ : ∃ Q0 : List Int, Q0 = [] := ⟨_, rfl⟩
    rw [← hQ0] at HWN
    have HE0 := Lib.hid hQ0
    have HL0 : Hid (Q0.length ≤ 0) := Lib.hid (by rw [hQ0]; simp)
    have HW0 := HWN
    have HS0' := HS0
    clear hQ0 HWN
    have c0 : z0.cell? ⟨g, 0, none⟩ = some (.int .i64 m.kind) := HBK.out.cell 0
    go_upto_region 5 with (go_at_call 28; refine (oput_any bw Q0 m.kind 1 B0.out _ HW0.out (by have := HL0.out; omega)).mono ?_; rintro e z1 ⟨⟨u, rfl⟩, hw1, ho1⟩)
    rw [sz1] at hw1
    obtain ⟨Q1, hQ1⟩ : ∃ q, q = Q0 ++ be 1 m.kind := ⟨_, rfl⟩
    rw [← hQ1] at hw1
    have HE1 := Lib.hid hQ1
    have HL1 : Hid (Q1.length ≤ 1) := Lib.hid (by rw [hQ1, List.length_append, be_len]; have := HL0.out; omega)
    have HW1 := Lib.hid hw1
    have HS1 := Lib.hid (HS0.out.trans (ho1.below HBW.out HS0.out.size))
    have HBK := Lib.hid (HBK.out.only ho1 HNE.out)
    clear hw1 ho1 hQ1 c0
    have c1 : z1.cell? ⟨g, 1, none⟩ = some (.int .i64 m.hub) := HBK.out.cell 1
    go_upto_region 6 with (go_at_call 28; refine (oput_any bw Q1 m.hub 1 B1.out _ HW1.out (by have := HL1.out; omega)).mono ?_; rintro e z2 ⟨⟨u, rfl⟩, hw2, ho2⟩)
    rw [sz1] at hw2
    obtain ⟨Q2, hQ2⟩ : ∃ q, q = Q1 ++ be 1 m.hub := ⟨_, rfl⟩
    rw [← hQ2] at hw2
    have HE2 := Lib.hid hQ2
    have HL2 : Hid (Q2.length ≤ 2) := Lib.hid (by rw [hQ2, List.length_append, be_len]; have := HL1.out; omega)
    have HW2 := Lib.hid hw2
    have HS2 := Lib.hid (HS1.out.trans (ho2.below HBW.out HS1.out.size))
    have HBK := Lib.hid (HBK.out.only ho2 HNE.out)
    clear hw2 ho2 hQ2 c1
    have c3 : z2.cell? ⟨g, 3, none⟩ = some (.int .i64 m.client) := HBK.out.cell 3
    go_upto_region 7 with (go_at_call 28; refine (oput_any bw Q2 m.client 1 B3.out _ HW2.out (by have := HL2.out; omega)).mono ?_; rintro e z3 ⟨⟨u, rfl⟩, hw3, ho3⟩)
    rw [sz1] at hw3
    obtain ⟨Q3, hQ3⟩ : ∃ q, q = Q2 ++ be 1 m.client := ⟨_, rfl⟩
    rw [← hQ3] at hw3
    have HE3 := Lib.hid hQ3
    have HL3 : Hid (Q3.length ≤ 3) := Lib.hid (by rw [hQ3, List.length_append, be_len]; have := HL2.out; omega)
    have HW3 := Lib.hid hw3
    have HS3 := Lib.hid (HS2.out.trans (ho3.below HBW.out HS2.out.size))
    have HBK := Lib.hid (HBK.out.only ho3 HNE.out)
    clear hw3 ho3 hQ3 c3
    have c4 : z3.cell? ⟨g, 4, none⟩ = some (.int .i64 m.op) := HBK.out.cell 4
    go_upto_region 8 with (go_at_call 28; refine (oput_any bw Q3 m.op 2 B4.out _ HW3.out (by have := HL3.out; omega)).mono ?_; rintro e z4 ⟨⟨u, rfl⟩, hw4, ho4⟩)
    rw [sz2] at hw4
    obtain ⟨Q4, hQ4⟩ : ∃ q, q = Q3 ++ be 2 m.op := ⟨_, rfl⟩
    rw [← hQ4] at hw4
    have HE4 := Lib.hid hQ4
    have HL4 : Hid (Q4.length ≤ 5) := Lib.hid (by rw [hQ4, List.length_append, be_len]; have := HL3.out; omega)
    have HW4 := Lib.hid hw4
    have HS4 := Lib.hid (HS3.out.trans (ho4.below HBW.out HS3.out.size))
    have HBK := Lib.hid (HBK.out.only ho4 HNE.out)
    clear hw4 ho4 hQ4 c4
    have c2 : z4.cell? ⟨g, 2, none⟩ = some (.int .u32 m.point) := HBK.out.cell 2
    go_upto_region 9 with (go_at_call 28; refine (oput_any bw Q4 m.point 4 B2.out _ HW4.out (by have := HL4.out; omega)).mono ?_; rintro e z5 ⟨⟨u, rfl⟩, hw5, ho5⟩)
    rw [sz4'] at hw5
    obtain ⟨Q5, hQ5⟩ : ∃ q, q = Q4 ++ be 4 m.point := ⟨_, rfl⟩
    rw [← hQ5] at hw5
    have HE5 := Lib.hid hQ5
    have HL5 : Hid (Q5.length ≤ 9) := Lib.hid (by rw [hQ5, List.length_append, be_len]; have := HL4.out; omega)
    have HW5 := Lib.hid hw5
    have HS5 := Lib.hid (HS4.out.trans (ho5.below HBW.out HS4.out.size))
    have HBK := Lib.hid (HBK.out.only ho5 HNE.out)
    clear hw5 ho5 hQ5 c2
    have HQH : Hid (Q5 = headM m) := Lib.hid (by
      unfold headM
      rw [HE5.out, HE4.out, HE3.out, HE2.out, HE1.out, HE0.out]
      simp only [List.append_assoc, List.nil_append])
    go_upto_region 10 with (first | (refine wpList_load_row rfl 34 (.tmp 3) rfl g rfl 34 (mcs m v b r).toArray (0, 0) _ HBK.out Try.underlying34 rfl msg_info ?_) | (go_at_call 29; refine (oputparts_any bw Q5 attrs m v b r w2 z5 HF.out HM2.out HBD.out HW5.out HS5.out HBW.out (by have := HL5.out; omega)).mono ?_; rintro e z6 ⟨⟨u6, rfl⟩, hw6, ho6⟩))
    have HP : Hid (Q5 ++ tailM m = packM m) := Lib.hid (by rw [HQH.out]; rfl)
    rw [HP.out] at hw6
    have HLP : Hid ((packM m).length ≤ 1000000) := Lib.hid (by rw [← HP.out, List.length_append]; have := HL5.out; have := tailM_le HF.out; omega)
    have HW6 := Lib.hid hw6
    have HS6 := Lib.hid (HS5.out.trans (ho6.below HBW.out HS5.out.size))
    clear hw6 ho6
    obtain ⟨R, hRR⟩ : ∃ R, R = packM m := ⟨_, rfl⟩
    rw [← hRR] at HW6 HLP
    have HRR := Lib.hid hRR
    clear hRR HP
    go_wp2_with (go_at_call 30; refine (obytes_any bw R z6 HW6.out HLP.out).mono ?_; rintro e z7 ⟨v7, rfl, hr7, hk7⟩; have HR7 := Lib.hid (hr7.mono (show w.heap.size ≤ z6.heap.size by have := HS6.out.size; have := HK2.out.size; omega)); obtain ⟨a7, c7, rfl, _, _⟩ := hr7.rd.form; clear hr7)
    go_ret2
    exact .inr ⟨HR.out, _, rfl, by rw [← HRR.out]; exact HR7.out, nest HK2.out (nest HS6.out hk7)⟩
/-- what Pack hands out -/
def OPkPost (attrs : Int) (m : Msg) (w : World) (e : Ending) (w' : World) : Prop :=
  (rightM attrs m = false ∧ (∃ a c, e = .returned (.tuple #[.slice a 0 c, .int .i64 4]) ∧ c ≤ maxLen) ∧ Below w.heap.size w w') ∨
  (rightM attrs m = true ∧ (∃ v, e = .returned (.tuple #[v, .int .i64 0]) ∧ Rd (intE .u8) w' v (packM m)) ∧ Below w.heap.size w w')
theorem ompack_any (attrs : Int) (m : Msg) (v b r : Value) (w : World) (h : MRd w m v b r) (hb : MB m) :
    Calls Try.prog 12 #[.int .i64 attrs, .agg (mcs m v b r).toArray] w (OPkPost attrs m w) :=
  (ompack_row attrs m v b r w h hb).mono fun e w' h => by
    rcases h with ⟨h1, h2, h3⟩ | ⟨h1, x, h2, h4, h3⟩
    · exact .inl ⟨h1, ⟨none, 0, h2, Nat.zero_le _⟩, h3⟩
    · exact .inr ⟨h1, ⟨x, h2, h4.rd⟩, h3⟩
end Go.Proofs.Ythhelhhlofdehaa
/- Package message: Take of what is too short, or of attributes that may not be. -/
namespace Go.Proofs.Ythhelhhlofdehaa
open Go.RowKit Mem
set_option linter.unusedSimpArgs false
set_option linter.unusedVariables false
attribute [local irreducible] Go.Calls

def zeroM : Msg := ⟨0, 0, 0, 0, 0, 0, 0, 0, 0, 0, 0, 0, [], false, 0, 0, [], []⟩
def zcs : List Value := [.int .i64 0, .int .i64 0, .int .u32 0, .int .i64 0, .int .i64 0, .int .u32 0, .int .i64 0, .int .u32 0, .int .i64 0, .int .u32 0, .int .u64 0, .int .u64 0, .slice none 0 0, .bool false, .int .u32 0, .int .u32 0, .slice none 0 0, .slice none 0 0]
theorem zcs_one : zcs.toArray.all (fun x => x.oneCell') = true := by simp [zcs, Value.oneCell']
theorem zcs_eq : zcs = mcs zeroM (.slice none 0 0) (.slice none 0 0) (.slice none 0 0) := rfl
theorem zero_rd (w : World) : MRd w zeroM (.slice none 0 0) (.slice none 0 0) (.slice none 0 0) := ⟨Rd.nil _ _ (by unfold maxLen; omega), Rd.nil _ _ (by unfold maxLen; omega), ⟨none, 0, rfl, Nat.le_refl _, Nat.zero_le _, fun h => absurd h (by simp [zeroM])⟩⟩
/-- what hands out no message, for that reason -/
def NonePost (err : Int) (w : World) (e : Ending) (w' : World) : Prop := e = .returned (.tuple #[.agg zcs.toArray, .int .i64 err]) ∧ Below w.heap.size w w'
set_option maxRecDepth 100000 in
set_option maxHeartbeats 2000000 in
theorem omread_short (attrs : Int) (v : Value) (l : List Int) (w : World) (h : Rd (intE .u8) w v l) (hl : l.length < 9) :
    Calls Try.prog 36 #[.int .i64 attrs, v] w (NonePost 3 w) := by
  obtain ⟨a, c, rfl, _, _⟩ := h.form
  have hst := heap_alloc_new w (.cells zcs.toArray 34)
  go_enter Try.func36, Try.ntmps36
  go_upto_if 99 with (refine wpList_store_row rfl 34 (.tmp 4) (.tmp 13) rfl w.heap.size zcs.toArray rfl rfl 34 _ hst msg_info rfl zcs_one ?_)
  (try rw [World.setRow_alloc_new])
  refine bodyPost_ret (results_blk_tmp (l := zcs) rfl Try.underlying34 msg_info rfl rfl (Blk.new _ _ _)) rfl ?_
  exact ⟨rfl, more (Below.refl _ _) _⟩
theorem Only.row {b : Nat} (w : World) (cs : Array Value) : Only b w (w.setRow b cs) :=
  ⟨rfl, rfl, rfl, by simp, fun k _ hne => setRow_other w b k cs (fun e => hne (by rw [e]))⟩
theorem Blk.row {w : World} {g : Nat} {t : TypeId} {old : Array Value} (h : Blk w g t old) (cs : Array Value) : Blk (w.setRow g cs) g t cs := setRow_heap w g old cs t (0, 0) h
theorem rd_one {α : Type} {E : Enc α} {w : World} {v : Value} {l : List α} (h : Rd E w v l) : v.oneCell' = true := by
  obtain ⟨a, c, rfl, _, _⟩ := h.form
  rfl
theorem kd_one {w : World} {v : Value} {l : List (Int × Int × List Int)} (h : recsK.rd w [v] l) : v.oneCell' = true := by
  obtain ⟨a, g, o, c, rfl, _⟩ := kd_loop h
  rfl
theorem mcs_one {w : World} {m : Msg} {v b r : Value} (h : MRd w m v b r) : (mcs m v b r).toArray.all (fun x => x.oneCell') = true := by
  have h1 := rd_one h.vals
  have h2 := rd_one h.box
  have h3 := kd_one h.recs
  simp [mcs, h1, h2, h3]
  simp [Value.oneCell']
set_option maxRecDepth 100000 in
set_option maxHeartbeats 2000000 in
theorem omtake_bad (attrs : Int) (v : Value) (w : World) (ha : decide (1 ≤ attrs ∧ attrs ≤ 8) = false) : Calls Try.prog 14 #[.int .i64 attrs, v] w (NonePost 1 w) := by
  have hst := heap_alloc_new w (.cells zcs.toArray 34)
  have hX : Below w.heap.size w (w.alloc (.cells zcs.toArray 34)) := more (Below.refl _ _) _
  have HX := Lib.hid hX
  have HB4 : Hid (Blk (w.alloc (.cells zcs.toArray 34)) w.heap.size 34 zcs.toArray) := Lib.hid hst
  have HC : Hid (∀ z, Calls Try.prog 35 #[.int .i64 attrs] z fun e w' => e = .returned (.bool false) ∧ Below z.heap.size z w') := Lib.hid (fun z => by rw [← ha]; exact orattrs_any attrs z)
  clear hst hX ha
  go_enter Try.func14, Try.ntmps14
  go_upto_region 1 with fail
  have hzz : w.alloc (.cells zcs.toArray 34) = w.alloc (.cells #[.int .i64 0, .int .i64 0, .int .u32 0, .int .i64 0, .int .i64 0, .int .u32 0, .int .i64 0, .int .u32 0, .int .i64 0, .int .u32 0, .int .u64 0, .int .u64 0, .slice none 0 0, .bool false, .int .u32 0, .int .u32 0, .slice none 0 0, .slice none 0 0] 34) := rfl
  rw [← hzz]
  clear hzz
  generalize w.alloc (.cells zcs.toArray 34) = w1 at *
  obtain ⟨g4, hg4⟩ : ∃ g4, g4 = w.heap.size := ⟨_, rfl⟩
  rw [← hg4] at HB4 ⊢
  have HG4 := Lib.hid hg4
  clear hg4
  go_upto_if 99 with (first | (go_at_call 35; refine (HC.out _).mono ?_; rintro e w2 ⟨rfl, hk2⟩) | (refine wpList_store_row rfl 34 (.tmp 4) (.tmp 13) rfl g4 zcs.toArray rfl rfl 34 _ (HB4.out.keep hk2) msg_info rfl zcs_one ?_))
  refine bodyPost_ret (results_blk_tmp (l := zcs) rfl Try.underlying34 msg_info rfl rfl (Blk.row (HB4.out.keep hk2) _)) rfl ?_
  exact ⟨rfl, (nest HX.out hk2).trans ((Only.row w2 _).below (by rw [HG4.out]; exact Nat.le_refl _) (nest HX.out hk2).size)⟩
set_option maxRecDepth 100000 in
set_option maxHeartbeats 2000000 in
theorem omtake_err (attrs err : Int) (v : Value) (w : World) (ha : decide (1 ≤ attrs ∧ attrs ≤ 8) = true) (he : err ≠ 0)
    (HR : ∀ z, Below w.heap.size w z → Calls Try.prog 36 #[.int .i64 attrs, v] z fun e w' => (∃ m v' b' r', e = .returned (.tuple #[.agg (mcs m v' b' r').toArray, .int .i64 err]) ∧ MRd w' m v' b' r') ∧ Below z.heap.size z w') :
    Calls Try.prog 14 #[.int .i64 attrs, v] w (NonePost err w) := by
  have hst := heap_alloc_new w (.cells zcs.toArray 34)
  have hX : Below w.heap.size w (w.alloc (.cells zcs.toArray 34)) := more (Below.refl _ _) _
  have HX := Lib.hid hX
  have HB4 : Hid (Blk (w.alloc (.cells zcs.toArray 34)) w.heap.size 34 zcs.toArray) := Lib.hid hst
  have HC : Hid (∀ z, Calls Try.prog 35 #[.int .i64 attrs] z fun e w' => e = .returned (.bool true) ∧ Below z.heap.size z w') := Lib.hid (fun z => by rw [← ha]; exact orattrs_any attrs z)
  have HRR := Lib.hid HR
  have hen : (err != 0) = true := by simpa using he
  clear hst hX ha HR he
  go_enter Try.func14, Try.ntmps14
  go_upto_region 1 with fail
  have hzz : w.alloc (.cells zcs.toArray 34) = w.alloc (.cells #[.int .i64 0, .int .i64 0, .int .u32 0, .int .i64 0, .int .i64 0, .int .u32 0, .int .i64 0, .int .u32 0, .int .i64 0, .int .u32 0, .int .u64 0, .int .u64 0, .slice none 0 0, .bool false, .int .u32 0, .int .u32 0, .slice none 0 0, .slice none 0 0] 34) := rfl
  rw [← hzz]
  clear hzz
  generalize w.alloc (.cells zcs.toArray 34) = w1 at *
  obtain ⟨g4, hg4⟩ : ∃ g4, g4 = w.heap.size := ⟨_, rfl⟩
  rw [← hg4] at HB4 ⊢
  have HG4 := Lib.hid hg4
  clear hg4
  go_upto_region 4 with (first | (go_at_call 35; refine (HC.out _).mono ?_; rintro e w2 ⟨rfl, hk2⟩) | (go_at_call 36; refine (HRR.out _ (nest HX.out hk2)).mono ?_; rintro e w3 ⟨⟨m, v', b', r', rfl, hm3⟩, hk3⟩) | (refine wpList_store_row rfl 34 (.tmp 6) (.tmp 18) rfl w3.heap.size (mcs m v' b' r').toArray rfl rfl 34 _ (heap_alloc_new w3 _) msg_info rfl (mcs_one hm3) ?_))
  (try rw [World.setRow_alloc_new])
  have HB5 := Lib.hid (((HB4.out.keep hk2).keep hk3).keep (more (Below.refl w3.heap.size w3) (.cells (mcs m v' b' r').toArray 34)))
  have HX5 := Lib.hid (nest (nest (nest HX.out hk2) hk3) (more (Below.refl w3.heap.size w3) (.cells (mcs m v' b' r').toArray 34)))
  generalize w3.alloc (.cells (mcs m v' b' r').toArray 34) = w5 at *
  clear hm3 hk2 hk3 HX HB4
  go_upto_if 99 with (refine wpList_store_row rfl 34 (.tmp 4) (.tmp 22) rfl g4 zcs.toArray rfl rfl 34 _ HB5.out msg_info rfl zcs_one ?_)
  refine bodyPost_ret (results_blk_tmp (l := zcs) rfl Try.underlying34 msg_info rfl rfl (Blk.row HB5.out _)) rfl ?_
  exact ⟨rfl, HX5.out.trans ((Only.row w5 _).below (by rw [HG4.out]; exact Nat.le_refl _) HX5.out.size)⟩
theorem omtake_short (attrs : Int) (v : Value) (l : List Int) (w : World) (ha : decide (1 ≤ attrs ∧ attrs ≤ 8) = true) (h : Rd (intE .u8) w v l) (hl : l.length < 9) : Calls Try.prog 14 #[.int .i64 attrs, v] w (NonePost 3 w) :=
  omtake_err attrs 3 v w ha (by decide) (fun z hz => (omread_short attrs v l z (h.keep hz) hl).mono fun e w' h => ⟨⟨zeroM, _, _, _, by rw [h.1, zcs_eq], zero_rd w'⟩, h.2⟩)
theorem omtake_nil (w : World) : Calls Try.prog 14 #[.int .i64 1, .slice none 0 0] w fun e w' => (∃ v b r, e = .returned (.tuple #[.agg (mcs zeroM v b r).toArray, .int .i64 3]) ∧ MRd w' zeroM v b r) ∧ Below w.heap.size w w' :=
  (omtake_short 1 (.slice none 0 0) [] w rfl (Rd.nil _ _ (by unfold maxLen; omega)) (by simp)).mono fun e w' h => ⟨⟨_, _, _, by rw [h.1, zcs_eq], zero_rd w'⟩, h.2⟩
end Go.Proofs.Ythhelhhlofdehaa
