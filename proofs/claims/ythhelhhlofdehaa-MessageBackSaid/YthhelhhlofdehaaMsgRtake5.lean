/- The document's answer for package message: Take, of kind 5 and 6 (written by genreftake.py). -/
import Derived.Test.YthhelhhlofdehaaMsgRtakeH
set_option maxRecDepth 4000
namespace Go.Proofs.Ythhelhhlofdehaa
open Go.RowKit Mem
set_option linter.unusedSimpArgs false
set_option linter.unusedVariables false
attribute [local irreducible] Go.Calls
set_option maxRecDepth 100000 in
set_option maxHeartbeats 4000000 in
theorem rtake5_any (a : Nat) (v : Value) (l : List Int) (w : World) (h : Rd (intE .u8) w v l) (hlm : l.length ≤ 1000000) (hb : Byt l) (ha : 1 ≤ a ∧ a ≤ 8) (h9 : 9 ≤ l.length) (hq : gq l 0 1 = 5) :
    Calls Try.prog 15 #[.int .i64 a, v] w (MTakePost (takeK 5 a l) w) := by
  obtain ⟨av, cv, rfl, _, _⟩ := h.form
  obtain ⟨RES, hRES⟩ : ∃ R, R = takeK 5 a l := ⟨_, rfl⟩
  rw [← hRES]
  have HRES := Lib.hid hRES
  have hX : Below w.heap.size w (w.alloc (.cells zcs.toArray 34)) := more (Below.refl _ _) _
  have HB4 : Hid (Blk (w.alloc (.cells zcs.toArray 34)) w.heap.size 34 zcs.toArray) := Lib.hid (heap_alloc_new w (.cells zcs.toArray 34))
  have HKA := Lib.hid hX
  have HV := Lib.hid h
  have HVA := Lib.hid (h.keep hX)
  have HBY := Lib.hid hb
  have HL := Lib.hid hlm
  have HA := Lib.hid ha
  have H9 := Lib.hid h9
  have HQ := Lib.hid hq
  have d1 : decide ((a : Int) < 1) = false := decide_eq_false (by omega)
  have d2 : decide ((a : Int) > 8) = false := decide_eq_false (by omega)
  clear hRES hX h hb hlm ha h9 hq
  go_enter Try.func15, Try.ntmps15
  go_upto_region 1 with fail
  have hzz : w.alloc (.cells zcs.toArray 34) = w.alloc (.cells #[.int .i64 0, .int .i64 0, .int .u32 0, .int .i64 0, .int .i64 0, .int .u32 0, .int .i64 0, .int .u32 0, .int .i64 0, .int .u32 0, .int .u64 0, .int .u64 0, .slice none 0 0, .bool false, .int .u32 0, .int .u32 0, .slice none 0 0, .slice none 0 0] 34) := rfl
  rw [← hzz]
  clear hzz
  generalize w.alloc (.cells zcs.toArray 34) = w1 at *
  obtain ⟨g4, hg4⟩ : ∃ g4, g4 = w.heap.size := ⟨_, rfl⟩
  rw [← hg4] at HB4 ⊢
  have HW4 : Hid (w.heap.size ≤ g4) := Lib.hid (by omega)
  clear hg4
  go_upto_region 4 with fail
  clear d1 d2
  have hX3 : Below w1.heap.size w1 (w1.alloc (.cells #[.slice av l.length cv, .int .i64 0, .int .i64 0] 80)) := more (Below.refl _ _) _
  have HR0 : Hid (RdrQ (w1.alloc (.cells #[.slice av l.length cv, .int .i64 0, .int .i64 0] 80)) w1.heap.size (.slice av l.length cv) l 0) := Lib.hid (RdrQ.start (Blk.new _ _ _) (HVA.out.keep hX3) (rd_ne HVA.out))
  have HB40 := Lib.hid (HB4.out.keep hX3)
  have HK0 := Lib.hid (nest HKA.out hX3)
  have H4b : Hid (g4 ≠ w1.heap.size) := Lib.hid (by have := HB4.out.lt; omega)
  have HWb : Hid (w.heap.size ≤ w1.heap.size) := Lib.hid HKA.out.size
  clear hX3 HB4 HKA HVA
  generalize w1.alloc (.cells #[.slice av l.length cv, .int .i64 0, .int .i64 0] 80) = y0 at *
  obtain ⟨b, hbb⟩ : ∃ b, b = w1.heap.size := ⟨_, rfl⟩
  rw [← hbb] at HR0 H4b HWb ⊢
  clear hbb
  have b0 := gq1 HBY.out 0
  have b1 := gq1 HBY.out (0 + 1)
  have b2 := gq1 HBY.out (0 + 1 + 1)
  have b3 := gq2 HBY.out (0 + 1 + 1 + 1)
  have b4 := gq4 HBY.out (0 + 1 + 1 + 1 + 2)
  have x0 : IntKind.i64.wrap (gq l 0 1) = gq l 0 1 := IntWalk.i64_in _ (by omega)
  have x1 : IntKind.i64.wrap (gq l (0 + 1) 1) = gq l (0 + 1) 1 := IntWalk.i64_in _ (by omega)
  have x2 : IntKind.i64.wrap (gq l (0 + 1 + 1) 1) = gq l (0 + 1 + 1) 1 := IntWalk.i64_in _ (by omega)
  have x3 : IntKind.i64.wrap (gq l (0 + 1 + 1 + 1) 2) = gq l (0 + 1 + 1 + 1) 2 := IntWalk.i64_in _ (by omega)
  have x4 : IntKind.u32.wrap (gq l (0 + 1 + 1 + 1 + 2) 4) = gq l (0 + 1 + 1 + 1 + 2) 4 := IntWalk.u32_in _ (by omega)
  clear b0 b1 b2 b3 b4
  go_upto_region 5 with (first | (go_at_call 38; refine (rgetq b (.slice av l.length cv) l (0) 1 sz1 _ HR0.out HL.out HBY.out).mono ?_; rintro e y1 ⟨rfl, hr1, ho1⟩) | (go_at_call 38; refine (rgetq b (.slice av l.length cv) l (0 + 1) 1 sz1 _ hr1 HL.out HBY.out).mono ?_; rintro e y2 ⟨rfl, hr2, ho2⟩) | (go_at_call 38; refine (rgetq b (.slice av l.length cv) l (0 + 1 + 1) 1 sz1 _ hr2 HL.out HBY.out).mono ?_; rintro e y3 ⟨rfl, hr3, ho3⟩) | (go_at_call 38; refine (rgetq b (.slice av l.length cv) l (0 + 1 + 1 + 1) 2 sz2 _ hr3 HL.out HBY.out).mono ?_; rintro e y4 ⟨rfl, hr4, ho4⟩) | (go_at_call 38; refine (rgetq b (.slice av l.length cv) l (0 + 1 + 1 + 1 + 2) 4 sz4' _ hr4 HL.out HBY.out).mono ?_; rintro e y5 ⟨rfl, hr5, ho5⟩) | (refine at_store 7 rfl ?_; refine wpList_store_row rfl 34 (.tmp 7) (.tmp 39) rfl y5.heap.size (mcs (headQ l) (.slice none 0 0) (.slice none 0 0) (.slice none 0 0)).toArray rfl rfl 34 _ (heap_alloc_new y5 _) msg_info rfl (by simp [mcs, Value.oneCell']) ?_))
  (try rw [World.setRow_alloc_new])
  clear x0 x1 x2 x3 x4
  have hX : Below y5.heap.size y5 (y5.alloc (.cells (mcs (headQ l) (.slice none 0 0) (.slice none 0 0) (.slice none 0 0)).toArray 34)) := more (Below.refl _ _) _
  have ho : Only b y0 y5 := (((ho1.trans ho2).trans ho3).trans ho4).trans ho5
  have HBK : Hid (Blk (y5.alloc (.cells (mcs (headQ l) (.slice none 0 0) (.slice none 0 0) (.slice none 0 0)).toArray 34)) y5.heap.size 34 (mcs (headQ l) (.slice none 0 0) (.slice none 0 0) (.slice none 0 0)).toArray) := Lib.hid (Blk.new y5 34 (mcs (headQ l) (.slice none 0 0) (.slice none 0 0) (.slice none 0 0)).toArray)
  have HB4 := Lib.hid ((HB40.out.only ho H4b.out).keep hX)
  have HR : Hid (RdrQ (y5.alloc (.cells (mcs (headQ l) (.slice none 0 0) (.slice none 0 0) (.slice none 0 0)).toArray 34)) b (.slice av l.length cv) l 9) := Lib.hid (hr5.keep hX)
  have HK := Lib.hid (nest (HK0.out.trans (ho.below HWb.out HK0.out.size)) hX)
  have H47 : Hid (g4 ≠ y5.heap.size) := Lib.hid (by have := HB40.out.lt; have := ho.size; omega)
  have H7b : Hid (y5.heap.size ≠ b) := Lib.hid (by have := hr5.lt; omega)
  have HW7 : Hid (w.heap.size ≤ y5.heap.size) := Lib.hid (HK0.out.trans (ho.below HWb.out HK0.out.size)).size
  obtain ⟨B0, hB0⟩ : ∃ B, B = (y5.alloc (.cells (mcs (headQ l) (.slice none 0 0) (.slice none 0 0) (.slice none 0 0)).toArray 34)).heap.size := ⟨_, rfl⟩
  have HS : Hid (B0 ≤ (y5.alloc (.cells (mcs (headQ l) (.slice none 0 0) (.slice none 0 0) (.slice none 0 0)).toArray 34)).heap.size) := Lib.hid (by omega)
  have HPA : Hid (PA B0 (y5.alloc (.cells (mcs (headQ l) (.slice none 0 0) (.slice none 0 0) (.slice none 0 0)).toArray 34)) (headQ l) (.slice none 0 0) (.slice none 0 0) (.slice none 0 0)) := Lib.hid ⟨by rw [(headQ_ok HBY.out).vals]; exact Row.nil, by rw [(headQ_ok HBY.out).box]; exact Row.nil, by rw [(headQ_ok HBY.out).recs]; exact recsAt_nil _ _⟩
  have HbB : Hid (b < B0) := Lib.hid (by rw [hB0]; exact HR.out.lt)
  have H7B : Hid (y5.heap.size < B0) := Lib.hid (by rw [hB0]; exact HBK.out.lt)
  have H4B : Hid (g4 < B0) := Lib.hid (by rw [hB0]; exact HB4.out.lt)
  clear hX ho ho1 ho2 ho3 ho4 ho5 hr1 hr2 hr3 hr4 hr5 HR0 HB40 HK0 hB0
  generalize y5.alloc (.cells (mcs (headQ l) (.slice none 0 0) (.slice none 0 0) (.slice none 0 0)).toArray 34) = z at *
  obtain ⟨g7, hg7⟩ : ∃ g7, g7 = y5.heap.size := ⟨_, rfl⟩
  rw [← hg7] at HBK H47 H7b HW7 H7B ⊢
  clear hg7
  have Hb7 : Hid (b ≠ g7) := Lib.hid (fun e => H7b.out e.symm)
  have HQK : Hid ((headQ l).kind = 5) := Lib.hid HQ.out
  have HHB : Hid (0 ≤ (headQ l).hub) := Lib.hid (headQ_ok HBY.out).hub
  obtain ⟨M0, hM0⟩ : ∃ m, m = headQ l := ⟨_, rfl⟩
  rw [← hM0] at HBK HPA
  have HE0 := Lib.hid hM0
  have HF : Hid (firstM M0 = false) := Lib.hid (by rw [hM0]; unfold firstM; rw [HQK.out]; decide)
  clear hM0
  have c2 : z.cell? ⟨b, 2, none⟩ = some (.int .i64 0) := by have := HR.out.err; rwa [if_pos H9.out] at this
  go_upto_region 19 with (first | (refine at_load 7 rfl ?_; refine wpList_load_row rfl 34 (.tmp 7) rfl g7 rfl 34 _ (0, 0) _ HBK.out Try.underlying34 rfl msg_info ?_) | (go_at_call 32; refine (rfirst_any M0 _ _ _ _).mono ?_; rintro e z0 ⟨rfl, hk⟩; rw [HF.out]))
  have HB4n := Lib.hid (HB4.out.keep hk)
  have HBKn := Lib.hid (HBK.out.keep hk)
  have HRn := Lib.hid (HR.out.keep hk)
  have HKn := Lib.hid (nest HK.out hk)
  have HPAn := Lib.hid (HPA.out.keep hk)
  have HSn : Hid (B0 ≤ z0.heap.size) := Lib.hid (Nat.le_trans HS.out hk.size)
  clear HB4 HBK HR HK HPA HS hk
  have HB4 := HB4n
  have HBK := HBKn
  have HR := HRn
  have HK := HKn
  have HPA := HPAn
  have HS := HSn
  clear HB4n HBKn HRn HKn HPAn HSn
  clear c2 HF
  have c0 : z0.cell? ⟨g7, 0, none⟩ = some (.int .i64 5) := by rw [show (Value.int .i64 5) = .int .i64 M0.kind by rw [HE0.out]; exact congrArg _ HQ.out.symm]; exact HBK.out.cell 0
  have bx := gq1 HBY.out (9)
  have wx : IntKind.i64.wrap (gq l (9) 1) = gq l (9) 1 := IntWalk.i64_in _ (by omega)
  clear bx
  go_upto_region 21 with (go_at_call 38; refine (rgetq b (.slice av l.length cv) l (9) 1 sz1 _ HR.out HL.out HBY.out).mono ?_; rintro e y1 ⟨rfl, hr, ho⟩; have hbk := HBK.out.only ho H7b.out; have ec : y1.cell? ⟨g7, 6, none⟩ = some (.int .i64 M0.hops) := hbk.cell 6; have ef := hbk.frozen 6)
  have hos := Only.set (b := g7) y1 6 (.int .i64 (gq l (9) 1))
  obtain ⟨M1, hM1⟩ : ∃ m, m = { M0 with hops := gq l (9) 1 } := ⟨_, rfl⟩
  have hbk2 : Blk (y1.setCell ⟨g7, 6, none⟩ (.int .i64 (gq l (9) 1))) g7 34 (mcs M1 (.slice none 0 0) (.slice none 0 0) (.slice none 0 0)).toArray := by rw [hM1]; exact hbk.set_ 6 _
  have hk2 : Below w.heap.size w (y1.setCell ⟨g7, 6, none⟩ (.int .i64 (gq l (9) 1))) := (HK.out.trans (ho.below HWb.out HK.out.size)).trans (hos.below HW7.out (HK.out.trans (ho.below HWb.out HK.out.size)).size)
  have HKn := Lib.hid hk2
  have HBKn := Lib.hid hbk2
  have HB4n : Hid (Blk (y1.setCell ⟨g7, 6, none⟩ (.int .i64 (gq l (9) 1))) g4 34 zcs.toArray) := Lib.hid ((HB4.out.only ho H4b.out).only hos H47.out)
  have HRn := Lib.hid (hr.mv2 HV.out hk2 (fun cs hc => hc.only hos Hb7.out))
  have HPAn : Hid (PA B0 (y1.setCell ⟨g7, 6, none⟩ (.int .i64 (gq l (9) 1))) M1 (.slice none 0 0) (.slice none 0 0) (.slice none 0 0)) := Lib.hid (by rw [hM1]; exact ⟨((HPA.out.only ho HbB.out).only hos H7B.out).vals, ((HPA.out.only ho HbB.out).only hos H7B.out).box, ((HPA.out.only ho HbB.out).only hos H7B.out).recs⟩)
  have HSn : Hid (B0 ≤ (y1.setCell ⟨g7, 6, none⟩ (.int .i64 (gq l (9) 1))).heap.size) := Lib.hid (Nat.le_trans (Nat.le_trans HS.out ho.size) hos.size)
  have HE1 := Lib.hid hM1
  clear HB4 HBK HR HK HPA HS hbk2 hk2 ho hr
  have HB4 := HB4n
  have HBK := HBKn
  have HR := HRn
  have HK := HKn
  have HPA := HPAn
  have HS := HSn
  clear HB4n HBKn HRn HKn HPAn HSn
  clear ec ef hbk hos hM1
  generalize y1.setCell ⟨g7, 6, none⟩ (.int .i64 (gq l (9) 1)) = z1 at *
  clear wx c0
  have k1 := gq4 HBY.out (9 + 1)
  have k2 := gq4 HBY.out (9 + 1 + 4)
  have wA : IntKind.u32.wrap (gq l (9 + 1) 4) = gq l (9 + 1) 4 := IntWalk.u32_in _ (by omega)
  have wB : IntKind.u32.wrap (gq l (9 + 1 + 4) 4) = gq l (9 + 1 + 4) 4 := IntWalk.u32_in _ (by omega)
  clear k1 k2
  go_upto_region 22 with (first | (go_at_call 38; refine (rgetq b (.slice av l.length cv) l (9 + 1) 4 sz4' _ HR.out HL.out HBY.out).mono ?_; rintro e ya ⟨rfl, hra, hoa⟩) | (go_at_call 38; refine (rgetq b (.slice av l.length cv) l (9 + 1 + 4) 4 sz4' _ hra HL.out HBY.out).mono ?_; rintro e y2 ⟨rfl, hr, hob⟩; have ho := hoa.trans hob; have hbk := HBK.out.only ho H7b.out) | (refine at_store 116 rfl ?_; refine wpList_store_mid rfl 30 (.tmp 116) (.tmp 115) rfl g7 14 #[.int .u32 (gq l (9 + 1) 4), .int .u32 (gq l (9 + 1 + 4) 4)] rfl rfl (there_blk hbk 14 2 (by simp [mcs])) span_info (by simp [Value.oneCell']) ?_))
  obtain ⟨ST, hST⟩ : ∃ S, S = y2.setCells g7 14 [.int .u32 (gq l (9 + 1) 4), .int .u32 (gq l (9 + 1 + 4) 4)] := ⟨_, rfl⟩
  have hos : Only g7 y2 ST := by rw [hST]; exact (Only.set _ 14 _).trans (Only.set _ 15 _)
  obtain ⟨M2, hM2⟩ : ∃ m, m = { M1 with sf := gq l (9 + 1) 4, st := gq l (9 + 1 + 4) 4 } := ⟨_, rfl⟩
  have hbk2 : Blk ST g7 34 (mcs M2 (.slice none 0 0) (.slice none 0 0) (.slice none 0 0)).toArray := by rw [hM2, hST]; exact (hbk.set_ 14 _).set_ 15 _
  have hk2 : Below w.heap.size w ST := (HK.out.trans (ho.below HWb.out HK.out.size)).trans (hos.below HW7.out (HK.out.trans (ho.below HWb.out HK.out.size)).size)
  have HKn := Lib.hid hk2
  have HBKn := Lib.hid hbk2
  have HB4n : Hid (Blk ST g4 34 zcs.toArray) := Lib.hid ((HB4.out.only ho H4b.out).only hos H47.out)
  have HRn := Lib.hid (hr.mv2 HV.out hk2 (fun cs hc => hc.only hos Hb7.out))
  have HPAn : Hid (PA B0 ST M2 (.slice none 0 0) (.slice none 0 0) (.slice none 0 0)) := Lib.hid (by rw [hM2]; exact ⟨((HPA.out.only ho HbB.out).only hos H7B.out).vals, ((HPA.out.only ho HbB.out).only hos H7B.out).box, ((HPA.out.only ho HbB.out).only hos H7B.out).recs⟩)
  have HSn : Hid (B0 ≤ ST.heap.size) := Lib.hid (Nat.le_trans (Nat.le_trans HS.out ho.size) hos.size)
  have HE2 := Lib.hid hM2
  clear HB4 HBK HR HK HPA HS hbk2 hk2 ho hr
  have HB4 := HB4n
  have HBK := HBKn
  have HR := HRn
  have HK := HKn
  have HPA := HPAn
  have HS := HSn
  clear HB4n HBKn HRn HKn HPAn HSn
  (try rw [← hST])
  clear hbk hos hM2 hra hoa hob wA wB
  (try clear hST)
  generalize ST = z2 at *
  have bx := gq1 HBY.out (9 + 1 + 4 + 4)
  obtain ⟨NN, hNN⟩ := Int.eq_ofNat_of_zero_le bx.1
  have HNN := Lib.hid hNN
  have hN8 : NN ≤ 255 := by omega
  have HN8 := Lib.hid hN8
  have wx : IntKind.i64.wrap (NN : Int) = NN := IntWalk.i64_in _ (by omega)
  clear bx hNN hN8
  go_upto_region 23 with (go_at_call 38; refine (rgetq b (.slice av l.length cv) l (9 + 1 + 4 + 4) 1 sz1 _ HR.out HL.out HBY.out).mono ?_; rintro e z3 ⟨rfl, hr, ho⟩; rw [HNN.out])
  obtain ⟨M3, hM3⟩ : ∃ m, m = M2 := ⟨_, rfl⟩
  have HKn := Lib.hid (HK.out.trans (ho.below HWb.out HK.out.size))
  have HBKn := Lib.hid (HBK.out.only ho H7b.out)
  have HB4n := Lib.hid (HB4.out.only ho H4b.out)
  have HRn := Lib.hid hr
  have HPAn := Lib.hid (HPA.out.only ho HbB.out)
  have HSn : Hid (B0 ≤ z3.heap.size) := Lib.hid (Nat.le_trans HS.out ho.size)
  rw [← hM3] at HBKn HPAn
  have HE3 := Lib.hid hM3
  clear HB4 HBK HR HK HPA HS wx ho hr hM3
  have HB4 := HB4n
  have HBK := HBKn
  have HR := HRn
  have HK := HKn
  have HPA := HPAn
  have HS := HSn
  clear HB4n HBKn HRn HKn HPAn HSn
  have HZ : Hid (M3.vals = [] ∧ M3.box = [] ∧ M3.recs = []) := Lib.hid (by rw [HE3.out, HE2.out, HE1.out, HE0.out]; exact ⟨rfl, rfl, rfl⟩)
  have HBX : Hid (Blk z3 g7 34 (mcs ({ M3 with box := boxQ l 19 0 }) (.slice none 0 0) (.slice none 0 0) (.slice none 0 0)).toArray) := Lib.hid HBK.out
  have HRX : Hid (RdrQ z3 b (.slice av l.length cv) l (19 + 9 * 0)) := Lib.hid HR.out
  go_upto_block 99 with fail
  go_loopw [9] (fun i wr => ∃ j : Nat, j ≤ NN ∧ i = .int .i64 j ∧ (∃ x, Blk wr g7 34 (mcs ({ M3 with box := boxQ l 19 j }) (.slice none 0 0) x (.slice none 0 0)).toArray ∧ Row rngE 65 B0 wr x (boxQ l 19 j)) ∧ RdrQ wr b (.slice av l.length cv) l (19 + 9 * j) ∧ Below w.heap.size w wr ∧ Blk wr g4 34 zcs.toArray ∧ B0 ≤ wr.heap.size) (fun i _ => NN - (intOf i).toNat)
  case atStart => exact ⟨0, Nat.zero_le _, rfl, ⟨_, HBX.out, Row.nil⟩, HRX.out, HK.out, HB4.out, HS.out⟩
  case round =>
    clear HB4 HBK HR HK HPA HS HBX HRX
    obtain ⟨j, hj, rfl, ⟨x, hbk, hrow⟩, hr, hk, hb4, hs⟩ := hrel
    obtain ⟨ao, co, rfl, hcx1, hcx2⟩ := hrow.rd.form
    have HVL : Hid ((boxQ l 19 j).length = j) := Lib.hid (boxQ_len l 19 j)
    have HROW := Lib.hid hrow
    have HBK := Lib.hid hbk
    have HR := Lib.hid hr
    have HK := Lib.hid hk
    have HB4 := Lib.hid hb4
    have HS := Lib.hid hs
    have HJ := Lib.hid hj
    clear hbk hr hk hb4 hs hcx1 hcx2
    by_cases hlt : j < NN
    case neg =>
      have hjn : j = NN := by omega
      subst hjn
      have dlt : decide ((j : Int) < j) = false := decide_eq_false (by omega)
      obtain ⟨M4, hM4⟩ : ∃ m, m = { M3 with box := boxQ l 19 j } := ⟨_, rfl⟩
      have HE4 := Lib.hid hM4
      rw [← hM4] at HBK
      have HPA : Hid (PA B0 wr M4 (.slice none 0 0) (.slice ao (boxQ l 19 j).length co) (.slice none 0 0)) := Lib.hid (by rw [hM4]; exact ⟨by rw [HZ.out.1]; exact Row.nil, HROW.out, by rw [HZ.out.2.2]; exact recsAt_nil _ _⟩)
      clear hM4 hj hrow
      obtain ⟨z4, hz4⟩ : ∃ z, z = wr := ⟨_, rfl⟩
      rw [← hz4] at HBK HPA HR HK HB4 HS HROW ⊢
      clear hz4
      go_upto_region 34 with fail
      clear dlt
      have HMQ : Hid (M4 = msgQ a l) := Lib.hid (by
        unfold msgQ msgK
        rw [if_neg (by rw [HQK.out]; decide), if_neg (by rw [HQK.out]; decide), if_neg (by rw [HQK.out]; decide), if_pos HQK.out]
        rw [show gq l 18 1 = (j : Int) from HNN.out, Int.toNat_natCast, HE4.out, HE3.out, HE2.out, HE1.out, HE0.out]
        all_goals rfl
        )
      have HMB : Hid (MB M4) := Lib.hid (by
        have hbd := (headQ_ok HBY.out).bd
        rw [HE4.out, HE3.out, HE2.out, HE1.out, HE0.out]
        exact ⟨hbd.kind, hbd.hub, hbd.point, hbd.client, hbd.op, hbd.target, i64_of1 HBY.out _, hbd.owner, hbd.turn, hbd.ev, hbd.eid, hbd.ever, hbd.vals, gq4 HBY.out _, gq4 HBY.out _, boxQ_rb HBY.out _ _, hbd.recs⟩
        )
      have HLQ : Hid (lenQ a l 5 = 19 + 9 * j) := Lib.hid (by
        unfold lenQ
        rw [if_neg (by decide), if_neg (by decide), if_neg (by decide), if_pos rfl]
        rw [show gq l 18 1 = (j : Int) from HNN.out, Int.toNat_natCast]
        all_goals omega
        )
      by_cases hle : 19 + 9 * j ≤ l.length
      case neg =>
        have c2 : z4.cell? ⟨b, 2, none⟩ = some (.int .i64 3) := by have := HR.out.err; rwa [if_neg hle] at this
        have HLE := Lib.hid hle
        clear hle
        go_upto_region 35 with fail
        go_upto_if 99 with (refine at_store 4 rfl ?_; refine wpList_store_row rfl 34 (.tmp 4) (.tmp 180) rfl g4 zcs.toArray rfl rfl 34 _ HB4.out msg_info rfl zcs_one ?_)
        refine bodyPost_ret (results_blk_tmp (l := zcs) rfl Try.underlying34 msg_info rfl rfl (Blk.row HB4.out _)) rfl ?_
        rw [show RES = (zeroM, 3) by rw [HRES.out, takeK_short (by rw [HLQ.out]; exact Nat.lt_of_not_le HLE.out)]]
        exact none_take ⟨rfl, HK.out.trans ((Only.row z4 _).below HW4.out HK.out.size)⟩
      have c2 : z4.cell? ⟨b, 2, none⟩ = some (.int .i64 0) := by have := HR.out.err; rwa [if_pos hle] at this
      have HLE := Lib.hid hle
      clear hle
      have HM := Lib.hid (HPA.out.rd HMB.out)
      have HPK := Lib.hid (rmpack_any a M4 (.slice none 0 0) (.slice ao (boxQ l 19 j).length co) (.slice none 0 0) z4 HM.out HMB.out)
      go_upto_region 36 with fail
      clear c2
      cases hr : rightM a M4 with
      | false =>
        have HCP : Hid (Calls Try.prog 13 #[.int .i64 a, .agg (mcs M4 (.slice none 0 0) (.slice ao (boxQ l 19 j).length co) (.slice none 0 0)).toArray] z4 fun e w' => e = .returned (.tuple #[.slice none 0 0, .int .i64 4]) ∧ Below z4.heap.size z4 w') := Lib.hid (HPK.out.mono fun e w' h => by
          rcases h with ⟨_, h2, h3⟩ | ⟨h1, _⟩
          · exact ⟨h2, h3⟩
          · rw [hr] at h1; cases h1)
        have HRI := Lib.hid hr
        clear hr HPK
        go_upto_if 99 with (first | (refine at_load 7 rfl ?_; refine wpList_load_row rfl 34 (.tmp 7) rfl g7 rfl 34 _ (0, 0) _ HBK.out Try.underlying34 rfl msg_info ?_) | (go_at_call 13; refine HCP.out.mono ?_; rintro e w6 ⟨rfl, hk6⟩) | (refine at_store 4 rfl ?_; refine wpList_store_row rfl 34 (.tmp 4) (.tmp 195) rfl g4 zcs.toArray rfl rfl 34 _ (HB4.out.keep hk6) msg_info rfl zcs_one ?_))
        refine bodyPost_ret (results_blk_tmp (l := zcs) rfl Try.underlying34 msg_info rfl rfl (Blk.row (HB4.out.keep hk6) _)) rfl ?_
        rw [show RES = (zeroM, 4) by rw [HRES.out, takeK_bad (by rw [HLQ.out]; exact HLE.out) (by rw [← HMQ.out, HRI.out]; simp)]]
        exact none_take ⟨rfl, (nest HK.out hk6).trans ((Only.row w6 _).below HW4.out (nest HK.out hk6).size)⟩
      | true =>
        have HCP : Hid (Calls Try.prog 13 #[.int .i64 a, .agg (mcs M4 (.slice none 0 0) (.slice ao (boxQ l 19 j).length co) (.slice none 0 0)).toArray] z4 fun e w' => (∃ x, e = .returned (.tuple #[x, .int .i64 0]) ∧ Rd (intE .u8) w' x (packM M4)) ∧ Below z4.heap.size z4 w') := Lib.hid (HPK.out.mono fun e w' h => by
          rcases h with ⟨h1, _⟩ | ⟨_, x, h2, h3, h4⟩
          · rw [hr] at h1; cases h1
          · exact ⟨⟨x, h2, h3.rd⟩, h4⟩)
        have HRI := Lib.hid hr
        clear hr HPK
        go_upto_region 37 with (first | (refine at_load 7 rfl ?_; refine wpList_load_row rfl 34 (.tmp 7) rfl g7 rfl 34 _ (0, 0) _ HBK.out Try.underlying34 rfl msg_info ?_) | (go_at_call 13; refine HCP.out.mono ?_; rintro e w6 ⟨⟨x, rfl, hx⟩, hk6⟩; have HXX := Lib.hid hx; obtain ⟨ax, cx, rfl, _, _⟩ := hx.form; clear hx))
        have HEQ := Lib.hid (bytesD_any _ _ _ _ w6 HXX.out (HV.out.keep (nest HK.out hk6)) (packM_byt M4) HBY.out)
        have HB46 := Lib.hid (HB4.out.keep hk6)
        have HBK6 := Lib.hid (HBK.out.keep hk6)
        have HK6 := Lib.hid (nest HK.out hk6)
        have HM6 := Lib.hid (HM.out.keep hk6)
        have HPA6 := Lib.hid (HPA.out.keep hk6)
        clear hk6 HCP HB4 HBK HK HM HPA
        cases hpq : decide (packM M4 = l) with
        | false =>
          rw [hpq] at HEQ
          have HPQ := Lib.hid (of_decide_eq_false hpq)
          clear hpq
          go_upto_if 99 with (first | (go_at_call 18; refine HEQ.out.mono ?_; rintro e w7 ⟨rfl, hk7⟩) | (refine at_store 4 rfl ?_; refine wpList_store_row rfl 34 (.tmp 4) (.tmp 195) rfl g4 zcs.toArray rfl rfl 34 _ (HB46.out.keep hk7) msg_info rfl zcs_one ?_))
          refine bodyPost_ret (results_blk_tmp (l := zcs) rfl Try.underlying34 msg_info rfl rfl (Blk.row (HB46.out.keep hk7) _)) rfl ?_
          rw [show RES = (zeroM, 4) by rw [HRES.out, takeK_bad (by rw [HLQ.out]; exact HLE.out) (by rw [← HMQ.out]; exact fun h => HPQ.out h.2)]]
          exact none_take ⟨rfl, (nest HK6.out hk7).trans ((Only.row w7 _).below HW4.out (nest HK6.out hk7).size)⟩
        | true =>
          rw [hpq] at HEQ
          have HPQ := Lib.hid (of_decide_eq_true hpq)
          clear hpq
          go_upto_if 99 with (first | (go_at_call 18; refine HEQ.out.mono ?_; rintro e w7 ⟨rfl, hk7⟩) | (refine at_load 7 rfl ?_; refine wpList_load_row rfl 34 (.tmp 7) rfl g7 rfl 34 _ (0, 0) _ (HBK6.out.keep hk7) Try.underlying34 rfl msg_info ?_) | (refine at_store 4 rfl ?_; refine wpList_store_row rfl 34 (.tmp 4) (.tmp 196) rfl g4 (mcs M4 (.slice none 0 0) (.slice ao (boxQ l 19 j).length co) (.slice none 0 0)).toArray rfl rfl 34 _ (HB46.out.keep hk7) msg_info rfl (mcs_one HM6.out) ?_))
          refine bodyPost_ret (results_blk_tmp (l := mcs M4 (.slice none 0 0) (.slice ao (boxQ l 19 j).length co) (.slice none 0 0)) rfl Try.underlying34 msg_info rfl rfl (Blk.row (HB46.out.keep hk7) _)) rfl ?_
          rw [show RES = (M4, 0) by rw [HRES.out, HMQ.out, takeK_good (by rw [HLQ.out]; exact HLE.out) ⟨by rw [← HMQ.out]; exact HRI.out, by rw [← HMQ.out]; exact HPQ.out⟩]]
          exact ⟨_, _, _, rfl, ((HPA6.out.keep hk7).only (Only.row w7 _) H4B.out).rd HMB.out, HMB.out, (nest HK6.out hk7).trans ((Only.row w7 _).below HW4.out (nest HK6.out hk7).size)⟩
    have dlt : decide ((j : Int) < NN) = true := decide_eq_true (by omega)
    have HLT := Lib.hid hlt
    clear hlt
    have HNB : Hid ((Value.slice ao (boxQ l 19 j).length co).ownBlock ≠ some b) := Lib.hid (fun e => by have := (HROW.out.block b e).1; have := HbB.out; omega)
    have HN7 : Hid ((Value.slice ao (boxQ l 19 j).length co).ownBlock ≠ some g7) := Lib.hid (fun e => by have := (HROW.out.block g7 e).1; have := H7B.out; omega)
    have HN4 : Hid ((Value.slice ao (boxQ l 19 j).length co).ownBlock ≠ some g4) := Lib.hid (fun e => by have := (HROW.out.block g4 e).1; have := H4B.out; omega)
    have e2 : wr.cell? ⟨g7, 16, none⟩ = some (.slice ao (boxQ l 19 j).length co) := HBK.out.cell 16
    have HX : Hid (boxQ l 19 (j + 1) = boxQ l 19 j ++ [(gq l (19 + 9 * j) 1, gq l (19 + 9 * j + 1) 4, gq l (19 + 9 * j + 1 + 4) 4)]) := Lib.hid (boxQ_succ l 19 j)
    have k1 := gq1 HBY.out (19 + 9 * j)
    have k2 := gq4 HBY.out (19 + 9 * j + 1)
    have k3 := gq4 HBY.out (19 + 9 * j + 1 + 4)
    have wA : IntKind.i64.wrap (gq l (19 + 9 * j) 1) = gq l (19 + 9 * j) 1 := IntWalk.i64_in _ (by omega)
    have wB : IntKind.u32.wrap (gq l (19 + 9 * j + 1) 4) = gq l (19 + 9 * j + 1) 4 := IntWalk.u32_in _ (by omega)
    have wC : IntKind.u32.wrap (gq l (19 + 9 * j + 1 + 4) 4) = gq l (19 + 9 * j + 1 + 4) 4 := IntWalk.u32_in _ (by omega)
    generalize hA : gq l (19 + 9 * j) 1 = A at *
    generalize hB : gq l (19 + 9 * j + 1) 4 = B at *
    generalize hC : gq l (19 + 9 * j + 1 + 4) 4 = C at *
    have HVA := Lib.hid hA
    have HVB := Lib.hid hB
    have HVC := Lib.hid hC
    clear hA hB hC k1 k2 k3 hj hrow
    go_upto_region 26 with fail
    clear dlt
    have hD : Below wr.heap.size wr wr.drew := (Below.refl _ _).drew
    refine Run.region_walkZ (S := fun z => z.cell? ⟨g7, 16, none⟩ = some (.slice ao (boxQ l 19 j).length co))
      rmtake.rows24 rmtake.plan24z 15 _ (l := ?steps1) (by kernel_rfl) (by kernel_rfl) (by kernel_rfl) (by kernel_rfl) rfl rfl ?written1 e2 ?onward1
    case written1 =>
      simp only [rmtake.plan24z, Run.stepsOf, Run.stepOf, Run.guardOf, List.getElem?_toArray, List.getElem?_cons_zero, List.getElem?_cons_succ, Option.map_some, Option.map_none, Option.bind_some, Option.toList_some, List.map_cons, List.map_nil, List.cons_append, List.nil_append]
      rfl
    repeat ((first
      | (refine Run.takes (v := ?_) ?_ ?_; rotate_left; (· intro w' hS'; go_simp; (try with_reducible rfl)))
      | (refine Run.takesG (v := ?_) ?_ ?_ ?_; rotate_left; (· simp only [List.getElem?_cons_zero, List.getElem?_cons_succ]); (· intro w' hS'; go_simp; (try with_reducible rfl)))
      | (refine Run.skipsT ?_ ?_; (· simp only [List.getElem?_cons_zero, List.getElem?_cons_succ]))
      | (refine Run.skipsF ?_ ?_; (· simp only [List.getElem?_cons_zero, List.getElem?_cons_succ]))
      | (refine Run.skipsU ?_ ?_; (· simp only [List.getElem?_cons_zero, List.getElem?_cons_succ]))
      | (refine Run.passT ?_ ?_; (· simp only [List.getElem?_cons_zero, List.getElem?_cons_succ]))
      | (refine Run.passF ?_ ?_; (· simp only [List.getElem?_cons_zero, List.getElem?_cons_succ]))
      | (refine Run.passU ?_ ?_; (· simp only [List.getElem?_cons_zero, List.getElem?_cons_succ]))
      | fail); simp only [Act.put, List.setIfInBounds_toArray, List.set_cons_zero, List.set_cons_succ])
    have HKd := Lib.hid (nest HK.out hD)
    have HBKd := Lib.hid (HBK.out.keep hD)
    have HB4d := Lib.hid (HB4.out.keep hD)
    have HROWd := Lib.hid (HROW.out.keep hD)
    have HRd := Lib.hid (HR.out.keep hD)
    have HSd : Hid (B0 ≤ wr.drew.heap.size) := Lib.hid (Nat.le_trans HS.out hD.size)
    clear HK HBK HB4 HROW HR HS hD e2
    refine Run.runsS (Run.callF 38 (by kernel_rfl) (fun hS => rgetq b (.slice av l.length cv) l (19 + 9 * j) 1 sz1 _ HRd.out HL.out HBY.out) rfl ?_)
    rintro hS e x1 ⟨rfl, hr, ho⟩
    rw [HVA.out]
    have HR0 := Lib.hid hr
    have HK0 := Lib.hid (HKd.out.trans (ho.below HWb.out HKd.out.size))
    have HBK0 := Lib.hid (HBKd.out.only ho H7b.out)
    have HB40 := Lib.hid (HB4d.out.only ho H4b.out)
    have HROW0 := Lib.hid (HROWd.out.only ho HNB.out)
    have HS0 : Hid (B0 ≤ x1.heap.size) := Lib.hid (Nat.le_trans HSd.out ho.size)
    refine ⟨_, rfl, HBK0.out.cell 16, fun _ => ⟨fun z => z.cell? ⟨g7, 16, none⟩ = some (.slice ao (boxQ l 19 j).length co), fun z h => h, HBK0.out.cell 16, ?_⟩⟩
    clear hS hr ho HRd HKd HBKd HB4d HROWd HSd
    try simp only [Act.put, List.setIfInBounds_toArray, List.set_cons_zero, List.set_cons_succ]
    repeat ((first
      | (refine Run.takes (v := ?_) ?_ ?_; rotate_left; (· intro w' hS'; go_simp; (try with_reducible rfl)))
      | (refine Run.takesG (v := ?_) ?_ ?_ ?_; rotate_left; (· simp only [List.getElem?_cons_zero, List.getElem?_cons_succ]); (· intro w' hS'; go_simp; (try with_reducible rfl)))
      | (refine Run.skipsT ?_ ?_; (· simp only [List.getElem?_cons_zero, List.getElem?_cons_succ]))
      | (refine Run.skipsF ?_ ?_; (· simp only [List.getElem?_cons_zero, List.getElem?_cons_succ]))
      | (refine Run.skipsU ?_ ?_; (· simp only [List.getElem?_cons_zero, List.getElem?_cons_succ]))
      | (refine Run.passT ?_ ?_; (· simp only [List.getElem?_cons_zero, List.getElem?_cons_succ]))
      | (refine Run.passF ?_ ?_; (· simp only [List.getElem?_cons_zero, List.getElem?_cons_succ]))
      | (refine Run.passU ?_ ?_; (· simp only [List.getElem?_cons_zero, List.getElem?_cons_succ]))
      | fail); simp only [Act.put, List.setIfInBounds_toArray, List.set_cons_zero, List.set_cons_succ])
    refine Run.runsS (Run.callF 38 (by kernel_rfl) (fun hS => rgetq b (.slice av l.length cv) l (19 + 9 * j + 1) 4 sz4' _ HR0.out HL.out HBY.out) rfl ?_)
    rintro hS e x2 ⟨rfl, hr, ho⟩
    rw [HVB.out]
    have HR1 := Lib.hid hr
    have HK1 := Lib.hid (HK0.out.trans (ho.below HWb.out HK0.out.size))
    have HBK1 := Lib.hid (HBK0.out.only ho H7b.out)
    have HB41 := Lib.hid (HB40.out.only ho H4b.out)
    have HROW1 := Lib.hid (HROW0.out.only ho HNB.out)
    have HS1 : Hid (B0 ≤ x2.heap.size) := Lib.hid (Nat.le_trans HS0.out ho.size)
    refine ⟨_, rfl, HBK1.out.cell 16, fun _ => ⟨fun z => z.cell? ⟨g7, 16, none⟩ = some (.slice ao (boxQ l 19 j).length co), fun z h => h, HBK1.out.cell 16, ?_⟩⟩
    clear hS hr ho HR0 HK0 HBK0 HB40 HROW0 HS0
    try simp only [Act.put, List.setIfInBounds_toArray, List.set_cons_zero, List.set_cons_succ]
    repeat ((first
      | (refine Run.takes (v := ?_) ?_ ?_; rotate_left; (· intro w' hS'; go_simp; (try with_reducible rfl)))
      | (refine Run.takesG (v := ?_) ?_ ?_ ?_; rotate_left; (· simp only [List.getElem?_cons_zero, List.getElem?_cons_succ]); (· intro w' hS'; go_simp; (try with_reducible rfl)))
      | (refine Run.skipsT ?_ ?_; (· simp only [List.getElem?_cons_zero, List.getElem?_cons_succ]))
      | (refine Run.skipsF ?_ ?_; (· simp only [List.getElem?_cons_zero, List.getElem?_cons_succ]))
      | (refine Run.skipsU ?_ ?_; (· simp only [List.getElem?_cons_zero, List.getElem?_cons_succ]))
      | (refine Run.passT ?_ ?_; (· simp only [List.getElem?_cons_zero, List.getElem?_cons_succ]))
      | (refine Run.passF ?_ ?_; (· simp only [List.getElem?_cons_zero, List.getElem?_cons_succ]))
      | (refine Run.passU ?_ ?_; (· simp only [List.getElem?_cons_zero, List.getElem?_cons_succ]))
      | fail); simp only [Act.put, List.setIfInBounds_toArray, List.set_cons_zero, List.set_cons_succ])
    refine Run.runsS (Run.callF 38 (by kernel_rfl) (fun hS => rgetq b (.slice av l.length cv) l (19 + 9 * j + 1 + 4) 4 sz4' _ HR1.out HL.out HBY.out) rfl ?_)
    rintro hS e x3 ⟨rfl, hr, ho⟩
    rw [HVC.out]
    have HR2 := Lib.hid hr
    have HK2 := Lib.hid (HK1.out.trans (ho.below HWb.out HK1.out.size))
    have HBK2 := Lib.hid (HBK1.out.only ho H7b.out)
    have HB42 := Lib.hid (HB41.out.only ho H4b.out)
    have HROW2 := Lib.hid (HROW1.out.only ho HNB.out)
    have HS2 : Hid (B0 ≤ x3.heap.size) := Lib.hid (Nat.le_trans HS1.out ho.size)
    refine ⟨_, rfl, HBK2.out.cell 16, fun _ => ⟨fun z => z.cell? ⟨g7, 16, none⟩ = some (.slice ao (boxQ l 19 j).length co), fun z h => h, HBK2.out.cell 16, ?_⟩⟩
    clear hS hr ho HR1 HK1 HBK1 HB41 HROW1 HS1
    try simp only [Act.put, List.setIfInBounds_toArray, List.set_cons_zero, List.set_cons_succ]
    repeat ((first
      | (refine Run.takes (v := ?_) ?_ ?_; rotate_left; (· intro w' hS'; go_simp; (try with_reducible rfl)))
      | (refine Run.takesG (v := ?_) ?_ ?_ ?_; rotate_left; (· simp only [List.getElem?_cons_zero, List.getElem?_cons_succ]); (· intro w' hS'; go_simp; (try with_reducible rfl)))
      | (refine Run.skipsT ?_ ?_; (· simp only [List.getElem?_cons_zero, List.getElem?_cons_succ]))
      | (refine Run.skipsF ?_ ?_; (· simp only [List.getElem?_cons_zero, List.getElem?_cons_succ]))
      | (refine Run.skipsU ?_ ?_; (· simp only [List.getElem?_cons_zero, List.getElem?_cons_succ]))
      | (refine Run.passT ?_ ?_; (· simp only [List.getElem?_cons_zero, List.getElem?_cons_succ]))
      | (refine Run.passF ?_ ?_; (· simp only [List.getElem?_cons_zero, List.getElem?_cons_succ]))
      | (refine Run.passU ?_ ?_; (· simp only [List.getElem?_cons_zero, List.getElem?_cons_succ]))
      | fail); simp only [Act.put, List.setIfInBounds_toArray, List.set_cons_zero, List.set_cons_succ])
    refine Run.runsS (Run.one (fun hS K1 hK1 => ?_))
    go_simp
    have hX : Below x3.heap.size x3 (x3.alloc (.cells #[.int .i64 A, .int .u32 B, .int .u32 C] 65)) := more (Below.refl _ _) _
    have HX5 := Lib.hid (Row.lit (E := rngE) x3.heap.size x3 #[.int .i64 A, .int .u32 B, .int .u32 C] [(A, B, C)] 1 x3.heap.size (by simp [Enc.flat, tripE]) rfl rfl (Nat.le_refl _) (by simp [maxLen]) : Row rngE 65 x3.heap.size (x3.alloc (.cells #[.int .i64 A, .int .u32 B, .int .u32 C] 65)) (.slice (some ⟨x3.heap.size, 0, none⟩) 1 1) [(A, B, C)])
    have HR5 := Lib.hid (HR2.out.keep hX)
    have HK5 := Lib.hid (nest HK2.out hX)
    have HBK5 := Lib.hid (HBK2.out.keep hX)
    have HB45 := Lib.hid (HB42.out.keep hX)
    have HROW5 := Lib.hid (HROW2.out.keep hX)
    have HS5 : Hid (B0 ≤ (x3.alloc (.cells #[.int .i64 A, .int .u32 B, .int .u32 C] 65)).heap.size) := Lib.hid (Nat.le_trans HS2.out hX.size)
    refine hK1.out _ _ (HBK5.out.cell 16) (fun _ => ⟨fun z => z.cell? ⟨g7, 16, none⟩ = some (.slice ao (boxQ l 19 j).length co), fun z h => h, HBK5.out.cell 16, ?_⟩)
    clear hS K1 hK1 hX HR2 HK2 HBK2 HB42 HROW2 HS2
    generalize x3.alloc (.cells #[.int .i64 A, .int .u32 B, .int .u32 C] 65) = x5 at *
    try simp only [Act.put, List.setIfInBounds_toArray, List.set_cons_zero, List.set_cons_succ]
    repeat ((first
      | (refine Run.takes (v := ?_) ?_ ?_; rotate_left; (· intro w' hS'; go_simp; (try with_reducible rfl)))
      | (refine Run.takesG (v := ?_) ?_ ?_ ?_; rotate_left; (· simp only [List.getElem?_cons_zero, List.getElem?_cons_succ]); (· intro w' hS'; go_simp; (try with_reducible rfl)))
      | (refine Run.skipsT ?_ ?_; (· simp only [List.getElem?_cons_zero, List.getElem?_cons_succ]))
      | (refine Run.skipsF ?_ ?_; (· simp only [List.getElem?_cons_zero, List.getElem?_cons_succ]))
      | (refine Run.skipsU ?_ ?_; (· simp only [List.getElem?_cons_zero, List.getElem?_cons_succ]))
      | (refine Run.passT ?_ ?_; (· simp only [List.getElem?_cons_zero, List.getElem?_cons_succ]))
      | (refine Run.passF ?_ ?_; (· simp only [List.getElem?_cons_zero, List.getElem?_cons_succ]))
      | (refine Run.passU ?_ ?_; (· simp only [List.getElem?_cons_zero, List.getElem?_cons_succ]))
      | fail); simp only [Act.put, List.setIfInBounds_toArray, List.set_cons_zero, List.set_cons_succ])
    refine Run.runsS (Run.one (fun hS K1 hK1 => ?_))
    refine wp_append (E := rngE) (B := B0) (l := boxQ l 19 j) (m := [(A, B, C)]) (bytes := 16) rngElem (Nat.zero_lt_succ 2) (.tmp 126) (.tmp 137) rfl rfl HROW5.out rfl HX5.out.rd (by rw [HVL.out]; have := HN8.out; have := HJ.out; simp [maxLen]; omega) (by rw [HVL.out]; have := HN8.out; have := HJ.out; simp; omega) HS5.out ?_
    intro v6 x6 hr6 hk6 hg6 _
    rw [← HX.out] at hr6
    have HROW6 := Lib.hid hr6
    have HK6 := Lib.hid (HK5.out.trans (hk6.mono (Nat.le_trans HWb.out (Nat.le_of_lt HbB.out))))
    have HBK6 := Lib.hid (Blk.grown HBK5.out hg6 HN7.out)
    have HB46 := Lib.hid (Blk.grown HB45.out hg6 HN4.out)
    have HR6 := Lib.hid (HR5.out.mv2 HV.out HK6.out (fun cs hc => Blk.grown hc hg6 HNB.out))
    have HS6 : Hid (B0 ≤ x6.heap.size) := Lib.hid (Nat.le_trans HS5.out hk6.size)
    obtain ⟨a6, c6, rfl, _, _⟩ := hr6.rd.form
    refine hK1.out _ _ (HBK6.out.cell 16) (fun _ => ⟨fun z => z.cell? ⟨g7, 16, none⟩ = some (.slice ao (boxQ l 19 j).length co), fun z h => h, HBK6.out.cell 16, ?_⟩)
    clear hS K1 hK1 hr6 hk6 hg6 HR5 HK5 HBK5 HB45 HROW5 HS5 HX5
    try simp only [Act.put, List.setIfInBounds_toArray, List.set_cons_zero, List.set_cons_succ]
    repeat ((first
      | (refine Run.takes (v := ?_) ?_ ?_; rotate_left; (· intro w' hS'; go_simp; (try with_reducible rfl)))
      | (refine Run.takesG (v := ?_) ?_ ?_ ?_; rotate_left; (· simp only [List.getElem?_cons_zero, List.getElem?_cons_succ]); (· intro w' hS'; go_simp; (try with_reducible rfl)))
      | (refine Run.skipsT ?_ ?_; (· simp only [List.getElem?_cons_zero, List.getElem?_cons_succ]))
      | (refine Run.skipsF ?_ ?_; (· simp only [List.getElem?_cons_zero, List.getElem?_cons_succ]))
      | (refine Run.skipsU ?_ ?_; (· simp only [List.getElem?_cons_zero, List.getElem?_cons_succ]))
      | (refine Run.passT ?_ ?_; (· simp only [List.getElem?_cons_zero, List.getElem?_cons_succ]))
      | (refine Run.passF ?_ ?_; (· simp only [List.getElem?_cons_zero, List.getElem?_cons_succ]))
      | (refine Run.passU ?_ ?_; (· simp only [List.getElem?_cons_zero, List.getElem?_cons_succ]))
      | fail); simp only [Act.put, List.setIfInBounds_toArray, List.set_cons_zero, List.set_cons_succ])
    refine Run.endsZ (fun hS K1 hK1 => ?_)
    have cc : x6.cell? ⟨g7, 16, none⟩ = some (.slice ao (boxQ l 19 j).length co) := HBK6.out.cell 16
    have cf := HBK6.out.frozen 16
    clear hS
    go_simp
    refine hK1.out _ _ (NoPanic.normal ?_)
    clear hK1 K1 cc cf
    have hos := Only.set (b := g7) x6 16 (.slice a6 (boxQ l 19 (j + 1)).length c6)
    have hk7 := HK6.out.trans (hos.below HW7.out HK6.out.size)
    have HBK7 : Hid (Blk (x6.setCell ⟨g7, 16, none⟩ (.slice a6 (boxQ l 19 (j + 1)).length c6)) g7 34 (mcs ({ M3 with box := boxQ l 19 (j + 1) }) (.slice none 0 0) (.slice a6 (boxQ l 19 (j + 1)).length c6) (.slice none 0 0)).toArray) := Lib.hid (HBK6.out.set_ 16 _)
    have HB47 := Lib.hid (HB46.out.only hos H47.out)
    have HR7 := Lib.hid (HR6.out.mv2 HV.out hk7 (fun cs hc => hc.only hos Hb7.out))
    have HK7 := Lib.hid hk7
    have HS7 : Hid (B0 ≤ (x6.setCell ⟨g7, 16, none⟩ (.slice a6 (boxQ l 19 (j + 1)).length c6)).heap.size) := Lib.hid (Nat.le_trans HS6.out hos.size)
    have HROW7 := Lib.hid (HROW6.out.only hos (HROW6.out.ne_blk HBK6.out (by decide)))
    clear hos hk7 HBK6 HB46 HR6 HK6 HS6 HROW6
    generalize x6.setCell ⟨g7, 16, none⟩ (.slice a6 (boxQ l 19 (j + 1)).length c6) = x7 at *
    have hwj : wrap64 ((j : Int) + 1) = ((j + 1 : Nat) : Int) := by have := HLT.out; have := HN8.out; unfold wrap64; omega
    have HWJ := Lib.hid hwj
    clear hwj
    go_wp2_with fail
    exact ⟨⟨j + 1, HLT.out, by rw [HWJ.out], ⟨_, HBK7.out, HROW7.out⟩, by rw [show 19 + 9 * (j + 1) = 19 + 9 * j + 1 + 4 + 4 by omega]; exact HR7.out, HK7.out, HB47.out, HS7.out⟩, by rw [HWJ.out]; have := HLT.out; simp [intOf]; omega⟩
set_option maxRecDepth 100000 in
set_option maxHeartbeats 4000000 in
theorem rtake6_any (a : Nat) (v : Value) (l : List Int) (w : World) (h : Rd (intE .u8) w v l) (hlm : l.length ≤ 1000000) (hb : Byt l) (ha : 1 ≤ a ∧ a ≤ 8) (h9 : 9 ≤ l.length) (hq : gq l 0 1 = 6) :
    Calls Try.prog 15 #[.int .i64 a, v] w (MTakePost (takeK 6 a l) w) := by
  obtain ⟨av, cv, rfl, _, _⟩ := h.form
  obtain ⟨RES, hRES⟩ : ∃ R, R = takeK 6 a l := ⟨_, rfl⟩
  rw [← hRES]
  have HRES := Lib.hid hRES
  have hX : Below w.heap.size w (w.alloc (.cells zcs.toArray 34)) := more (Below.refl _ _) _
  have HB4 : Hid (Blk (w.alloc (.cells zcs.toArray 34)) w.heap.size 34 zcs.toArray) := Lib.hid (heap_alloc_new w (.cells zcs.toArray 34))
  have HKA := Lib.hid hX
  have HV := Lib.hid h
  have HVA := Lib.hid (h.keep hX)
  have HBY := Lib.hid hb
  have HL := Lib.hid hlm
  have HA := Lib.hid ha
  have H9 := Lib.hid h9
  have HQ := Lib.hid hq
  have d1 : decide ((a : Int) < 1) = false := decide_eq_false (by omega)
  have d2 : decide ((a : Int) > 8) = false := decide_eq_false (by omega)
  clear hRES hX h hb hlm ha h9 hq
  go_enter Try.func15, Try.ntmps15
  go_upto_region 1 with fail
  have hzz : w.alloc (.cells zcs.toArray 34) = w.alloc (.cells #[.int .i64 0, .int .i64 0, .int .u32 0, .int .i64 0, .int .i64 0, .int .u32 0, .int .i64 0, .int .u32 0, .int .i64 0, .int .u32 0, .int .u64 0, .int .u64 0, .slice none 0 0, .bool false, .int .u32 0, .int .u32 0, .slice none 0 0, .slice none 0 0] 34) := rfl
  rw [← hzz]
  clear hzz
  generalize w.alloc (.cells zcs.toArray 34) = w1 at *
  obtain ⟨g4, hg4⟩ : ∃ g4, g4 = w.heap.size := ⟨_, rfl⟩
  rw [← hg4] at HB4 ⊢
  have HW4 : Hid (w.heap.size ≤ g4) := Lib.hid (by omega)
  clear hg4
  go_upto_region 4 with fail
  clear d1 d2
  have hX3 : Below w1.heap.size w1 (w1.alloc (.cells #[.slice av l.length cv, .int .i64 0, .int .i64 0] 80)) := more (Below.refl _ _) _
  have HR0 : Hid (RdrQ (w1.alloc (.cells #[.slice av l.length cv, .int .i64 0, .int .i64 0] 80)) w1.heap.size (.slice av l.length cv) l 0) := Lib.hid (RdrQ.start (Blk.new _ _ _) (HVA.out.keep hX3) (rd_ne HVA.out))
  have HB40 := Lib.hid (HB4.out.keep hX3)
  have HK0 := Lib.hid (nest HKA.out hX3)
  have H4b : Hid (g4 ≠ w1.heap.size) := Lib.hid (by have := HB4.out.lt; omega)
  have HWb : Hid (w.heap.size ≤ w1.heap.size) := Lib.hid HKA.out.size
  clear hX3 HB4 HKA HVA
  generalize w1.alloc (.cells #[.slice av l.length cv, .int .i64 0, .int .i64 0] 80) = y0 at *
  obtain ⟨b, hbb⟩ : ∃ b, b = w1.heap.size := ⟨_, rfl⟩
  rw [← hbb] at HR0 H4b HWb ⊢
  clear hbb
  have b0 := gq1 HBY.out 0
  have b1 := gq1 HBY.out (0 + 1)
  have b2 := gq1 HBY.out (0 + 1 + 1)
  have b3 := gq2 HBY.out (0 + 1 + 1 + 1)
  have b4 := gq4 HBY.out (0 + 1 + 1 + 1 + 2)
  have x0 : IntKind.i64.wrap (gq l 0 1) = gq l 0 1 := IntWalk.i64_in _ (by omega)
  have x1 : IntKind.i64.wrap (gq l (0 + 1) 1) = gq l (0 + 1) 1 := IntWalk.i64_in _ (by omega)
  have x2 : IntKind.i64.wrap (gq l (0 + 1 + 1) 1) = gq l (0 + 1 + 1) 1 := IntWalk.i64_in _ (by omega)
  have x3 : IntKind.i64.wrap (gq l (0 + 1 + 1 + 1) 2) = gq l (0 + 1 + 1 + 1) 2 := IntWalk.i64_in _ (by omega)
  have x4 : IntKind.u32.wrap (gq l (0 + 1 + 1 + 1 + 2) 4) = gq l (0 + 1 + 1 + 1 + 2) 4 := IntWalk.u32_in _ (by omega)
  clear b0 b1 b2 b3 b4
  go_upto_region 5 with (first | (go_at_call 38; refine (rgetq b (.slice av l.length cv) l (0) 1 sz1 _ HR0.out HL.out HBY.out).mono ?_; rintro e y1 ⟨rfl, hr1, ho1⟩) | (go_at_call 38; refine (rgetq b (.slice av l.length cv) l (0 + 1) 1 sz1 _ hr1 HL.out HBY.out).mono ?_; rintro e y2 ⟨rfl, hr2, ho2⟩) | (go_at_call 38; refine (rgetq b (.slice av l.length cv) l (0 + 1 + 1) 1 sz1 _ hr2 HL.out HBY.out).mono ?_; rintro e y3 ⟨rfl, hr3, ho3⟩) | (go_at_call 38; refine (rgetq b (.slice av l.length cv) l (0 + 1 + 1 + 1) 2 sz2 _ hr3 HL.out HBY.out).mono ?_; rintro e y4 ⟨rfl, hr4, ho4⟩) | (go_at_call 38; refine (rgetq b (.slice av l.length cv) l (0 + 1 + 1 + 1 + 2) 4 sz4' _ hr4 HL.out HBY.out).mono ?_; rintro e y5 ⟨rfl, hr5, ho5⟩) | (refine at_store 7 rfl ?_; refine wpList_store_row rfl 34 (.tmp 7) (.tmp 39) rfl y5.heap.size (mcs (headQ l) (.slice none 0 0) (.slice none 0 0) (.slice none 0 0)).toArray rfl rfl 34 _ (heap_alloc_new y5 _) msg_info rfl (by simp [mcs, Value.oneCell']) ?_))
  (try rw [World.setRow_alloc_new])
  clear x0 x1 x2 x3 x4
  have hX : Below y5.heap.size y5 (y5.alloc (.cells (mcs (headQ l) (.slice none 0 0) (.slice none 0 0) (.slice none 0 0)).toArray 34)) := more (Below.refl _ _) _
  have ho : Only b y0 y5 := (((ho1.trans ho2).trans ho3).trans ho4).trans ho5
  have HBK : Hid (Blk (y5.alloc (.cells (mcs (headQ l) (.slice none 0 0) (.slice none 0 0) (.slice none 0 0)).toArray 34)) y5.heap.size 34 (mcs (headQ l) (.slice none 0 0) (.slice none 0 0) (.slice none 0 0)).toArray) := Lib.hid (Blk.new y5 34 (mcs (headQ l) (.slice none 0 0) (.slice none 0 0) (.slice none 0 0)).toArray)
  have HB4 := Lib.hid ((HB40.out.only ho H4b.out).keep hX)
  have HR : Hid (RdrQ (y5.alloc (.cells (mcs (headQ l) (.slice none 0 0) (.slice none 0 0) (.slice none 0 0)).toArray 34)) b (.slice av l.length cv) l 9) := Lib.hid (hr5.keep hX)
  have HK := Lib.hid (nest (HK0.out.trans (ho.below HWb.out HK0.out.size)) hX)
  have H47 : Hid (g4 ≠ y5.heap.size) := Lib.hid (by have := HB40.out.lt; have := ho.size; omega)
  have H7b : Hid (y5.heap.size ≠ b) := Lib.hid (by have := hr5.lt; omega)
  have HW7 : Hid (w.heap.size ≤ y5.heap.size) := Lib.hid (HK0.out.trans (ho.below HWb.out HK0.out.size)).size
  obtain ⟨B0, hB0⟩ : ∃ B, B = (y5.alloc (.cells (mcs (headQ l) (.slice none 0 0) (.slice none 0 0) (.slice none 0 0)).toArray 34)).heap.size := ⟨_, rfl⟩
  have HS : Hid (B0 ≤ (y5.alloc (.cells (mcs (headQ l) (.slice none 0 0) (.slice none 0 0) (.slice none 0 0)).toArray 34)).heap.size) := Lib.hid (by omega)
  have HPA : Hid (PA B0 (y5.alloc (.cells (mcs (headQ l) (.slice none 0 0) (.slice none 0 0) (.slice none 0 0)).toArray 34)) (headQ l) (.slice none 0 0) (.slice none 0 0) (.slice none 0 0)) := Lib.hid ⟨by rw [(headQ_ok HBY.out).vals]; exact Row.nil, by rw [(headQ_ok HBY.out).box]; exact Row.nil, by rw [(headQ_ok HBY.out).recs]; exact recsAt_nil _ _⟩
  have HbB : Hid (b < B0) := Lib.hid (by rw [hB0]; exact HR.out.lt)
  have H7B : Hid (y5.heap.size < B0) := Lib.hid (by rw [hB0]; exact HBK.out.lt)
  have H4B : Hid (g4 < B0) := Lib.hid (by rw [hB0]; exact HB4.out.lt)
  clear hX ho ho1 ho2 ho3 ho4 ho5 hr1 hr2 hr3 hr4 hr5 HR0 HB40 HK0 hB0
  generalize y5.alloc (.cells (mcs (headQ l) (.slice none 0 0) (.slice none 0 0) (.slice none 0 0)).toArray 34) = z at *
  obtain ⟨g7, hg7⟩ : ∃ g7, g7 = y5.heap.size := ⟨_, rfl⟩
  rw [← hg7] at HBK H47 H7b HW7 H7B ⊢
  clear hg7
  have Hb7 : Hid (b ≠ g7) := Lib.hid (fun e => H7b.out e.symm)
  have HQK : Hid ((headQ l).kind = 6) := Lib.hid HQ.out
  have HHB : Hid (0 ≤ (headQ l).hub) := Lib.hid (headQ_ok HBY.out).hub
  obtain ⟨M0, hM0⟩ : ∃ m, m = headQ l := ⟨_, rfl⟩
  rw [← hM0] at HBK HPA
  have HE0 := Lib.hid hM0
  have HF : Hid (firstM M0 = false) := Lib.hid (by rw [hM0]; unfold firstM; rw [HQK.out]; decide)
  clear hM0
  have c2 : z.cell? ⟨b, 2, none⟩ = some (.int .i64 0) := by have := HR.out.err; rwa [if_pos H9.out] at this
  go_upto_region 19 with (first | (refine at_load 7 rfl ?_; refine wpList_load_row rfl 34 (.tmp 7) rfl g7 rfl 34 _ (0, 0) _ HBK.out Try.underlying34 rfl msg_info ?_) | (go_at_call 32; refine (rfirst_any M0 _ _ _ _).mono ?_; rintro e z0 ⟨rfl, hk⟩; rw [HF.out]))
  have HB4n := Lib.hid (HB4.out.keep hk)
  have HBKn := Lib.hid (HBK.out.keep hk)
  have HRn := Lib.hid (HR.out.keep hk)
  have HKn := Lib.hid (nest HK.out hk)
  have HPAn := Lib.hid (HPA.out.keep hk)
  have HSn : Hid (B0 ≤ z0.heap.size) := Lib.hid (Nat.le_trans HS.out hk.size)
  clear HB4 HBK HR HK HPA HS hk
  have HB4 := HB4n
  have HBK := HBKn
  have HR := HRn
  have HK := HKn
  have HPA := HPAn
  have HS := HSn
  clear HB4n HBKn HRn HKn HPAn HSn
  clear c2 HF
  have c0 : z0.cell? ⟨g7, 0, none⟩ = some (.int .i64 6) := by rw [show (Value.int .i64 6) = .int .i64 M0.kind by rw [HE0.out]; exact congrArg _ HQ.out.symm]; exact HBK.out.cell 0
  go_upto_region 28 with fail
  clear c0
  have k1 := gq4 HBY.out (9)
  have k2 := gq4 HBY.out (9 + 4)
  have wA : IntKind.u32.wrap (gq l (9) 4) = gq l (9) 4 := IntWalk.u32_in _ (by omega)
  have wB : IntKind.u32.wrap (gq l (9 + 4) 4) = gq l (9 + 4) 4 := IntWalk.u32_in _ (by omega)
  clear k1 k2
  go_upto_region 29 with (first | (go_at_call 38; refine (rgetq b (.slice av l.length cv) l (9) 4 sz4' _ HR.out HL.out HBY.out).mono ?_; rintro e ya ⟨rfl, hra, hoa⟩) | (go_at_call 38; refine (rgetq b (.slice av l.length cv) l (9 + 4) 4 sz4' _ hra HL.out HBY.out).mono ?_; rintro e y1 ⟨rfl, hr, hob⟩; have ho := hoa.trans hob; have hbk := HBK.out.only ho H7b.out) | (refine at_store 151 rfl ?_; refine wpList_store_mid rfl 30 (.tmp 151) (.tmp 150) rfl g7 14 #[.int .u32 (gq l (9) 4), .int .u32 (gq l (9 + 4) 4)] rfl rfl (there_blk hbk 14 2 (by simp [mcs])) span_info (by simp [Value.oneCell']) ?_))
  obtain ⟨ST, hST⟩ : ∃ S, S = y1.setCells g7 14 [.int .u32 (gq l (9) 4), .int .u32 (gq l (9 + 4) 4)] := ⟨_, rfl⟩
  have hos : Only g7 y1 ST := by rw [hST]; exact (Only.set _ 14 _).trans (Only.set _ 15 _)
  obtain ⟨M1, hM1⟩ : ∃ m, m = { M0 with sf := gq l (9) 4, st := gq l (9 + 4) 4 } := ⟨_, rfl⟩
  have hbk2 : Blk ST g7 34 (mcs M1 (.slice none 0 0) (.slice none 0 0) (.slice none 0 0)).toArray := by rw [hM1, hST]; exact (hbk.set_ 14 _).set_ 15 _
  have hk2 : Below w.heap.size w ST := (HK.out.trans (ho.below HWb.out HK.out.size)).trans (hos.below HW7.out (HK.out.trans (ho.below HWb.out HK.out.size)).size)
  have HKn := Lib.hid hk2
  have HBKn := Lib.hid hbk2
  have HB4n : Hid (Blk ST g4 34 zcs.toArray) := Lib.hid ((HB4.out.only ho H4b.out).only hos H47.out)
  have HRn := Lib.hid (hr.mv2 HV.out hk2 (fun cs hc => hc.only hos Hb7.out))
  have HPAn : Hid (PA B0 ST M1 (.slice none 0 0) (.slice none 0 0) (.slice none 0 0)) := Lib.hid (by rw [hM1]; exact ⟨((HPA.out.only ho HbB.out).only hos H7B.out).vals, ((HPA.out.only ho HbB.out).only hos H7B.out).box, ((HPA.out.only ho HbB.out).only hos H7B.out).recs⟩)
  have HSn : Hid (B0 ≤ ST.heap.size) := Lib.hid (Nat.le_trans (Nat.le_trans HS.out ho.size) hos.size)
  have HE1 := Lib.hid hM1
  clear HB4 HBK HR HK HPA HS hbk2 hk2 ho hr
  have HB4 := HB4n
  have HBK := HBKn
  have HR := HRn
  have HK := HKn
  have HPA := HPAn
  have HS := HSn
  clear HB4n HBKn HRn HKn HPAn HSn
  (try rw [← hST])
  clear hbk hos hM1 hra hoa hob wA wB
  (try clear hST)
  generalize ST = z1 at *
  have bx := gq2 HBY.out (9 + 4 + 4)
  obtain ⟨NN, hNN⟩ := Int.eq_ofNat_of_zero_le bx.1
  have HNN := Lib.hid hNN
  have hN8 : NN ≤ 65535 := by omega
  have HN8 := Lib.hid hN8
  have wx : IntKind.i64.wrap (NN : Int) = NN := IntWalk.i64_in _ (by omega)
  clear bx hNN hN8
  go_upto_region 30 with (go_at_call 38; refine (rgetq b (.slice av l.length cv) l (9 + 4 + 4) 2 sz2 _ HR.out HL.out HBY.out).mono ?_; rintro e z2 ⟨rfl, hr, ho⟩; rw [HNN.out])
  obtain ⟨M2, hM2⟩ : ∃ m, m = M1 := ⟨_, rfl⟩
  have HKn := Lib.hid (HK.out.trans (ho.below HWb.out HK.out.size))
  have HBKn := Lib.hid (HBK.out.only ho H7b.out)
  have HB4n := Lib.hid (HB4.out.only ho H4b.out)
  have HRn := Lib.hid hr
  have HPAn := Lib.hid (HPA.out.only ho HbB.out)
  have HSn : Hid (B0 ≤ z2.heap.size) := Lib.hid (Nat.le_trans HS.out ho.size)
  rw [← hM2] at HBKn HPAn
  have HE2 := Lib.hid hM2
  clear HB4 HBK HR HK HPA HS wx ho hr hM2
  have HB4 := HB4n
  have HBK := HBKn
  have HR := HRn
  have HK := HKn
  have HPA := HPAn
  have HS := HSn
  clear HB4n HBKn HRn HKn HPAn HSn
  have HZ : Hid (M2.vals = [] ∧ M2.box = [] ∧ M2.recs = []) := Lib.hid (by rw [HE2.out, HE1.out, HE0.out]; exact ⟨rfl, rfl, rfl⟩)
  have HBX : Hid (Blk z2 g7 34 (mcs ({ M2 with recs := recsQ l 19 a 0 }) (.slice none 0 0) (.slice none 0 0) (.slice none 0 0)).toArray) := Lib.hid HBK.out
  have HRX : Hid (RdrQ z2 b (.slice av l.length cv) l (19 + (16 + 4 * a) * 0)) := Lib.hid HR.out
  go_upto_block 99 with fail
  go_loopw [11] (fun i wr => ∃ j : Nat, j ≤ NN ∧ i = .int .i64 j ∧ (∃ x, Blk wr g7 34 (mcs ({ M2 with recs := recsQ l 19 a j }) (.slice none 0 0) (.slice none 0 0) x).toArray ∧ RecsAt B0 wr x (recsQ l 19 a j)) ∧ RdrQ wr b (.slice av l.length cv) l (19 + (16 + 4 * a) * j) ∧ Below w.heap.size w wr ∧ Blk wr g4 34 zcs.toArray ∧ B0 ≤ wr.heap.size) (fun i _ => NN - (intOf i).toNat)
  case atStart => exact ⟨0, Nat.zero_le _, rfl, ⟨_, HBX.out, recsAt_nil _ _⟩, HRX.out, HK.out, HB4.out, HS.out⟩
  case round =>
    clear HB4 HBK HR HK HPA HS HBX HRX
    obtain ⟨j, hj, rfl, ⟨x, hbk, hrow⟩, hr, hk, hb4, hs⟩ := hrel
    obtain ⟨hs', hrow', hn, hel⟩ := hrow
    obtain ⟨ao, co, rfl, hcx1, hcx2⟩ := hrow'.rd.form
    have HNN1 := Lib.hid hn
    have HVL := Lib.hid (hn.trans (recsQ_len l 19 a j))
    have HROW := Lib.hid hrow'
    have HEL := Lib.hid hel
    have hrow := hrow'
    clear hn hel hrow'
    have HBK := Lib.hid hbk
    have HR := Lib.hid hr
    have HK := Lib.hid hk
    have HB4 := Lib.hid hb4
    have HS := Lib.hid hs
    have HJ := Lib.hid hj
    clear hbk hr hk hb4 hs hcx1 hcx2
    by_cases hlt : j < NN
    case neg =>
      have hjn : j = NN := by omega
      subst hjn
      have dlt : decide ((j : Int) < j) = false := decide_eq_false (by omega)
      obtain ⟨M3, hM3⟩ : ∃ m, m = { M2 with recs := recsQ l 19 a j } := ⟨_, rfl⟩
      have HE3 := Lib.hid hM3
      rw [← hM3] at HBK
      have HPA : Hid (PA B0 wr M3 (.slice none 0 0) (.slice none 0 0) (.slice ao hs'.length co)) := Lib.hid (by rw [hM3]; exact ⟨by rw [HZ.out.1]; exact Row.nil, by rw [HZ.out.2.1]; exact Row.nil, ⟨hs', HROW.out, HNN1.out, HEL.out⟩⟩)
      clear hM3 hj hrow
      obtain ⟨z3, hz3⟩ : ∃ z, z = wr := ⟨_, rfl⟩
      rw [← hz3] at HBK HPA HR HK HB4 HS HROW HEL ⊢
      clear hz3
      go_upto_region 34 with fail
      clear dlt
      have HMQ : Hid (M3 = msgQ a l) := Lib.hid (by
        unfold msgQ msgK
        rw [if_neg (by rw [HQK.out]; decide), if_neg (by rw [HQK.out]; decide), if_neg (by rw [HQK.out]; decide), if_neg (by rw [HQK.out]; decide)]
        rw [show gq l 17 2 = (j : Int) from HNN.out, Int.toNat_natCast, HE3.out, HE2.out, HE1.out, HE0.out]
        all_goals rfl
        )
      have HMB : Hid (MB M3) := Lib.hid (by
        have hbd := (headQ_ok HBY.out).bd
        rw [HE3.out, HE2.out, HE1.out, HE0.out]
        exact ⟨hbd.kind, hbd.hub, hbd.point, hbd.client, hbd.op, hbd.target, hbd.hops, hbd.owner, hbd.turn, hbd.ev, hbd.eid, hbd.ever, hbd.vals, gq4 HBY.out _, gq4 HBY.out _, hbd.box, recsQ_bd HBY.out _ _ _⟩
        )
      have HLQ : Hid (lenQ a l 6 = 19 + (16 + 4 * a) * j) := Lib.hid (by
        unfold lenQ
        rw [if_neg (by decide), if_neg (by decide), if_neg (by decide), if_neg (by decide)]
        rw [show gq l 17 2 = (j : Int) from HNN.out, Int.toNat_natCast]
        all_goals rfl
        )
      by_cases hle : 19 + (16 + 4 * a) * j ≤ l.length
      case neg =>
        have c2 : z3.cell? ⟨b, 2, none⟩ = some (.int .i64 3) := by have := HR.out.err; rwa [if_neg hle] at this
        have HLE := Lib.hid hle
        clear hle
        go_upto_region 35 with fail
        go_upto_if 99 with (refine at_store 4 rfl ?_; refine wpList_store_row rfl 34 (.tmp 4) (.tmp 180) rfl g4 zcs.toArray rfl rfl 34 _ HB4.out msg_info rfl zcs_one ?_)
        refine bodyPost_ret (results_blk_tmp (l := zcs) rfl Try.underlying34 msg_info rfl rfl (Blk.row HB4.out _)) rfl ?_
        rw [show RES = (zeroM, 3) by rw [HRES.out, takeK_short (by rw [HLQ.out]; exact Nat.lt_of_not_le HLE.out)]]
        exact none_take ⟨rfl, HK.out.trans ((Only.row z3 _).below HW4.out HK.out.size)⟩
      have c2 : z3.cell? ⟨b, 2, none⟩ = some (.int .i64 0) := by have := HR.out.err; rwa [if_pos hle] at this
      have HLE := Lib.hid hle
      clear hle
      have HM := Lib.hid (HPA.out.rd HMB.out)
      have HPK := Lib.hid (rmpack_any a M3 (.slice none 0 0) (.slice none 0 0) (.slice ao hs'.length co) z3 HM.out HMB.out)
      go_upto_region 36 with fail
      clear c2
      cases hr : rightM a M3 with
      | false =>
        have HCP : Hid (Calls Try.prog 13 #[.int .i64 a, .agg (mcs M3 (.slice none 0 0) (.slice none 0 0) (.slice ao hs'.length co)).toArray] z3 fun e w' => e = .returned (.tuple #[.slice none 0 0, .int .i64 4]) ∧ Below z3.heap.size z3 w') := Lib.hid (HPK.out.mono fun e w' h => by
          rcases h with ⟨_, h2, h3⟩ | ⟨h1, _⟩
          · exact ⟨h2, h3⟩
          · rw [hr] at h1; cases h1)
        have HRI := Lib.hid hr
        clear hr HPK
        go_upto_if 99 with (first | (refine at_load 7 rfl ?_; refine wpList_load_row rfl 34 (.tmp 7) rfl g7 rfl 34 _ (0, 0) _ HBK.out Try.underlying34 rfl msg_info ?_) | (go_at_call 13; refine HCP.out.mono ?_; rintro e w6 ⟨rfl, hk6⟩) | (refine at_store 4 rfl ?_; refine wpList_store_row rfl 34 (.tmp 4) (.tmp 195) rfl g4 zcs.toArray rfl rfl 34 _ (HB4.out.keep hk6) msg_info rfl zcs_one ?_))
        refine bodyPost_ret (results_blk_tmp (l := zcs) rfl Try.underlying34 msg_info rfl rfl (Blk.row (HB4.out.keep hk6) _)) rfl ?_
        rw [show RES = (zeroM, 4) by rw [HRES.out, takeK_bad (by rw [HLQ.out]; exact HLE.out) (by rw [← HMQ.out, HRI.out]; simp)]]
        exact none_take ⟨rfl, (nest HK.out hk6).trans ((Only.row w6 _).below HW4.out (nest HK.out hk6).size)⟩
      | true =>
        have HCP : Hid (Calls Try.prog 13 #[.int .i64 a, .agg (mcs M3 (.slice none 0 0) (.slice none 0 0) (.slice ao hs'.length co)).toArray] z3 fun e w' => (∃ x, e = .returned (.tuple #[x, .int .i64 0]) ∧ Rd (intE .u8) w' x (packM M3)) ∧ Below z3.heap.size z3 w') := Lib.hid (HPK.out.mono fun e w' h => by
          rcases h with ⟨h1, _⟩ | ⟨_, x, h2, h3, h4⟩
          · rw [hr] at h1; cases h1
          · exact ⟨⟨x, h2, h3.rd⟩, h4⟩)
        have HRI := Lib.hid hr
        clear hr HPK
        go_upto_region 37 with (first | (refine at_load 7 rfl ?_; refine wpList_load_row rfl 34 (.tmp 7) rfl g7 rfl 34 _ (0, 0) _ HBK.out Try.underlying34 rfl msg_info ?_) | (go_at_call 13; refine HCP.out.mono ?_; rintro e w6 ⟨⟨x, rfl, hx⟩, hk6⟩; have HXX := Lib.hid hx; obtain ⟨ax, cx, rfl, _, _⟩ := hx.form; clear hx))
        have HEQ := Lib.hid (bytesD_any _ _ _ _ w6 HXX.out (HV.out.keep (nest HK.out hk6)) (packM_byt M3) HBY.out)
        have HB46 := Lib.hid (HB4.out.keep hk6)
        have HBK6 := Lib.hid (HBK.out.keep hk6)
        have HK6 := Lib.hid (nest HK.out hk6)
        have HM6 := Lib.hid (HM.out.keep hk6)
        have HPA6 := Lib.hid (HPA.out.keep hk6)
        clear hk6 HCP HB4 HBK HK HM HPA
        cases hpq : decide (packM M3 = l) with
        | false =>
          rw [hpq] at HEQ
          have HPQ := Lib.hid (of_decide_eq_false hpq)
          clear hpq
          go_upto_if 99 with (first | (go_at_call 18; refine HEQ.out.mono ?_; rintro e w7 ⟨rfl, hk7⟩) | (refine at_store 4 rfl ?_; refine wpList_store_row rfl 34 (.tmp 4) (.tmp 195) rfl g4 zcs.toArray rfl rfl 34 _ (HB46.out.keep hk7) msg_info rfl zcs_one ?_))
          refine bodyPost_ret (results_blk_tmp (l := zcs) rfl Try.underlying34 msg_info rfl rfl (Blk.row (HB46.out.keep hk7) _)) rfl ?_
          rw [show RES = (zeroM, 4) by rw [HRES.out, takeK_bad (by rw [HLQ.out]; exact HLE.out) (by rw [← HMQ.out]; exact fun h => HPQ.out h.2)]]
          exact none_take ⟨rfl, (nest HK6.out hk7).trans ((Only.row w7 _).below HW4.out (nest HK6.out hk7).size)⟩
        | true =>
          rw [hpq] at HEQ
          have HPQ := Lib.hid (of_decide_eq_true hpq)
          clear hpq
          go_upto_if 99 with (first | (go_at_call 18; refine HEQ.out.mono ?_; rintro e w7 ⟨rfl, hk7⟩) | (refine at_load 7 rfl ?_; refine wpList_load_row rfl 34 (.tmp 7) rfl g7 rfl 34 _ (0, 0) _ (HBK6.out.keep hk7) Try.underlying34 rfl msg_info ?_) | (refine at_store 4 rfl ?_; refine wpList_store_row rfl 34 (.tmp 4) (.tmp 196) rfl g4 (mcs M3 (.slice none 0 0) (.slice none 0 0) (.slice ao hs'.length co)).toArray rfl rfl 34 _ (HB46.out.keep hk7) msg_info rfl (mcs_one HM6.out) ?_))
          refine bodyPost_ret (results_blk_tmp (l := mcs M3 (.slice none 0 0) (.slice none 0 0) (.slice ao hs'.length co)) rfl Try.underlying34 msg_info rfl rfl (Blk.row (HB46.out.keep hk7) _)) rfl ?_
          rw [show RES = (M3, 0) by rw [HRES.out, HMQ.out, takeK_good (by rw [HLQ.out]; exact HLE.out) ⟨by rw [← HMQ.out]; exact HRI.out, by rw [← HMQ.out]; exact HPQ.out⟩]]
          exact ⟨_, _, _, rfl, ((HPA6.out.keep hk7).only (Only.row w7 _) H4B.out).rd HMB.out, HMB.out, (nest HK6.out hk7).trans ((Only.row w7 _).below HW4.out (nest HK6.out hk7).size)⟩
    by_cases hle : 19 + (16 + 4 * a) * j ≤ l.length
    case neg =>
      have dlt : decide ((j : Int) < NN) = true := decide_eq_true (by omega)
      have HLT := Lib.hid hlt
      clear hlt hrow hj
      have c2 : wr.cell? ⟨b, 2, none⟩ = some (.int .i64 3) := by have := HR.out.err; rwa [if_neg hle] at this
      have HLE := Lib.hid hle
      clear hle
      have HLQ : Hid (l.length < lenQ a l 6) := Lib.hid (by
        unfold lenQ
        rw [if_neg (by decide), if_neg (by decide), if_neg (by decide), if_neg (by decide)]
        rw [show gq l 17 2 = (NN : Int) from HNN.out, Int.toNat_natCast]
        have h1 := Nat.mul_le_mul_left (16 + 4 * a) HJ.out
        have h2 := HLE.out
        omega)
      go_upto_region 35 with fail
      go_upto_if 99 with (refine at_store 4 rfl ?_; refine wpList_store_row rfl 34 (.tmp 4) (.tmp 180) rfl g4 zcs.toArray rfl rfl 34 _ HB4.out msg_info rfl zcs_one ?_)
      refine bodyPost_ret (results_blk_tmp (l := zcs) rfl Try.underlying34 msg_info rfl rfl (Blk.row HB4.out _)) rfl ?_
      rw [show RES = (zeroM, 3) by rw [HRES.out, takeK_short HLQ.out]]
      exact none_take ⟨rfl, HK.out.trans ((Only.row wr _).below HW4.out HK.out.size)⟩
    have c2 : wr.cell? ⟨b, 2, none⟩ = some (.int .i64 0) := by have := HR.out.err; rwa [if_pos hle] at this
    clear hle
    have dlt : decide ((j : Int) < NN) = true := decide_eq_true (by omega)
    have HLT := Lib.hid hlt
    clear hlt
    have HNB : Hid ((Value.slice ao hs'.length co).ownBlock ≠ some b) := Lib.hid (fun e => by have := (HROW.out.block b e).1; have := HbB.out; omega)
    have HN7 : Hid ((Value.slice ao hs'.length co).ownBlock ≠ some g7) := Lib.hid (fun e => by have := (HROW.out.block g7 e).1; have := H7B.out; omega)
    have HN4 : Hid ((Value.slice ao hs'.length co).ownBlock ≠ some g4) := Lib.hid (fun e => by have := (HROW.out.block g4 e).1; have := H4B.out; omega)
    have e2 : wr.cell? ⟨g7, 17, none⟩ = some (.slice ao hs'.length co) := HBK.out.cell 17
    have HX : Hid (recsQ l 19 a (j + 1) = recsQ l 19 a j ++ [recQ l (19 + (16 + 4 * a) * j) a]) := Lib.hid (recsQ_succ l 19 a j)
    clear hj hrow
    go_upto_region 33 with fail
    clear dlt c2
    have hD : Below wr.heap.size wr wr.drew := (Below.refl _ _).drew
    refine Run.region_walkZ (S := fun z => z.cell? ⟨g7, 17, none⟩ = some (.slice ao hs'.length co))
      rmtake.rows31 rmtake.plan31z 8 _ (l := ?steps7) (by kernel_rfl) (by kernel_rfl) (by kernel_rfl) (by kernel_rfl) rfl rfl ?written7 e2 ?onward7
    case written7 =>
      simp only [rmtake.plan31z, Run.stepsOf, Run.stepOf, Run.guardOf, List.getElem?_toArray, List.getElem?_cons_zero, List.getElem?_cons_succ, Option.map_some, Option.map_none, Option.bind_some, Option.toList_some, List.map_cons, List.map_nil, List.cons_append, List.nil_append]
      rfl
    repeat ((first
      | (refine Run.takes (v := ?_) ?_ ?_; rotate_left; (· intro w' hS'; go_simp; (try with_reducible rfl)))
      | (refine Run.takesG (v := ?_) ?_ ?_ ?_; rotate_left; (· simp only [List.getElem?_cons_zero, List.getElem?_cons_succ]); (· intro w' hS'; go_simp; (try with_reducible rfl)))
      | (refine Run.skipsT ?_ ?_; (· simp only [List.getElem?_cons_zero, List.getElem?_cons_succ]))
      | (refine Run.skipsF ?_ ?_; (· simp only [List.getElem?_cons_zero, List.getElem?_cons_succ]))
      | (refine Run.skipsU ?_ ?_; (· simp only [List.getElem?_cons_zero, List.getElem?_cons_succ]))
      | (refine Run.passT ?_ ?_; (· simp only [List.getElem?_cons_zero, List.getElem?_cons_succ]))
      | (refine Run.passF ?_ ?_; (· simp only [List.getElem?_cons_zero, List.getElem?_cons_succ]))
      | (refine Run.passU ?_ ?_; (· simp only [List.getElem?_cons_zero, List.getElem?_cons_succ]))
      | fail); simp only [Act.put, List.setIfInBounds_toArray, List.set_cons_zero, List.set_cons_succ])
    have HKd := Lib.hid (nest HK.out hD)
    have HBKd := Lib.hid (HBK.out.keep hD)
    have HB4d := Lib.hid (HB4.out.keep hD)
    have HROWd := Lib.hid (HROW.out.keep hD)
    have HRd := Lib.hid (HR.out.keep hD)
    have HSd : Hid (B0 ≤ wr.drew.heap.size) := Lib.hid (Nat.le_trans HS.out hD.size)
    have HELd : Hid (∀ (i : Nat) (x : Raw recordK.size) (y : Int × Int × List Int), hs'[i]? = some x → (recsQ l 19 a j)[i]? = some y → RecR B0 wr.drew x y) := Lib.hid (fun i x y hx hy => (HEL.out i x y hx hy).keep hD)
    clear HK HBK HB4 HROW HR HS HEL hD e2
    refine Run.runsS (Run.callF 39 (by kernel_rfl) (fun hS => rreadr_any b (.slice av l.length cv) l (19 + (16 + 4 * a) * j) a _ HRd.out HL.out HBY.out HA.out.2) rfl ?_)
    rintro hS e x1 ⟨xv, rfl, hrv, hr, ho⟩
    have HR0 := Lib.hid hr
    have HK0 := Lib.hid (HKd.out.trans (ho.below HWb.out HKd.out.size))
    have HBK0 := Lib.hid (HBKd.out.only ho H7b.out)
    have HB40 := Lib.hid (HB4d.out.only ho H4b.out)
    have HROW0 := Lib.hid (HROWd.out.only ho HNB.out)
    have HS0 : Hid (B0 ≤ x1.heap.size) := Lib.hid (Nat.le_trans HSd.out ho.size)
    have HEL0 : Hid (∀ (i : Nat) (x : Raw recordK.size) (y : Int × Int × List Int), hs'[i]? = some x → (recsQ l 19 a j)[i]? = some y → RecR B0 x1 x y) := Lib.hid (fun i x y hx hy => (HELd.out i x y hx hy).only ho HbB.out)
    have HXV0 := Lib.hid (hrv.mono HSd.out)
    obtain ⟨ar, cr, rfl, hcv1, hcv2⟩ := hrv.rd.form
    obtain ⟨nv, hnv⟩ : ∃ nv, nv = (valQ l (19 + (16 + 4 * a) * j + 16) a).length := ⟨_, rfl⟩
    rw [← hnv] at HXV0 ⊢
    refine ⟨_, rfl, HBK0.out.cell 17, fun _ => ⟨fun z => z.cell? ⟨g7, 17, none⟩ = some (.slice ao hs'.length co), fun z h => h, HBK0.out.cell 17, ?_⟩⟩
    clear hS hr ho hrv hcv1 hcv2 hnv HRd HKd HBKd HB4d HROWd HSd HELd
    obtain ⟨I, hI⟩ : ∃ I, I = gq l (19 + (16 + 4 * a) * j) 8 := ⟨_, rfl⟩
    obtain ⟨W, hW⟩ : ∃ V, V = gq l (19 + (16 + 4 * a) * j + 8) 8 := ⟨_, rfl⟩
    rw [← hI, ← hW]
    have HI := Lib.hid hI
    have HW := Lib.hid hW
    clear hI hW
    try simp only [Act.put, List.setIfInBounds_toArray, List.set_cons_zero, List.set_cons_succ]
    repeat ((first
      | (refine Run.takes (v := ?_) ?_ ?_; rotate_left; (· intro w' hS'; go_simp; (try with_reducible rfl)))
      | (refine Run.takesG (v := ?_) ?_ ?_ ?_; rotate_left; (· simp only [List.getElem?_cons_zero, List.getElem?_cons_succ]); (· intro w' hS'; go_simp; (try with_reducible rfl)))
      | (refine Run.skipsT ?_ ?_; (· simp only [List.getElem?_cons_zero, List.getElem?_cons_succ]))
      | (refine Run.skipsF ?_ ?_; (· simp only [List.getElem?_cons_zero, List.getElem?_cons_succ]))
      | (refine Run.skipsU ?_ ?_; (· simp only [List.getElem?_cons_zero, List.getElem?_cons_succ]))
      | (refine Run.passT ?_ ?_; (· simp only [List.getElem?_cons_zero, List.getElem?_cons_succ]))
      | (refine Run.passF ?_ ?_; (· simp only [List.getElem?_cons_zero, List.getElem?_cons_succ]))
      | (refine Run.passU ?_ ?_; (· simp only [List.getElem?_cons_zero, List.getElem?_cons_succ]))
      | fail); simp only [Act.put, List.setIfInBounds_toArray, List.set_cons_zero, List.set_cons_succ])
    refine Run.runsS (Run.one (fun hS K1 hK1 => ?_))
    go_simp
    have hX : Below x1.heap.size x1 (x1.alloc (.cells #[.int .u64 I, .int .u64 W, .slice ar nv cr] 26)) := more (Below.refl _ _) _
    have HX5 := Lib.hid (Row.lit (E := rawE recordK.size) x1.heap.size x1 #[.int .u64 I, .int .u64 W, .slice ar nv cr] [rawRec I W (.slice ar nv cr) rfl] 1 x1.heap.size rfl rfl rfl (Nat.le_refl _) (by simp [maxLen]) : Row (rawE recordK.size) 26 x1.heap.size (x1.alloc (.cells #[.int .u64 I, .int .u64 W, .slice ar nv cr] 26)) (.slice (some ⟨x1.heap.size, 0, none⟩) 1 1) [rawRec I W (.slice ar nv cr) rfl])
    have HR5 := Lib.hid (HR0.out.keep hX)
    have HK5 := Lib.hid (nest HK0.out hX)
    have HBK5 := Lib.hid (HBK0.out.keep hX)
    have HB45 := Lib.hid (HB40.out.keep hX)
    have HROW5 := Lib.hid (HROW0.out.keep hX)
    have HS5 : Hid (B0 ≤ (x1.alloc (.cells #[.int .u64 I, .int .u64 W, .slice ar nv cr] 26)).heap.size) := Lib.hid (Nat.le_trans HS0.out hX.size)
    have HEL5 : Hid (∀ (i : Nat) (x : Raw recordK.size) (y : Int × Int × List Int), hs'[i]? = some x → (recsQ l 19 a j)[i]? = some y → RecR B0 (x1.alloc (.cells #[.int .u64 I, .int .u64 W, .slice ar nv cr] 26)) x y) := Lib.hid (fun i x y hx hy => (HEL0.out i x y hx hy).keep hX)
    have HXV5 := Lib.hid (HXV0.out.keep hX)
    refine hK1.out _ _ (HBK5.out.cell 17) (fun _ => ⟨fun z => z.cell? ⟨g7, 17, none⟩ = some (.slice ao hs'.length co), fun z h => h, HBK5.out.cell 17, ?_⟩)
    clear hS K1 hK1 hX HR0 HK0 HBK0 HB40 HROW0 HS0 HEL0 HXV0
    generalize x1.alloc (.cells #[.int .u64 I, .int .u64 W, .slice ar nv cr] 26) = x5 at *
    try simp only [Act.put, List.setIfInBounds_toArray, List.set_cons_zero, List.set_cons_succ]
    repeat ((first
      | (refine Run.takes (v := ?_) ?_ ?_; rotate_left; (· intro w' hS'; go_simp; (try with_reducible rfl)))
      | (refine Run.takesG (v := ?_) ?_ ?_ ?_; rotate_left; (· simp only [List.getElem?_cons_zero, List.getElem?_cons_succ]); (· intro w' hS'; go_simp; (try with_reducible rfl)))
      | (refine Run.skipsT ?_ ?_; (· simp only [List.getElem?_cons_zero, List.getElem?_cons_succ]))
      | (refine Run.skipsF ?_ ?_; (· simp only [List.getElem?_cons_zero, List.getElem?_cons_succ]))
      | (refine Run.skipsU ?_ ?_; (· simp only [List.getElem?_cons_zero, List.getElem?_cons_succ]))
      | (refine Run.passT ?_ ?_; (· simp only [List.getElem?_cons_zero, List.getElem?_cons_succ]))
      | (refine Run.passF ?_ ?_; (· simp only [List.getElem?_cons_zero, List.getElem?_cons_succ]))
      | (refine Run.passU ?_ ?_; (· simp only [List.getElem?_cons_zero, List.getElem?_cons_succ]))
      | fail); simp only [Act.put, List.setIfInBounds_toArray, List.set_cons_zero, List.set_cons_succ])
    refine Run.runsS (Run.one (fun hS K1 hK1 => ?_))
    refine wp_append (E := rawE recordK.size) (B := B0) (l := hs') (m := [rawRec I W (.slice ar nv cr) rfl]) (bytes := 40) recElemR (Nat.zero_lt_succ 2) (.tmp 168) (.tmp 172) rfl rfl HROW5.out rfl HX5.out.rd (by rw [HVL.out]; have := HN8.out; have := HJ.out; simp [maxLen]; omega) (by rw [HVL.out]; have := HN8.out; have := HJ.out; simp; omega) HS5.out ?_
    intro v6 x6 hr6 hk6 hg6 _
    obtain ⟨Q, hQ⟩ : ∃ Q, Q = hs' ++ [rawRec I W (.slice ar nv cr) rfl] := ⟨_, rfl⟩
    rw [← hQ] at hr6
    have HQQ := Lib.hid hQ
    clear hQ
    have HROW6 := Lib.hid hr6
    have HK6 := Lib.hid (HK5.out.trans (hk6.mono (Nat.le_trans HWb.out (Nat.le_of_lt HbB.out))))
    have HBK6 := Lib.hid (Blk.grown HBK5.out hg6 HN7.out)
    have HB46 := Lib.hid (Blk.grown HB45.out hg6 HN4.out)
    have HR6 := Lib.hid (HR5.out.mv2 HV.out HK6.out (fun cs hc => Blk.grown hc hg6 HNB.out))
    have HS6 : Hid (B0 ≤ x6.heap.size) := Lib.hid (Nat.le_trans HS5.out hk6.size)
    have HXV6 := Lib.hid (HXV5.out.kept hg6 (row_other HXV5.out HROW5.out (by decide)))
    have HEL6 : Hid (∀ (i : Nat) (x : Raw recordK.size) (y : Int × Int × List Int), hs'[i]? = some x → (recsQ l 19 a j)[i]? = some y → RecR B0 x6 x y) := Lib.hid (fun i x y hx hy => (HEL5.out i x y hx hy).grown HROW5.out hg6)
    obtain ⟨a6, c6, rfl, _, _⟩ := hr6.rd.form
    refine hK1.out _ _ (HBK6.out.cell 17) (fun _ => ⟨fun z => z.cell? ⟨g7, 17, none⟩ = some (.slice ao hs'.length co), fun z h => h, HBK6.out.cell 17, ?_⟩)
    clear hS K1 hK1 hr6 hk6 hg6 HR5 HK5 HBK5 HB45 HROW5 HS5 HX5 HEL5 HXV5
    try simp only [Act.put, List.setIfInBounds_toArray, List.set_cons_zero, List.set_cons_succ]
    repeat ((first
      | (refine Run.takes (v := ?_) ?_ ?_; rotate_left; (· intro w' hS'; go_simp; (try with_reducible rfl)))
      | (refine Run.takesG (v := ?_) ?_ ?_ ?_; rotate_left; (· simp only [List.getElem?_cons_zero, List.getElem?_cons_succ]); (· intro w' hS'; go_simp; (try with_reducible rfl)))
      | (refine Run.skipsT ?_ ?_; (· simp only [List.getElem?_cons_zero, List.getElem?_cons_succ]))
      | (refine Run.skipsF ?_ ?_; (· simp only [List.getElem?_cons_zero, List.getElem?_cons_succ]))
      | (refine Run.skipsU ?_ ?_; (· simp only [List.getElem?_cons_zero, List.getElem?_cons_succ]))
      | (refine Run.passT ?_ ?_; (· simp only [List.getElem?_cons_zero, List.getElem?_cons_succ]))
      | (refine Run.passF ?_ ?_; (· simp only [List.getElem?_cons_zero, List.getElem?_cons_succ]))
      | (refine Run.passU ?_ ?_; (· simp only [List.getElem?_cons_zero, List.getElem?_cons_succ]))
      | fail); simp only [Act.put, List.setIfInBounds_toArray, List.set_cons_zero, List.set_cons_succ])
    refine Run.endsZ (fun hS K1 hK1 => ?_)
    have cc : x6.cell? ⟨g7, 17, none⟩ = some (.slice ao hs'.length co) := HBK6.out.cell 17
    have cf := HBK6.out.frozen 17
    clear hS
    go_simp
    refine hK1.out _ _ (NoPanic.normal ?_)
    clear hK1 K1 cc cf
    have hos := Only.set (b := g7) x6 17 (.slice a6 Q.length c6)
    have hk7 := HK6.out.trans (hos.below HW7.out HK6.out.size)
    have HBK7 : Hid (Blk (x6.setCell ⟨g7, 17, none⟩ (.slice a6 Q.length c6)) g7 34 (mcs ({ M2 with recs := recsQ l 19 a (j + 1) }) (.slice none 0 0) (.slice none 0 0) (.slice a6 Q.length c6)).toArray) := Lib.hid (HBK6.out.set_ 17 _)
    have HB47 := Lib.hid (HB46.out.only hos H47.out)
    have HR7 := Lib.hid (HR6.out.mv2 HV.out hk7 (fun cs hc => hc.only hos Hb7.out))
    have HK7 := Lib.hid hk7
    have HS7 : Hid (B0 ≤ (x6.setCell ⟨g7, 17, none⟩ (.slice a6 Q.length c6)).heap.size) := Lib.hid (Nat.le_trans HS6.out hos.size)
    have HAT : Hid (RecsAt B0 (x6.setCell ⟨g7, 17, none⟩ (.slice a6 Q.length c6)) (.slice a6 Q.length c6) (recsQ l 19 a (j + 1))) := Lib.hid (RecsAt.only ⟨_, HROW6.out, by rw [HQQ.out, HX.out, List.length_append, List.length_append, HNN1.out]; rfl, fun i x y hx hy => by
      rw [HQQ.out] at hx
      rw [HX.out] at hy
      by_cases hi : i < hs'.length
      · rw [List.getElem?_append_left hi] at hx
        rw [List.getElem?_append_left (by rw [← HNN1.out]; exact hi)] at hy
        exact HEL6.out i x y hx hy
      · rw [List.getElem?_append_right (by omega)] at hx
        rw [List.getElem?_append_right (by rw [← HNN1.out]; omega), ← HNN1.out] at hy
        by_cases hi2 : i - hs'.length = 0
        · rw [hi2] at hx hy
          simp only [List.getElem?_cons_zero, Option.some.injEq] at hx hy
          subst hx hy
          exact ⟨_, by show [Value.int .u64 I, Value.int .u64 W, _] = _; rw [HI.out, HW.out]; rfl, HXV6.out⟩
        · rw [List.getElem?_eq_none (by simp; omega)] at hx
          cases hx⟩ hos H7B.out)
    clear hos hk7 HBK6 HB46 HR6 HK6 HS6 HROW6 HEL6 HXV6
    generalize x6.setCell ⟨g7, 17, none⟩ (.slice a6 Q.length c6) = x7 at *
    have hwj : wrap64 ((j : Int) + 1) = ((j + 1 : Nat) : Int) := by have := HLT.out; have := HN8.out; unfold wrap64; omega
    have HWJ := Lib.hid hwj
    clear hwj
    go_wp2_with fail
    exact ⟨⟨j + 1, HLT.out, by rw [HWJ.out], ⟨_, HBK7.out, HAT.out⟩, by rw [show 19 + (16 + 4 * a) * (j + 1) = 19 + (16 + 4 * a) * j + 16 + 4 * a by rw [Nat.mul_add]; omega]; exact HR7.out, HK7.out, HB47.out, HS7.out⟩, by rw [HWJ.out]; have := HLT.out; simp [intOf]; omega⟩
end Go.Proofs.Ythhelhhlofdehaa
