/- The document's answer for package message: Take, of kind 3 and 4 (written by genreftake.py). -/
import Derived.Test.YthhelhhlofdehaaMsgRtakeH
set_option maxRecDepth 4000
namespace Go.Proofs.Ythhelhhlofdehaa
open Go.RowKit Mem
set_option linter.unusedSimpArgs false
set_option linter.unusedVariables false
attribute [local irreducible] Go.Calls
set_option maxRecDepth 100000 in
set_option maxHeartbeats 4000000 in
theorem rtake3_any (a : Nat) (v : Value) (l : List Int) (w : World) (h : Rd (intE .u8) w v l) (hlm : l.length ≤ 1000000) (hb : Byt l) (ha : 1 ≤ a ∧ a ≤ 8) (h9 : 9 ≤ l.length) (hq : gq l 0 1 = 3) :
    Calls Try.prog 15 #[.int .i64 a, v] w (MTakePost (takeK 3 a l) w) := by
  obtain ⟨av, cv, rfl, _, _⟩ := h.form
  obtain ⟨RES, hRES⟩ : ∃ R, R = takeK 3 a l := ⟨_, rfl⟩
  rw [← hRES]
  have HRES := Lib.hid hRES
  have hX : Below w.heap.size w (w.alloc (.cells zcs.toArray 34)) := more (Below.refl _ _) _
  have HB4 : Hid (Blk (w.alloc (.cells zcs.toArray 34)) w.heap.size 34 zcs.toArray) := Lib.hid (heap_alloc_new w (.cells zcs.toArray 34))
  have HKA := Lib.hid hX
  have HV := Lib.hid h
  have HVA := Lib.hid (h.keep hX)
  have HBY := Lib.hid hb
  have HL := Lib.hid hlm
  have HA := Lib.hid ha
  have H9 := Lib.hid h9
  have HQ := Lib.hid hq
  have d1 : decide ((a : Int) < 1) = false := decide_eq_false (by omega)
  have d2 : decide ((a : Int) > 8) = false := decide_eq_false (by omega)
  clear hRES hX h hb hlm ha h9 hq
  go_enter Try.func15, Try.ntmps15
  go_upto_region 1 with fail
  have hzz : w.alloc (.cells zcs.toArray 34) = w.alloc (.cells #[.int .i64 0, .int .i64 0, .int .u32 0, .int .i64 0, .int .i64 0, .int .u32 0, .int .i64 0, .int .u32 0, .int .i64 0, .int .u32 0, .int .u64 0, .int .u64 0, .slice none 0 0, .bool false, .int .u32 0, .int .u32 0, .slice none 0 0, .slice none 0 0] 34) := rfl
  rw [← hzz]
  clear hzz
  generalize w.alloc (.cells zcs.toArray 34) = w1 at *
  obtain ⟨g4, hg4⟩ : ∃ g4, g4 = w.heap.size := ⟨_, rfl⟩
  rw [← hg4] at HB4 ⊢
  have HW4 : Hid (w.heap.size ≤ g4) := Lib.hid (by omega)
  clear hg4
  go_upto_region 4 with fail
  clear d1 d2
  have hX3 : Below w1.heap.size w1 (w1.alloc (.cells #[.slice av l.length cv, .int .i64 0, .int .i64 0] 80)) := more (Below.refl _ _) _
  have HR0 : Hid (RdrQ (w1.alloc (.cells #[.slice av l.length cv, .int .i64 0, .int .i64 0] 80)) w1.heap.size (.slice av l.length cv) l 0) := Lib.hid (RdrQ.start (Blk.new _ _ _) (HVA.out.keep hX3) (rd_ne HVA.out))
  have HB40 := Lib.hid (HB4.out.keep hX3)
  have HK0 := Lib.hid (nest HKA.out hX3)
  have H4b : Hid (g4 ≠ w1.heap.size) := Lib.hid (by have := HB4.out.lt; omega)
  have HWb : Hid (w.heap.size ≤ w1.heap.size) := Lib.hid HKA.out.size
  clear hX3 HB4 HKA HVA
  generalize w1.alloc (.cells #[.slice av l.length cv, .int .i64 0, .int .i64 0] 80) = y0 at *
  obtain ⟨b, hbb⟩ : ∃ b, b = w1.heap.size := ⟨_, rfl⟩
  rw [← hbb] at HR0 H4b HWb ⊢
  clear hbb
  have b0 := gq1 HBY.out 0
  have b1 := gq1 HBY.out (0 + 1)
  have b2 := gq1 HBY.out (0 + 1 + 1)
  have b3 := gq2 HBY.out (0 + 1 + 1 + 1)
  have b4 := gq4 HBY.out (0 + 1 + 1 + 1 + 2)
  have x0 : IntKind.i64.wrap (gq l 0 1) = gq l 0 1 := IntWalk.i64_in _ (by omega)
  have x1 : IntKind.i64.wrap (gq l (0 + 1) 1) = gq l (0 + 1) 1 := IntWalk.i64_in _ (by omega)
  have x2 : IntKind.i64.wrap (gq l (0 + 1 + 1) 1) = gq l (0 + 1 + 1) 1 := IntWalk.i64_in _ (by omega)
  have x3 : IntKind.i64.wrap (gq l (0 + 1 + 1 + 1) 2) = gq l (0 + 1 + 1 + 1) 2 := IntWalk.i64_in _ (by omega)
  have x4 : IntKind.u32.wrap (gq l (0 + 1 + 1 + 1 + 2) 4) = gq l (0 + 1 + 1 + 1 + 2) 4 := IntWalk.u32_in _ (by omega)
  clear b0 b1 b2 b3 b4
  go_upto_region 5 with (first | (go_at_call 38; refine (rgetq b (.slice av l.length cv) l (0) 1 sz1 _ HR0.out HL.out HBY.out).mono ?_; rintro e y1 ⟨rfl, hr1, ho1⟩) | (go_at_call 38; refine (rgetq b (.slice av l.length cv) l (0 + 1) 1 sz1 _ hr1 HL.out HBY.out).mono ?_; rintro e y2 ⟨rfl, hr2, ho2⟩) | (go_at_call 38; refine (rgetq b (.slice av l.length cv) l (0 + 1 + 1) 1 sz1 _ hr2 HL.out HBY.out).mono ?_; rintro e y3 ⟨rfl, hr3, ho3⟩) | (go_at_call 38; refine (rgetq b (.slice av l.length cv) l (0 + 1 + 1 + 1) 2 sz2 _ hr3 HL.out HBY.out).mono ?_; rintro e y4 ⟨rfl, hr4, ho4⟩) | (go_at_call 38; refine (rgetq b (.slice av l.length cv) l (0 + 1 + 1 + 1 + 2) 4 sz4' _ hr4 HL.out HBY.out).mono ?_; rintro e y5 ⟨rfl, hr5, ho5⟩) | (refine at_store 7 rfl ?_; refine wpList_store_row rfl 34 (.tmp 7) (.tmp 39) rfl y5.heap.size (mcs (headQ l) (.slice none 0 0) (.slice none 0 0) (.slice none 0 0)).toArray rfl rfl 34 _ (heap_alloc_new y5 _) msg_info rfl (by simp [mcs, Value.oneCell']) ?_))
  (try rw [World.setRow_alloc_new])
  clear x0 x1 x2 x3 x4
  have hX : Below y5.heap.size y5 (y5.alloc (.cells (mcs (headQ l) (.slice none 0 0) (.slice none 0 0) (.slice none 0 0)).toArray 34)) := more (Below.refl _ _) _
  have ho : Only b y0 y5 := (((ho1.trans ho2).trans ho3).trans ho4).trans ho5
  have HBK : Hid (Blk (y5.alloc (.cells (mcs (headQ l) (.slice none 0 0) (.slice none 0 0) (.slice none 0 0)).toArray 34)) y5.heap.size 34 (mcs (headQ l) (.slice none 0 0) (.slice none 0 0) (.slice none 0 0)).toArray) := Lib.hid (Blk.new y5 34 (mcs (headQ l) (.slice none 0 0) (.slice none 0 0) (.slice none 0 0)).toArray)
  have HB4 := Lib.hid ((HB40.out.only ho H4b.out).keep hX)
  have HR : Hid (RdrQ (y5.alloc (.cells (mcs (headQ l) (.slice none 0 0) (.slice none 0 0) (.slice none 0 0)).toArray 34)) b (.slice av l.length cv) l 9) := Lib.hid (hr5.keep hX)
  have HK := Lib.hid (nest (HK0.out.trans (ho.below HWb.out HK0.out.size)) hX)
  have H47 : Hid (g4 ≠ y5.heap.size) := Lib.hid (by have := HB40.out.lt; have := ho.size; omega)
  have H7b : Hid (y5.heap.size ≠ b) := Lib.hid (by have := hr5.lt; omega)
  have HW7 : Hid (w.heap.size ≤ y5.heap.size) := Lib.hid (HK0.out.trans (ho.below HWb.out HK0.out.size)).size
  obtain ⟨B0, hB0⟩ : ∃ B, B = (y5.alloc (.cells (mcs (headQ l) (.slice none 0 0) (.slice none 0 0) (.slice none 0 0)).toArray 34)).heap.size := ⟨_, rfl⟩
  have HS : Hid (B0 ≤ (y5.alloc (.cells (mcs (headQ l) (.slice none 0 0) (.slice none 0 0) (.slice none 0 0)).toArray 34)).heap.size) := Lib.hid (by omega)
  have HPA : Hid (PA B0 (y5.alloc (.cells (mcs (headQ l) (.slice none 0 0) (.slice none 0 0) (.slice none 0 0)).toArray 34)) (headQ l) (.slice none 0 0) (.slice none 0 0) (.slice none 0 0)) := Lib.hid ⟨by rw [(headQ_ok HBY.out).vals]; exact Row.nil, by rw [(headQ_ok HBY.out).box]; exact Row.nil, by rw [(headQ_ok HBY.out).recs]; exact recsAt_nil _ _⟩
  have HbB : Hid (b < B0) := Lib.hid (by rw [hB0]; exact HR.out.lt)
  have H7B : Hid (y5.heap.size < B0) := Lib.hid (by rw [hB0]; exact HBK.out.lt)
  have H4B : Hid (g4 < B0) := Lib.hid (by rw [hB0]; exact HB4.out.lt)
  clear hX ho ho1 ho2 ho3 ho4 ho5 hr1 hr2 hr3 hr4 hr5 HR0 HB40 HK0 hB0
  generalize y5.alloc (.cells (mcs (headQ l) (.slice none 0 0) (.slice none 0 0) (.slice none 0 0)).toArray 34) = z at *
  obtain ⟨g7, hg7⟩ : ∃ g7, g7 = y5.heap.size := ⟨_, rfl⟩
  rw [← hg7] at HBK H47 H7b HW7 H7B ⊢
  clear hg7
  have Hb7 : Hid (b ≠ g7) := Lib.hid (fun e => H7b.out e.symm)
  have HQK : Hid ((headQ l).kind = 3) := Lib.hid HQ.out
  have HHB : Hid (0 ≤ (headQ l).hub) := Lib.hid (headQ_ok HBY.out).hub
  obtain ⟨M0, hM0⟩ : ∃ m, m = headQ l := ⟨_, rfl⟩
  rw [← hM0] at HBK HPA
  have HE0 := Lib.hid hM0
  have HF : Hid (firstM M0 = true) := Lib.hid (by rw [hM0]; unfold firstM; rw [HQK.out]; decide)
  clear hM0
  have c2 : z.cell? ⟨b, 2, none⟩ = some (.int .i64 0) := by have := HR.out.err; rwa [if_pos H9.out] at this
  go_upto_region 9 with (first | (refine at_load 7 rfl ?_; refine wpList_load_row rfl 34 (.tmp 7) rfl g7 rfl 34 _ (0, 0) _ HBK.out Try.underlying34 rfl msg_info ?_) | (go_at_call 32; refine (rfirst_any M0 _ _ _ _).mono ?_; rintro e z0 ⟨rfl, hk⟩; rw [HF.out]))
  have HB4n := Lib.hid (HB4.out.keep hk)
  have HBKn := Lib.hid (HBK.out.keep hk)
  have HRn := Lib.hid (HR.out.keep hk)
  have HKn := Lib.hid (nest HK.out hk)
  have HPAn := Lib.hid (HPA.out.keep hk)
  have HSn : Hid (B0 ≤ z0.heap.size) := Lib.hid (Nat.le_trans HS.out hk.size)
  clear HB4 HBK HR HK HPA HS hk
  have HB4 := HB4n
  have HBK := HBKn
  have HR := HRn
  have HK := HKn
  have HPA := HPAn
  have HS := HSn
  clear HB4n HBKn HRn HKn HPAn HSn
  clear c2 HF
  go_upto_region 10 with (go_at_call 38; refine (rgetq b (.slice av l.length cv) l (9) 1 sz1 _ HR.out HL.out HBY.out).mono ?_; rintro e y1 ⟨rfl, hr, ho⟩; have hbk := HBK.out.only ho H7b.out; have ec : y1.cell? ⟨g7, 13, none⟩ = some (.bool M0.gone) := hbk.cell 13; have ef := hbk.frozen 13)
  have hos := Only.set (b := g7) y1 13 (.bool (gq l 9 1 == 1))
  obtain ⟨M1, hM1⟩ : ∃ m, m = { M0 with gone := (gq l 9 1 == 1) } := ⟨_, rfl⟩
  have hbk2 : Blk (y1.setCell ⟨g7, 13, none⟩ (.bool (gq l 9 1 == 1))) g7 34 (mcs M1 (.slice none 0 0) (.slice none 0 0) (.slice none 0 0)).toArray := by rw [hM1]; exact hbk.set_ 13 _
  have hk2 : Below w.heap.size w (y1.setCell ⟨g7, 13, none⟩ (.bool (gq l 9 1 == 1))) := (HK.out.trans (ho.below HWb.out HK.out.size)).trans (hos.below HW7.out (HK.out.trans (ho.below HWb.out HK.out.size)).size)
  have HKn := Lib.hid hk2
  have HBKn := Lib.hid hbk2
  have HB4n : Hid (Blk (y1.setCell ⟨g7, 13, none⟩ (.bool (gq l 9 1 == 1))) g4 34 zcs.toArray) := Lib.hid ((HB4.out.only ho H4b.out).only hos H47.out)
  have HRn := Lib.hid (hr.mv2 HV.out hk2 (fun cs hc => hc.only hos Hb7.out))
  have HPAn : Hid (PA B0 (y1.setCell ⟨g7, 13, none⟩ (.bool (gq l 9 1 == 1))) M1 (.slice none 0 0) (.slice none 0 0) (.slice none 0 0)) := Lib.hid (by rw [hM1]; exact ⟨((HPA.out.only ho HbB.out).only hos H7B.out).vals, ((HPA.out.only ho HbB.out).only hos H7B.out).box, ((HPA.out.only ho HbB.out).only hos H7B.out).recs⟩)
  have HSn : Hid (B0 ≤ (y1.setCell ⟨g7, 13, none⟩ (.bool (gq l 9 1 == 1))).heap.size) := Lib.hid (Nat.le_trans (Nat.le_trans HS.out ho.size) hos.size)
  have HE1 := Lib.hid hM1
  clear HB4 HBK HR HK HPA HS hbk2 hk2 ho hr
  have HB4 := HB4n
  have HBK := HBKn
  have HR := HRn
  have HK := HKn
  have HPA := HPAn
  have HS := HSn
  clear HB4n HBKn HRn HKn HPAn HSn
  clear ec ef hbk hos hM1
  generalize y1.setCell ⟨g7, 13, none⟩ (.bool (gq l 9 1 == 1)) = z1 at *
  go_upto_region 11 with (first | (go_at_call 39; refine (rreadr_any b (.slice av l.length cv) l 10 a _ HR.out HL.out HBY.out HA.out.2).mono ?_; rintro e y2 ⟨xv, rfl, hrow, hr, ho⟩; have HROW := Lib.hid (hrow.mono HS.out); obtain ⟨ar, cr, rfl, _, _⟩ := hrow.rd.form; have hbk := HBK.out.only ho H7b.out; clear hrow) | (refine at_store 59 rfl ?_; refine wpList_store_mid rfl 26 (.tmp 59) (.tmp 57) rfl g7 10 #[.int .u64 (gq l 10 8), .int .u64 (gq l (10 + 8) 8), .slice ar (valQ l (10 + 16) a).length cr] rfl rfl (there_blk hbk 10 3 (by simp [mcs])) rec_info (by simp [Value.oneCell']) ?_))
  obtain ⟨ST, hST⟩ : ∃ S, S = y2.setCells g7 10 [.int .u64 (gq l 10 8), .int .u64 (gq l (10 + 8) 8), .slice ar (valQ l (10 + 16) a).length cr] := ⟨_, rfl⟩
  have hos : Only g7 y2 ST := by rw [hST]; exact ((Only.set _ 10 _).trans (Only.set _ 11 _)).trans (Only.set _ 12 _)
  obtain ⟨M2, hM2⟩ : ∃ m, m = { M1 with eid := gq l 10 8, ever := gq l (10 + 8) 8, vals := valQ l (10 + 16) a } := ⟨_, rfl⟩
  have hbk2 : Blk ST g7 34 (mcs M2 (.slice ar (valQ l (10 + 16) a).length cr) (.slice none 0 0) (.slice none 0 0)).toArray := by rw [hM2, hST]; exact ((hbk.set_ 10 _).set_ 11 _).set_ 12 _
  have hk2 : Below w.heap.size w ST := (HK.out.trans (ho.below HWb.out HK.out.size)).trans (hos.below HW7.out (HK.out.trans (ho.below HWb.out HK.out.size)).size)
  have HKn := Lib.hid hk2
  have HBKn := Lib.hid hbk2
  have HB4n : Hid (Blk ST g4 34 zcs.toArray) := Lib.hid ((HB4.out.only ho H4b.out).only hos H47.out)
  have HRn := Lib.hid (hr.mv2 HV.out hk2 (fun cs hc => hc.only hos Hb7.out))
  have HPAn : Hid (PA B0 ST M2 (.slice ar (valQ l (10 + 16) a).length cr) (.slice none 0 0) (.slice none 0 0)) := Lib.hid (by rw [hM2]; exact ⟨HROW.out.only hos (fun e => by have := (HROW.out.block g7 e).1; have := H7B.out; omega), ((HPA.out.only ho HbB.out).only hos H7B.out).box, ((HPA.out.only ho HbB.out).only hos H7B.out).recs⟩)
  have HSn : Hid (B0 ≤ ST.heap.size) := Lib.hid (Nat.le_trans (Nat.le_trans HS.out ho.size) hos.size)
  have HE2 := Lib.hid hM2
  clear HB4 HBK HR HK HPA HS hbk2 hk2 ho hr
  have HB4 := HB4n
  have HBK := HBKn
  have HR := HRn
  have HK := HKn
  have HPA := HPAn
  have HS := HSn
  clear HB4n HBKn HRn HKn HPAn HSn
  (try rw [← hST])
  clear hbk hos hM2 HROW
  (try clear hST)
  generalize ST = z2 at *
  have c0 : z2.cell? ⟨g7, 0, none⟩ = some (.int .i64 3) := by rw [show (Value.int .i64 3) = .int .i64 M2.kind by rw [HE2.out, HE1.out, HE0.out]; exact congrArg _ HQ.out.symm]; exact HBK.out.cell 0
  have bx := gq4 HBY.out (10 + 16 + 4 * a)
  have wx : IntKind.u32.wrap (gq l (10 + 16 + 4 * a) 4) = gq l (10 + 16 + 4 * a) 4 := IntWalk.u32_in _ (by omega)
  clear bx
  go_upto_region 13 with (go_at_call 38; refine (rgetq b (.slice av l.length cv) l (10 + 16 + 4 * a) 4 sz4' _ HR.out HL.out HBY.out).mono ?_; rintro e y3 ⟨rfl, hr, ho⟩; have hbk := HBK.out.only ho H7b.out; have ec : y3.cell? ⟨g7, 7, none⟩ = some (.int .u32 M2.owner) := hbk.cell 7; have ef := hbk.frozen 7)
  have hos := Only.set (b := g7) y3 7 (.int .u32 (gq l (10 + 16 + 4 * a) 4))
  obtain ⟨M3, hM3⟩ : ∃ m, m = { M2 with owner := gq l (10 + 16 + 4 * a) 4 } := ⟨_, rfl⟩
  have hbk2 : Blk (y3.setCell ⟨g7, 7, none⟩ (.int .u32 (gq l (10 + 16 + 4 * a) 4))) g7 34 (mcs M3 (.slice ar (valQ l (10 + 16) a).length cr) (.slice none 0 0) (.slice none 0 0)).toArray := by rw [hM3]; exact hbk.set_ 7 _
  have hk2 : Below w.heap.size w (y3.setCell ⟨g7, 7, none⟩ (.int .u32 (gq l (10 + 16 + 4 * a) 4))) := (HK.out.trans (ho.below HWb.out HK.out.size)).trans (hos.below HW7.out (HK.out.trans (ho.below HWb.out HK.out.size)).size)
  have HKn := Lib.hid hk2
  have HBKn := Lib.hid hbk2
  have HB4n : Hid (Blk (y3.setCell ⟨g7, 7, none⟩ (.int .u32 (gq l (10 + 16 + 4 * a) 4))) g4 34 zcs.toArray) := Lib.hid ((HB4.out.only ho H4b.out).only hos H47.out)
  have HRn := Lib.hid (hr.mv2 HV.out hk2 (fun cs hc => hc.only hos Hb7.out))
  have HPAn : Hid (PA B0 (y3.setCell ⟨g7, 7, none⟩ (.int .u32 (gq l (10 + 16 + 4 * a) 4))) M3 (.slice ar (valQ l (10 + 16) a).length cr) (.slice none 0 0) (.slice none 0 0)) := Lib.hid (by rw [hM3]; exact ⟨((HPA.out.only ho HbB.out).only hos H7B.out).vals, ((HPA.out.only ho HbB.out).only hos H7B.out).box, ((HPA.out.only ho HbB.out).only hos H7B.out).recs⟩)
  have HSn : Hid (B0 ≤ (y3.setCell ⟨g7, 7, none⟩ (.int .u32 (gq l (10 + 16 + 4 * a) 4))).heap.size) := Lib.hid (Nat.le_trans (Nat.le_trans HS.out ho.size) hos.size)
  have HE3 := Lib.hid hM3
  clear HB4 HBK HR HK HPA HS hbk2 hk2 ho hr
  have HB4 := HB4n
  have HBK := HBKn
  have HR := HRn
  have HK := HKn
  have HPA := HPAn
  have HS := HSn
  clear HB4n HBKn HRn HKn HPAn HSn
  clear ec ef hbk hos hM3
  generalize y3.setCell ⟨g7, 7, none⟩ (.int .u32 (gq l (10 + 16 + 4 * a) 4)) = z3 at *
  clear wx c0
  have bx := gq4 HBY.out (10 + 16 + 4 * a + 4)
  have wx : IntKind.i64.wrap (gq l (10 + 16 + 4 * a + 4) 4) = gq l (10 + 16 + 4 * a + 4) 4 := IntWalk.i64_in _ (by omega)
  clear bx
  go_upto_region 14 with (go_at_call 38; refine (rgetq b (.slice av l.length cv) l (10 + 16 + 4 * a + 4) 4 sz4' _ HR.out HL.out HBY.out).mono ?_; rintro e y4 ⟨rfl, hr, ho⟩; have hbk := HBK.out.only ho H7b.out; have ec : y4.cell? ⟨g7, 8, none⟩ = some (.int .i64 M3.turn) := hbk.cell 8; have ef := hbk.frozen 8)
  have hos := Only.set (b := g7) y4 8 (.int .i64 (gq l (10 + 16 + 4 * a + 4) 4))
  obtain ⟨M4, hM4⟩ : ∃ m, m = { M3 with turn := gq l (10 + 16 + 4 * a + 4) 4 } := ⟨_, rfl⟩
  have hbk2 : Blk (y4.setCell ⟨g7, 8, none⟩ (.int .i64 (gq l (10 + 16 + 4 * a + 4) 4))) g7 34 (mcs M4 (.slice ar (valQ l (10 + 16) a).length cr) (.slice none 0 0) (.slice none 0 0)).toArray := by rw [hM4]; exact hbk.set_ 8 _
  have hk2 : Below w.heap.size w (y4.setCell ⟨g7, 8, none⟩ (.int .i64 (gq l (10 + 16 + 4 * a + 4) 4))) := (HK.out.trans (ho.below HWb.out HK.out.size)).trans (hos.below HW7.out (HK.out.trans (ho.below HWb.out HK.out.size)).size)
  have HKn := Lib.hid hk2
  have HBKn := Lib.hid hbk2
  have HB4n : Hid (Blk (y4.setCell ⟨g7, 8, none⟩ (.int .i64 (gq l (10 + 16 + 4 * a + 4) 4))) g4 34 zcs.toArray) := Lib.hid ((HB4.out.only ho H4b.out).only hos H47.out)
  have HRn := Lib.hid (hr.mv2 HV.out hk2 (fun cs hc => hc.only hos Hb7.out))
  have HPAn : Hid (PA B0 (y4.setCell ⟨g7, 8, none⟩ (.int .i64 (gq l (10 + 16 + 4 * a + 4) 4))) M4 (.slice ar (valQ l (10 + 16) a).length cr) (.slice none 0 0) (.slice none 0 0)) := Lib.hid (by rw [hM4]; exact ⟨((HPA.out.only ho HbB.out).only hos H7B.out).vals, ((HPA.out.only ho HbB.out).only hos H7B.out).box, ((HPA.out.only ho HbB.out).only hos H7B.out).recs⟩)
  have HSn : Hid (B0 ≤ (y4.setCell ⟨g7, 8, none⟩ (.int .i64 (gq l (10 + 16 + 4 * a + 4) 4))).heap.size) := Lib.hid (Nat.le_trans (Nat.le_trans HS.out ho.size) hos.size)
  have HE4 := Lib.hid hM4
  clear HB4 HBK HR HK HPA HS hbk2 hk2 ho hr
  have HB4 := HB4n
  have HBK := HBKn
  have HR := HRn
  have HK := HKn
  have HPA := HPAn
  have HS := HSn
  clear HB4n HBKn HRn HKn HPAn HSn
  clear ec ef hbk hos hM4
  generalize y4.setCell ⟨g7, 8, none⟩ (.int .i64 (gq l (10 + 16 + 4 * a + 4) 4)) = z4 at *
  clear wx
  have c0 : z4.cell? ⟨g7, 0, none⟩ = some (.int .i64 3) := by rw [show (Value.int .i64 3) = .int .i64 M4.kind by rw [HE4.out, HE3.out, HE2.out, HE1.out, HE0.out]; exact congrArg _ HQ.out.symm]; exact HBK.out.cell 0
  obtain ⟨hub, hhub⟩ := Int.eq_ofNat_of_zero_le HHB.out
  have HHUB := Lib.hid hhub
  have c1 : z4.cell? ⟨g7, 1, none⟩ = some (.int .i64 (hub : Int)) := by rw [← hhub, show (headQ l).hub = M4.hub by rw [HE4.out, HE3.out, HE2.out, HE1.out, HE0.out]]; exact HBK.out.cell 1
  clear hhub
  by_cases hlt : (hub : Int) < a
  case neg =>
    go_upto_region 34 with fail
    clear c1 c0
    have HLT := Lib.hid hlt
    clear hlt
    have HMQ : Hid (M4 = msgQ a l) := Lib.hid (by
      have hev : evQ l 9 a (headQ l).hub = 0 := by unfold evQ; rw [HHUB.out, if_neg HLT.out]
      unfold msgQ msgK entQ
      rw [if_neg (by rw [HQK.out]; decide), if_pos (.inr HQK.out)]
      rw [hev, HE4.out, HE3.out, HE2.out, HE1.out, HE0.out]
      all_goals rfl
      )
    have HMB : Hid (MB M4) := Lib.hid (by
      have hbd := (headQ_ok HBY.out).bd
      rw [HE4.out, HE3.out, HE2.out, HE1.out, HE0.out]
      exact ⟨hbd.kind, hbd.hub, hbd.point, hbd.client, hbd.op, (by show u32B 0; simp [u32B]), hbd.hops, gq4 HBY.out _, i64_of4 HBY.out _, (by show u32B 0; simp [u32B]), gq8 HBY.out _, gq8 HBY.out _, valQ_bd HBY.out _ _, hbd.sf, hbd.st, hbd.box, hbd.recs⟩
      )
    have HLQ : Hid (lenQ a l 3 = 10 + 16 + 4 * a + 4 + 4) := Lib.hid (by
      unfold lenQ
      rw [if_neg (by decide), if_pos (.inr rfl)]
      all_goals omega
      )
    by_cases hle : 10 + 16 + 4 * a + 4 + 4 ≤ l.length
    case neg =>
      have c2 : z4.cell? ⟨b, 2, none⟩ = some (.int .i64 3) := by have := HR.out.err; rwa [if_neg hle] at this
      have HLE := Lib.hid hle
      clear hle
      go_upto_region 35 with fail
      go_upto_if 99 with (refine at_store 4 rfl ?_; refine wpList_store_row rfl 34 (.tmp 4) (.tmp 180) rfl g4 zcs.toArray rfl rfl 34 _ HB4.out msg_info rfl zcs_one ?_)
      refine bodyPost_ret (results_blk_tmp (l := zcs) rfl Try.underlying34 msg_info rfl rfl (Blk.row HB4.out _)) rfl ?_
      rw [show RES = (zeroM, 3) by rw [HRES.out, takeK_short (by rw [HLQ.out]; exact Nat.lt_of_not_le HLE.out)]]
      exact none_take ⟨rfl, HK.out.trans ((Only.row z4 _).below HW4.out HK.out.size)⟩
    have c2 : z4.cell? ⟨b, 2, none⟩ = some (.int .i64 0) := by have := HR.out.err; rwa [if_pos hle] at this
    have HLE := Lib.hid hle
    clear hle
    have HM := Lib.hid (HPA.out.rd HMB.out)
    have HPK := Lib.hid (rmpack_any a M4 (.slice ar (valQ l (10 + 16) a).length cr) (.slice none 0 0) (.slice none 0 0) z4 HM.out HMB.out)
    go_upto_region 36 with fail
    clear c2
    cases hr : rightM a M4 with
    | false =>
      have HCP : Hid (Calls Try.prog 13 #[.int .i64 a, .agg (mcs M4 (.slice ar (valQ l (10 + 16) a).length cr) (.slice none 0 0) (.slice none 0 0)).toArray] z4 fun e w' => e = .returned (.tuple #[.slice none 0 0, .int .i64 4]) ∧ Below z4.heap.size z4 w') := Lib.hid (HPK.out.mono fun e w' h => by
        rcases h with ⟨_, h2, h3⟩ | ⟨h1, _⟩
        · exact ⟨h2, h3⟩
        · rw [hr] at h1; cases h1)
      have HRI := Lib.hid hr
      clear hr HPK
      go_upto_if 99 with (first | (refine at_load 7 rfl ?_; refine wpList_load_row rfl 34 (.tmp 7) rfl g7 rfl 34 _ (0, 0) _ HBK.out Try.underlying34 rfl msg_info ?_) | (go_at_call 13; refine HCP.out.mono ?_; rintro e w6 ⟨rfl, hk6⟩) | (refine at_store 4 rfl ?_; refine wpList_store_row rfl 34 (.tmp 4) (.tmp 195) rfl g4 zcs.toArray rfl rfl 34 _ (HB4.out.keep hk6) msg_info rfl zcs_one ?_))
      refine bodyPost_ret (results_blk_tmp (l := zcs) rfl Try.underlying34 msg_info rfl rfl (Blk.row (HB4.out.keep hk6) _)) rfl ?_
      rw [show RES = (zeroM, 4) by rw [HRES.out, takeK_bad (by rw [HLQ.out]; exact HLE.out) (by rw [← HMQ.out, HRI.out]; simp)]]
      exact none_take ⟨rfl, (nest HK.out hk6).trans ((Only.row w6 _).below HW4.out (nest HK.out hk6).size)⟩
    | true =>
      have HCP : Hid (Calls Try.prog 13 #[.int .i64 a, .agg (mcs M4 (.slice ar (valQ l (10 + 16) a).length cr) (.slice none 0 0) (.slice none 0 0)).toArray] z4 fun e w' => (∃ x, e = .returned (.tuple #[x, .int .i64 0]) ∧ Rd (intE .u8) w' x (packM M4)) ∧ Below z4.heap.size z4 w') := Lib.hid (HPK.out.mono fun e w' h => by
        rcases h with ⟨h1, _⟩ | ⟨_, x, h2, h3, h4⟩
        · rw [hr] at h1; cases h1
        · exact ⟨⟨x, h2, h3.rd⟩, h4⟩)
      have HRI := Lib.hid hr
      clear hr HPK
      go_upto_region 37 with (first | (refine at_load 7 rfl ?_; refine wpList_load_row rfl 34 (.tmp 7) rfl g7 rfl 34 _ (0, 0) _ HBK.out Try.underlying34 rfl msg_info ?_) | (go_at_call 13; refine HCP.out.mono ?_; rintro e w6 ⟨⟨x, rfl, hx⟩, hk6⟩; have HXX := Lib.hid hx; obtain ⟨ax, cx, rfl, _, _⟩ := hx.form; clear hx))
      have HEQ := Lib.hid (bytesD_any _ _ _ _ w6 HXX.out (HV.out.keep (nest HK.out hk6)) (packM_byt M4) HBY.out)
      have HB46 := Lib.hid (HB4.out.keep hk6)
      have HBK6 := Lib.hid (HBK.out.keep hk6)
      have HK6 := Lib.hid (nest HK.out hk6)
      have HM6 := Lib.hid (HM.out.keep hk6)
      have HPA6 := Lib.hid (HPA.out.keep hk6)
      clear hk6 HCP HB4 HBK HK HM HPA
      cases hpq : decide (packM M4 = l) with
      | false =>
        rw [hpq] at HEQ
        have HPQ := Lib.hid (of_decide_eq_false hpq)
        clear hpq
        go_upto_if 99 with (first | (go_at_call 18; refine HEQ.out.mono ?_; rintro e w7 ⟨rfl, hk7⟩) | (refine at_store 4 rfl ?_; refine wpList_store_row rfl 34 (.tmp 4) (.tmp 195) rfl g4 zcs.toArray rfl rfl 34 _ (HB46.out.keep hk7) msg_info rfl zcs_one ?_))
        refine bodyPost_ret (results_blk_tmp (l := zcs) rfl Try.underlying34 msg_info rfl rfl (Blk.row (HB46.out.keep hk7) _)) rfl ?_
        rw [show RES = (zeroM, 4) by rw [HRES.out, takeK_bad (by rw [HLQ.out]; exact HLE.out) (by rw [← HMQ.out]; exact fun h => HPQ.out h.2)]]
        exact none_take ⟨rfl, (nest HK6.out hk7).trans ((Only.row w7 _).below HW4.out (nest HK6.out hk7).size)⟩
      | true =>
        rw [hpq] at HEQ
        have HPQ := Lib.hid (of_decide_eq_true hpq)
        clear hpq
        go_upto_if 99 with (first | (go_at_call 18; refine HEQ.out.mono ?_; rintro e w7 ⟨rfl, hk7⟩) | (refine at_load 7 rfl ?_; refine wpList_load_row rfl 34 (.tmp 7) rfl g7 rfl 34 _ (0, 0) _ (HBK6.out.keep hk7) Try.underlying34 rfl msg_info ?_) | (refine at_store 4 rfl ?_; refine wpList_store_row rfl 34 (.tmp 4) (.tmp 196) rfl g4 (mcs M4 (.slice ar (valQ l (10 + 16) a).length cr) (.slice none 0 0) (.slice none 0 0)).toArray rfl rfl 34 _ (HB46.out.keep hk7) msg_info rfl (mcs_one HM6.out) ?_))
        refine bodyPost_ret (results_blk_tmp (l := mcs M4 (.slice ar (valQ l (10 + 16) a).length cr) (.slice none 0 0) (.slice none 0 0)) rfl Try.underlying34 msg_info rfl rfl (Blk.row (HB46.out.keep hk7) _)) rfl ?_
        rw [show RES = (M4, 0) by rw [HRES.out, HMQ.out, takeK_good (by rw [HLQ.out]; exact HLE.out) ⟨by rw [← HMQ.out]; exact HRI.out, by rw [← HMQ.out]; exact HPQ.out⟩]]
        exact ⟨_, _, _, rfl, ((HPA6.out.keep hk7).only (Only.row w7 _) H4B.out).rd HMB.out, HMB.out, (nest HK6.out hk7).trans ((Only.row w7 _).below HW4.out (nest HK6.out hk7).size)⟩
  have HVL := valQ_len l (10 + 16) a
  obtain ⟨av', gv, ov, cv', hv1, hv2, hv3, hv4, hv5⟩ := Mem.Rd.loopI HPA.out.vals.rd
  have HVE : M4.vals = valQ l (10 + 16) a := by rw [HE4.out, HE3.out, HE2.out, HE1.out, HE0.out]
  rw [HVE] at hv1 hv2 hv4 hv5
  have hkl : hub < (valQ l (10 + 16) a).length := by rw [HVL]; omega
  injection hv1 with e1 e2 e3
  obtain ⟨e4, _⟩ := hv4 (by omega)
  have d3 : z4.cell? ⟨g7, 12, none⟩ = some (.slice (some ⟨gv, ov, none⟩) (valQ l (10 + 16) a).length cr) := by rw [← e4, ← e1]; exact HBK.out.cell 12
  have dv : z4.cell? ⟨gv, ov + hub, none⟩ = some (.int .u32 ((valQ l (10 + 16) a).getD hub 0)) := hv5 hub hkl
  have ec : z4.cell? ⟨g7, 9, none⟩ = some (.int .u32 M4.ev) := HBK.out.cell 9
  have ef := HBK.out.frozen 9
  have hbk := HBK.out
  have hvb := evQ_bd HBY.out 9 a (hub : Int)
  have HEV : Hid (evQ l 9 a (headQ l).hub = (valQ l (10 + 16) a).getD hub 0) := Lib.hid (by unfold evQ; rw [HHUB.out, if_pos hlt, Int.toNat_natCast])
  rw [← HHUB.out] at hvb
  rw [HEV.out] at hvb
  obtain ⟨vv, hvv⟩ : ∃ vv, vv = (valQ l (10 + 16) a).getD hub 0 := ⟨_, rfl⟩
  rw [← hvv] at dv HEV hvb
  rw [HVL] at d3
  have HVB := Lib.hid hvb
  have hlt' : hub < a := by omega
  clear hv2 hv3 hv4 hv5 e1 e2 e3 e4 hvv hkl HVL HVE hvb
  have HBKH := Lib.hid hbk
  clear hbk
  go_upto_region 18 with fail
  have hbk := HBKH.out
  clear HBKH d3 dv c1 hlt' c0
  have hos := Only.set (b := g7) z4 9 (.int .u32 vv)
  obtain ⟨M5, hM5⟩ : ∃ m, m = { M4 with ev := vv } := ⟨_, rfl⟩
  have hbk2 : Blk (z4.setCell ⟨g7, 9, none⟩ (.int .u32 vv)) g7 34 (mcs M5 (.slice ar (valQ l (10 + 16) a).length cr) (.slice none 0 0) (.slice none 0 0)).toArray := by rw [hM5]; exact hbk.set_ 9 _
  have hk2 : Below w.heap.size w (z4.setCell ⟨g7, 9, none⟩ (.int .u32 vv)) := HK.out.trans (hos.below HW7.out HK.out.size)
  have HKn := Lib.hid hk2
  have HBKn := Lib.hid hbk2
  have HB4n : Hid (Blk (z4.setCell ⟨g7, 9, none⟩ (.int .u32 vv)) g4 34 zcs.toArray) := Lib.hid (HB4.out.only hos H47.out)
  have HRn := Lib.hid (HR.out.mv2 HV.out hk2 (fun cs hc => hc.only hos Hb7.out))
  have HPAn : Hid (PA B0 (z4.setCell ⟨g7, 9, none⟩ (.int .u32 vv)) M5 (.slice ar (valQ l (10 + 16) a).length cr) (.slice none 0 0) (.slice none 0 0)) := Lib.hid (by rw [hM5]; exact ⟨(HPA.out.only hos H7B.out).vals, (HPA.out.only hos H7B.out).box, (HPA.out.only hos H7B.out).recs⟩)
  have HSn : Hid (B0 ≤ (z4.setCell ⟨g7, 9, none⟩ (.int .u32 vv)).heap.size) := Lib.hid (Nat.le_trans HS.out hos.size)
  have HE5 := Lib.hid hM5
  clear HB4 HBK HR HK HPA HS hbk2 hk2
  have HB4 := HB4n
  have HBK := HBKn
  have HR := HRn
  have HK := HKn
  have HPA := HPAn
  have HS := HSn
  clear HB4n HBKn HRn HKn HPAn HSn
  clear ec ef hbk hos hM5
  generalize z4.setCell ⟨g7, 9, none⟩ (.int .u32 vv) = z5 at *
  have c9 : z5.cell? ⟨g7, 9, none⟩ = some (.int .u32 vv) := by rw [show (Value.int .u32 vv) = .int .u32 M5.ev by rw [HE5.out]]; exact HBK.out.cell 9
  have ec : z5.cell? ⟨g7, 5, none⟩ = some (.int .u32 M5.target) := HBK.out.cell 5
  have ef := HBK.out.frozen 5
  have HLT := Lib.hid hlt
  clear hlt
  go_upto_region 34 with fail
  have hbk := HBK.out
  have hos := Only.set (b := g7) z5 5 (.int .u32 vv)
  obtain ⟨M6, hM6⟩ : ∃ m, m = { M5 with target := vv } := ⟨_, rfl⟩
  have hbk2 : Blk (z5.setCell ⟨g7, 5, none⟩ (.int .u32 vv)) g7 34 (mcs M6 (.slice ar (valQ l (10 + 16) a).length cr) (.slice none 0 0) (.slice none 0 0)).toArray := by rw [hM6]; exact hbk.set_ 5 _
  have hk2 : Below w.heap.size w (z5.setCell ⟨g7, 5, none⟩ (.int .u32 vv)) := HK.out.trans (hos.below HW7.out HK.out.size)
  have HKn := Lib.hid hk2
  have HBKn := Lib.hid hbk2
  have HB4n : Hid (Blk (z5.setCell ⟨g7, 5, none⟩ (.int .u32 vv)) g4 34 zcs.toArray) := Lib.hid (HB4.out.only hos H47.out)
  have HRn := Lib.hid (HR.out.mv2 HV.out hk2 (fun cs hc => hc.only hos Hb7.out))
  have HPAn : Hid (PA B0 (z5.setCell ⟨g7, 5, none⟩ (.int .u32 vv)) M6 (.slice ar (valQ l (10 + 16) a).length cr) (.slice none 0 0) (.slice none 0 0)) := Lib.hid (by rw [hM6]; exact ⟨(HPA.out.only hos H7B.out).vals, (HPA.out.only hos H7B.out).box, (HPA.out.only hos H7B.out).recs⟩)
  have HSn : Hid (B0 ≤ (z5.setCell ⟨g7, 5, none⟩ (.int .u32 vv)).heap.size) := Lib.hid (Nat.le_trans HS.out hos.size)
  have HE6 := Lib.hid hM6
  clear HB4 HBK HR HK HPA HS hbk2 hk2
  have HB4 := HB4n
  have HBK := HBKn
  have HR := HRn
  have HK := HKn
  have HPA := HPAn
  have HS := HSn
  clear HB4n HBKn HRn HKn HPAn HSn
  clear ec ef hbk hos hM6
  generalize z5.setCell ⟨g7, 5, none⟩ (.int .u32 vv) = z6 at *
  clear c9
  have HMQ : Hid (M6 = msgQ a l) := Lib.hid (by
    unfold msgQ msgK entQ
    rw [if_neg (by rw [HQK.out]; decide), if_pos (.inr HQK.out)]
    rw [HEV.out, HE6.out, HE5.out, HE4.out, HE3.out, HE2.out, HE1.out, HE0.out]
    all_goals rfl
    )
  have HMB : Hid (MB M6) := Lib.hid (by
    have hbd := (headQ_ok HBY.out).bd
    rw [HE6.out, HE5.out, HE4.out, HE3.out, HE2.out, HE1.out, HE0.out]
    exact ⟨hbd.kind, hbd.hub, hbd.point, hbd.client, hbd.op, HVB.out, hbd.hops, gq4 HBY.out _, i64_of4 HBY.out _, HVB.out, gq8 HBY.out _, gq8 HBY.out _, valQ_bd HBY.out _ _, hbd.sf, hbd.st, hbd.box, hbd.recs⟩
    )
  have HLQ : Hid (lenQ a l 3 = 10 + 16 + 4 * a + 4 + 4) := Lib.hid (by
    unfold lenQ
    rw [if_neg (by decide), if_pos (.inr rfl)]
    all_goals omega
    )
  by_cases hle : 10 + 16 + 4 * a + 4 + 4 ≤ l.length
  case neg =>
    have c2 : z6.cell? ⟨b, 2, none⟩ = some (.int .i64 3) := by have := HR.out.err; rwa [if_neg hle] at this
    have HLE := Lib.hid hle
    clear hle
    go_upto_region 35 with fail
    go_upto_if 99 with (refine at_store 4 rfl ?_; refine wpList_store_row rfl 34 (.tmp 4) (.tmp 180) rfl g4 zcs.toArray rfl rfl 34 _ HB4.out msg_info rfl zcs_one ?_)
    refine bodyPost_ret (results_blk_tmp (l := zcs) rfl Try.underlying34 msg_info rfl rfl (Blk.row HB4.out _)) rfl ?_
    rw [show RES = (zeroM, 3) by rw [HRES.out, takeK_short (by rw [HLQ.out]; exact Nat.lt_of_not_le HLE.out)]]
    exact none_take ⟨rfl, HK.out.trans ((Only.row z6 _).below HW4.out HK.out.size)⟩
  have c2 : z6.cell? ⟨b, 2, none⟩ = some (.int .i64 0) := by have := HR.out.err; rwa [if_pos hle] at this
  have HLE := Lib.hid hle
  clear hle
  have HM := Lib.hid (HPA.out.rd HMB.out)
  have HPK := Lib.hid (rmpack_any a M6 (.slice ar (valQ l (10 + 16) a).length cr) (.slice none 0 0) (.slice none 0 0) z6 HM.out HMB.out)
  go_upto_region 36 with fail
  clear c2
  cases hr : rightM a M6 with
  | false =>
    have HCP : Hid (Calls Try.prog 13 #[.int .i64 a, .agg (mcs M6 (.slice ar (valQ l (10 + 16) a).length cr) (.slice none 0 0) (.slice none 0 0)).toArray] z6 fun e w' => e = .returned (.tuple #[.slice none 0 0, .int .i64 4]) ∧ Below z6.heap.size z6 w') := Lib.hid (HPK.out.mono fun e w' h => by
      rcases h with ⟨_, h2, h3⟩ | ⟨h1, _⟩
      · exact ⟨h2, h3⟩
      · rw [hr] at h1; cases h1)
    have HRI := Lib.hid hr
    clear hr HPK
    go_upto_if 99 with (first | (refine at_load 7 rfl ?_; refine wpList_load_row rfl 34 (.tmp 7) rfl g7 rfl 34 _ (0, 0) _ HBK.out Try.underlying34 rfl msg_info ?_) | (go_at_call 13; refine HCP.out.mono ?_; rintro e w6 ⟨rfl, hk6⟩) | (refine at_store 4 rfl ?_; refine wpList_store_row rfl 34 (.tmp 4) (.tmp 195) rfl g4 zcs.toArray rfl rfl 34 _ (HB4.out.keep hk6) msg_info rfl zcs_one ?_))
    refine bodyPost_ret (results_blk_tmp (l := zcs) rfl Try.underlying34 msg_info rfl rfl (Blk.row (HB4.out.keep hk6) _)) rfl ?_
    rw [show RES = (zeroM, 4) by rw [HRES.out, takeK_bad (by rw [HLQ.out]; exact HLE.out) (by rw [← HMQ.out, HRI.out]; simp)]]
    exact none_take ⟨rfl, (nest HK.out hk6).trans ((Only.row w6 _).below HW4.out (nest HK.out hk6).size)⟩
  | true =>
    have HCP : Hid (Calls Try.prog 13 #[.int .i64 a, .agg (mcs M6 (.slice ar (valQ l (10 + 16) a).length cr) (.slice none 0 0) (.slice none 0 0)).toArray] z6 fun e w' => (∃ x, e = .returned (.tuple #[x, .int .i64 0]) ∧ Rd (intE .u8) w' x (packM M6)) ∧ Below z6.heap.size z6 w') := Lib.hid (HPK.out.mono fun e w' h => by
      rcases h with ⟨h1, _⟩ | ⟨_, x, h2, h3, h4⟩
      · rw [hr] at h1; cases h1
      · exact ⟨⟨x, h2, h3.rd⟩, h4⟩)
    have HRI := Lib.hid hr
    clear hr HPK
    go_upto_region 37 with (first | (refine at_load 7 rfl ?_; refine wpList_load_row rfl 34 (.tmp 7) rfl g7 rfl 34 _ (0, 0) _ HBK.out Try.underlying34 rfl msg_info ?_) | (go_at_call 13; refine HCP.out.mono ?_; rintro e w6 ⟨⟨x, rfl, hx⟩, hk6⟩; have HXX := Lib.hid hx; obtain ⟨ax, cx, rfl, _, _⟩ := hx.form; clear hx))
    have HEQ := Lib.hid (bytesD_any _ _ _ _ w6 HXX.out (HV.out.keep (nest HK.out hk6)) (packM_byt M6) HBY.out)
    have HB46 := Lib.hid (HB4.out.keep hk6)
    have HBK6 := Lib.hid (HBK.out.keep hk6)
    have HK6 := Lib.hid (nest HK.out hk6)
    have HM6 := Lib.hid (HM.out.keep hk6)
    have HPA6 := Lib.hid (HPA.out.keep hk6)
    clear hk6 HCP HB4 HBK HK HM HPA
    cases hpq : decide (packM M6 = l) with
    | false =>
      rw [hpq] at HEQ
      have HPQ := Lib.hid (of_decide_eq_false hpq)
      clear hpq
      go_upto_if 99 with (first | (go_at_call 18; refine HEQ.out.mono ?_; rintro e w7 ⟨rfl, hk7⟩) | (refine at_store 4 rfl ?_; refine wpList_store_row rfl 34 (.tmp 4) (.tmp 195) rfl g4 zcs.toArray rfl rfl 34 _ (HB46.out.keep hk7) msg_info rfl zcs_one ?_))
      refine bodyPost_ret (results_blk_tmp (l := zcs) rfl Try.underlying34 msg_info rfl rfl (Blk.row (HB46.out.keep hk7) _)) rfl ?_
      rw [show RES = (zeroM, 4) by rw [HRES.out, takeK_bad (by rw [HLQ.out]; exact HLE.out) (by rw [← HMQ.out]; exact fun h => HPQ.out h.2)]]
      exact none_take ⟨rfl, (nest HK6.out hk7).trans ((Only.row w7 _).below HW4.out (nest HK6.out hk7).size)⟩
    | true =>
      rw [hpq] at HEQ
      have HPQ := Lib.hid (of_decide_eq_true hpq)
      clear hpq
      go_upto_if 99 with (first | (go_at_call 18; refine HEQ.out.mono ?_; rintro e w7 ⟨rfl, hk7⟩) | (refine at_load 7 rfl ?_; refine wpList_load_row rfl 34 (.tmp 7) rfl g7 rfl 34 _ (0, 0) _ (HBK6.out.keep hk7) Try.underlying34 rfl msg_info ?_) | (refine at_store 4 rfl ?_; refine wpList_store_row rfl 34 (.tmp 4) (.tmp 196) rfl g4 (mcs M6 (.slice ar (valQ l (10 + 16) a).length cr) (.slice none 0 0) (.slice none 0 0)).toArray rfl rfl 34 _ (HB46.out.keep hk7) msg_info rfl (mcs_one HM6.out) ?_))
      refine bodyPost_ret (results_blk_tmp (l := mcs M6 (.slice ar (valQ l (10 + 16) a).length cr) (.slice none 0 0) (.slice none 0 0)) rfl Try.underlying34 msg_info rfl rfl (Blk.row (HB46.out.keep hk7) _)) rfl ?_
      rw [show RES = (M6, 0) by rw [HRES.out, HMQ.out, takeK_good (by rw [HLQ.out]; exact HLE.out) ⟨by rw [← HMQ.out]; exact HRI.out, by rw [← HMQ.out]; exact HPQ.out⟩]]
      exact ⟨_, _, _, rfl, ((HPA6.out.keep hk7).only (Only.row w7 _) H4B.out).rd HMB.out, HMB.out, (nest HK6.out hk7).trans ((Only.row w7 _).below HW4.out (nest HK6.out hk7).size)⟩
set_option maxRecDepth 100000 in
set_option maxHeartbeats 4000000 in
theorem rtake4_any (a : Nat) (v : Value) (l : List Int) (w : World) (h : Rd (intE .u8) w v l) (hlm : l.length ≤ 1000000) (hb : Byt l) (ha : 1 ≤ a ∧ a ≤ 8) (h9 : 9 ≤ l.length) (hq : gq l 0 1 = 4) :
    Calls Try.prog 15 #[.int .i64 a, v] w (MTakePost (takeK 4 a l) w) := by
  obtain ⟨av, cv, rfl, _, _⟩ := h.form
  obtain ⟨RES, hRES⟩ : ∃ R, R = takeK 4 a l := ⟨_, rfl⟩
  rw [← hRES]
  have HRES := Lib.hid hRES
  have hX : Below w.heap.size w (w.alloc (.cells zcs.toArray 34)) := more (Below.refl _ _) _
  have HB4 : Hid (Blk (w.alloc (.cells zcs.toArray 34)) w.heap.size 34 zcs.toArray) := Lib.hid (heap_alloc_new w (.cells zcs.toArray 34))
  have HKA := Lib.hid hX
  have HV := Lib.hid h
  have HVA := Lib.hid (h.keep hX)
  have HBY := Lib.hid hb
  have HL := Lib.hid hlm
  have HA := Lib.hid ha
  have H9 := Lib.hid h9
  have HQ := Lib.hid hq
  have d1 : decide ((a : Int) < 1) = false := decide_eq_false (by omega)
  have d2 : decide ((a : Int) > 8) = false := decide_eq_false (by omega)
  clear hRES hX h hb hlm ha h9 hq
  go_enter Try.func15, Try.ntmps15
  go_upto_region 1 with fail
  have hzz : w.alloc (.cells zcs.toArray 34) = w.alloc (.cells #[.int .i64 0, .int .i64 0, .int .u32 0, .int .i64 0, .int .i64 0, .int .u32 0, .int .i64 0, .int .u32 0, .int .i64 0, .int .u32 0, .int .u64 0, .int .u64 0, .slice none 0 0, .bool false, .int .u32 0, .int .u32 0, .slice none 0 0, .slice none 0 0] 34) := rfl
  rw [← hzz]
  clear hzz
  generalize w.alloc (.cells zcs.toArray 34) = w1 at *
  obtain ⟨g4, hg4⟩ : ∃ g4, g4 = w.heap.size := ⟨_, rfl⟩
  rw [← hg4] at HB4 ⊢
  have HW4 : Hid (w.heap.size ≤ g4) := Lib.hid (by omega)
  clear hg4
  go_upto_region 4 with fail
  clear d1 d2
  have hX3 : Below w1.heap.size w1 (w1.alloc (.cells #[.slice av l.length cv, .int .i64 0, .int .i64 0] 80)) := more (Below.refl _ _) _
  have HR0 : Hid (RdrQ (w1.alloc (.cells #[.slice av l.length cv, .int .i64 0, .int .i64 0] 80)) w1.heap.size (.slice av l.length cv) l 0) := Lib.hid (RdrQ.start (Blk.new _ _ _) (HVA.out.keep hX3) (rd_ne HVA.out))
  have HB40 := Lib.hid (HB4.out.keep hX3)
  have HK0 := Lib.hid (nest HKA.out hX3)
  have H4b : Hid (g4 ≠ w1.heap.size) := Lib.hid (by have := HB4.out.lt; omega)
  have HWb : Hid (w.heap.size ≤ w1.heap.size) := Lib.hid HKA.out.size
  clear hX3 HB4 HKA HVA
  generalize w1.alloc (.cells #[.slice av l.length cv, .int .i64 0, .int .i64 0] 80) = y0 at *
  obtain ⟨b, hbb⟩ : ∃ b, b = w1.heap.size := ⟨_, rfl⟩
  rw [← hbb] at HR0 H4b HWb ⊢
  clear hbb
  have b0 := gq1 HBY.out 0
  have b1 := gq1 HBY.out (0 + 1)
  have b2 := gq1 HBY.out (0 + 1 + 1)
  have b3 := gq2 HBY.out (0 + 1 + 1 + 1)
  have b4 := gq4 HBY.out (0 + 1 + 1 + 1 + 2)
  have x0 : IntKind.i64.wrap (gq l 0 1) = gq l 0 1 := IntWalk.i64_in _ (by omega)
  have x1 : IntKind.i64.wrap (gq l (0 + 1) 1) = gq l (0 + 1) 1 := IntWalk.i64_in _ (by omega)
  have x2 : IntKind.i64.wrap (gq l (0 + 1 + 1) 1) = gq l (0 + 1 + 1) 1 := IntWalk.i64_in _ (by omega)
  have x3 : IntKind.i64.wrap (gq l (0 + 1 + 1 + 1) 2) = gq l (0 + 1 + 1 + 1) 2 := IntWalk.i64_in _ (by omega)
  have x4 : IntKind.u32.wrap (gq l (0 + 1 + 1 + 1 + 2) 4) = gq l (0 + 1 + 1 + 1 + 2) 4 := IntWalk.u32_in _ (by omega)
  clear b0 b1 b2 b3 b4
  go_upto_region 5 with (first | (go_at_call 38; refine (rgetq b (.slice av l.length cv) l (0) 1 sz1 _ HR0.out HL.out HBY.out).mono ?_; rintro e y1 ⟨rfl, hr1, ho1⟩) | (go_at_call 38; refine (rgetq b (.slice av l.length cv) l (0 + 1) 1 sz1 _ hr1 HL.out HBY.out).mono ?_; rintro e y2 ⟨rfl, hr2, ho2⟩) | (go_at_call 38; refine (rgetq b (.slice av l.length cv) l (0 + 1 + 1) 1 sz1 _ hr2 HL.out HBY.out).mono ?_; rintro e y3 ⟨rfl, hr3, ho3⟩) | (go_at_call 38; refine (rgetq b (.slice av l.length cv) l (0 + 1 + 1 + 1) 2 sz2 _ hr3 HL.out HBY.out).mono ?_; rintro e y4 ⟨rfl, hr4, ho4⟩) | (go_at_call 38; refine (rgetq b (.slice av l.length cv) l (0 + 1 + 1 + 1 + 2) 4 sz4' _ hr4 HL.out HBY.out).mono ?_; rintro e y5 ⟨rfl, hr5, ho5⟩) | (refine at_store 7 rfl ?_; refine wpList_store_row rfl 34 (.tmp 7) (.tmp 39) rfl y5.heap.size (mcs (headQ l) (.slice none 0 0) (.slice none 0 0) (.slice none 0 0)).toArray rfl rfl 34 _ (heap_alloc_new y5 _) msg_info rfl (by simp [mcs, Value.oneCell']) ?_))
  (try rw [World.setRow_alloc_new])
  clear x0 x1 x2 x3 x4
  have hX : Below y5.heap.size y5 (y5.alloc (.cells (mcs (headQ l) (.slice none 0 0) (.slice none 0 0) (.slice none 0 0)).toArray 34)) := more (Below.refl _ _) _
  have ho : Only b y0 y5 := (((ho1.trans ho2).trans ho3).trans ho4).trans ho5
  have HBK : Hid (Blk (y5.alloc (.cells (mcs (headQ l) (.slice none 0 0) (.slice none 0 0) (.slice none 0 0)).toArray 34)) y5.heap.size 34 (mcs (headQ l) (.slice none 0 0) (.slice none 0 0) (.slice none 0 0)).toArray) := Lib.hid (Blk.new y5 34 (mcs (headQ l) (.slice none 0 0) (.slice none 0 0) (.slice none 0 0)).toArray)
  have HB4 := Lib.hid ((HB40.out.only ho H4b.out).keep hX)
  have HR : Hid (RdrQ (y5.alloc (.cells (mcs (headQ l) (.slice none 0 0) (.slice none 0 0) (.slice none 0 0)).toArray 34)) b (.slice av l.length cv) l 9) := Lib.hid (hr5.keep hX)
  have HK := Lib.hid (nest (HK0.out.trans (ho.below HWb.out HK0.out.size)) hX)
  have H47 : Hid (g4 ≠ y5.heap.size) := Lib.hid (by have := HB40.out.lt; have := ho.size; omega)
  have H7b : Hid (y5.heap.size ≠ b) := Lib.hid (by have := hr5.lt; omega)
  have HW7 : Hid (w.heap.size ≤ y5.heap.size) := Lib.hid (HK0.out.trans (ho.below HWb.out HK0.out.size)).size
  obtain ⟨B0, hB0⟩ : ∃ B, B = (y5.alloc (.cells (mcs (headQ l) (.slice none 0 0) (.slice none 0 0) (.slice none 0 0)).toArray 34)).heap.size := ⟨_, rfl⟩
  have HS : Hid (B0 ≤ (y5.alloc (.cells (mcs (headQ l) (.slice none 0 0) (.slice none 0 0) (.slice none 0 0)).toArray 34)).heap.size) := Lib.hid (by omega)
  have HPA : Hid (PA B0 (y5.alloc (.cells (mcs (headQ l) (.slice none 0 0) (.slice none 0 0) (.slice none 0 0)).toArray 34)) (headQ l) (.slice none 0 0) (.slice none 0 0) (.slice none 0 0)) := Lib.hid ⟨by rw [(headQ_ok HBY.out).vals]; exact Row.nil, by rw [(headQ_ok HBY.out).box]; exact Row.nil, by rw [(headQ_ok HBY.out).recs]; exact recsAt_nil _ _⟩
  have HbB : Hid (b < B0) := Lib.hid (by rw [hB0]; exact HR.out.lt)
  have H7B : Hid (y5.heap.size < B0) := Lib.hid (by rw [hB0]; exact HBK.out.lt)
  have H4B : Hid (g4 < B0) := Lib.hid (by rw [hB0]; exact HB4.out.lt)
  clear hX ho ho1 ho2 ho3 ho4 ho5 hr1 hr2 hr3 hr4 hr5 HR0 HB40 HK0 hB0
  generalize y5.alloc (.cells (mcs (headQ l) (.slice none 0 0) (.slice none 0 0) (.slice none 0 0)).toArray 34) = z at *
  obtain ⟨g7, hg7⟩ : ∃ g7, g7 = y5.heap.size := ⟨_, rfl⟩
  rw [← hg7] at HBK H47 H7b HW7 H7B ⊢
  clear hg7
  have Hb7 : Hid (b ≠ g7) := Lib.hid (fun e => H7b.out e.symm)
  have HQK : Hid ((headQ l).kind = 4) := Lib.hid HQ.out
  have HHB : Hid (0 ≤ (headQ l).hub) := Lib.hid (headQ_ok HBY.out).hub
  obtain ⟨M0, hM0⟩ : ∃ m, m = headQ l := ⟨_, rfl⟩
  rw [← hM0] at HBK HPA
  have HE0 := Lib.hid hM0
  have HF : Hid (firstM M0 = true) := Lib.hid (by rw [hM0]; unfold firstM; rw [HQK.out]; decide)
  clear hM0
  have c2 : z.cell? ⟨b, 2, none⟩ = some (.int .i64 0) := by have := HR.out.err; rwa [if_pos H9.out] at this
  go_upto_region 9 with (first | (refine at_load 7 rfl ?_; refine wpList_load_row rfl 34 (.tmp 7) rfl g7 rfl 34 _ (0, 0) _ HBK.out Try.underlying34 rfl msg_info ?_) | (go_at_call 32; refine (rfirst_any M0 _ _ _ _).mono ?_; rintro e z0 ⟨rfl, hk⟩; rw [HF.out]))
  have HB4n := Lib.hid (HB4.out.keep hk)
  have HBKn := Lib.hid (HBK.out.keep hk)
  have HRn := Lib.hid (HR.out.keep hk)
  have HKn := Lib.hid (nest HK.out hk)
  have HPAn := Lib.hid (HPA.out.keep hk)
  have HSn : Hid (B0 ≤ z0.heap.size) := Lib.hid (Nat.le_trans HS.out hk.size)
  clear HB4 HBK HR HK HPA HS hk
  have HB4 := HB4n
  have HBK := HBKn
  have HR := HRn
  have HK := HKn
  have HPA := HPAn
  have HS := HSn
  clear HB4n HBKn HRn HKn HPAn HSn
  clear c2 HF
  go_upto_region 10 with (go_at_call 38; refine (rgetq b (.slice av l.length cv) l (9) 1 sz1 _ HR.out HL.out HBY.out).mono ?_; rintro e y1 ⟨rfl, hr, ho⟩; have hbk := HBK.out.only ho H7b.out; have ec : y1.cell? ⟨g7, 13, none⟩ = some (.bool M0.gone) := hbk.cell 13; have ef := hbk.frozen 13)
  have hos := Only.set (b := g7) y1 13 (.bool (gq l 9 1 == 1))
  obtain ⟨M1, hM1⟩ : ∃ m, m = { M0 with gone := (gq l 9 1 == 1) } := ⟨_, rfl⟩
  have hbk2 : Blk (y1.setCell ⟨g7, 13, none⟩ (.bool (gq l 9 1 == 1))) g7 34 (mcs M1 (.slice none 0 0) (.slice none 0 0) (.slice none 0 0)).toArray := by rw [hM1]; exact hbk.set_ 13 _
  have hk2 : Below w.heap.size w (y1.setCell ⟨g7, 13, none⟩ (.bool (gq l 9 1 == 1))) := (HK.out.trans (ho.below HWb.out HK.out.size)).trans (hos.below HW7.out (HK.out.trans (ho.below HWb.out HK.out.size)).size)
  have HKn := Lib.hid hk2
  have HBKn := Lib.hid hbk2
  have HB4n : Hid (Blk (y1.setCell ⟨g7, 13, none⟩ (.bool (gq l 9 1 == 1))) g4 34 zcs.toArray) := Lib.hid ((HB4.out.only ho H4b.out).only hos H47.out)
  have HRn := Lib.hid (hr.mv2 HV.out hk2 (fun cs hc => hc.only hos Hb7.out))
  have HPAn : Hid (PA B0 (y1.setCell ⟨g7, 13, none⟩ (.bool (gq l 9 1 == 1))) M1 (.slice none 0 0) (.slice none 0 0) (.slice none 0 0)) := Lib.hid (by rw [hM1]; exact ⟨((HPA.out.only ho HbB.out).only hos H7B.out).vals, ((HPA.out.only ho HbB.out).only hos H7B.out).box, ((HPA.out.only ho HbB.out).only hos H7B.out).recs⟩)
  have HSn : Hid (B0 ≤ (y1.setCell ⟨g7, 13, none⟩ (.bool (gq l 9 1 == 1))).heap.size) := Lib.hid (Nat.le_trans (Nat.le_trans HS.out ho.size) hos.size)
  have HE1 := Lib.hid hM1
  clear HB4 HBK HR HK HPA HS hbk2 hk2 ho hr
  have HB4 := HB4n
  have HBK := HBKn
  have HR := HRn
  have HK := HKn
  have HPA := HPAn
  have HS := HSn
  clear HB4n HBKn HRn HKn HPAn HSn
  clear ec ef hbk hos hM1
  generalize y1.setCell ⟨g7, 13, none⟩ (.bool (gq l 9 1 == 1)) = z1 at *
  go_upto_region 11 with (first | (go_at_call 39; refine (rreadr_any b (.slice av l.length cv) l 10 a _ HR.out HL.out HBY.out HA.out.2).mono ?_; rintro e y2 ⟨xv, rfl, hrow, hr, ho⟩; have HROW := Lib.hid (hrow.mono HS.out); obtain ⟨ar, cr, rfl, _, _⟩ := hrow.rd.form; have hbk := HBK.out.only ho H7b.out; clear hrow) | (refine at_store 59 rfl ?_; refine wpList_store_mid rfl 26 (.tmp 59) (.tmp 57) rfl g7 10 #[.int .u64 (gq l 10 8), .int .u64 (gq l (10 + 8) 8), .slice ar (valQ l (10 + 16) a).length cr] rfl rfl (there_blk hbk 10 3 (by simp [mcs])) rec_info (by simp [Value.oneCell']) ?_))
  obtain ⟨ST, hST⟩ : ∃ S, S = y2.setCells g7 10 [.int .u64 (gq l 10 8), .int .u64 (gq l (10 + 8) 8), .slice ar (valQ l (10 + 16) a).length cr] := ⟨_, rfl⟩
  have hos : Only g7 y2 ST := by rw [hST]; exact ((Only.set _ 10 _).trans (Only.set _ 11 _)).trans (Only.set _ 12 _)
  obtain ⟨M2, hM2⟩ : ∃ m, m = { M1 with eid := gq l 10 8, ever := gq l (10 + 8) 8, vals := valQ l (10 + 16) a } := ⟨_, rfl⟩
  have hbk2 : Blk ST g7 34 (mcs M2 (.slice ar (valQ l (10 + 16) a).length cr) (.slice none 0 0) (.slice none 0 0)).toArray := by rw [hM2, hST]; exact ((hbk.set_ 10 _).set_ 11 _).set_ 12 _
  have hk2 : Below w.heap.size w ST := (HK.out.trans (ho.below HWb.out HK.out.size)).trans (hos.below HW7.out (HK.out.trans (ho.below HWb.out HK.out.size)).size)
  have HKn := Lib.hid hk2
  have HBKn := Lib.hid hbk2
  have HB4n : Hid (Blk ST g4 34 zcs.toArray) := Lib.hid ((HB4.out.only ho H4b.out).only hos H47.out)
  have HRn := Lib.hid (hr.mv2 HV.out hk2 (fun cs hc => hc.only hos Hb7.out))
  have HPAn : Hid (PA B0 ST M2 (.slice ar (valQ l (10 + 16) a).length cr) (.slice none 0 0) (.slice none 0 0)) := Lib.hid (by rw [hM2]; exact ⟨HROW.out.only hos (fun e => by have := (HROW.out.block g7 e).1; have := H7B.out; omega), ((HPA.out.only ho HbB.out).only hos H7B.out).box, ((HPA.out.only ho HbB.out).only hos H7B.out).recs⟩)
  have HSn : Hid (B0 ≤ ST.heap.size) := Lib.hid (Nat.le_trans (Nat.le_trans HS.out ho.size) hos.size)
  have HE2 := Lib.hid hM2
  clear HB4 HBK HR HK HPA HS hbk2 hk2 ho hr
  have HB4 := HB4n
  have HBK := HBKn
  have HR := HRn
  have HK := HKn
  have HPA := HPAn
  have HS := HSn
  clear HB4n HBKn HRn HKn HPAn HSn
  (try rw [← hST])
  clear hbk hos hM2 HROW
  (try clear hST)
  generalize ST = z2 at *
  have c0 : z2.cell? ⟨g7, 0, none⟩ = some (.int .i64 4) := by rw [show (Value.int .i64 4) = .int .i64 M2.kind by rw [HE2.out, HE1.out, HE0.out]; exact congrArg _ HQ.out.symm]; exact HBK.out.cell 0
  obtain ⟨hub, hhub⟩ := Int.eq_ofNat_of_zero_le HHB.out
  have HHUB := Lib.hid hhub
  have c1 : z2.cell? ⟨g7, 1, none⟩ = some (.int .i64 (hub : Int)) := by rw [← hhub, show (headQ l).hub = M2.hub by rw [HE2.out, HE1.out, HE0.out]]; exact HBK.out.cell 1
  clear hhub
  by_cases hlt : (hub : Int) < a
  case neg =>
    go_upto_region 34 with fail
    clear c1 c0
    have HLT := Lib.hid hlt
    clear hlt
    have HMQ : Hid (M2 = msgQ a l) := Lib.hid (by
      have hev : evQ l 9 a (headQ l).hub = 0 := by unfold evQ; rw [HHUB.out, if_neg HLT.out]
      unfold msgQ msgK entQ
      rw [if_neg (by rw [HQK.out]; decide), if_neg (by rw [HQK.out]; decide), if_pos HQK.out]
      rw [hev, HE2.out, HE1.out, HE0.out]
      all_goals rfl
      )
    have HMB : Hid (MB M2) := Lib.hid (by
      have hbd := (headQ_ok HBY.out).bd
      rw [HE2.out, HE1.out, HE0.out]
      exact ⟨hbd.kind, hbd.hub, hbd.point, hbd.client, hbd.op, (by show u32B 0; simp [u32B]), hbd.hops, hbd.owner, hbd.turn, (by show u32B 0; simp [u32B]), gq8 HBY.out _, gq8 HBY.out _, valQ_bd HBY.out _ _, hbd.sf, hbd.st, hbd.box, hbd.recs⟩
      )
    have HLQ : Hid (lenQ a l 4 = 10 + 16 + 4 * a) := Lib.hid (by
      unfold lenQ
      rw [if_neg (by decide), if_neg (by decide), if_pos rfl]
      all_goals omega
      )
    by_cases hle : 10 + 16 + 4 * a ≤ l.length
    case neg =>
      have c2 : z2.cell? ⟨b, 2, none⟩ = some (.int .i64 3) := by have := HR.out.err; rwa [if_neg hle] at this
      have HLE := Lib.hid hle
      clear hle
      go_upto_region 35 with fail
      go_upto_if 99 with (refine at_store 4 rfl ?_; refine wpList_store_row rfl 34 (.tmp 4) (.tmp 180) rfl g4 zcs.toArray rfl rfl 34 _ HB4.out msg_info rfl zcs_one ?_)
      refine bodyPost_ret (results_blk_tmp (l := zcs) rfl Try.underlying34 msg_info rfl rfl (Blk.row HB4.out _)) rfl ?_
      rw [show RES = (zeroM, 3) by rw [HRES.out, takeK_short (by rw [HLQ.out]; exact Nat.lt_of_not_le HLE.out)]]
      exact none_take ⟨rfl, HK.out.trans ((Only.row z2 _).below HW4.out HK.out.size)⟩
    have c2 : z2.cell? ⟨b, 2, none⟩ = some (.int .i64 0) := by have := HR.out.err; rwa [if_pos hle] at this
    have HLE := Lib.hid hle
    clear hle
    have HM := Lib.hid (HPA.out.rd HMB.out)
    have HPK := Lib.hid (rmpack_any a M2 (.slice ar (valQ l (10 + 16) a).length cr) (.slice none 0 0) (.slice none 0 0) z2 HM.out HMB.out)
    go_upto_region 36 with fail
    clear c2
    cases hr : rightM a M2 with
    | false =>
      have HCP : Hid (Calls Try.prog 13 #[.int .i64 a, .agg (mcs M2 (.slice ar (valQ l (10 + 16) a).length cr) (.slice none 0 0) (.slice none 0 0)).toArray] z2 fun e w' => e = .returned (.tuple #[.slice none 0 0, .int .i64 4]) ∧ Below z2.heap.size z2 w') := Lib.hid (HPK.out.mono fun e w' h => by
        rcases h with ⟨_, h2, h3⟩ | ⟨h1, _⟩
        · exact ⟨h2, h3⟩
        · rw [hr] at h1; cases h1)
      have HRI := Lib.hid hr
      clear hr HPK
      go_upto_if 99 with (first | (refine at_load 7 rfl ?_; refine wpList_load_row rfl 34 (.tmp 7) rfl g7 rfl 34 _ (0, 0) _ HBK.out Try.underlying34 rfl msg_info ?_) | (go_at_call 13; refine HCP.out.mono ?_; rintro e w6 ⟨rfl, hk6⟩) | (refine at_store 4 rfl ?_; refine wpList_store_row rfl 34 (.tmp 4) (.tmp 195) rfl g4 zcs.toArray rfl rfl 34 _ (HB4.out.keep hk6) msg_info rfl zcs_one ?_))
      refine bodyPost_ret (results_blk_tmp (l := zcs) rfl Try.underlying34 msg_info rfl rfl (Blk.row (HB4.out.keep hk6) _)) rfl ?_
      rw [show RES = (zeroM, 4) by rw [HRES.out, takeK_bad (by rw [HLQ.out]; exact HLE.out) (by rw [← HMQ.out, HRI.out]; simp)]]
      exact none_take ⟨rfl, (nest HK.out hk6).trans ((Only.row w6 _).below HW4.out (nest HK.out hk6).size)⟩
    | true =>
      have HCP : Hid (Calls Try.prog 13 #[.int .i64 a, .agg (mcs M2 (.slice ar (valQ l (10 + 16) a).length cr) (.slice none 0 0) (.slice none 0 0)).toArray] z2 fun e w' => (∃ x, e = .returned (.tuple #[x, .int .i64 0]) ∧ Rd (intE .u8) w' x (packM M2)) ∧ Below z2.heap.size z2 w') := Lib.hid (HPK.out.mono fun e w' h => by
        rcases h with ⟨h1, _⟩ | ⟨_, x, h2, h3, h4⟩
        · rw [hr] at h1; cases h1
        · exact ⟨⟨x, h2, h3.rd⟩, h4⟩)
      have HRI := Lib.hid hr
      clear hr HPK
      go_upto_region 37 with (first | (refine at_load 7 rfl ?_; refine wpList_load_row rfl 34 (.tmp 7) rfl g7 rfl 34 _ (0, 0) _ HBK.out Try.underlying34 rfl msg_info ?_) | (go_at_call 13; refine HCP.out.mono ?_; rintro e w6 ⟨⟨x, rfl, hx⟩, hk6⟩; have HXX := Lib.hid hx; obtain ⟨ax, cx, rfl, _, _⟩ := hx.form; clear hx))
      have HEQ := Lib.hid (bytesD_any _ _ _ _ w6 HXX.out (HV.out.keep (nest HK.out hk6)) (packM_byt M2) HBY.out)
      have HB46 := Lib.hid (HB4.out.keep hk6)
      have HBK6 := Lib.hid (HBK.out.keep hk6)
      have HK6 := Lib.hid (nest HK.out hk6)
      have HM6 := Lib.hid (HM.out.keep hk6)
      have HPA6 := Lib.hid (HPA.out.keep hk6)
      clear hk6 HCP HB4 HBK HK HM HPA
      cases hpq : decide (packM M2 = l) with
      | false =>
        rw [hpq] at HEQ
        have HPQ := Lib.hid (of_decide_eq_false hpq)
        clear hpq
        go_upto_if 99 with (first | (go_at_call 18; refine HEQ.out.mono ?_; rintro e w7 ⟨rfl, hk7⟩) | (refine at_store 4 rfl ?_; refine wpList_store_row rfl 34 (.tmp 4) (.tmp 195) rfl g4 zcs.toArray rfl rfl 34 _ (HB46.out.keep hk7) msg_info rfl zcs_one ?_))
        refine bodyPost_ret (results_blk_tmp (l := zcs) rfl Try.underlying34 msg_info rfl rfl (Blk.row (HB46.out.keep hk7) _)) rfl ?_
        rw [show RES = (zeroM, 4) by rw [HRES.out, takeK_bad (by rw [HLQ.out]; exact HLE.out) (by rw [← HMQ.out]; exact fun h => HPQ.out h.2)]]
        exact none_take ⟨rfl, (nest HK6.out hk7).trans ((Only.row w7 _).below HW4.out (nest HK6.out hk7).size)⟩
      | true =>
        rw [hpq] at HEQ
        have HPQ := Lib.hid (of_decide_eq_true hpq)
        clear hpq
        go_upto_if 99 with (first | (go_at_call 18; refine HEQ.out.mono ?_; rintro e w7 ⟨rfl, hk7⟩) | (refine at_load 7 rfl ?_; refine wpList_load_row rfl 34 (.tmp 7) rfl g7 rfl 34 _ (0, 0) _ (HBK6.out.keep hk7) Try.underlying34 rfl msg_info ?_) | (refine at_store 4 rfl ?_; refine wpList_store_row rfl 34 (.tmp 4) (.tmp 196) rfl g4 (mcs M2 (.slice ar (valQ l (10 + 16) a).length cr) (.slice none 0 0) (.slice none 0 0)).toArray rfl rfl 34 _ (HB46.out.keep hk7) msg_info rfl (mcs_one HM6.out) ?_))
        refine bodyPost_ret (results_blk_tmp (l := mcs M2 (.slice ar (valQ l (10 + 16) a).length cr) (.slice none 0 0) (.slice none 0 0)) rfl Try.underlying34 msg_info rfl rfl (Blk.row (HB46.out.keep hk7) _)) rfl ?_
        rw [show RES = (M2, 0) by rw [HRES.out, HMQ.out, takeK_good (by rw [HLQ.out]; exact HLE.out) ⟨by rw [← HMQ.out]; exact HRI.out, by rw [← HMQ.out]; exact HPQ.out⟩]]
        exact ⟨_, _, _, rfl, ((HPA6.out.keep hk7).only (Only.row w7 _) H4B.out).rd HMB.out, HMB.out, (nest HK6.out hk7).trans ((Only.row w7 _).below HW4.out (nest HK6.out hk7).size)⟩
  have HVL := valQ_len l (10 + 16) a
  obtain ⟨av', gv, ov, cv', hv1, hv2, hv3, hv4, hv5⟩ := Mem.Rd.loopI HPA.out.vals.rd
  have HVE : M2.vals = valQ l (10 + 16) a := by rw [HE2.out, HE1.out, HE0.out]
  rw [HVE] at hv1 hv2 hv4 hv5
  have hkl : hub < (valQ l (10 + 16) a).length := by rw [HVL]; omega
  injection hv1 with e1 e2 e3
  obtain ⟨e4, _⟩ := hv4 (by omega)
  have d3 : z2.cell? ⟨g7, 12, none⟩ = some (.slice (some ⟨gv, ov, none⟩) (valQ l (10 + 16) a).length cr) := by rw [← e4, ← e1]; exact HBK.out.cell 12
  have dv : z2.cell? ⟨gv, ov + hub, none⟩ = some (.int .u32 ((valQ l (10 + 16) a).getD hub 0)) := hv5 hub hkl
  have ec : z2.cell? ⟨g7, 9, none⟩ = some (.int .u32 M2.ev) := HBK.out.cell 9
  have ef := HBK.out.frozen 9
  have hbk := HBK.out
  have hvb := evQ_bd HBY.out 9 a (hub : Int)
  have HEV : Hid (evQ l 9 a (headQ l).hub = (valQ l (10 + 16) a).getD hub 0) := Lib.hid (by unfold evQ; rw [HHUB.out, if_pos hlt, Int.toNat_natCast])
  rw [← HHUB.out] at hvb
  rw [HEV.out] at hvb
  obtain ⟨vv, hvv⟩ : ∃ vv, vv = (valQ l (10 + 16) a).getD hub 0 := ⟨_, rfl⟩
  rw [← hvv] at dv HEV hvb
  rw [HVL] at d3
  have HVB := Lib.hid hvb
  have hlt' : hub < a := by omega
  clear hv2 hv3 hv4 hv5 e1 e2 e3 e4 hvv hkl HVL HVE hvb
  have HBKH := Lib.hid hbk
  clear hbk
  go_upto_region 18 with fail
  have hbk := HBKH.out
  clear HBKH d3 dv c1 hlt' c0
  have hos := Only.set (b := g7) z2 9 (.int .u32 vv)
  obtain ⟨M3, hM3⟩ : ∃ m, m = { M2 with ev := vv } := ⟨_, rfl⟩
  have hbk2 : Blk (z2.setCell ⟨g7, 9, none⟩ (.int .u32 vv)) g7 34 (mcs M3 (.slice ar (valQ l (10 + 16) a).length cr) (.slice none 0 0) (.slice none 0 0)).toArray := by rw [hM3]; exact hbk.set_ 9 _
  have hk2 : Below w.heap.size w (z2.setCell ⟨g7, 9, none⟩ (.int .u32 vv)) := HK.out.trans (hos.below HW7.out HK.out.size)
  have HKn := Lib.hid hk2
  have HBKn := Lib.hid hbk2
  have HB4n : Hid (Blk (z2.setCell ⟨g7, 9, none⟩ (.int .u32 vv)) g4 34 zcs.toArray) := Lib.hid (HB4.out.only hos H47.out)
  have HRn := Lib.hid (HR.out.mv2 HV.out hk2 (fun cs hc => hc.only hos Hb7.out))
  have HPAn : Hid (PA B0 (z2.setCell ⟨g7, 9, none⟩ (.int .u32 vv)) M3 (.slice ar (valQ l (10 + 16) a).length cr) (.slice none 0 0) (.slice none 0 0)) := Lib.hid (by rw [hM3]; exact ⟨(HPA.out.only hos H7B.out).vals, (HPA.out.only hos H7B.out).box, (HPA.out.only hos H7B.out).recs⟩)
  have HSn : Hid (B0 ≤ (z2.setCell ⟨g7, 9, none⟩ (.int .u32 vv)).heap.size) := Lib.hid (Nat.le_trans HS.out hos.size)
  have HE3 := Lib.hid hM3
  clear HB4 HBK HR HK HPA HS hbk2 hk2
  have HB4 := HB4n
  have HBK := HBKn
  have HR := HRn
  have HK := HKn
  have HPA := HPAn
  have HS := HSn
  clear HB4n HBKn HRn HKn HPAn HSn
  clear ec ef hbk hos hM3
  generalize z2.setCell ⟨g7, 9, none⟩ (.int .u32 vv) = z3 at *
  have c9 : z3.cell? ⟨g7, 9, none⟩ = some (.int .u32 vv) := by rw [show (Value.int .u32 vv) = .int .u32 M3.ev by rw [HE3.out]]; exact HBK.out.cell 9
  have ec : z3.cell? ⟨g7, 5, none⟩ = some (.int .u32 M3.target) := HBK.out.cell 5
  have ef := HBK.out.frozen 5
  have HLT := Lib.hid hlt
  clear hlt
  go_upto_region 34 with fail
  have hbk := HBK.out
  have hos := Only.set (b := g7) z3 5 (.int .u32 vv)
  obtain ⟨M4, hM4⟩ : ∃ m, m = { M3 with target := vv } := ⟨_, rfl⟩
  have hbk2 : Blk (z3.setCell ⟨g7, 5, none⟩ (.int .u32 vv)) g7 34 (mcs M4 (.slice ar (valQ l (10 + 16) a).length cr) (.slice none 0 0) (.slice none 0 0)).toArray := by rw [hM4]; exact hbk.set_ 5 _
  have hk2 : Below w.heap.size w (z3.setCell ⟨g7, 5, none⟩ (.int .u32 vv)) := HK.out.trans (hos.below HW7.out HK.out.size)
  have HKn := Lib.hid hk2
  have HBKn := Lib.hid hbk2
  have HB4n : Hid (Blk (z3.setCell ⟨g7, 5, none⟩ (.int .u32 vv)) g4 34 zcs.toArray) := Lib.hid (HB4.out.only hos H47.out)
  have HRn := Lib.hid (HR.out.mv2 HV.out hk2 (fun cs hc => hc.only hos Hb7.out))
  have HPAn : Hid (PA B0 (z3.setCell ⟨g7, 5, none⟩ (.int .u32 vv)) M4 (.slice ar (valQ l (10 + 16) a).length cr) (.slice none 0 0) (.slice none 0 0)) := Lib.hid (by rw [hM4]; exact ⟨(HPA.out.only hos H7B.out).vals, (HPA.out.only hos H7B.out).box, (HPA.out.only hos H7B.out).recs⟩)
  have HSn : Hid (B0 ≤ (z3.setCell ⟨g7, 5, none⟩ (.int .u32 vv)).heap.size) := Lib.hid (Nat.le_trans HS.out hos.size)
  have HE4 := Lib.hid hM4
  clear HB4 HBK HR HK HPA HS hbk2 hk2
  have HB4 := HB4n
  have HBK := HBKn
  have HR := HRn
  have HK := HKn
  have HPA := HPAn
  have HS := HSn
  clear HB4n HBKn HRn HKn HPAn HSn
  clear ec ef hbk hos hM4
  generalize z3.setCell ⟨g7, 5, none⟩ (.int .u32 vv) = z4 at *
  clear c9
  have HMQ : Hid (M4 = msgQ a l) := Lib.hid (by
    unfold msgQ msgK entQ
    rw [if_neg (by rw [HQK.out]; decide), if_neg (by rw [HQK.out]; decide), if_pos HQK.out]
    rw [HEV.out, HE4.out, HE3.out, HE2.out, HE1.out, HE0.out]
    all_goals rfl
    )
  have HMB : Hid (MB M4) := Lib.hid (by
    have hbd := (headQ_ok HBY.out).bd
    rw [HE4.out, HE3.out, HE2.out, HE1.out, HE0.out]
    exact ⟨hbd.kind, hbd.hub, hbd.point, hbd.client, hbd.op, HVB.out, hbd.hops, hbd.owner, hbd.turn, HVB.out, gq8 HBY.out _, gq8 HBY.out _, valQ_bd HBY.out _ _, hbd.sf, hbd.st, hbd.box, hbd.recs⟩
    )
  have HLQ : Hid (lenQ a l 4 = 10 + 16 + 4 * a) := Lib.hid (by
    unfold lenQ
    rw [if_neg (by decide), if_neg (by decide), if_pos rfl]
    all_goals omega
    )
  by_cases hle : 10 + 16 + 4 * a ≤ l.length
  case neg =>
    have c2 : z4.cell? ⟨b, 2, none⟩ = some (.int .i64 3) := by have := HR.out.err; rwa [if_neg hle] at this
    have HLE := Lib.hid hle
    clear hle
    go_upto_region 35 with fail
    go_upto_if 99 with (refine at_store 4 rfl ?_; refine wpList_store_row rfl 34 (.tmp 4) (.tmp 180) rfl g4 zcs.toArray rfl rfl 34 _ HB4.out msg_info rfl zcs_one ?_)
    refine bodyPost_ret (results_blk_tmp (l := zcs) rfl Try.underlying34 msg_info rfl rfl (Blk.row HB4.out _)) rfl ?_
    rw [show RES = (zeroM, 3) by rw [HRES.out, takeK_short (by rw [HLQ.out]; exact Nat.lt_of_not_le HLE.out)]]
    exact none_take ⟨rfl, HK.out.trans ((Only.row z4 _).below HW4.out HK.out.size)⟩
  have c2 : z4.cell? ⟨b, 2, none⟩ = some (.int .i64 0) := by have := HR.out.err; rwa [if_pos hle] at this
  have HLE := Lib.hid hle
  clear hle
  have HM := Lib.hid (HPA.out.rd HMB.out)
  have HPK := Lib.hid (rmpack_any a M4 (.slice ar (valQ l (10 + 16) a).length cr) (.slice none 0 0) (.slice none 0 0) z4 HM.out HMB.out)
  go_upto_region 36 with fail
  clear c2
  cases hr : rightM a M4 with
  | false =>
    have HCP : Hid (Calls Try.prog 13 #[.int .i64 a, .agg (mcs M4 (.slice ar (valQ l (10 + 16) a).length cr) (.slice none 0 0) (.slice none 0 0)).toArray] z4 fun e w' => e = .returned (.tuple #[.slice none 0 0, .int .i64 4]) ∧ Below z4.heap.size z4 w') := Lib.hid (HPK.out.mono fun e w' h => by
      rcases h with ⟨_, h2, h3⟩ | ⟨h1, _⟩
      · exact ⟨h2, h3⟩
      · rw [hr] at h1; cases h1)
    have HRI := Lib.hid hr
    clear hr HPK
    go_upto_if 99 with (first | (refine at_load 7 rfl ?_; refine wpList_load_row rfl 34 (.tmp 7) rfl g7 rfl 34 _ (0, 0) _ HBK.out Try.underlying34 rfl msg_info ?_) | (go_at_call 13; refine HCP.out.mono ?_; rintro e w6 ⟨rfl, hk6⟩) | (refine at_store 4 rfl ?_; refine wpList_store_row rfl 34 (.tmp 4) (.tmp 195) rfl g4 zcs.toArray rfl rfl 34 _ (HB4.out.keep hk6) msg_info rfl zcs_one ?_))
    refine bodyPost_ret (results_blk_tmp (l := zcs) rfl Try.underlying34 msg_info rfl rfl (Blk.row (HB4.out.keep hk6) _)) rfl ?_
    rw [show RES = (zeroM, 4) by rw [HRES.out, takeK_bad (by rw [HLQ.out]; exact HLE.out) (by rw [← HMQ.out, HRI.out]; simp)]]
    exact none_take ⟨rfl, (nest HK.out hk6).trans ((Only.row w6 _).below HW4.out (nest HK.out hk6).size)⟩
  | true =>
    have HCP : Hid (Calls Try.prog 13 #[.int .i64 a, .agg (mcs M4 (.slice ar (valQ l (10 + 16) a).length cr) (.slice none 0 0) (.slice none 0 0)).toArray] z4 fun e w' => (∃ x, e = .returned (.tuple #[x, .int .i64 0]) ∧ Rd (intE .u8) w' x (packM M4)) ∧ Below z4.heap.size z4 w') := Lib.hid (HPK.out.mono fun e w' h => by
      rcases h with ⟨h1, _⟩ | ⟨_, x, h2, h3, h4⟩
      · rw [hr] at h1; cases h1
      · exact ⟨⟨x, h2, h3.rd⟩, h4⟩)
    have HRI := Lib.hid hr
    clear hr HPK
    go_upto_region 37 with (first | (refine at_load 7 rfl ?_; refine wpList_load_row rfl 34 (.tmp 7) rfl g7 rfl 34 _ (0, 0) _ HBK.out Try.underlying34 rfl msg_info ?_) | (go_at_call 13; refine HCP.out.mono ?_; rintro e w6 ⟨⟨x, rfl, hx⟩, hk6⟩; have HXX := Lib.hid hx; obtain ⟨ax, cx, rfl, _, _⟩ := hx.form; clear hx))
    have HEQ := Lib.hid (bytesD_any _ _ _ _ w6 HXX.out (HV.out.keep (nest HK.out hk6)) (packM_byt M4) HBY.out)
    have HB46 := Lib.hid (HB4.out.keep hk6)
    have HBK6 := Lib.hid (HBK.out.keep hk6)
    have HK6 := Lib.hid (nest HK.out hk6)
    have HM6 := Lib.hid (HM.out.keep hk6)
    have HPA6 := Lib.hid (HPA.out.keep hk6)
    clear hk6 HCP HB4 HBK HK HM HPA
    cases hpq : decide (packM M4 = l) with
    | false =>
      rw [hpq] at HEQ
      have HPQ := Lib.hid (of_decide_eq_false hpq)
      clear hpq
      go_upto_if 99 with (first | (go_at_call 18; refine HEQ.out.mono ?_; rintro e w7 ⟨rfl, hk7⟩) | (refine at_store 4 rfl ?_; refine wpList_store_row rfl 34 (.tmp 4) (.tmp 195) rfl g4 zcs.toArray rfl rfl 34 _ (HB46.out.keep hk7) msg_info rfl zcs_one ?_))
      refine bodyPost_ret (results_blk_tmp (l := zcs) rfl Try.underlying34 msg_info rfl rfl (Blk.row (HB46.out.keep hk7) _)) rfl ?_
      rw [show RES = (zeroM, 4) by rw [HRES.out, takeK_bad (by rw [HLQ.out]; exact HLE.out) (by rw [← HMQ.out]; exact fun h => HPQ.out h.2)]]
      exact none_take ⟨rfl, (nest HK6.out hk7).trans ((Only.row w7 _).below HW4.out (nest HK6.out hk7).size)⟩
    | true =>
      rw [hpq] at HEQ
      have HPQ := Lib.hid (of_decide_eq_true hpq)
      clear hpq
      go_upto_if 99 with (first | (go_at_call 18; refine HEQ.out.mono ?_; rintro e w7 ⟨rfl, hk7⟩) | (refine at_load 7 rfl ?_; refine wpList_load_row rfl 34 (.tmp 7) rfl g7 rfl 34 _ (0, 0) _ (HBK6.out.keep hk7) Try.underlying34 rfl msg_info ?_) | (refine at_store 4 rfl ?_; refine wpList_store_row rfl 34 (.tmp 4) (.tmp 196) rfl g4 (mcs M4 (.slice ar (valQ l (10 + 16) a).length cr) (.slice none 0 0) (.slice none 0 0)).toArray rfl rfl 34 _ (HB46.out.keep hk7) msg_info rfl (mcs_one HM6.out) ?_))
      refine bodyPost_ret (results_blk_tmp (l := mcs M4 (.slice ar (valQ l (10 + 16) a).length cr) (.slice none 0 0) (.slice none 0 0)) rfl Try.underlying34 msg_info rfl rfl (Blk.row (HB46.out.keep hk7) _)) rfl ?_
      rw [show RES = (M4, 0) by rw [HRES.out, HMQ.out, takeK_good (by rw [HLQ.out]; exact HLE.out) ⟨by rw [← HMQ.out]; exact HRI.out, by rw [← HMQ.out]; exact HPQ.out⟩]]
      exact ⟨_, _, _, rfl, ((HPA6.out.keep hk7).only (Only.row w7 _) H4B.out).rd HMB.out, HMB.out, (nest HK6.out hk7).trans ((Only.row w7 _).below HW4.out (nest HK6.out hk7).size)⟩
end Go.Proofs.Ythhelhhlofdehaa
