/- The document's answer for package message: Take (written by genreftake.py). -/
import Derived.Test.YthhelhhlofdehaaMsgRtake1
import Derived.Test.YthhelhhlofdehaaMsgRtake3
import Derived.Test.YthhelhhlofdehaaMsgRtake5
set_option maxRecDepth 4000
namespace Go.Proofs.Ythhelhhlofdehaa
open Go.RowKit Mem
set_option linter.unusedSimpArgs false
set_option linter.unusedVariables false
attribute [local irreducible] Go.Calls
set_option maxRecDepth 100000 in
set_option maxHeartbeats 4000000 in
theorem rtake_bad (attrs : Int) (v : Value) (w : World) (ha : ¬ (1 ≤ attrs ∧ attrs ≤ 8)) : Calls Try.prog 15 #[.int .i64 attrs, v] w (MTakePost (zeroM, 1) w) := by
  have HB4 : Hid (Blk (w.alloc (.cells zcs.toArray 34)) w.heap.size 34 zcs.toArray) := Lib.hid (heap_alloc_new w (.cells zcs.toArray 34))
  have hX : Below w.heap.size w (w.alloc (.cells zcs.toArray 34)) := more (Below.refl _ _) _
  have HX := Lib.hid hX
  clear hX
  go_enter Try.func15, Try.ntmps15
  go_upto_region 1 with fail
  have hzz : w.alloc (.cells zcs.toArray 34) = w.alloc (.cells #[.int .i64 0, .int .i64 0, .int .u32 0, .int .i64 0, .int .i64 0, .int .u32 0, .int .i64 0, .int .u32 0, .int .i64 0, .int .u32 0, .int .u64 0, .int .u64 0, .slice none 0 0, .bool false, .int .u32 0, .int .u32 0, .slice none 0 0, .slice none 0 0] 34) := rfl
  rw [← hzz]
  clear hzz
  generalize w.alloc (.cells zcs.toArray 34) = w1 at *
  obtain ⟨g4, hg4⟩ : ∃ g4, g4 = w.heap.size := ⟨_, rfl⟩
  rw [← hg4] at HB4 ⊢
  have HW4 : Hid (w.heap.size ≤ g4) := Lib.hid (by omega)
  clear hg4
  by_cases h1 : attrs < 1
  · have d1 : decide (attrs < 1) = true := decide_eq_true h1
    go_upto_region 2 with fail
    go_upto_if 99 with (refine at_store 4 rfl ?_; refine wpList_store_row rfl 34 (.tmp 4) (.tmp 20) rfl g4 zcs.toArray rfl rfl 34 _ HB4.out msg_info rfl zcs_one ?_)
    refine bodyPost_ret (results_blk_tmp (l := zcs) rfl Try.underlying34 msg_info rfl rfl (Blk.row HB4.out _)) rfl ?_
    exact none_take ⟨rfl, HX.out.trans ((Only.row w1 _).below HW4.out HX.out.size)⟩
  · have d1 : decide (attrs < 1) = false := decide_eq_false h1
    have d2 : decide (attrs > 8) = true := decide_eq_true (by omega)
    go_upto_region 2 with fail
    go_upto_if 99 with (refine at_store 4 rfl ?_; refine wpList_store_row rfl 34 (.tmp 4) (.tmp 20) rfl g4 zcs.toArray rfl rfl 34 _ HB4.out msg_info rfl zcs_one ?_)
    refine bodyPost_ret (results_blk_tmp (l := zcs) rfl Try.underlying34 msg_info rfl rfl (Blk.row HB4.out _)) rfl ?_
    exact none_take ⟨rfl, HX.out.trans ((Only.row w1 _).below HW4.out HX.out.size)⟩
set_option maxRecDepth 100000 in
set_option maxHeartbeats 4000000 in
theorem rtake_short (a : Nat) (v : Value) (l : List Int) (w : World) (h : Rd (intE .u8) w v l) (hlm : l.length ≤ 1000000) (hb : Byt l) (ha : 1 ≤ a ∧ a ≤ 8) (h9 : l.length < 9) (K : Int) (hq : gq l 0 1 = K) :
    Calls Try.prog 15 #[.int .i64 a, v] w (MTakePost (zeroM, 3) w) := by
  obtain ⟨av, cv, rfl, _, _⟩ := h.form
  obtain ⟨RES, hRES⟩ : ∃ R, R = (zeroM, (3 : Int)) := ⟨_, rfl⟩
  rw [← hRES]
  have HRES := Lib.hid hRES
  have hX : Below w.heap.size w (w.alloc (.cells zcs.toArray 34)) := more (Below.refl _ _) _
  have HB4 : Hid (Blk (w.alloc (.cells zcs.toArray 34)) w.heap.size 34 zcs.toArray) := Lib.hid (heap_alloc_new w (.cells zcs.toArray 34))
  have HKA := Lib.hid hX
  have HV := Lib.hid h
  have HVA := Lib.hid (h.keep hX)
  have HBY := Lib.hid hb
  have HL := Lib.hid hlm
  have HA := Lib.hid ha
  have H9 := Lib.hid h9
  have HQ := Lib.hid hq
  have d1 : decide ((a : Int) < 1) = false := decide_eq_false (by omega)
  have d2 : decide ((a : Int) > 8) = false := decide_eq_false (by omega)
  clear hRES hX h hb hlm ha h9 hq
  go_enter Try.func15, Try.ntmps15
  go_upto_region 1 with fail
  have hzz : w.alloc (.cells zcs.toArray 34) = w.alloc (.cells #[.int .i64 0, .int .i64 0, .int .u32 0, .int .i64 0, .int .i64 0, .int .u32 0, .int .i64 0, .int .u32 0, .int .i64 0, .int .u32 0, .int .u64 0, .int .u64 0, .slice none 0 0, .bool false, .int .u32 0, .int .u32 0, .slice none 0 0, .slice none 0 0] 34) := rfl
  rw [← hzz]
  clear hzz
  generalize w.alloc (.cells zcs.toArray 34) = w1 at *
  obtain ⟨g4, hg4⟩ : ∃ g4, g4 = w.heap.size := ⟨_, rfl⟩
  rw [← hg4] at HB4 ⊢
  have HW4 : Hid (w.heap.size ≤ g4) := Lib.hid (by omega)
  clear hg4
  go_upto_region 4 with fail
  clear d1 d2
  have hX3 : Below w1.heap.size w1 (w1.alloc (.cells #[.slice av l.length cv, .int .i64 0, .int .i64 0] 80)) := more (Below.refl _ _) _
  have HR0 : Hid (RdrQ (w1.alloc (.cells #[.slice av l.length cv, .int .i64 0, .int .i64 0] 80)) w1.heap.size (.slice av l.length cv) l 0) := Lib.hid (RdrQ.start (Blk.new _ _ _) (HVA.out.keep hX3) (rd_ne HVA.out))
  have HB40 := Lib.hid (HB4.out.keep hX3)
  have HK0 := Lib.hid (nest HKA.out hX3)
  have H4b : Hid (g4 ≠ w1.heap.size) := Lib.hid (by have := HB4.out.lt; omega)
  have HWb : Hid (w.heap.size ≤ w1.heap.size) := Lib.hid HKA.out.size
  clear hX3 HB4 HKA HVA
  generalize w1.alloc (.cells #[.slice av l.length cv, .int .i64 0, .int .i64 0] 80) = y0 at *
  obtain ⟨b, hbb⟩ : ∃ b, b = w1.heap.size := ⟨_, rfl⟩
  rw [← hbb] at HR0 H4b HWb ⊢
  clear hbb
  have b0 := gq1 HBY.out 0
  have b1 := gq1 HBY.out (0 + 1)
  have b2 := gq1 HBY.out (0 + 1 + 1)
  have b3 := gq2 HBY.out (0 + 1 + 1 + 1)
  have b4 := gq4 HBY.out (0 + 1 + 1 + 1 + 2)
  have x0 : IntKind.i64.wrap (gq l 0 1) = gq l 0 1 := IntWalk.i64_in _ (by omega)
  have x1 : IntKind.i64.wrap (gq l (0 + 1) 1) = gq l (0 + 1) 1 := IntWalk.i64_in _ (by omega)
  have x2 : IntKind.i64.wrap (gq l (0 + 1 + 1) 1) = gq l (0 + 1 + 1) 1 := IntWalk.i64_in _ (by omega)
  have x3 : IntKind.i64.wrap (gq l (0 + 1 + 1 + 1) 2) = gq l (0 + 1 + 1 + 1) 2 := IntWalk.i64_in _ (by omega)
  have x4 : IntKind.u32.wrap (gq l (0 + 1 + 1 + 1 + 2) 4) = gq l (0 + 1 + 1 + 1 + 2) 4 := IntWalk.u32_in _ (by omega)
  clear b0 b1 b2 b3 b4
  go_upto_region 5 with (first | (go_at_call 38; refine (rgetq b (.slice av l.length cv) l (0) 1 sz1 _ HR0.out HL.out HBY.out).mono ?_; rintro e y1 ⟨rfl, hr1, ho1⟩) | (go_at_call 38; refine (rgetq b (.slice av l.length cv) l (0 + 1) 1 sz1 _ hr1 HL.out HBY.out).mono ?_; rintro e y2 ⟨rfl, hr2, ho2⟩) | (go_at_call 38; refine (rgetq b (.slice av l.length cv) l (0 + 1 + 1) 1 sz1 _ hr2 HL.out HBY.out).mono ?_; rintro e y3 ⟨rfl, hr3, ho3⟩) | (go_at_call 38; refine (rgetq b (.slice av l.length cv) l (0 + 1 + 1 + 1) 2 sz2 _ hr3 HL.out HBY.out).mono ?_; rintro e y4 ⟨rfl, hr4, ho4⟩) | (go_at_call 38; refine (rgetq b (.slice av l.length cv) l (0 + 1 + 1 + 1 + 2) 4 sz4' _ hr4 HL.out HBY.out).mono ?_; rintro e y5 ⟨rfl, hr5, ho5⟩) | (refine at_store 7 rfl ?_; refine wpList_store_row rfl 34 (.tmp 7) (.tmp 39) rfl y5.heap.size (mcs (headQ l) (.slice none 0 0) (.slice none 0 0) (.slice none 0 0)).toArray rfl rfl 34 _ (heap_alloc_new y5 _) msg_info rfl (by simp [mcs, Value.oneCell']) ?_))
  (try rw [World.setRow_alloc_new])
  clear x0 x1 x2 x3 x4
  have hX : Below y5.heap.size y5 (y5.alloc (.cells (mcs (headQ l) (.slice none 0 0) (.slice none 0 0) (.slice none 0 0)).toArray 34)) := more (Below.refl _ _) _
  have ho : Only b y0 y5 := (((ho1.trans ho2).trans ho3).trans ho4).trans ho5
  have HBK : Hid (Blk (y5.alloc (.cells (mcs (headQ l) (.slice none 0 0) (.slice none 0 0) (.slice none 0 0)).toArray 34)) y5.heap.size 34 (mcs (headQ l) (.slice none 0 0) (.slice none 0 0) (.slice none 0 0)).toArray) := Lib.hid (Blk.new y5 34 (mcs (headQ l) (.slice none 0 0) (.slice none 0 0) (.slice none 0 0)).toArray)
  have HB4 := Lib.hid ((HB40.out.only ho H4b.out).keep hX)
  have HR : Hid (RdrQ (y5.alloc (.cells (mcs (headQ l) (.slice none 0 0) (.slice none 0 0) (.slice none 0 0)).toArray 34)) b (.slice av l.length cv) l 9) := Lib.hid (hr5.keep hX)
  have HK := Lib.hid (nest (HK0.out.trans (ho.below HWb.out HK0.out.size)) hX)
  have H47 : Hid (g4 ≠ y5.heap.size) := Lib.hid (by have := HB40.out.lt; have := ho.size; omega)
  have H7b : Hid (y5.heap.size ≠ b) := Lib.hid (by have := hr5.lt; omega)
  have HW7 : Hid (w.heap.size ≤ y5.heap.size) := Lib.hid (HK0.out.trans (ho.below HWb.out HK0.out.size)).size
  obtain ⟨B0, hB0⟩ : ∃ B, B = (y5.alloc (.cells (mcs (headQ l) (.slice none 0 0) (.slice none 0 0) (.slice none 0 0)).toArray 34)).heap.size := ⟨_, rfl⟩
  have HS : Hid (B0 ≤ (y5.alloc (.cells (mcs (headQ l) (.slice none 0 0) (.slice none 0 0) (.slice none 0 0)).toArray 34)).heap.size) := Lib.hid (by omega)
  have HPA : Hid (PA B0 (y5.alloc (.cells (mcs (headQ l) (.slice none 0 0) (.slice none 0 0) (.slice none 0 0)).toArray 34)) (headQ l) (.slice none 0 0) (.slice none 0 0) (.slice none 0 0)) := Lib.hid ⟨by rw [(headQ_ok HBY.out).vals]; exact Row.nil, by rw [(headQ_ok HBY.out).box]; exact Row.nil, by rw [(headQ_ok HBY.out).recs]; exact recsAt_nil _ _⟩
  have HbB : Hid (b < B0) := Lib.hid (by rw [hB0]; exact HR.out.lt)
  have H7B : Hid (y5.heap.size < B0) := Lib.hid (by rw [hB0]; exact HBK.out.lt)
  have H4B : Hid (g4 < B0) := Lib.hid (by rw [hB0]; exact HB4.out.lt)
  clear hX ho ho1 ho2 ho3 ho4 ho5 hr1 hr2 hr3 hr4 hr5 HR0 HB40 HK0 hB0
  generalize y5.alloc (.cells (mcs (headQ l) (.slice none 0 0) (.slice none 0 0) (.slice none 0 0)).toArray 34) = z at *
  obtain ⟨g7, hg7⟩ : ∃ g7, g7 = y5.heap.size := ⟨_, rfl⟩
  rw [← hg7] at HBK H47 H7b HW7 H7B ⊢
  clear hg7
  have Hb7 : Hid (b ≠ g7) := Lib.hid (fun e => H7b.out e.symm)
  have HQK : Hid ((headQ l).kind = K) := Lib.hid HQ.out
  have HHB : Hid (0 ≤ (headQ l).hub) := Lib.hid (headQ_ok HBY.out).hub
  obtain ⟨M0, hM0⟩ : ∃ m, m = headQ l := ⟨_, rfl⟩
  rw [← hM0] at HBK HPA
  have HE0 := Lib.hid hM0
  
  clear hM0
  have c2 : z.cell? ⟨b, 2, none⟩ = some (.int .i64 3) := by have := HR.out.err; rwa [if_neg (by have := H9.out; omega)] at this
  go_upto_region 6 with fail
  go_upto_if 99 with (refine at_store 4 rfl ?_; refine wpList_store_row rfl 34 (.tmp 4) (.tmp 45) rfl g4 zcs.toArray rfl rfl 34 _ HB4.out msg_info rfl zcs_one ?_)
  refine bodyPost_ret (results_blk_tmp (l := zcs) rfl Try.underlying34 msg_info rfl rfl (Blk.row HB4.out _)) rfl ?_
  rw [HRES.out]
  exact none_take ⟨rfl, HK.out.trans ((Only.row z _).below HW4.out HK.out.size)⟩
set_option maxRecDepth 100000 in
set_option maxHeartbeats 4000000 in
theorem rtake_kind (a : Nat) (v : Value) (l : List Int) (w : World) (h : Rd (intE .u8) w v l) (hlm : l.length ≤ 1000000) (hb : Byt l) (ha : 1 ≤ a ∧ a ≤ 8) (h9 : 9 ≤ l.length) (K : Int) (hq : gq l 0 1 = K) (hkk : ¬ (1 ≤ K ∧ K ≤ 6)) :
    Calls Try.prog 15 #[.int .i64 a, v] w (MTakePost (zeroM, 4) w) := by
  have HKK := Lib.hid hkk
  clear hkk
  obtain ⟨av, cv, rfl, _, _⟩ := h.form
  obtain ⟨RES, hRES⟩ : ∃ R, R = (zeroM, (4 : Int)) := ⟨_, rfl⟩
  rw [← hRES]
  have HRES := Lib.hid hRES
  have hX : Below w.heap.size w (w.alloc (.cells zcs.toArray 34)) := more (Below.refl _ _) _
  have HB4 : Hid (Blk (w.alloc (.cells zcs.toArray 34)) w.heap.size 34 zcs.toArray) := Lib.hid (heap_alloc_new w (.cells zcs.toArray 34))
  have HKA := Lib.hid hX
  have HV := Lib.hid h
  have HVA := Lib.hid (h.keep hX)
  have HBY := Lib.hid hb
  have HL := Lib.hid hlm
  have HA := Lib.hid ha
  have H9 := Lib.hid h9
  have HQ := Lib.hid hq
  have d1 : decide ((a : Int) < 1) = false := decide_eq_false (by omega)
  have d2 : decide ((a : Int) > 8) = false := decide_eq_false (by omega)
  clear hRES hX h hb hlm ha h9 hq
  go_enter Try.func15, Try.ntmps15
  go_upto_region 1 with fail
  have hzz : w.alloc (.cells zcs.toArray 34) = w.alloc (.cells #[.int .i64 0, .int .i64 0, .int .u32 0, .int .i64 0, .int .i64 0, .int .u32 0, .int .i64 0, .int .u32 0, .int .i64 0, .int .u32 0, .int .u64 0, .int .u64 0, .slice none 0 0, .bool false, .int .u32 0, .int .u32 0, .slice none 0 0, .slice none 0 0] 34) := rfl
  rw [← hzz]
  clear hzz
  generalize w.alloc (.cells zcs.toArray 34) = w1 at *
  obtain ⟨g4, hg4⟩ : ∃ g4, g4 = w.heap.size := ⟨_, rfl⟩
  rw [← hg4] at HB4 ⊢
  have HW4 : Hid (w.heap.size ≤ g4) := Lib.hid (by omega)
  clear hg4
  go_upto_region 4 with fail
  clear d1 d2
  have hX3 : Below w1.heap.size w1 (w1.alloc (.cells #[.slice av l.length cv, .int .i64 0, .int .i64 0] 80)) := more (Below.refl _ _) _
  have HR0 : Hid (RdrQ (w1.alloc (.cells #[.slice av l.length cv, .int .i64 0, .int .i64 0] 80)) w1.heap.size (.slice av l.length cv) l 0) := Lib.hid (RdrQ.start (Blk.new _ _ _) (HVA.out.keep hX3) (rd_ne HVA.out))
  have HB40 := Lib.hid (HB4.out.keep hX3)
  have HK0 := Lib.hid (nest HKA.out hX3)
  have H4b : Hid (g4 ≠ w1.heap.size) := Lib.hid (by have := HB4.out.lt; omega)
  have HWb : Hid (w.heap.size ≤ w1.heap.size) := Lib.hid HKA.out.size
  clear hX3 HB4 HKA HVA
  generalize w1.alloc (.cells #[.slice av l.length cv, .int .i64 0, .int .i64 0] 80) = y0 at *
  obtain ⟨b, hbb⟩ : ∃ b, b = w1.heap.size := ⟨_, rfl⟩
  rw [← hbb] at HR0 H4b HWb ⊢
  clear hbb
  have b0 := gq1 HBY.out 0
  have b1 := gq1 HBY.out (0 + 1)
  have b2 := gq1 HBY.out (0 + 1 + 1)
  have b3 := gq2 HBY.out (0 + 1 + 1 + 1)
  have b4 := gq4 HBY.out (0 + 1 + 1 + 1 + 2)
  have x0 : IntKind.i64.wrap (gq l 0 1) = gq l 0 1 := IntWalk.i64_in _ (by omega)
  have x1 : IntKind.i64.wrap (gq l (0 + 1) 1) = gq l (0 + 1) 1 := IntWalk.i64_in _ (by omega)
  have x2 : IntKind.i64.wrap (gq l (0 + 1 + 1) 1) = gq l (0 + 1 + 1) 1 := IntWalk.i64_in _ (by omega)
  have x3 : IntKind.i64.wrap (gq l (0 + 1 + 1 + 1) 2) = gq l (0 + 1 + 1 + 1) 2 := IntWalk.i64_in _ (by omega)
  have x4 : IntKind.u32.wrap (gq l (0 + 1 + 1 + 1 + 2) 4) = gq l (0 + 1 + 1 + 1 + 2) 4 := IntWalk.u32_in _ (by omega)
  clear b0 b1 b2 b3 b4
  go_upto_region 5 with (first | (go_at_call 38; refine (rgetq b (.slice av l.length cv) l (0) 1 sz1 _ HR0.out HL.out HBY.out).mono ?_; rintro e y1 ⟨rfl, hr1, ho1⟩) | (go_at_call 38; refine (rgetq b (.slice av l.length cv) l (0 + 1) 1 sz1 _ hr1 HL.out HBY.out).mono ?_; rintro e y2 ⟨rfl, hr2, ho2⟩) | (go_at_call 38; refine (rgetq b (.slice av l.length cv) l (0 + 1 + 1) 1 sz1 _ hr2 HL.out HBY.out).mono ?_; rintro e y3 ⟨rfl, hr3, ho3⟩) | (go_at_call 38; refine (rgetq b (.slice av l.length cv) l (0 + 1 + 1 + 1) 2 sz2 _ hr3 HL.out HBY.out).mono ?_; rintro e y4 ⟨rfl, hr4, ho4⟩) | (go_at_call 38; refine (rgetq b (.slice av l.length cv) l (0 + 1 + 1 + 1 + 2) 4 sz4' _ hr4 HL.out HBY.out).mono ?_; rintro e y5 ⟨rfl, hr5, ho5⟩) | (refine at_store 7 rfl ?_; refine wpList_store_row rfl 34 (.tmp 7) (.tmp 39) rfl y5.heap.size (mcs (headQ l) (.slice none 0 0) (.slice none 0 0) (.slice none 0 0)).toArray rfl rfl 34 _ (heap_alloc_new y5 _) msg_info rfl (by simp [mcs, Value.oneCell']) ?_))
  (try rw [World.setRow_alloc_new])
  clear x0 x1 x2 x3 x4
  have hX : Below y5.heap.size y5 (y5.alloc (.cells (mcs (headQ l) (.slice none 0 0) (.slice none 0 0) (.slice none 0 0)).toArray 34)) := more (Below.refl _ _) _
  have ho : Only b y0 y5 := (((ho1.trans ho2).trans ho3).trans ho4).trans ho5
  have HBK : Hid (Blk (y5.alloc (.cells (mcs (headQ l) (.slice none 0 0) (.slice none 0 0) (.slice none 0 0)).toArray 34)) y5.heap.size 34 (mcs (headQ l) (.slice none 0 0) (.slice none 0 0) (.slice none 0 0)).toArray) := Lib.hid (Blk.new y5 34 (mcs (headQ l) (.slice none 0 0) (.slice none 0 0) (.slice none 0 0)).toArray)
  have HB4 := Lib.hid ((HB40.out.only ho H4b.out).keep hX)
  have HR : Hid (RdrQ (y5.alloc (.cells (mcs (headQ l) (.slice none 0 0) (.slice none 0 0) (.slice none 0 0)).toArray 34)) b (.slice av l.length cv) l 9) := Lib.hid (hr5.keep hX)
  have HK := Lib.hid (nest (HK0.out.trans (ho.below HWb.out HK0.out.size)) hX)
  have H47 : Hid (g4 ≠ y5.heap.size) := Lib.hid (by have := HB40.out.lt; have := ho.size; omega)
  have H7b : Hid (y5.heap.size ≠ b) := Lib.hid (by have := hr5.lt; omega)
  have HW7 : Hid (w.heap.size ≤ y5.heap.size) := Lib.hid (HK0.out.trans (ho.below HWb.out HK0.out.size)).size
  obtain ⟨B0, hB0⟩ : ∃ B, B = (y5.alloc (.cells (mcs (headQ l) (.slice none 0 0) (.slice none 0 0) (.slice none 0 0)).toArray 34)).heap.size := ⟨_, rfl⟩
  have HS : Hid (B0 ≤ (y5.alloc (.cells (mcs (headQ l) (.slice none 0 0) (.slice none 0 0) (.slice none 0 0)).toArray 34)).heap.size) := Lib.hid (by omega)
  have HPA : Hid (PA B0 (y5.alloc (.cells (mcs (headQ l) (.slice none 0 0) (.slice none 0 0) (.slice none 0 0)).toArray 34)) (headQ l) (.slice none 0 0) (.slice none 0 0) (.slice none 0 0)) := Lib.hid ⟨by rw [(headQ_ok HBY.out).vals]; exact Row.nil, by rw [(headQ_ok HBY.out).box]; exact Row.nil, by rw [(headQ_ok HBY.out).recs]; exact recsAt_nil _ _⟩
  have HbB : Hid (b < B0) := Lib.hid (by rw [hB0]; exact HR.out.lt)
  have H7B : Hid (y5.heap.size < B0) := Lib.hid (by rw [hB0]; exact HBK.out.lt)
  have H4B : Hid (g4 < B0) := Lib.hid (by rw [hB0]; exact HB4.out.lt)
  clear hX ho ho1 ho2 ho3 ho4 ho5 hr1 hr2 hr3 hr4 hr5 HR0 HB40 HK0 hB0
  generalize y5.alloc (.cells (mcs (headQ l) (.slice none 0 0) (.slice none 0 0) (.slice none 0 0)).toArray 34) = z at *
  obtain ⟨g7, hg7⟩ : ∃ g7, g7 = y5.heap.size := ⟨_, rfl⟩
  rw [← hg7] at HBK H47 H7b HW7 H7B ⊢
  clear hg7
  have Hb7 : Hid (b ≠ g7) := Lib.hid (fun e => H7b.out e.symm)
  have HQK : Hid ((headQ l).kind = K) := Lib.hid HQ.out
  have HHB : Hid (0 ≤ (headQ l).hub) := Lib.hid (headQ_ok HBY.out).hub
  obtain ⟨M0, hM0⟩ : ∃ m, m = headQ l := ⟨_, rfl⟩
  rw [← hM0] at HBK HPA
  have HE0 := Lib.hid hM0
  have HF : Hid (firstM M0 = false) := Lib.hid (by rw [hM0]; unfold firstM; rw [HQK.out]; exact decide_eq_false (by have := HKK.out; omega))
  clear hM0
  have c2 : z.cell? ⟨b, 2, none⟩ = some (.int .i64 0) := by have := HR.out.err; rwa [if_pos H9.out] at this
  go_upto_region 19 with (first | (refine at_load 7 rfl ?_; refine wpList_load_row rfl 34 (.tmp 7) rfl g7 rfl 34 _ (0, 0) _ HBK.out Try.underlying34 rfl msg_info ?_) | (go_at_call 32; refine (rfirst_any M0 _ _ _ _).mono ?_; rintro e z0 ⟨rfl, hk⟩; rw [HF.out]))
  have HB4n := Lib.hid (HB4.out.keep hk)
  have HBKn := Lib.hid (HBK.out.keep hk)
  have HRn := Lib.hid (HR.out.keep hk)
  have HKn := Lib.hid (nest HK.out hk)
  have HPAn := Lib.hid (HPA.out.keep hk)
  have HSn : Hid (B0 ≤ z0.heap.size) := Lib.hid (Nat.le_trans HS.out hk.size)
  clear HB4 HBK HR HK HPA HS hk
  have HB4 := HB4n
  have HBK := HBKn
  have HR := HRn
  have HK := HKn
  have HPA := HPAn
  have HS := HSn
  clear HB4n HBKn HRn HKn HPAn HSn
  clear c2 HF
  have c0 : z0.cell? ⟨g7, 0, none⟩ = some (.int .i64 K) := by rw [show (Value.int .i64 K) = .int .i64 M0.kind by rw [HE0.out]; exact congrArg _ HQ.out.symm]; exact HBK.out.cell 0
  have k5 : decide (K = 5) = false := decide_eq_false (by have := HKK.out; omega)
  have k6 : decide (K = 6) = false := decide_eq_false (by have := HKK.out; omega)
  have e5 : (K == 5) = false := k5
  have e6 : (K == 6) = false := k6
  have n5 : ¬ K = 5 := by have := HKK.out; omega
  have n6 : ¬ K = 6 := by have := HKK.out; omega
  go_upto_region 7 with fail
  go_upto_if 99 with (refine at_store 4 rfl ?_; refine wpList_store_row rfl 34 (.tmp 4) (.tmp 46) rfl g4 zcs.toArray rfl rfl 34 _ HB4.out msg_info rfl zcs_one ?_)
  refine bodyPost_ret (results_blk_tmp (l := zcs) rfl Try.underlying34 msg_info rfl rfl (Blk.row HB4.out _)) rfl ?_
  rw [HRES.out]
  exact none_take ⟨rfl, HK.out.trans ((Only.row z0 _).below HW4.out HK.out.size)⟩
theorem takeV_K (a : Nat) (l : List Int) (ha : 1 ≤ a ∧ a ≤ 8) (h9 : 9 ≤ l.length) (hk : 1 ≤ gq l 0 1 ∧ gq l 0 1 ≤ 6) : takeV a l = takeK (gq l 0 1) a l := by
  unfold takeV takeK
  rw [if_neg (by omega), if_neg (by omega), if_neg (by omega), Int.toNat_natCast]
/-- the document's Take, of any bytes -/
theorem rmtake_any (attrs : Int) (v : Value) (l : List Int) (w : World) (h : Rd (intE .u8) w v l) (hlm : l.length ≤ 1000000) (hb : Byt l) :
    Calls Try.prog 15 #[.int .i64 attrs, v] w (MTakePost (takeV attrs l) w) := by
  by_cases ha : 1 ≤ attrs ∧ attrs ≤ 8
  case neg =>
    have e : takeV attrs l = (zeroM, 1) := by unfold takeV; rw [if_pos ha]
    rw [e]
    exact rtake_bad attrs v w ha
  obtain ⟨a, rfl⟩ := Int.eq_ofNat_of_zero_le (show 0 ≤ attrs by omega)
  have han : 1 ≤ a ∧ a ≤ 8 := by omega
  by_cases hl : l.length < 9
  · have e : takeV a l = (zeroM, 3) := by unfold takeV; rw [if_neg (by simpa using ha), if_pos hl]
    rw [e]
    exact rtake_short a v l w h hlm hb han hl _ rfl
  by_cases hk : 1 ≤ gq l 0 1 ∧ gq l 0 1 ≤ 6
  case neg =>
    have e : takeV a l = (zeroM, 4) := by unfold takeV; rw [if_neg (by simpa using ha), if_neg hl, if_pos hk]
    rw [e]
    exact rtake_kind a v l w h hlm hb han (by omega) _ rfl hk
  rw [takeV_K a l han (by omega) hk]
  have hks : gq l 0 1 = 1 ∨ gq l 0 1 = 2 ∨ gq l 0 1 = 3 ∨ gq l 0 1 = 4 ∨ gq l 0 1 = 5 ∨ gq l 0 1 = 6 := by omega
  rcases hks with hq | hq | hq | hq | hq | hq
  · rw [hq]; exact rtake1_any a v l w h hlm hb han (by omega) hq
  · rw [hq]; exact rtake2_any a v l w h hlm hb han (by omega) hq
  · rw [hq]; exact rtake3_any a v l w h hlm hb han (by omega) hq
  · rw [hq]; exact rtake4_any a v l w h hlm hb han (by omega) hq
  · rw [hq]; exact rtake5_any a v l w h hlm hb han (by omega) hq
  · rw [hq]; exact rtake6_any a v l w h hlm hb han (by omega) hq
end Go.Proofs.Ythhelhhlofdehaa
