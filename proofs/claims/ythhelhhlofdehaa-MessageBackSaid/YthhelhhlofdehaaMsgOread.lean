/- Package message: read. -/
import Derived.Test.YthhelhhlofdehaaMsgOparts
import Derived.Test.YthhelhhlofdehaaMsgOwn
set_option maxRecDepth 4000
namespace Go.Proofs.Ythhelhhlofdehaa
open Go.RowKit Mem
set_option linter.unusedSimpArgs false
set_option linter.unusedVariables false
attribute [local irreducible] Go.Calls

theorem ogetparts_any (b : Nat) (g : Option Nat) (l : List Int) (a gm : Nat) (m0 : Msg) (w : World) (hk : 1 ≤ m0.kind ∧ m0.kind ≤ 6) (hm : HeadM m0) (hB : Blk w gm 34 (mcs m0 (.slice none 0 0) (.slice none 0 0) (.slice none 0 0)).toArray) (h : OrQ w b g l 9) (hg : ∀ k, g = some k → k < w.heap.size ∧ k ≠ gm) (hne : gm ≠ b) (hl : l.length ≤ 1000000) (hb : Byt l) (ha : 1 ≤ a ∧ a ≤ 8) :
    Calls Try.prog 61 #[.int .i64 a, .pointer (some ⟨b, 0, none⟩), .pointer (some ⟨gm, 0, none⟩), .agg (pcs (prt m0.kind)).toArray] w (PartsIn b g l a gm m0 w) := by
  have h2 : m0.kind = 1 ∨ m0.kind = 2 ∨ m0.kind = 3 ∨ m0.kind = 4 ∨ m0.kind = 5 ∨ m0.kind = 6 := by omega
  rcases h2 with h2 | h2 | h2 | h2 | h2 | h2
  · have := oget1_any b g l a gm m0 w h2 hm hB h hg hne hl hb ha
    rw [h2]; exact this
  · have := oget2_any b g l a gm m0 w h2 hm hB h hg hne hl hb ha
    rw [h2]; exact this
  · have := oget3_any b g l a gm m0 w h2 hm hB h hg hne hl hb ha
    rw [h2]; exact this
  · have := oget4_any b g l a gm m0 w h2 hm hB h hg hne hl hb ha
    rw [h2]; exact this
  · have := oget5_any b g l a gm m0 w h2 hm hB h hg hne hl hb ha
    rw [h2]; exact this
  · have := oget6_any b g l a gm m0 w h2 hm hB h hg hne hl hb ha
    rw [h2]; exact this
/-- the head that is read -/
def headQ (l : List Int) : Msg := { zeroM with kind := gq l 0 1, hub := gq l 1 1, client := gq l 2 1, op := gq l 3 2, point := gq l 5 4 }
theorem headQ_ok {l : List Int} (h : Byt l) : HeadM (headQ l) :=
  ⟨rfl, rfl, rfl, ⟨i64_of1 h _, i64_of1 h _, gq4 h _, i64_of1 h _, by have := gq2 h 3; unfold i64B; show -9223372036854775808 ≤ gq l 3 2 ∧ gq l 3 2 ≤ 9223372036854775807; omega, by simp [headQ, zeroM, u32B], by simp [headQ, zeroM, i64B], by simp [headQ, zeroM, u32B], by simp [headQ, zeroM, i64B], by simp [headQ, zeroM, u32B], by simp [headQ, zeroM, u64B], by simp [headQ, zeroM, u64B], by simp [headQ, zeroM], by simp [headQ, zeroM, u32B], by simp [headQ, zeroM, u32B], by simp [headQ, zeroM, RB], by simp [headQ, zeroM]⟩, (gq1 h 1).1⟩
/-- what is read of bytes that are not too few -/
def ReadPost' (a : Nat) (l : List Int) (w : World) (e : Ending) (w' : World) : Prop :=
  ∃ m v b r err, e = .returned (.tuple #[.agg (mcs m v b r).toArray, .int .i64 err]) ∧ PA w.heap.size w' m v b r ∧ MB m ∧ Below w.heap.size w w' ∧
    err = (if 1 ≤ gq l 0 1 ∧ gq l 0 1 ≤ 6 then (if lenQ a l (gq l 0 1) ≤ l.length then 0 else 3) else 4) ∧ (err = 0 → m = msgK a l (headQ l))
theorem wf_u32 {x : Int} (h : u32B x) : (Lit.int .u32 x).wf = true := by
  unfold u32B at h
  simp [Lit.wf, IntKind.min, IntKind.max, IntKind.signed, IntKind.bits]
  omega
theorem wf_u64 {x : Int} (h : u64B x) : (Lit.int .u64 x).wf = true := by
  unfold u64B at h
  simp [Lit.wf, IntKind.min, IntKind.max, IntKind.signed, IntKind.bits]
  omega
theorem ints_kd {w : World} {v : Value} {l : List Int} (h : Rd (intE .u32) w v l) (hb : ∀ x ∈ l, u32B x) : (kSlice (kInt .u32)).rd w [v] l := by
  obtain ⟨a, g, off, c, rfl, h1, h2, h3, h4⟩ := Mem.Rd.loopI h
  refine ⟨a, c, rfl, h1, h2, fun hl => ⟨g, off, (h3 hl).1, fun i y hy => ⟨[.int .u32 y], fun j hj => ?_, rfl, wf_u32 (hb y (List.mem_of_getElem? hy))⟩⟩⟩
  have hj0 : j = 0 := by have : (kInt .u32).size = 1 := rfl; omega
  subst hj0
  have hil : i < l.length := (List.getElem?_eq_some_iff.1 hy).1
  have := h4 i hil
  rw [show l.getD i 0 = y by simp [List.getD, hy]] at this
  rw [show off + (i * (kInt .u32).size + 0) = off + i by show off + (i * 1 + 0) = off + i; omega, this]
  rfl
theorem RecsAt.rd {B : Nat} {w : World} {v : Value} {L : List (Int × Int × List Int)} (h : RecsAt B w v L) (hb : ∀ y ∈ L, recB y) : recsK.rd w [v] L := by
  obtain ⟨hs, h1, h2, h3⟩ := h
  refine raw_kd h2 h1.rd (fun i x y hx hy => ?_)
  obtain ⟨xv, h4, h5⟩ := h3 i x y hx hy
  have hB := hb y (List.mem_of_getElem? hy)
  rw [h4]
  exact ⟨⟨rfl, wf_u64 hB.1⟩, ⟨rfl, wf_u64 hB.2.1⟩, ints_kd h5.rd hB.2.2⟩
theorem PA.rd {B : Nat} {w : World} {m : Msg} {v b r : Value} (h : PA B w m v b r) (hb : MB m) : MRd w m v b r := ⟨h.vals.rd, h.box.rd, h.recs.rd hb.recs⟩
theorem pa_mono {B B' : Nat} {w : World} {m : Msg} {v b r : Value} (h : PA B' w m v b r) (hB : B ≤ B') : PA B w m v b r := ⟨h.vals.mono hB, h.box.mono hB, by
  obtain ⟨hs, h1, h2, h3⟩ := h.recs
  exact ⟨hs, h1.mono hB, h2, fun i x y hx hy => (h3 i x y hx hy).mono hB⟩⟩
theorem pa_zero (B : Nat) (w : World) : PA B w zeroM (.slice none 0 0) (.slice none 0 0) (.slice none 0 0) := ⟨Row.nil, Row.nil, recsAt_nil _ _⟩
theorem zero_b : MB zeroM := by constructor <;> simp [zeroM, i64B, u32B, u64B, RB]
set_option maxRecDepth 100000 in
set_option maxHeartbeats 4000000 in
theorem omread_any (a : Nat) (v : Value) (l : List Int) (w : World) (h : Rd (intE .u8) w v l) (hl : 9 ≤ l.length) (hlm : l.length ≤ 1000000) (hb : Byt l) (ha : 1 ≤ a ∧ a ≤ 8) :
    Calls Try.prog 36 #[.int .i64 a, v] w (ReadPost' a l w) := by
  obtain ⟨av, cv, rfl, _, _⟩ := h.form
  have hX : Below w.heap.size w (w.alloc (.cells zcs.toArray 34)) := more (Below.refl _ _) _
  have HK0 := Lib.hid hX
  have HB4 : Hid (Blk (w.alloc (.cells zcs.toArray 34)) w.heap.size 34 zcs.toArray) := Lib.hid (Blk.new _ _ _)
  have HRD := Lib.hid (h.keep hX)
  have HBY := Lib.hid hb
  have HL := Lib.hid hlm
  have HAA := Lib.hid ha
  have hd : decide ((l.length : Int) < 9) = false := decide_eq_false (by omega)
  have hzz : ∀ z : World, z.alloc (.cells zcs.toArray 34) = z.alloc (.cells #[.int .i64 0, .int .i64 0, .int .u32 0, .int .i64 0, .int .i64 0, .int .u32 0, .int .i64 0, .int .u32 0, .int .i64 0, .int .u32 0, .int .u64 0, .int .u64 0, .slice none 0 0, .bool false, .int .u32 0, .int .u32 0, .slice none 0 0, .slice none 0 0] 34) := fun _ => rfl
  have HZZ := Lib.hid hzz
  clear h hX hlm hb ha hzz
  go_enter Try.func36, Try.ntmps36
  go_upto_region 1 with fail
  rw [← HZZ.out]
  generalize w.alloc (.cells zcs.toArray 34) = w1 at *
  obtain ⟨g4, hg4⟩ : ∃ g4, g4 = w.heap.size := ⟨_, rfl⟩
  rw [← hg4] at HB4 ⊢
  have HG4 := Lib.hid hg4
  clear hg4
  go_upto_region 4 with (go_at_call 59; refine (oreadq _ l _ HRD.out HL.out).mono ?_; rintro e w2 ⟨b, g, rfl, hr, hbge, hgk, hk2⟩)
  have HR00 := Lib.hid hr
  have HB42 := Lib.hid (HB4.out.keep hk2)
  have HK2 := Lib.hid (nest HK0.out hk2)
  have HBW : Hid (w.heap.size ≤ b) := Lib.hid (by have := HK0.out.size; omega)
  have HB4B : Hid (g4 ≠ b) := Lib.hid (by have := HB4.out.lt; omega)
  have HGK2 : Hid (∀ k, g = some k → g4 < k ∧ k < w2.heap.size) := Lib.hid (fun k hk => by have := hgk k hk; have := HB4.out.lt; omega)
  have hX2 : Below w2.heap.size w2 (w2.alloc (.cells zcs.toArray 34)) := more (Below.refl _ _) _
  have HBK0 : Hid (Blk (w2.alloc (.cells zcs.toArray 34)) w2.heap.size 34 (mcs zeroM (.slice none 0 0) (.slice none 0 0) (.slice none 0 0)).toArray) := Lib.hid (Blk.new _ _ _)
  have HR0 : Hid (OrQ (w2.alloc (.cells zcs.toArray 34)) b g l 0) := Lib.hid (hr.keep hX2)
  have HB40 := Lib.hid (HB42.out.keep hX2)
  have HKW0 := Lib.hid (nest HK2.out hX2)
  have HBM : Hid (b < w2.heap.size) := Lib.hid hr.lt
  have HM4 : Hid (g4 < w2.heap.size) := Lib.hid HB42.out.lt
  have HMW : Hid (w.heap.size ≤ w2.heap.size) := Lib.hid HK2.out.size
  clear hr hbge hgk hk2 hX2 HR00 HB42 HB4 HK2 HK0 HRD
  go_upto_region 5 with fail
  rw [← HZZ.out]
  generalize w2.alloc (.cells zcs.toArray 34) = z0 at *
  obtain ⟨gm, hgm⟩ : ∃ gm, gm = w2.heap.size := ⟨_, rfl⟩
  rw [← hgm] at HBK0 HGK2 HBM HM4 HMW ⊢
  clear hgm
  have HNE : Hid (gm ≠ b) := Lib.hid (by have := HBM.out; omega)
  have HBN : Hid (b ≠ gm) := Lib.hid (fun e => HNE.out e.symm)
  have HGM : Hid (g ≠ some gm) := Lib.hid (fun e => by have := (HGK2.out gm e).2; omega)
  have HG4N : Hid (g4 ≠ gm) := Lib.hid (by have := HM4.out; omega)
  obtain ⟨M0, hM0⟩ : ∃ m, m = zeroM := ⟨_, rfl⟩
  rw [← hM0] at HBK0
  have HE0 := Lib.hid hM0
  clear hM0
  have bx := gq1 HBY.out 0
  have wx : IntKind.i64.wrap (gq l 0 1) = gq l 0 1 := IntWalk.i64_in _ (by omega)
  clear bx
  go_upto_region 6 with (go_at_call 60; refine (ogetq b g l 0 1 sz1 _ HR0.out HL.out HBY.out).mono ?_; rintro e y1 ⟨rfl, hr, ho⟩; have hbk := HBK0.out.only ho HNE.out; have ec : y1.cell? ⟨gm, 0, none⟩ = some (.int .i64 M0.kind) := hbk.cell 0; have ef := hbk.frozen 0)
  have hos := Only.set (b := gm) y1 0 (.int .i64 (gq l 0 1))
  obtain ⟨M1, hM1⟩ : ∃ m, m = { M0 with kind := gq l 0 1 } := ⟨_, rfl⟩
  have HBK1 : Hid (Blk (y1.setCell ⟨gm, 0, none⟩ (.int .i64 (gq l 0 1))) gm 34 (mcs M1 (.slice none 0 0) (.slice none 0 0) (.slice none 0 0)).toArray) := Lib.hid (by rw [hM1]; exact hbk.set_ 0 _)
  have HR1 : Hid (OrQ (y1.setCell ⟨gm, 0, none⟩ (.int .i64 (gq l 0 1))) b g l 1) := Lib.hid (hr.only hos HBN.out HGM.out)
  have HB41 := Lib.hid ((HB40.out.only ho HB4B.out).only hos HG4N.out)
  have HKW1 := Lib.hid ((HKW0.out.trans (ho.below HBW.out HKW0.out.size)).trans (hos.below HMW.out (HKW0.out.trans (ho.below HBW.out HKW0.out.size)).size))
  have HE1 := Lib.hid hM1
  clear ec ef hbk ho hos hr hM1 wx HBK0 HR0 HB40 HKW0
  generalize y1.setCell ⟨gm, 0, none⟩ (.int .i64 (gq l 0 1)) = z1 at *
  have bx := gq1 HBY.out 1
  have wx : IntKind.i64.wrap (gq l 1 1) = gq l 1 1 := IntWalk.i64_in _ (by omega)
  clear bx
  go_upto_region 7 with (go_at_call 60; refine (ogetq b g l 1 1 sz1 _ HR1.out HL.out HBY.out).mono ?_; rintro e y2 ⟨rfl, hr, ho⟩; have hbk := HBK1.out.only ho HNE.out; have ec : y2.cell? ⟨gm, 1, none⟩ = some (.int .i64 M1.hub) := hbk.cell 1; have ef := hbk.frozen 1)
  have hos := Only.set (b := gm) y2 1 (.int .i64 (gq l 1 1))
  obtain ⟨M2, hM2⟩ : ∃ m, m = { M1 with hub := gq l 1 1 } := ⟨_, rfl⟩
  have HBK2 : Hid (Blk (y2.setCell ⟨gm, 1, none⟩ (.int .i64 (gq l 1 1))) gm 34 (mcs M2 (.slice none 0 0) (.slice none 0 0) (.slice none 0 0)).toArray) := Lib.hid (by rw [hM2]; exact hbk.set_ 1 _)
  have HR2 : Hid (OrQ (y2.setCell ⟨gm, 1, none⟩ (.int .i64 (gq l 1 1))) b g l 2) := Lib.hid (hr.only hos HBN.out HGM.out)
  have HB42 := Lib.hid ((HB41.out.only ho HB4B.out).only hos HG4N.out)
  have HKW2 := Lib.hid ((HKW1.out.trans (ho.below HBW.out HKW1.out.size)).trans (hos.below HMW.out (HKW1.out.trans (ho.below HBW.out HKW1.out.size)).size))
  have HE2 := Lib.hid hM2
  clear ec ef hbk ho hos hr hM2 wx HBK1 HR1 HB41 HKW1
  generalize y2.setCell ⟨gm, 1, none⟩ (.int .i64 (gq l 1 1)) = z2 at *
  have bx := gq1 HBY.out 2
  have wx : IntKind.i64.wrap (gq l 2 1) = gq l 2 1 := IntWalk.i64_in _ (by omega)
  clear bx
  go_upto_region 8 with (go_at_call 60; refine (ogetq b g l 2 1 sz1 _ HR2.out HL.out HBY.out).mono ?_; rintro e y3 ⟨rfl, hr, ho⟩; have hbk := HBK2.out.only ho HNE.out; have ec : y3.cell? ⟨gm, 3, none⟩ = some (.int .i64 M2.client) := hbk.cell 3; have ef := hbk.frozen 3)
  have hos := Only.set (b := gm) y3 3 (.int .i64 (gq l 2 1))
  obtain ⟨M3, hM3⟩ : ∃ m, m = { M2 with client := gq l 2 1 } := ⟨_, rfl⟩
  have HBK3 : Hid (Blk (y3.setCell ⟨gm, 3, none⟩ (.int .i64 (gq l 2 1))) gm 34 (mcs M3 (.slice none 0 0) (.slice none 0 0) (.slice none 0 0)).toArray) := Lib.hid (by rw [hM3]; exact hbk.set_ 3 _)
  have HR3 : Hid (OrQ (y3.setCell ⟨gm, 3, none⟩ (.int .i64 (gq l 2 1))) b g l 3) := Lib.hid (hr.only hos HBN.out HGM.out)
  have HB43 := Lib.hid ((HB42.out.only ho HB4B.out).only hos HG4N.out)
  have HKW3 := Lib.hid ((HKW2.out.trans (ho.below HBW.out HKW2.out.size)).trans (hos.below HMW.out (HKW2.out.trans (ho.below HBW.out HKW2.out.size)).size))
  have HE3 := Lib.hid hM3
  clear ec ef hbk ho hos hr hM3 wx HBK2 HR2 HB42 HKW2
  generalize y3.setCell ⟨gm, 3, none⟩ (.int .i64 (gq l 2 1)) = z3 at *
  have bx := gq2 HBY.out 3
  have wx : IntKind.i64.wrap (gq l 3 2) = gq l 3 2 := IntWalk.i64_in _ (by omega)
  clear bx
  go_upto_region 9 with (go_at_call 60; refine (ogetq b g l 3 2 sz2 _ HR3.out HL.out HBY.out).mono ?_; rintro e y4 ⟨rfl, hr, ho⟩; have hbk := HBK3.out.only ho HNE.out; have ec : y4.cell? ⟨gm, 4, none⟩ = some (.int .i64 M3.op) := hbk.cell 4; have ef := hbk.frozen 4)
  have hos := Only.set (b := gm) y4 4 (.int .i64 (gq l 3 2))
  obtain ⟨M4, hM4⟩ : ∃ m, m = { M3 with op := gq l 3 2 } := ⟨_, rfl⟩
  have HBK4 : Hid (Blk (y4.setCell ⟨gm, 4, none⟩ (.int .i64 (gq l 3 2))) gm 34 (mcs M4 (.slice none 0 0) (.slice none 0 0) (.slice none 0 0)).toArray) := Lib.hid (by rw [hM4]; exact hbk.set_ 4 _)
  have HR4 : Hid (OrQ (y4.setCell ⟨gm, 4, none⟩ (.int .i64 (gq l 3 2))) b g l 5) := Lib.hid (hr.only hos HBN.out HGM.out)
  have HB44 := Lib.hid ((HB43.out.only ho HB4B.out).only hos HG4N.out)
  have HKW4 := Lib.hid ((HKW3.out.trans (ho.below HBW.out HKW3.out.size)).trans (hos.below HMW.out (HKW3.out.trans (ho.below HBW.out HKW3.out.size)).size))
  have HE4 := Lib.hid hM4
  clear ec ef hbk ho hos hr hM4 wx HBK3 HR3 HB43 HKW3
  generalize y4.setCell ⟨gm, 4, none⟩ (.int .i64 (gq l 3 2)) = z4 at *
  have bx := gq4 HBY.out 5
  have wx : IntKind.u32.wrap (gq l 5 4) = gq l 5 4 := IntWalk.u32_in _ (by omega)
  clear bx
  go_upto_region 10 with (go_at_call 60; refine (ogetq b g l 5 4 sz4' _ HR4.out HL.out HBY.out).mono ?_; rintro e y5 ⟨rfl, hr, ho⟩; have hbk := HBK4.out.only ho HNE.out; have ec : y5.cell? ⟨gm, 2, none⟩ = some (.int .u32 M4.point) := hbk.cell 2; have ef := hbk.frozen 2)
  have hos := Only.set (b := gm) y5 2 (.int .u32 (gq l 5 4))
  obtain ⟨M5, hM5⟩ : ∃ m, m = { M4 with point := gq l 5 4 } := ⟨_, rfl⟩
  have HBK5 : Hid (Blk (y5.setCell ⟨gm, 2, none⟩ (.int .u32 (gq l 5 4))) gm 34 (mcs M5 (.slice none 0 0) (.slice none 0 0) (.slice none 0 0)).toArray) := Lib.hid (by rw [hM5]; exact hbk.set_ 2 _)
  have HR5 : Hid (OrQ (y5.setCell ⟨gm, 2, none⟩ (.int .u32 (gq l 5 4))) b g l 9) := Lib.hid (hr.only hos HBN.out HGM.out)
  have HB45 := Lib.hid ((HB44.out.only ho HB4B.out).only hos HG4N.out)
  have HKW5 := Lib.hid ((HKW4.out.trans (ho.below HBW.out HKW4.out.size)).trans (hos.below HMW.out (HKW4.out.trans (ho.below HBW.out HKW4.out.size)).size))
  have HE5 := Lib.hid hM5
  clear ec ef hbk ho hos hr hM5 wx HBK4 HR4 HB44 HKW4
  generalize y5.setCell ⟨gm, 2, none⟩ (.int .u32 (gq l 5 4)) = z5 at *
  have HH : Hid (M5 = headQ l) := Lib.hid (by rw [HE5.out, HE4.out, HE3.out, HE2.out, HE1.out, HE0.out]; rfl)
  rw [HH.out] at HBK5
  have c0 : z5.cell? ⟨gm, 0, none⟩ = some (.int .i64 (gq l 0 1)) := HBK5.out.cell 0
  go_upto_region 11 with (first | (go_at_call 40; refine (oparts_any (gq l 0 1) _).mono ?_; rintro e w6 ⟨rfl, hk6⟩) | (refine wpList_store_row rfl 84 (.tmp 8) (.tmp 40) rfl w6.heap.size (pcs (prt (gq l 0 1))).toArray rfl rfl 84 _ (heap_alloc_new w6 _) parts_info rfl (pcs_one _) ?_))
  (try rw [World.setRow_alloc_new])
  have hX7 : Below w6.heap.size w6 (w6.alloc (.cells (pcs (prt (gq l 0 1))).toArray 84)) := more (Below.refl _ _) _
  have HP := Lib.hid (Blk.new w6 84 (pcs (prt (gq l 0 1))).toArray)
  have HBK6 := Lib.hid (HBK5.out.keep (nest hk6 hX7))
  have HR6 := Lib.hid (HR5.out.keep (nest hk6 hX7))
  have HB46 := Lib.hid (HB45.out.keep (nest hk6 hX7))
  have HKW6 := Lib.hid (nest HKW5.out (nest hk6 hX7))
  have HGS : Hid (∀ k, g = some k → k < w6.heap.size) := Lib.hid (fun k hk => by have := (HGK2.out k hk).2; have := HBK5.out.lt; have := hk6.size; omega)
  clear hk6 hX7 c0 HBK5 HR5 HB45 HKW5
  have HGT : Hid (∀ k, g = some k → k < (w6.alloc (.cells (pcs (prt (gq l 0 1))).toArray 84)).heap.size) := Lib.hid (fun k hk => by have := HGS.out k hk; rw [size_alloc]; omega)
  generalize w6.alloc (.cells (pcs (prt (gq l 0 1))).toArray 84) = z7 at *
  obtain ⟨gp, hgp⟩ : ∃ gp, gp = w6.heap.size := ⟨_, rfl⟩
  rw [← hgp] at HP ⊢
  clear hgp
  by_cases hk : 1 ≤ gq l 0 1 ∧ gq l 0 1 ≤ 6
  case neg =>
    have hik : isK (gq l 0 1) = false := decide_eq_false hk
    rw [hik]
    have HK := Lib.hid hk
    clear hk hik
    go_upto_if 99 with (refine wpList_store_row rfl 34 (.tmp 4) (.tmp 44) rfl g4 zcs.toArray rfl rfl 34 _ HB46.out msg_info rfl zcs_one ?_)
    refine bodyPost_ret (results_blk_tmp (l := zcs) rfl Try.underlying34 msg_info rfl rfl (Blk.row HB46.out _)) rfl ?_
    exact ⟨zeroM, _, _, _, 4, by rw [zcs_eq]; rfl, pa_zero _ _, zero_b, HKW6.out.trans ((Only.row z7 _).below (by have := HG4.out; omega) HKW6.out.size), by rw [if_neg HK.out], fun h => absurd h (by decide)⟩
  have hik : isK (gq l 0 1) = true := decide_eq_true hk
  rw [hik]
  have HK := Lib.hid hk
  clear hk hik
  have HGP : Hid (Calls Try.prog 61 #[.int .i64 a, .pointer (some ⟨b, 0, none⟩), .pointer (some ⟨gm, 0, none⟩), .agg (pcs (prt (gq l 0 1))).toArray] z7 (PartsIn b g l a gm (headQ l) z7)) := Lib.hid (ogetparts_any b g l a gm (headQ l) z7 HK.out (headQ_ok HBY.out) HBK6.out HR6.out (fun k hk => ⟨HGT.out k hk, by have := (HGK2.out k hk).2; omega⟩) HNE.out HL.out HBY.out HAA.out)
  go_upto_region 14 with (first | (refine wpList_load_row rfl 84 (.tmp 8) rfl gp rfl 84 _ (0, 0) _ HP.out Try.underlying84 rfl parts_info ?_) | (go_at_call 61; refine HGP.out.mono ?_; rintro e z8 ⟨⟨u8, rfl⟩, m, v', b', r', hbm, hpa, hmb, heq, hr8, ho8⟩))
  have HBM8 := Lib.hid hbm
  have HPA := Lib.hid hpa
  have HMB := Lib.hid hmb
  have HEQ := Lib.hid heq
  have HR8 := Lib.hid hr8
  have HB48 := Lib.hid (ho8.blk HB46.out HB4B.out HG4N.out)
  have HKW8 := Lib.hid (HKW6.out.trans (ho8.below HBW.out HMW.out HKW6.out.size))
  have HS7 := Lib.hid HKW6.out.size
  have HG47 : Hid (g4 < z7.heap.size) := Lib.hid HB46.out.lt
  clear hbm hpa hmb heq hr8 ho8 HGP HBK6 HR6 HB46 HKW6 HP
  have hD : Below z8.heap.size z8 z8.drew := (Below.refl _ _).drew
  refine Run.region_walk (S := fun z => Blk z gm 34 (mcs m v' b' r').toArray ∧ OrQ z b g l (lenQ a l (headQ l).kind))
    omread.rows14 omread.plan14 (l := ?steps1) (by kernel_rfl) (by kernel_rfl) (by kernel_rfl) (by kernel_rfl) ?written1 ⟨HBM8.out.keep hD, HR8.out.keep hD⟩ ?onward1
  case written1 =>
    simp only [omread.plan14, Run.stepsOf, Run.stepOf, Run.guardOf, List.getElem?_toArray, List.getElem?_cons_zero, List.getElem?_cons_succ, Option.map_some, Option.map_none, Option.bind_some, Option.toList_some, List.map_cons, List.map_nil, List.cons_append, List.nil_append]
    rfl
  repeat ((first
    | (refine Run.takes (v := ?_) ?_ ?_; rotate_left; (· intro w' hS'; (first | (refine exec_load_blk (n := 18) (x := .tmp 7) (l := mcs m v' b' r') ?_ Try.underlying34 msg_info ?_ ?_ hS'.1 <;> rfl) | (go_simp; (try with_reducible rfl)))))
    | (refine Run.takesG (v := ?_) ?_ ?_ ?_; rotate_left; (· simp only [List.getElem?_cons_zero, List.getElem?_cons_succ]); (· intro w' hS'; (first | (refine exec_load_blk (n := 18) (x := .tmp 7) (l := mcs m v' b' r') ?_ Try.underlying34 msg_info ?_ ?_ hS'.1 <;> rfl) | (go_simp; (try with_reducible rfl)))))
    | (refine Run.skipsT ?_ ?_; (· simp only [List.getElem?_cons_zero, List.getElem?_cons_succ]))
    | (refine Run.skipsF ?_ ?_; (· simp only [List.getElem?_cons_zero, List.getElem?_cons_succ]))
    | (refine Run.skipsU ?_ ?_; (· simp only [List.getElem?_cons_zero, List.getElem?_cons_succ]))
    | (refine Run.passT ?_ ?_; (· simp only [List.getElem?_cons_zero, List.getElem?_cons_succ]))
    | (refine Run.passF ?_ ?_; (· simp only [List.getElem?_cons_zero, List.getElem?_cons_succ]))
    | (refine Run.passU ?_ ?_; (· simp only [List.getElem?_cons_zero, List.getElem?_cons_succ]))
    | fail); simp only [Act.put, List.setIfInBounds_toArray, List.set_cons_zero, List.set_cons_succ])
  refine Run.runsS (Run.callF 62 (by kernel_rfl) (fun hS => oerrq b g l (lenQ a l (headQ l).kind) _ hS.2) rfl ?_)
  rintro hS e x9 ⟨rfl, hx9⟩
  have HB49 := Lib.hid ((HB48.out.keep hD).keep hx9)
  have HPA9 := Lib.hid ((HPA.out.keep hD).keep hx9)
  have HBM9 := Lib.hid (hS.1.keep hx9)
  have HR9 := Lib.hid (hS.2.keep hx9)
  have HKW9 := Lib.hid (nest (nest HKW8.out hD) hx9)
  refine ⟨_, rfl, ⟨HBM9.out, HR9.out⟩, fun _ => ⟨fun z => Blk z gm 34 (mcs m v' b' r').toArray ∧ OrQ z b g l (lenQ a l (headQ l).kind), fun z h => h, ⟨HBM9.out, HR9.out⟩, ?_⟩⟩
  clear hS hx9 hD
  try simp only [Act.put, List.setIfInBounds_toArray, List.set_cons_zero, List.set_cons_succ]
  repeat ((first
    | (refine Run.takes (v := ?_) ?_ ?_; rotate_left; (· intro w' hS'; go_simp; (try with_reducible rfl)))
    | (refine Run.takesG (v := ?_) ?_ ?_ ?_; rotate_left; (· simp only [List.getElem?_cons_zero, List.getElem?_cons_succ]); (· intro w' hS'; go_simp; (try with_reducible rfl)))
    | (refine Run.skipsT ?_ ?_; (· simp only [List.getElem?_cons_zero, List.getElem?_cons_succ]))
    | (refine Run.skipsF ?_ ?_; (· simp only [List.getElem?_cons_zero, List.getElem?_cons_succ]))
    | (refine Run.skipsU ?_ ?_; (· simp only [List.getElem?_cons_zero, List.getElem?_cons_succ]))
    | (refine Run.passT ?_ ?_; (· simp only [List.getElem?_cons_zero, List.getElem?_cons_succ]))
    | (refine Run.passF ?_ ?_; (· simp only [List.getElem?_cons_zero, List.getElem?_cons_succ]))
    | (refine Run.passU ?_ ?_; (· simp only [List.getElem?_cons_zero, List.getElem?_cons_succ]))
    | fail); simp only [Act.put, List.setIfInBounds_toArray, List.set_cons_zero, List.set_cons_succ])
  refine Run.runs (Run.one (fun hS K1 hK1 => ?_))
  refine wp_store_row 34 (.tmp 4) (.tmp 49) rfl g4 (mcs m v' b' r').toArray rfl rfl 34 _ HB49.out msg_info rfl (mcs_one (HPA9.out.rd HMB.out)) ?_
  have HG44 : Hid (g ≠ some g4) := Lib.hid (fun e => by have := (HGK2.out g4 e).1; omega)
  refine hK1.out _ _ ⟨HBM9.out.only (Only.row x9 _) (fun e => HG4N.out e.symm), HR9.out.only (Only.row x9 _) (fun e => HB4B.out e.symm) HG44.out⟩ ?_
  clear hS K1 hK1
  try simp only [Act.put, List.setIfInBounds_toArray, List.set_cons_zero, List.set_cons_succ]
  repeat ((first
    | (refine Run.takes (v := ?_) ?_ ?_; rotate_left; (· intro w' hS'; go_simp; (try with_reducible rfl)))
    | (refine Run.takesG (v := ?_) ?_ ?_ ?_; rotate_left; (· simp only [List.getElem?_cons_zero, List.getElem?_cons_succ]); (· intro w' hS'; go_simp; (try with_reducible rfl)))
    | (refine Run.skipsT ?_ ?_; (· simp only [List.getElem?_cons_zero, List.getElem?_cons_succ]))
    | (refine Run.skipsF ?_ ?_; (· simp only [List.getElem?_cons_zero, List.getElem?_cons_succ]))
    | (refine Run.skipsU ?_ ?_; (· simp only [List.getElem?_cons_zero, List.getElem?_cons_succ]))
    | (refine Run.passT ?_ ?_; (· simp only [List.getElem?_cons_zero, List.getElem?_cons_succ]))
    | (refine Run.passF ?_ ?_; (· simp only [List.getElem?_cons_zero, List.getElem?_cons_succ]))
    | (refine Run.passU ?_ ?_; (· simp only [List.getElem?_cons_zero, List.getElem?_cons_succ]))
    | fail); simp only [Act.put, List.setIfInBounds_toArray, List.set_cons_zero, List.set_cons_succ])
  refine Run.ends (fun _ => ?_)
  go_wp2_with fail
  refine bodyPost_ret (results_blk_tmp (l := mcs m v' b' r') rfl Try.underlying34 msg_info rfl rfl (Blk.row HB49.out _)) rfl ?_
  have HPZ : PA w.heap.size (x9.setRow g4 (mcs m v' b' r').toArray) m v' b' r' := (pa_mono (HPA9.out.only (Only.row x9 _) HG47.out) HS7.out)
  exact ⟨m, v', b', r', _, rfl, HPZ, HMB.out, HKW9.out.trans ((Only.row x9 _).below (by have := HG4.out; omega) HKW9.out.size), by rw [if_pos HK.out]; rfl, fun h0 => HEQ.out (by unfold errQ at h0; by_cases hh : lenQ a l (headQ l).kind ≤ l.length; exact hh; rw [if_neg hh] at h0; exact absurd h0 (by decide))⟩
end Go.Proofs.Ythhelhhlofdehaa
