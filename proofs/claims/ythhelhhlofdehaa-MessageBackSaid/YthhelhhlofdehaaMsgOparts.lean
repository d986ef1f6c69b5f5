/- Package message: getParts (written by genmsgget.py). -/
import Derived.Test.YthhelhhlofdehaaMsgOent
import Derived.Test.YthhelhhlofdehaaMsgObox
import Derived.Test.YthhelhhlofdehaaMsgOrecs
import Derived.Deep.MidRow
set_option maxRecDepth 4000
namespace Go.Proofs.Ythhelhhlofdehaa
open Go.RowKit Mem
set_option linter.unusedSimpArgs false
set_option linter.unusedVariables false
attribute [local irreducible] Go.Calls

/-- only these two blocks have turned -/
def Only2 (b d : Nat) (w w' : World) : Prop := w'.os = w.os ∧ w'.tape = w.tape ∧ w'.output = w.output ∧ w.heap.size ≤ w'.heap.size ∧ ∀ k, k < w.heap.size → k ≠ b → k ≠ d → w'.heap[k]? = w.heap[k]?
theorem Only2.of1 {b d : Nat} {w w' : World} (h : Only b w w') : Only2 b d w w' := ⟨h.os, h.tape, h.output, h.size, fun k hk h1 _ => h.block k hk (by intro e; injection e; contradiction)⟩
theorem Only2.of2 {b d : Nat} {w w' : World} (h : Only d w w') : Only2 b d w w' := ⟨h.os, h.tape, h.output, h.size, fun k hk _ h1 => h.block k hk (by intro e; injection e; contradiction)⟩
theorem Only2.trans {b d : Nat} {x y z : World} (h : Only2 b d x y) (k : Only2 b d y z) : Only2 b d x z :=
  ⟨k.1.trans h.1, k.2.1.trans h.2.1, k.2.2.1.trans h.2.2.1, Nat.le_trans h.2.2.2.1 k.2.2.2.1, fun i hi h1 h2 => (k.2.2.2.2 i (Nat.lt_of_lt_of_le hi h.2.2.2.1) h1 h2).trans (h.2.2.2.2 i hi h1 h2)⟩
theorem Only2.size {b d : Nat} {w w' : World} (h : Only2 b d w w') : w.heap.size ≤ w'.heap.size := h.2.2.2.1
theorem Only2.blk {b d : Nat} {w w' : World} {g : Nat} {t : TypeId} {cs : Array Value} (h : Only2 b d w w') (hB : Blk w g t cs) (h1 : g ≠ b) (h2 : g ≠ d) : Blk w' g t cs := (h.2.2.2.2 g hB.lt h1 h2).trans hB
theorem Only2.below {b d B : Nat} {w w' : World} (h : Only2 b d w w') (hb : B ≤ b) (hd : B ≤ d) (hB : B ≤ w.heap.size) : Below B w w' := ⟨h.1, h.2.1, h.2.2.1, h.2.2.2.1, fun k hk => h.2.2.2.2 k (by omega) (by omega) (by omega)⟩
/-- a message whose slices are one's own -/
structure PA (B : Nat) (w : World) (m : Msg) (v b r : Value) : Prop where
  vals : Row (intE .u32) 22 B w v m.vals
  box : Row rngE 65 B w b m.box
  recs : RecsAt B w r m.recs
theorem PA.keep {B : Nat} {w w' : World} {m : Msg} {v b r : Value} (h : PA B w m v b r) (k : Below w.heap.size w w') : PA B w' m v b r := ⟨h.vals.keep k, h.box.keep k, h.recs.keep k⟩
theorem PA.only {B d : Nat} {w w' : World} {m : Msg} {v b r : Value} (h : PA B w m v b r) (k : Only d w w') (hd : d < B) : PA B w' m v b r :=
  ⟨h.vals.only k (fun e => by have := (h.vals.block d e).1; omega), h.box.only k (fun e => by have := (h.box.block d e).1; omega), h.recs.only k hd⟩
theorem recsAt_nil (B : Nat) (w : World) : RecsAt B w (.slice none 0 0) [] := ⟨[], Row.nil, rfl, fun i x y hx _ => by simp at hx⟩
/-- the entry that is read -/
def entQ (a : Nat) (l : List Int) (m : Msg) : Msg := { m with ev := evQ l 9 a m.hub, target := evQ l 9 a m.hub, eid := gq l 10 8, ever := gq l 18 8, vals := valQ l 26 a, gone := (gq l 9 1 == 1) }
/-- the message that is read: m is its head -/
def msgK (a : Nat) (l : List Int) (m : Msg) : Msg :=
  if m.kind = 1 then { entQ a l m with hops := gq l (26 + 4 * a) 1 } else if m.kind = 2 ∨ m.kind = 3 then { entQ a l m with owner := gq l (26 + 4 * a) 4, turn := gq l (26 + 4 * a + 4) 4 } else if m.kind = 4 then entQ a l m
  else if m.kind = 5 then { m with hops := gq l 9 1, sf := gq l 10 4, st := gq l 14 4, box := boxQ l 19 (gq l 18 1).toNat } else { m with sf := gq l 9 4, st := gq l 13 4, recs := recsQ l 19 a (gq l 17 2).toNat }
/-- how many bytes a message of that kind has -/
def lenQ (a : Nat) (l : List Int) (k : Int) : Nat :=
  if k = 1 then 27 + 4 * a else if k = 2 ∨ k = 3 then 34 + 4 * a else if k = 4 then 26 + 4 * a else if k = 5 then 19 + 9 * (gq l 18 1).toNat else 19 + (16 + 4 * a) * (gq l 17 2).toNat
/-- what getParts leaves -/
def PartsIn (b : Nat) (g : Option Nat) (l : List Int) (a gm : Nat) (m0 : Msg) (w : World) (e : Ending) (w' : World) : Prop :=
  (∃ u, e = .returned u) ∧ ∃ m v' b' r', Blk w' gm 34 (mcs m v' b' r').toArray ∧ PA w.heap.size w' m v' b' r' ∧ MB m ∧ (lenQ a l m0.kind ≤ l.length → m = msgK a l m0) ∧ OrQ w' b g l (lenQ a l m0.kind) ∧ Only2 b gm w w'
theorem evQ_bd {l : List Int} (h : Byt l) (q a : Nat) (hub : Int) : u32B (evQ l q a hub) := by
  unfold evQ
  split
  · by_cases hk : hub.toNat < (valQ l (q + 1 + 16) a).length
    · exact valQ_bd h _ _ _ (by rw [show (valQ l (q + 1 + 16) a).getD hub.toNat 0 = (valQ l (q + 1 + 16) a)[hub.toNat] by simp [List.getD, hk]]; exact List.getElem_mem hk)
    · have e : (valQ l (q + 1 + 16) a).getD hub.toNat 0 = 0 := by simp [List.getD, List.getElem?_eq_none (Nat.le_of_not_lt hk)]
      rw [e]
      simp [u32B]
  · simp [u32B]
/-- the head that is read: nothing else is there -/
structure HeadM (m : Msg) : Prop where
  vals : m.vals = []
  box : m.box = []
  recs : m.recs = []
  bd : MB m
  hub : 0 ≤ m.hub
theorem there_blk {w : World} {g : Nat} {t : TypeId} {cs : Array Value} (h : Blk w g t cs) (o n : Nat) (hn : o + n ≤ cs.size) : w.there g o n := fun j hj => ⟨by rw [h.cell, Array.getElem?_eq_getElem (by omega)]; rfl, h.frozen _⟩
theorem i64_of1 {l : List Int} (h : Byt l) (q : Nat) : i64B (gq l q 1) := by have := gq1 h q; unfold i64B; omega
theorem i64_of4 {l : List Int} (h : Byt l) (q : Nat) : i64B (gq l q 4) := by have := gq4 h q; unfold i64B; omega
theorem RecR.mono {B B' : Nat} {w : World} {x : Raw recordK.size} {y : Int × Int × List Int} (h : RecR B' w x y) (hB : B ≤ B') : RecR B w x y := by
  obtain ⟨v, h1, h2⟩ := h
  exact ⟨v, h1, h2.mono hB⟩
set_option maxRecDepth 100000 in
set_option maxHeartbeats 4000000 in
theorem oget1_any (b : Nat) (g : Option Nat) (l : List Int) (a gm : Nat) (m0 : Msg) (w : World) (hq : m0.kind = 1) (hm : HeadM m0) (hB : Blk w gm 34 (mcs m0 (.slice none 0 0) (.slice none 0 0) (.slice none 0 0)).toArray) (h : OrQ w b g l 9) (hg : ∀ k, g = some k → k < w.heap.size ∧ k ≠ gm) (hne : gm ≠ b) (hl : l.length ≤ 1000000) (hb : Byt l) (ha : 1 ≤ a ∧ a ≤ 8) :
    Calls Try.prog 61 #[.int .i64 a, .pointer (some ⟨b, 0, none⟩), .pointer (some ⟨gm, 0, none⟩), .agg (pcs ⟨true, true, false, true, false, false, false⟩).toArray] w (PartsIn b g l a gm m0 w) := by
  have hk0 : Below w.heap.size w (w.alloc (.cells (pcs ⟨true, true, false, true, false, false, false⟩).toArray 84)) := more (Below.refl _ _) _
  have HPK := Lib.hid (Blk.newAt w 84 (pcs ⟨true, true, false, true, false, false, false⟩).toArray rfl)
  have HBK := Lib.hid (hB.keep hk0)
  have HR0 := Lib.hid (h.keep hk0)
  have HO0 : Hid (Only2 b gm w (w.alloc (.cells (pcs ⟨true, true, false, true, false, false, false⟩).toArray 84))) := Lib.hid (Only2.of1 (Only.of_below (b := b) hk0))
  have HBY := Lib.hid hb
  have HL := Lib.hid hl
  have HAA := Lib.hid ha
  have HGK : Hid (∀ k, g = some k → k < w.heap.size) := Lib.hid (fun k hk => (hg k hk).1)
  have HGM : Hid (g ≠ some gm) := Lib.hid (fun e => (hg gm e).2 rfl)
  have HNE := Lib.hid hne
  have HBM : Hid (b ≠ gm) := Lib.hid (fun e => hne e.symm)
  have HBL : Hid (b < w.heap.size) := Lib.hid h.lt
  have HML : Hid (gm < w.heap.size) := Lib.hid hB.lt
  have HQ := Lib.hid hq
  have HM := Lib.hid hm
  have HPA0 : Hid (PA w.heap.size (w.alloc (.cells (pcs ⟨true, true, false, true, false, false, false⟩).toArray 84)) m0 (.slice none 0 0) (.slice none 0 0) (.slice none 0 0)) := Lib.hid ⟨by rw [hm.vals]; exact Row.nil, by rw [hm.box]; exact Row.nil, by rw [hm.recs]; exact recsAt_nil _ _⟩
  obtain ⟨M0, hM0⟩ : ∃ M0, M0 = m0 := ⟨_, rfl⟩
  have HE0 := Lib.hid hM0
  rw [← hM0] at HBK HPA0
  have HPN : Hid (w.heap.size ≠ b ∧ w.heap.size ≠ gm) := Lib.hid ⟨by have := h.lt; omega, by have := hB.lt; omega⟩
  clear hk0 hB h hb hl ha hg hne hq hm hM0
  go_enter Try.func61, Try.ntmps61
  go_upto_region 1 with fail
  generalize w.alloc (.cells (pcs ⟨true, true, false, true, false, false, false⟩).toArray 84) = z0 at *
  obtain ⟨gp, hgp⟩ : ∃ gp, gp = w.heap.size := ⟨_, rfl⟩
  rw [← hgp] at HPK HPN ⊢
  clear hgp
  have p1 : z0.cell? ⟨gp, 1, none⟩ = some (.bool true) := HPK.out.cell 1
  have p2 : z0.cell? ⟨gp, 2, none⟩ = some (.bool false) := HPK.out.cell 2
  have p3 : z0.cell? ⟨gp, 3, none⟩ = some (.bool true) := HPK.out.cell 3
  have p4 : z0.cell? ⟨gp, 4, none⟩ = some (.bool false) := HPK.out.cell 4
  have p5 : z0.cell? ⟨gp, 5, none⟩ = some (.bool false) := HPK.out.cell 5
  have p6 : z0.cell? ⟨gp, 6, none⟩ = some (.bool false) := HPK.out.cell 6
  have c1 : z0.cell? ⟨gm, 1, none⟩ = some (.int .i64 M0.hub) := HBK.out.cell 1
  have HHUB : Hid (0 ≤ M0.hub) := Lib.hid (by rw [HE0.out]; exact HM.out.hub)
  have HGL : Hid (∀ k, g = some k → k < z0.heap.size) := Lib.hid (fun k hk => by have := HGK.out k hk; have := HO0.out.size; omega)
  go_upto_region 3 with (first | (go_at_call 76; refine (ogetent_any b g l 9 a M0.hub _ HR0.out HGL.out HL.out HBY.out HAA.out HHUB.out).mono ?_; rintro e y1 ⟨xv, rfl, hrow, hr, ho⟩; have HROW := Lib.hid (hrow.mono HO0.out.size); obtain ⟨av, cv, rfl, _, _⟩ := hrow.rd.form; have hbk := HBK.out.only ho HNE.out; clear hrow) | (refine wpList_store_mid rfl 28 (.tmp 19) (.tmp 17) rfl gm 9 #[.int .u32 (evQ l 9 a M0.hub), .int .u64 (gq l (9 + 1) 8), .int .u64 (gq l (9 + 1 + 8) 8), .slice av (valQ l (9 + 1 + 16) a).length cv, .bool (gq l 9 1 == 1)] rfl rfl (there_blk hbk 9 5 (by simp [mcs])) ent_info (by simp [Value.oneCell']) ?_))
  obtain ⟨ST, hST⟩ : ∃ S, S = y1.setCells gm 9 [.int .u32 (evQ l 9 a M0.hub), .int .u64 (gq l (9 + 1) 8), .int .u64 (gq l (9 + 1 + 8) 8), .slice av (valQ l (9 + 1 + 16) a).length cv, .bool (gq l 9 1 == 1)] := ⟨_, rfl⟩
  have hos : Only gm y1 ST := by rw [hST]; exact ((((Only.set _ 9 _).trans (Only.set _ 10 _)).trans (Only.set _ 11 _)).trans (Only.set _ 12 _)).trans (Only.set _ 13 _)
  obtain ⟨M1, hM1⟩ : ∃ m, m = { M0 with ev := evQ l 9 a M0.hub, eid := gq l (9 + 1) 8, ever := gq l (9 + 1 + 8) 8, vals := valQ l (9 + 1 + 16) a, gone := (gq l 9 1 == 1) } := ⟨_, rfl⟩
  have HBK : Hid (Blk ST gm 34 (mcs M1 (.slice av (valQ l (9 + 1 + 16) a).length cv) (.slice none 0 0) (.slice none 0 0)).toArray) := Lib.hid (by rw [hM1, hST]; exact ((((hbk.set_ 9 _).set_ 10 _).set_ 11 _).set_ 12 _).set_ 13 _)
  have HPK := Lib.hid ((HPK.out.only ho HPN.out.1).only hos HPN.out.2)
  have HR1 := Lib.hid (hr.only hos HBM.out HGM.out)
  have HO1 := Lib.hid (HO0.out.trans ((Only2.of1 ho).trans (Only2.of2 hos)))
  have HPA1 : Hid (PA w.heap.size ST M1 (.slice av (valQ l (9 + 1 + 16) a).length cv) (.slice none 0 0) (.slice none 0 0)) := Lib.hid ⟨by rw [hM1]; exact HROW.out.only hos (fun e => by have := (HROW.out.block gm e).1; have := HML.out; omega), by rw [hM1]; exact ((HPA0.out.only ho HBL.out).only hos HML.out).box, by rw [hM1]; exact ((HPA0.out.only ho HBL.out).only hos HML.out).recs⟩
  have HE1 := Lib.hid hM1
  (try rw [← hST])
  clear p1 p2 p3 p4 p5 p6 c1 hbk ho hos hr hM1 HROW
  (try clear hST)
  generalize ST = z1 at *
  have p1 : z1.cell? ⟨gp, 1, none⟩ = some (.bool true) := HPK.out.cell 1
  have p2 : z1.cell? ⟨gp, 2, none⟩ = some (.bool false) := HPK.out.cell 2
  have p3 : z1.cell? ⟨gp, 3, none⟩ = some (.bool true) := HPK.out.cell 3
  have p4 : z1.cell? ⟨gp, 4, none⟩ = some (.bool false) := HPK.out.cell 4
  have p5 : z1.cell? ⟨gp, 5, none⟩ = some (.bool false) := HPK.out.cell 5
  have p6 : z1.cell? ⟨gp, 6, none⟩ = some (.bool false) := HPK.out.cell 6
  have c9 : z1.cell? ⟨gm, 9, none⟩ = some (.int .u32 M1.ev) := HBK.out.cell 9
  have c5 : z1.cell? ⟨gm, 5, none⟩ = some (.int .u32 M1.target) := HBK.out.cell 5
  have f5 := HBK.out.frozen 5
  go_upto_region 4 with fail
  have hos := Only.set (b := gm) z1 5 (.int .u32 M1.ev)
  obtain ⟨M2, hM2⟩ : ∃ m, m = { M1 with target := M1.ev } := ⟨_, rfl⟩
  have HBK : Hid (Blk (z1.setCell ⟨gm, 5, none⟩ (.int .u32 M1.ev)) gm 34 (mcs M2 (.slice av (valQ l (9 + 1 + 16) a).length cv) (.slice none 0 0) (.slice none 0 0)).toArray) := Lib.hid (by rw [hM2]; exact HBK.out.set_ 5 _)
  have HPK := Lib.hid (HPK.out.only hos HPN.out.2)
  have HR2 := Lib.hid (HR1.out.only hos HBM.out HGM.out)
  have HO2 := Lib.hid (HO1.out.trans (Only2.of2 hos))
  have HPA2 : Hid (PA w.heap.size (z1.setCell ⟨gm, 5, none⟩ (.int .u32 M1.ev)) M2 (.slice av (valQ l (9 + 1 + 16) a).length cv) (.slice none 0 0) (.slice none 0 0)) := Lib.hid (by rw [hM2]; exact ⟨(HPA1.out.only hos HML.out).vals, (HPA1.out.only hos HML.out).box, (HPA1.out.only hos HML.out).recs⟩)
  have HE2 := Lib.hid hM2
  clear p1 p2 p3 p4 p5 p6 c9 c5 f5 hos hM2
  generalize z1.setCell ⟨gm, 5, none⟩ (.int .u32 M1.ev) = z2 at *
  have p1 : z2.cell? ⟨gp, 1, none⟩ = some (.bool true) := HPK.out.cell 1
  have p2 : z2.cell? ⟨gp, 2, none⟩ = some (.bool false) := HPK.out.cell 2
  have p3 : z2.cell? ⟨gp, 3, none⟩ = some (.bool true) := HPK.out.cell 3
  have p4 : z2.cell? ⟨gp, 4, none⟩ = some (.bool false) := HPK.out.cell 4
  have p5 : z2.cell? ⟨gp, 5, none⟩ = some (.bool false) := HPK.out.cell 5
  have p6 : z2.cell? ⟨gp, 6, none⟩ = some (.bool false) := HPK.out.cell 6
  have bx := gq1 HBY.out (9 + 1 + 16 + 4 * a)
  have wx : IntKind.i64.wrap (gq l (9 + 1 + 16 + 4 * a) 1) = gq l (9 + 1 + 16 + 4 * a) 1 := IntWalk.i64_in _ (by omega)
  clear bx
  go_upto_region 9 with (go_at_call 60; refine (ogetq b g l (9 + 1 + 16 + 4 * a) 1 sz1 _ HR2.out HL.out HBY.out).mono ?_; rintro e y3 ⟨rfl, hr, ho⟩; have hbk := HBK.out.only ho HNE.out; have ec : y3.cell? ⟨gm, 6, none⟩ = some (.int .i64 M2.hops) := hbk.cell 6; have ef := hbk.frozen 6)
  have hos := Only.set (b := gm) y3 6 (.int .i64 (gq l (9 + 1 + 16 + 4 * a) 1))
  obtain ⟨M3, hM3⟩ : ∃ m, m = { M2 with hops := gq l (9 + 1 + 16 + 4 * a) 1 } := ⟨_, rfl⟩
  have HBK : Hid (Blk (y3.setCell ⟨gm, 6, none⟩ (.int .i64 (gq l (9 + 1 + 16 + 4 * a) 1))) gm 34 (mcs M3 (.slice av (valQ l (9 + 1 + 16) a).length cv) (.slice none 0 0) (.slice none 0 0)).toArray) := Lib.hid (by rw [hM3]; exact hbk.set_ 6 _)
  have HPK := Lib.hid ((HPK.out.only ho HPN.out.1).only hos HPN.out.2)
  have HR3 := Lib.hid (hr.only hos HBM.out HGM.out)
  have HO3 := Lib.hid (HO2.out.trans ((Only2.of1 ho).trans (Only2.of2 hos)))
  have HPA3 : Hid (PA w.heap.size (y3.setCell ⟨gm, 6, none⟩ (.int .i64 (gq l (9 + 1 + 16 + 4 * a) 1))) M3 (.slice av (valQ l (9 + 1 + 16) a).length cv) (.slice none 0 0) (.slice none 0 0)) := Lib.hid (by rw [hM3]; exact ⟨((HPA2.out.only ho HBL.out).only hos HML.out).vals, ((HPA2.out.only ho HBL.out).only hos HML.out).box, ((HPA2.out.only ho HBL.out).only hos HML.out).recs⟩)
  have HE3 := Lib.hid hM3
  clear p1 p2 p3 p4 p5 p6 ec ef hbk ho hos hr hM3 wx
  generalize y3.setCell ⟨gm, 6, none⟩ (.int .i64 (gq l (9 + 1 + 16 + 4 * a) 1)) = z3 at *
  have p1 : z3.cell? ⟨gp, 1, none⟩ = some (.bool true) := HPK.out.cell 1
  have p2 : z3.cell? ⟨gp, 2, none⟩ = some (.bool false) := HPK.out.cell 2
  have p3 : z3.cell? ⟨gp, 3, none⟩ = some (.bool true) := HPK.out.cell 3
  have p4 : z3.cell? ⟨gp, 4, none⟩ = some (.bool false) := HPK.out.cell 4
  have p5 : z3.cell? ⟨gp, 5, none⟩ = some (.bool false) := HPK.out.cell 5
  have p6 : z3.cell? ⟨gp, 6, none⟩ = some (.bool false) := HPK.out.cell 6
  go_wp2_with fail
  go_end0
  have HLQ : lenQ a l m0.kind = 9 + 1 + 16 + 4 * a + 1 := by
    unfold lenQ
    rw [if_pos HQ.out]
    all_goals omega
  have hbd := HM.out.bd
  have HMB : MB M3 := by
    rw [HE3.out, HE2.out, HE1.out, HE0.out]
    exact ⟨hbd.kind, hbd.hub, hbd.point, hbd.client, hbd.op, evQ_bd HBY.out _ _ _, i64_of1 HBY.out _, hbd.owner, hbd.turn, evQ_bd HBY.out _ _ _, gq8 HBY.out _, gq8 HBY.out _, valQ_bd HBY.out _ _, hbd.sf, hbd.st, hbd.box, hbd.recs⟩
  refine ⟨⟨_, rfl⟩, M3, _, _, _, HBK.out, HPA3.out, HMB, fun hle => ?_, by rw [HLQ]; exact HR3.out, HO3.out⟩
  rw [HE3.out, HE2.out, HE1.out, HE0.out]
  unfold msgK entQ
  rw [if_pos HQ.out]
set_option maxRecDepth 100000 in
set_option maxHeartbeats 4000000 in
theorem oget2_any (b : Nat) (g : Option Nat) (l : List Int) (a gm : Nat) (m0 : Msg) (w : World) (hq : m0.kind = 2) (hm : HeadM m0) (hB : Blk w gm 34 (mcs m0 (.slice none 0 0) (.slice none 0 0) (.slice none 0 0)).toArray) (h : OrQ w b g l 9) (hg : ∀ k, g = some k → k < w.heap.size ∧ k ≠ gm) (hne : gm ≠ b) (hl : l.length ≤ 1000000) (hb : Byt l) (ha : 1 ≤ a ∧ a ≤ 8) :
    Calls Try.prog 61 #[.int .i64 a, .pointer (some ⟨b, 0, none⟩), .pointer (some ⟨gm, 0, none⟩), .agg (pcs ⟨true, true, true, false, false, false, false⟩).toArray] w (PartsIn b g l a gm m0 w) := by
  have hk0 : Below w.heap.size w (w.alloc (.cells (pcs ⟨true, true, true, false, false, false, false⟩).toArray 84)) := more (Below.refl _ _) _
  have HPK := Lib.hid (Blk.newAt w 84 (pcs ⟨true, true, true, false, false, false, false⟩).toArray rfl)
  have HBK := Lib.hid (hB.keep hk0)
  have HR0 := Lib.hid (h.keep hk0)
  have HO0 : Hid (Only2 b gm w (w.alloc (.cells (pcs ⟨true, true, true, false, false, false, false⟩).toArray 84))) := Lib.hid (Only2.of1 (Only.of_below (b := b) hk0))
  have HBY := Lib.hid hb
  have HL := Lib.hid hl
  have HAA := Lib.hid ha
  have HGK : Hid (∀ k, g = some k → k < w.heap.size) := Lib.hid (fun k hk => (hg k hk).1)
  have HGM : Hid (g ≠ some gm) := Lib.hid (fun e => (hg gm e).2 rfl)
  have HNE := Lib.hid hne
  have HBM : Hid (b ≠ gm) := Lib.hid (fun e => hne e.symm)
  have HBL : Hid (b < w.heap.size) := Lib.hid h.lt
  have HML : Hid (gm < w.heap.size) := Lib.hid hB.lt
  have HQ := Lib.hid hq
  have HM := Lib.hid hm
  have HPA0 : Hid (PA w.heap.size (w.alloc (.cells (pcs ⟨true, true, true, false, false, false, false⟩).toArray 84)) m0 (.slice none 0 0) (.slice none 0 0) (.slice none 0 0)) := Lib.hid ⟨by rw [hm.vals]; exact Row.nil, by rw [hm.box]; exact Row.nil, by rw [hm.recs]; exact recsAt_nil _ _⟩
  obtain ⟨M0, hM0⟩ : ∃ M0, M0 = m0 := ⟨_, rfl⟩
  have HE0 := Lib.hid hM0
  rw [← hM0] at HBK HPA0
  have HPN : Hid (w.heap.size ≠ b ∧ w.heap.size ≠ gm) := Lib.hid ⟨by have := h.lt; omega, by have := hB.lt; omega⟩
  clear hk0 hB h hb hl ha hg hne hq hm hM0
  go_enter Try.func61, Try.ntmps61
  go_upto_region 1 with fail
  generalize w.alloc (.cells (pcs ⟨true, true, true, false, false, false, false⟩).toArray 84) = z0 at *
  obtain ⟨gp, hgp⟩ : ∃ gp, gp = w.heap.size := ⟨_, rfl⟩
  rw [← hgp] at HPK HPN ⊢
  clear hgp
  have p1 : z0.cell? ⟨gp, 1, none⟩ = some (.bool true) := HPK.out.cell 1
  have p2 : z0.cell? ⟨gp, 2, none⟩ = some (.bool true) := HPK.out.cell 2
  have p3 : z0.cell? ⟨gp, 3, none⟩ = some (.bool false) := HPK.out.cell 3
  have p4 : z0.cell? ⟨gp, 4, none⟩ = some (.bool false) := HPK.out.cell 4
  have p5 : z0.cell? ⟨gp, 5, none⟩ = some (.bool false) := HPK.out.cell 5
  have p6 : z0.cell? ⟨gp, 6, none⟩ = some (.bool false) := HPK.out.cell 6
  have c1 : z0.cell? ⟨gm, 1, none⟩ = some (.int .i64 M0.hub) := HBK.out.cell 1
  have HHUB : Hid (0 ≤ M0.hub) := Lib.hid (by rw [HE0.out]; exact HM.out.hub)
  have HGL : Hid (∀ k, g = some k → k < z0.heap.size) := Lib.hid (fun k hk => by have := HGK.out k hk; have := HO0.out.size; omega)
  go_upto_region 3 with (first | (go_at_call 76; refine (ogetent_any b g l 9 a M0.hub _ HR0.out HGL.out HL.out HBY.out HAA.out HHUB.out).mono ?_; rintro e y1 ⟨xv, rfl, hrow, hr, ho⟩; have HROW := Lib.hid (hrow.mono HO0.out.size); obtain ⟨av, cv, rfl, _, _⟩ := hrow.rd.form; have hbk := HBK.out.only ho HNE.out; clear hrow) | (refine wpList_store_mid rfl 28 (.tmp 19) (.tmp 17) rfl gm 9 #[.int .u32 (evQ l 9 a M0.hub), .int .u64 (gq l (9 + 1) 8), .int .u64 (gq l (9 + 1 + 8) 8), .slice av (valQ l (9 + 1 + 16) a).length cv, .bool (gq l 9 1 == 1)] rfl rfl (there_blk hbk 9 5 (by simp [mcs])) ent_info (by simp [Value.oneCell']) ?_))
  obtain ⟨ST, hST⟩ : ∃ S, S = y1.setCells gm 9 [.int .u32 (evQ l 9 a M0.hub), .int .u64 (gq l (9 + 1) 8), .int .u64 (gq l (9 + 1 + 8) 8), .slice av (valQ l (9 + 1 + 16) a).length cv, .bool (gq l 9 1 == 1)] := ⟨_, rfl⟩
  have hos : Only gm y1 ST := by rw [hST]; exact ((((Only.set _ 9 _).trans (Only.set _ 10 _)).trans (Only.set _ 11 _)).trans (Only.set _ 12 _)).trans (Only.set _ 13 _)
  obtain ⟨M1, hM1⟩ : ∃ m, m = { M0 with ev := evQ l 9 a M0.hub, eid := gq l (9 + 1) 8, ever := gq l (9 + 1 + 8) 8, vals := valQ l (9 + 1 + 16) a, gone := (gq l 9 1 == 1) } := ⟨_, rfl⟩
  have HBK : Hid (Blk ST gm 34 (mcs M1 (.slice av (valQ l (9 + 1 + 16) a).length cv) (.slice none 0 0) (.slice none 0 0)).toArray) := Lib.hid (by rw [hM1, hST]; exact ((((hbk.set_ 9 _).set_ 10 _).set_ 11 _).set_ 12 _).set_ 13 _)
  have HPK := Lib.hid ((HPK.out.only ho HPN.out.1).only hos HPN.out.2)
  have HR1 := Lib.hid (hr.only hos HBM.out HGM.out)
  have HO1 := Lib.hid (HO0.out.trans ((Only2.of1 ho).trans (Only2.of2 hos)))
  have HPA1 : Hid (PA w.heap.size ST M1 (.slice av (valQ l (9 + 1 + 16) a).length cv) (.slice none 0 0) (.slice none 0 0)) := Lib.hid ⟨by rw [hM1]; exact HROW.out.only hos (fun e => by have := (HROW.out.block gm e).1; have := HML.out; omega), by rw [hM1]; exact ((HPA0.out.only ho HBL.out).only hos HML.out).box, by rw [hM1]; exact ((HPA0.out.only ho HBL.out).only hos HML.out).recs⟩
  have HE1 := Lib.hid hM1
  (try rw [← hST])
  clear p1 p2 p3 p4 p5 p6 c1 hbk ho hos hr hM1 HROW
  (try clear hST)
  generalize ST = z1 at *
  have p1 : z1.cell? ⟨gp, 1, none⟩ = some (.bool true) := HPK.out.cell 1
  have p2 : z1.cell? ⟨gp, 2, none⟩ = some (.bool true) := HPK.out.cell 2
  have p3 : z1.cell? ⟨gp, 3, none⟩ = some (.bool false) := HPK.out.cell 3
  have p4 : z1.cell? ⟨gp, 4, none⟩ = some (.bool false) := HPK.out.cell 4
  have p5 : z1.cell? ⟨gp, 5, none⟩ = some (.bool false) := HPK.out.cell 5
  have p6 : z1.cell? ⟨gp, 6, none⟩ = some (.bool false) := HPK.out.cell 6
  have c9 : z1.cell? ⟨gm, 9, none⟩ = some (.int .u32 M1.ev) := HBK.out.cell 9
  have c5 : z1.cell? ⟨gm, 5, none⟩ = some (.int .u32 M1.target) := HBK.out.cell 5
  have f5 := HBK.out.frozen 5
  go_upto_region 4 with fail
  have hos := Only.set (b := gm) z1 5 (.int .u32 M1.ev)
  obtain ⟨M2, hM2⟩ : ∃ m, m = { M1 with target := M1.ev } := ⟨_, rfl⟩
  have HBK : Hid (Blk (z1.setCell ⟨gm, 5, none⟩ (.int .u32 M1.ev)) gm 34 (mcs M2 (.slice av (valQ l (9 + 1 + 16) a).length cv) (.slice none 0 0) (.slice none 0 0)).toArray) := Lib.hid (by rw [hM2]; exact HBK.out.set_ 5 _)
  have HPK := Lib.hid (HPK.out.only hos HPN.out.2)
  have HR2 := Lib.hid (HR1.out.only hos HBM.out HGM.out)
  have HO2 := Lib.hid (HO1.out.trans (Only2.of2 hos))
  have HPA2 : Hid (PA w.heap.size (z1.setCell ⟨gm, 5, none⟩ (.int .u32 M1.ev)) M2 (.slice av (valQ l (9 + 1 + 16) a).length cv) (.slice none 0 0) (.slice none 0 0)) := Lib.hid (by rw [hM2]; exact ⟨(HPA1.out.only hos HML.out).vals, (HPA1.out.only hos HML.out).box, (HPA1.out.only hos HML.out).recs⟩)
  have HE2 := Lib.hid hM2
  clear p1 p2 p3 p4 p5 p6 c9 c5 f5 hos hM2
  generalize z1.setCell ⟨gm, 5, none⟩ (.int .u32 M1.ev) = z2 at *
  have p1 : z2.cell? ⟨gp, 1, none⟩ = some (.bool true) := HPK.out.cell 1
  have p2 : z2.cell? ⟨gp, 2, none⟩ = some (.bool true) := HPK.out.cell 2
  have p3 : z2.cell? ⟨gp, 3, none⟩ = some (.bool false) := HPK.out.cell 3
  have p4 : z2.cell? ⟨gp, 4, none⟩ = some (.bool false) := HPK.out.cell 4
  have p5 : z2.cell? ⟨gp, 5, none⟩ = some (.bool false) := HPK.out.cell 5
  have p6 : z2.cell? ⟨gp, 6, none⟩ = some (.bool false) := HPK.out.cell 6
  have bx := gq4 HBY.out (9 + 1 + 16 + 4 * a)
  have wx : IntKind.u32.wrap (gq l (9 + 1 + 16 + 4 * a) 4) = gq l (9 + 1 + 16 + 4 * a) 4 := IntWalk.u32_in _ (by omega)
  clear bx
  go_upto_region 6 with (go_at_call 60; refine (ogetq b g l (9 + 1 + 16 + 4 * a) 4 sz4' _ HR2.out HL.out HBY.out).mono ?_; rintro e y3 ⟨rfl, hr, ho⟩; have hbk := HBK.out.only ho HNE.out; have ec : y3.cell? ⟨gm, 7, none⟩ = some (.int .u32 M2.owner) := hbk.cell 7; have ef := hbk.frozen 7)
  have hos := Only.set (b := gm) y3 7 (.int .u32 (gq l (9 + 1 + 16 + 4 * a) 4))
  obtain ⟨M3, hM3⟩ : ∃ m, m = { M2 with owner := gq l (9 + 1 + 16 + 4 * a) 4 } := ⟨_, rfl⟩
  have HBK : Hid (Blk (y3.setCell ⟨gm, 7, none⟩ (.int .u32 (gq l (9 + 1 + 16 + 4 * a) 4))) gm 34 (mcs M3 (.slice av (valQ l (9 + 1 + 16) a).length cv) (.slice none 0 0) (.slice none 0 0)).toArray) := Lib.hid (by rw [hM3]; exact hbk.set_ 7 _)
  have HPK := Lib.hid ((HPK.out.only ho HPN.out.1).only hos HPN.out.2)
  have HR3 := Lib.hid (hr.only hos HBM.out HGM.out)
  have HO3 := Lib.hid (HO2.out.trans ((Only2.of1 ho).trans (Only2.of2 hos)))
  have HPA3 : Hid (PA w.heap.size (y3.setCell ⟨gm, 7, none⟩ (.int .u32 (gq l (9 + 1 + 16 + 4 * a) 4))) M3 (.slice av (valQ l (9 + 1 + 16) a).length cv) (.slice none 0 0) (.slice none 0 0)) := Lib.hid (by rw [hM3]; exact ⟨((HPA2.out.only ho HBL.out).only hos HML.out).vals, ((HPA2.out.only ho HBL.out).only hos HML.out).box, ((HPA2.out.only ho HBL.out).only hos HML.out).recs⟩)
  have HE3 := Lib.hid hM3
  clear p1 p2 p3 p4 p5 p6 ec ef hbk ho hos hr hM3 wx
  generalize y3.setCell ⟨gm, 7, none⟩ (.int .u32 (gq l (9 + 1 + 16 + 4 * a) 4)) = z3 at *
  have p1 : z3.cell? ⟨gp, 1, none⟩ = some (.bool true) := HPK.out.cell 1
  have p2 : z3.cell? ⟨gp, 2, none⟩ = some (.bool true) := HPK.out.cell 2
  have p3 : z3.cell? ⟨gp, 3, none⟩ = some (.bool false) := HPK.out.cell 3
  have p4 : z3.cell? ⟨gp, 4, none⟩ = some (.bool false) := HPK.out.cell 4
  have p5 : z3.cell? ⟨gp, 5, none⟩ = some (.bool false) := HPK.out.cell 5
  have p6 : z3.cell? ⟨gp, 6, none⟩ = some (.bool false) := HPK.out.cell 6
  have bx := gq4 HBY.out (9 + 1 + 16 + 4 * a + 4)
  have wx : IntKind.i64.wrap (gq l (9 + 1 + 16 + 4 * a + 4) 4) = gq l (9 + 1 + 16 + 4 * a + 4) 4 := IntWalk.i64_in _ (by omega)
  clear bx
  go_upto_region 7 with (go_at_call 60; refine (ogetq b g l (9 + 1 + 16 + 4 * a + 4) 4 sz4' _ HR3.out HL.out HBY.out).mono ?_; rintro e y4 ⟨rfl, hr, ho⟩; have hbk := HBK.out.only ho HNE.out; have ec : y4.cell? ⟨gm, 8, none⟩ = some (.int .i64 M3.turn) := hbk.cell 8; have ef := hbk.frozen 8)
  have hos := Only.set (b := gm) y4 8 (.int .i64 (gq l (9 + 1 + 16 + 4 * a + 4) 4))
  obtain ⟨M4, hM4⟩ : ∃ m, m = { M3 with turn := gq l (9 + 1 + 16 + 4 * a + 4) 4 } := ⟨_, rfl⟩
  have HBK : Hid (Blk (y4.setCell ⟨gm, 8, none⟩ (.int .i64 (gq l (9 + 1 + 16 + 4 * a + 4) 4))) gm 34 (mcs M4 (.slice av (valQ l (9 + 1 + 16) a).length cv) (.slice none 0 0) (.slice none 0 0)).toArray) := Lib.hid (by rw [hM4]; exact hbk.set_ 8 _)
  have HPK := Lib.hid ((HPK.out.only ho HPN.out.1).only hos HPN.out.2)
  have HR4 := Lib.hid (hr.only hos HBM.out HGM.out)
  have HO4 := Lib.hid (HO3.out.trans ((Only2.of1 ho).trans (Only2.of2 hos)))
  have HPA4 : Hid (PA w.heap.size (y4.setCell ⟨gm, 8, none⟩ (.int .i64 (gq l (9 + 1 + 16 + 4 * a + 4) 4))) M4 (.slice av (valQ l (9 + 1 + 16) a).length cv) (.slice none 0 0) (.slice none 0 0)) := Lib.hid (by rw [hM4]; exact ⟨((HPA3.out.only ho HBL.out).only hos HML.out).vals, ((HPA3.out.only ho HBL.out).only hos HML.out).box, ((HPA3.out.only ho HBL.out).only hos HML.out).recs⟩)
  have HE4 := Lib.hid hM4
  clear p1 p2 p3 p4 p5 p6 ec ef hbk ho hos hr hM4 wx
  generalize y4.setCell ⟨gm, 8, none⟩ (.int .i64 (gq l (9 + 1 + 16 + 4 * a + 4) 4)) = z4 at *
  have p1 : z4.cell? ⟨gp, 1, none⟩ = some (.bool true) := HPK.out.cell 1
  have p2 : z4.cell? ⟨gp, 2, none⟩ = some (.bool true) := HPK.out.cell 2
  have p3 : z4.cell? ⟨gp, 3, none⟩ = some (.bool false) := HPK.out.cell 3
  have p4 : z4.cell? ⟨gp, 4, none⟩ = some (.bool false) := HPK.out.cell 4
  have p5 : z4.cell? ⟨gp, 5, none⟩ = some (.bool false) := HPK.out.cell 5
  have p6 : z4.cell? ⟨gp, 6, none⟩ = some (.bool false) := HPK.out.cell 6
  go_wp2_with fail
  go_end0
  have HLQ : lenQ a l m0.kind = 9 + 1 + 16 + 4 * a + 4 + 4 := by
    unfold lenQ
    rw [if_neg (by rw [HQ.out]; decide), if_pos (.inl HQ.out)]
    all_goals omega
  have hbd := HM.out.bd
  have HMB : MB M4 := by
    rw [HE4.out, HE3.out, HE2.out, HE1.out, HE0.out]
    exact ⟨hbd.kind, hbd.hub, hbd.point, hbd.client, hbd.op, evQ_bd HBY.out _ _ _, hbd.hops, gq4 HBY.out _, i64_of4 HBY.out _, evQ_bd HBY.out _ _ _, gq8 HBY.out _, gq8 HBY.out _, valQ_bd HBY.out _ _, hbd.sf, hbd.st, hbd.box, hbd.recs⟩
  refine ⟨⟨_, rfl⟩, M4, _, _, _, HBK.out, HPA4.out, HMB, fun hle => ?_, by rw [HLQ]; exact HR4.out, HO4.out⟩
  rw [HE4.out, HE3.out, HE2.out, HE1.out, HE0.out]
  unfold msgK entQ
  rw [if_neg (by rw [HQ.out]; decide), if_pos (.inl HQ.out)]
set_option maxRecDepth 100000 in
set_option maxHeartbeats 4000000 in
theorem oget3_any (b : Nat) (g : Option Nat) (l : List Int) (a gm : Nat) (m0 : Msg) (w : World) (hq : m0.kind = 3) (hm : HeadM m0) (hB : Blk w gm 34 (mcs m0 (.slice none 0 0) (.slice none 0 0) (.slice none 0 0)).toArray) (h : OrQ w b g l 9) (hg : ∀ k, g = some k → k < w.heap.size ∧ k ≠ gm) (hne : gm ≠ b) (hl : l.length ≤ 1000000) (hb : Byt l) (ha : 1 ≤ a ∧ a ≤ 8) :
    Calls Try.prog 61 #[.int .i64 a, .pointer (some ⟨b, 0, none⟩), .pointer (some ⟨gm, 0, none⟩), .agg (pcs ⟨true, true, true, false, false, false, false⟩).toArray] w (PartsIn b g l a gm m0 w) := by
  have hk0 : Below w.heap.size w (w.alloc (.cells (pcs ⟨true, true, true, false, false, false, false⟩).toArray 84)) := more (Below.refl _ _) _
  have HPK := Lib.hid (Blk.newAt w 84 (pcs ⟨true, true, true, false, false, false, false⟩).toArray rfl)
  have HBK := Lib.hid (hB.keep hk0)
  have HR0 := Lib.hid (h.keep hk0)
  have HO0 : Hid (Only2 b gm w (w.alloc (.cells (pcs ⟨true, true, true, false, false, false, false⟩).toArray 84))) := Lib.hid (Only2.of1 (Only.of_below (b := b) hk0))
  have HBY := Lib.hid hb
  have HL := Lib.hid hl
  have HAA := Lib.hid ha
  have HGK : Hid (∀ k, g = some k → k < w.heap.size) := Lib.hid (fun k hk => (hg k hk).1)
  have HGM : Hid (g ≠ some gm) := Lib.hid (fun e => (hg gm e).2 rfl)
  have HNE := Lib.hid hne
  have HBM : Hid (b ≠ gm) := Lib.hid (fun e => hne e.symm)
  have HBL : Hid (b < w.heap.size) := Lib.hid h.lt
  have HML : Hid (gm < w.heap.size) := Lib.hid hB.lt
  have HQ := Lib.hid hq
  have HM := Lib.hid hm
  have HPA0 : Hid (PA w.heap.size (w.alloc (.cells (pcs ⟨true, true, true, false, false, false, false⟩).toArray 84)) m0 (.slice none 0 0) (.slice none 0 0) (.slice none 0 0)) := Lib.hid ⟨by rw [hm.vals]; exact Row.nil, by rw [hm.box]; exact Row.nil, by rw [hm.recs]; exact recsAt_nil _ _⟩
  obtain ⟨M0, hM0⟩ : ∃ M0, M0 = m0 := ⟨_, rfl⟩
  have HE0 := Lib.hid hM0
  rw [← hM0] at HBK HPA0
  have HPN : Hid (w.heap.size ≠ b ∧ w.heap.size ≠ gm) := Lib.hid ⟨by have := h.lt; omega, by have := hB.lt; omega⟩
  clear hk0 hB h hb hl ha hg hne hq hm hM0
  go_enter Try.func61, Try.ntmps61
  go_upto_region 1 with fail
  generalize w.alloc (.cells (pcs ⟨true, true, true, false, false, false, false⟩).toArray 84) = z0 at *
  obtain ⟨gp, hgp⟩ : ∃ gp, gp = w.heap.size := ⟨_, rfl⟩
  rw [← hgp] at HPK HPN ⊢
  clear hgp
  have p1 : z0.cell? ⟨gp, 1, none⟩ = some (.bool true) := HPK.out.cell 1
  have p2 : z0.cell? ⟨gp, 2, none⟩ = some (.bool true) := HPK.out.cell 2
  have p3 : z0.cell? ⟨gp, 3, none⟩ = some (.bool false) := HPK.out.cell 3
  have p4 : z0.cell? ⟨gp, 4, none⟩ = some (.bool false) := HPK.out.cell 4
  have p5 : z0.cell? ⟨gp, 5, none⟩ = some (.bool false) := HPK.out.cell 5
  have p6 : z0.cell? ⟨gp, 6, none⟩ = some (.bool false) := HPK.out.cell 6
  have c1 : z0.cell? ⟨gm, 1, none⟩ = some (.int .i64 M0.hub) := HBK.out.cell 1
  have HHUB : Hid (0 ≤ M0.hub) := Lib.hid (by rw [HE0.out]; exact HM.out.hub)
  have HGL : Hid (∀ k, g = some k → k < z0.heap.size) := Lib.hid (fun k hk => by have := HGK.out k hk; have := HO0.out.size; omega)
  go_upto_region 3 with (first | (go_at_call 76; refine (ogetent_any b g l 9 a M0.hub _ HR0.out HGL.out HL.out HBY.out HAA.out HHUB.out).mono ?_; rintro e y1 ⟨xv, rfl, hrow, hr, ho⟩; have HROW := Lib.hid (hrow.mono HO0.out.size); obtain ⟨av, cv, rfl, _, _⟩ := hrow.rd.form; have hbk := HBK.out.only ho HNE.out; clear hrow) | (refine wpList_store_mid rfl 28 (.tmp 19) (.tmp 17) rfl gm 9 #[.int .u32 (evQ l 9 a M0.hub), .int .u64 (gq l (9 + 1) 8), .int .u64 (gq l (9 + 1 + 8) 8), .slice av (valQ l (9 + 1 + 16) a).length cv, .bool (gq l 9 1 == 1)] rfl rfl (there_blk hbk 9 5 (by simp [mcs])) ent_info (by simp [Value.oneCell']) ?_))
  obtain ⟨ST, hST⟩ : ∃ S, S = y1.setCells gm 9 [.int .u32 (evQ l 9 a M0.hub), .int .u64 (gq l (9 + 1) 8), .int .u64 (gq l (9 + 1 + 8) 8), .slice av (valQ l (9 + 1 + 16) a).length cv, .bool (gq l 9 1 == 1)] := ⟨_, rfl⟩
  have hos : Only gm y1 ST := by rw [hST]; exact ((((Only.set _ 9 _).trans (Only.set _ 10 _)).trans (Only.set _ 11 _)).trans (Only.set _ 12 _)).trans (Only.set _ 13 _)
  obtain ⟨M1, hM1⟩ : ∃ m, m = { M0 with ev := evQ l 9 a M0.hub, eid := gq l (9 + 1) 8, ever := gq l (9 + 1 + 8) 8, vals := valQ l (9 + 1 + 16) a, gone := (gq l 9 1 == 1) } := ⟨_, rfl⟩
  have HBK : Hid (Blk ST gm 34 (mcs M1 (.slice av (valQ l (9 + 1 + 16) a).length cv) (.slice none 0 0) (.slice none 0 0)).toArray) := Lib.hid (by rw [hM1, hST]; exact ((((hbk.set_ 9 _).set_ 10 _).set_ 11 _).set_ 12 _).set_ 13 _)
  have HPK := Lib.hid ((HPK.out.only ho HPN.out.1).only hos HPN.out.2)
  have HR1 := Lib.hid (hr.only hos HBM.out HGM.out)
  have HO1 := Lib.hid (HO0.out.trans ((Only2.of1 ho).trans (Only2.of2 hos)))
  have HPA1 : Hid (PA w.heap.size ST M1 (.slice av (valQ l (9 + 1 + 16) a).length cv) (.slice none 0 0) (.slice none 0 0)) := Lib.hid ⟨by rw [hM1]; exact HROW.out.only hos (fun e => by have := (HROW.out.block gm e).1; have := HML.out; omega), by rw [hM1]; exact ((HPA0.out.only ho HBL.out).only hos HML.out).box, by rw [hM1]; exact ((HPA0.out.only ho HBL.out).only hos HML.out).recs⟩
  have HE1 := Lib.hid hM1
  (try rw [← hST])
  clear p1 p2 p3 p4 p5 p6 c1 hbk ho hos hr hM1 HROW
  (try clear hST)
  generalize ST = z1 at *
  have p1 : z1.cell? ⟨gp, 1, none⟩ = some (.bool true) := HPK.out.cell 1
  have p2 : z1.cell? ⟨gp, 2, none⟩ = some (.bool true) := HPK.out.cell 2
  have p3 : z1.cell? ⟨gp, 3, none⟩ = some (.bool false) := HPK.out.cell 3
  have p4 : z1.cell? ⟨gp, 4, none⟩ = some (.bool false) := HPK.out.cell 4
  have p5 : z1.cell? ⟨gp, 5, none⟩ = some (.bool false) := HPK.out.cell 5
  have p6 : z1.cell? ⟨gp, 6, none⟩ = some (.bool false) := HPK.out.cell 6
  have c9 : z1.cell? ⟨gm, 9, none⟩ = some (.int .u32 M1.ev) := HBK.out.cell 9
  have c5 : z1.cell? ⟨gm, 5, none⟩ = some (.int .u32 M1.target) := HBK.out.cell 5
  have f5 := HBK.out.frozen 5
  go_upto_region 4 with fail
  have hos := Only.set (b := gm) z1 5 (.int .u32 M1.ev)
  obtain ⟨M2, hM2⟩ : ∃ m, m = { M1 with target := M1.ev } := ⟨_, rfl⟩
  have HBK : Hid (Blk (z1.setCell ⟨gm, 5, none⟩ (.int .u32 M1.ev)) gm 34 (mcs M2 (.slice av (valQ l (9 + 1 + 16) a).length cv) (.slice none 0 0) (.slice none 0 0)).toArray) := Lib.hid (by rw [hM2]; exact HBK.out.set_ 5 _)
  have HPK := Lib.hid (HPK.out.only hos HPN.out.2)
  have HR2 := Lib.hid (HR1.out.only hos HBM.out HGM.out)
  have HO2 := Lib.hid (HO1.out.trans (Only2.of2 hos))
  have HPA2 : Hid (PA w.heap.size (z1.setCell ⟨gm, 5, none⟩ (.int .u32 M1.ev)) M2 (.slice av (valQ l (9 + 1 + 16) a).length cv) (.slice none 0 0) (.slice none 0 0)) := Lib.hid (by rw [hM2]; exact ⟨(HPA1.out.only hos HML.out).vals, (HPA1.out.only hos HML.out).box, (HPA1.out.only hos HML.out).recs⟩)
  have HE2 := Lib.hid hM2
  clear p1 p2 p3 p4 p5 p6 c9 c5 f5 hos hM2
  generalize z1.setCell ⟨gm, 5, none⟩ (.int .u32 M1.ev) = z2 at *
  have p1 : z2.cell? ⟨gp, 1, none⟩ = some (.bool true) := HPK.out.cell 1
  have p2 : z2.cell? ⟨gp, 2, none⟩ = some (.bool true) := HPK.out.cell 2
  have p3 : z2.cell? ⟨gp, 3, none⟩ = some (.bool false) := HPK.out.cell 3
  have p4 : z2.cell? ⟨gp, 4, none⟩ = some (.bool false) := HPK.out.cell 4
  have p5 : z2.cell? ⟨gp, 5, none⟩ = some (.bool false) := HPK.out.cell 5
  have p6 : z2.cell? ⟨gp, 6, none⟩ = some (.bool false) := HPK.out.cell 6
  have bx := gq4 HBY.out (9 + 1 + 16 + 4 * a)
  have wx : IntKind.u32.wrap (gq l (9 + 1 + 16 + 4 * a) 4) = gq l (9 + 1 + 16 + 4 * a) 4 := IntWalk.u32_in _ (by omega)
  clear bx
  go_upto_region 6 with (go_at_call 60; refine (ogetq b g l (9 + 1 + 16 + 4 * a) 4 sz4' _ HR2.out HL.out HBY.out).mono ?_; rintro e y3 ⟨rfl, hr, ho⟩; have hbk := HBK.out.only ho HNE.out; have ec : y3.cell? ⟨gm, 7, none⟩ = some (.int .u32 M2.owner) := hbk.cell 7; have ef := hbk.frozen 7)
  have hos := Only.set (b := gm) y3 7 (.int .u32 (gq l (9 + 1 + 16 + 4 * a) 4))
  obtain ⟨M3, hM3⟩ : ∃ m, m = { M2 with owner := gq l (9 + 1 + 16 + 4 * a) 4 } := ⟨_, rfl⟩
  have HBK : Hid (Blk (y3.setCell ⟨gm, 7, none⟩ (.int .u32 (gq l (9 + 1 + 16 + 4 * a) 4))) gm 34 (mcs M3 (.slice av (valQ l (9 + 1 + 16) a).length cv) (.slice none 0 0) (.slice none 0 0)).toArray) := Lib.hid (by rw [hM3]; exact hbk.set_ 7 _)
  have HPK := Lib.hid ((HPK.out.only ho HPN.out.1).only hos HPN.out.2)
  have HR3 := Lib.hid (hr.only hos HBM.out HGM.out)
  have HO3 := Lib.hid (HO2.out.trans ((Only2.of1 ho).trans (Only2.of2 hos)))
  have HPA3 : Hid (PA w.heap.size (y3.setCell ⟨gm, 7, none⟩ (.int .u32 (gq l (9 + 1 + 16 + 4 * a) 4))) M3 (.slice av (valQ l (9 + 1 + 16) a).length cv) (.slice none 0 0) (.slice none 0 0)) := Lib.hid (by rw [hM3]; exact ⟨((HPA2.out.only ho HBL.out).only hos HML.out).vals, ((HPA2.out.only ho HBL.out).only hos HML.out).box, ((HPA2.out.only ho HBL.out).only hos HML.out).recs⟩)
  have HE3 := Lib.hid hM3
  clear p1 p2 p3 p4 p5 p6 ec ef hbk ho hos hr hM3 wx
  generalize y3.setCell ⟨gm, 7, none⟩ (.int .u32 (gq l (9 + 1 + 16 + 4 * a) 4)) = z3 at *
  have p1 : z3.cell? ⟨gp, 1, none⟩ = some (.bool true) := HPK.out.cell 1
  have p2 : z3.cell? ⟨gp, 2, none⟩ = some (.bool true) := HPK.out.cell 2
  have p3 : z3.cell? ⟨gp, 3, none⟩ = some (.bool false) := HPK.out.cell 3
  have p4 : z3.cell? ⟨gp, 4, none⟩ = some (.bool false) := HPK.out.cell 4
  have p5 : z3.cell? ⟨gp, 5, none⟩ = some (.bool false) := HPK.out.cell 5
  have p6 : z3.cell? ⟨gp, 6, none⟩ = some (.bool false) := HPK.out.cell 6
  have bx := gq4 HBY.out (9 + 1 + 16 + 4 * a + 4)
  have wx : IntKind.i64.wrap (gq l (9 + 1 + 16 + 4 * a + 4) 4) = gq l (9 + 1 + 16 + 4 * a + 4) 4 := IntWalk.i64_in _ (by omega)
  clear bx
  go_upto_region 7 with (go_at_call 60; refine (ogetq b g l (9 + 1 + 16 + 4 * a + 4) 4 sz4' _ HR3.out HL.out HBY.out).mono ?_; rintro e y4 ⟨rfl, hr, ho⟩; have hbk := HBK.out.only ho HNE.out; have ec : y4.cell? ⟨gm, 8, none⟩ = some (.int .i64 M3.turn) := hbk.cell 8; have ef := hbk.frozen 8)
  have hos := Only.set (b := gm) y4 8 (.int .i64 (gq l (9 + 1 + 16 + 4 * a + 4) 4))
  obtain ⟨M4, hM4⟩ : ∃ m, m = { M3 with turn := gq l (9 + 1 + 16 + 4 * a + 4) 4 } := ⟨_, rfl⟩
  have HBK : Hid (Blk (y4.setCell ⟨gm, 8, none⟩ (.int .i64 (gq l (9 + 1 + 16 + 4 * a + 4) 4))) gm 34 (mcs M4 (.slice av (valQ l (9 + 1 + 16) a).length cv) (.slice none 0 0) (.slice none 0 0)).toArray) := Lib.hid (by rw [hM4]; exact hbk.set_ 8 _)
  have HPK := Lib.hid ((HPK.out.only ho HPN.out.1).only hos HPN.out.2)
  have HR4 := Lib.hid (hr.only hos HBM.out HGM.out)
  have HO4 := Lib.hid (HO3.out.trans ((Only2.of1 ho).trans (Only2.of2 hos)))
  have HPA4 : Hid (PA w.heap.size (y4.setCell ⟨gm, 8, none⟩ (.int .i64 (gq l (9 + 1 + 16 + 4 * a + 4) 4))) M4 (.slice av (valQ l (9 + 1 + 16) a).length cv) (.slice none 0 0) (.slice none 0 0)) := Lib.hid (by rw [hM4]; exact ⟨((HPA3.out.only ho HBL.out).only hos HML.out).vals, ((HPA3.out.only ho HBL.out).only hos HML.out).box, ((HPA3.out.only ho HBL.out).only hos HML.out).recs⟩)
  have HE4 := Lib.hid hM4
  clear p1 p2 p3 p4 p5 p6 ec ef hbk ho hos hr hM4 wx
  generalize y4.setCell ⟨gm, 8, none⟩ (.int .i64 (gq l (9 + 1 + 16 + 4 * a + 4) 4)) = z4 at *
  have p1 : z4.cell? ⟨gp, 1, none⟩ = some (.bool true) := HPK.out.cell 1
  have p2 : z4.cell? ⟨gp, 2, none⟩ = some (.bool true) := HPK.out.cell 2
  have p3 : z4.cell? ⟨gp, 3, none⟩ = some (.bool false) := HPK.out.cell 3
  have p4 : z4.cell? ⟨gp, 4, none⟩ = some (.bool false) := HPK.out.cell 4
  have p5 : z4.cell? ⟨gp, 5, none⟩ = some (.bool false) := HPK.out.cell 5
  have p6 : z4.cell? ⟨gp, 6, none⟩ = some (.bool false) := HPK.out.cell 6
  go_wp2_with fail
  go_end0
  have HLQ : lenQ a l m0.kind = 9 + 1 + 16 + 4 * a + 4 + 4 := by
    unfold lenQ
    rw [if_neg (by rw [HQ.out]; decide), if_pos (.inr HQ.out)]
    all_goals omega
  have hbd := HM.out.bd
  have HMB : MB M4 := by
    rw [HE4.out, HE3.out, HE2.out, HE1.out, HE0.out]
    exact ⟨hbd.kind, hbd.hub, hbd.point, hbd.client, hbd.op, evQ_bd HBY.out _ _ _, hbd.hops, gq4 HBY.out _, i64_of4 HBY.out _, evQ_bd HBY.out _ _ _, gq8 HBY.out _, gq8 HBY.out _, valQ_bd HBY.out _ _, hbd.sf, hbd.st, hbd.box, hbd.recs⟩
  refine ⟨⟨_, rfl⟩, M4, _, _, _, HBK.out, HPA4.out, HMB, fun hle => ?_, by rw [HLQ]; exact HR4.out, HO4.out⟩
  rw [HE4.out, HE3.out, HE2.out, HE1.out, HE0.out]
  unfold msgK entQ
  rw [if_neg (by rw [HQ.out]; decide), if_pos (.inr HQ.out)]
set_option maxRecDepth 100000 in
set_option maxHeartbeats 4000000 in
theorem oget4_any (b : Nat) (g : Option Nat) (l : List Int) (a gm : Nat) (m0 : Msg) (w : World) (hq : m0.kind = 4) (hm : HeadM m0) (hB : Blk w gm 34 (mcs m0 (.slice none 0 0) (.slice none 0 0) (.slice none 0 0)).toArray) (h : OrQ w b g l 9) (hg : ∀ k, g = some k → k < w.heap.size ∧ k ≠ gm) (hne : gm ≠ b) (hl : l.length ≤ 1000000) (hb : Byt l) (ha : 1 ≤ a ∧ a ≤ 8) :
    Calls Try.prog 61 #[.int .i64 a, .pointer (some ⟨b, 0, none⟩), .pointer (some ⟨gm, 0, none⟩), .agg (pcs ⟨false, true, false, false, false, false, false⟩).toArray] w (PartsIn b g l a gm m0 w) := by
  have hk0 : Below w.heap.size w (w.alloc (.cells (pcs ⟨false, true, false, false, false, false, false⟩).toArray 84)) := more (Below.refl _ _) _
  have HPK := Lib.hid (Blk.newAt w 84 (pcs ⟨false, true, false, false, false, false, false⟩).toArray rfl)
  have HBK := Lib.hid (hB.keep hk0)
  have HR0 := Lib.hid (h.keep hk0)
  have HO0 : Hid (Only2 b gm w (w.alloc (.cells (pcs ⟨false, true, false, false, false, false, false⟩).toArray 84))) := Lib.hid (Only2.of1 (Only.of_below (b := b) hk0))
  have HBY := Lib.hid hb
  have HL := Lib.hid hl
  have HAA := Lib.hid ha
  have HGK : Hid (∀ k, g = some k → k < w.heap.size) := Lib.hid (fun k hk => (hg k hk).1)
  have HGM : Hid (g ≠ some gm) := Lib.hid (fun e => (hg gm e).2 rfl)
  have HNE := Lib.hid hne
  have HBM : Hid (b ≠ gm) := Lib.hid (fun e => hne e.symm)
  have HBL : Hid (b < w.heap.size) := Lib.hid h.lt
  have HML : Hid (gm < w.heap.size) := Lib.hid hB.lt
  have HQ := Lib.hid hq
  have HM := Lib.hid hm
  have HPA0 : Hid (PA w.heap.size (w.alloc (.cells (pcs ⟨false, true, false, false, false, false, false⟩).toArray 84)) m0 (.slice none 0 0) (.slice none 0 0) (.slice none 0 0)) := Lib.hid ⟨by rw [hm.vals]; exact Row.nil, by rw [hm.box]; exact Row.nil, by rw [hm.recs]; exact recsAt_nil _ _⟩
  obtain ⟨M0, hM0⟩ : ∃ M0, M0 = m0 := ⟨_, rfl⟩
  have HE0 := Lib.hid hM0
  rw [← hM0] at HBK HPA0
  have HPN : Hid (w.heap.size ≠ b ∧ w.heap.size ≠ gm) := Lib.hid ⟨by have := h.lt; omega, by have := hB.lt; omega⟩
  clear hk0 hB h hb hl ha hg hne hq hm hM0
  go_enter Try.func61, Try.ntmps61
  go_upto_region 1 with fail
  generalize w.alloc (.cells (pcs ⟨false, true, false, false, false, false, false⟩).toArray 84) = z0 at *
  obtain ⟨gp, hgp⟩ : ∃ gp, gp = w.heap.size := ⟨_, rfl⟩
  rw [← hgp] at HPK HPN ⊢
  clear hgp
  have p1 : z0.cell? ⟨gp, 1, none⟩ = some (.bool true) := HPK.out.cell 1
  have p2 : z0.cell? ⟨gp, 2, none⟩ = some (.bool false) := HPK.out.cell 2
  have p3 : z0.cell? ⟨gp, 3, none⟩ = some (.bool false) := HPK.out.cell 3
  have p4 : z0.cell? ⟨gp, 4, none⟩ = some (.bool false) := HPK.out.cell 4
  have p5 : z0.cell? ⟨gp, 5, none⟩ = some (.bool false) := HPK.out.cell 5
  have p6 : z0.cell? ⟨gp, 6, none⟩ = some (.bool false) := HPK.out.cell 6
  have c1 : z0.cell? ⟨gm, 1, none⟩ = some (.int .i64 M0.hub) := HBK.out.cell 1
  have HHUB : Hid (0 ≤ M0.hub) := Lib.hid (by rw [HE0.out]; exact HM.out.hub)
  have HGL : Hid (∀ k, g = some k → k < z0.heap.size) := Lib.hid (fun k hk => by have := HGK.out k hk; have := HO0.out.size; omega)
  go_upto_region 3 with (first | (go_at_call 76; refine (ogetent_any b g l 9 a M0.hub _ HR0.out HGL.out HL.out HBY.out HAA.out HHUB.out).mono ?_; rintro e y1 ⟨xv, rfl, hrow, hr, ho⟩; have HROW := Lib.hid (hrow.mono HO0.out.size); obtain ⟨av, cv, rfl, _, _⟩ := hrow.rd.form; have hbk := HBK.out.only ho HNE.out; clear hrow) | (refine wpList_store_mid rfl 28 (.tmp 19) (.tmp 17) rfl gm 9 #[.int .u32 (evQ l 9 a M0.hub), .int .u64 (gq l (9 + 1) 8), .int .u64 (gq l (9 + 1 + 8) 8), .slice av (valQ l (9 + 1 + 16) a).length cv, .bool (gq l 9 1 == 1)] rfl rfl (there_blk hbk 9 5 (by simp [mcs])) ent_info (by simp [Value.oneCell']) ?_))
  obtain ⟨ST, hST⟩ : ∃ S, S = y1.setCells gm 9 [.int .u32 (evQ l 9 a M0.hub), .int .u64 (gq l (9 + 1) 8), .int .u64 (gq l (9 + 1 + 8) 8), .slice av (valQ l (9 + 1 + 16) a).length cv, .bool (gq l 9 1 == 1)] := ⟨_, rfl⟩
  have hos : Only gm y1 ST := by rw [hST]; exact ((((Only.set _ 9 _).trans (Only.set _ 10 _)).trans (Only.set _ 11 _)).trans (Only.set _ 12 _)).trans (Only.set _ 13 _)
  obtain ⟨M1, hM1⟩ : ∃ m, m = { M0 with ev := evQ l 9 a M0.hub, eid := gq l (9 + 1) 8, ever := gq l (9 + 1 + 8) 8, vals := valQ l (9 + 1 + 16) a, gone := (gq l 9 1 == 1) } := ⟨_, rfl⟩
  have HBK : Hid (Blk ST gm 34 (mcs M1 (.slice av (valQ l (9 + 1 + 16) a).length cv) (.slice none 0 0) (.slice none 0 0)).toArray) := Lib.hid (by rw [hM1, hST]; exact ((((hbk.set_ 9 _).set_ 10 _).set_ 11 _).set_ 12 _).set_ 13 _)
  have HPK := Lib.hid ((HPK.out.only ho HPN.out.1).only hos HPN.out.2)
  have HR1 := Lib.hid (hr.only hos HBM.out HGM.out)
  have HO1 := Lib.hid (HO0.out.trans ((Only2.of1 ho).trans (Only2.of2 hos)))
  have HPA1 : Hid (PA w.heap.size ST M1 (.slice av (valQ l (9 + 1 + 16) a).length cv) (.slice none 0 0) (.slice none 0 0)) := Lib.hid ⟨by rw [hM1]; exact HROW.out.only hos (fun e => by have := (HROW.out.block gm e).1; have := HML.out; omega), by rw [hM1]; exact ((HPA0.out.only ho HBL.out).only hos HML.out).box, by rw [hM1]; exact ((HPA0.out.only ho HBL.out).only hos HML.out).recs⟩
  have HE1 := Lib.hid hM1
  (try rw [← hST])
  clear p1 p2 p3 p4 p5 p6 c1 hbk ho hos hr hM1 HROW
  (try clear hST)
  generalize ST = z1 at *
  have p1 : z1.cell? ⟨gp, 1, none⟩ = some (.bool true) := HPK.out.cell 1
  have p2 : z1.cell? ⟨gp, 2, none⟩ = some (.bool false) := HPK.out.cell 2
  have p3 : z1.cell? ⟨gp, 3, none⟩ = some (.bool false) := HPK.out.cell 3
  have p4 : z1.cell? ⟨gp, 4, none⟩ = some (.bool false) := HPK.out.cell 4
  have p5 : z1.cell? ⟨gp, 5, none⟩ = some (.bool false) := HPK.out.cell 5
  have p6 : z1.cell? ⟨gp, 6, none⟩ = some (.bool false) := HPK.out.cell 6
  have c9 : z1.cell? ⟨gm, 9, none⟩ = some (.int .u32 M1.ev) := HBK.out.cell 9
  have c5 : z1.cell? ⟨gm, 5, none⟩ = some (.int .u32 M1.target) := HBK.out.cell 5
  have f5 := HBK.out.frozen 5
  go_upto_region 4 with fail
  have hos := Only.set (b := gm) z1 5 (.int .u32 M1.ev)
  obtain ⟨M2, hM2⟩ : ∃ m, m = { M1 with target := M1.ev } := ⟨_, rfl⟩
  have HBK : Hid (Blk (z1.setCell ⟨gm, 5, none⟩ (.int .u32 M1.ev)) gm 34 (mcs M2 (.slice av (valQ l (9 + 1 + 16) a).length cv) (.slice none 0 0) (.slice none 0 0)).toArray) := Lib.hid (by rw [hM2]; exact HBK.out.set_ 5 _)
  have HPK := Lib.hid (HPK.out.only hos HPN.out.2)
  have HR2 := Lib.hid (HR1.out.only hos HBM.out HGM.out)
  have HO2 := Lib.hid (HO1.out.trans (Only2.of2 hos))
  have HPA2 : Hid (PA w.heap.size (z1.setCell ⟨gm, 5, none⟩ (.int .u32 M1.ev)) M2 (.slice av (valQ l (9 + 1 + 16) a).length cv) (.slice none 0 0) (.slice none 0 0)) := Lib.hid (by rw [hM2]; exact ⟨(HPA1.out.only hos HML.out).vals, (HPA1.out.only hos HML.out).box, (HPA1.out.only hos HML.out).recs⟩)
  have HE2 := Lib.hid hM2
  clear p1 p2 p3 p4 p5 p6 c9 c5 f5 hos hM2
  generalize z1.setCell ⟨gm, 5, none⟩ (.int .u32 M1.ev) = z2 at *
  have p1 : z2.cell? ⟨gp, 1, none⟩ = some (.bool true) := HPK.out.cell 1
  have p2 : z2.cell? ⟨gp, 2, none⟩ = some (.bool false) := HPK.out.cell 2
  have p3 : z2.cell? ⟨gp, 3, none⟩ = some (.bool false) := HPK.out.cell 3
  have p4 : z2.cell? ⟨gp, 4, none⟩ = some (.bool false) := HPK.out.cell 4
  have p5 : z2.cell? ⟨gp, 5, none⟩ = some (.bool false) := HPK.out.cell 5
  have p6 : z2.cell? ⟨gp, 6, none⟩ = some (.bool false) := HPK.out.cell 6
  go_wp2_with fail
  go_end0
  have HLQ : lenQ a l m0.kind = 9 + 1 + 16 + 4 * a := by
    unfold lenQ
    rw [if_neg (by rw [HQ.out]; decide), if_neg (by rw [HQ.out]; decide), if_pos HQ.out]
    all_goals omega
  have hbd := HM.out.bd
  have HMB : MB M2 := by
    rw [HE2.out, HE1.out, HE0.out]
    exact ⟨hbd.kind, hbd.hub, hbd.point, hbd.client, hbd.op, evQ_bd HBY.out _ _ _, hbd.hops, hbd.owner, hbd.turn, evQ_bd HBY.out _ _ _, gq8 HBY.out _, gq8 HBY.out _, valQ_bd HBY.out _ _, hbd.sf, hbd.st, hbd.box, hbd.recs⟩
  refine ⟨⟨_, rfl⟩, M2, _, _, _, HBK.out, HPA2.out, HMB, fun hle => ?_, by rw [HLQ]; exact HR2.out, HO2.out⟩
  rw [HE2.out, HE1.out, HE0.out]
  unfold msgK entQ
  rw [if_neg (by rw [HQ.out]; decide), if_neg (by rw [HQ.out]; decide), if_pos HQ.out]
set_option maxRecDepth 100000 in
set_option maxHeartbeats 4000000 in
theorem oget5_any (b : Nat) (g : Option Nat) (l : List Int) (a gm : Nat) (m0 : Msg) (w : World) (hq : m0.kind = 5) (hm : HeadM m0) (hB : Blk w gm 34 (mcs m0 (.slice none 0 0) (.slice none 0 0) (.slice none 0 0)).toArray) (h : OrQ w b g l 9) (hg : ∀ k, g = some k → k < w.heap.size ∧ k ≠ gm) (hne : gm ≠ b) (hl : l.length ≤ 1000000) (hb : Byt l) (ha : 1 ≤ a ∧ a ≤ 8) :
    Calls Try.prog 61 #[.int .i64 a, .pointer (some ⟨b, 0, none⟩), .pointer (some ⟨gm, 0, none⟩), .agg (pcs ⟨true, false, false, true, true, true, false⟩).toArray] w (PartsIn b g l a gm m0 w) := by
  have hk0 : Below w.heap.size w (w.alloc (.cells (pcs ⟨true, false, false, true, true, true, false⟩).toArray 84)) := more (Below.refl _ _) _
  have HPK := Lib.hid (Blk.newAt w 84 (pcs ⟨true, false, false, true, true, true, false⟩).toArray rfl)
  have HBK := Lib.hid (hB.keep hk0)
  have HR0 := Lib.hid (h.keep hk0)
  have HO0 : Hid (Only2 b gm w (w.alloc (.cells (pcs ⟨true, false, false, true, true, true, false⟩).toArray 84))) := Lib.hid (Only2.of1 (Only.of_below (b := b) hk0))
  have HBY := Lib.hid hb
  have HL := Lib.hid hl
  have HAA := Lib.hid ha
  have HGK : Hid (∀ k, g = some k → k < w.heap.size) := Lib.hid (fun k hk => (hg k hk).1)
  have HGM : Hid (g ≠ some gm) := Lib.hid (fun e => (hg gm e).2 rfl)
  have HNE := Lib.hid hne
  have HBM : Hid (b ≠ gm) := Lib.hid (fun e => hne e.symm)
  have HBL : Hid (b < w.heap.size) := Lib.hid h.lt
  have HML : Hid (gm < w.heap.size) := Lib.hid hB.lt
  have HQ := Lib.hid hq
  have HM := Lib.hid hm
  have HPA0 : Hid (PA w.heap.size (w.alloc (.cells (pcs ⟨true, false, false, true, true, true, false⟩).toArray 84)) m0 (.slice none 0 0) (.slice none 0 0) (.slice none 0 0)) := Lib.hid ⟨by rw [hm.vals]; exact Row.nil, by rw [hm.box]; exact Row.nil, by rw [hm.recs]; exact recsAt_nil _ _⟩
  obtain ⟨M0, hM0⟩ : ∃ M0, M0 = m0 := ⟨_, rfl⟩
  have HE0 := Lib.hid hM0
  rw [← hM0] at HBK HPA0
  have HPN : Hid (w.heap.size ≠ b ∧ w.heap.size ≠ gm) := Lib.hid ⟨by have := h.lt; omega, by have := hB.lt; omega⟩
  clear hk0 hB h hb hl ha hg hne hq hm hM0
  go_enter Try.func61, Try.ntmps61
  go_upto_region 1 with fail
  generalize w.alloc (.cells (pcs ⟨true, false, false, true, true, true, false⟩).toArray 84) = z0 at *
  obtain ⟨gp, hgp⟩ : ∃ gp, gp = w.heap.size := ⟨_, rfl⟩
  rw [← hgp] at HPK HPN ⊢
  clear hgp
  have p1 : z0.cell? ⟨gp, 1, none⟩ = some (.bool false) := HPK.out.cell 1
  have p2 : z0.cell? ⟨gp, 2, none⟩ = some (.bool false) := HPK.out.cell 2
  have p3 : z0.cell? ⟨gp, 3, none⟩ = some (.bool true) := HPK.out.cell 3
  have p4 : z0.cell? ⟨gp, 4, none⟩ = some (.bool true) := HPK.out.cell 4
  have p5 : z0.cell? ⟨gp, 5, none⟩ = some (.bool true) := HPK.out.cell 5
  have p6 : z0.cell? ⟨gp, 6, none⟩ = some (.bool false) := HPK.out.cell 6
  have bx := gq1 HBY.out (9)
  have wx : IntKind.i64.wrap (gq l (9) 1) = gq l (9) 1 := IntWalk.i64_in _ (by omega)
  clear bx
  go_upto_region 9 with (go_at_call 60; refine (ogetq b g l (9) 1 sz1 _ HR0.out HL.out HBY.out).mono ?_; rintro e y1 ⟨rfl, hr, ho⟩; have hbk := HBK.out.only ho HNE.out; have ec : y1.cell? ⟨gm, 6, none⟩ = some (.int .i64 M0.hops) := hbk.cell 6; have ef := hbk.frozen 6)
  have hos := Only.set (b := gm) y1 6 (.int .i64 (gq l (9) 1))
  obtain ⟨M1, hM1⟩ : ∃ m, m = { M0 with hops := gq l (9) 1 } := ⟨_, rfl⟩
  have HBK : Hid (Blk (y1.setCell ⟨gm, 6, none⟩ (.int .i64 (gq l (9) 1))) gm 34 (mcs M1 (.slice none 0 0) (.slice none 0 0) (.slice none 0 0)).toArray) := Lib.hid (by rw [hM1]; exact hbk.set_ 6 _)
  have HPK := Lib.hid ((HPK.out.only ho HPN.out.1).only hos HPN.out.2)
  have HR1 := Lib.hid (hr.only hos HBM.out HGM.out)
  have HO1 := Lib.hid (HO0.out.trans ((Only2.of1 ho).trans (Only2.of2 hos)))
  have HPA1 : Hid (PA w.heap.size (y1.setCell ⟨gm, 6, none⟩ (.int .i64 (gq l (9) 1))) M1 (.slice none 0 0) (.slice none 0 0) (.slice none 0 0)) := Lib.hid (by rw [hM1]; exact ⟨((HPA0.out.only ho HBL.out).only hos HML.out).vals, ((HPA0.out.only ho HBL.out).only hos HML.out).box, ((HPA0.out.only ho HBL.out).only hos HML.out).recs⟩)
  have HE1 := Lib.hid hM1
  clear p1 p2 p3 p4 p5 p6 ec ef hbk ho hos hr hM1 wx
  generalize y1.setCell ⟨gm, 6, none⟩ (.int .i64 (gq l (9) 1)) = z1 at *
  have p1 : z1.cell? ⟨gp, 1, none⟩ = some (.bool false) := HPK.out.cell 1
  have p2 : z1.cell? ⟨gp, 2, none⟩ = some (.bool false) := HPK.out.cell 2
  have p3 : z1.cell? ⟨gp, 3, none⟩ = some (.bool true) := HPK.out.cell 3
  have p4 : z1.cell? ⟨gp, 4, none⟩ = some (.bool true) := HPK.out.cell 4
  have p5 : z1.cell? ⟨gp, 5, none⟩ = some (.bool true) := HPK.out.cell 5
  have p6 : z1.cell? ⟨gp, 6, none⟩ = some (.bool false) := HPK.out.cell 6
  have bx := gq4 HBY.out (9 + 1)
  have wx : IntKind.u32.wrap (gq l (9 + 1) 4) = gq l (9 + 1) 4 := IntWalk.u32_in _ (by omega)
  clear bx
  go_upto_region 11 with (go_at_call 60; refine (ogetq b g l (9 + 1) 4 sz4' _ HR1.out HL.out HBY.out).mono ?_; rintro e y2 ⟨rfl, hr, ho⟩; have hbk := HBK.out.only ho HNE.out; have ec : y2.cell? ⟨gm, 14, none⟩ = some (.int .u32 M1.sf) := hbk.cell 14; have ef := hbk.frozen 14)
  have hos := Only.set (b := gm) y2 14 (.int .u32 (gq l (9 + 1) 4))
  obtain ⟨M2, hM2⟩ : ∃ m, m = { M1 with sf := gq l (9 + 1) 4 } := ⟨_, rfl⟩
  have HBK : Hid (Blk (y2.setCell ⟨gm, 14, none⟩ (.int .u32 (gq l (9 + 1) 4))) gm 34 (mcs M2 (.slice none 0 0) (.slice none 0 0) (.slice none 0 0)).toArray) := Lib.hid (by rw [hM2]; exact hbk.set_ 14 _)
  have HPK := Lib.hid ((HPK.out.only ho HPN.out.1).only hos HPN.out.2)
  have HR2 := Lib.hid (hr.only hos HBM.out HGM.out)
  have HO2 := Lib.hid (HO1.out.trans ((Only2.of1 ho).trans (Only2.of2 hos)))
  have HPA2 : Hid (PA w.heap.size (y2.setCell ⟨gm, 14, none⟩ (.int .u32 (gq l (9 + 1) 4))) M2 (.slice none 0 0) (.slice none 0 0) (.slice none 0 0)) := Lib.hid (by rw [hM2]; exact ⟨((HPA1.out.only ho HBL.out).only hos HML.out).vals, ((HPA1.out.only ho HBL.out).only hos HML.out).box, ((HPA1.out.only ho HBL.out).only hos HML.out).recs⟩)
  have HE2 := Lib.hid hM2
  clear p1 p2 p3 p4 p5 p6 ec ef hbk ho hos hr hM2 wx
  generalize y2.setCell ⟨gm, 14, none⟩ (.int .u32 (gq l (9 + 1) 4)) = z2 at *
  have p1 : z2.cell? ⟨gp, 1, none⟩ = some (.bool false) := HPK.out.cell 1
  have p2 : z2.cell? ⟨gp, 2, none⟩ = some (.bool false) := HPK.out.cell 2
  have p3 : z2.cell? ⟨gp, 3, none⟩ = some (.bool true) := HPK.out.cell 3
  have p4 : z2.cell? ⟨gp, 4, none⟩ = some (.bool true) := HPK.out.cell 4
  have p5 : z2.cell? ⟨gp, 5, none⟩ = some (.bool true) := HPK.out.cell 5
  have p6 : z2.cell? ⟨gp, 6, none⟩ = some (.bool false) := HPK.out.cell 6
  have bx := gq4 HBY.out (9 + 1 + 4)
  have wx : IntKind.u32.wrap (gq l (9 + 1 + 4) 4) = gq l (9 + 1 + 4) 4 := IntWalk.u32_in _ (by omega)
  clear bx
  go_upto_region 12 with (go_at_call 60; refine (ogetq b g l (9 + 1 + 4) 4 sz4' _ HR2.out HL.out HBY.out).mono ?_; rintro e y3 ⟨rfl, hr, ho⟩; have hbk := HBK.out.only ho HNE.out; have ec : y3.cell? ⟨gm, 15, none⟩ = some (.int .u32 M2.st) := hbk.cell 15; have ef := hbk.frozen 15)
  have hos := Only.set (b := gm) y3 15 (.int .u32 (gq l (9 + 1 + 4) 4))
  obtain ⟨M3, hM3⟩ : ∃ m, m = { M2 with st := gq l (9 + 1 + 4) 4 } := ⟨_, rfl⟩
  have HBK : Hid (Blk (y3.setCell ⟨gm, 15, none⟩ (.int .u32 (gq l (9 + 1 + 4) 4))) gm 34 (mcs M3 (.slice none 0 0) (.slice none 0 0) (.slice none 0 0)).toArray) := Lib.hid (by rw [hM3]; exact hbk.set_ 15 _)
  have HPK := Lib.hid ((HPK.out.only ho HPN.out.1).only hos HPN.out.2)
  have HR3 := Lib.hid (hr.only hos HBM.out HGM.out)
  have HO3 := Lib.hid (HO2.out.trans ((Only2.of1 ho).trans (Only2.of2 hos)))
  have HPA3 : Hid (PA w.heap.size (y3.setCell ⟨gm, 15, none⟩ (.int .u32 (gq l (9 + 1 + 4) 4))) M3 (.slice none 0 0) (.slice none 0 0) (.slice none 0 0)) := Lib.hid (by rw [hM3]; exact ⟨((HPA2.out.only ho HBL.out).only hos HML.out).vals, ((HPA2.out.only ho HBL.out).only hos HML.out).box, ((HPA2.out.only ho HBL.out).only hos HML.out).recs⟩)
  have HE3 := Lib.hid hM3
  clear p1 p2 p3 p4 p5 p6 ec ef hbk ho hos hr hM3 wx
  generalize y3.setCell ⟨gm, 15, none⟩ (.int .u32 (gq l (9 + 1 + 4) 4)) = z3 at *
  have p1 : z3.cell? ⟨gp, 1, none⟩ = some (.bool false) := HPK.out.cell 1
  have p2 : z3.cell? ⟨gp, 2, none⟩ = some (.bool false) := HPK.out.cell 2
  have p3 : z3.cell? ⟨gp, 3, none⟩ = some (.bool true) := HPK.out.cell 3
  have p4 : z3.cell? ⟨gp, 4, none⟩ = some (.bool true) := HPK.out.cell 4
  have p5 : z3.cell? ⟨gp, 5, none⟩ = some (.bool true) := HPK.out.cell 5
  have p6 : z3.cell? ⟨gp, 6, none⟩ = some (.bool false) := HPK.out.cell 6
  obtain ⟨NN, hNN⟩ := Int.eq_ofNat_of_zero_le (show 0 ≤ gq l 18 1 from (gq1 HBY.out _).1)
  have HNN := Lib.hid hNN
  have HGL : Hid (∀ k, g = some k → k < z3.heap.size) := Lib.hid (fun k hk => by have := HGK.out k hk; have := HO3.out.size; omega)
  go_upto_region 14 with (go_at_call 77; refine (ogetbox_any b g l (9 + 1 + 4 + 4) NN _ HNN.out HR3.out HGL.out HL.out HBY.out).mono ?_; rintro e y4 ⟨x, k, rfl, hrow, hkn, hke, hr, ho⟩; have HROW := Lib.hid (hrow.mono HO3.out.size); have hbk := HBK.out.only ho HNE.out; have ec : y4.cell? ⟨gm, 16, none⟩ = some (.slice none 0 0) := hbk.cell 16; have ef := hbk.frozen 16; obtain ⟨ax, cx, rfl, _, _⟩ := hrow.rd.form; clear hrow)
  have hos := Only.set (b := gm) y4 16 (.slice ax (boxQ l (9 + 1 + 4 + 4 + 1) k).length cx)
  obtain ⟨M4, hM4⟩ : ∃ m, m = { M3 with box := boxQ l (9 + 1 + 4 + 4 + 1) k } := ⟨_, rfl⟩
  have HBK : Hid (Blk (y4.setCell ⟨gm, 16, none⟩ (.slice ax (boxQ l (9 + 1 + 4 + 4 + 1) k).length cx)) gm 34 (mcs M4 (.slice none 0 0) (.slice ax (boxQ l (9 + 1 + 4 + 4 + 1) k).length cx) (.slice none 0 0)).toArray) := Lib.hid (by rw [hM4]; exact hbk.set_ 16 _)
  have HPK := Lib.hid ((HPK.out.only ho HPN.out.1).only hos HPN.out.2)
  have HR4 := Lib.hid (hr.only hos HBM.out HGM.out)
  have HO4 := Lib.hid (HO3.out.trans ((Only2.of1 ho).trans (Only2.of2 hos)))
  have HPA4 : Hid (PA w.heap.size (y4.setCell ⟨gm, 16, none⟩ (.slice ax (boxQ l (9 + 1 + 4 + 4 + 1) k).length cx)) M4 (.slice none 0 0) (.slice ax (boxQ l (9 + 1 + 4 + 4 + 1) k).length cx) (.slice none 0 0)) := Lib.hid ⟨by rw [hM4]; exact ((HPA3.out.only ho HBL.out).only hos HML.out).vals, by rw [hM4]; exact HROW.out.only hos (fun e => by have := (HROW.out.block gm e).1; have := HML.out; omega), by rw [hM4]; exact ((HPA3.out.only ho HBL.out).only hos HML.out).recs⟩
  have HE4 := Lib.hid hM4
  have HKE := Lib.hid hke
  clear p1 p2 p3 p4 p5 p6 ec ef hbk ho hos hr hM4 hke
  generalize y4.setCell ⟨gm, 16, none⟩ (.slice ax (boxQ l (9 + 1 + 4 + 4 + 1) k).length cx) = z4 at *
  have p1 : z4.cell? ⟨gp, 1, none⟩ = some (.bool false) := HPK.out.cell 1
  have p2 : z4.cell? ⟨gp, 2, none⟩ = some (.bool false) := HPK.out.cell 2
  have p3 : z4.cell? ⟨gp, 3, none⟩ = some (.bool true) := HPK.out.cell 3
  have p4 : z4.cell? ⟨gp, 4, none⟩ = some (.bool true) := HPK.out.cell 4
  have p5 : z4.cell? ⟨gp, 5, none⟩ = some (.bool true) := HPK.out.cell 5
  have p6 : z4.cell? ⟨gp, 6, none⟩ = some (.bool false) := HPK.out.cell 6
  go_wp2_with fail
  go_end0
  have HLQ : lenQ a l m0.kind = 9 + 1 + 4 + 4 + 1 + 9 * NN := by
    unfold lenQ
    rw [if_neg (by rw [HQ.out]; decide), if_neg (by rw [HQ.out]; decide), if_neg (by rw [HQ.out]; decide), if_pos HQ.out]
    rw [show gq l 18 1 = (NN : Int) from HNN.out, Int.toNat_natCast]
    all_goals omega
  have hbd := HM.out.bd
  have HMB : MB M4 := by
    rw [HE4.out, HE3.out, HE2.out, HE1.out, HE0.out]
    exact ⟨hbd.kind, hbd.hub, hbd.point, hbd.client, hbd.op, hbd.target, i64_of1 HBY.out _, hbd.owner, hbd.turn, hbd.ev, hbd.eid, hbd.ever, hbd.vals, gq4 HBY.out _, gq4 HBY.out _, boxQ_rb HBY.out _ _, hbd.recs⟩
  refine ⟨⟨_, rfl⟩, M4, _, _, _, HBK.out, HPA4.out, HMB, fun hle => ?_, by rw [HLQ]; exact HR4.out, HO4.out⟩
  have hk := HKE.out (by rw [HLQ] at hle; exact hle)
  subst hk
  rw [HE4.out, HE3.out, HE2.out, HE1.out, HE0.out]
  unfold msgK
  rw [if_neg (by rw [HQ.out]; decide), if_neg (by rw [HQ.out]; decide), if_neg (by rw [HQ.out]; decide), if_pos HQ.out]
  rw [show gq l 18 1 = (k : Int) from HNN.out, Int.toNat_natCast]
set_option maxRecDepth 100000 in
set_option maxHeartbeats 4000000 in
theorem oget6_any (b : Nat) (g : Option Nat) (l : List Int) (a gm : Nat) (m0 : Msg) (w : World) (hq : m0.kind = 6) (hm : HeadM m0) (hB : Blk w gm 34 (mcs m0 (.slice none 0 0) (.slice none 0 0) (.slice none 0 0)).toArray) (h : OrQ w b g l 9) (hg : ∀ k, g = some k → k < w.heap.size ∧ k ≠ gm) (hne : gm ≠ b) (hl : l.length ≤ 1000000) (hb : Byt l) (ha : 1 ≤ a ∧ a ≤ 8) :
    Calls Try.prog 61 #[.int .i64 a, .pointer (some ⟨b, 0, none⟩), .pointer (some ⟨gm, 0, none⟩), .agg (pcs ⟨false, false, false, false, true, false, true⟩).toArray] w (PartsIn b g l a gm m0 w) := by
  have hk0 : Below w.heap.size w (w.alloc (.cells (pcs ⟨false, false, false, false, true, false, true⟩).toArray 84)) := more (Below.refl _ _) _
  have HPK := Lib.hid (Blk.newAt w 84 (pcs ⟨false, false, false, false, true, false, true⟩).toArray rfl)
  have HBK := Lib.hid (hB.keep hk0)
  have HR0 := Lib.hid (h.keep hk0)
  have HO0 : Hid (Only2 b gm w (w.alloc (.cells (pcs ⟨false, false, false, false, true, false, true⟩).toArray 84))) := Lib.hid (Only2.of1 (Only.of_below (b := b) hk0))
  have HBY := Lib.hid hb
  have HL := Lib.hid hl
  have HAA := Lib.hid ha
  have HGK : Hid (∀ k, g = some k → k < w.heap.size) := Lib.hid (fun k hk => (hg k hk).1)
  have HGM : Hid (g ≠ some gm) := Lib.hid (fun e => (hg gm e).2 rfl)
  have HNE := Lib.hid hne
  have HBM : Hid (b ≠ gm) := Lib.hid (fun e => hne e.symm)
  have HBL : Hid (b < w.heap.size) := Lib.hid h.lt
  have HML : Hid (gm < w.heap.size) := Lib.hid hB.lt
  have HQ := Lib.hid hq
  have HM := Lib.hid hm
  have HPA0 : Hid (PA w.heap.size (w.alloc (.cells (pcs ⟨false, false, false, false, true, false, true⟩).toArray 84)) m0 (.slice none 0 0) (.slice none 0 0) (.slice none 0 0)) := Lib.hid ⟨by rw [hm.vals]; exact Row.nil, by rw [hm.box]; exact Row.nil, by rw [hm.recs]; exact recsAt_nil _ _⟩
  obtain ⟨M0, hM0⟩ : ∃ M0, M0 = m0 := ⟨_, rfl⟩
  have HE0 := Lib.hid hM0
  rw [← hM0] at HBK HPA0
  have HPN : Hid (w.heap.size ≠ b ∧ w.heap.size ≠ gm) := Lib.hid ⟨by have := h.lt; omega, by have := hB.lt; omega⟩
  clear hk0 hB h hb hl ha hg hne hq hm hM0
  go_enter Try.func61, Try.ntmps61
  go_upto_region 1 with fail
  generalize w.alloc (.cells (pcs ⟨false, false, false, false, true, false, true⟩).toArray 84) = z0 at *
  obtain ⟨gp, hgp⟩ : ∃ gp, gp = w.heap.size := ⟨_, rfl⟩
  rw [← hgp] at HPK HPN ⊢
  clear hgp
  have p1 : z0.cell? ⟨gp, 1, none⟩ = some (.bool false) := HPK.out.cell 1
  have p2 : z0.cell? ⟨gp, 2, none⟩ = some (.bool false) := HPK.out.cell 2
  have p3 : z0.cell? ⟨gp, 3, none⟩ = some (.bool false) := HPK.out.cell 3
  have p4 : z0.cell? ⟨gp, 4, none⟩ = some (.bool true) := HPK.out.cell 4
  have p5 : z0.cell? ⟨gp, 5, none⟩ = some (.bool false) := HPK.out.cell 5
  have p6 : z0.cell? ⟨gp, 6, none⟩ = some (.bool true) := HPK.out.cell 6
  have bx := gq4 HBY.out (9)
  have wx : IntKind.u32.wrap (gq l (9) 4) = gq l (9) 4 := IntWalk.u32_in _ (by omega)
  clear bx
  go_upto_region 11 with (go_at_call 60; refine (ogetq b g l (9) 4 sz4' _ HR0.out HL.out HBY.out).mono ?_; rintro e y1 ⟨rfl, hr, ho⟩; have hbk := HBK.out.only ho HNE.out; have ec : y1.cell? ⟨gm, 14, none⟩ = some (.int .u32 M0.sf) := hbk.cell 14; have ef := hbk.frozen 14)
  have hos := Only.set (b := gm) y1 14 (.int .u32 (gq l (9) 4))
  obtain ⟨M1, hM1⟩ : ∃ m, m = { M0 with sf := gq l (9) 4 } := ⟨_, rfl⟩
  have HBK : Hid (Blk (y1.setCell ⟨gm, 14, none⟩ (.int .u32 (gq l (9) 4))) gm 34 (mcs M1 (.slice none 0 0) (.slice none 0 0) (.slice none 0 0)).toArray) := Lib.hid (by rw [hM1]; exact hbk.set_ 14 _)
  have HPK := Lib.hid ((HPK.out.only ho HPN.out.1).only hos HPN.out.2)
  have HR1 := Lib.hid (hr.only hos HBM.out HGM.out)
  have HO1 := Lib.hid (HO0.out.trans ((Only2.of1 ho).trans (Only2.of2 hos)))
  have HPA1 : Hid (PA w.heap.size (y1.setCell ⟨gm, 14, none⟩ (.int .u32 (gq l (9) 4))) M1 (.slice none 0 0) (.slice none 0 0) (.slice none 0 0)) := Lib.hid (by rw [hM1]; exact ⟨((HPA0.out.only ho HBL.out).only hos HML.out).vals, ((HPA0.out.only ho HBL.out).only hos HML.out).box, ((HPA0.out.only ho HBL.out).only hos HML.out).recs⟩)
  have HE1 := Lib.hid hM1
  clear p1 p2 p3 p4 p5 p6 ec ef hbk ho hos hr hM1 wx
  generalize y1.setCell ⟨gm, 14, none⟩ (.int .u32 (gq l (9) 4)) = z1 at *
  have p1 : z1.cell? ⟨gp, 1, none⟩ = some (.bool false) := HPK.out.cell 1
  have p2 : z1.cell? ⟨gp, 2, none⟩ = some (.bool false) := HPK.out.cell 2
  have p3 : z1.cell? ⟨gp, 3, none⟩ = some (.bool false) := HPK.out.cell 3
  have p4 : z1.cell? ⟨gp, 4, none⟩ = some (.bool true) := HPK.out.cell 4
  have p5 : z1.cell? ⟨gp, 5, none⟩ = some (.bool false) := HPK.out.cell 5
  have p6 : z1.cell? ⟨gp, 6, none⟩ = some (.bool true) := HPK.out.cell 6
  have bx := gq4 HBY.out (9 + 4)
  have wx : IntKind.u32.wrap (gq l (9 + 4) 4) = gq l (9 + 4) 4 := IntWalk.u32_in _ (by omega)
  clear bx
  go_upto_region 12 with (go_at_call 60; refine (ogetq b g l (9 + 4) 4 sz4' _ HR1.out HL.out HBY.out).mono ?_; rintro e y2 ⟨rfl, hr, ho⟩; have hbk := HBK.out.only ho HNE.out; have ec : y2.cell? ⟨gm, 15, none⟩ = some (.int .u32 M1.st) := hbk.cell 15; have ef := hbk.frozen 15)
  have hos := Only.set (b := gm) y2 15 (.int .u32 (gq l (9 + 4) 4))
  obtain ⟨M2, hM2⟩ : ∃ m, m = { M1 with st := gq l (9 + 4) 4 } := ⟨_, rfl⟩
  have HBK : Hid (Blk (y2.setCell ⟨gm, 15, none⟩ (.int .u32 (gq l (9 + 4) 4))) gm 34 (mcs M2 (.slice none 0 0) (.slice none 0 0) (.slice none 0 0)).toArray) := Lib.hid (by rw [hM2]; exact hbk.set_ 15 _)
  have HPK := Lib.hid ((HPK.out.only ho HPN.out.1).only hos HPN.out.2)
  have HR2 := Lib.hid (hr.only hos HBM.out HGM.out)
  have HO2 := Lib.hid (HO1.out.trans ((Only2.of1 ho).trans (Only2.of2 hos)))
  have HPA2 : Hid (PA w.heap.size (y2.setCell ⟨gm, 15, none⟩ (.int .u32 (gq l (9 + 4) 4))) M2 (.slice none 0 0) (.slice none 0 0) (.slice none 0 0)) := Lib.hid (by rw [hM2]; exact ⟨((HPA1.out.only ho HBL.out).only hos HML.out).vals, ((HPA1.out.only ho HBL.out).only hos HML.out).box, ((HPA1.out.only ho HBL.out).only hos HML.out).recs⟩)
  have HE2 := Lib.hid hM2
  clear p1 p2 p3 p4 p5 p6 ec ef hbk ho hos hr hM2 wx
  generalize y2.setCell ⟨gm, 15, none⟩ (.int .u32 (gq l (9 + 4) 4)) = z2 at *
  have p1 : z2.cell? ⟨gp, 1, none⟩ = some (.bool false) := HPK.out.cell 1
  have p2 : z2.cell? ⟨gp, 2, none⟩ = some (.bool false) := HPK.out.cell 2
  have p3 : z2.cell? ⟨gp, 3, none⟩ = some (.bool false) := HPK.out.cell 3
  have p4 : z2.cell? ⟨gp, 4, none⟩ = some (.bool true) := HPK.out.cell 4
  have p5 : z2.cell? ⟨gp, 5, none⟩ = some (.bool false) := HPK.out.cell 5
  have p6 : z2.cell? ⟨gp, 6, none⟩ = some (.bool true) := HPK.out.cell 6
  obtain ⟨NN, hNN⟩ := Int.eq_ofNat_of_zero_le (show 0 ≤ gq l 17 2 from (gq2 HBY.out _).1)
  have HNN := Lib.hid hNN
  have HGL : Hid (∀ k, g = some k → k < z2.heap.size) := Lib.hid (fun k hk => by have := HGK.out k hk; have := HO2.out.size; omega)
  go_upto_if 99 with (go_at_call 78; refine (ogetrecs_any b g l (9 + 4 + 4) a NN _ HNN.out HR2.out HGL.out HL.out HBY.out HAA.out).mono ?_; rintro e y3 ⟨x, k, rfl, ⟨hs, hrow, hhn, hel⟩, hkn, hke, hr, ho⟩; have HROW := Lib.hid (hrow.mono HO2.out.size); have HEL := Lib.hid hel; have HHN := Lib.hid hhn; have hbk := HBK.out.only ho HNE.out; have ec : y3.cell? ⟨gm, 17, none⟩ = some (.slice none 0 0) := hbk.cell 17; have ef := hbk.frozen 17; obtain ⟨ax, cx, rfl, _, _⟩ := hrow.rd.form; clear hrow hel hhn)
  have hos := Only.set (b := gm) y3 17 (.slice ax hs.length cx)
  obtain ⟨M3, hM3⟩ : ∃ m, m = { M2 with recs := recsQ l (9 + 4 + 4 + 2) a k } := ⟨_, rfl⟩
  have HBK : Hid (Blk (y3.setCell ⟨gm, 17, none⟩ (.slice ax hs.length cx)) gm 34 (mcs M3 (.slice none 0 0) (.slice none 0 0) (.slice ax hs.length cx)).toArray) := Lib.hid (by rw [hM3]; exact hbk.set_ 17 _)
  have HPK := Lib.hid ((HPK.out.only ho HPN.out.1).only hos HPN.out.2)
  have HR3 := Lib.hid (hr.only hos HBM.out HGM.out)
  have HO3 := Lib.hid (HO2.out.trans ((Only2.of1 ho).trans (Only2.of2 hos)))
  have HPA3 : Hid (PA w.heap.size (y3.setCell ⟨gm, 17, none⟩ (.slice ax hs.length cx)) M3 (.slice none 0 0) (.slice none 0 0) (.slice ax hs.length cx)) := Lib.hid ⟨by rw [hM3]; exact ((HPA2.out.only ho HBL.out).only hos HML.out).vals, by rw [hM3]; exact ((HPA2.out.only ho HBL.out).only hos HML.out).box, by rw [hM3]; exact RecsAt.only ⟨hs, HROW.out, HHN.out, fun i x y hx hy => (HEL.out i x y hx hy).mono HO2.out.size⟩ hos HML.out⟩
  have HE3 := Lib.hid hM3
  have HKE := Lib.hid hke
  clear p1 p2 p3 p4 p5 p6 ec ef hbk ho hos hr hM3 hke
  generalize y3.setCell ⟨gm, 17, none⟩ (.slice ax hs.length cx) = z3 at *
  go_end0
  have HLQ : lenQ a l m0.kind = 9 + 4 + 4 + 2 + (16 + 4 * a) * NN := by
    unfold lenQ
    rw [if_neg (by rw [HQ.out]; decide), if_neg (by rw [HQ.out]; decide), if_neg (by rw [HQ.out]; decide), if_neg (by rw [HQ.out]; decide)]
    rw [show gq l 17 2 = (NN : Int) from HNN.out, Int.toNat_natCast]
    all_goals rfl
  have hbd := HM.out.bd
  have HMB : MB M3 := by
    rw [HE3.out, HE2.out, HE1.out, HE0.out]
    exact ⟨hbd.kind, hbd.hub, hbd.point, hbd.client, hbd.op, hbd.target, hbd.hops, hbd.owner, hbd.turn, hbd.ev, hbd.eid, hbd.ever, hbd.vals, gq4 HBY.out _, gq4 HBY.out _, hbd.box, recsQ_bd HBY.out _ _ _⟩
  refine ⟨⟨_, rfl⟩, M3, _, _, _, HBK.out, HPA3.out, HMB, fun hle => ?_, by rw [HLQ]; exact HR3.out, HO3.out⟩
  have hk := HKE.out (by rw [HLQ] at hle; exact hle)
  subst hk
  rw [HE3.out, HE2.out, HE1.out, HE0.out]
  unfold msgK
  rw [if_neg (by rw [HQ.out]; decide), if_neg (by rw [HQ.out]; decide), if_neg (by rw [HQ.out]; decide), if_neg (by rw [HQ.out]; decide)]
  rw [show gq l 17 2 = (k : Int) from HNN.out, Int.toNat_natCast]
end Go.Proofs.Ythhelhhlofdehaa
