/- The document's answers for package shelf (petasosref09): copies of entries, find, ahead, Live, Get. -/
import Derived.Test.YtihfkjodjaoocaaEnts
import Derived.Test.YtihfkjodjaoocaaSameE
import Derived.Test.YtihfkjodjaoocaaRecord
import Derived.Test.YtihfkjodjaoocaaRun
import Derived.Test.YtihfkjodjaoocaaShPlans
import Derived.Laws.Tables
import Derived.Deep.MidRow
import Derived.Deep.DeepCutAuto
import Derived.Deep.CutBlock
set_option maxRecDepth 4000
namespace Go.Proofs.Ytihfkjodjaoocaa
open Go.RowKit Mem
set_option linter.unusedSimpArgs false
set_option linter.unusedVariables false
attribute [local irreducible] Go.Calls

theorem u32Elem9 : Elem Try.prog 24 22 1 4 := elem_of (z := .int .u32 0) Try.underlying24 (by kernel_rfl) rfl
def CopyRPost (i v : Int) (l : List Int) (w : World) (e : Ending) (w' : World) : Prop := ∃ x, e = .returned (.agg #[.int .u64 i, .int .u64 v, x]) ∧ Row (intE .u32) 22 w.heap.size w' x l ∧ Below w.heap.size w w'
set_option maxRecDepth 100000 in
set_option maxHeartbeats 2000000 in
theorem copyrec_any (i v : Int) (x : Value) (l : List Int) (w : World) (h : Rd (intE .u32) w x l) (hl : l.length ≤ 35184372087808) :
    Calls Try.prog 43 #[.agg #[.int .u64 i, .int .u64 v, x]] w (CopyRPost i v l w) := by
  obtain ⟨ax, cx, rfl, _, _⟩ := h.form
  have hk0 : Below w.heap.size w ((w.alloc (.cells #[.int .u64 i, .int .u64 v, .slice ax l.length cx] 26)).alloc (.cells #[.int .u64 0, .int .u64 0, .slice none 0 0] 26)) := more (more (Below.refl _ _) _) _
  have HB1 : Hid (Blk ((w.alloc (.cells #[.int .u64 i, .int .u64 v, .slice ax l.length cx] 26)).alloc (.cells #[.int .u64 0, .int .u64 0, .slice none 0 0] 26)) w.heap.size 26 #[.int .u64 i, .int .u64 v, .slice ax l.length cx]) := Lib.hid ((Blk.new w _ _).keep (more (Below.refl _ _) _))
  have HB2 : Hid (Blk ((w.alloc (.cells #[.int .u64 i, .int .u64 v, .slice ax l.length cx] 26)).alloc (.cells #[.int .u64 0, .int .u64 0, .slice none 0 0] 26)) (w.heap.size + 1) 26 #[.int .u64 0, .int .u64 0, .slice none 0 0]) := Lib.hid (Blk.newAt _ _ _ (size_alloc _ _).symm)
  have HX := Lib.hid (h.keep hk0)
  have HK := Lib.hid hk0
  have HL := Lib.hid hl
  clear h hk0 hl
  go_enter Try.func43, Try.ntmps43
  go_upto_region 1 with fail
  generalize (w.alloc (.cells #[.int .u64 i, .int .u64 v, .slice ax l.length cx] 26)).alloc (.cells #[.int .u64 0, .int .u64 0, .slice none 0 0] 26) = w1 at *
  have c2 : w1.cell? ⟨w.heap.size, 2, none⟩ = some (.slice ax l.length cx) := HB1.out.cell 2
  obtain ⟨g1, hg1⟩ : ∃ g, g = w.heap.size := ⟨_, rfl⟩
  have HG1 := Lib.hid hg1
  rw [← hg1] at HB1 HB2 c2 ⊢
  clear hg1
  have HS1 := Lib.hid HB2.out.lt
  go_upto_region 2 with (at_builtin; refine wpList_append (E := intE .u32) (B := w1.heap.size) (v := .slice none 0 0) (l := []) (m := l) (bytes := 4) u32Elem9 Nat.one_pos rfl (.const (.slice none 0 0)) (.tmp 4) rfl rfl Row.nil rfl HX.out (by have := HL.out; simp [maxLen]; omega) (by have := HL.out; simp; omega) (Nat.le_refl _) ?_; intro vq w2 hr2 hk2 _ _; rw [List.nil_append] at hr2; have HR2 := Lib.hid hr2; have ec := (HB1.out.keep hk2).cell 2; have ec : w2.cell? ⟨g1, 2, none⟩ = some (.slice ax l.length cx) := ec; have ef := (HB1.out.keep hk2).frozen 2; obtain ⟨aq, cq, rfl, _, _⟩ := hr2.rd.form; clear hr2)
  have hos := Only.set (b := g1) w2 2 (.slice aq l.length cq)
  have HB13 : Hid (Blk (w2.setCell ⟨g1, 2, none⟩ (.slice aq l.length cq)) g1 26 #[.int .u64 i, .int .u64 v, .slice aq l.length cq]) := Lib.hid ((HB1.out.keep hk2).set_ 2 _)
  have HB23 := Lib.hid ((HB2.out.keep hk2).only hos (by omega))
  have HR3 := Lib.hid (HR2.out.only hos (fun e => by have := (HR2.out.block g1 e).1; have := HS1.out; omega))
  have HK3 := Lib.hid ((nest HK.out hk2).trans (hos.below (by have := HG1.out; omega) (nest HK.out hk2).size))
  have HW1 : Hid (w.heap.size ≤ w1.heap.size) := Lib.hid HK.out.size
  clear hos hk2 ec ef c2 HB1 HB2 HR2 HK HX
  generalize w2.setCell ⟨g1, 2, none⟩ (.slice aq l.length cq) = w3 at *
  go_upto_if 99 with (first | (refine at_load 1 rfl ?_; refine wpList_load_row rfl 26 (.tmp 1) rfl g1 rfl 26 _ (0, 0) _ HB13.out Try.underlying26 rfl rec_info ?_) | (refine at_store 2 rfl ?_; refine wpList_store_row rfl 26 (.tmp 2) (.tmp 7) rfl (g1 + 1) #[.int .u64 i, .int .u64 v, .slice aq l.length cq] rfl rfl 26 _ HB23.out rec_info rfl (by simp [Value.oneCell']) ?_))
  refine bodyPost_ret (results_blk (l := [.int .u64 i, .int .u64 v, .slice aq l.length cq]) rfl Try.underlying26 rec_info rfl rfl (Blk.rowS HB23.out _)) rfl ?_
  exact ⟨_, rfl, (HR3.out.only (Only.rowS w3 _) (HR3.out.ne_blk HB23.out (by decide))).mono HW1.out, HK3.out.trans ((Only.rowS w3 _).below (by have := HG1.out; omega) HK3.out.size)⟩
def CopyEPost (y : Ent) (w : World) (e : Ending) (w' : World) : Prop := ∃ x, e = .returned (.agg (ecl y x).toArray) ∧ Row (intE .u32) 22 w.heap.size w' x y.2.1.2.2 ∧ Below w.heap.size w w'
set_option maxRecDepth 100000 in
set_option maxHeartbeats 2000000 in
theorem copyent_any (y : Ent) (x : Value) (w : World) (h : Rd (intE .u32) w x y.2.1.2.2) (hl : y.2.1.2.2.length ≤ 35184372087808) :
    Calls Try.prog 29 #[.agg (ecl y x).toArray] w (CopyEPost y w) := by
  obtain ⟨a, ⟨i, v, l⟩, g⟩ := y
  have h : Rd (intE .u32) w x l := h
  have hl : l.length ≤ 35184372087808 := hl
  obtain ⟨ax, cx, rfl, _, _⟩ := h.form
  show Calls Try.prog 29 #[.agg #[.int .u32 a, .int .u64 i, .int .u64 v, .slice ax l.length cx, .bool g]] w _
  have hk0 : Below w.heap.size w ((w.alloc (.cells #[.int .u32 a, .int .u64 i, .int .u64 v, .slice ax l.length cx, .bool g] 28)).alloc (.cells #[.int .u32 0, .int .u64 0, .int .u64 0, .slice none 0 0, .bool false] 28)) := more (more (Below.refl _ _) _) _
  have HB1 : Hid (Blk ((w.alloc (.cells #[.int .u32 a, .int .u64 i, .int .u64 v, .slice ax l.length cx, .bool g] 28)).alloc (.cells #[.int .u32 0, .int .u64 0, .int .u64 0, .slice none 0 0, .bool false] 28)) w.heap.size 28 #[.int .u32 a, .int .u64 i, .int .u64 v, .slice ax l.length cx, .bool g]) := Lib.hid ((Blk.new w _ _).keep (more (Below.refl _ _) _))
  have HB2 : Hid (Blk ((w.alloc (.cells #[.int .u32 a, .int .u64 i, .int .u64 v, .slice ax l.length cx, .bool g] 28)).alloc (.cells #[.int .u32 0, .int .u64 0, .int .u64 0, .slice none 0 0, .bool false] 28)) (w.heap.size + 1) 28 #[.int .u32 0, .int .u64 0, .int .u64 0, .slice none 0 0, .bool false]) := Lib.hid (Blk.newAt _ _ _ (size_alloc _ _).symm)
  have HX := Lib.hid (h.keep hk0)
  have HK := Lib.hid hk0
  have HL := Lib.hid hl
  clear h hk0 hl
  go_enter Try.func29, Try.ntmps29
  go_upto_region 1 with fail
  generalize (w.alloc (.cells #[.int .u32 a, .int .u64 i, .int .u64 v, .slice ax l.length cx, .bool g] 28)).alloc (.cells #[.int .u32 0, .int .u64 0, .int .u64 0, .slice none 0 0, .bool false] 28) = w1 at *
  obtain ⟨g1, hg1⟩ : ∃ g, g = w.heap.size := ⟨_, rfl⟩
  have HG1 := Lib.hid hg1
  rw [← hg1] at HB1 HB2 ⊢
  clear hg1
  have HS1 := Lib.hid HB2.out.lt
  have c1 : w1.cell? ⟨g1, 1, none⟩ = some (.int .u64 i) := HB1.out.cell 1
  have c2 : w1.cell? ⟨g1, 2, none⟩ = some (.int .u64 v) := HB1.out.cell 2
  have c3 : w1.cell? ⟨g1, 3, none⟩ = some (.slice ax l.length cx) := HB1.out.cell 3
  go_upto_region 2 with (first | (go_at_call 43; refine (copyrec_any i v _ l _ HX.out HL.out).mono ?_; rintro e w2 ⟨xq, rfl, hr2, hk2⟩; have HR2 := Lib.hid hr2; obtain ⟨aq, cq, rfl, _, _⟩ := hr2.rd.form; have hbk := HB1.out.keep hk2; clear hr2) | (refine at_store 6 rfl ?_; refine wpList_store_mid rfl 26 (.tmp 6) (.tmp 5) rfl g1 1 #[.int .u64 i, .int .u64 v, .slice aq l.length cq] rfl rfl (there_blk hbk 1 3 (by simp)) rec_info (by simp [Value.oneCell']) ?_))
  obtain ⟨ST, hST⟩ : ∃ S, S = w2.setCells g1 1 [.int .u64 i, .int .u64 v, .slice aq l.length cq] := ⟨_, rfl⟩
  have hos : Only g1 w2 ST := by rw [hST]; exact ((Only.set _ 1 _).trans (Only.set _ 2 _)).trans (Only.set _ 3 _)
  have HB13 : Hid (Blk ST g1 28 #[.int .u32 a, .int .u64 i, .int .u64 v, .slice aq l.length cq, .bool g]) := Lib.hid (by rw [hST]; exact ((hbk.set_ 1 _).set_ 2 _).set_ 3 _)
  have HB23 := Lib.hid ((HB2.out.keep hk2).only hos (by omega))
  have HR3 := Lib.hid (HR2.out.only hos (fun e => by have := (HR2.out.block g1 e).1; have := HS1.out; omega))
  have HK3 := Lib.hid ((nest HK.out hk2).trans (hos.below (by have := HG1.out; omega) (nest HK.out hk2).size))
  have HW1 : Hid (w.heap.size ≤ w1.heap.size) := Lib.hid HK.out.size
  (try rw [← hST])
  clear hos hk2 hbk c1 c2 c3 HB1 HB2 HR2 HK HX
  (try clear hST)
  generalize ST = w3 at *
  go_upto_if 99 with (first | (refine at_load 1 rfl ?_; refine wpList_load_row rfl 28 (.tmp 1) rfl g1 rfl 28 _ (0, 0) _ HB13.out Try.underlying28 rfl ent_info' ?_) | (refine at_store 2 rfl ?_; refine wpList_store_row rfl 28 (.tmp 2) (.tmp 7) rfl (g1 + 1) #[.int .u32 a, .int .u64 i, .int .u64 v, .slice aq l.length cq, .bool g] rfl rfl 28 _ HB23.out ent_info' rfl (by simp [Value.oneCell']) ?_))
  refine bodyPost_ret (results_blk (l := [.int .u32 a, .int .u64 i, .int .u64 v, .slice aq l.length cq, .bool g]) rfl Try.underlying28 ent_info' rfl rfl (Blk.rowS HB23.out _)) rfl ?_
  exact ⟨_, rfl, (HR3.out.only (Only.rowS w3 _) (HR3.out.ne_blk HB23.out (by decide))).mono HW1.out, HK3.out.trans ((Only.rowS w3 _).below (by have := HG1.out; omega) HK3.out.size)⟩
end Go.Proofs.Ytihfkjodjaoocaa
