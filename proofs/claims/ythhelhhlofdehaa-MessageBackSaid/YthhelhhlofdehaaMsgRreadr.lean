/- The document's answer for package message: readRecord. -/
import Derived.Test.YthhelhhlofdehaaMsgOrec
import Derived.Test.YthhelhhlofdehaaMsgObox
import Derived.Test.YthhelhhlofdehaaMsgPlans
import Derived.Test.YthhelhhlofdehaaBytes
set_option maxRecDepth 4000
namespace Go.Proofs.Ythhelhhlofdehaa
open Go.RowKit Mem
set_option linter.unusedSimpArgs false
set_option linter.unusedVariables false
attribute [local irreducible] Go.Calls

theorem u32Elem' : Elem Try.prog 24 22 1 4 := elem_of (z := .int .u32 0) Try.underlying24 (by kernel_rfl) rfl
theorem Blk.grown {w w' : World} {g : Nat} {t : TypeId} {cs : Array Value} {row : Option Nat} (h : Blk w g t cs) (k : w.grownBy w' row) (hne : row ≠ some g) : Blk w' g t cs := (k.block g h.lt (fun e => hne e.symm)).trans h
/-- what else has turned leaves a reader -/
theorem RdrQ.mv {w z z' : World} {b : Nat} {v : Value} {l : List Int} {q q0 : Nat} (h : RdrQ z b v l q) (h0 : RdrQ w b v l q0) (ho : Only b w z') (hb : ∀ cs, Blk z b 80 cs → Blk z' b 80 cs) : RdrQ z' b v l q := by
  obtain ⟨p, e, ⟨h1, h2, h3, h4⟩, h5⟩ := h
  obtain ⟨p0, e0, ⟨_, h7, _, h8⟩, _⟩ := h0
  exact ⟨p, e, ⟨hb _ h1, h7.only0 ho h8, h3, h4⟩, h5⟩
set_option maxRecDepth 100000 in
set_option maxHeartbeats 4000000 in
theorem rreadr_any (b : Nat) (v : Value) (l : List Int) (q a : Nat) (w : World) (h : RdrQ w b v l q) (hl : l.length ≤ 1000000) (hb : Byt l) (ha : a ≤ 8) :
    Calls Try.prog 39 #[.pointer (some ⟨b, 0, none⟩), .int .i64 a] w (ReadRPost b v l q a w) := by
  have hbw := h.lt
  have HBY := Lib.hid hb
  have HL := Lib.hid hl
  have HA := Lib.hid ha
  have hk0 : Below w.heap.size w (w.alloc (.cells #[.int .u64 0, .int .u64 0, .slice none 0 0] 26)) := more (Below.refl _ _) _
  have HRW := Lib.hid h
  have HR0 := Lib.hid (h.keep hk0)
  have HO0 := Lib.hid (Only.of_below (b := b) hk0)
  have HB4 := Lib.hid (Blk.newAt w 26 #[.int .u64 0, .int .u64 0, .slice none 0 0] rfl)
  have HBW := Lib.hid hbw
  clear h hk0 hb hl hbw ha
  go_enter Try.func39, Try.ntmps39
  go_upto_region 1 with fail
  generalize w.alloc (.cells #[.int .u64 0, .int .u64 0, .slice none 0 0] 26) = w1 at *
  obtain ⟨g4, hg4⟩ : ∃ g4, g4 = w.heap.size := ⟨_, rfl⟩
  rw [← hg4] at HB4 ⊢
  have HG4 := Lib.hid hg4
  have HN4 : Hid (g4 ≠ b) := Lib.hid (by have := HBW.out; omega)
  clear hg4
  go_upto_region 2 with (first | (go_at_call 38; refine (rgetq b v l q 8 sz8 _ HR0.out HL.out HBY.out).mono ?_; rintro e1 y1 ⟨rfl, hr1, ho1⟩) | (go_at_call 38; refine (rgetq b v l (q + 8) 8 sz8 _ hr1 HL.out HBY.out).mono ?_; rintro e2 y2 ⟨rfl, hr2, ho2⟩) | (refine wpList_store_row rfl 26 (.tmp 5) (.tmp 11) rfl y2.heap.size #[.int .u64 (gq l q 8), .int .u64 (gq l (q + 8) 8), .slice none 0 0] rfl rfl 26 _ (heap_alloc_new y2 _) rec_info rfl (by simp [Value.oneCell']) ?_))
  (try rw [World.setRow_alloc_new])
  have hX : Below y2.heap.size y2 (y2.alloc (.cells #[.int .u64 (gq l q 8), .int .u64 (gq l (q + 8) 8), .slice none 0 0] 26)) := more (Below.refl _ _) _
  have H50 := Lib.hid (Blk.new y2 26 #[.int .u64 (gq l q 8), .int .u64 (gq l (q + 8) 8), .slice none 0 0])
  have HR3 : Hid (RdrQ (y2.alloc (.cells #[.int .u64 (gq l q 8), .int .u64 (gq l (q + 8) 8), .slice none 0 0] 26)) b v l (q + 16)) := Lib.hid (hr2.keep hX)
  have HO3 := Lib.hid (HO0.out.trans ((ho1.trans ho2).trans (Only.of_below (b := b) hX)))
  have HB43 := Lib.hid (((HB4.out.only ho1 HN4.out).only ho2 HN4.out).keep hX)
  have HW5 : Hid (w.heap.size ≤ y2.heap.size) := Lib.hid (by have := (HO0.out.trans (ho1.trans ho2)).size; exact this)
  have HN5 : Hid (y2.heap.size ≠ b) := Lib.hid (by have := HBW.out; have := HW5.out; omega)
  have HN45 : Hid (g4 ≠ y2.heap.size) := Lib.hid (by have := ((HB4.out.only ho1 HN4.out).only ho2 HN4.out).lt; omega)
  clear hX hr1 hr2 ho1 ho2 HR0 HO0 HB4
  generalize y2.alloc (.cells #[.int .u64 (gq l q 8), .int .u64 (gq l (q + 8) 8), .slice none 0 0] 26) = w3 at *
  obtain ⟨g5, hg5⟩ : ∃ x, x = y2.heap.size := ⟨_, rfl⟩
  rw [← hg5] at H50 HN5 HN45 HW5 ⊢
  clear hg5
  go_upto_block 99 with fail
  go_loopw [6] (fun i wr => ∃ j : Nat, j ≤ a ∧ i = .int .i64 j ∧ (∃ x, Blk wr g5 26 #[.int .u64 (gq l q 8), .int .u64 (gq l (q + 8) 8), x] ∧ Row (intE .u32) 22 w.heap.size wr x (valQ l (q + 16) j)) ∧ RdrQ wr b v l (q + 16 + 4 * j) ∧ Only b w wr ∧ Blk wr g4 26 #[.int .u64 0, .int .u64 0, .slice none 0 0]) (fun i _ => a - (intOf i).toNat)
  case atStart => exact ⟨0, Nat.zero_le _, rfl, ⟨_, H50.out, by simpa [valQ] using Row.nil⟩, HR3.out, HO3.out, HB43.out⟩
  case round =>
    obtain ⟨j, hj, rfl, ⟨x, h5, hrow⟩, hr, ho, h4⟩ := hrel
    obtain ⟨ax, cx, rfl, hcx1, hcx2⟩ := hrow.rd.form
    have H5 := Lib.hid h5
    have HROW := Lib.hid hrow
    have HR := Lib.hid hr
    have HO := Lib.hid ho
    have H4 := Lib.hid h4
    have HVL := Lib.hid (valQ_len l (q + 16) j)
    by_cases hlt : j < a
    · have hj8 : j ≤ 8 := by have := HA.out; omega
      have hx := gq4 HBY.out (q + 16 + 4 * j)
      have hw : IntKind.u32.wrap (gq l (q + 16 + 4 * j) 4) = gq l (q + 16 + 4 * j) 4 := IntWalk.u32_in _ (by omega)
      have HX := Lib.hid (valQ_succ l (q + 16) j)
      have HNB : Hid ((Value.slice ax (valQ l (q + 16) j).length cx).ownBlock ≠ some b) := Lib.hid (fun e => by have := (hrow.block b e).1; have := HBW.out; omega)
      have HNG5 : Hid ((Value.slice ax (valQ l (q + 16) j).length cx).ownBlock ≠ some g5) := Lib.hid (hrow.ne_blk h5 (by decide))
      have HNG4 : Hid ((Value.slice ax (valQ l (q + 16) j).length cx).ownBlock ≠ some g4) := Lib.hid (hrow.ne_blk h4 (by decide))
      have e2 : wr.cell? ⟨g5, 2, none⟩ = some (.slice ax (valQ l (q + 16) j).length cx) := h5.cell 2
      generalize hgx : gq l (q + 16 + 4 * j) 4 = y at *
      have HGX := Lib.hid hgx
      clear hgx hx h5 hrow hr ho h4
      go_upto_region 5 with fail
      have hD : Below wr.heap.size wr wr.drew := (Below.refl _ _).drew
      refine Run.region_walkZ (S := fun z => z.cell? ⟨g5, 2, none⟩ = some (.slice ax (valQ l (q + 16) j).length cx))
        rmreadr.rows4 rmreadr.plan4z 8 _ (l := ?steps1) (by kernel_rfl) (by kernel_rfl) (by kernel_rfl) (by kernel_rfl) rfl rfl ?written1 e2 ?onward1
      case written1 =>
        simp only [rmreadr.plan4z, Run.stepsOf, Run.stepOf, Run.guardOf, List.getElem?_toArray, List.getElem?_cons_zero, List.getElem?_cons_succ, Option.map_some, Option.map_none, Option.bind_some, Option.toList_some, List.map_cons, List.map_nil, List.cons_append, List.nil_append]
        rfl
      repeat ((first
        | (refine Run.takes (v := ?_) ?_ ?_; rotate_left; (· intro w' hS'; go_simp; (try with_reducible rfl)))
        | (refine Run.takesG (v := ?_) ?_ ?_ ?_; rotate_left; (· simp only [List.getElem?_cons_zero, List.getElem?_cons_succ]); (· intro w' hS'; go_simp; (try with_reducible rfl)))
        | (refine Run.skipsT ?_ ?_; (· simp only [List.getElem?_cons_zero, List.getElem?_cons_succ]))
        | (refine Run.skipsF ?_ ?_; (· simp only [List.getElem?_cons_zero, List.getElem?_cons_succ]))
        | (refine Run.skipsU ?_ ?_; (· simp only [List.getElem?_cons_zero, List.getElem?_cons_succ]))
        | (refine Run.passT ?_ ?_; (· simp only [List.getElem?_cons_zero, List.getElem?_cons_succ]))
        | (refine Run.passF ?_ ?_; (· simp only [List.getElem?_cons_zero, List.getElem?_cons_succ]))
        | (refine Run.passU ?_ ?_; (· simp only [List.getElem?_cons_zero, List.getElem?_cons_succ]))
        | fail); simp only [Act.put, List.setIfInBounds_toArray, List.set_cons_zero, List.set_cons_succ])
      refine Run.runsS (Run.callF 38 (by kernel_rfl) (fun hS => rgetq b v l (q + 16 + 4 * j) 4 sz4' _ (HR.out.keep hD) HL.out HBY.out) rfl ?_)
      rintro hS e x1 ⟨rfl, hr1, ho1⟩
      rw [HGX.out]
      have HR1 := Lib.hid hr1
      have HO1 := Lib.hid ((HO.out.trans (Only.of_below (b := b) hD)).trans ho1)
      have H51 := Lib.hid ((H5.out.keep hD).only ho1 HN5.out)
      have H41 := Lib.hid ((H4.out.keep hD).only ho1 HN4.out)
      have HROW1 := Lib.hid ((HROW.out.keep hD).only ho1 HNB.out)
      refine ⟨_, rfl, H51.out.cell 2, fun _ => ⟨fun z => z.cell? ⟨g5, 2, none⟩ = some (.slice ax (valQ l (q + 16) j).length cx), fun z h => h, H51.out.cell 2, ?_⟩⟩
      clear hS hr1 ho1 hD HR HO H5 H4 HROW
      try simp only [Act.put, List.setIfInBounds_toArray, List.set_cons_zero, List.set_cons_succ]
      repeat ((first
        | (refine Run.takes (v := ?_) ?_ ?_; rotate_left; (· intro w' hS'; go_simp; (try with_reducible rfl)))
        | (refine Run.takesG (v := ?_) ?_ ?_ ?_; rotate_left; (· simp only [List.getElem?_cons_zero, List.getElem?_cons_succ]); (· intro w' hS'; go_simp; (try with_reducible rfl)))
        | (refine Run.skipsT ?_ ?_; (· simp only [List.getElem?_cons_zero, List.getElem?_cons_succ]))
        | (refine Run.skipsF ?_ ?_; (· simp only [List.getElem?_cons_zero, List.getElem?_cons_succ]))
        | (refine Run.skipsU ?_ ?_; (· simp only [List.getElem?_cons_zero, List.getElem?_cons_succ]))
        | (refine Run.passT ?_ ?_; (· simp only [List.getElem?_cons_zero, List.getElem?_cons_succ]))
        | (refine Run.passF ?_ ?_; (· simp only [List.getElem?_cons_zero, List.getElem?_cons_succ]))
        | (refine Run.passU ?_ ?_; (· simp only [List.getElem?_cons_zero, List.getElem?_cons_succ]))
        | fail); simp only [Act.put, List.setIfInBounds_toArray, List.set_cons_zero, List.set_cons_succ])
      refine Run.runsS (Run.one (fun hS K1 hK1 => ?_))
      go_simp
      have hX : Below x1.heap.size x1 (x1.alloc (.cells #[.int .u32 y] 22)) := more (Below.refl _ _) _
      have HX2 := Lib.hid (Row.lit (E := intE .u32) x1.heap.size x1 #[.int .u32 y] [y] 1 x1.heap.size rfl rfl rfl (Nat.le_refl _) (by simp [maxLen]) : Row (intE .u32) 22 x1.heap.size (x1.alloc (.cells #[.int .u32 y] 22)) (.slice (some ⟨x1.heap.size, 0, none⟩) 1 1) [y])
      have HR2 := Lib.hid (HR1.out.keep hX)
      have HO2 := Lib.hid (HO1.out.trans (Only.of_below (b := b) hX))
      have H52 := Lib.hid (H51.out.keep hX)
      have H42 := Lib.hid (H41.out.keep hX)
      have HROW2 := Lib.hid (HROW1.out.keep hX)
      refine hK1.out _ _ (H52.out.cell 2) (fun _ => ⟨fun z => z.cell? ⟨g5, 2, none⟩ = some (.slice ax (valQ l (q + 16) j).length cx), fun z h => h, H52.out.cell 2, ?_⟩)
      clear hS K1 hK1 hX HR1 HO1 H51 H41 HROW1
      generalize x1.alloc (.cells #[.int .u32 y] 22) = x2 at *
      try simp only [Act.put, List.setIfInBounds_toArray, List.set_cons_zero, List.set_cons_succ]
      repeat ((first
        | (refine Run.takes (v := ?_) ?_ ?_; rotate_left; (· intro w' hS'; go_simp; (try with_reducible rfl)))
        | (refine Run.takesG (v := ?_) ?_ ?_ ?_; rotate_left; (· simp only [List.getElem?_cons_zero, List.getElem?_cons_succ]); (· intro w' hS'; go_simp; (try with_reducible rfl)))
        | (refine Run.skipsT ?_ ?_; (· simp only [List.getElem?_cons_zero, List.getElem?_cons_succ]))
        | (refine Run.skipsF ?_ ?_; (· simp only [List.getElem?_cons_zero, List.getElem?_cons_succ]))
        | (refine Run.skipsU ?_ ?_; (· simp only [List.getElem?_cons_zero, List.getElem?_cons_succ]))
        | (refine Run.passT ?_ ?_; (· simp only [List.getElem?_cons_zero, List.getElem?_cons_succ]))
        | (refine Run.passF ?_ ?_; (· simp only [List.getElem?_cons_zero, List.getElem?_cons_succ]))
        | (refine Run.passU ?_ ?_; (· simp only [List.getElem?_cons_zero, List.getElem?_cons_succ]))
        | fail); simp only [Act.put, List.setIfInBounds_toArray, List.set_cons_zero, List.set_cons_succ])
      refine Run.runsS (Run.one (fun hS K1 hK1 => ?_))
      refine wp_append (E := intE .u32) (B := w.heap.size) (l := valQ l (q + 16) j) (m := [y]) (bytes := 4) u32Elem' Nat.zero_lt_one (.tmp 18) (.tmp 22) rfl rfl HROW2.out rfl HX2.out.rd (by rw [HVL.out]; simp [maxLen]; omega) (by rw [HVL.out]; simp; omega) HO2.out.size ?_
      intro v6 x6 hr6 hk6 hg6 _
      rw [← HX.out] at hr6
      have HROW6 := Lib.hid hr6
      have HO6 := Lib.hid (Only.upto HO2.out hk6)
      have H56 := Lib.hid (Blk.grown H52.out hg6 HNG5.out)
      have H46 := Lib.hid (Blk.grown H42.out hg6 HNG4.out)
      have HR6 := Lib.hid (HR2.out.mv HRW.out HO6.out (fun cs hc => Blk.grown hc hg6 HNB.out))
      obtain ⟨a6, c6, rfl, _, _⟩ := hr6.rd.form
      refine hK1.out _ _ (H56.out.cell 2) (fun _ => ⟨fun z => z.cell? ⟨g5, 2, none⟩ = some (.slice ax (valQ l (q + 16) j).length cx), fun z h => h, H56.out.cell 2, ?_⟩)
      clear hS K1 hK1 hr6 hk6 hg6 HR2 HO2 H52 H42 HROW2 HX2
      try simp only [Act.put, List.setIfInBounds_toArray, List.set_cons_zero, List.set_cons_succ]
      repeat ((first
        | (refine Run.takes (v := ?_) ?_ ?_; rotate_left; (· intro w' hS'; go_simp; (try with_reducible rfl)))
        | (refine Run.takesG (v := ?_) ?_ ?_ ?_; rotate_left; (· simp only [List.getElem?_cons_zero, List.getElem?_cons_succ]); (· intro w' hS'; go_simp; (try with_reducible rfl)))
        | (refine Run.skipsT ?_ ?_; (· simp only [List.getElem?_cons_zero, List.getElem?_cons_succ]))
        | (refine Run.skipsF ?_ ?_; (· simp only [List.getElem?_cons_zero, List.getElem?_cons_succ]))
        | (refine Run.skipsU ?_ ?_; (· simp only [List.getElem?_cons_zero, List.getElem?_cons_succ]))
        | (refine Run.passT ?_ ?_; (· simp only [List.getElem?_cons_zero, List.getElem?_cons_succ]))
        | (refine Run.passF ?_ ?_; (· simp only [List.getElem?_cons_zero, List.getElem?_cons_succ]))
        | (refine Run.passU ?_ ?_; (· simp only [List.getElem?_cons_zero, List.getElem?_cons_succ]))
        | fail); simp only [Act.put, List.setIfInBounds_toArray, List.set_cons_zero, List.set_cons_succ])
      refine Run.endsZ (fun hS K1 hK1 => ?_)
      have cc : x6.cell? ⟨g5, 2, none⟩ = some (.slice ax (valQ l (q + 16) j).length cx) := H56.out.cell 2
      have cf := H56.out.frozen 2
      clear hS
      go_simp
      refine hK1.out _ _ (NoPanic.normal ?_)
      clear hK1 K1 cc cf
      have hos := Only.set (b := g5) x6 2 (.slice a6 (valQ l (q + 16) (j + 1)).length c6)
      have HO7 := Lib.hid (Only.set_new HO6.out HW5.out 2 (.slice a6 (valQ l (q + 16) (j + 1)).length c6))
      have H57 : Hid (Blk (x6.setCell ⟨g5, 2, none⟩ (.slice a6 (valQ l (q + 16) (j + 1)).length c6)) g5 26 #[.int .u64 (gq l q 8), .int .u64 (gq l (q + 8) 8), .slice a6 (valQ l (q + 16) (j + 1)).length c6]) := Lib.hid (H56.out.set_ 2 _)
      have H47 := Lib.hid (H46.out.only hos HN45.out)
      have HROW7 := Lib.hid (HROW6.out.only hos (HROW6.out.ne_blk H56.out (by decide)))
      have HR7 := Lib.hid (HR6.out.mv HRW.out HO7.out (fun cs hc => hc.only hos (fun e => HN5.out e.symm)))
      clear hos HO6 H56 H46 HROW6 HR6
      generalize x6.setCell ⟨g5, 2, none⟩ (.slice a6 (valQ l (q + 16) (j + 1)).length c6) = x7 at *
      go_wp2_with fail
      exact ⟨⟨j + 1, by omega, by go_num, ⟨_, H57.out, HROW7.out⟩, by rw [show q + 16 + 4 * (j + 1) = q + 16 + 4 * j + 4 by omega]; exact HR7.out, HO7.out, H47.out⟩, by simp [intOf]; omega⟩
    · have hja : j = a := by omega
      subst hja
      clear h5 hrow hr ho h4
      go_upto_if 99 with (first | (refine wpList_load_row rfl 26 (.tmp 5) rfl g5 rfl 26 _ (0, 0) _ H5.out Try.underlying26 rfl rec_info ?_) | (refine wpList_store_row rfl 26 (.tmp 4) (.tmp 25) rfl g4 #[.int .u64 (gq l q 8), .int .u64 (gq l (q + 8) 8), .slice ax (valQ l (q + 16) j).length cx] rfl rfl 26 _ H4.out rec_info rfl (by simp [Value.oneCell']) ?_))
      refine bodyPost_ret (results_blk (l := [.int .u64 (gq l q 8), .int .u64 (gq l (q + 8) 8), .slice ax (valQ l (q + 16) j).length cx]) rfl Try.underlying26 rec_info rfl rfl (Blk.rowS H4.out _)) rfl ?_
      have hoz := Only.row_new HO.out (d := g4) (by rw [HG4.out]; exact Nat.le_refl _) #[.int .u64 (gq l q 8), .int .u64 (gq l (q + 8) 8), .slice ax (valQ l (q + 16) j).length cx]
      exact ⟨_, rfl, HROW.out.only (Only.rowS wr _) (HROW.out.ne_blk H4.out (by decide)), HR.out.mv HRW.out hoz (fun cs hc => hc.only (Only.rowS wr _) (fun e => HN4.out e.symm)), hoz⟩
end Go.Proofs.Ythhelhhlofdehaa
