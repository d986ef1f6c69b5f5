/- Package message: getEntry. -/
import Derived.Test.YthhelhhlofdehaaMsgOrec
set_option maxRecDepth 4000
namespace Go.Proofs.Ythhelhhlofdehaa
open Go.RowKit Mem
set_option linter.unusedSimpArgs false
set_option linter.unusedVariables false
attribute [local irreducible] Go.Calls

theorem ent_info : (Try.prog.info? 28).map (·.size) = some 5 := by kernel_rfl
/-- an entry's value, read from place q on, of that hub -/
def evQ (l : List Int) (q a : Nat) (hub : Int) : Int := if hub < a then (valQ l (q + 1 + 16) a).getD hub.toNat 0 else 0
def OGetEnt (b : Nat) (g : Option Nat) (l : List Int) (q a : Nat) (hub : Int) (w : World) (e : Ending) (w' : World) : Prop :=
  ∃ x, e = .returned (.agg #[.int .u32 (evQ l q a hub), .int .u64 (gq l (q + 1) 8), .int .u64 (gq l (q + 1 + 8) 8), x, .bool (gq l q 1 == 1)]) ∧ Row (intE .u32) 22 w.heap.size w' x (valQ l (q + 1 + 16) a) ∧ OrQ w' b g l (q + 1 + 16 + 4 * a) ∧ Only b w w'
set_option maxRecDepth 100000 in
set_option maxHeartbeats 4000000 in
theorem ogetent_any (b : Nat) (g : Option Nat) (l : List Int) (q a : Nat) (hub : Int) (w : World) (h : OrQ w b g l q) (hg : ∀ k, g = some k → k < w.heap.size) (hl : l.length ≤ 1000000) (hb : Byt l) (ha : 1 ≤ a ∧ a ≤ 8) (hh : 0 ≤ hub) :
    Calls Try.prog 76 #[.int .i64 a, .pointer (some ⟨b, 0, none⟩), .int .i64 hub] w (OGetEnt b g l q a hub w) := by
  have hbw := h.lt
  have HBY := Lib.hid hb
  have HL := Lib.hid hl
  have hk0 : Below w.heap.size w (w.alloc (.cells #[.int .u32 0, .int .u64 0, .int .u64 0, .slice none 0 0, .bool false] 28)) := more (Below.refl _ _) _
  have HR0 := Lib.hid (h.keep hk0)
  have HO0 := Lib.hid (Only.of_below (b := b) hk0)
  have HB6 := Lib.hid (Blk.newAt w 28 #[.int .u32 0, .int .u64 0, .int .u64 0, .slice none 0 0, .bool false] rfl)
  have HBW := Lib.hid hbw
  have HGK := Lib.hid hg
  have HAA := Lib.hid ha
  clear h hk0 hb hl hbw hg ha
  go_enter Try.func76, Try.ntmps76
  go_upto_region 1 with fail
  generalize w.alloc (.cells #[.int .u32 0, .int .u64 0, .int .u64 0, .slice none 0 0, .bool false] 28) = w1 at *
  obtain ⟨g6, hg6⟩ : ∃ g6, g6 = w.heap.size := ⟨_, rfl⟩
  rw [← hg6] at HB6 HBW ⊢
  have HG6 := Lib.hid hg6
  have HNE : Hid (g6 ≠ b) := Lib.hid (by have := HBW.out; omega)
  clear hg6
  go_upto_region 2 with (go_at_call 60; refine (ogetq b g l q 1 sz1 _ HR0.out HL.out HBY.out).mono ?_; rintro e1 y1 ⟨rfl, hr1, ho1⟩)
  have HR1 := Lib.hid hr1
  have HO1 := Lib.hid (HO0.out.trans ho1)
  have HB6 := Lib.hid (HB6.out.only ho1 HNE.out)
  have HGL : Hid (∀ k, g = some k → k < y1.heap.size) := Lib.hid (fun k hk => by have := HGK.out k hk; have := HO1.out.size; omega)
  have HG61 : Hid (g6 < y1.heap.size) := Lib.hid HB6.out.lt
  clear hr1 ho1 HR0 HO0
  go_upto_region 3 with (first | (go_at_call 82; refine (ogetrec_any b g l (q + 1) a _ HR1.out HGL.out HL.out HBY.out HAA.out).mono ?_; rintro e2 y2 ⟨x, rfl, hrow, hr2, ho2⟩; have HROW := Lib.hid hrow; obtain ⟨ax, cx, rfl, hcx1, hcx2⟩ := hrow.rd.form; clear hrow) | (refine wpList_store_row rfl 28 (.tmp 8) (.tmp 16) rfl y2.heap.size #[.int .u32 0, .int .u64 (gq l (q + 1) 8), .int .u64 (gq l (q + 1 + 8) 8), .slice ax (valQ l (q + 1 + 16) a).length cx, .bool (gq l q 1 == 1)] rfl rfl 28 _ (heap_alloc_new y2 _) ent_info rfl (by simp [Value.oneCell']) ?_))
  (try rw [World.setRow_alloc_new])
  have hX : Below y2.heap.size y2 (y2.alloc (.cells #[.int .u32 0, .int .u64 (gq l (q + 1) 8), .int .u64 (gq l (q + 1 + 8) 8), .slice ax (valQ l (q + 1 + 16) a).length cx, .bool (gq l q 1 == 1)] 28)) := more (Below.refl _ _) _
  have H8 := Lib.hid (Blk.new y2 28 #[.int .u32 0, .int .u64 (gq l (q + 1) 8), .int .u64 (gq l (q + 1 + 8) 8), .slice ax (valQ l (q + 1 + 16) a).length cx, .bool (gq l q 1 == 1)])
  have HR3 := Lib.hid (hr2.keep hX)
  have HO3 := Lib.hid (HO1.out.trans (ho2.trans (Only.of_below (b := b) hX)))
  have HB6 := Lib.hid ((HB6.out.only ho2 HNE.out).keep hX)
  have HNX : Hid ((Value.slice ax (valQ l (q + 1 + 16) a).length cx).ownBlock ≠ some y2.heap.size) := Lib.hid (fun e => by have := (HROW.out.block _ e).2; omega)
  have HN6 : Hid ((Value.slice ax (valQ l (q + 1 + 16) a).length cx).ownBlock ≠ some g6) := Lib.hid (fun e => by have := (HROW.out.block _ e).1; have := HG61.out; omega)
  have HNG : Hid (y2.heap.size ≠ g6) := Lib.hid (by have := HG61.out; have := ho2.size; omega)
  have HROW3 : Hid (Row (intE .u32) 22 w.heap.size (y2.alloc (.cells #[.int .u32 0, .int .u64 (gq l (q + 1) 8), .int .u64 (gq l (q + 1 + 8) 8), .slice ax (valQ l (q + 1 + 16) a).length cx, .bool (gq l q 1 == 1)] 28)) (.slice ax (valQ l (q + 1 + 16) a).length cx) (valQ l (q + 1 + 16) a)) := Lib.hid ((HROW.out.mono HO1.out.size).keep hX)
  have HN8B : Hid (b ≠ y2.heap.size) := Lib.hid (by have := hr2.lt; omega)
  have HG8G : Hid (g ≠ some y2.heap.size) := Lib.hid (fun e => by have := HGL.out _ e; have := ho2.size; omega)
  have HW8 : Hid (w.heap.size ≤ y2.heap.size) := Lib.hid (by have := HO1.out.size; have := ho2.size; omega)
  have HB6B : Hid (b ≠ g6) := Lib.hid (fun e => HNE.out e.symm)
  have HG6G : Hid (g ≠ some g6) := Lib.hid (fun e => by have := HGK.out _ e; have := HG6.out; omega)
  have HVL := Lib.hid (valQ_len l (q + 1 + 16) a)
  have HGW : Hid (w.heap.size ≤ g6) := Lib.hid (by have := HG6.out; omega)
  clear hX hr2 ho2 HR1 HO1 HROW HGK HGL HG61
  generalize y2.alloc (.cells #[.int .u32 0, .int .u64 (gq l (q + 1) 8), .int .u64 (gq l (q + 1 + 8) 8), .slice ax (valQ l (q + 1 + 16) a).length cx, .bool (gq l q 1 == 1)] 28) = w3 at *
  obtain ⟨g8, hg8⟩ : ∃ x, x = y2.heap.size := ⟨_, rfl⟩
  rw [← hg8] at H8 HNX HNG HN8B HG8G HW8 ⊢
  clear hg8
  by_cases hlt : hub < a
  · have HEV : Hid (evQ l q a hub = (valQ l (q + 1 + 16) a).getD hub.toNat 0) := Lib.hid (by unfold evQ; rw [if_pos hlt])
    obtain ⟨k, rfl⟩ := Int.eq_ofNat_of_zero_le hh
    obtain ⟨av', gv, ov, cv', hv1, hv2, hv3, hv4, hv5⟩ := Mem.Rd.loopI HROW3.out.rd
    have hkl : k < (valQ l (q + 1 + 16) a).length := by rw [HVL.out]; omega
    injection hv1 with e1 e2 e3
    obtain ⟨e4, _⟩ := hv4 (by omega)
    have d3 : w3.cell? ⟨g8, 3, none⟩ = some (.slice (some ⟨gv, ov, none⟩) (valQ l (q + 1 + 16) a).length cx) := by rw [← e4, ← e1]; exact H8.out.cell 3
    have dv : w3.cell? ⟨gv, ov + k, none⟩ = some (.int .u32 ((valQ l (q + 1 + 16) a).getD k 0)) := hv5 k hkl
    have c0 : w3.cell? ⟨g8, 0, none⟩ = some (.int .u32 0) := H8.out.cell 0
    have f0 := H8.out.frozen 0
    rw [Int.toNat_natCast] at HEV
    obtain ⟨vv, hvv⟩ : ∃ vv, vv = (valQ l (q + 1 + 16) a).getD k 0 := ⟨_, rfl⟩
    rw [← hvv] at dv HEV
    rw [HVL.out] at d3
    have hlt' : k < a := by omega
    clear hv2 hv3 hv4 hv5 e1 e2 e3 e4 hvv hkl
    go_upto_region 5 with fail
    have ho := Only.set (b := g8) w3 0 (.int .u32 vv)
    have H84 : Hid (Blk (w3.setCell ⟨g8, 0, none⟩ (.int .u32 vv)) g8 28 #[.int .u32 vv, .int .u64 (gq l (q + 1) 8), .int .u64 (gq l (q + 1 + 8) 8), (.slice ax (valQ l (q + 1 + 16) a).length cx), .bool (gq l q 1 == 1)]) := Lib.hid (H8.out.set_ 0 (.int .u32 vv))
    have HR4 := Lib.hid (HR3.out.only ho HN8B.out HG8G.out)
    have HO4 := Lib.hid (Only.set_new HO3.out HW8.out 0 (.int .u32 vv))
    have HROW4 := Lib.hid (HROW3.out.only ho HNX.out)
    have HB6 := Lib.hid (HB6.out.only ho (fun e => HNG.out e.symm))
    clear ho c0 f0 d3 dv
    generalize w3.setCell ⟨g8, 0, none⟩ (.int .u32 vv) = w4 at *
    go_upto_if 99 with (first | (refine wpList_load_row rfl 28 (.tmp 8) rfl g8 rfl 28 _ (0, 0) _ H84.out Try.underlying28 rfl ent_info ?_) | (refine wpList_store_row rfl 28 (.tmp 6) (.tmp 27) rfl g6 #[.int .u32 vv, .int .u64 (gq l (q + 1) 8), .int .u64 (gq l (q + 1 + 8) 8), (.slice ax (valQ l (q + 1 + 16) a).length cx), .bool (gq l q 1 == 1)] rfl rfl 28 _ HB6.out ent_info rfl (by simp [Value.oneCell']) ?_))
    refine bodyPost_ret (results_blk (l := [.int .u32 vv, .int .u64 (gq l (q + 1) 8), .int .u64 (gq l (q + 1 + 8) 8), (.slice ax (valQ l (q + 1 + 16) a).length cx), .bool (gq l q 1 == 1)]) rfl Try.underlying28 ent_info rfl rfl (Blk.rowS HB6.out _)) rfl ?_
    exact ⟨_, by rw [HEV.out], HROW4.out.only (Only.rowS w4 _) HN6.out, HR4.out.only (Only.rowS w4 _) HB6B.out HG6G.out, Only.row_new HO4.out HGW.out _⟩
  · have HEV : Hid (evQ l q a hub = 0) := Lib.hid (by unfold evQ; rw [if_neg hlt])
    go_upto_if 99 with (first | (refine wpList_load_row rfl 28 (.tmp 8) rfl g8 rfl 28 _ (0, 0) _ H8.out Try.underlying28 rfl ent_info ?_) | (refine wpList_store_row rfl 28 (.tmp 6) (.tmp 27) rfl g6 #[.int .u32 0, .int .u64 (gq l (q + 1) 8), .int .u64 (gq l (q + 1 + 8) 8), (.slice ax (valQ l (q + 1 + 16) a).length cx), .bool (gq l q 1 == 1)] rfl rfl 28 _ HB6.out ent_info rfl (by simp [Value.oneCell']) ?_))
    refine bodyPost_ret (results_blk (l := [.int .u32 0, .int .u64 (gq l (q + 1) 8), .int .u64 (gq l (q + 1 + 8) 8), (.slice ax (valQ l (q + 1 + 16) a).length cx), .bool (gq l q 1 == 1)]) rfl Try.underlying28 ent_info rfl rfl (Blk.rowS HB6.out _)) rfl ?_
    exact ⟨_, by rw [HEV.out], HROW3.out.only (Only.rowS w3 _) HN6.out, HR3.out.only (Only.rowS w3 _) HB6B.out HG6G.out, Only.row_new HO3.out HGW.out _⟩
end Go.Proofs.Ythhelhhlofdehaa
