/- Walks of package shelf: Join. -/
import Derived.Test.YtihfkjodjaoocaaShJoin2
set_option maxRecDepth 4000
namespace Go.Proofs.Ytihfkjodjaoocaa
open Go.RowKit Mem
set_option linter.unusedSimpArgs false
set_option linter.unusedVariables false
attribute [local irreducible] Go.Calls

theorem shjoin_nil (Q : Nat → Prop) (v : Value) (l : List Ent) (w : World) (hv : EntsIn Q w v l) (hn : l.length ≤ 1000000) : Calls Try.prog 19 #[.pointer none, v] w fun e w' => e = .returned (.int .i64 0) ∧ Below w.heap.size w w' := by
  go_enter Try.func19, Try.ntmps19
  go_wp2_with fail
  go_ret
  exact ⟨rfl, Below.refl _ _⟩
theorem change_new (b : Nat) (w : World) : (w.alloc (.cells Try.zeroCells77 77)).setRow w.heap.size (Try.zeroCells77.setIfInBounds 0 (.pointer (some ⟨b, 0, none⟩))) = w.alloc (.cells (ch0 b) 77) := by
  rw [World.setRow_alloc_new, ch0_is]
theorem joinL_max {L : List Ent} (l : List Ent) (hu : UniqK L) (hn : L.length ≤ 10000) : ∀ k, k ≤ l.length → (joinL L (l.take k)).1.length ≤ 10000 := by
  intro k
  induction k with
  | zero => intro _; simpa [joinL] using hn
  | succ k ih =>
    intro hk
    rw [joinL_step L (by omega)]
    exact putL_max _ (joinL_uniq _ hu) (ih (by omega))
set_option maxRecDepth 100000 in
set_option maxHeartbeats 4000000 in
theorem shjoin_any (b : Nat) (W R Q : Nat → Prop) (L l : List Ent) (v : Value) (w : World) (h : ShAt w b W R L) (hv : EntsIn Q w v l) (hQ : ∀ j, Q j → ¬ W j) (hl : ∀ y ∈ l, okE y) (hn : l.length ≤ 1000000) :
    Calls Try.prog 19 #[.pointer (some ⟨b, 0, none⟩), v] w fun e w' => e = .returned (.int .i64 (joinL L l).2) ∧ SStep W R w w' b (joinL L l).1 := by
  have hv2 := hv.mono (Q' := fun j => ¬ j = b ∧ j < w.heap.size) (fun j hj hq => ⟨fun e => hQ j hq ((h.2.1 j).2 e), hj⟩)
  obtain ⟨a, g, off, c, rfl, hc1, hc2, hc3, hc4⟩ := hv2.at
  have hc2' : c ≤ 9223372036854775807 := hc2
  have HV := Lib.hid hv2
  have HL := Lib.hid hl
  have HN := Lib.hid hn
  have HH := Lib.hid h
  have HUL := Lib.hid h.uniq
  obtain ⟨hln, _, _, _, cs, B, hs⟩ := h
  have HLN := Lib.hid hln
  have HS := Lib.hid hs
  clear hc2 hc3 hc4 hv hv2 hl hQ hs hln
  go_enter Try.func19, Try.ntmps19
  go_upto_region 4 with (first | (refine at_store 5 rfl ?_; refine wpList_store_row rfl 77 (.tmp 5) (.tmp 14) rfl w.heap.size (Try.zeroCells77.setIfInBounds 0 (.pointer (some ⟨b, 0, none⟩))) rfl rfl 77 Try.zeroCells77 (Blk.new _ _ _) (by rw [ch0_is, ch0_size]; exact change_info) (by rw [ch0_is, ch0_size, zero_change_cells]; simp) (by rw [ch0_is]; exact ch0_one b) ?_))
  rw [change_new, ch0_is]
  have HBC : Hid (Blk (w.alloc (.cells (ch0 b) 77)) w.heap.size 77 (ch0 b)) := Lib.hid (Blk.new _ _ _)
  have HK : Hid (Below w.heap.size w (w.alloc (.cells (ch0 b) 77))) := Lib.hid (more (Below.refl _ _) _)
  generalize w.alloc (.cells (ch0 b) 77) = w2 at *
  have HC0 := Lib.hid (change_start HS.out HK.out HBC.out (Nat.le_refl _))
  obtain ⟨w0, hw0⟩ : ∃ x, x = w.heap.size := ⟨_, rfl⟩
  have HW0 := Lib.hid hw0
  rw [← hw0] at HC0 HK HBC ⊢
  clear hw0 HS
  simp only [Act.put]
  go_upto_block 99 with fail
  go_loopw [6, 17] (fun s n wr => ∃ j : Nat, j ≤ l.length ∧ s = .int .i64 (joinL L (l.take j)).2 ∧ n = .int .i64 j ∧ (∃ cs' B' fl', ChIs w0 wr b w0 (fun j => R j ∨ w0 ≤ j) (joinL L (l.take j)).1.length (joinL L (l.take j)).1 cs' B' fl') ∧ Turned (fun j => j = b ∨ w0 ≤ j) w wr) (fun _ n _ => l.length - (intOf n).toNat)
  case atStart => exact ⟨0, Nat.zero_le _, rfl, rfl, ⟨_, _, _, HC0.out⟩, Turned.of_below (by have := HK.out; rw [HW0.out] at this; exact this)⟩
  case round =>
    obtain ⟨j, hj, rfl, rfl, ⟨cs', B', fl', hch⟩, ht⟩ := hrel
    have HT := Lib.hid ht
    have HCH := Lib.hid hch
    have hvr : EntsIn (fun j => ¬ j = b ∧ j < w.heap.size) wr (.slice a l.length c) l := HV.out.turned ht (fun j hj hS => by
      rcases hS with e | e
      · exact hj.1 e
      · have := hj.2; have := HW0.out; omega)
    obtain ⟨a', g', off', c', hva, _, _, hc3', hc4'⟩ := hvr.at
    injection hva with e1 e2 e3
    subst e1 e3
    clear hch ht hvr e2
    by_cases hlt : j < l.length
    · obtain ⟨rfl, hg1, hg2⟩ := hc3' (by omega)
      obtain ⟨x, d0, d1, d2, d3, d4, hrx, _⟩ := hc4' j hlt
      have hm : l.getD j e0 ∈ l := by rw [show l.getD j e0 = l[j] by simp [List.getD, hlt]]; exact List.getElem_mem _
      have hyb := HL.out _ hm
      have hJL := joinL_len L l j hj
      have HMX := Lib.hid (joinL_max l HUL.out HLN.out j hj)
      have HSTEP := Lib.hid (joinL_step L hlt)
      obtain ⟨S, hS⟩ : ∃ S, S = joinL L (l.take j) := ⟨_, rfl⟩
      rw [← hS] at HCH HSTEP HMX hJL ⊢
      obtain ⟨y, hy⟩ : ∃ y, y = l.getD j e0 := ⟨_, rfl⟩
      rw [← hy] at d0 d1 d2 d4 hrx hyb HSTEP
      obtain ⟨ax, cx, rfl, _, _⟩ := hrx.form
      have HPUT : Hid (∀ z, Below wr.heap.size wr z → Calls Try.prog 33 #[.pointer (some ⟨w0, 0, none⟩), .agg (ecl y (.slice ax y.2.1.2.2.length cx)).toArray] z fun e w' => e = .returned (.tuple #[.bool (putL S.1 y).2.1, .int .i64 (putL S.1 y).2.2]) ∧ (∃ cs' B' fl', ChIs w0 w' b w0 (fun j => R j ∨ w0 ≤ j) (putL S.1 y).1.length (putL S.1 y).1 cs' B' fl') ∧ Turned (fun j => j = b ∨ w0 ≤ j) z w') :=
        Lib.hid (fun z k => shcput_any w0 b w0 _ S.1 cs' B' fl' y (.slice ax y.2.1.2.2.length cx) z (HCH.out.keep k) (hrx.keep k) hyb HMX.out)
      obtain ⟨P, hP⟩ : ∃ P, P = putL S.1 y := ⟨_, rfl⟩
      rw [← hP] at HPUT HSTEP
      obtain ⟨ya, ⟨yi, yv, yl⟩, yg⟩ := y
      have d0 : wr.cell? ⟨g', off' + j * 5, none⟩ = some (.int .u32 ya) := d0
      have d1 : wr.cell? ⟨g', off' + j * 5 + 1, none⟩ = some (.int .u64 yi) := d1
      have d2 : wr.cell? ⟨g', off' + j * 5 + 2, none⟩ = some (.int .u64 yv) := d2
      have d3 : wr.cell? ⟨g', off' + j * 5 + 3, none⟩ = some (.slice ax yl.length cx) := d3
      have d4 : wr.cell? ⟨g', off' + j * 5 + 4, none⟩ = some (.bool yg) := d4
      have HPUT : Hid (∀ z, Below wr.heap.size wr z → Calls Try.prog 33 #[.pointer (some ⟨w0, 0, none⟩), .agg #[.int .u32 ya, .int .u64 yi, .int .u64 yv, .slice ax yl.length cx, .bool yg]] z fun e w' => e = .returned (.tuple #[.bool P.2.1, .int .i64 P.2.2]) ∧ (∃ cs' B' fl', ChIs w0 w' b w0 (fun j => R j ∨ w0 ≤ j) P.1.length P.1 cs' B' fl') ∧ Turned (fun j => j = b ∨ w0 ≤ j) z w') := HPUT
      have hs2 := hJL.2
      generalize S.2 = n at *
      obtain ⟨PL, pb, pe⟩ := P
      clear hS hy hP hrx hyb hc3' hc4' hm hg1 hg2 hJL
      go_upto_region 8 with fail
      have hX : Below wr.heap.size wr (wr.alloc (.cells #[.int .u32 ya, .int .u64 yi, .int .u64 yv, .slice ax yl.length cx, .bool yg] 28)) := more (Below.refl _ _) _
      have HPUT2 := Lib.hid (HPUT.out _ hX)
      have HBE : Hid (Blk (wr.alloc (.cells #[.int .u32 ya, .int .u64 yi, .int .u64 yv, .slice ax yl.length cx, .bool yg] 28)) wr.heap.size 28 #[.int .u32 ya, .int .u64 yi, .int .u64 yv, .slice ax yl.length cx, .bool yg]) := Lib.hid (Blk.new _ _ _)
      have HT2 : Hid (Turned (fun j => j = b ∨ w0 ≤ j) w (wr.alloc (.cells #[.int .u32 ya, .int .u64 yi, .int .u64 yv, .slice ax yl.length cx, .bool yg] 28))) := Lib.hid (HT.out.alloc _)
      clear hX d0 d1 d2 d3 d4 HPUT HT HCH
      generalize wr.alloc (.cells #[.int .u32 ya, .int .u64 yi, .int .u64 yv, .slice ax yl.length cx, .bool yg] 28) = w4 at *
      obtain ⟨g8, hg8⟩ : ∃ g, g = wr.heap.size := ⟨_, rfl⟩
      rw [← hg8] at HBE ⊢
      clear hg8
      go_upto_region 9 with (first | (refine at_load 8 rfl ?_; refine wpList_load_row rfl 28 (.tmp 8) rfl g8 rfl 28 _ (0, 0) _ HBE.out Try.underlying28 rfl ent_info' ?_) | (go_at_call 33; refine HPUT2.out.mono ?_; rintro e z1 ⟨rfl, ⟨cs2, B2, fl2, hch⟩, ht⟩))
      have HCH2 := Lib.hid hch
      have HT3 := Lib.hid (HT2.out.trans ht (fun _ _ h => h))
      clear hch ht HPUT2 HBE HT2
      cases pb with
      | true =>
        go_wp2_with fail
        exact ⟨⟨j + 1, by omega, by rw [HSTEP.out]; go_num, by go_num, ⟨cs2, B2, fl2, by rw [HSTEP.out]; exact HCH2.out⟩, HT3.out⟩, by simp [intOf]; omega⟩
      | false =>
        go_wp2_with fail
        exact ⟨⟨j + 1, by omega, by rw [HSTEP.out]; rfl, by go_num, ⟨cs2, B2, fl2, by rw [HSTEP.out]; exact HCH2.out⟩, HT3.out⟩, by simp [intOf]; omega⟩
    · have hjl : j = l.length := by omega
      subst hjl
      go_wp2_with fail
      go_ret
      rw [List.take_length] at *
      have HW := HW0.out
      subst HW
      exact ⟨rfl, change_end HH.out HCH.out HT.out (by have := joinL_max l HUL.out HLN.out l.length (Nat.le_refl _); rw [List.take_length] at this; exact this)⟩
end Go.Proofs.Ytihfkjodjaoocaa
