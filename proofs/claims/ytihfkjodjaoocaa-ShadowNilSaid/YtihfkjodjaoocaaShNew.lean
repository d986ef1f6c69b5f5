/- Walks of package shelf: New, Len, Put, Fork. -/
import Derived.Test.YtihfkjodjaoocaaShPut2
import Derived.Deep.WholeRow
set_option maxRecDepth 4000
namespace Go.Proofs.Ytihfkjodjaoocaa
open Go.RowKit Mem
set_option linter.unusedSimpArgs false
set_option linter.unusedVariables false
attribute [local irreducible] Go.Calls

theorem shlen_any (b : Nat) (W R : Nat → Prop) (L : List Ent) (w : World) (h : ShAt w b W R L) : Calls Try.prog 25 #[.pointer (some ⟨b, 0, none⟩)] w fun e w' => e = .returned (.int .i64 L.length) ∧ Below w.heap.size w w' := by
  obtain ⟨_, _, _, _, cs, B, h⟩ := h
  have c0 := h.size
  clear h
  go_enter Try.func25, Try.ntmps25
  go_wp2_with fail
  go_ret
  exact ⟨rfl, Below.refl _ _⟩
theorem shlen_nil (w : World) : Calls Try.prog 25 #[.pointer none] w fun e w' => e = .returned (.int .i64 0) ∧ Below w.heap.size w w' := by
  go_enter Try.func25, Try.ntmps25
  go_wp2_with fail
  go_ret
  exact ⟨rfl, Below.refl _ _⟩
theorem shput_nil (y : Ent) (x : Value) (w : World) : Calls Try.prog 23 #[.pointer none, .agg (ecl y x).toArray] w fun e w' => e = .returned (.tuple #[.bool false, .int .i64 2]) ∧ Below w.heap.size w w' := by
  unfold ecl
  go_enter Try.func23, Try.ntmps23
  go_wp2_with fail
  go_ret2
  exact ⟨rfl, more (Below.refl _ _) _⟩
theorem shfork_nil (w : World) : Calls Try.prog 37 #[.pointer none] w fun e w' => e = .returned (.pointer none) ∧ Below w.heap.size w w' := by
  go_enter Try.func37, Try.ntmps37
  go_wp2_with fail
  go_ret
  exact ⟨rfl, Below.refl _ _⟩
theorem shelf_info : (Try.prog.info? 74).map (·.size) = some 257 := by kernel_rfl
theorem change_info : (Try.prog.info? 77).map (·.size) = some 257 := by kernel_rfl
theorem zero_shelf (w : World) : (zeroValue 74).run Try.prog w = .ok (.agg (scs (List.replicate 256 nm) 0).toArray) w := by kernel_rfl
theorem zero_change (w : World) : (zeroValue 77).run Try.prog w = .ok (.agg (.pointer none :: List.replicate 256 fb).toArray) w := by kernel_rfl
theorem zero_shelf_cells : Try.zeroCells74 = (scs (List.replicate 256 nm) 0).toArray := by kernel_rfl
theorem zero_change_cells : Try.zeroCells77 = (.pointer none :: List.replicate 256 fb).toArray := by kernel_rfl
theorem ShIs.one {w : World} {b : Nat} {R : Nat → Prop} {n : Int} {L : List Ent} {cs : List Value} {B : Nat → List EV} (h : ShIs w b R n L cs B) : (scs cs n).toArray.all (·.oneCell') = true := by
  rw [List.all_toArray, List.all_eq_true]
  intro u hu
  unfold scs at hu
  rcases List.mem_append.1 hu with hu | hu
  · obtain ⟨i, hi, rfl⟩ := List.getElem_of_mem hu
    have hg : cs.getD i nm = cs[i] := by rw [List.getD_eq_getElem?_getD, List.getElem?_eq_getElem hi]; rfl
    rcases h.bd i (by rw [← h.len]; exact hi) with ⟨e, _⟩ | ⟨g, e, _⟩ <;> rw [← hg, e] <;> rfl
  · simp at hu
    subst hu
    rfl
/-- another shelf of the same boards -/
theorem ShIs.forked {w w' : World} {b b' : Nat} {R R' : Nat → Prop} {n : Int} {L : List Ent} {cs : List Value} {B : Nat → List EV} (h : ShIs w b R n L cs B) (k : Below w.heap.size w w') (hb : Blk w' b' 74 (scs cs n).toArray) (hR : ∀ j, R j → j ≠ b → R' j) : ShIs w' b' R' n L cs B where
  len := h.len
  blk := hb
  bd i hi := (h.bd i hi).keep k
  inR i g hi hg := hR g (h.inR i g hi hg) (h.ne_b hi hg)
  inj := h.inj
  ev i p hi hp := ⟨⟨(h.ev i p hi hp).1.1, (h.ev i p hi hp).1.2.1.keep k, fun hl g hg => hR g ((h.ev i p hi hp).1.2.2 hl g hg) (fun e => Rd.ne32 (h.ev i p hi hp).1.2.1 hl h.no32 (by rw [hg, e]))⟩, (h.ev i p hi hp).2⟩
  uniq := h.uniq
  mem := h.mem
/-- an empty shelf -/
theorem empty_is (w : World) (b : Nat) (R : Nat → Prop) (h : Blk w b 74 (scs (List.replicate 256 nm) 0).toArray) : ShIs w b R 0 [] (List.replicate 256 nm) (fun _ => []) := by
  have e : ∀ i, i < 256 → (List.replicate 256 nm).getD i nm = nm := fun i hi => by rw [List.getD_eq_getElem?_getD, List.getElem?_replicate, if_pos hi]; rfl
  exact ⟨List.length_replicate, h, fun i hi => .inl ⟨e i hi, rfl⟩, fun i g hi hg => (by rw [e i hi] at hg; cases hg), fun i j g hi hj hg => (by rw [e i hi] at hg; cases hg), fun i p _ hp => (by cases hp), List.nodup_nil, fun y => ⟨fun h => (by cases h), fun ⟨x, hx⟩ => (by cases hx)⟩⟩
set_option maxHeartbeats 2000000 in
theorem shnew_any (w : World) : Calls Try.prog 18 #[] w fun e w' => ∃ b W R, e = .returned (.pointer (some ⟨b, 0, none⟩)) ∧ ShAt w' b W R [] ∧ (∀ j, R j → w.heap.size ≤ j) ∧ Below w.heap.size w w' := by
  go_enter Try.func18, Try.ntmps18
  go_wp2_with fail
  go_ret
  have hB : Blk (w.alloc (.cells Try.zeroCells74 74)) w.heap.size 74 (scs (List.replicate 256 nm) 0).toArray := by rw [← zero_shelf_cells]; exact Blk.new _ _ _
  exact ⟨w.heap.size, fun j => j = w.heap.size, fun j => j = w.heap.size, rfl, ⟨Nat.zero_le _, fun _ => Iff.rfl, rfl, fun j hj => by rw [hj, size_alloc]; omega, _, _, empty_is _ _ _ hB⟩, fun j hj => by rw [hj]; exact Nat.le_refl _, more (Below.refl _ _) _⟩
set_option maxHeartbeats 2000000 in
theorem shfork_any (b : Nat) (W R : Nat → Prop) (L : List Ent) (w : World) (h : ShAt w b W R L) : Calls Try.prog 37 #[.pointer (some ⟨b, 0, none⟩)] w fun e w' =>
    ∃ b' W' R', e = .returned (.pointer (some ⟨b', 0, none⟩)) ∧ ShAt w' b' W' R' L ∧ (∀ j, W' j → w.heap.size ≤ j) ∧ (∀ j, R' j → (R j ∧ ¬ W j) ∨ w.heap.size ≤ j) ∧ Below w.heap.size w w' := by
  obtain ⟨h1, h2, h3, h4, cs, B, h5⟩ := h
  have HN := Lib.hid h1
  have HW := Lib.hid h2
  have HR := Lib.hid h4
  have HS := Lib.hid h5
  clear h1 h2 h3 h4 h5
  obtain ⟨z, hz⟩ : ∃ z : Array Value, z = (scs cs L.length).toArray := ⟨_, rfl⟩
  have HZ := Lib.hid hz
  have HB : Hid (Blk w b 74 z) := Lib.hid (by rw [hz]; exact HS.out.blk)
  have hzs : z.size = 257 := by rw [hz]; simp [scs, HS.out.len]
  have HZS := Lib.hid hzs
  clear hz hzs
  go_enter Try.func37, Try.ntmps37
  go_upto_region 4 with (first | (refine at_load 7 rfl ?_; refine wpList_load_row rfl 74 (.tmp 7) rfl b rfl 74 z (0, 0) _ HB.out Try.underlying74 rfl (by rw [HZS.out]; exact shelf_info) ?_) | (refine at_store 3 rfl ?_; refine wpList_store_row rfl 74 (.tmp 3) (.tmp 8) rfl w.heap.size z rfl rfl 74 _ (Blk.new _ _ _) (by rw [HZS.out]; exact shelf_info) (by rw [HZS.out, zero_shelf_cells]; simp [scs]) (by rw [HZ.out]; exact HS.out.one) ?_))
  have hw : (w.alloc (.cells Try.zeroCells74 74)).setRow w.heap.size z = w.alloc (.cells z 74) := World.setRow_alloc_new _ _ _ _
  rw [hw]
  clear hw
  simp only [Act.put]
  go_wp2_with fail
  go_ret
  have hk : Below w.heap.size w (w.alloc (.cells z 74)) := more (Below.refl _ _) _
  refine ⟨w.heap.size, fun j => j = w.heap.size, fun j => (R j ∧ ¬ W j) ∨ j = w.heap.size, rfl, ⟨HN.out, fun _ => Iff.rfl, .inr rfl, fun j hj => ?_, cs, B, HS.out.forked hk (by rw [← HZ.out]; exact Blk.new _ _ _) (fun j hj hne => .inl ⟨hj, fun e => hne ((HW.out j).1 e)⟩)⟩, fun j hj => by rw [hj]; exact Nat.le_refl _, fun j hj => ?_, hk⟩
  · rw [size_alloc]
    rcases hj with ⟨hj, _⟩ | hj
    · have := HR.out j hj; omega
    · omega
  · rcases hj with hj | hj
    · exact .inl hj
    · exact .inr (by rw [hj]; exact Nat.le_refl _)
end Go.Proofs.Ytihfkjodjaoocaa
