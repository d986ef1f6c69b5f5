/- Walks of package shelf: Put, Join, Live. -/
import Derived.Test.YtihfkjodjaoocaaShNew
set_option maxRecDepth 4000
namespace Go.Proofs.Ytihfkjodjaoocaa
open Go.RowKit Mem
set_option linter.unusedSimpArgs false
set_option linter.unusedVariables false
attribute [local irreducible] Go.Calls

/-- the cells of a change that begins -/
def ch0 (b : Nat) : Array Value := (.pointer (some ⟨b, 0, none⟩) :: List.replicate 256 fb).toArray
theorem ch0_size (b : Nat) : (ch0 b).size = 257 := by simp [ch0]
theorem ch0_one (b : Nat) : (ch0 b).all (·.oneCell') = true := by
  unfold ch0
  rw [List.all_toArray, List.all_eq_true]
  intro u hu
  rcases List.mem_cons.1 hu with rfl | hu
  · rfl
  · rw [(List.mem_replicate.1 hu).2]; rfl
theorem ch0_is (b : Nat) : Try.zeroCells77.setIfInBounds 0 (.pointer (some ⟨b, 0, none⟩)) = ch0 b := by
  rw [zero_change_cells]
  rfl
theorem change_start {w w' : World} {b c : Nat} {R : Nat → Prop} {n : Int} {L : List Ent} {cs : List Value} {B : Nat → List EV} (h : ShIs w b R n L cs B) (k : Below w.heap.size w w') (hc : Blk w' c 77 (ch0 b)) (hcw : w.heap.size ≤ c) : ChIs w.heap.size w' b c (fun j => R j ∨ w.heap.size ≤ j) n L cs B (List.replicate 256 fb) :=
  ⟨(h.keep k).mono (fun j _ hj => .inl hj), hc, List.length_replicate, fun i hi => .inl (by rw [List.getD_eq_getElem?_getD, List.getElem?_replicate, if_pos hi]; rfl), h.blk.lt, hcw, fun j hj => .inr hj⟩
theorem change_end {w w' : World} {b c : Nat} {W R : Nat → Prop} {L L' : List Ent} {cs : List Value} {B : Nat → List EV} {fl : List Value} (h : ShAt w b W R L) (hc : ChIs w.heap.size w' b c (fun j => R j ∨ w.heap.size ≤ j) L'.length L' cs B fl) (t : Turned (fun j => j = b ∨ w.heap.size ≤ j) w w') (hn : L'.length ≤ 10000) : SStep W R w w' b L' := by
  refine ⟨W, fun j => (R j ∨ w.heap.size ≤ j) ∧ j < w'.heap.size, ⟨hn, h.2.1, ⟨.inl h.2.2.1, Nat.lt_of_lt_of_le (h.lt h.2.2.1) t.size⟩, fun j hj => hj.2, cs, B, hc.sh.mono (fun j hj hR => ⟨hR, hj⟩)⟩, t.mono (fun j hj hS => ?_), fun j hj => .inl hj, fun j hj => hj.1⟩
  rcases hS with e | e
  · exact (h.2.1 j).2 e
  · omega
theorem putL_max {L : List Ent} (y : Ent) (hu : UniqK L) (hn : L.length ≤ 10000) : (putL L y).1.length ≤ 10000 := by
  rcases putL_cases L y hu with ⟨z, hz, hkz, hn', h1, h2, h3, h4⟩ | ⟨z, hz, hkz, hn', h1⟩ | ⟨hno, h1, h2⟩ | ⟨hno, h1, h2, h3⟩
  · omega
  · rw [h1]; exact hn
  · rw [h2]; exact hn
  · rw [h2]; simp; omega
set_option maxHeartbeats 4000000 in
set_option maxRecDepth 100000 in
theorem shput_any (b : Nat) (W R : Nat → Prop) (L : List Ent) (y : Ent) (x : Value) (w : World) (h : ShAt w b W R L) (hx : Rd (intE .u32) w x y.2.1.2.2) (hy : okE y) :
    Calls Try.prog 23 #[.pointer (some ⟨b, 0, none⟩), .agg (ecl y x).toArray] w fun e w' => e = .returned (.tuple #[.bool (putL L y).2.1, .int .i64 (putL L y).2.2]) ∧ SStep W R w w' b (putL L y).1 := by
  obtain ⟨L2, rb, re, hRES⟩ : ∃ (L2 : List Ent) (rb : Bool) (re : Int), (L2, rb, re) = putL L y := ⟨_, _, _, rfl⟩
  have hlen := putL_max y h.uniq h.len
  rw [← hRES] at hlen ⊢
  have HLEN := Lib.hid hlen
  have HRES := Lib.hid hRES
  have HH := Lib.hid h
  have HY := Lib.hid hy
  have HX := Lib.hid hx
  obtain ⟨_, _, _, _, cs, B, hs⟩ := h
  have HS := Lib.hid hs
  obtain ⟨ax, cx, rfl, _, _⟩ := hx.form
  clear hs hy hx hRES hlen
  have HCP : Hid (∀ (c : Nat) (z : World), Below w.heap.size w z → Blk z c 77 (ch0 b) → w.heap.size ≤ c → Calls Try.prog 33 #[.pointer (some ⟨c, 0, none⟩), .agg (ecl y (.slice ax y.2.1.2.2.length cx)).toArray] z fun e w' => e = .returned (.tuple #[.bool rb, .int .i64 re]) ∧ (∃ cs' B' fl', ChIs w.heap.size w' b c (fun j => R j ∨ w.heap.size ≤ j) L2.length L2 cs' B' fl') ∧ Turned (fun j => j = b ∨ w.heap.size ≤ j) z w') := Lib.hid (fun c z k hc hcw => by
    have := shcput_any w.heap.size b c _ L cs B _ y (.slice ax y.2.1.2.2.length cx) z (change_start HS.out k hc hcw) (HX.out.keep k) HY.out HH.out.len
    rw [← HRES.out] at this
    exact this)
  clear HX HS HY HRES
  obtain ⟨ya, ⟨yi, yv, yl⟩, yg⟩ := y
  have HCP : Hid (∀ (c : Nat) (z : World), Below w.heap.size w z → Blk z c 77 (ch0 b) → w.heap.size ≤ c → Calls Try.prog 33 #[.pointer (some ⟨c, 0, none⟩), .agg #[.int .u32 ya, .int .u64 yi, .int .u64 yv, .slice ax yl.length cx, .bool yg]] z fun e w' => e = .returned (.tuple #[.bool rb, .int .i64 re]) ∧ (∃ cs' B' fl', ChIs w.heap.size w' b c (fun j => R j ∨ w.heap.size ≤ j) L2.length L2 cs' B' fl') ∧ Turned (fun j => j = b ∨ w.heap.size ≤ j) z w') := HCP
  show Calls Try.prog 23 #[.pointer (some ⟨b, 0, none⟩), .agg #[.int .u32 ya, .int .u64 yi, .int .u64 yv, .slice ax yl.length cx, .bool yg]] w _
  go_enter Try.func23, Try.ntmps23
  go_upto_region 4 with (first | (refine at_store 6 rfl ?_; refine wpList_store_row rfl 77 (.tmp 6) (.tmp 10) rfl (w.heap.size + 1) (Try.zeroCells77.setIfInBounds 0 (.pointer (some ⟨b, 0, none⟩))) rfl rfl 77 Try.zeroCells77 (Blk.newAt _ _ _ (size_alloc _ _).symm) (by rw [ch0_is, ch0_size]; exact change_info) (by rw [ch0_is, ch0_size, zero_change_cells]; simp) (by rw [ch0_is]; exact ch0_one b) ?_))
  have hw : ((w.alloc (.cells #[.int .u32 ya, .int .u64 yi, .int .u64 yv, .slice ax yl.length cx, .bool yg] 28)).alloc (.cells Try.zeroCells77 77)).setRow (w.heap.size + 1) (Try.zeroCells77.setIfInBounds 0 (.pointer (some ⟨b, 0, none⟩))) = (w.alloc (.cells #[.int .u32 ya, .int .u64 yi, .int .u64 yv, .slice ax yl.length cx, .bool yg] 28)).alloc (.cells (ch0 b) 77) := by
    rw [← size_alloc w (.cells #[.int .u32 ya, .int .u64 yi, .int .u64 yv, .slice ax yl.length cx, .bool yg] 28), World.setRow_alloc_new, ch0_is]
  rw [hw, ch0_is]
  clear hw
  have HBC : Hid (Blk ((w.alloc (.cells #[.int .u32 ya, .int .u64 yi, .int .u64 yv, .slice ax yl.length cx, .bool yg] 28)).alloc (.cells (ch0 b) 77)) (w.heap.size + 1) 77 (ch0 b)) := Lib.hid (Blk.newAt _ _ _ (size_alloc _ _).symm)
  have HBE : Hid (Blk ((w.alloc (.cells #[.int .u32 ya, .int .u64 yi, .int .u64 yv, .slice ax yl.length cx, .bool yg] 28)).alloc (.cells (ch0 b) 77)) w.heap.size 28 #[.int .u32 ya, .int .u64 yi, .int .u64 yv, .slice ax yl.length cx, .bool yg]) := Lib.hid ((Blk.new _ _ _).keep (more (Below.refl _ _) _))
  have HK : Hid (Below w.heap.size w ((w.alloc (.cells #[.int .u32 ya, .int .u64 yi, .int .u64 yv, .slice ax yl.length cx, .bool yg] 28)).alloc (.cells (ch0 b) 77))) := Lib.hid (more (more (Below.refl _ _) _) _)
  generalize (w.alloc (.cells #[.int .u32 ya, .int .u64 yi, .int .u64 yv, .slice ax yl.length cx, .bool yg] 28)).alloc (.cells (ch0 b) 77) = w2 at *
  have HC2 := Lib.hid (HCP.out (w.heap.size + 1) w2 HK.out HBC.out (Nat.le_succ _))
  clear HCP
  simp only [Act.put]
  go_upto_if 99 with (first | (refine at_load 3 rfl ?_; refine wpList_load_row rfl 28 (.tmp 3) rfl w.heap.size rfl 28 _ (0, 0) _ HBE.out Try.underlying28 rfl ent_info' ?_) | (go_at_call 33; refine HC2.out.mono ?_; rintro e w3 ⟨rfl, ⟨cs', B', fl', hch⟩, ht⟩))
  have HCH := Lib.hid hch
  have HT := Lib.hid ht
  clear hch ht
  go_ret2
  exact ⟨rfl, change_end HH.out HCH.out ((Turned.of_below (S := fun j => j = b ∨ w.heap.size ≤ j) HK.out).trans HT.out (fun _ _ h => h)) HLEN.out⟩
/-! ### Live -/
/-- how many of a board live -/
def liveB (S : List EV) : Nat := liveE (S.map (·.1))
theorem liveB_append (S T : List EV) : liveB (S ++ T) = liveB S + liveB T := by simp [liveB, liveE]
theorem liveB_erase {S : List EV} {i : Nat} {q : EV} (h : S[i]? = some q) : liveB (S.eraseIdx i) + (if q.1.2.2 then 0 else 1) = liveB S := by
  obtain ⟨hi, hq⟩ := List.getElem?_eq_some_iff.1 h
  have e1 : S = S.take i ++ q :: S.drop (i + 1) := by
    rw [← hq, ← List.drop_eq_getElem_cons hi, List.take_append_drop]
  have e2 : S.eraseIdx i = S.take i ++ S.drop (i + 1) := List.eraseIdx_eq_take_drop_succ S i
  rw [e2, liveB_append]
  conv => rhs; rw [e1, liveB_append]
  have : liveB (q :: S.drop (i + 1)) = (if q.1.2.2 then 0 else 1) + liveB (S.drop (i + 1)) := by
    unfold liveB liveE
    rw [List.map_cons, List.filter_cons]
    cases q.1.2.2 <;> simp; omega
  rw [this]
  omega
theorem liveB_le (S : List EV) : liveB S ≤ S.length := by
  have := liveE_le (S.map (·.1))
  rw [List.length_map] at this
  exact this
theorem allB_mono (B : Nat → List EV) {k : Nat} : ∀ m, k ≤ m → (allB B k).length ≤ (allB B m).length
  | 0, h => by rw [Nat.le_zero.1 h]; exact Nat.le_refl _
  | m + 1, h => by
    by_cases e : k = m + 1
    · rw [e]; exact Nat.le_refl _
    · have := allB_mono B (k := k) m (by omega)
      rw [allB_succ, List.length_append]
      omega
theorem ShIs.live {w : World} {b : Nat} {R : Nat → Prop} {n : Int} {L : List Ent} {cs : List Value} {B : Nat → List EV} (h : ShIs w b R n L cs B) : liveB (allB B 256) = liveE L := by
  unfold liveB liveE
  exact (h.all.filter _).length_eq
theorem ShIs.live_le {w : World} {b : Nat} {R : Nat → Prop} {n : Int} {L : List Ent} {cs : List Value} {B : Nat → List EV} (h : ShIs w b R n L cs B) {k : Nat} (hk : k ≤ 256) : liveB (allB B k) ≤ L.length := by
  have h1 := liveB_le (allB B k)
  have h2 := allB_mono B 256 hk
  have h3 := h.all.length_eq
  rw [List.length_map] at h3
  omega
end Go.Proofs.Ytihfkjodjaoocaa
