/- Package octet, the writer: width, Put, Text. -/
import Derived.Test.YtkenldpmogogaaaOctAdd
set_option maxRecDepth 4000
namespace Go.Proofs.Ytkenldpmogogaaa
open Go.RowKit Mem
set_option linter.unusedSimpArgs false
set_option linter.unusedVariables false
attribute [local irreducible] Go.Calls

theorem width_any (n : Int) (w : World) : Calls Try.prog 45 #[.int .i64 n] w fun e w' => e = .returned (.int .i64 (szN n)) ∧ Below w.heap.size w w' := by
  have h1 : n < 1 ∨ n = 1 ∨ (1 < n ∧ n < 8) ∨ n = 8 ∨ 8 < n := by omega
  rcases h1 with h | rfl | ⟨h, h2⟩ | rfl | h
  · have hz : ((szN n : Nat) : Int) = 1 := by unfold szN; split <;> (try split) <;> omega
    rw [hz]
    go_enter Try.func45, Try.ntmps45
    go_wp2_with fail
    go_ret
    exact ⟨rfl, Below.refl _ _⟩
  · go_enter Try.func45, Try.ntmps45
    go_wp2_with fail
    go_ret
    exact ⟨rfl, Below.refl _ _⟩
  · have hz : ((szN n : Nat) : Int) = n := by unfold szN; split <;> (try split) <;> omega
    rw [hz]
    go_enter Try.func45, Try.ntmps45
    go_wp2_with fail
    go_ret
    exact ⟨rfl, Below.refl _ _⟩
  · go_enter Try.func45, Try.ntmps45
    go_wp2_with fail
    go_ret
    exact ⟨rfl, Below.refl _ _⟩
  · have hz : ((szN n : Nat) : Int) = 8 := by unfold szN; split <;> (try split) <;> omega
    rw [hz]
    go_enter Try.func45, Try.ntmps45
    go_wp2_with fail
    go_ret
    exact ⟨rfl, Below.refl _ _⟩

theorem eight_cut (b k : Nat) (hk : k < 8) (w : World) : (Instr.sliceAt 83 (.pointer (some ⟨b, 0, none⟩)) (some (.int .i64 k)) none none).run Try.prog w = .ok (.slice (some ⟨b, k, none⟩) (8 - k) (8 - k)) w := by
  have h1 := run_sliceAt_array_l (P := Try.prog) w 83 ⟨b, 0, none⟩ Try.underlying83 .i64 (k : Int) (by omega) (by show (k : Int) ≤ (8 : Nat); omega)
  rw [h1]
  have e : Try.prog.elem 83 = 5 := by kernel_rfl
  have e2 : Try.prog.arrayLen 83 = 8 := by kernel_rfl
  have hs : (sizeOf 5).run Try.prog w = .ok 1 w := run_sizeOf_of (by kernel_rfl) w
  rw [e, hs, e2]
  have hne : ¬ (8 = k) := by omega
  have hadd : (⟨b, 0, none⟩ : Addr).add k = ⟨b, k, none⟩ := by unfold Addr.add; split <;> simp_all
  simp only [Result.andThen_ok, slicedAt, Int.toNat_natCast, if_neg hne, Nat.mul_one, hadd]
/-- the cells of the eight bytes, j of which are laid -/
def eights (x : Int) (j : Nat) : List Value := ((be 8 x).take j ++ List.replicate (8 - j) 0).map (Value.int .u8)
theorem eights_set (x : Int) {j t : Nat} (h : j + t = 7) : (eights x j).toArray.setIfInBounds j (.int .u8 (x / 2 ^ (8 * t) % 256)) = (eights x (j + 1)).toArray := by
  have ht := be_take x 8 t (by omega)
  rw [show 8 - t = j + 1 by omega, show 8 - (t + 1) = j by omega] at ht
  unfold eights
  rw [ht, List.setIfInBounds_toArray]
  have hl : ((be 8 x).take j).length = j := by rw [List.length_take, be_len]; omega
  rw [List.map_append, List.set_append_right _ _ (by rw [List.length_map, hl]; exact Nat.le_refl _)]
  simp only [List.length_map, hl, Nat.sub_self]
  rw [show 8 - j = (8 - (j + 1)) + 1 by omega, List.replicate_succ]
  simp
theorem eights_cell (x : Int) (g : Nat) {w : World} {t : TypeId} (h : Blk w g t (eights x 8).toArray) (k : Nat) (hk : k < 8) : Rd (intE .u8) w (.slice (some ⟨g, k, none⟩) (8 - k) (8 - k)) ((be 8 x).drop k) := by
  refine ⟨_, 8 - k, by rw [List.length_drop, be_len], by rw [List.length_drop, be_len]; exact Nat.le_refl _, by unfold maxLen; omega, fun _ => ⟨g, k, rfl, fun j u hu => ?_⟩⟩
  rw [h.cell (k + j)]
  have hfl : ∀ l : List Int, (intE .u8).flat l = l.map (Value.int .u8) := by
    intro l
    induction l with
    | nil => rfl
    | cons x l ih => rw [Enc.flat_cons, ih]; rfl
  rw [hfl, List.getElem?_map, List.getElem?_drop] at hu
  have he : eights x 8 = (be 8 x).map (Value.int .u8) := by unfold eights; rw [List.take_of_length_le (by rw [be_len]; omega)]; simp
  rw [he, List.getElem?_toArray, List.getElem?_map]
  exact hu
theorem be_drop (x : Int) : ∀ (k s : Nat), s ≤ k → (be k x).drop (k - s) = be s x := by
  intro k
  induction k with
  | zero => intro s h; have : s = 0 := by omega
            subst this; rfl
  | succ k ih =>
    intro s h
    rcases Nat.eq_or_lt_of_le h with rfl | h
    · rw [Nat.sub_self]; rfl
    · rw [show k + 1 - s = (k - s) + 1 by omega]
      simp only [be, List.drop_succ_cons]
      exact ih s (by omega)
def PutAll (R : World → Prop) (e : Ending) (w' : World) : Prop := (∃ u, e = .returned u) ∧ R w'
set_option maxHeartbeats 1000000 in
theorem oput_of (o : Option Addr) (x n : Int) (bx : 0 ≤ x ∧ x ≤ 18446744073709551615) (w : World) (R : World → Prop)
    (H : ∀ z v, Below w.heap.size w z → Rd (intE .u8) z v (be (szN n) x) → (∀ k, v.ownBlock = some k → w.heap.size ≤ k) → Calls Try.prog 44 #[.pointer o, v] z (PutAll R)) :
    Calls Try.prog 20 #[.pointer o, .int .u64 x, .int .i64 n] w (PutAll R) := by
  have HH := Lib.hid H
  clear H
  have hs := szN_bd n
  have hz : ∀ w, (zeroValue 83).run Try.prog w = .ok (.agg (eights x 0).toArray) w := fun w => run_zero_of (n := 8) (by kernel_rfl) w
  go_enter Try.func20, Try.ntmps20
  go_wp2_with fail
  go_loopw [8] (fun i wr => ∃ j : Nat, j ≤ 8 ∧ i = .int .i64 j ∧ Blk wr w.heap.size 83 (eights x j).toArray ∧ Below w.heap.size w wr) (fun i _ => 8 - (intOf i).toNat)
  case atStart => exact ⟨0, by omega, rfl, Blk.new w _ _, (Below.refl _ _).alloc (Nat.le_refl _) _⟩
  case round =>
    obtain ⟨j, hj, rfl, hb, hk⟩ := hrel
    by_cases hlt : j < 8
    · obtain ⟨t, ht⟩ : ∃ t, j + t = 7 := ⟨7 - j, by omega⟩
      have e1 : (7 : Int) - j = t := by omega
      have es := eights_set x ht
      have hset := hb.set_ j (.int .u8 (x / 2 ^ (8 * t) % 256))
      rw [es] at hset
      have hfz := hb.frozen j
      have hk2 : Below w.heap.size w (wr.setCell ⟨w.heap.size, j, none⟩ (.int .u8 (x / 2 ^ (8 * t) % 256))) := hk.setCell (Nat.le_refl _) _
      have hcell : ∃ u, wr.cell? ⟨w.heap.size, j, none⟩ = some u := by
        refine ⟨(eights x j)[j]'(by simp [eights, be_len]; omega), ?_⟩
        rw [hb.cell j, List.getElem?_toArray]
        exact List.getElem?_eq_getElem _
      obtain ⟨u, hu⟩ := hcell
      have ht7 : t ≤ 7 := by omega
      have H1 := Lib.hid hset
      have H2 := Lib.hid hk2
      have HT := Lib.hid ht
      clear hset hk2 es ht hb hk
      generalize hg : w.heap.size = g at *
      have HG := Lib.hid hg
      clear hg
      go_wp2_with fail
      exact ⟨⟨j + 1, by omega, by go_num, H1.out, H2.out⟩, by simp [intOf]; omega⟩
    · have hj8 : j = 8 := by omega
      have hnl : ¬ (j : Int) < 8 := by omega
      rw [hj8] at hb
      clear hz hj8 hlt
      have HB := Lib.hid hb
      have HK := Lib.hid hk
      clear hb hk
      go_wp2_with fail
      refine (width_any n wr).mono ?_
      rintro e y ⟨rfl, hy⟩
      obtain ⟨k, hk⟩ : ∃ k, k + szN n = 8 := ⟨8 - szN n, by omega⟩
      have e2 : (8 : Int) - ((szN n : Nat) : Int) = (k : Int) := by omega
      have hd := be_drop x 8 (szN n) hs.2
      rw [show 8 - szN n = k by omega] at hd
      have hr := eights_cell x w.heap.size (HB.out.keep hy) k (by omega)
      rw [hd] at hr
      have hcut := eight_cut w.heap.size k (by omega)
      have hc := HH.out y _ (HK.out.trans (hy.mono HK.out.size)) hr (fun j hj => by have e : some w.heap.size = some j := hj; injection e with e; omega)
      have HC := Lib.hid hc
      clear hc hr hd hk hs hy HB HK HH
      generalize szN n = s at *
      go_wp2_with fail
      refine HC.out.mono ?_
      rintro e z ⟨⟨u, rfl⟩, hR⟩
      go_wp2_with fail
      go_end0
      exact ⟨⟨_, rfl⟩, hR⟩
theorem PutAll.mono {R R' : World → Prop} {e : Ending} {w : World} (h : PutAll R e w) (k : R w → R' w) : PutAll R' e w := ⟨h.1, k h.2⟩
/-- what a writer's call leaves: a writer of l; nothing else has turned -/
theorem oput_any (b : Nat) (l : List Int) (x n : Int) (bx : 0 ≤ x ∧ x ≤ 18446744073709551615) (w : World) (h : WrAt w b l) (hl : l.length ≤ 900000) :
    Calls Try.prog 20 #[.pointer (some ⟨b, 0, none⟩), .int .u64 x, .int .i64 n] w (AddPost b (l ++ be (szN n) x) w) := by
  have hs := szN_bd n
  refine (oput_of (some ⟨b, 0, none⟩) x n bx w (fun z => WrAt z b (l ++ be (szN n) x) ∧ Only b w z) fun z v hz hr hv => ?_).mono fun e z h => ⟨h.1, h.2.1, h.2.2⟩
  refine (oadd_any b l _ v z (h.keep hz) hr (fun e => by have := hv b e; have := h.lt; omega) (by omega) (by rw [be_len]; omega)).mono fun e y h => ⟨h.1, h.2.1, (Only.of_below hz).trans h.2.2⟩
theorem oput_nil (x n : Int) (bx : 0 ≤ x ∧ x ≤ 18446744073709551615) (w : World) :
    Calls Try.prog 20 #[.pointer none, .int .u64 x, .int .i64 n] w fun e w' => (∃ u, e = .returned u) ∧ Below w.heap.size w w' := by
  refine (oput_of none x n bx w (fun z => Below w.heap.size w z) fun z v hz hr hv => ?_).mono fun e z h => ⟨h.1, h.2⟩
  exact (oadd_nil v z).mono fun e y h => ⟨h.1, nest hz h.2⟩
end Go.Proofs.Ytkenldpmogogaaa
