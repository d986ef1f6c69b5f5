/- Walks of package pool: a pool is a block of one cell, the slice of its texts; slices of texts are not written again. -/
import Derived.Test.YtchofcciddbmoaaBytes
import Derived.Test.YtchofcciddbmoaaPoolPlans
import Derived.Test.YtchofcciddbmoaaRun
import Derived.Lib.ConvBytes
set_option maxRecDepth 4000
namespace Go.Proofs.Ytchofcciddbmoaa
open Go.RowKit Mem
set_option linter.unusedSimpArgs false
set_option linter.unusedVariables false
attribute [local irreducible] Go.Calls

theorem strElem : Elem Try.prog 45 9 1 16 := elem_of (z := .string ⟨#[]⟩) Try.underlying45 (by kernel_rfl) rfl
/-- texts, as strings -/
def strE : Enc (List Int) where
  cells l := [.string (strOfNums l)]
  size := 1
  len _ := rfl
  one p u hu := by simp at hu; subst hu; rfl
theorem Mem.Rd.strs {w : World} {v : Value} {L : List (List Int)} (h : Rd strE w v L) (hl : 0 < L.length) :
    ∃ g off c, v = .slice (some ⟨g, off, none⟩) L.length c ∧ L.length ≤ c ∧ c ≤ maxLen ∧ ∀ i, i < L.length → w.cell? ⟨g, off + i, none⟩ = some (.string (strOfNums (L.getD i []))) := by
  obtain ⟨g, off, c, hv, h1, h2, hc⟩ := h.cells hl
  refine ⟨g, off, c, hv, h1, h2, fun i hi => ?_⟩
  have e : L.getD i [] = L[i] := by simp [List.getD, hi]
  rw [e]
  have := hc i hi 0 (show 0 < 1 by omega)
  simpa [strE] using this
/-- how long a text may be -/
def pmax : Nat := 140737488351232
/-- a text that a pool may hold -/
def Txt (l : List Int) : Prop := l.length ≤ pmax ∧ ∀ x ∈ l, 0 ≤ x ∧ x ≤ 255
/-- a pool at block b that holds L: it writes blocks of W alone, and reads those of R alone -/
def PoAt (w : World) (b : Nat) (W R : Nat → Prop) (L : List (List Int)) : Prop :=
  L.length ≤ 5000 ∧ (∀ l ∈ L, Txt l) ∧ (∀ j, W j ↔ j = b) ∧ R b ∧ (∀ j, R j → j < w.heap.size) ∧
    ∃ v, Blk w b 47 #[v] ∧ Rd strE w v L ∧ ∀ g, v.ownBlock = some g → R g ∧ g ≠ b
theorem PoAt.turned {w w' : World} {b : Nat} {W R S : Nat → Prop} {L : List (List Int)} (h : PoAt w b W R L) (k : Turned S w w') (hs : ∀ j, R j → ¬ S j) : PoAt w' b W R L := by
  obtain ⟨h1, h2, h3, h4, h5, v, h6, h7, h8⟩ := h
  exact ⟨h1, h2, h3, h4, fun j hj => Nat.lt_of_lt_of_le (h5 j hj) k.size, v, h6.turned k (hs b h4), h7.turned k (fun g hg => hs g (h8 g hg).1), h8⟩
theorem PoAt.lt {w : World} {b : Nat} {W R : Nat → Prop} {L : List (List Int)} (h : PoAt w b W R L) {j : Nat} (hj : R j) : j < w.heap.size := h.2.2.2.2.1 j hj
theorem PoAt.sub {w : World} {b : Nat} {W R : Nat → Prop} {L : List (List Int)} (h : PoAt w b W R L) {j : Nat} (hj : W j) : R j := by
  rw [(h.2.2.1 j).1 hj]
  exact h.2.2.2.1
theorem PoAt.len {w : World} {b : Nat} {W R : Nat → Prop} {L : List (List Int)} (h : PoAt w b W R L) : L.length ≤ 5000 := h.1
theorem PoAt.text {w : World} {b : Nat} {W R : Nat → Prop} {L : List (List Int)} (h : PoAt w b W R L) (i : Nat) : Txt (L.getD i []) := by
  by_cases hi : i < L.length
  · rw [show L.getD i [] = L[i] by simp [List.getD, hi]]
    exact h.2.1 _ (List.getElem_mem hi)
  · rw [show L.getD i [] = [] by simp [List.getD, List.getElem?_eq_none (Nat.le_of_not_lt hi)]]
    exact ⟨Nat.zero_le _, fun x hx => by cases hx⟩
/-- what a call leaves -/
def PStep (W R : Nat → Prop) (w w' : World) (b : Nat) (L : List (List Int)) : Prop := ∃ W' R', PoAt w' b W' R' L ∧ Turned W w w' ∧ (∀ j, W' j → W j ∨ w.heap.size ≤ j) ∧ (∀ j, R' j → R j ∨ w.heap.size ≤ j)
/-- bytes of one's own, that may be written into -/
def Own8 (B : Nat) (w : World) (v : Value) (l : List Int) : Prop :=
  Rd (intE .u8) w v l ∧ ∃ g c, v = .slice (some ⟨g, 0, none⟩) l.length c ∧ B ≤ g ∧ g < w.heap.size ∧ l.length ≤ c ∧ c ≤ maxLen ∧ ∀ j, j < l.length → w.frozen? ⟨g, j, none⟩ = false

/-! ### []byte(s) -/
theorem nums_back {l : List Int} (h : ∀ x ∈ l, 0 ≤ x ∧ x ≤ 255) {j : Nat} (hj : j < l.length) : (((strOfNums l).data.toList.getD j 0).toNat : Int) = l.getD j 0 := by
  have hx := h _ (List.getElem_mem hj)
  rw [strOfNums_data, show l.getD j 0 = l[j] by simp [List.getD, hj]]
  rw [show (l.map fun n => UInt8.ofNat n.toNat).getD j 0 = UInt8.ofNat l[j].toNat by simp [List.getD, hj]]
  rw [UInt8.toNat_ofNat']
  have : l[j].toNat < 256 := by omega
  rw [Nat.mod_eq_of_lt this]
  omega
theorem conv_str (w : World) (l : List Int) : (convert 9 27 (.string (strOfNums l))).run Try.prog w = .ok (.slice (some ⟨w.heap.size, 0, none⟩) (strOfNums l).size (grownCap w (strOfNums l).size 0 5)) (Lib.bytesWorld w 5 (strOfNums l)) :=
  Lib.run_convert_string_bytes w _ _ _ _ Try.underlying9 Try.underlying27 Try.underlying5
theorem bytes_below (w : World) (l : List Int) : Below w.heap.size w (Lib.bytesWorld w 5 (strOfNums l)) :=
  ⟨rfl, by simp [Lib.bytesWorld, World.freeze, World.alloc, World.drew, -World.alloc_eq, -World.drew_eq], rfl, by rw [Lib.bytesWorld_size]; omega, fun j hj => Lib.bytesWorld_at_old w _ _ j hj⟩
theorem bytes_own (w : World) (l : List Int) (h : Txt l) : Own8 w.heap.size (Lib.bytesWorld w 5 (strOfNums l)) (.slice (some ⟨w.heap.size, 0, none⟩) (strOfNums l).size (grownCap w (strOfNums l).size 0 5)) l := by
  have hs : (strOfNums l).size = l.length := strOfNums_size l
  have hc1 := grownCap_ge w (strOfNums l).size 0 5
  have hc2 := grownCap_le_maxLen w (strOfNums l).size 0 5 (by rw [hs]; have := h.1; unfold pmax at this; unfold maxLen; omega)
  rw [hs] at hc1 hc2 ⊢
  refine ⟨⟨_, _, rfl, hc1, hc2, fun hl => ⟨w.heap.size, 0, rfl, fun j u hu => ?_⟩⟩, _, _, rfl, Nat.le_refl _, by rw [Lib.bytesWorld_size]; omega, hc1, hc2, fun j hj => ?_⟩
  · have hfl : ∀ l : List Int, (intE .u8).flat l = l.map (Value.int .u8) := by
      intro l
      induction l with
      | nil => rfl
      | cons x l ih => rw [Enc.flat_cons, ih]; rfl
    rw [hfl, List.getElem?_map] at hu
    have hj : j < l.length := by
      by_cases hj : j < l.length
      · exact hj
      · rw [List.getElem?_eq_none (Nat.le_of_not_lt hj)] at hu; cases hu
    rw [Nat.zero_add, Lib.bytesWorld_cell w _ _ j (by rw [hs]; exact hj), nums_back h.2 hj, ← hu]
    simp [List.getD, hj]
  · have hcs : (Lib.bytesCells w 5 (strOfNums l)).size = grownCap w l.length 0 5 := by
      have : (strOfNums l).data.size = l.length := hs
      simp [Lib.bytesCells, hs, this]
      omega
    have := Lib.bytesWorld_at_new w 5 (strOfNums l)
    simp only [World.frozen?, this, hcs]
    simp
    omega

/-! ### slices.Grow, slices.Concat -/
def SGrowPost (w : World) (e : Ending) (w' : World) : Prop := ∃ v, e = .returned v ∧ Row strE 9 w.heap.size w' v [] ∧ Below w.heap.size w w'
theorem sgrow_zero (w : World) : Calls Try.prog 22 #[.slice none 0 0, .int .i64 0] w (SGrowPost w) := by
  go_enter Try.func22, Try.ntmps22
  go_wp2
  go_ret
  exact ⟨_, rfl, Row.nil, Below.refl _ _⟩
theorem sgrow_some (n : Nat) (hn : 0 < n) (hn1 : n ≤ 10000000) (w : World) : Calls Try.prog 22 #[.slice none 0 0, .int .i64 n] w (SGrowPost w) := by
  have hn2 : (0 : Int) < (n : Int) := by omega
  go_enter Try.func22, Try.ntmps22
  go_wp2_with (at_builtin; go_must (refine wpList_append_make strElem Try.underlying3 Nat.zero_lt_one rfl (.tmp 20) (.tmp 21) rfl n rfl rfl hn (by omega) (by omega) ?_); intro cap cur h1 h2 h3)
  go_ret
  exact ⟨_, rfl, World.ownsRow_made w.drew cur cap (Nat.le_refl _) h2 h3, (Below.refl _ _).drew.alloc (Nat.le_refl _) _⟩
theorem sgrow_any (n : Nat) (hn1 : n ≤ 10000000) (w : World) : Calls Try.prog 22 #[.slice none 0 0, .int .i64 n] w (SGrowPost w) := by
  by_cases h : n = 0
  · subst h; exact sgrow_zero w
  · exact sgrow_some n (by omega) hn1 w
/-- slices in a row, each of which reads as a list -/
def SSlices (w : World) (q : Nat) (ss : List Value) (ls : List (List (List Int))) : Prop :=
  ss.length = ls.length ∧ ∀ i, i < ls.length → w.cell? ⟨q, i, none⟩ = some (ss.getD i undef) ∧ Rd strE w (ss.getD i undef) (ls.getD i [])
def stot (ls : List (List (List Int))) : Nat := (ls.map List.length).sum
theorem stot_take (ls : List (List (List Int))) (k : Nat) (h : k < ls.length) : stot (ls.take (k + 1)) = stot (ls.take k) + (ls.getD k []).length := by
  unfold stot
  rw [List.take_succ_eq_append_getElem h, List.map_append, List.sum_append]
  simp [h]
theorem stot_le (ls : List (List (List Int))) (k : Nat) : stot (ls.take k) ≤ stot ls := by
  unfold stot
  conv => rhs; rw [← List.take_append_drop k ls]
  rw [List.map_append, List.sum_append]
  omega
theorem sflatten_take (ls : List (List (List Int))) (k : Nat) (h : k < ls.length) : (ls.take (k + 1)).flatten = (ls.take k).flatten ++ ls.getD k [] := by
  rw [List.take_succ_eq_append_getElem h, List.flatten_append]
  simp [h]
theorem sflatten_len (ls : List (List (List Int))) : ls.flatten.length = stot ls := by simp [stot, List.length_flatten]
theorem SSlices.keep {w w' : World} {q : Nat} {ss : List Value} {ls : List (List (List Int))} (h : SSlices w q ss ls) (k : Below w.heap.size w w') : SSlices w' q ss ls :=
  ⟨h.1, fun i hi => ⟨kc k (h.2 i hi).1, (h.2 i hi).2.keep k⟩⟩
def SConcatPost (w : World) (l : List (List Int)) (e : Ending) (w' : World) : Prop := ∃ v, e = .returned v ∧ Row strE 9 w.heap.size w' v l ∧ Below w.heap.size w w'
set_option maxHeartbeats 1000000 in
theorem sconcat_any (q n : Nat) (ss : List Value) (ls : List (List (List Int))) (w : World) (h : SSlices w q ss ls) (hn : ls.length = n) (hn1 : n ≤ 100) (ht : stot ls ≤ 1000000) :
    Calls Try.prog 18 #[.slice (some ⟨q, 0, none⟩) n n] w (SConcatPost w ls.flatten) := by
  have HN := Lib.hid hn
  clear hn
  go_enter Try.func18, Try.ntmps18
  go_wp2_with fail
  go_loop [3, 11] (fun s i => ∃ k : Nat, k ≤ n ∧ i = .int .i64 k ∧ s = .int .i64 (stot (ls.take k) : Nat)) (fun _ i => n - (intOf i).toNat)
  case atStart => exact ⟨0, Nat.zero_le _, rfl, by simp [stot]⟩
  case round =>
    obtain ⟨k, hk, rfl, rfl⟩ := hrel
    have htk := stot_le ls k
    by_cases hlt : k < n
    · have hkl : k < ls.length := by rw [HN.out]; exact hlt
      obtain ⟨hc, hrd⟩ := h.2 k hkl
      have HT := Lib.hid (stot_take ls k hkl)
      have ht2 := stot_le ls (k + 1)
      rw [stot_take ls k hkl] at ht2
      generalize ls.getD k [] = m at *
      generalize ss.getD k undef = sv at *
      obtain ⟨a, c, rfl, _, _⟩ := hrd.form
      generalize stot (ls.take k) = tk at *
      clear hrd
      have b2 : ((tk : Int) + (m.length : Int)) ≤ 1000000 := by omega
      have b3 : ¬ ((tk : Int) + (m.length : Int) < 0) := by omega
      go_wp2
      go_round
      case rel => exact ⟨k + 1, by omega, by go_num, by rw [HT.out]; rfl⟩
      case measure => simp [intOf]; omega
    · have hkn : k = n := by omega
      subst hkn
      have e1 : ls.take k = ls := by rw [← HN.out, List.take_length]
      rw [e1]
      clear e1 htk
      go_wp2_with (go_at_call 22; refine (sgrow_any (stot ls) (by omega) _).mono ?_; rintro e x ⟨v, rfl, hr0, hb0⟩)
      go_loopw [6, 27] (fun o i wr => ∃ j : Nat, j ≤ k ∧ i = .int .i64 j ∧ Row strE 9 w.heap.size wr o (ls.take j).flatten ∧ Below w.heap.size w wr) (fun _ i _ => k - (intOf i).toNat)
      case atStart => exact ⟨0, Nat.zero_le _, rfl, by simpa using hr0, hb0⟩
      case round =>
        obtain ⟨j, hj, rfl, hro, hb⟩ := hrel
        by_cases hlt2 : j < k
        · have hjl : j < ls.length := by rw [HN.out]; exact hlt2
          obtain ⟨hc, hrd⟩ := (h.keep hb).2 j hjl
          have HT := Lib.hid (sflatten_take ls j hjl)
          have ht2 : (ls.take j).flatten.length + (ls.getD j []).length ≤ 1000000 := by
            have h1 := stot_le ls (j + 1)
            rw [stot_take ls j hjl] at h1
            rw [sflatten_len]
            omega
          generalize ls.getD j [] = m at *
          generalize ss.getD j undef = sv at *
          obtain ⟨a, c, rfl, _, _⟩ := hrd.form
          generalize (ls.take j).flatten = fl at *
          go_wp2_with (at_builtin; go_must (refine wpList_append (E := strE) (B := w.heap.size) (l := fl) (m := m) (bytes := 16) strElem Nat.zero_lt_one rfl (.tmp 31) (.tmp 32) rfl rfl hro rfl hrd (by simp [maxLen]; omega) (by omega) hb.size ?_); intro v9 y hr9 hk9 hg9 _)
          go_roundw
          case rel => exact ⟨j + 1, by omega, by go_num, by rw [HT.out]; exact hr9, hb.trans hk9⟩
          case measure => simp [intOf]; omega
        · have hjk : j = k := by omega
          subst hjk
          have e1 : ls.take j = ls := by rw [← HN.out, List.take_length]
          rw [e1] at hro
          clear e1
          go_wp2_with fail
          go_ret
          exact ⟨_, rfl, hro, hb⟩

/-! ### the pool's calls -/
theorem pnew_any (w : World) : Calls Try.prog 7 #[] w fun e w' => ∃ b W R, e = .returned (.pointer (some ⟨b, 0, none⟩)) ∧ PoAt w' b W R [] ∧ (∀ j, R j → w.heap.size ≤ j) ∧ Below w.heap.size w w' := by
  go_enter Try.func7, Try.ntmps7
  go_wp2_with fail
  go_ret
  refine ⟨w.heap.size, fun j => j = w.heap.size, fun j => j = w.heap.size, rfl, ⟨Nat.zero_le _, by simp, fun j => Iff.rfl, rfl, fun j hj => by simp only [] at hj; subst hj; simp, .slice none 0 0, Blk.new w _ _, Rd.nil none 0 (Nat.zero_le _), by intro g hg; cases hg⟩, fun j hj => Nat.le_of_eq hj.symm, more (Below.refl _ _) _⟩
/-- what a call that writes the one cell leaves -/
theorem po_stored {w y : World} {b : Nat} {W R : Nat → Prop} {L L' : List (List Int)} {v : Value} (h : PoAt w b W R L) (hk : Below w.heap.size w y) (hr : Row strE 9 w.heap.size y v L') (hl : L'.length ≤ 5000) (ht : ∀ l ∈ L', Txt l) :
    PStep W R w (y.setCell ⟨b, 0, none⟩ v) b L' := by
  obtain ⟨_, _, h3, h4, h5, v0, h6, _, _⟩ := h
  have hb : b < w.heap.size := h6.lt
  have hset := Only.set (b := b) y 0 v
  have hne : v.ownBlock ≠ some b := fun e => by have := (hr.block b e).1; omega
  refine ⟨fun j => j = b, fun j => j = b ∨ v.ownBlock = some j, ⟨hl, ht, fun j => Iff.rfl, .inl rfl, fun j hj => ?_, v, ?_, hr.rd.only hset hne, fun g hg => ⟨.inr hg, fun e => hne (e ▸ hg)⟩⟩, ?_, fun j hj => .inl ((h3 j).2 hj), fun j hj => ?_⟩
  · refine Nat.lt_of_lt_of_le ?_ hset.size
    rcases hj with rfl | hj
    · exact Nat.lt_of_lt_of_le hb hk.size
    · exact (hr.block j hj).2
  · have := (h6.keep hk).set_ 0 v
    simpa using this
  · exact (Turned.of_below hk).trans (S' := W) (Turned.of_only hset ((h3 b).2 rfl)) (fun _ _ h => h)
  · rcases hj with rfl | hj
    · exact .inl h4
    · exact .inr (hr.block j hj).1
theorem padd_ok (b : Nat) (W R : Nat → Prop) (L : List (List Int)) (l : List Int) (w : World) (h : PoAt w b W R L) (hl : Txt l) (hn : L.length < 5000) :
    Calls Try.prog 20 #[.pointer (some ⟨b, 0, none⟩), .string (strOfNums l)] w fun e w' => e = .returned (.int .i64 0) ∧ PStep W R w w' b (L ++ [l]) := by
  obtain ⟨h1, h2, h3, h4, h5, v, h6, h7, h8⟩ := id h
  obtain ⟨a, c, rfl, hc1, hm1⟩ := h7.form
  have d0 : w.cell? ⟨b, 0, none⟩ = some (.slice a L.length c) := h6.cell 0
  have hge : ¬ ((L.length : Int) ≥ 5000) := by omega
  have HP := Lib.hid h
  have H2 := Lib.hid h2
  have H6 := Lib.hid h6
  have H7 := Lib.hid h7
  clear h h1 h2 h3 h4 h5 h6 h7 h8
  go_enter Try.func20, Try.ntmps20
  go_wp2_with fail
  have hY := more (more (Below.refl w.heap.size w) (.cells #[.string (strOfNums l)] 9)) (.cells #[.slice a L.length c, .slice (some ⟨w.heap.size, 0, none⟩) 1 1] 45)
  have hbq := Blk.new (w.alloc (.cells #[.string (strOfNums l)] 9)) 45 #[.slice a L.length c, .slice (some ⟨w.heap.size, 0, none⟩) 1 1]
  have hr1 : Rd strE (w.alloc (.cells #[.string (strOfNums l)] 9)) (.slice (some ⟨w.heap.size, 0, none⟩) 1 1) [l] := Rd.fresh w l #[.string (strOfNums l)] 9 w.heap.size rfl rfl
  have hr2 := hr1.keep (more (Below.refl _ _) (.cells #[.slice a L.length c, .slice (some ⟨w.heap.size, 0, none⟩) 1 1] 45))
  have hr0 := H7.out.keep hY
  have hsl : SSlices ((w.alloc (.cells #[.string (strOfNums l)] 9)).alloc (.cells #[.slice a L.length c, .slice (some ⟨w.heap.size, 0, none⟩) 1 1] 45)) (w.heap.size + 1) [.slice a L.length c, .slice (some ⟨w.heap.size, 0, none⟩) 1 1] [L, [l]] := by
    rw [size_alloc] at hbq
    refine ⟨rfl, fun i hi => ?_⟩
    have hi3 : i = 0 ∨ i = 1 := by simp at hi; omega
    rcases hi3 with rfl | rfl
    · exact ⟨hbq.cell 0, hr0⟩
    · exact ⟨hbq.cell 1, hr2⟩
  clear hbq hr1 hr2 hr0 d0
  generalize hY0 : (w.alloc (.cells #[.string (strOfNums l)] 9)).alloc (.cells #[.slice a L.length c, .slice (some ⟨w.heap.size, 0, none⟩) 1 1] 45) = Y at *
  have HY := Lib.hid hY
  clear hY0 hY hge
  refine (sconcat_any (w.heap.size + 1) 2 _ _ Y hsl rfl (by omega) (by simp [stot]; omega)).mono ?_
  rintro e z ⟨v8, rfl, hr8, hk8⟩
  have e8 : [L, [l]].flatten = L ++ [l] := by simp
  rw [e8] at hr8
  obtain ⟨Q, hQ⟩ : ∃ Q, Q = L ++ [l] := ⟨_, rfl⟩
  rw [← hQ] at hr8
  have HQ := Lib.hid hQ
  clear hQ
  have hz := nest HY.out hk8
  have hbz := H6.out.keep hz
  have q1 := hbz.frozen 0
  have q2 : z.cell? ⟨b, 0, none⟩ = some (.slice a L.length c) := hbz.cell 0
  have HR8 := Lib.hid (hr8.mono HY.out.size)
  have HZ := Lib.hid hz
  have hf := hr8.rd.form
  obtain ⟨a8, c8, rfl, _, _⟩ := hf
  clear hr8 hk8 hz hbz hsl e8
  go_wp2_with fail
  go_ret
  rw [← HQ.out]
  refine ⟨rfl, po_stored HP.out HZ.out HR8.out (by rw [HQ.out]; simp; omega) (fun m hm => ?_)⟩
  rw [HQ.out] at hm
  rcases List.mem_append.1 hm with hm | hm
  · exact H2.out m hm
  · rw [List.mem_singleton.1 hm]; exact hl
theorem padd_full (b : Nat) (W R : Nat → Prop) (L : List (List Int)) (s : ByteArray) (w : World) (h : PoAt w b W R L) (hn : L.length = 5000) :
    Calls Try.prog 20 #[.pointer (some ⟨b, 0, none⟩), .string s] w fun e w' => e = .returned (.int .i64 5) ∧ Below w.heap.size w w' := by
  obtain ⟨h1, h2, h3, h4, h5, v, h6, h7, h8⟩ := id h
  obtain ⟨a, c, rfl, hc1, hm1⟩ := h7.form
  have d0 : w.cell? ⟨b, 0, none⟩ = some (.slice a L.length c) := h6.cell 0
  have hge : ((L.length : Int) ≥ 5000) := by omega
  clear h h1 h2 h3 h4 h5 h6 h7 h8 hn
  go_enter Try.func20, Try.ntmps20
  go_wp2_with fail
  go_ret
  exact ⟨rfl, Below.refl _ _⟩
theorem ppush_ok (b : Nat) (W R : Nat → Prop) (L : List (List Int)) (v : Value) (l : List Int) (w : World) (h : PoAt w b W R L) (hr : Rd (intE .u8) w v l) (hl : l.length ≤ pmax) (hx : ∀ x ∈ l, 0 ≤ x ∧ x ≤ 255) (hn : L.length < 5000) :
    Calls Try.prog 14 #[.pointer (some ⟨b, 0, none⟩), v] w fun e w' => e = .returned (.int .i64 0) ∧ PStep W R w w' b (L ++ [l]) := by
  have k1 := conv_rd hr
  have HX := Lib.hid hx
  clear hx
  go_enter Try.func14, Try.ntmps14
  go_wp2_with fail
  refine (padd_ok b W R L l w h ⟨hl, HX.out⟩ hn).mono ?_
  rintro e z ⟨rfl, hs⟩
  have HS := Lib.hid hs
  clear hs h hr
  go_wp2_with fail
  go_ret
  exact ⟨rfl, HS.out⟩
theorem ppush_full (b : Nat) (W R : Nat → Prop) (L : List (List Int)) (v : Value) (l : List Int) (w : World) (h : PoAt w b W R L) (hr : Rd (intE .u8) w v l) (hn : L.length = 5000) :
    Calls Try.prog 14 #[.pointer (some ⟨b, 0, none⟩), v] w fun e w' => e = .returned (.int .i64 5) ∧ Below w.heap.size w w' := by
  have k1 := conv_rd hr
  go_enter Try.func14, Try.ntmps14
  go_wp2_with fail
  refine (padd_full b W R L _ w h hn).mono ?_
  rintro e z ⟨rfl, hs⟩
  have HS := Lib.hid hs
  clear hs h hr
  go_wp2_with fail
  go_ret
  exact ⟨rfl, HS.out⟩
theorem ppush_nil (v : Value) (l : List Int) (w : World) (hr : Rd (intE .u8) w v l) : Calls Try.prog 14 #[.pointer none, v] w fun e w' => e = .returned (.int .i64 2) ∧ Below w.heap.size w w' := by
  go_enter Try.func14, Try.ntmps14
  go_wp2_with fail
  go_ret
  exact ⟨rfl, Below.refl _ _⟩
theorem plen_any (b : Nat) (W R : Nat → Prop) (L : List (List Int)) (w : World) (h : PoAt w b W R L) : Calls Try.prog 17 #[.pointer (some ⟨b, 0, none⟩)] w fun e w' => e = .returned (.int .i64 L.length) ∧ Below w.heap.size w w' := by
  obtain ⟨h1, h2, h3, h4, h5, v, h6, h7, h8⟩ := id h
  obtain ⟨a, c, rfl, hc1, hm1⟩ := h7.form
  have d0 : w.cell? ⟨b, 0, none⟩ = some (.slice a L.length c) := h6.cell 0
  clear h h1 h2 h3 h4 h5 h6 h7 h8
  go_enter Try.func17, Try.ntmps17
  go_wp2_with fail
  go_ret
  exact ⟨rfl, Below.refl _ _⟩
theorem plen_nil (w : World) : Calls Try.prog 17 #[.pointer none] w fun e w' => e = .returned (.int .i64 0) ∧ Below w.heap.size w w' := by
  go_enter Try.func17, Try.ntmps17
  go_wp2_with fail
  go_ret
  exact ⟨rfl, Below.refl _ _⟩
theorem wrap_nat {n : Nat} (h : n ≤ 5000) : IntKind.u64.wrap (n : Int) = n := by simp [IntKind.wrap, IntKind.signed, IntKind.bits]; omega
theorem phas_any (b : Nat) (W R : Nat → Prop) (L : List (List Int)) (i : Int) (w : World) (h : PoAt w b W R L) (hb : -9223372036854775808 ≤ i ∧ i ≤ 9223372036854775807) :
    Calls Try.prog 19 #[.pointer (some ⟨b, 0, none⟩), .int .i64 i] w fun e w' => e = .returned (.bool (decide (0 ≤ i ∧ i < (L.length : Int)))) ∧ Below w.heap.size w w' := by
  have e2 := wrap_nat h.len
  have e3 : decide (IntKind.u64.wrap i < (L.length : Int)) = decide (0 ≤ i ∧ i < (L.length : Int)) := by
    refine decide_eq_decide.2 ?_
    have h3 : IntKind.u64.wrap i = i % 18446744073709551616 := by simp [IntKind.wrap, IntKind.signed, IntKind.bits]
    have := h.len
    rw [h3]
    omega
  generalize hq : IntKind.u64.wrap i = q at *
  generalize hd : decide (0 ≤ i ∧ i < (L.length : Int)) = d at *
  clear hd
  go_enter Try.func19, Try.ntmps19
  go_wp2_with fail
  refine (plen_any b W R L w h).mono ?_
  rintro e z ⟨rfl, hk⟩
  clear h
  go_wp2_with fail
  go_ret
  exact ⟨by simp [e3], hk⟩
theorem phas_nil (i : Int) (w : World) (hb : -9223372036854775808 ≤ i ∧ i ≤ 9223372036854775807) :
    Calls Try.prog 19 #[.pointer none, .int .i64 i] w fun e w' => e = .returned (.bool false) ∧ Below w.heap.size w w' := by
  have e3 : ¬ (IntKind.u64.wrap i < 0) := by
    have h3 : IntKind.u64.wrap i = i % 18446744073709551616 := by simp [IntKind.wrap, IntKind.signed, IntKind.bits]
    rw [h3]
    omega
  have e2 : IntKind.u64.wrap 0 = 0 := rfl
  generalize hq : IntKind.u64.wrap i = q at *
  go_enter Try.func19, Try.ntmps19
  go_wp2_with fail
  refine (plen_nil w).mono ?_
  rintro e z ⟨rfl, hk⟩
  go_wp2_with fail
  go_ret
  exact ⟨by simp [e3], hk⟩
theorem phas_yes (b : Nat) (W R : Nat → Prop) (L : List (List Int)) (i : Nat) (w : World) (h : PoAt w b W R L) (hi : i < L.length) :
    Calls Try.prog 19 #[.pointer (some ⟨b, 0, none⟩), .int .i64 i] w fun e w' => e = .returned (.bool true) ∧ Below w.heap.size w w' :=
  (phas_any b W R L i w h (by have := h.len; omega)).mono fun e w' ⟨he, hk⟩ => ⟨by rw [he, decide_eq_true (by omega)], hk⟩
theorem phas_no (b : Nat) (W R : Nat → Prop) (L : List (List Int)) (i : Int) (w : World) (h : PoAt w b W R L) (hb : -9223372036854775808 ≤ i ∧ i ≤ 9223372036854775807) (hi : i < 0 ∨ (L.length : Int) ≤ i) :
    Calls Try.prog 19 #[.pointer (some ⟨b, 0, none⟩), .int .i64 i] w fun e w' => e = .returned (.bool false) ∧ Below w.heap.size w w' :=
  (phas_any b W R L i w h hb).mono fun e w' ⟨he, hk⟩ => ⟨by rw [he, decide_eq_false (by omega)], hk⟩
theorem ppeek_ok (b : Nat) (W R : Nat → Prop) (L : List (List Int)) (i : Nat) (w : World) (h : PoAt w b W R L) (hi : i < L.length) :
    Calls Try.prog 12 #[.pointer (some ⟨b, 0, none⟩), .int .i64 i] w fun e w' => ∃ v, e = .returned (.tuple #[v, .bool true]) ∧ Own8 w.heap.size w' v (L.getD i []) ∧ Below w.heap.size w w' := by
  have hI : (i : Int) < (L.length : Int) := by omega
  obtain ⟨q, hq⟩ : ∃ q, L.getD i [] = q := ⟨_, rfl⟩
  rw [hq]
  go_enter Try.func12, Try.ntmps12
  go_wp2_with fail
  refine (phas_yes b W R L i w h hi).mono ?_
  rintro e z ⟨rfl, hk⟩
  have h := h.turned (Turned.of_below (S := fun _ => False) hk) (fun _ _ h => h)
  obtain ⟨h1, h2, h3, h4, h5, v, h6, h7, h8⟩ := id h
  obtain ⟨g, off, c, rfl, hc1, hm1, hc⟩ := h7.strs (by omega)
  have hc1 : (L.length : Int) ≤ c := by omega
  have d0 : z.cell? ⟨b, 0, none⟩ = some (.slice (some ⟨g, off, none⟩) L.length c) := h6.cell 0
  have d1 := hc i hi
  have ht := h.text i
  rw [hq] at d1 ht
  have H := Lib.hid (bytes_own z _ ht)
  have HB := Lib.hid (bytes_below z q)
  have HK := Lib.hid hk
  have hcv := conv_str z q
  clear h h1 h2 h3 h4 h5 h6 h7 h8 hc hk ht
  clear hq
  generalize (strOfNums q).size = n at *
  generalize grownCap z n 0 5 = gc at *
  go_wp2_with fail
  go_ret2
  exact ⟨_, rfl, ⟨H.out.1, by obtain ⟨g', c', h1, h2, h3⟩ := H.out.2; exact ⟨g', c', h1, Nat.le_trans HK.out.size h2, h3⟩⟩, nest HK.out HB.out⟩
theorem ppeek_none (b : Nat) (W R : Nat → Prop) (L : List (List Int)) (i : Int) (w : World) (h : PoAt w b W R L) (hb : -9223372036854775808 ≤ i ∧ i ≤ 9223372036854775807) (hi : i < 0 ∨ (L.length : Int) ≤ i) :
    Calls Try.prog 12 #[.pointer (some ⟨b, 0, none⟩), .int .i64 i] w fun e w' => e = .returned (.tuple #[.slice none 0 0, .bool false]) ∧ Below w.heap.size w w' := by
  go_enter Try.func12, Try.ntmps12
  go_wp2_with fail
  refine (phas_no b W R L i w h hb hi).mono ?_
  rintro e z ⟨rfl, hk⟩
  clear h
  go_wp2_with fail
  go_ret2
  exact ⟨rfl, hk⟩
theorem ppeek_nil (i : Int) (w : World) (hb : -9223372036854775808 ≤ i ∧ i ≤ 9223372036854775807) : Calls Try.prog 12 #[.pointer none, .int .i64 i] w fun e w' => ∃ a c, e = .returned (.tuple #[.slice a 0 c, .bool false]) ∧ Below w.heap.size w w' := by
  go_enter Try.func12, Try.ntmps12
  go_wp2_with fail
  refine (phas_nil i w hb).mono ?_
  rintro e z ⟨rfl, hk⟩
  go_wp2_with fail
  go_ret2
  exact ⟨_, _, rfl, hk⟩
theorem pdouble_any (b : Nat) (W R : Nat → Prop) (L : List (List Int)) (i : Nat) (w : World) (h : PoAt w b W R L) (hi : i < L.length) (T : Value → World → Prop)
    (k : ∀ z, Below w.heap.size w z → PoAt z b W R L → Calls Try.prog 20 #[.pointer (some ⟨b, 0, none⟩), .string (strOfNums (L.getD i []))] z fun e w' => ∃ r, e = .returned r ∧ T r w') :
    Calls Try.prog 11 #[.pointer (some ⟨b, 0, none⟩), .int .i64 i] w fun e w' => ∃ r, e = .returned r ∧ T r w' := by
  have hI : (i : Int) < (L.length : Int) := by omega
  go_enter Try.func11, Try.ntmps11
  go_wp2_with fail
  refine (phas_yes b W R L i w h hi).mono ?_
  rintro e z ⟨rfl, hk⟩
  have h := h.turned (Turned.of_below (S := fun _ => False) hk) (fun _ _ h => h)
  obtain ⟨h1, h2, h3, h4, h5, v, h6, h7, h8⟩ := id h
  obtain ⟨g, off, c, rfl, hc1, hm1, hc⟩ := h7.strs (by omega)
  have hc1 : (L.length : Int) ≤ c := by omega
  have d0 : z.cell? ⟨b, 0, none⟩ = some (.slice (some ⟨g, off, none⟩) L.length c) := h6.cell 0
  have d1 := hc i hi
  have HH := Lib.hid (k z hk h)
  clear h h1 h2 h3 h4 h5 h6 h7 h8 hc hk k
  generalize L.getD i [] = q at *
  go_wp2_with fail
  refine HH.out.mono ?_
  rintro e z ⟨r, rfl, hs⟩
  have HS := Lib.hid hs
  clear hs HH
  go_wp2_with fail
  go_ret
  exact ⟨_, rfl, HS.out⟩
theorem pdouble_ok (b : Nat) (W R : Nat → Prop) (L : List (List Int)) (i : Nat) (w : World) (h : PoAt w b W R L) (hi : i < L.length) (hn : L.length < 5000) :
    Calls Try.prog 11 #[.pointer (some ⟨b, 0, none⟩), .int .i64 i] w fun e w' => e = .returned (.int .i64 0) ∧ PStep W R w w' b (L ++ [L.getD i []]) :=
  (pdouble_any b W R L i w h hi (fun r w' => r = .int .i64 0 ∧ PStep W R w w' b (L ++ [L.getD i []])) fun z hk hz => (padd_ok b W R L _ z hz (hz.text i) hn).mono fun e w' ⟨he, W', R', p1, p2, p3, p4⟩ =>
    ⟨_, he, rfl, W', R', p1, (Turned.of_below hk).trans p2 (fun _ _ h => h), fun j hj => (p3 j hj).imp id (Nat.le_trans hk.size), fun j hj => (p4 j hj).imp id (Nat.le_trans hk.size)⟩).mono fun e w' ⟨r, he, hr, h⟩ => ⟨by rw [he, hr], h⟩
theorem pdouble_full (b : Nat) (W R : Nat → Prop) (L : List (List Int)) (i : Nat) (w : World) (h : PoAt w b W R L) (hi : i < L.length) (hn : L.length = 5000) :
    Calls Try.prog 11 #[.pointer (some ⟨b, 0, none⟩), .int .i64 i] w fun e w' => e = .returned (.int .i64 5) ∧ Below w.heap.size w w' :=
  (pdouble_any b W R L i w h hi (fun r w' => r = .int .i64 5 ∧ Below w.heap.size w w') fun z hk hz => (padd_full b W R L _ z hz hn).mono fun e w' ⟨he, h2⟩ => ⟨_, he, rfl, nest hk h2⟩).mono fun e w' ⟨r, he, hr, h⟩ => ⟨by rw [he, hr], h⟩
theorem pdouble_none (b : Nat) (W R : Nat → Prop) (L : List (List Int)) (i : Int) (w : World) (h : PoAt w b W R L) (hb : -9223372036854775808 ≤ i ∧ i ≤ 9223372036854775807) (hi : i < 0 ∨ (L.length : Int) ≤ i) :
    Calls Try.prog 11 #[.pointer (some ⟨b, 0, none⟩), .int .i64 i] w fun e w' => e = .returned (.int .i64 6) ∧ Below w.heap.size w w' := by
  go_enter Try.func11, Try.ntmps11
  go_wp2_with fail
  refine (phas_no b W R L i w h hb hi).mono ?_
  rintro e z ⟨rfl, hk⟩
  clear h
  go_wp2_with fail
  go_ret
  exact ⟨rfl, hk⟩
theorem pdouble_nil (i : Int) (w : World) : Calls Try.prog 11 #[.pointer none, .int .i64 i] w fun e w' => e = .returned (.int .i64 2) ∧ Below w.heap.size w w' := by
  go_enter Try.func11, Try.ntmps11
  go_wp2_with fail
  go_ret
  exact ⟨rfl, Below.refl _ _⟩
theorem pfork_any (b : Nat) (W R : Nat → Prop) (L : List (List Int)) (w : World) (h : PoAt w b W R L) : Calls Try.prog 13 #[.pointer (some ⟨b, 0, none⟩)] w fun e w' =>
    ∃ b' W' R', e = .returned (.pointer (some ⟨b', 0, none⟩)) ∧ PoAt w' b' W' R' L ∧ (∀ j, W' j → w.heap.size ≤ j) ∧ (∀ j, R' j → (R j ∧ ¬ W j) ∨ w.heap.size ≤ j) ∧ Below w.heap.size w w' := by
  obtain ⟨h1, h2, h3, h4, h5, v, h6, h7, h8⟩ := id h
  obtain ⟨a, c, rfl, hc1, hm1⟩ := h7.form
  have d0 : w.cell? ⟨b, 0, none⟩ = some (.slice a L.length c) := h6.cell 0
  have H2 := Lib.hid h2
  have H3 := Lib.hid h3
  have H5 := Lib.hid h5
  have H7 := Lib.hid h7
  have H8 := Lib.hid h8
  clear h h2 h3 h4 h5 h6 h7 h8
  go_enter Try.func13, Try.ntmps13
  go_wp2_with fail
  go_ret
  have hm := more (Below.refl w.heap.size w) (.cells #[.slice a L.length c] 47)
  refine ⟨w.heap.size, fun j => j = w.heap.size, fun j => j = w.heap.size ∨ (Value.slice a L.length c).ownBlock = some j, rfl, ⟨h1, H2.out, fun j => Iff.rfl, .inl rfl, fun j hj => ?_, _, Blk.new w _ _, H7.out.keep hm, fun g hg => ⟨.inr hg, fun e => ?_⟩⟩, fun j hj => Nat.le_of_eq hj.symm, fun j hj => ?_, hm⟩
  · rw [size_alloc]
    rcases hj with rfl | hj
    · omega
    · have := H5.out j (H8.out j hj).1; omega
  · have := H5.out g (H8.out g hg).1; omega
  · rcases hj with rfl | hj
    · exact .inr (Nat.le_refl _)
    · exact .inl ⟨(H8.out j hj).1, fun hw => (H8.out j hj).2 ((H3.out j).1 hw)⟩
theorem pfork_nil (w : World) : Calls Try.prog 13 #[.pointer none] w fun e w' => e = .returned (.pointer none) ∧ Below w.heap.size w w' := by
  go_enter Try.func13, Try.ntmps13
  go_wp2_with fail
  go_ret
  exact ⟨rfl, Below.refl _ _⟩
theorem erase_cat (L : List (List Int)) (i : Nat) : [L.take i, L.drop (i + 1)].flatten = L.eraseIdx i := by
  rw [List.eraseIdx_eq_take_drop_succ]; simp
set_option maxHeartbeats 1000000 in
theorem ptake_ok (b : Nat) (W R : Nat → Prop) (L : List (List Int)) (i : Nat) (w : World) (h : PoAt w b W R L) (hi : i < L.length) :
    Calls Try.prog 9 #[.pointer (some ⟨b, 0, none⟩), .int .i64 i] w fun e w' => ∃ v, e = .returned (.tuple #[v, .int .i64 0]) ∧ Rd (intE .u8) w' v (L.getD i []) ∧ PStep W R w w' b (L.eraseIdx i) := by
  have hI : (i : Int) < (L.length : Int) := by omega
  have HBW := Lib.hid (h.lt h.2.2.2.1)
  go_enter Try.func9, Try.ntmps9
  go_wp2_with fail
  refine (ppeek_ok b W R L i w h hi).mono ?_
  rintro e y ⟨x, rfl, hx, hk⟩
  have h := h.turned (Turned.of_below (S := fun _ => False) hk) (fun _ _ h => h)
  obtain ⟨h1, h2, h3, h4, h5, v, h6, h7, h8⟩ := id h
  obtain ⟨a, c, rfl, hc1, hm1⟩ := h7.form
  have f0 : y.cell? ⟨b, 0, none⟩ = some (.slice a L.length c) := h6.cell 0
  obtain ⟨hx, gx, cx, rfl, hgx, hgl, hcx, hmx, _⟩ := hx
  have HX := Lib.hid hx
  have HP := Lib.hid h
  have H2 := Lib.hid h2
  have HK := Lib.hid hk
  have hcut1 := run_cut_to (strElem) a L.length c i (by omega)
  have hcut2 := run_cut_from (strElem) a L.length c (i + 1) (by omega) hc1
  rw [cutA_zero] at hcut1
  have g1 : Rd strE y (.slice a i c) (L.take i) := by
    have := h7.cutA (lo := 0) (hi := i) (Nat.zero_le _) (by omega)
    rw [cutA_zero] at this
    simpa using this
  have g2 : Rd strE y (.slice (cutA a c (i + 1) 1) (L.length - (i + 1)) (c - (i + 1))) (L.drop (i + 1)) := by
    have := h7.cutA (lo := i + 1) (hi := L.length) (by omega) (Nat.le_refl _)
    rw [List.take_length] at this
    exact this
  have G1 := Lib.hid g1
  have G2 := Lib.hid g2
  have hbw := Lib.hid h6
  generalize hq1 : L.getD i [] = q1 at *
  have e1 : ((i + 1 : Nat) : Int) = IntKind.i64.wrap ((i : Int) + 1) := by
    rw [IntWalk.i64_in _ (by omega)]
    omega
  rw [e1] at hcut2
  clear e1
  clear h h1 h2 h3 h4 h5 h6 h7 h8 hx hk g1 g2
  go_wp2_with fail
  refine Run.region_walkZ (S := fun z => z.cell? ⟨b, 0, none⟩ = some (.slice a L.length c) ∧ Below y.heap.size y z)
    poolt.rows6 poolt.plan6z 18 _ (l := ?steps1) (by kernel_rfl) (by kernel_rfl) (by kernel_rfl) (by kernel_rfl) rfl rfl ?written1 ⟨f0, (Below.refl _ _).drew⟩ ?onward1
  case written1 =>
    simp only [poolt.plan6z, Run.stepsOf, Run.stepOf, Run.guardOf, List.getElem?_toArray, List.getElem?_cons_zero, List.getElem?_cons_succ, Option.map_some, Option.map_none, Option.bind_some, Option.toList_some, List.map_cons, List.map_nil, List.cons_append, List.nil_append]
    rfl
  repeat ((first
    | (refine Run.takes (v := ?_) ?_ ?_; rotate_left; (· intro w' hS'; go_simp; (try with_reducible rfl)))
    | (refine Run.takesG (v := ?_) ?_ ?_ ?_; rotate_left; (· simp only [List.getElem?_cons_zero, List.getElem?_cons_succ]); (· intro w' hS'; go_simp; (try with_reducible rfl)))
    | (refine Run.skipsT ?_ ?_; (· simp only [List.getElem?_cons_zero, List.getElem?_cons_succ]))
    | (refine Run.skipsF ?_ ?_; (· simp only [List.getElem?_cons_zero, List.getElem?_cons_succ]))
    | (refine Run.skipsU ?_ ?_; (· simp only [List.getElem?_cons_zero, List.getElem?_cons_succ]))
    | (refine Run.passT ?_ ?_; (· simp only [List.getElem?_cons_zero, List.getElem?_cons_succ]))
    | (refine Run.passF ?_ ?_; (· simp only [List.getElem?_cons_zero, List.getElem?_cons_succ]))
    | (refine Run.passU ?_ ?_; (· simp only [List.getElem?_cons_zero, List.getElem?_cons_succ]))
    | fail); simp only [Act.put, List.setIfInBounds_toArray, List.set_cons_zero, List.set_cons_succ])
  refine Run.runs (Run.one (fun hS K hK => ?_))
  go_simp
  have hY : Below y.heap.size y (y.alloc (Obj.cells #[Value.slice a i c, Value.slice (cutA a c (i + 1) 1) (L.length - (i + 1)) (c - (i + 1))] 45)).drew := (more (Below.refl _ _) _).drew
  have hsl : SSlices (y.alloc (Obj.cells #[Value.slice a i c, Value.slice (cutA a c (i + 1) 1) (L.length - (i + 1)) (c - (i + 1))] 45)).drew y.heap.size [Value.slice a i c, Value.slice (cutA a c (i + 1) 1) (L.length - (i + 1)) (c - (i + 1))] [L.take i, L.drop (i + 1)] := by
    have hbq : Blk (y.alloc (Obj.cells #[Value.slice a i c, Value.slice (cutA a c (i + 1) 1) (L.length - (i + 1)) (c - (i + 1))] 45)).drew y.heap.size 45 _ := Blk.new y _ _
    refine ⟨rfl, fun k hk => ?_⟩
    have hk3 : k = 0 ∨ k = 1 := by simp at hk; omega
    rcases hk3 with rfl | rfl
    · exact ⟨hbq.cell 0, G1.out.keep hY⟩
    · exact ⟨hbq.cell 1, G2.out.keep hY⟩
  refine hK.out _ _ ⟨kc hY f0, hY⟩ ?_
  clear hK K hS
  generalize (y.alloc (Obj.cells #[Value.slice a i c, Value.slice (cutA a c (i + 1) 1) (L.length - (i + 1)) (c - (i + 1))] 45)).drew = Y at *
  refine Run.runs (Run.callF 18 (by kernel_rfl) (fun hS => sconcat_any y.heap.size 2 _ _ Y hsl rfl (by omega) (by have := HP.out.len; simp only [stot, List.map_cons, List.map_nil, List.sum_cons, List.sum_nil, List.length_take, List.length_drop]; omega)) rfl ?_)
  rintro hS e z ⟨v8, rfl, hr8, hk8⟩
  refine ⟨_, rfl, ⟨kc hk8 hS.1, nest hY hk8⟩, ?_⟩
  have hz := nest hY hk8
  have hr8 := hr8.mono hY.size
  clear hS hsl
  simp only [Act.put, List.setIfInBounds_toArray, List.set_cons_zero, List.set_cons_succ]
  repeat ((first
    | (refine Run.takes (v := ?_) ?_ ?_; rotate_left; (· intro w' hS'; go_simp; (try with_reducible rfl)))
    | (refine Run.takesG (v := ?_) ?_ ?_ ?_; rotate_left; (· simp only [List.getElem?_cons_zero, List.getElem?_cons_succ]); (· intro w' hS'; go_simp; (try with_reducible rfl)))
    | (refine Run.skipsT ?_ ?_; (· simp only [List.getElem?_cons_zero, List.getElem?_cons_succ]))
    | (refine Run.skipsF ?_ ?_; (· simp only [List.getElem?_cons_zero, List.getElem?_cons_succ]))
    | (refine Run.skipsU ?_ ?_; (· simp only [List.getElem?_cons_zero, List.getElem?_cons_succ]))
    | (refine Run.passT ?_ ?_; (· simp only [List.getElem?_cons_zero, List.getElem?_cons_succ]))
    | (refine Run.passF ?_ ?_; (· simp only [List.getElem?_cons_zero, List.getElem?_cons_succ]))
    | (refine Run.passU ?_ ?_; (· simp only [List.getElem?_cons_zero, List.getElem?_cons_succ]))
    | fail); simp only [Act.put, List.setIfInBounds_toArray, List.set_cons_zero, List.set_cons_succ])
  have hbz := hbw.out.keep hz
  have q1' := hbz.frozen 0
  have q2 : z.cell? ⟨b, 0, none⟩ = some (.slice a L.length c) := hbz.cell 0
  rw [erase_cat] at hr8
  obtain ⟨Q, hQ⟩ : ∃ Q, Q = L.eraseIdx i := ⟨_, rfl⟩
  rw [← hQ] at hr8
  have HQ := Lib.hid hQ
  clear hQ
  have HR8 := Lib.hid hr8
  have HZ := Lib.hid hz
  obtain ⟨a8, c8, rfl, _, _⟩ := hr8.rd.form
  clear hr8 hz hbz hk8 hY
  refine Run.endsZ (fun hS K hK => ?_)
  go_simp
  refine hK.out _ _ (NoPanic.normal ?_)
  clear hK K hS
  have hst : PStep W R w (z.setCell ⟨b, 0, none⟩ (.slice a8 Q.length c8)) b Q := by
    obtain ⟨W', R', p1, p2, p3, p4⟩ := po_stored (W := W) (R := R) HP.out HZ.out HR8.out (by rw [HQ.out]; have := HP.out.len; have := List.length_eraseIdx_le L i; omega) (fun m hm => H2.out m (List.mem_of_mem_eraseIdx (HQ.out ▸ hm)))
    exact ⟨W', R', p1, (Turned.of_below HK.out).trans p2 (fun _ _ h => h), fun j hj => (p3 j hj).imp id (Nat.le_trans HK.out.size), fun j hj => (p4 j hj).imp id (Nat.le_trans HK.out.size)⟩
  have hxz : Rd (intE .u8) (z.setCell ⟨b, 0, none⟩ (.slice a8 Q.length c8)) (.slice (some ⟨gx, 0, none⟩) q1.length cx) q1 := by
    refine (HX.out.keep HZ.out).only (Only.set (b := b) z 0 _) ?_
    intro e
    have e : gx = b := by simpa [Value.ownBlock] using e
    have := HBW.out
    omega
  have HST := Lib.hid hst
  have HXZ := Lib.hid hxz
  clear hst hxz q1' q2 f0 hcut1 hcut2
  generalize z.setCell ⟨b, 0, none⟩ (.slice a8 Q.length c8) = V at *
  go_wp2_with fail
  go_ret2
  rw [← HQ.out]
  exact ⟨_, rfl, by rw [hq1]; exact HXZ.out, HST.out⟩
theorem ptake_none (b : Nat) (W R : Nat → Prop) (L : List (List Int)) (i : Int) (w : World) (h : PoAt w b W R L) (hb : -9223372036854775808 ≤ i ∧ i ≤ 9223372036854775807) (hi : i < 0 ∨ (L.length : Int) ≤ i) :
    Calls Try.prog 9 #[.pointer (some ⟨b, 0, none⟩), .int .i64 i] w fun e w' => ∃ a c, e = .returned (.tuple #[.slice a 0 c, .int .i64 6]) ∧ c ≤ maxLen ∧ Below w.heap.size w w' := by
  go_enter Try.func9, Try.ntmps9
  go_wp2_with fail
  refine (ppeek_none b W R L i w h hb hi).mono ?_
  rintro e z ⟨rfl, hk⟩
  clear h
  go_wp2_with fail
  go_ret2
  exact ⟨_, _, rfl, Nat.zero_le _, hk⟩
theorem ptake_nil (i : Int) (w : World) : Calls Try.prog 9 #[.pointer none, .int .i64 i] w fun e w' => ∃ a c, e = .returned (.tuple #[.slice a 0 c, .int .i64 2]) ∧ Below w.heap.size w w' := by
  go_enter Try.func9, Try.ntmps9
  go_wp2_with fail
  go_ret2
  exact ⟨_, _, rfl, Below.refl _ _⟩
end Go.Proofs.Ytchofcciddbmoaa
