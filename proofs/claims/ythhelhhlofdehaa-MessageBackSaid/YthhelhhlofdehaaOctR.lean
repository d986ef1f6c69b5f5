/- Package octet, the reader: Read, next, Get, Text, Err, Left. -/
import Derived.Test.YthhelhhlofdehaaOctW
import Derived.Lib.SliceRun
import Derived.Test.YthhelhhlofdehaaOctetMath
set_option maxRecDepth 4000
namespace Go.Proofs.Ythhelhhlofdehaa
open Go.RowKit Mem
set_option linter.unusedSimpArgs false
set_option linter.unusedVariables false
attribute [local irreducible] Go.Calls

/-- what is left at place p -/
def lf (l : List Int) (p : Nat) (e : Int) : List Int := if e = 0 then l.drop p else []
/-- a reader of l at block b, at place p, with that error; what it keeps lies in block g -/
def OrAt (w : World) (b : Nat) (g : Option Nat) (l : List Int) (p : Nat) (e : Int) : Prop :=
  ∃ v, Blk w b 120 #[v, .int .i64 e] ∧ Rd (intE .u8) w v (lf l p e) ∧ p ≤ l.length ∧ (∀ k, v.ownBlock = some k → g = some k) ∧ g ≠ some b
theorem OrAt.lt {w : World} {b : Nat} {g : Option Nat} {l : List Int} {p : Nat} {e : Int} (h : OrAt w b g l p e) : b < w.heap.size := by
  obtain ⟨v, hb, _⟩ := h
  exact hb.lt
theorem OrAt.keep {w w' : World} {b : Nat} {g : Option Nat} {l : List Int} {p : Nat} {e : Int} (h : OrAt w b g l p e) (k : Below w.heap.size w w') : OrAt w' b g l p e := by
  obtain ⟨v, hb, hr, h1⟩ := h
  exact ⟨v, hb.keep k, hr.keep k, h1⟩
theorem OrAt.only {w w' : World} {b d : Nat} {g : Option Nat} {l : List Int} {p : Nat} {e : Int} (h : OrAt w b g l p e) (k : Only d w w') (h1 : b ≠ d) (h2 : g ≠ some d) : OrAt w' b g l p e := by
  obtain ⟨v, hb, hr, hp, hg, hne⟩ := h
  exact ⟨v, hb.only k h1, hr.only k (fun e => h2 (hg _ e)), hp, hg, hne⟩

theorem eql_slice_nil (w : World) (a : Option Addr) (n c : Nat) : (binOp .eql 35 (.slice a n c) (.slice none 0 0)).run Try.prog w = .ok (.bool a.isNone) w := by
  exact Go.Lib.run_eql_slice_nil w 35 5 a n c 0 0 Try.underlying35
theorem clone_any (v : Value) (l : List Int) (w : World) (h : Rd (intE .u8) w v l) (hl : l.length ≤ 1000000) :
    Calls Try.prog 74 #[v] w (PutPost w l) := by
  obtain ⟨a, c, rfl, h1, h2⟩ := h.form
  rcases a with _ | a
  · have hl0 : l = [] := by
      obtain ⟨a', c', hv, _, _, h3⟩ := h
      rcases Nat.eq_zero_or_pos l.length with h0 | h0
      · exact List.eq_nil_of_length_eq_zero h0
      · obtain ⟨g, off, ha, _⟩ := h3 h0
        rw [ha] at hv
        cases hv
    subst hl0
    have heq := eql_slice_nil w none 0 c
    go_enter Try.func74, Try.ntmps74
    go_wp2_with fail
    go_ret
    exact ⟨_, rfl, Row.nil, Below.refl _ _⟩
  · have heq := eql_slice_nil w (some a) l.length c
    have hrow : Row (intE .u8) 5 w.heap.size (w.alloc (.cells #[] 5)) (.slice (some ⟨w.heap.size, 0, none⟩) 0 0) [] := Row.lit _ _ #[] [] 0 _ rfl rfl rfl (Nat.le_refl _) (Nat.zero_le _)
    have hk : Below w.heap.size w (w.alloc (.cells #[] 5)) := more (Below.refl _ _) _
    have hr := h.keep hk
    have HK := Lib.hid hk
    clear hk h
    go_enter Try.func74, Try.ntmps74
    go_wp2_with (at_builtin; go_must (refine wpList_append (E := intE .u8) (B := w.heap.size) (l := []) (m := l) (bytes := 1) byteElem Nat.zero_lt_one rfl (.tmp 5) (.tmp 6) rfl rfl hrow rfl hr (by simp [maxLen]; omega) (by simp; omega) HK.out.size ?_); intro v9 z hr9 hk9 hg9 _)
    rw [List.nil_append] at hr9
    have hz := HK.out.trans hk9
    go_ret
    exact ⟨_, rfl, hr9, hz⟩
def ReadPost (w : World) (l : List Int) (e : Ending) (w' : World) : Prop := ∃ b g, e = .returned (.pointer (some ⟨b, 0, none⟩)) ∧ OrAt w' b g l 0 0 ∧ w.heap.size ≤ b ∧ (∀ k, g = some k → w.heap.size ≤ k ∧ k < w'.heap.size) ∧ Below w.heap.size w w'
theorem oread_any (v : Value) (l : List Int) (w : World) (h : Rd (intE .u8) w v l) (hl : l.length ≤ 1000000) :
    Calls Try.prog 59 #[v] w (ReadPost w l) := by
  obtain ⟨a0, c0, rfl, _, _⟩ := h.form
  go_enter Try.func59, Try.ntmps59
  go_wp2_with fail
  refine (clone_any _ l w h hl).mono ?_
  rintro e y ⟨v1, rfl, hr1, hk1⟩
  obtain ⟨a, c, rfl, _, _⟩ := hr1.rd.form
  have HR := Lib.hid hr1
  have HK := Lib.hid hk1
  clear hr1 hk1 h
  go_wp2_with fail
  go_ret
  have hro := HR.out
  have hb := Blk.new y 120 #[Value.slice a l.length c, Value.int IntKind.i64 0]
  have hk := HK.out
  have hblk := hro.block
  refine ⟨_, (Value.slice a l.length c).ownBlock, rfl, ⟨_, hb, by simpa [lf] using (hro.keep (more (Below.refl _ _) _)).rd, Nat.zero_le _, fun k hk => hk, fun e => ?_⟩, hk.size, fun k e => ?_, more hk _⟩
  · have := (hblk _ e).2; omega
  · have := hblk k e; refine ⟨this.1, Nat.lt_trans this.2 ?_⟩; simp
theorem lf_short {l : List Int} {p n : Nat} {e : Int} (he : e = 0 ∨ e = 3) (h : (lf l p e).length < n) : tk l p e n = (p, 3, []) := by
  rcases he with rfl | rfl
  · simp only [lf, if_true, List.length_drop] at h
    exact tk_more h
  · simp [tk]
theorem lf_long {l : List Int} {p n : Nat} {e : Int} (he : e = 0 ∨ e = 3) (hp : p ≤ l.length) (h : n ≤ (lf l p e).length) : ∃ p', tk l p e n = (p', e, (lf l p e).take n) ∧ lf l p' e = (lf l p e).drop n ∧ p' ≤ l.length := by
  rcases he with rfl | rfl
  · simp only [lf, if_true, List.length_drop] at h
    refine ⟨p + n, ?_, ?_, by omega⟩
    · simp only [tk, lf, if_true]
      rw [if_neg (by omega)]
    · simp only [lf, if_true, List.drop_drop]
  · have h0 : n = 0 := by simpa [lf] using h
    subst h0
    exact ⟨p, by simp [tk, lf], by simp [lf], hp⟩
def NextPost (b : Nat) (g : Option Nat) (l : List Int) (r : Nat × Int × List Int) (w : World) (e : Ending) (w' : World) : Prop :=
  ∃ x, e = .returned x ∧ Rd (intE .u8) w' x r.2.2 ∧ OrAt w' b g l r.1 r.2.1 ∧ Only b w w'
set_option maxHeartbeats 1000000 in
theorem onext_any (b : Nat) (g : Option Nat) (l : List Int) (p n : Nat) (e : Int) (he : e = 0 ∨ e = 3) (w : World) (h : OrAt w b g l p e) (hl : l.length ≤ 1000000) (hn : n ≤ 1000000) :
    Calls Try.prog 75 #[.pointer (some ⟨b, 0, none⟩), .int .i64 n] w (NextPost b g l (tk l p e n) w) := by
  obtain ⟨v, hb, hr, hp, hg, hne⟩ := h
  obtain ⟨a, c, rfl, h1, h2⟩ := hr.form
  have hyl : (lf l p e).length ≤ l.length := by unfold lf; split <;> simp
  by_cases hs : (lf l p e).length < n
  · rw [lf_short he hs]
    generalize lf l p e = y at *
    have d0 : w.cell? ⟨b, 0, none⟩ = some (.slice a y.length c) := hb.cell 0
    have d1 : w.cell? ⟨b, 1, none⟩ = some (.int .i64 e) := hb.cell 1
    have hb1 := hb.set_ 0 (.slice none 0 0)
    have hb2 := hb1.set_ 1 (.int .i64 3)
    have hfz := hb.frozen 0
    have hfz1 := hb1.frozen 1
    have d2 : (w.setCell ⟨b, 0, none⟩ (.slice none 0 0)).cell? ⟨b, 1, none⟩ = some (.int .i64 e) := hb1.cell 1
    have ho := (Only.set (b := b) w 0 (.slice none 0 0)).trans (Only.set _ 1 (.int .i64 3))
    have e1 : (n : Int) > y.length := by omega
    have HB2 := Lib.hid hb2
    have HO := Lib.hid ho
    clear hb hb1 hb2 ho hr
    go_enter Try.func75, Try.ntmps75
    go_wp2_with fail
    go_ret
    exact ⟨_, rfl, Rd.nil none 0 (Nat.zero_le _), ⟨_, HB2.out, by simpa [lf] using Rd.nil none 0 (Nat.zero_le _), hp, (fun k hk => by cases hk), hne⟩, HO.out⟩
  · obtain ⟨p', ht, hd, hp'⟩ := lf_long (n := n) he hp (by omega)
    rw [ht]
    have hx := hr.cutA (Nat.zero_le n) (show n ≤ (lf l p e).length by omega)
    have hy := hr.cutA (show n ≤ (lf l p e).length by omega) (Nat.le_refl _)
    rw [List.take_length, ← hd] at hy
    rw [Nat.sub_zero, Nat.sub_zero, List.drop_zero, cutA_zero] at hx
    have d0 : w.cell? ⟨b, 0, none⟩ = some (.slice a (lf l p e).length c) := hb.cell 0
    have hnb : (Value.slice a (lf l p e).length c).ownBlock ≠ some b := fun e => hne (hg _ e)
    have hcutg : ∀ k, (Value.slice (cutA a c n 1) ((lf l p e).length - n) (c - n)).ownBlock = some k → g = some k := by
      intro k hk
      apply hg
      rw [← hk]
      unfold cutA
      rcases a with _ | ad
      · split <;> rfl
      · split
        · rfl
        · simp only [Option.map_some, Addr.add]
          split <;> rfl
    clear hr hd ht
    generalize lf l p e = y at *
    have hcut1 := run_cut_to (P := Try.prog) byteElem a y.length c n (by omega)
    rw [cutA_zero] at hcut1
    have hcut2 := run_cut_from (P := Try.prog) byteElem a y.length c n (by omega) h1
    have hfz := hb.frozen 0
    have e1 : ¬ (n : Int) > y.length := by omega
    have hb2 := hb.set_ 0 (.slice (cutA a c n 1) (y.length - n) (c - n))
    have ho := Only.set (b := b) w 0 (.slice (cutA a c n 1) (y.length - n) (c - n))
    have HB2 := Lib.hid hb2
    have HO := Lib.hid ho
    have HX := Lib.hid (hx.only ho (fun e => hnb (by rw [← e]; cases a <;> rfl)))
    have HY := Lib.hid (hy.only ho (cut_ne hnb))
    have HG := Lib.hid hcutg
    clear hb2 ho hb hx hy hcutg hg
    go_enter Try.func75, Try.ntmps75
    go_wp2_with fail
    go_ret
    exact ⟨_, rfl, HX.out, ⟨_, HB2.out, HY.out, hp', HG.out, hne⟩, HO.out⟩
theorem onext_nil (n : Int) (w : World) : Calls Try.prog 75 #[.pointer none, .int .i64 n] w fun e w' => e = .returned (.slice none 0 0) ∧ w = w' := by
  go_enter Try.func75, Try.ntmps75
  go_wp2_with fail
  go_ret
  exact ⟨rfl, rfl⟩
theorem oerr_any (b : Nat) (g : Option Nat) (l : List Int) (p : Nat) (e : Int) (w : World) (h : OrAt w b g l p e) :
    Calls Try.prog 62 #[.pointer (some ⟨b, 0, none⟩)] w fun e' w' => e' = .returned (.int .i64 e) ∧ Below w.heap.size w w' := by
  obtain ⟨v, hb, hr, hp, hg, hne⟩ := h
  have d1 : w.cell? ⟨b, 1, none⟩ = some (.int .i64 e) := hb.cell 1
  clear hb
  go_enter Try.func62, Try.ntmps62
  go_wp2_with fail
  go_ret
  exact ⟨rfl, Below.refl _ _⟩
theorem oerr_nil (w : World) :
    Calls Try.prog 62 #[.pointer none] w fun e' w' => e' = .returned (.int .i64 2) ∧ Below w.heap.size w w' := by
  go_enter Try.func62, Try.ntmps62
  go_wp2_with fail
  go_ret
  exact ⟨rfl, Below.refl _ _⟩
/-- Get's loop: the number that a row of bytes is -/
def OGetPost (b : Nat) (g : Option Nat) (l : List Int) (r : Nat × Int × List Int) (w : World) (e : Ending) (w' : World) : Prop :=
  e = .returned (.int .u64 (num r.2.2)) ∧ OrAt w' b g l r.1 r.2.1 ∧ Only b w w'
set_option maxHeartbeats 1000000 in
theorem oget_any (b : Nat) (g : Option Nat) (l : List Int) (p : Nat) (n e : Int) (he : e = 0 ∨ e = 3) (w : World) (h : OrAt w b g l p e) (hl : l.length ≤ 1000000) (hb : Byt l) :
    Calls Try.prog 60 #[.pointer (some ⟨b, 0, none⟩), .int .i64 n] w (OGetPost b g l (gt l p e n) w) := by
  have hz := szN_bd n
  have hll := tk_len l p e (szN n)
  have hbb := tk_byt hb p e (szN n)
  generalize hG : gt l p e n = r
  have hT : tk l p e (szN n) = r := hG
  rw [hT] at hll hbb
  obtain ⟨p', e', m⟩ := r
  clear hG
  have HT := Lib.hid hT
  clear hT
  go_enter Try.func60, Try.ntmps60
  go_wp2_with fail
  refine (width_any n w).mono ?_
  rintro e1 y1 ⟨rfl, hk1⟩
  have hr1 := h.keep hk1
  clear h
  go_wp2_with fail
  refine (onext_any b g l p (szN n) e he y1 hr1 hl (by omega)).mono ?_
  rintro e2 y2 ⟨x, rfl, hx, hr2, ho2⟩
  rw [HT.out] at hx hr2
  simp only [] at hx hr2 hll hbb ⊢
  have ho := (Only.of_below (b := b) hk1).trans ho2
  clear ho2 hr1 hk1
  obtain ⟨a, g1, off, c, rfl, hc1, hc2, ha, hc⟩ := Mem.Rd.loopI hx
  have HC := Lib.hid hc
  have HBY := Lib.hid hbb
  have HA := Lib.hid ha
  clear hc ha hx hbb
  go_wp2_with fail
  go_loopw [5, 13] (fun s i wr => ∃ k : Nat, k ≤ m.length ∧ i = .int .i64 k ∧ s = .int .u64 (num (m.take k)) ∧ Below y2.heap.size y2 wr) (fun _ i _ => m.length - (intOf i).toNat)
  case atStart => exact ⟨0, Nat.zero_le _, rfl, rfl, Below.refl _ _⟩
  case round =>
    obtain ⟨k, hk, rfl, rfl, hw1⟩ := hrel
    by_cases hlt : k < m.length
    · have d1 := kc hw1 (HC.out k hlt)
      have hgl := World.block_lt_of_cell? _ _ d1
      obtain ⟨rfl, _⟩ := HA.out (by omega)
      have bx := num_bd k (HBY.out.take k) (by simp; omega)
      have hps := pow_small (show k ≤ 7 by omega)
      have hby := HBY.out (m.getD k 0) (by rw [show m.getD k 0 = m[k] by simp [List.getD, hlt]]; exact List.getElem_mem hlt)
      have htk := Lib.hid (take_one hlt)
      have hor := or_low (x := num (m.take k)) (b := m.getD k 0) bx.1 (by omega) hby.1 hby.2
      have e1 : (k : Int) < m.length := by omega
      generalize m.getD k 0 = y at *
      generalize hN : num (m.take k) = N at *
      have HN := Lib.hid hN
      clear hN
      go_wp2_with fail
      exact ⟨⟨k + 1, by omega, by go_num, by rw [htk.out, num_snoc, HN.out], hw1⟩, by simp [intOf]; omega⟩
    · have hkk : k = m.length := by omega
      subst hkk
      rw [List.take_length]
      have hz := ho.trans (Only.of_below (b := b) hw1)
      have hr3 := hr2.keep hw1
      go_wp2_with fail
      go_ret
      exact ⟨rfl, hr3, hz⟩
theorem oget_nil (n : Int) (w : World) :
    Calls Try.prog 60 #[.pointer none, .int .i64 n] w fun e' w' => e' = .returned (.int .u64 0) ∧ Below w.heap.size w w' := by
  go_enter Try.func60, Try.ntmps60
  go_wp2_with fail
  refine (width_any n w).mono ?_
  rintro e1 y1 ⟨rfl, hk1⟩
  go_wp2_with fail
  refine (onext_nil _ y1).mono ?_
  rintro e1 y2 ⟨rfl, rfl⟩
  go_wp2_with fail
  go_loopw [5, 13] (fun s i wr => s = .int .u64 0 ∧ i = .int .i64 0 ∧ Below y1.heap.size y1 wr) (fun _ _ _ => 0)
  case atStart => exact ⟨rfl, rfl, Below.refl _ _⟩
  case round =>
    obtain ⟨rfl, rfl, hw1⟩ := hrel
    have hz := nest hk1 hw1
    go_wp2_with fail
    go_ret
    exact ⟨rfl, hz⟩
end Go.Proofs.Ythhelhhlofdehaa
