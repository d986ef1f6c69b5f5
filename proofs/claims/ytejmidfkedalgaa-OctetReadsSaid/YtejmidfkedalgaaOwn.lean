/- petasoshelp.Own: a copy with room behind it; Kept: is it as it was? -/
import Derived.Test.YtejmidfkedalgaaSameB
import Derived.Laws.OwnMore
namespace Go.Proofs.Ytejmidfkedalgaa
open Go.RowKit Mem
set_option linter.unusedSimpArgs false
set_option linter.unusedVariables false
attribute [local irreducible] Go.Calls

namespace Mem
theorem run_append_fits_rd {P : Program} {α : Type} {E : Enc α} {T ts : TypeId} {B bytes g n cap : Nat} {w : World} {x : Value} {l m : List α} (I : Elem P ts T E.size bytes) (ty : TypeId) (hown : Row E T B w (.slice (some ⟨g, 0, none⟩) n cap) l) (hn : n = l.length) (hr : Rd E w x m) (hroom : n + m.length ≤ cap) :
    ∃ w', (Builtin.append_ #[ts, ts] ty #[.slice (some ⟨g, 0, none⟩) n cap, x]).run P w = .ok (.slice (some ⟨g, 0, none⟩) (n + m.length) cap) w' ∧ Row E T B w' (.slice (some ⟨g, 0, none⟩) (n + m.length) cap) (l ++ m) ∧ w.grownBy w' (some g) := by
  obtain ⟨ht, i, z, hi, hz, hs, hby, hzs⟩ := I
  obtain ⟨a, c, rfl, h1, h2, h3⟩ := hr
  subst hn
  have hx : ∀ ad, a = some ad → ∃ w', (Builtin.append_ #[ts, ts] ty #[.slice (some ⟨g, 0, none⟩) l.length cap, .slice (some ad) m.length c]).run P w = .ok (.slice (some ⟨g, 0, none⟩) (l.length + m.length) cap) w' ∧ Row E T B w' (.slice (some ⟨g, 0, none⟩) (l.length + m.length) cap) (l ++ m) ∧ w.grownBy w' (some g) := by
    intro ad ha
    obtain ⟨w', r1, r2, r3⟩ := run_append_fits (P := P) w B ts ty T i E.size ht hi hs g l.length cap (E.flat l) hown ad m.length c (E.flat m) (E.flat_len m)
      (fun j u hu => by
        have hl : 0 < m.length := by
          rcases Nat.eq_zero_or_pos m.length with h0 | h0
          · rw [List.eq_nil_of_length_eq_zero h0] at hu; simp [Enc.flat] at hu
          · exact h0
        obtain ⟨g', off, rfl, hc⟩ := h3 hl
        injection ha with ha
        subst ha
        have := hc j u hu
        unfold Addr.add; split <;> simp_all) (E.flat_one m) hroom
    refine ⟨w', r1, ?_, r3⟩
    unfold Row
    rw [List.length_append, E.flat_append]
    exact r2
  rcases a with _ | ad
  · have hm : m = [] := by
      rcases Nat.eq_zero_or_pos m.length with h0 | h0
      · exact List.eq_nil_of_length_eq_zero h0
      · obtain ⟨g', off, h, _⟩ := h3 h0
        cases h
    subst hm
    refine ⟨w, ?_, by simpa using hown, World.grownBy.refl w _⟩
    have hnc : l.length ≤ cap := by simpa using hroom
    simp [Builtin.append_, run_underlying ht, sizeOf, typeInfo, hi, Builtin.lenOf, Builtin.firstCells, hnc, storeCells]
  · exact hx ad rfl
theorem wpList_append_fits {P : Program} {α : Type} {E : Enc α} {T ts : TypeId} {B bytes g n cap : Nat} {w : World} {x : Value} {l m : List α} {ops : Array Oper} {rest : List Oper} {o : Oper} {a : Act} {Q : Exit → Act → World → Prop} (I : Elem P ts T E.size bytes) (hgd : o.guard = none) (s sx : Operand)
    (ho : o.op = .call { callee := .builtin .append, args := #[s, sx], argTypes := #[ts, ts] }) (hs : a.eval s = .slice (some ⟨g, 0, none⟩) n cap) (hown : Row E T B w (.slice (some ⟨g, 0, none⟩) n cap) l) (hn : n = l.length) (hx : a.eval sx = x) (hr : Rd E w x m) (hroom : n + m.length ≤ cap)
    (h : ∀ w', Row E T B w' (.slice (some ⟨g, 0, none⟩) (n + m.length) cap) (l ++ m) → w.grownBy w' (some g) → wpList P ops Q rest (a.put o.dst (.slice (some ⟨g, 0, none⟩) (n + m.length) cap)) w') : wpList P ops Q (o :: rest) a w := by
  obtain ⟨w', hrun, h2, h3⟩ := run_append_fits_rd (P := P) I o.type hown hn hr hroom
  refine wpList_plain hgd fun K hK => ?_
  unfold Oper.wp execOp
  simp only [ho, resolve, invoke, builtin, Sem.run_bind, Sem.run_pure, Result.andThen_ok, List.map_toArray, List.map_cons, List.map_nil, hs, hx, hrun]
  exact hK _ _ (h w' h2 h3)
/-- one more, in the room behind -/
theorem Row.more {k : IntKind} {T : TypeId} {B : Nat} {w : World} {g n c : Nat} {l : List Int} (h : Row (intE k) T B w (.slice (some ⟨g, 0, none⟩) n c) l) (hn : n = l.length) (hc : n < c) (y : Int) :
    Row (intE k) T B (w.setCell ⟨g, n, none⟩ (.int k y)) (.slice (some ⟨g, 0, none⟩) (n + 1) c) (l ++ [y]) ∧ w.grownBy (w.setCell ⟨g, n, none⟩ (.int k y)) (some g) := by
  subst hn
  rcases h.2 with ⟨h', _⟩ | ⟨g', cap', cur, h', hb, hg, hnc, hcm, hcs, htake⟩
  · simp at h'
  · simp only [Value.slice.injEq, Option.some.injEq, Addr.mk.injEq, and_true, true_and] at h'
    obtain ⟨rfl, rfl⟩ := h'
    have hsz : (intE k).size = 1 := rfl
    rw [hsz, Nat.mul_one] at hcs htake
    refine ⟨⟨by rw [List.length_append, Enc.flat_len, hsz]; simp, .inr ⟨g, c, cur.setIfInBounds l.length (.int k y), by simp, hb, heap_setCell_same w g l.length cur T _ hg, by simp; omega, hcm, by simp [hsz]; exact hcs, ?_⟩⟩,
      ⟨rfl, rfl, rfl, by simp, fun j _ hj => heap_setCell_other w ⟨g, l.length, none⟩ j _ (fun e => hj (by simp [e]))⟩⟩
    rw [Array.toList_setIfInBounds, hsz, Nat.mul_one, List.length_append, Enc.flat_append, ← htake]
    simp only [List.length_cons, List.length_nil, Nat.zero_add]
    have hlt : l.length < (cur.toList.set l.length (.int k y)).length := by simp; omega
    rw [List.take_add_one, List.getElem?_eq_getElem hlt, List.take_set_of_le (Nat.le_refl _)]
    simp [Enc.flat, intE]
theorem Row.room {k : IntKind} {T : TypeId} {B : Nat} {w : World} {g n c : Nat} {l : List Int} (h : Row (intE k) T B w (.slice (some ⟨g, 0, none⟩) n c) l) (hn : n = l.length) {j : Nat} (hj : j < c) :
    (∃ u, w.cell? ⟨g, j, none⟩ = some u) ∧ w.frozen? ⟨g, j, none⟩ = false := by
  subst hn
  refine ⟨?_, World.ownsRow.frozenAt h j⟩
  rcases h.2 with ⟨h', _⟩ | ⟨g', cap', cur, h', hb, hg, hnc, hcm, hcs, htake⟩
  · simp at h'
  · simp only [Value.slice.injEq, Option.some.injEq, Addr.mk.injEq, and_true, true_and] at h'
    obtain ⟨rfl, rfl⟩ := h'
    have hsz : (intE k).size = 1 := rfl
    rw [hsz, Nat.mul_one] at hcs
    exact ⟨cur[j], by rw [cell_of_row w g j cur T (0, 0) hg]; simp [hcs, hj]⟩
end Mem

def OwnPost (w : World) (l : List Int) (x : Int) (e : Ending) (w' : World) : Prop :=
  ∃ g, e = .returned (.slice (some ⟨g, 0, none⟩) l.length (l.length + 3)) ∧ Row (intE .u8) 5 w.heap.size w' (.slice (some ⟨g, 0, none⟩) (l.length + 3) (l.length + 3)) (l ++ [x, x, x]) ∧ Below w.heap.size w w'
set_option maxHeartbeats 1000000 in
theorem ownb_any (v : Value) (l : List Int) (x : Int) (w : World) (h : Rd (intE .u8) w v l) (hl : l.length ≤ 1000000) :
    Calls Try.prog 20 #[v, .int .u8 x] w (OwnPost w l x) := by
  obtain ⟨ht, ii, z, hi, hz, hs, hby, hzs⟩ := byteElem
  obtain ⟨w1, hmk, hown, hg1⟩ := run_make_own (P := Try.prog) w w.heap.size 27 5 ii z 1 ht hi hz hs .i64 .i64 (l.length + 3) (by rw [hby]; omega) (by unfold maxLen; omega) (Nat.le_refl _)
  have hcast : ((l.length + 3 : Nat) : Int) = (l.length : Int) + 3 := by omega
  rw [hcast] at hmk
  have hrow : Row (intE .u8) 5 w.heap.size w1 (.slice (some ⟨w.heap.size, 0, none⟩) 0 (l.length + 3)) [] := hown
  have hb1 : Below w.heap.size w w1 := grown_below hg1 (Nat.le_refl _) (fun k hk => nomatch hk)
  have hr1 := h.keep hb1
  obtain ⟨g, hg⟩ : ∃ g, w.heap.size = g := ⟨_, rfl⟩
  have HG := Lib.hid hg
  have hrow' : Row (intE .u8) 5 w.heap.size w1 (.slice (some ⟨g, 0, none⟩) 0 (l.length + 3)) [] := hg ▸ hrow
  have hmk' : (Instr.makeSlice 27 (.int .i64 0) (.int .i64 ((l.length : Int) + 3))).run Try.prog w = .ok (.slice (some ⟨g, 0, none⟩) 0 (l.length + 3)) w1 := hg ▸ hmk
  clear hmk hrow hown hg1 ht hi hz hs hby hzs hcast
  obtain ⟨a, c, rfl, h1, h2⟩ := h.form
  clear h hg
  have hcut := run_cut_to (P := Try.prog) byteElem (some ⟨g, 0, none⟩) l.length (l.length + 3) (l.length + 3) (Nat.le_refl _)
  rw [cutA_zero, show ((l.length + 3 : Nat) : Int) = (l.length : Int) + 3 by omega] at hcut
  go_enter Try.func20, Try.ntmps20
  go_wp2_with (at_builtin; go_must (refine Mem.wpList_append_fits (E := intE .u8) (B := w.heap.size) (bytes := 1) (g := g) (n := 0) (cap := l.length + 3) (l := []) (m := l) (x := .slice a l.length c) byteElem rfl (.tmp 12) (.tmp 13) rfl rfl hrow' rfl rfl hr1 (by omega) ?_); intro w2 hr2 hg2)
  rw [Nat.zero_add, List.nil_append] at hr2
  have hb2 : Below w.heap.size w w2 := hb1.trans (grown_below hg2 hb1.size (fun k hk => by injection hk with hk; rw [← hk, ← HG.out]; exact Nat.le_refl _))
  clear hg2 hb1 hr1 hcut hmk' hrow'
  go_loopw [7] (fun i wr => ∃ k : Nat, k ≤ 3 ∧ i = .int .i64 ((l.length + k : Nat) : Int) ∧ Row (intE .u8) 5 w.heap.size wr (.slice (some ⟨g, 0, none⟩) (l.length + k) (l.length + 3)) (l ++ List.replicate k x) ∧ Below w.heap.size w wr) (fun i _ => l.length + 3 - (intOf i).toNat)
  case atStart => exact ⟨0, by omega, rfl, by simpa using hr2, hb2⟩
  case round =>
    obtain ⟨k, hk, rfl, hro, hb⟩ := hrel
    by_cases hlt : k < 3
    · have hm := Row.more hro (by simp) (by omega) x
      obtain ⟨⟨u, hu⟩, hfz⟩ := Row.room hro (by simp) (j := l.length + k) (by omega)
      have hb3 := hb.trans (grown_below hm.2 hb.size (fun j hj => by injection hj with hj; rw [← hj, ← HG.out]; exact Nat.le_refl _))
      have hm1 := hm.1
      rw [List.append_assoc, ← List.replicate_succ'] at hm1
      have e1 : ((l.length + k : Nat) : Int) < (l.length : Int) + 3 := by omega
      have hcc : ((l.length + 3 : Nat) : Int) = (l.length : Int) + 3 := by omega
      have H1 := Lib.hid hm1
      have H2 := Lib.hid hb3
      clear hm hm1 hb3
      generalize hj : l.length + k = j at *
      have HJ := Lib.hid hj
      clear hj
      go_wp2_with fail
      exact ⟨⟨k + 1, by omega, by rw [← HJ.out]; go_num, by rw [show l.length + (k + 1) = j + 1 by rw [← HJ.out]; omega]; exact H1.out, H2.out⟩, by simp [intOf]; omega⟩
    · have hkk : k = 3 := by omega
      subst hkk
      have e1 : ¬ ((l.length + 3 : Nat) : Int) < (l.length : Int) + 3 := by omega
      go_wp2_with fail
      go_ret
      exact ⟨g, rfl, hro, hb⟩

theorem own_rd {w : World} {g : Nat} {l m : List Int} {c : Nat} (h : Rd (intE .u8) w (.slice (some ⟨g, 0, none⟩) (l.length + m.length) c) (l ++ m)) : Rd (intE .u8) w (.slice (some ⟨g, 0, none⟩) l.length c) l := by
  obtain ⟨a0, c0, hv, h1, h2, _⟩ := id h
  injection hv with _ _ e3
  have := h.cut rfl (Nat.zero_le l.length) (by simp) (a' := some ⟨g, 0, none⟩) (n' := l.length) (c' := c) (by simp) (by simp at h1; omega) (by omega) (fun _ g' off e => by injection e with e; injection e with e1 e2; subst e1 e2; simp)
  simpa using this
set_option maxHeartbeats 1000000 in
theorem keptb_yes (g : Nat) (v : Value) (l : List Int) (x : Int) (w : World) (h1 : Rd (intE .u8) w (.slice (some ⟨g, 0, none⟩) (l.length + 3) (l.length + 3)) (l ++ [x, x, x])) (h2 : Rd (intE .u8) w v l) (hl : l.length ≤ 1000000) :
    Calls Try.prog 24 #[.slice (some ⟨g, 0, none⟩) l.length (l.length + 3), v, .int .u8 x] w fun e w' => e = .returned (.bool true) ∧ Below w.heap.size w w' := by
  have h0 : Rd (intE .u8) w (.slice (some ⟨g, 0, none⟩) l.length (l.length + 3)) l := own_rd (m := [x, x, x]) h1
  obtain ⟨g', off, c', hv', _, _, hcell⟩ := Mem.Rd.ints h1 (by simp)
  injection hv' with f1 f2 f3
  injection f1 with f1
  injection f1 with f1 f4
  subst f1 f4
  have hf : ∀ j, j < 3 → w.cell? ⟨g, l.length + j, none⟩ = some (.int .u8 x) := by
    intro j hj
    have := hcell (l.length + j) (by simp; omega)
    rw [Nat.zero_add] at this
    rw [this]
    have h3 : j = 0 ∨ j = 1 ∨ j = 2 := by omega
    rcases h3 with rfl | rfl | rfl <;> simp [List.getD, List.getElem?_append]
  have HF := Lib.hid hf
  have hcut := run_cut_to (P := Try.prog) byteElem (some ⟨g, 0, none⟩) l.length (l.length + 3) (l.length + 3) (Nat.le_refl _)
  rw [cutA_zero, show ((l.length + 3 : Nat) : Int) = (l.length : Int) + 3 by omega] at hcut
  obtain ⟨a, c, rfl, k1, k2⟩ := h2.form
  clear h1 hcell f2 f3 hf
  go_enter Try.func24, Try.ntmps24
  go_wp2_with (go_at_call 31; refine (plainb_yes _ _ l hl w h0 h2).mono ?_; rintro e w1 ⟨rfl, hk⟩)
  clear hcut
  go_loopw [8] (fun i wr => ∃ k : Nat, k ≤ 3 ∧ i = .int .i64 ((l.length + k : Nat) : Int) ∧ Below w.heap.size w wr) (fun i _ => l.length + 3 - (intOf i).toNat)
  case atStart => exact ⟨0, by omega, rfl, hk⟩
  case round =>
    obtain ⟨k, hk3, rfl, hb⟩ := hrel
    by_cases hlt : k < 3
    · have hd := kc hb (HF.out k hlt)
      have e1 : ((l.length + k : Nat) : Int) < (l.length : Int) + 3 := by omega
      generalize hj : l.length + k = j at *
      have HJ := Lib.hid hj
      clear hj
      go_wp2_with fail
      exact ⟨⟨k + 1, by omega, by rw [← HJ.out]; go_num, hb⟩, by simp [intOf]; omega⟩
    · have hkk : k = 3 := by omega
      subst hkk
      have e1 : ¬ ((l.length + 3 : Nat) : Int) < (l.length : Int) + 3 := by omega
      go_wp2_with fail
      go_ret
      exact ⟨rfl, hb⟩
end Go.Proofs.Ytejmidfkedalgaa
