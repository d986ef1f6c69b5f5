/- The document's answers for package shelf (petasosref09): Put. -/
import Derived.Test.YtihfkjodjaoocaaShRef
set_option maxRecDepth 4000
namespace Go.Proofs.Ytihfkjodjaoocaa
open Go.RowKit Mem
set_option linter.unusedSimpArgs false
set_option linter.unusedVariables false
attribute [local irreducible] Go.Calls

theorem Row.putRaw {T : TypeId} {B : Nat} {w : World} {g n c : Nat} {hs : List (Raw 5)} (h : Row (rawE 5) T B w (.slice (some ⟨g, 0, none⟩) n c) hs) (hn : n = hs.length) {i : Nat} (hi : i < hs.length) (x : Raw 5) {a0 a1 a2 a3 a4 : Value} (hx : x.1 = [a0, a1, a2, a3, a4]) :
    Row (rawE 5) T B (w.setCells g (i * 5) [a0, a1, a2, a3, a4]) (.slice (some ⟨g, 0, none⟩) n c) (hs.set i x) := by
  subst hn
  have h1 : w.ownsRow B T 5 (.slice (some ⟨g, 0, none⟩) hs.length c) hs.length ((rawE 5).flat hs) := h
  have h2 := (World.ownsRow.stored h1 (i * 5) a0).1
  have h3 := (World.ownsRow.stored h2 (i * 5 + 1) a1).1
  have h4 := (World.ownsRow.stored h3 (i * 5 + 2) a2).1
  have h5 := (World.ownsRow.stored h4 (i * 5 + 3) a3).1
  have h6 := (World.ownsRow.stored h5 (i * 5 + 4) a4).1
  have e : ((((((rawE 5).flat hs).set (i * 5) a0).set (i * 5 + 1) a1).set (i * 5 + 2) a2).set (i * 5 + 3) a3).set (i * 5 + 4) a4 = (rawE 5).flat (hs.set i x) := by
    clear h h1 h2 h3 h4 h5 h6
    induction hs generalizing i with
    | nil => simp at hi
    | cons s l ih =>
      have hs5 : ((rawE 5).cells s).length = 5 := s.2.1
      cases i with
      | zero =>
        obtain ⟨b0, b1, b2, b3, b4, hb⟩ : ∃ b0 b1 b2 b3 b4, (rawE 5).cells s = [b0, b1, b2, b3, b4] := by
          generalize (rawE 5).cells s = cs at hs5
          match cs, hs5 with
          | [b0, b1, b2, b3, b4], _ => exact ⟨b0, b1, b2, b3, b4, rfl⟩
        have hxc : (rawE 5).cells x = [a0, a1, a2, a3, a4] := hx
        show _ = (rawE 5).flat (x :: l)
        rw [Enc.flat_cons, Enc.flat_cons, hb, hxc]
        rfl
      | succ i =>
        have := ih (i := i) (by simpa using hi)
        rw [Enc.flat_cons, List.set_cons_succ, Enc.flat_cons, ← this]
        have e0 : (i + 1) * 5 = ((rawE 5).cells s).length + i * 5 := by rw [hs5]; omega
        have e1 : (i + 1) * 5 + 1 = ((rawE 5).cells s).length + (i * 5 + 1) := by rw [hs5]; omega
        have e2 : (i + 1) * 5 + 2 = ((rawE 5).cells s).length + (i * 5 + 2) := by rw [hs5]; omega
        have e3 : (i + 1) * 5 + 3 = ((rawE 5).cells s).length + (i * 5 + 3) := by rw [hs5]; omega
        have e4 : (i + 1) * 5 + 4 = ((rawE 5).cells s).length + (i * 5 + 4) := by rw [hs5]; omega
        rw [e4, e3, e2, e1, e0, List.set_append_right _ _ (by omega), Nat.add_sub_cancel_left, List.set_append_right _ _ (by omega), Nat.add_sub_cancel_left, List.set_append_right _ _ (by omega), Nat.add_sub_cancel_left, List.set_append_right _ _ (by omega), Nat.add_sub_cancel_left, List.set_append_right _ _ (by omega), Nat.add_sub_cancel_left]
  unfold Row
  rw [List.length_set, ← e]
  exact h6
theorem Row.thereRaw {T : TypeId} {B : Nat} {w : World} {g n c : Nat} {hs : List (Raw 5)} (h : Row (rawE 5) T B w (.slice (some ⟨g, 0, none⟩) n c) hs) (hn : n = hs.length) {i : Nat} (hi : i < hs.length) : w.there g (i * 5) 5 := by
  subst hn
  intro j hj
  have h1 : w.ownsRow B T 5 (.slice (some ⟨g, 0, none⟩) hs.length c) hs.length ((rawE 5).flat hs) := h
  obtain ⟨a', c', hv, _, _, hcell⟩ := h.rd
  obtain ⟨g', o', ha, hc⟩ := hcell (by omega)
  injection hv with e1 _ _
  rw [← e1] at ha
  injection ha with ha
  injection ha with e2 e3
  subst e2 e3
  have hf := (rawE 5).flat_at (l := hs) (i := i) (j := j) hi hj
  have hsz : (rawE 5).size = 5 := rfl
  rw [hsz] at hf
  have hlen : ((rawE 5).cells hs[i]).length = 5 := hs[i].2.1
  have := hc (i * 5 + j) _ (by rw [hf]; exact List.getElem?_eq_getElem (by omega))
  rw [Nat.zero_add] at this
  exact ⟨by rw [this]; rfl, World.ownsRow.frozenAt h1 _⟩
theorem Row.headE {α : Type} {E : Enc α} {T : TypeId} {B : Nat} {w : World} {v : Value} {l : List α} (h : Row E T B w v l) (hl : 0 < l.length) : ∃ g c, v = .slice (some ⟨g, 0, none⟩) l.length c ∧ l.length ≤ c ∧ c ≤ maxLen := by
  rcases h.2 with ⟨hv, hn⟩ | ⟨g, cap, cur, hv, hg, hc, h1, h2, h3, h4⟩
  · omega
  · exact ⟨g, cap, hv, h1, h2⟩
/-- what Put leaves, and tells -/
def putL (L : List Ent) (e : Ent) : List Ent × Bool × Int :=
  if posE L e.1 e.2.1.1 < L.length then
    (if newerV e.2.1.2.1 e.2.2 (L.getD (posE L e.1 e.2.1.1) e0).2.1.2.1 (L.getD (posE L e.1 e.2.1.1) e0).2.2 = true then (L.set (posE L e.1 e.2.1.1) e, true, 0) else (L, false, 0))
  else if 10000 ≤ L.length then (L, false, 5) else (L ++ [e], true, 0)
/-- what a call leaves -/
def RStep (W R : Nat → Prop) (w w' : World) (b : Nat) (L : List Ent) : Prop := ∃ W' R', RfAt w' b W' R' L ∧ Turned W w w' ∧ (∀ j, W' j → W j ∨ w.heap.size ≤ j) ∧ (∀ j, R' j → R j ∨ w.heap.size ≤ j)
theorem RStep.same {W R : Nat → Prop} {w w' : World} {b : Nat} {L : List Ent} (h : RfAt w b W R L) (k : Below w.heap.size w w') : RStep W R w w' b L := ⟨W, R, h.keep k, Turned.of_below k, fun _ h => .inl h, fun _ h => .inl h⟩
/-- an entry laid over another one -/
theorem RfAt.lay {w z : World} {b g n c i : Nat} {W R : Nat → Prop} {L : List Ent} {hs : List (Raw 5)} {y : Ent} {x : Value} (hx1 : x.oneCell' = true) (h : RfAt w b W R L) (hk : Below w.heap.size w z) (hi : i < L.length)
    (hb : Blk z b 40 #[.slice (some ⟨g, 0, none⟩) n c]) (hn : n = hs.length) (hl : hs.length = L.length) (hrow : Row (rawE 5) 28 0 z (.slice (some ⟨g, 0, none⟩) n c) hs)
    (hel : ∀ (i : Nat) (x : Raw 5) (y : Ent), hs[i]? = some x → L[i]? = some y → EntIn (fun j => R j ∧ ¬ W j) z x y) (hW : W g) (hWb : W b) (hWR : ∀ j, W j → R j) (hR : ∀ j, R j → j < w.heap.size)
    (hx : Row (intE .u32) 22 w.heap.size z x y.2.1.2.2) : RStep W R w (z.setCells g (i * 5) (ecl y x)) b (L.set i y) := by
  have hgb : g ≠ b := by
    intro e
    exact hrow.ne_blk hb (by decide) (by rw [e]; rfl)
  have hos : Only g z (z.setCells g (i * 5) (ecl y x)) := ((((Only.set _ _ _).trans (Only.set _ _ _)).trans (Only.set _ _ _)).trans (Only.set _ _ _)).trans (Only.set _ _ _)
  have ht : Turned W w (z.setCells g (i * 5) (ecl y x)) := (Turned.of_below (S := W) hk).trans (Turned.of_only hos hW) (fun _ _ h => h)
  refine ⟨W, fun j => R j ∨ x.ownBlock = some j, ⟨_, hb.only hos (fun e => hgb e.symm), ⟨hs.set i (rawEnt y x hx1), by simp [hl], Row.putRaw hrow hn (by omega) (rawEnt y x hx1) rfl, fun j hj hq => ?_, fun k a q ha hq => ?_⟩, hWb, fun j hj => ?_, fun j hj => .inl (hWR j hj), fun j hj => ?_⟩, ht, fun j hj => .inl hj, fun j hj => ?_⟩
  · have e : g = j := by have e : some g = some j := hj; injection e
    subst e
    exact hq.2 hW
  · have hil : i < hs.length := by omega
    by_cases hki : k = i
    · subst hki
      rw [List.getElem?_set_self hil] at ha
      rw [List.getElem?_set_self hi] at hq
      injection ha with ha
      injection hq with hq
      subst ha hq
      have hxg : x.ownBlock ≠ some g := fun e => by have := (hx.block g e).1; have := hR g (hWR g hW); omega
      exact ⟨x, rfl, (hx.only hos hxg).rd, fun _ j hj => ⟨.inr hj, fun hw => by have := (hx.block j hj).1; have := hR j (hWR j hw); omega⟩⟩
    · rw [List.getElem?_set_ne (fun e => hki e.symm)] at ha hq
      have h1 := (hel k a q ha hq).turned (S := fun j => j = g) (Turned.of_only hos rfl) (fun j hj e => hj.2 (by rw [e]; exact hW))
      exact h1.mono (fun j _ hj => ⟨.inl hj.1, hj.2⟩)
  · have e : g = j := by have e : some g = some j := hj; injection e
    subst e
    exact hW
  · have hzs : z.heap.size ≤ (z.setCells g (i * 5) (ecl y x)).heap.size := hos.size
    have hws := hk.size
    rcases hj with hj | hj
    · have := hR j hj; omega
    · have := (hx.block j hj).2; omega
  · rcases hj with hj | hj
    · exact .inl hj
    · exact .inr (hx.block j hj).1
/-- an entry put behind -/
theorem RfAt.grow {w z x6 : World} {b : Nat} {W R : Nat → Prop} {L : List Ent} {hs : List (Raw 5)} {y : Ent} {x sl v6 : Value} (hx1 : x.oneCell' = true) (hk : Below w.heap.size w z)
    (hb : Blk z b 40 #[sl]) (hl : hs.length = L.length) (hrow : Row (rawE 5) 28 0 z sl hs)
    (hel : ∀ (i : Nat) (x : Raw 5) (y : Ent), hs[i]? = some x → L[i]? = some y → EntIn (fun j => R j ∧ ¬ W j) z x y) (hsW : ∀ g, sl.ownBlock = some g → W g) (hWb : W b) (hWR : ∀ j, W j → R j) (hR : ∀ j, R j → j < w.heap.size)
    (hx : Row (intE .u32) 22 w.heap.size z x y.2.1.2.2) (hr6 : Row (rawE 5) 28 0 x6 v6 (hs ++ [rawEnt y x hx1])) (hg6 : z.grownBy x6 sl.ownBlock) (hw6 : v6.ownBlock = sl.ownBlock ∨ v6.ownBlock = some z.heap.size) :
    RStep W R w (x6.setCell ⟨b, 0, none⟩ v6) b (L ++ [y]) := by
  have t1 : Turned (fun j => sl.ownBlock = some j) z x6 := Turned.of_grown hg6 (fun k h => h)
  have hos := Only.set (b := b) x6 0 v6
  have hslb : sl.ownBlock ≠ some b := hrow.ne_blk hb (by decide)
  have hb6 : Blk x6 b 40 #[sl] := hb.turned t1 hslb
  have hv6b : v6.ownBlock ≠ some b := hr6.ne_blk hb6 (by decide)
  have hws := hk.size
  have hzs := t1.size
  have hos2 := hos.size
  have hW6 : ∀ j, v6.ownBlock = some j → W j ∨ j = z.heap.size := by
    intro j hj
    rcases hw6 with h | h
    · exact .inl (hsW j (by rw [← h]; exact hj))
    · rw [h] at hj; injection hj with hj; exact .inr hj.symm
  have hxn : ∀ j, x.ownBlock = some j → w.heap.size ≤ j ∧ j < z.heap.size := hx.block
  refine ⟨fun j => j = b ∨ v6.ownBlock = some j, fun j => R j ∨ v6.ownBlock = some j ∨ x.ownBlock = some j, ⟨v6, by simpa using hb6.set_ 0 v6, EntsAt.snoc hl (hr6.only hos hv6b) (fun g hg hq => hq.2 (.inr hg)) (fun i a q ha hq => ?_) ⟨x, rfl, ?_, fun _ j hj => ⟨.inr (.inr hj), ?_⟩⟩, .inl rfl, fun g hg => .inr hg, fun j hj => ?_, fun j hj => ?_⟩, ?_, fun j hj => ?_, fun j hj => ?_⟩
  · have h1 := (hel i a q ha hq).turned t1 (fun j hj e => hj.2 (hsW j e))
    have h2 := h1.turned (S := fun j => j = b) (Turned.of_only hos rfl) (fun j hj e => hj.2 (by rw [e]; exact hWb))
    refine h2.mono (fun j _ hj => ⟨.inl hj.1, fun h => ?_⟩)
    rcases h with h | h
    · exact hj.2 (by rw [h]; exact hWb)
    · rcases hW6 j h with h3 | h3
      · exact hj.2 h3
      · have := hR j hj.1; omega
  · refine ((hx.turned t1 (fun j hj e => ?_)).only hos (fun e => ?_)).rd
    · have := (hxn j hj).1; have := hR j (hWR j (hsW j e)); omega
    · have := (hxn b e).1; have := hR b (hWR b hWb); omega
  · rintro (h | h)
    · have := (hxn j hj).1; have := hR b (hWR b hWb); omega
    · rcases hW6 j h with h3 | h3
      · have := (hxn j hj).1; have := hR j (hWR j h3); omega
      · have := (hxn j hj).2; omega
  · rcases hj with h | h
    · exact .inl (hWR j (by rw [h]; exact hWb))
    · exact .inr (.inl h)
  · rcases hj with h | h | h
    · have := hR j h; omega
    · have := (hr6.block j h).2; omega
    · have := (hxn j h).2; omega
  · exact (((Turned.of_below (S := W) hk).trans (t1.mono (S' := W) (fun j _ h => hsW j h)) (fun _ _ h => h)).trans (Turned.of_only hos hWb) (fun _ _ h => h))
  · rcases hj with h | h
    · exact .inl (by rw [h]; exact hWb)
    · rcases hW6 j h with h3 | h3
      · exact .inl h3
      · exact .inr (by omega)
  · rcases hj with h | h | h
    · exact .inl h
    · rcases hW6 j h with h3 | h3
      · exact .inl (hWR j h3)
      · exact .inr (by omega)
    · exact .inr (hxn j h).1
theorem cells_of {w : World} {b : Nat} {W R : Nat → Prop} {L : List Ent} (h : RfAt w b W R L) (hl : 0 < L.length) :
    ∃ g c hs, Blk w b 40 #[.slice (some ⟨g, 0, none⟩) L.length c] ∧ hs.length = L.length ∧ c ≤ maxLen ∧ L.length ≤ c ∧ Row (rawE 5) 28 0 w (.slice (some ⟨g, 0, none⟩) L.length c) hs ∧
      (∀ (i : Nat) (x : Raw 5) (y : Ent), hs[i]? = some x → L[i]? = some y → EntIn (fun j => R j ∧ ¬ W j) w x y) ∧ W g ∧ W b ∧ (∀ j, W j → R j) ∧ (∀ j, R j → j < w.heap.size) ∧
      ∀ i, i < L.length → ∃ x, w.cell? ⟨g, i * 5, none⟩ = some (.int .u32 (L.getD i e0).1) ∧ w.cell? ⟨g, i * 5 + 1, none⟩ = some (.int .u64 (L.getD i e0).2.1.1) ∧ w.cell? ⟨g, i * 5 + 2, none⟩ = some (.int .u64 (L.getD i e0).2.1.2.1) ∧
        w.cell? ⟨g, i * 5 + 3, none⟩ = some x ∧ w.cell? ⟨g, i * 5 + 4, none⟩ = some (.bool (L.getD i e0).2.2) ∧ Rd (intE .u32) w x (L.getD i e0).2.1.2.2 := by
  obtain ⟨a', g', off', c', hc0, hc1, hc2, hc3, hc4⟩ := h.at
  obtain ⟨sl, hb, ⟨hs, hl2, hrow, hnq, hel⟩, hWb, hsW, hWR, hR⟩ := h
  obtain ⟨g, c, hv, hv1, hv2⟩ := Row.headE hrow (by omega)
  have h0 : w.cell? ⟨b, 0, none⟩ = some sl := hb.cell 0
  rw [hc0, hv] at h0
  injection h0 with h0
  injection h0 with e1 e2 e3
  obtain ⟨e4, _, _⟩ := hc3 hl
  rw [e4] at e1
  injection e1 with e1
  injection e1 with e5 e6
  subst e5 e6
  rw [hl2] at hv
  refine ⟨g', c, hs, by rw [← hv]; exact hb, hl2, hv2, by omega, by rw [← hv]; exact hrow, hel, hsW g' (by rw [hv]; rfl), hWb, hWR, hR, fun i hi => ?_⟩
  obtain ⟨x, d0, d1, d2, d3, d4, d5, _⟩ := hc4 i hi
  rw [Nat.zero_add] at d0 d1 d2 d3 d4
  exact ⟨x, d0, d1, d2, d3, d4, d5⟩
set_option maxRecDepth 100000 in
set_option maxHeartbeats 4000000 in
theorem rshput_any (b : Nat) (W R : Nat → Prop) (L : List Ent) (y : Ent) (x : Value) (w : World) (h : RfAt w b W R L) (hx : Rd (intE .u32) w x y.2.1.2.2) (hxl : y.2.1.2.2.length ≤ 35184372087808) (hyb : entB y) (hLb : ∀ y ∈ L, entB y) (hLn : L.length ≤ 1000000) :
    Calls Try.prog 14 #[.pointer (some ⟨b, 0, none⟩), .agg (ecl y x).toArray] w fun e w' => e = .returned (.tuple #[.bool (putL L y).2.1, .int .i64 (putL L y).2.2]) ∧ RStep W R w w' b (putL L y).1 := by
  obtain ⟨RES, hRES⟩ : ∃ r, r = putL L y := ⟨_, rfl⟩
  rw [← hRES]
  have HRES := Lib.hid hRES
  have HYB := Lib.hid hyb
  have HLB := Lib.hid hLb
  obtain ⟨a, ⟨i, v, l⟩, gn⟩ := y
  have hx : Rd (intE .u32) w x l := hx
  have hxl : l.length ≤ 35184372087808 := hxl
  obtain ⟨ax, cx, rfl, _, _⟩ := hx.form
  show Calls Try.prog 14 #[.pointer (some ⟨b, 0, none⟩), .agg #[.int .u32 a, .int .u64 i, .int .u64 v, .slice ax l.length cx, .bool gn]] w _
  have hk0 : Below w.heap.size w (w.alloc (.cells #[.int .u32 a, .int .u64 i, .int .u64 v, .slice ax l.length cx, .bool gn] 28)) := more (Below.refl _ _) _
  have HB3 := Lib.hid (Blk.new w 28 #[.int .u32 a, .int .u64 i, .int .u64 v, .slice ax l.length cx, .bool gn])
  have HR1 := Lib.hid (h.keep hk0)
  have HX1 := Lib.hid (hx.keep hk0)
  have HK1 := Lib.hid hk0
  have HH := Lib.hid h
  have HXL := Lib.hid hxl
  have HLN := Lib.hid hLn
  have HPL := Lib.hid (posE_le L a i)
  clear hRES hyb hLb h hx hk0 hxl hLn
  go_enter Try.func14, Try.ntmps14
  go_upto_region 1 with fail
  generalize w.alloc (.cells #[.int .u32 a, .int .u64 i, .int .u64 v, .slice ax l.length cx, .bool gn] 28) = w1 at *
  obtain ⟨g3, hg3⟩ : ∃ g, g = w.heap.size := ⟨_, rfl⟩
  rw [← hg3] at HB3 ⊢
  have HG3 := Lib.hid hg3
  clear hg3
  have c0 : w1.cell? ⟨g3, 0, none⟩ = some (.int .u32 a) := HB3.out.cell 0
  have c1 : w1.cell? ⟨g3, 1, none⟩ = some (.int .u64 i) := HB3.out.cell 1
  by_cases hp : posE L a i < L.length
  · obtain ⟨p, hpp⟩ : ∃ p, p = posE L a i := ⟨_, rfl⟩
    have HF : Hid (Calls Try.prog 27 #[.pointer (some ⟨b, 0, none⟩), .agg #[.int .u32 a, .int .u64 i]] w1 fun e w' => e = .returned (.int .i64 (p : Int)) ∧ Below w1.heap.size w1 w') := Lib.hid (by
      have := rshfind_any b W R L a i w1 HR1.out
      rw [if_pos hp, ← hpp] at this
      exact this)
    have HPP := Lib.hid hpp
    rw [← hpp] at hp
    clear hpp
    go_upto_region 2 with (go_at_call 27; refine HF.out.mono ?_; rintro e w2 ⟨rfl, hk2⟩)
    have HR2 := Lib.hid (HR1.out.keep hk2)
    have HB32 := Lib.hid (HB3.out.keep hk2)
    have HX2 := Lib.hid (HX1.out.keep hk2)
    have HK2 := Lib.hid (nest HK1.out hk2)
    clear hk2 c0 c1 HR1 HB3 HX1 HK1 HF
    obtain ⟨g, c, hs, hb, hl2, hcm, hcl, hrow, hel, hWg, hWb, hWR, hR, hcells⟩ := cells_of HR2.out (by omega)
    obtain ⟨x2, d0, d1, d2, d3, d4, hr2⟩ := hcells p hp
    have hcm' : c ≤ 9223372036854775807 := hcm
    have hb0 : w2.cell? ⟨b, 0, none⟩ = some (.slice (some ⟨g, 0, none⟩) L.length c) := hb.cell 0
    have hqb : entB (L.getD p e0) := HLB.out _ (by rw [show L.getD p e0 = L[p] by simp [List.getD, hp]]; exact List.getElem_mem hp)
    have HQ : Hid (putL L (a, (i, v, l), gn) = if newerV v gn (L.getD p e0).2.1.2.1 (L.getD p e0).2.2 = true then (L.set p (a, (i, v, l), gn), true, 0) else (L, false, 0)) := Lib.hid (by
      have hp' : posE L a i < L.length := by rw [← HPP.out]; exact hp
      have e : putL L (a, (i, v, l), gn) = if posE L a i < L.length then (if newerV v gn (L.getD (posE L a i) e0).2.1.2.1 (L.getD (posE L a i) e0).2.2 = true then (L.set (posE L a i) (a, (i, v, l), gn), true, 0) else (L, false, 0)) else if 10000 ≤ L.length then (L, false, 5) else (L ++ [(a, (i, v, l), gn)], true, 0) := rfl
      rw [e, if_pos hp', ← HPP.out])
    have HROW := Lib.hid hrow
    have HEL := Lib.hid hel
    have HBB := Lib.hid hb
    have HWS := Lib.hid (And.intro hWg (And.intro hWb hWR))
    have HL2 := Lib.hid hl2
    have hv0 := HYB.out.2.2.1.1
    have hv0 : 0 ≤ v := hv0
    have hq0 := hqb.2.2.1.1
    obtain ⟨a2, c2, hx2, _, _⟩ := hr2.form
    rw [hx2] at d3
    obtain ⟨q, hq⟩ : ∃ q, q = L.getD p e0 := ⟨_, rfl⟩
    rw [← hq] at d0 d1 d2 d3 d4 HQ hq0
    obtain ⟨qa, ⟨qi, qv, ql⟩, qg⟩ := q
    have d0 : w2.cell? ⟨g, p * 5, none⟩ = some (.int .u32 qa) := d0
    have d1 : w2.cell? ⟨g, p * 5 + 1, none⟩ = some (.int .u64 qi) := d1
    have d2 : w2.cell? ⟨g, p * 5 + 2, none⟩ = some (.int .u64 qv) := d2
    have d3 : w2.cell? ⟨g, p * 5 + 3, none⟩ = some (.slice a2 ql.length c2) := d3
    have d4 : w2.cell? ⟨g, p * 5 + 4, none⟩ = some (.bool qg) := d4
    have hq0 : 0 ≤ qv := hq0
    obtain ⟨nb, hnb⟩ : ∃ nb, nb = newerV v gn qv qg := ⟨_, rfl⟩
    have HNW : Hid (∀ z, Calls Try.prog 28 #[.agg #[.int .u32 a, .int .u64 i, .int .u64 v, .slice ax l.length cx, .bool gn], .agg #[.int .u32 qa, .int .u64 qi, .int .u64 qv, .slice a2 ql.length c2, .bool qg]] z fun e w' => e = .returned (.bool nb) ∧ Below z.heap.size z w') := Lib.hid (fun z => by rw [hnb]; exact rnewer_any a i v qa qi qv gn qg hv0 hq0 ax a2 l.length cx ql.length c2 z)
    have HQ2 : Hid (RES = if nb = true then (L.set p (a, (i, v, l), gn), true, 0) else (L, false, 0)) := Lib.hid (by rw [HRES.out, HQ.out, hnb])
    have dge : decide ((p : Int) ≥ 0) = true := decide_eq_true (by omega)
    have hRw : Hid (∀ j, R j → j < w.heap.size) := Lib.hid (fun j hj => HH.out.lt hj)
    clear hnb hv0 hq0 hq hqb hr2 hx2 hcells hrow hel hb hWg hWb hWR hR hl2 HQ HRES
    have hD : Below w2.heap.size w2 w2.drew := (Below.refl _ _).drew
    refine Run.region_walk (S := fun z => z.cell? ⟨b, 0, none⟩ = some (.slice (some ⟨g, 0, none⟩) L.length c) ∧ z.cell? ⟨g, p * 5, none⟩ = some (.int .u32 qa) ∧ z.cell? ⟨g, p * 5 + 1, none⟩ = some (.int .u64 qi) ∧ z.cell? ⟨g, p * 5 + 2, none⟩ = some (.int .u64 qv) ∧ z.cell? ⟨g, p * 5 + 3, none⟩ = some (.slice a2 ql.length c2) ∧ z.cell? ⟨g, p * 5 + 4, none⟩ = some (.bool qg) ∧ Blk z g3 28 #[.int .u32 a, .int .u64 i, .int .u64 v, .slice ax l.length cx, .bool gn] ∧ Below w2.heap.size w2 z)
      rshput.rows2 rshput.plan2 (l := ?steps1) (by kernel_rfl) (by kernel_rfl) (by kernel_rfl) (by kernel_rfl) ?written1 ⟨hb0, d0, d1, d2, d3, d4, HB32.out.keep hD, hD⟩ ?onward1
    case written1 =>
      simp only [rshput.plan2, Run.stepsOf, Run.stepOf, Run.guardOf, List.getElem?_toArray, List.getElem?_cons_zero, List.getElem?_cons_succ, Option.map_some, Option.map_none, Option.bind_some, Option.toList_some, List.map_cons, List.map_nil, List.cons_append, List.nil_append, List.append_eq]
      rfl
    repeat ((first
      | (refine Run.takes (v := ?_) ?_ ?_; rotate_left; (· intro w' hS'; (first | (refine exec_load_blk (n := 5) (x := .tmp 3) (l := [.int .u32 a, .int .u64 i, .int .u64 v, .slice ax l.length cx, .bool gn]) ?_ Try.underlying28 ent_info' ?_ ?_ hS'.2.2.2.2.2.2.1 <;> rfl) | (go_simp; (try with_reducible rfl)))))
      | (refine Run.takesG (v := ?_) ?_ ?_ ?_; rotate_left; (· simp only [List.getElem?_cons_zero, List.getElem?_cons_succ]); (· intro w' hS'; (first | (refine exec_load_blk (n := 5) (x := .tmp 3) (l := [.int .u32 a, .int .u64 i, .int .u64 v, .slice ax l.length cx, .bool gn]) ?_ Try.underlying28 ent_info' ?_ ?_ hS'.2.2.2.2.2.2.1 <;> rfl) | (go_simp; (try with_reducible rfl)))))
      | (refine Run.skipsT ?_ ?_; (· simp only [List.getElem?_cons_zero, List.getElem?_cons_succ]))
      | (refine Run.skipsF ?_ ?_; (· simp only [List.getElem?_cons_zero, List.getElem?_cons_succ]))
      | (refine Run.skipsU ?_ ?_; (· simp only [List.getElem?_cons_zero, List.getElem?_cons_succ]))
      | (refine Run.passT ?_ ?_; (· simp only [List.getElem?_cons_zero, List.getElem?_cons_succ]))
      | (refine Run.passF ?_ ?_; (· simp only [List.getElem?_cons_zero, List.getElem?_cons_succ]))
      | (refine Run.passU ?_ ?_; (· simp only [List.getElem?_cons_zero, List.getElem?_cons_succ]))
      | (refine Run.runs ?_
         (first
         | (refine Run.callF 28 (by kernel_rfl) (fun hS => HNW.out _) rfl ?_)
         | (refine Run.callG 28 (by kernel_rfl) ?_ (fun hS => HNW.out _) rfl ?_; (· simp only [List.getElem?_cons_zero, List.getElem?_cons_succ]))
         | fail)
         (first
         | (rintro hS e w' ⟨rfl, rfl⟩; refine ⟨_, rfl, hS, ?_⟩)
         | (rintro hS e w' ⟨rfl, hb⟩; refine ⟨_, rfl, ⟨kc hb hS.1, kc hb hS.2.1, kc hb hS.2.2.1, kc hb hS.2.2.2.1, kc hb hS.2.2.2.2.1, kc hb hS.2.2.2.2.2.1, hS.2.2.2.2.2.2.1.keep hb, nest hS.2.2.2.2.2.2.2 hb⟩, ?_⟩)
         | fail))
      | fail); simp only [Act.put, List.setIfInBounds_toArray, List.set_cons_zero, List.set_cons_succ])
    refine Run.ends (fun hS => ?_)
    have HKS := Lib.hid hS.2.2.2.2.2.2.2
    have HBS := Lib.hid hS.2.2.2.2.2.2.1
    have hb0 := hS.1
    clear hS d0 d1 d2 d3 d4
    cases nb with
    | false =>
      have HRR : Hid (RES = (L, false, 0)) := Lib.hid (by rw [HQ2.out, if_neg (by decide)])
      go_wp2_with fail
      go_ret2
      exact ⟨by rw [HRR.out]; rfl, by rw [HRR.out]; exact RStep.same HH.out (nest HK2.out HKS.out)⟩
    | true =>
      have HRR : Hid (RES = (L.set p (a, (i, v, l), gn), true, 0)) := Lib.hid (by rw [HQ2.out, if_pos rfl])
      go_upto_region 5 with fail
      refine Run.region_walkZ (S := fun z => z.cell? ⟨b, 0, none⟩ = some (.slice (some ⟨g, 0, none⟩) L.length c) ∧ Blk z g3 28 #[.int .u32 a, .int .u64 i, .int .u64 v, .slice ax l.length cx, .bool gn])
        rshput.rows5 rshput.plan5z 8 _ (l := ?steps2) (by kernel_rfl) (by kernel_rfl) (by kernel_rfl) (by kernel_rfl) rfl rfl ?written2 ⟨hb0, HBS.out.keep (Below.refl _ _).drew⟩ ?onward2
      case written2 =>
        simp only [rshput.plan5z, Run.stepsOf, Run.stepOf, Run.guardOf, List.getElem?_toArray, List.getElem?_cons_zero, List.getElem?_cons_succ, Option.map_some, Option.map_none, Option.bind_some, Option.toList_some, List.map_cons, List.map_nil, List.cons_append, List.nil_append, List.append_eq]
        rfl
      repeat ((first
        | (refine Run.takes (v := ?_) ?_ ?_; rotate_left; (· intro w' hS'; (first | (refine exec_load_blk (n := 5) (x := .tmp 3) (l := [.int .u32 a, .int .u64 i, .int .u64 v, .slice ax l.length cx, .bool gn]) ?_ Try.underlying28 ent_info' ?_ ?_ hS'.2 <;> rfl) | (go_simp; (try with_reducible rfl)))))
        | (refine Run.takesG (v := ?_) ?_ ?_ ?_; rotate_left; (· simp only [List.getElem?_cons_zero, List.getElem?_cons_succ]); (· intro w' hS'; (first | (refine exec_load_blk (n := 5) (x := .tmp 3) (l := [.int .u32 a, .int .u64 i, .int .u64 v, .slice ax l.length cx, .bool gn]) ?_ Try.underlying28 ent_info' ?_ ?_ hS'.2 <;> rfl) | (go_simp; (try with_reducible rfl)))))
        | (refine Run.skipsT ?_ ?_; (· simp only [List.getElem?_cons_zero, List.getElem?_cons_succ]))
        | (refine Run.skipsF ?_ ?_; (· simp only [List.getElem?_cons_zero, List.getElem?_cons_succ]))
        | (refine Run.skipsU ?_ ?_; (· simp only [List.getElem?_cons_zero, List.getElem?_cons_succ]))
        | (refine Run.passT ?_ ?_; (· simp only [List.getElem?_cons_zero, List.getElem?_cons_succ]))
        | (refine Run.passF ?_ ?_; (· simp only [List.getElem?_cons_zero, List.getElem?_cons_succ]))
        | (refine Run.passU ?_ ?_; (· simp only [List.getElem?_cons_zero, List.getElem?_cons_succ]))
        | fail); simp only [Act.put, List.setIfInBounds_toArray, List.set_cons_zero, List.set_cons_succ])
      refine Run.runsS (Run.callF 29 (by kernel_rfl) (fun hS => copyent_any (a, (i, v, l), gn) (.slice ax l.length cx) _ (HX2.out.keep HKS.out.drew) HXL.out) rfl ?_)
      rintro hS e x1 ⟨xq, rfl, hrq, hkq⟩
      have HKX := Lib.hid (nest HKS.out.drew hkq)
      have HRQ : Hid (Row (intE .u32) 22 w.heap.size x1 xq l) := Lib.hid (hrq.mono (Nat.le_trans HK2.out.size HKS.out.drew.size))
      obtain ⟨aq, cq, rfl, _, _⟩ := hrq.rd.form
      have hb1 : x1.cell? ⟨b, 0, none⟩ = some (.slice (some ⟨g, 0, none⟩) L.length c) := kc hkq hS.1
      have HB31 := Lib.hid (hS.2.keep hkq)
      refine ⟨_, rfl, ⟨hb1, HB31.out⟩, fun _ => ⟨fun z => z.cell? ⟨b, 0, none⟩ = some (.slice (some ⟨g, 0, none⟩) L.length c) ∧ Blk z g3 28 #[.int .u32 a, .int .u64 i, .int .u64 v, .slice ax l.length cx, .bool gn], fun z h => h, ⟨hb1, HB31.out⟩, ?_⟩⟩
      clear hS hrq hkq
      try simp only [Act.put, List.setIfInBounds_toArray, List.set_cons_zero, List.set_cons_succ]
      repeat ((first
        | (refine Run.takes (v := ?_) ?_ ?_; rotate_left; (· intro w' hS'; go_simp; (try with_reducible rfl)))
        | (refine Run.takesG (v := ?_) ?_ ?_ ?_; rotate_left; (· simp only [List.getElem?_cons_zero, List.getElem?_cons_succ]); (· intro w' hS'; go_simp; (try with_reducible rfl)))
        | (refine Run.skipsT ?_ ?_; (· simp only [List.getElem?_cons_zero, List.getElem?_cons_succ]))
        | (refine Run.skipsF ?_ ?_; (· simp only [List.getElem?_cons_zero, List.getElem?_cons_succ]))
        | (refine Run.skipsU ?_ ?_; (· simp only [List.getElem?_cons_zero, List.getElem?_cons_succ]))
        | (refine Run.passT ?_ ?_; (· simp only [List.getElem?_cons_zero, List.getElem?_cons_succ]))
        | (refine Run.passF ?_ ?_; (· simp only [List.getElem?_cons_zero, List.getElem?_cons_succ]))
        | (refine Run.passU ?_ ?_; (· simp only [List.getElem?_cons_zero, List.getElem?_cons_succ]))
        | fail); simp only [Act.put, List.setIfInBounds_toArray, List.set_cons_zero, List.set_cons_succ])
      refine Run.endsZ (fun hS K1 hK1 => ?_)
      have HRW := Lib.hid (HROW.out.keep HKX.out)
      refine wp_store_mid 28 (.tmp 40) (.tmp 39) rfl g (p * 5) (ecl (a, (i, v, l), gn) (.slice aq l.length cq)).toArray ?_ rfl (Row.thereRaw HRW.out HL2.out.symm (by rw [HL2.out]; exact hp)) ent_info' (by simp [ecl, Value.oneCell']) ?_
      · simp [Act.eval]
      refine hK1.out _ _ (NoPanic.normal ?_)
      clear hS hK1 K1 hb1
      have HLAY : Hid (RStep W R w (x1.setCells g (p * 5) (ecl (a, (i, v, l), gn) (.slice aq l.length cq))) b (L.set p (a, (i, v, l), gn))) := Lib.hid (RfAt.lay (hs := hs) rfl HH.out (nest HK2.out HKX.out) hp (HBB.out.keep HKX.out) HL2.out.symm HL2.out HRW.out (fun k x y h1 h2 => (HEL.out k x y h1 h2).turned (S := fun _ => False) (Turned.of_below HKX.out) (fun _ _ h => h)) HWS.out.1 HWS.out.2.1 HWS.out.2.2 hRw.out HRQ.out)
      have hts : (ecl (a, (i, v, l), gn) (.slice aq l.length cq)).toArray.toList = ecl (a, (i, v, l), gn) (.slice aq l.length cq) := rfl
      rw [hts]
      clear hts
      generalize x1.setCells g (p * 5) (ecl (a, (i, v, l), gn) (.slice aq l.length cq)) = x2 at *
      go_wp2_with fail
      go_ret2
      exact ⟨by rw [HRR.out]; rfl, by rw [HRR.out]; exact HLAY.out⟩
  · have hpl : posE L a i = L.length := by have := HPL.out; omega
    have HF : Hid (Calls Try.prog 27 #[.pointer (some ⟨b, 0, none⟩), .agg #[.int .u32 a, .int .u64 i]] w1 fun e w' => e = .returned (.int .i64 (-1)) ∧ Below w1.heap.size w1 w') := Lib.hid (by
      have := rshfind_any b W R L a i w1 HR1.out
      rw [if_neg hp] at this
      exact this)
    have HQ2 : Hid (RES = if 10000 ≤ L.length then (L, false, 5) else (L ++ [(a, (i, v, l), gn)], true, 0)) := Lib.hid (by
      have e : putL L (a, (i, v, l), gn) = if posE L a i < L.length then (if newerV v gn (L.getD (posE L a i) e0).2.1.2.1 (L.getD (posE L a i) e0).2.2 = true then (L.set (posE L a i) (a, (i, v, l), gn), true, 0) else (L, false, 0)) else if 10000 ≤ L.length then (L, false, 5) else (L ++ [(a, (i, v, l), gn)], true, 0) := rfl
      rw [HRES.out, e, if_neg hp])
    clear hp hpl HRES
    go_upto_region 2 with (go_at_call 27; refine HF.out.mono ?_; rintro e w2 ⟨rfl, hk2⟩)
    have HR2 := Lib.hid (HR1.out.keep hk2)
    have HB32 := Lib.hid (HB3.out.keep hk2)
    have HX2 := Lib.hid (HX1.out.keep hk2)
    have HK2 := Lib.hid (nest HK1.out hk2)
    clear hk2 c0 c1 HR1 HB3 HX1 HK1 HF
    have dge : decide ((-1 : Int) ≥ 0) = false := by decide
    refine Run.region_walk (S := fun _ => True)
      rshput.rows2 rshput.plan2 (l := ?steps4) (by kernel_rfl) (by kernel_rfl) (by kernel_rfl) (by kernel_rfl) ?written4 trivial ?onward4
    case written4 =>
      simp only [rshput.plan2, Run.stepsOf, Run.stepOf, Run.guardOf, List.getElem?_toArray, List.getElem?_cons_zero, List.getElem?_cons_succ, Option.map_some, Option.map_none, Option.bind_some, Option.toList_some, List.map_cons, List.map_nil, List.cons_append, List.nil_append, List.append_eq]
      rfl
    repeat ((first
      | (refine Run.takes (v := ?_) ?_ ?_; rotate_left; (· intro w' hS'; go_simp; (try with_reducible rfl)))
      | (refine Run.takesG (v := ?_) ?_ ?_ ?_; rotate_left; (· simp only [List.getElem?_cons_zero, List.getElem?_cons_succ]); (· intro w' hS'; go_simp; (try with_reducible rfl)))
      | (refine Run.skipsT ?_ ?_; (· simp only [List.getElem?_cons_zero, List.getElem?_cons_succ]))
      | (refine Run.skipsF ?_ ?_; (· simp only [List.getElem?_cons_zero, List.getElem?_cons_succ]))
      | (refine Run.skipsU ?_ ?_; (· simp only [List.getElem?_cons_zero, List.getElem?_cons_succ]))
      | (refine Run.passT ?_ ?_; (· simp only [List.getElem?_cons_zero, List.getElem?_cons_succ]))
      | (refine Run.passF ?_ ?_; (· simp only [List.getElem?_cons_zero, List.getElem?_cons_succ]))
      | (refine Run.passU ?_ ?_; (· simp only [List.getElem?_cons_zero, List.getElem?_cons_succ]))
      | fail); simp only [Act.put, List.setIfInBounds_toArray, List.set_cons_zero, List.set_cons_succ])
    refine Run.ends (fun _ => ?_)
    have HR3 := Lib.hid (HR2.out.keep (Below.refl _ _).drew)
    have HB33 := Lib.hid (HB32.out.keep (Below.refl _ _).drew)
    have HX3 := Lib.hid (HX2.out.keep (Below.refl _ _).drew)
    have HK3 := Lib.hid HK2.out.drew
    clear HR2 HB32 HX2 HK2
    generalize w2.drew = w3 at *
    obtain ⟨sl, hb, ⟨hs, hl, hrow, hnq, hel⟩, hWb, hsW, hWR, hR⟩ := HR3.out
    obtain ⟨asl, csl, rfl, hsl1, hsl2⟩ := hrow.rd.form
    rw [hl] at hb hrow hnq hsW
    have hsl2' : csl ≤ 9223372036854775807 := hsl2
    have hb0 : w3.cell? ⟨b, 0, none⟩ = some (.slice asl L.length csl) := hb.cell 0
    have HROW := Lib.hid hrow
    have HEL := Lib.hid hel
    have HBB := Lib.hid hb
    have HWS := Lib.hid (And.intro hsW (And.intro hWb hWR))
    have HL2 := Lib.hid hl
    have hRw : Hid (∀ j, R j → j < w.heap.size) := Lib.hid (fun j hj => HH.out.lt hj)
    clear hrow hnq hel hb hsW hWb hWR hR
    by_cases h10 : 10000 ≤ L.length
    · have d10 : decide ((L.length : Int) ≥ 10000) = true := decide_eq_true (by omega)
      have HRR : Hid (RES = (L, false, 5)) := Lib.hid (by rw [HQ2.out, if_pos h10])
      go_wp2_with fail
      go_ret2
      exact ⟨by rw [HRR.out]; rfl, by rw [HRR.out]; exact RStep.same HH.out HK3.out⟩
    have d10 : decide ((L.length : Int) ≥ 10000) = false := decide_eq_false (by omega)
    have HRR : Hid (RES = (L ++ [(a, (i, v, l), gn)], true, 0)) := Lib.hid (by rw [HQ2.out, if_neg h10])
    go_upto_region 9 with fail
    clear d10 dge
    refine Run.region_walkZ (S := fun z => z.cell? ⟨b, 0, none⟩ = some (.slice asl L.length csl) ∧ Blk z g3 28 #[.int .u32 a, .int .u64 i, .int .u64 v, .slice ax l.length cx, .bool gn])
      rshput.rows9 rshput.plan9z 11 _ (l := ?steps5) (by kernel_rfl) (by kernel_rfl) (by kernel_rfl) (by kernel_rfl) rfl rfl ?written5 ⟨hb0, HB33.out.keep (Below.refl _ _).drew⟩ ?onward5
    case written5 =>
      simp only [rshput.plan9z, Run.stepsOf, Run.stepOf, Run.guardOf, List.getElem?_toArray, List.getElem?_cons_zero, List.getElem?_cons_succ, Option.map_some, Option.map_none, Option.bind_some, Option.toList_some, List.map_cons, List.map_nil, List.cons_append, List.nil_append, List.append_eq]
      rfl
    repeat ((first
      | (refine Run.takes (v := ?_) ?_ ?_; rotate_left; (· intro w' hS'; (first | (refine exec_load_blk (n := 5) (x := .tmp 3) (l := [.int .u32 a, .int .u64 i, .int .u64 v, .slice ax l.length cx, .bool gn]) ?_ Try.underlying28 ent_info' ?_ ?_ hS'.2 <;> rfl) | (go_simp; (try with_reducible rfl)))))
      | (refine Run.takesG (v := ?_) ?_ ?_ ?_; rotate_left; (· simp only [List.getElem?_cons_zero, List.getElem?_cons_succ]); (· intro w' hS'; (first | (refine exec_load_blk (n := 5) (x := .tmp 3) (l := [.int .u32 a, .int .u64 i, .int .u64 v, .slice ax l.length cx, .bool gn]) ?_ Try.underlying28 ent_info' ?_ ?_ hS'.2 <;> rfl) | (go_simp; (try with_reducible rfl)))))
      | (refine Run.skipsT ?_ ?_; (· simp only [List.getElem?_cons_zero, List.getElem?_cons_succ]))
      | (refine Run.skipsF ?_ ?_; (· simp only [List.getElem?_cons_zero, List.getElem?_cons_succ]))
      | (refine Run.skipsU ?_ ?_; (· simp only [List.getElem?_cons_zero, List.getElem?_cons_succ]))
      | (refine Run.passT ?_ ?_; (· simp only [List.getElem?_cons_zero, List.getElem?_cons_succ]))
      | (refine Run.passF ?_ ?_; (· simp only [List.getElem?_cons_zero, List.getElem?_cons_succ]))
      | (refine Run.passU ?_ ?_; (· simp only [List.getElem?_cons_zero, List.getElem?_cons_succ]))
      | fail); simp only [Act.put, List.setIfInBounds_toArray, List.set_cons_zero, List.set_cons_succ])
    refine Run.runsS (Run.callF 29 (by kernel_rfl) (fun hS => copyent_any (a, (i, v, l), gn) (.slice ax l.length cx) _ (HX3.out.keep (Below.refl _ _).drew) HXL.out) rfl ?_)
    rintro hS e x4 ⟨xq, rfl, hrq, hkq⟩
    have HK4 := Lib.hid (nest HK3.out.drew hkq)
    have HK34 : Hid (Below w3.heap.size w3 x4) := Lib.hid (nest (Below.refl _ _).drew hkq)
    have HRQ : Hid (Row (intE .u32) 22 w.heap.size x4 xq l) := Lib.hid (hrq.mono HK3.out.drew.size)
    obtain ⟨aq, cq, rfl, _, _⟩ := hrq.rd.form
    have hb1 : x4.cell? ⟨b, 0, none⟩ = some (.slice asl L.length csl) := kc hkq hS.1
    have HB34 := Lib.hid (hS.2.keep hkq)
    refine ⟨_, rfl, ⟨hb1, HB34.out⟩, fun _ => ⟨fun z => z.cell? ⟨b, 0, none⟩ = some (.slice asl L.length csl) ∧ Blk z g3 28 #[.int .u32 a, .int .u64 i, .int .u64 v, .slice ax l.length cx, .bool gn], fun z h => h, ⟨hb1, HB34.out⟩, ?_⟩⟩
    clear hS hrq hkq hb0
    try simp only [Act.put, List.setIfInBounds_toArray, List.set_cons_zero, List.set_cons_succ]
    repeat ((first
      | (refine Run.takes (v := ?_) ?_ ?_; rotate_left; (· intro w' hS'; go_simp; (try with_reducible rfl)))
      | (refine Run.takesG (v := ?_) ?_ ?_ ?_; rotate_left; (· simp only [List.getElem?_cons_zero, List.getElem?_cons_succ]); (· intro w' hS'; go_simp; (try with_reducible rfl)))
      | (refine Run.skipsT ?_ ?_; (· simp only [List.getElem?_cons_zero, List.getElem?_cons_succ]))
      | (refine Run.skipsF ?_ ?_; (· simp only [List.getElem?_cons_zero, List.getElem?_cons_succ]))
      | (refine Run.skipsU ?_ ?_; (· simp only [List.getElem?_cons_zero, List.getElem?_cons_succ]))
      | (refine Run.passT ?_ ?_; (· simp only [List.getElem?_cons_zero, List.getElem?_cons_succ]))
      | (refine Run.passF ?_ ?_; (· simp only [List.getElem?_cons_zero, List.getElem?_cons_succ]))
      | (refine Run.passU ?_ ?_; (· simp only [List.getElem?_cons_zero, List.getElem?_cons_succ]))
      | fail); simp only [Act.put, List.setIfInBounds_toArray, List.set_cons_zero, List.set_cons_succ])
    refine Run.runsS (Run.one (fun hS K1 hK1 => ?_))
    obtain ⟨nq, hnq⟩ : ∃ nq, nq = l.length := ⟨_, rfl⟩
    have hecl : ecl (a, (i, v, l), gn) (.slice aq l.length cq) = [.int .u32 a, .int .u64 i, .int .u64 v, .slice aq l.length cq, .bool gn] := rfl
    rw [hecl]
    clear hecl
    go_simp
    have hX : Below x4.heap.size x4 (x4.alloc (.cells #[.int .u32 a, .int .u64 i, .int .u64 v, .slice aq l.length cq, .bool gn] 28)) := more (Below.refl _ _) _
    have HX5 := Lib.hid (Row.lit (E := rawE 5) x4.heap.size x4 #[.int .u32 a, .int .u64 i, .int .u64 v, .slice aq l.length cq, .bool gn] [rawEnt (a, (i, v, l), gn) (.slice aq l.length cq) rfl] 1 x4.heap.size rfl rfl rfl (Nat.le_refl _) (by simp [maxLen]) : Row (rawE 5) 28 x4.heap.size (x4.alloc (.cells #[.int .u32 a, .int .u64 i, .int .u64 v, .slice aq l.length cq, .bool gn] 28)) (.slice (some ⟨x4.heap.size, 0, none⟩) 1 1) [rawEnt (a, (i, v, l), gn) (.slice aq l.length cq) rfl])
    have HK5 := Lib.hid (nest HK4.out hX)
    have HK35 := Lib.hid (nest HK34.out hX)
    have HRQ5 := Lib.hid (HRQ.out.keep hX)
    have hb2 := kc hX hb1
    have HB35 := Lib.hid (HB34.out.keep hX)
    refine hK1.out _ _ ⟨hb2, HB35.out⟩ (fun _ => ⟨fun z => z.cell? ⟨b, 0, none⟩ = some (.slice asl L.length csl) ∧ Blk z g3 28 #[.int .u32 a, .int .u64 i, .int .u64 v, .slice ax l.length cx, .bool gn], fun z h => h, ⟨hb2, HB35.out⟩, ?_⟩)
    clear hS K1 hK1 hX HK4 HK34 HRQ hb1 HB34 hnq
    generalize x4.alloc (.cells #[.int .u32 a, .int .u64 i, .int .u64 v, .slice aq l.length cq, .bool gn] 28) = x5 at *
    try simp only [Act.put, List.setIfInBounds_toArray, List.set_cons_zero, List.set_cons_succ]
    repeat ((first
      | (refine Run.takes (v := ?_) ?_ ?_; rotate_left; (· intro w' hS'; go_simp; (try with_reducible rfl)))
      | (refine Run.takesG (v := ?_) ?_ ?_ ?_; rotate_left; (· simp only [List.getElem?_cons_zero, List.getElem?_cons_succ]); (· intro w' hS'; go_simp; (try with_reducible rfl)))
      | (refine Run.skipsT ?_ ?_; (· simp only [List.getElem?_cons_zero, List.getElem?_cons_succ]))
      | (refine Run.skipsF ?_ ?_; (· simp only [List.getElem?_cons_zero, List.getElem?_cons_succ]))
      | (refine Run.skipsU ?_ ?_; (· simp only [List.getElem?_cons_zero, List.getElem?_cons_succ]))
      | (refine Run.passT ?_ ?_; (· simp only [List.getElem?_cons_zero, List.getElem?_cons_succ]))
      | (refine Run.passF ?_ ?_; (· simp only [List.getElem?_cons_zero, List.getElem?_cons_succ]))
      | (refine Run.passU ?_ ?_; (· simp only [List.getElem?_cons_zero, List.getElem?_cons_succ]))
      | fail); simp only [Act.put, List.setIfInBounds_toArray, List.set_cons_zero, List.set_cons_succ])
    refine Run.runsS (Run.one (fun hS K1 hK1 => ?_))
    refine wp_append (E := rawE 5) (B := 0) (l := hs) (m := [rawEnt (a, (i, v, l), gn) (.slice aq l.length cq) rfl]) (bytes := 56) entElem (Nat.zero_lt_succ 4) (.tmp 52) (.tmp 55) rfl rfl (HROW.out.keep HK35.out) rfl HX5.out.rd (by rw [HL2.out]; have := HLN.out; simp [maxLen]; omega) (by rw [HL2.out]; have := HLN.out; simp; omega) (Nat.zero_le _) ?_
    intro v6 x6 hr6 hk6 hg6 hw6
    obtain ⟨a6, c6, rfl, _, _⟩ := hr6.rd.form
    obtain ⟨n6, hn6⟩ : ∃ n6, n6 = (hs ++ [rawEnt (a, (i, v, l), gn) (.slice aq l.length cq) rfl]).length := ⟨_, rfl⟩
    rw [← hn6] at hr6 hw6 ⊢
    have HGR := Lib.hid (RfAt.grow (w := w) rfl HK5.out (HBB.out.keep HK35.out) HL2.out (HROW.out.keep HK35.out) (fun k x y h1 h2 => (HEL.out k x y h1 h2).turned (S := fun _ => False) (Turned.of_below HK35.out) (fun _ _ h => h)) HWS.out.1 HWS.out.2.1 HWS.out.2.2 hRw.out HRQ5.out hr6 hg6 hw6)
    have hslb := (HROW.out.keep HK35.out).ne_blk (HBB.out.keep HK35.out) (by decide)
    have HB6 := Lib.hid (Blk.grown (HBB.out.keep HK35.out) hg6 hslb)
    have hsl3 : (Value.slice asl L.length csl).ownBlock ≠ some g3 := fun e => by have := hRw.out g3 (HWS.out.2.2 g3 (HWS.out.1 g3 e)); have := HG3.out; omega
    have HB36 := Lib.hid (Blk.grown HB35.out hg6 hsl3)
    have cc : x6.cell? ⟨b, 0, none⟩ = some (.slice asl L.length csl) := HB6.out.cell 0
    refine hK1.out _ _ ⟨cc, HB36.out⟩ (fun _ => ⟨fun z => z.cell? ⟨b, 0, none⟩ = some (.slice asl L.length csl) ∧ Blk z g3 28 #[.int .u32 a, .int .u64 i, .int .u64 v, .slice ax l.length cx, .bool gn], fun z h => h, ⟨cc, HB36.out⟩, ?_⟩)
    clear hS K1 hK1 hr6 hk6 hg6 hw6 hn6 hslb hsl3 hb2 HX5 HK5 HK35 HRQ5 HB35
    try simp only [Act.put, List.setIfInBounds_toArray, List.set_cons_zero, List.set_cons_succ]
    repeat ((first
      | (refine Run.takes (v := ?_) ?_ ?_; rotate_left; (· intro w' hS'; go_simp; (try with_reducible rfl)))
      | (refine Run.takesG (v := ?_) ?_ ?_ ?_; rotate_left; (· simp only [List.getElem?_cons_zero, List.getElem?_cons_succ]); (· intro w' hS'; go_simp; (try with_reducible rfl)))
      | (refine Run.skipsT ?_ ?_; (· simp only [List.getElem?_cons_zero, List.getElem?_cons_succ]))
      | (refine Run.skipsF ?_ ?_; (· simp only [List.getElem?_cons_zero, List.getElem?_cons_succ]))
      | (refine Run.skipsU ?_ ?_; (· simp only [List.getElem?_cons_zero, List.getElem?_cons_succ]))
      | (refine Run.passT ?_ ?_; (· simp only [List.getElem?_cons_zero, List.getElem?_cons_succ]))
      | (refine Run.passF ?_ ?_; (· simp only [List.getElem?_cons_zero, List.getElem?_cons_succ]))
      | (refine Run.passU ?_ ?_; (· simp only [List.getElem?_cons_zero, List.getElem?_cons_succ]))
      | fail); simp only [Act.put, List.setIfInBounds_toArray, List.set_cons_zero, List.set_cons_succ])
    refine Run.endsZ (fun hS K1 hK1 => ?_)
    have cf := HB6.out.frozen 0
    clear hS
    go_simp
    refine hK1.out _ _ (NoPanic.normal ?_)
    clear hK1 K1 cc cf
    generalize x6.setCell ⟨b, 0, none⟩ (.slice a6 n6 c6) = x7 at *
    go_wp2_with fail
    go_ret2
    exact ⟨by rw [HRR.out]; rfl, by rw [HRR.out]; exact HGR.out⟩
end Go.Proofs.Ytihfkjodjaoocaa
