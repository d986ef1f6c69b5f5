/- The landed shadow in memory: a map of shelves by owner; maps.Copy, a look, what is laid. -/
import Derived.Test.YtihfkjodjaoocaaShelfC
import Derived.Test.YtihfkjodjaoocaaShwMath
import Derived.KernelRfl
set_option maxRecDepth 4000
namespace Go.Proofs.Ytihfkjodjaoocaa
open Go.RowKit Mem
open Go.Maps (Keyed)
set_option linter.unusedSimpArgs false
set_option linter.unusedVariables false
attribute [local irreducible] Go.Calls

theorem okeyRow : (58 : TypeId) < Try.prog.types.size := of_decide_eq_true (by kernel_rfl)
theorem okeyWide : (match Try.prog.underlying 58 with | some (.array _ _) | some (.struct _) => true | _ => false) = true := by rw [Try.underlying58]
theorem okeyK : Keyed Try.prog 58 := Keyed.of_law (deep_law_laid laidOut (m := 2) (by omega) okeyRow (by kernel_rfl) okeyWide)
/-- an owner, as a key -/
def okv (o : Int) : Value := .agg #[.int .u32 o]
theorem okeyKT : Try.prog.keyType 58 = true := by kernel_rfl
theorem okeyCells : Try.prog.cellsOf 58 = 1 := by kernel_rfl
theorem okey_of {o : Int} (ho : 0 ≤ o ∧ o ≤ 4294967295) : ∃ l, keyOf Try.prog 58 (okv o) = some l := by
  obtain ⟨n, hn⟩ : ∃ n, Try.prog.types.size = n + 1 := ⟨Try.prog.types.size - 1, (Nat.sub_add_cancel (Nat.lt_of_le_of_lt (Nat.zero_le _) okeyRow)).symm⟩
  have hf : (okv o).formed Try.prog 58 = true := by simp [okv, Value.formed, Try.underlying58, okeyCells]
  unfold keyOf
  rw [Try.underlying58]
  simp only [okeyKT, hf, Bool.and_self, if_true, hn]
  simp [Program.keyLits, Try.underlying58, Try.underlying22, okv, Value.cells, okeyCells, u32Cells, wf32 ho]
theorem okv_inj {o p : Int} : okv o = okv p ↔ o = p := by simp [okv]
/-- an owner, and where its shelf lies -/
abbrev OV := Int × Nat
def ovc (p : OV) : Value × Value := (okv p.1, .pointer (some ⟨p.2, 0, none⟩))
abbrev okO (o : Int) : Prop := 0 ≤ o ∧ o ≤ 4294967295
/-- a shadow's one cell v, which is a map that holds M -/
structure ShwIs (w : World) (b : Nat) (R : Nat → Prop) (v : Value) (M : List OV) (F : Int → List Ent) : Prop where
  blk : Blk w b 56 #[v]
  mp : MapIs Try.prog 58 ovc w v M
  mR : ∀ g, v = .map (some g) → R g
  sh : ∀ p ∈ M, okO p.1 ∧ F p.1 ≠ [] ∧ ∃ W1 R1, ShAt w p.2 W1 R1 (F p.1) ∧ ∀ j, R1 j → R j ∧ j ≠ b
  no : ∀ o, (∀ p ∈ M, p.1 ≠ o) → F o = []
/-- a shadow at block b that holds F's lists, owner by owner: it writes block b alone, and reads blocks of R alone -/
def ShwAt (w : World) (b : Nat) (W R : Nat → Prop) (F : Int → List Ent) : Prop := (∀ j, W j ↔ j = b) ∧ R b ∧ (∀ j, R j → j < w.heap.size) ∧ ∃ v M, ShwIs w b R v M F
section
variable {w w' : World} {b : Nat} {W R S : Nat → Prop} {v : Value} {M : List OV} {F : Int → List Ent}
theorem ShwIs.turned (h : ShwIs w b R v M F) (k : Turned S w w') (hb : ¬ S b) (hs : ∀ j, R j → ¬ S j) : ShwIs w' b R v M F where
  blk := h.blk.turned k hb
  mp := h.mp.turned k (fun g hg => hs g (h.mR g hg))
  mR := h.mR
  sh p hp := by
    obtain ⟨h1, h2, W1, R1, h3, h4⟩ := h.sh p hp
    exact ⟨h1, h2, W1, R1, h3.turned k (fun j hj => hs j (h4 j hj).1), h4⟩
  no := h.no
theorem ShwIs.keep (h : ShwIs w b R v M F) (k : Below w.heap.size w w') : ShwIs w' b R v M F := h.turned (S := fun _ => False) (Turned.of_below k) (fun h => h) (fun _ _ h => h)
theorem ShwIs.ne_b (h : ShwIs w b R v M F) {g : Nat} (hg : v = .map (some g)) : g ≠ b := by
  rcases h.mp with ⟨e, _⟩ | ⟨g', e, hm⟩
  · rw [e] at hg; cases hg
  · rw [e] at hg; cases hg
    exact hm.ne_blk h.blk
theorem ShwAt.turned (h : ShwAt w b W R F) (k : Turned S w w') (hs : ∀ j, R j → ¬ S j) : ShwAt w' b W R F := by
  obtain ⟨h1, h2, h3, v, M, h4⟩ := h
  exact ⟨h1, h2, fun j hj => Nat.lt_of_lt_of_le (h3 j hj) k.size, v, M, h4.turned k (hs b h2) hs⟩
theorem ShwAt.lt (h : ShwAt w b W R F) {j : Nat} (hj : R j) : j < w.heap.size := h.2.2.1 j hj
theorem ShwAt.sub (h : ShwAt w b W R F) {j : Nat} (hj : W j) : R j := by
  rw [(h.1 j).1 hj]
  exact h.2.1
theorem ShwIs.at (h : ShwIs w b R v M F) (o : Int) : (∃ sb W1 R1, (o, sb) ∈ M ∧ okO o ∧ F o ≠ [] ∧ ShAt w sb W1 R1 (F o) ∧ ∀ j, R1 j → R j ∧ j ≠ b) ∨ (F o = [] ∧ ∀ p ∈ M, p.1 ≠ o) := by
  by_cases hc : ∃ p ∈ M, p.1 = o
  · obtain ⟨⟨p, sb⟩, hp, e⟩ := hc
    have e : p = o := e
    subst e
    obtain ⟨h1, h2, W1, R1, h3, h4⟩ := h.sh _ hp
    exact .inl ⟨sb, W1, R1, hp, h1, h2, h3, h4⟩
  · have hn : ∀ p ∈ M, p.1 ≠ o := fun p hp e => hc ⟨p, hp, e⟩
    exact .inr ⟨h.no o hn, hn⟩
theorem ShwAt.facts (h : ShwAt w b W R F) (o : Int) : UniqK (F o) ∧ (∀ y ∈ F o, okE y) ∧ (F o).length ≤ 10000 := by
  obtain ⟨h1, h2, h3, v, M, h4⟩ := h
  rcases h4.at o with ⟨sb, W1, R1, _, _, _, hs, _⟩ | ⟨e, _⟩
  · exact ⟨hs.uniq, hs.ok, hs.len⟩
  · rw [e]
    exact ⟨List.nodup_nil, fun y hy => by simp at hy, Nat.zero_le _⟩
theorem zero_ptr (w : World) : (zeroValue 49).run Try.prog w = .ok (.pointer none) w := by kernel_rfl
/-- what a look at the map tells -/
theorem ShwIs.look (h : ShwIs w b R v M F) (o : Int) (bo : okO o) :
    (∃ sb W1 R1, (o, sb) ∈ M ∧ F o ≠ [] ∧ ShAt w sb W1 R1 (F o) ∧ (∀ j, R1 j → R j ∧ j ≠ b) ∧ (Instr.lookup 54 v (.agg #[.int .u32 o]) true).run Try.prog w = .ok (.tuple #[.pointer (some ⟨sb, 0, none⟩), .bool true]) w ∧ (Instr.lookup 54 v (.agg #[.int .u32 o]) false).run Try.prog w = .ok (.pointer (some ⟨sb, 0, none⟩)) w) ∨
    (F o = [] ∧ (∀ p ∈ M, p.1 ≠ o) ∧ (Instr.lookup 54 v (.agg #[.int .u32 o]) true).run Try.prog w = .ok (.tuple #[.pointer none, .bool false]) w ∧ (Instr.lookup 54 v (.agg #[.int .u32 o]) false).run Try.prog w = .ok (.pointer none) w) := by
  obtain ⟨kl, hkl⟩ := okey_of bo
  rcases h.at o with ⟨sb, W1, R1, hm, _, hne, hs, hr⟩ | ⟨e, hn⟩
  · refine .inl ⟨sb, W1, R1, hm, hne, hs, hr, ?_, ?_⟩
    · exact h.mp.yes okeyK Try.underlying54 (zero_ptr w) hm rfl hkl
    · rcases h.mp.look1 okeyK Try.underlying54 (zero_ptr w) hkl with ⟨a, ha, e1, hr1⟩ | ⟨hno, _⟩
      · have := h.mp.one ha hm (e1.trans rfl)
        rw [this] at hr1
        exact hr1
      · exact absurd rfl (hno _ hm)
  · have hn' : ∀ a ∈ M, (ovc a).1 ≠ okv o := fun a ha e1 => hn a ha (okv_inj.1 e1)
    refine .inr ⟨e, hn, ?_, ?_⟩
    · exact h.mp.no okeyK Try.underlying54 (zero_ptr w) hn' hkl
    · rcases h.mp.look1 okeyK Try.underlying54 (zero_ptr w) hkl with ⟨a, ha, e1, hr1⟩ | ⟨_, hr1⟩
      · exact absurd e1 (hn' a ha)
      · exact hr1
end
/-- a shelf handed on, or none -/
def ShelfArg (w : World) (sv : Value) (L : List Ent) (Q : Nat → Prop) : Prop := (sv = .pointer none ∧ L = []) ∨ ∃ sb W1 R1, sv = .pointer (some ⟨sb, 0, none⟩) ∧ ShAt w sb W1 R1 L ∧ ∀ j, R1 j → Q j
theorem ShelfArg.keep {w w' : World} {sv : Value} {L : List Ent} {Q : Nat → Prop} (h : ShelfArg w sv L Q) (k : Below w.heap.size w w') : ShelfArg w' sv L Q := by
  rcases h with h | ⟨sb, W1, R1, e, hs, hq⟩
  · exact .inl h
  · exact .inr ⟨sb, W1, R1, e, hs.turned (S := fun _ => False) (Turned.of_below k) (fun _ _ h => h), hq⟩
/-- another map has been laid: all others' shelves, and the owner's, if it has entries -/
theorem ShwIs.laid {w w1 w2 : World} {b g : Nat} {R R' Q : Nat → Prop} {v sv : Value} {M M' : List OV} {F : Int → List Ent} {o : Int} {L : List Ent} (h : ShwIs w b R v M F) (hRl : ∀ j, R j → j < w.heap.size) (k : Below w.heap.size w w1) (hm : MapAt Try.prog 58 ovc w1 g M') (hg : w.heap.size ≤ g) (o2 : Only b w1 w2) (hb : Blk w2 b 56 #[.map (some g)]) (bo : okO o) (hs : ShelfArg w sv L Q) (hQ : ∀ j, Q j → j ≠ b)
    (hmem : ∀ q, q ∈ M' ↔ (L ≠ [] ∧ (ovc q).1 = okv o ∧ (ovc q).2 = sv) ∨ (q ∈ M ∧ q.1 ≠ o)) (hgR : R' g) (hRR : ∀ j, R j → R' j) (hQR : ∀ j, j < w.heap.size → Q j → R' j) : ShwIs w2 b R' (.map (some g)) M' (updF F o L) := by
  have hlt : b < w.heap.size := h.blk.lt
  have ht : Turned (fun j => j = b) w w2 := (Turned.of_below k).trans (Turned.of_only o2 (S := fun j => j = b) rfl) (fun _ _ h => h)
  refine ⟨hb, .inr ⟨g, rfl, hm.only o2 (by omega)⟩, fun g' hg' => by injection hg' with hg'; injection hg' with hg'; rw [← hg']; exact hgR, fun p hp => ?_, fun p hp => ?_⟩
  · rcases (hmem p).1 hp with ⟨hL, e1, e2⟩ | ⟨hp, hne⟩
    · have e1 : p.1 = o := okv_inj.1 e1
      rw [e1, updF_at]
      refine ⟨bo, hL, ?_⟩
      rcases hs with ⟨_, e⟩ | ⟨sb, W1, R1, e, hsa, hq⟩
      · exact absurd e hL
      · rw [e] at e2
        have e3 : p.2 = sb := by simpa [ovc] using e2
        rw [e3]
        exact ⟨W1, R1, hsa.turned ht (fun j hj => hQ j (hq j hj)), fun j hj => ⟨hQR j (hsa.lt hj) (hq j hj), hQ j (hq j hj)⟩⟩
    · obtain ⟨h1, h2, W1, R1, h3, h4⟩ := h.sh p hp
      rw [updF_ne hne]
      exact ⟨h1, h2, W1, R1, h3.turned ht (fun j hj => (h4 j hj).2), fun j hj => ⟨hRR j (h4 j hj).1, (h4 j hj).2⟩⟩
  · by_cases e : p = o
    · subst e
      rw [updF_at]
      rcases hs with ⟨_, e⟩ | ⟨sb, W1, R1, e, hsa, hq⟩
      · exact e
      · by_cases hL : L = []
        · exact hL
        · exact absurd rfl (hp (p, sb) ((hmem (p, sb)).2 (.inl ⟨hL, rfl, by rw [e]; rfl⟩)))
    · rw [updF_ne e]
      exact h.no p (fun q hq e1 => hp q ((hmem q).2 (.inr ⟨hq, fun e2 => e (e1.symm.trans e2)⟩)) e1)
set_option maxHeartbeats 4000000 in
set_option maxRecDepth 100000 in
theorem shwcopy_any (d : Nat) (v : Value) (M : List OV) (w : World) (hd : MapAt Try.prog 58 ovc w d []) (hv : MapIs Try.prog 58 ovc w v M) (hne : v ≠ .map (some d)) (hok : ∀ p ∈ M, okO p.1) :
    Calls Try.prog 34 #[.map (some d), v] w fun e w' => e = .returned (.tuple #[]) ∧ Only d w w' ∧ ∃ M', MapAt Try.prog 58 ovc w' d M' ∧ ∀ q, q ∈ M' ↔ q ∈ M := by
  have HD := Lib.hid hd
  have HV := Lib.hid hv
  have HOK := Lib.hid hok
  have HNE := Lib.hid hne
  clear hd hv hok hne
  go_enter Try.func34, Try.ntmps34
  go_wp2_with (at_range; refine wpList_range_map rfl rfl Try.underlying54 rfl HV.out ?_; intro w0 hrg0 hg0 hs0)
  go_frame
  have HRG0 := Lib.hid hrg0
  have HG0 := Lib.hid hg0
  clear hrg0 hg0 hs0
  go_loopw [] (fun wr => ∃ S M', Rng Try.prog 58 ovc wr v w.heap.size M S ∧ MapAt Try.prog 58 ovc wr d M' ∧ (∀ q, q ∈ M' ∨ q ∈ S ↔ q ∈ M) ∧ Only d w wr) (fun wr => rngLeft wr w.heap.size)
  case atStart => exact ⟨M, [], HRG0.out, HD.out.keep HG0.out, by simp, Only.of_below HG0.out⟩
  case round =>
    obtain ⟨S, M', hrg, hm, hmem, ho⟩ := hrel
    have HRG := Lib.hid hrg
    have HM := Lib.hid hm
    have HMEM := Lib.hid hmem
    have HO := Lib.hid ho
    clear hrg hm hmem ho HRG0 HG0 HD
    go_wp2_with (first | (at_next; refine wpList_next_map rfl rfl rfl HRG.out ?_ ?_) | go_in)
    · intro hS
      have HS := Lib.hid hS
      clear hS
      go_wp2_with fail
      go_end0
      exact ⟨rfl, HO.out, M', HM.out, fun q => by have := HMEM.out q; rw [HS.out] at this; simpa using this⟩
    · intro kk vv w1 hn
      obtain ⟨i, x, hx, hf, hrg1, ho1, hs1, hen⟩ := hn
      have hxS : x ∈ S := List.mem_of_getElem? hx
      have hxM : x ∈ M := (HMEM.out x).1 (.inr hxS)
      have HOKX := Lib.hid (HOK.out x hxM)
      have HX := Lib.hid hx
      have HRG1 := Lib.hid hrg1
      have HO1 := Lib.hid ho1
      have HS1 := Lib.hid hs1
      have HXM := Lib.hid hxM
      clear hx hrg1 ho1 hs1 hxS hxM
      obtain ⟨xo, xb⟩ := x
      obtain ⟨kl, hkl⟩ := okey_of HOKX.out
      have HKL := Lib.hid hkl
      clear hkl
      simp only [ovc, okv, Prod.mk.injEq] at hf
      obtain ⟨rfl, rfl⟩ := hf
      have hdr : d ≠ w.heap.size := HRG.out.ne_map HM.out
      have HM1 := Lib.hid (HM.out.only HO1.out hdr)
      have HDR := Lib.hid hdr
      clear hdr
      go_wp2_with (first | (at_mapUpdate; refine wpList_store_map rfl rfl okeyK Try.underlying54 rfl (HM1.out.keep (more (Below.refl _ _) _)) (xo, xb) rfl rfl HKL.out ?_; intro w2 M2 hm2 hmem2 ho2; go_frame) | go_in)
      have HRG2 := Lib.hid ((HRG1.out.keep (more (Below.refl _ _) _)).turned (Turned.of_only (S := fun j => j = d) ho2 rfl) (fun e => HDR.out e.symm) (fun g hg e => HNE.out (by rw [hg, e])))
      refine ⟨⟨S.eraseIdx i, M2, HRG2.out, hm2, fun q => ?_, ?_⟩, ?_⟩
      · constructor
        · rintro (hq | hq)
          · rcases (hmem2 q).1 hq with rfl | ⟨hq, _⟩
            · exact HXM.out
            · exact (HMEM.out q).1 (.inl hq)
          · exact (HMEM.out q).1 (.inr ((List.eraseIdx_sublist _ _).subset hq))
        · intro hq
          by_cases e : q = (xo, xb)
          · exact .inl ((hmem2 q).2 (.inl e))
          · rcases (HMEM.out q).2 hq with h | h
            · exact .inl ((hmem2 q).2 (.inr ⟨h, fun e2 => e (HV.out.one hq HXM.out e2)⟩))
            · exact .inr ((mem_erase_or HX.out h).resolve_left e)
      · exact ((World.grownBy.andThen HO.out HO1.out (fun j hj => .inl (by cases hj; exact Nat.le_refl _))).trans (Only.of_below (more (Below.refl _ _) _))).trans ho2
      · rw [HRG2.out.left, HRG.out.left, List.length_eraseIdx]
        have := (List.getElem?_eq_some_iff.1 HX.out).1
        simp [this]
        omega
end Go.Proofs.Ytihfkjodjaoocaa
