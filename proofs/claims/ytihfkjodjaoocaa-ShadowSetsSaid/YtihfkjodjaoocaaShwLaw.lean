/- Walks that the laws of shadows share: awake, the document's All; a shadow beside shelves of the document's. -/
import Derived.Test.YtihfkjodjaoocaaShadowC
import Derived.Test.YtihfkjodjaoocaaSameU
set_option maxRecDepth 4000
namespace Go.Proofs.Ytihfkjodjaoocaa
open Go.RowKit Mem
set_option linter.unusedSimpArgs false
set_option linter.unusedVariables false
attribute [local irreducible] Go.Calls

theorem ShwAt.keep {w w' : World} {b : Nat} {W R : Nat → Prop} {F : Int → List Ent} (h : ShwAt w b W R F) (k : Below w.heap.size w w') : ShwAt w' b W R F := h.turned (S := fun _ => False) (Turned.of_below k) (fun _ _ h => h)
/-- the document's All -/
theorem rshall_any (b : Nat) (W R : Nat → Prop) (L : List Ent) (w : World) (h : RfAt w b W R L) (hok : ∀ y ∈ L, okE y) (hn : L.length ≤ 1000000) :
    Calls Try.prog 17 #[.pointer (some ⟨b, 0, none⟩)] w fun e w' => ∃ v, e = .returned v ∧ EntsIn (fun j => w.heap.size ≤ j) w' v (scanL 4294967295 4294967295 L) ∧ Below w.heap.size w w' := by
  have H := Lib.hid h
  have HO := Lib.hid hok
  clear h hok
  go_enter Try.func17, Try.ntmps17
  go_wp2_with fail
  refine (rshscan_any b W R L 4294967295 4294967295 (by omega) (by omega) w H.out (fun y hy => (HO.out y hy).1) (fun y hy => (HO.out y hy).2) hn).mono ?_
  rintro e w2 ⟨v, rfl, hv, hk⟩
  have HV := Lib.hid hv.ents
  have HK := Lib.hid hk
  obtain ⟨a, g, off, c, rfl, _⟩ := hv.ents.at
  clear hv hk
  go_wp2_with fail
  go_ret
  exact ⟨_, rfl, HV.out, HK.out⟩
def a1e : Ent := (1, (1, 1, []), false)
theorem ok1e : okE a1e := ⟨⟨by simp [a1e], by simp [a1e], by simp [a1e], by simp [a1e]⟩, by simp [a1e]⟩
set_option maxHeartbeats 2000000 in
theorem shwawake_any (w : World) : Calls Try.prog 7 #[] w fun e w' => e = .returned (.bool true) ∧ Below w.heap.size w w' := by
  go_enter Try.func7, Try.ntmps7
  go_wp2_with fail
  refine (shwnew_any w).mono ?_
  rintro e w1 ⟨b, W, R, rfl, hp, hr, hk⟩
  have HP := Lib.hid hp
  have HR := Lib.hid hr
  have HK := Lib.hid hk
  clear hp hr hk
  go_wp2_with fail
  refine (shwput_any b W R (fun _ => []) 5 a1e (.slice none 0 0) w1 HP.out (by omega) (Rd.nil _ _ (Nat.zero_le _)) ok1e).mono ?_
  have e1 : putL [] a1e = ([a1e], true, 0) := by rfl
  rw [e1]
  clear e1
  rintro e w2 ⟨⟨r, rfl, hr0⟩, W2, R2, hp, ht, _, _⟩
  obtain rfl := hr0 rfl
  have HP2 := Lib.hid hp
  have HK2 := Lib.hid (HK.out.trans (Turned.below ht HK.out.size (fun j hj => HR.out j (HP.out.sub hj))))
  clear hp ht HP HR HK
  go_wp2_with fail
  refine (shwowners_any b W2 R2 _ [5] w2 HP2.out (fun o ho => if e : o = 5 then (by simp [e]) else absurd (updF_ne e) ho) (by decide)).mono ?_
  rintro e w3 ⟨os, v, rfl, hv, hs, hm, hk⟩
  have hos : os = [5] := by
    have := owners_one hs hm (p := 5) (by omega) (fun o ho => updF_ne ho)
    rw [updF_at, if_neg (by simp)] at this
    exact this
  subst hos
  have HV := Lib.hid hv
  have HP3 := Lib.hid (HP2.out.keep hk)
  have HK3 := Lib.hid (nest HK2.out hk)
  obtain ⟨av, cv, rfl, _, _⟩ := hv.form
  clear hv hs hm hk HP2 HK2
  have hX := more (Below.refl w3.heap.size w3) (.cells #[.int .u32 5] 22)
  have HX := Lib.hid (Row.lit (E := intE .u32) (T := 22) 0 w3 #[.int .u32 5] [5] 1 w3.heap.size rfl rfl rfl (Nat.zero_le _) (by simp [maxLen])).rd
  have HV4 := Lib.hid (HV.out.keep hX)
  have HP4 := Lib.hid (HP3.out.keep hX)
  have HK4 := Lib.hid (nest HK3.out hX)
  clear hX HV HP3 HK3
  go_wp2_with fail
  refine (plainU_yes _ _ [5] _ HV4.out HX.out).mono ?_
  rintro e w5 ⟨rfl, hk⟩
  have HP5 := Lib.hid (HP4.out.keep hk)
  have HK5 := Lib.hid (nest HK4.out hk)
  clear hk HV4 HX HP4 HK4
  go_wp2_with fail
  refine (shwof_any b W2 R2 _ 5 w5 HP5.out (by omega)).mono ?_
  rw [updF_at]
  have e2 : (scanL 4294967295 4294967295 [a1e]).length = 1 := (scanL_whole 4294967295 [a1e]).length_eq
  rintro e w6 ⟨v6, rfl, hv, hk⟩
  have HK6 := Lib.hid (nest HK5.out hk)
  obtain ⟨a6, g6, o6, c6, rfl, _⟩ := hv.at
  rw [e2]
  clear hv hk e2
  go_wp2_with fail
  go_ret
  exact ⟨rfl, HK6.out⟩
/-- a shadow, and 1 of the document's shelves beside it: made behind B, none writes what another one reads -/
def Du (B : Nat) (z : World) (s x : Nat) (F : Int → List Ent) (Lx : List Ent) : Prop := ∃ W R W1 R1, ShwAt z s W R F ∧ RfAt z x W1 R1 Lx ∧ Apt W R W1 R1 ∧ ∀ j, R j ∨ R1 j → B ≤ j
theorem Du.keep {B : Nat} {z z' : World} {s x : Nat} {F : Int → List Ent} {Lx : List Ent} (h : Du B z s x F Lx) (k : Below z.heap.size z z') : Du B z' s x F Lx := by
  obtain ⟨W, R, W1, R1, h1, g1, p1, hb⟩ := h
  exact ⟨W, R, W1, R1, h1.keep k, g1.keep k, p1, hb⟩
theorem Du.facts {B : Nat} {z : World} {s x : Nat} {F : Int → List Ent} {Lx : List Ent} (h : Du B z s x F Lx) (o : Int) : UniqK (F o) ∧ (∀ y ∈ F o, okE y) ∧ (F o).length ≤ 10000 := by
  obtain ⟨W, R, W1, R1, h1, g1, p1, hb⟩ := h
  exact h1.facts o
theorem Du.step0 {B : Nat} {z z' : World} {s x : Nat} {F : Int → List Ent} {Lx : List Ent} {F' : Int → List Ent} {W R W1 R1 : Nat → Prop} (h1 : ShwAt z s W R F) (g1 : RfAt z x W1 R1 Lx) (p1 : Apt W R W1 R1) (hb : ∀ j, R j ∨ R1 j → B ≤ j) (hB : B ≤ z.heap.size) (k : WStep W R z z' s F') : Du B z' s x F' Lx ∧ Below B z z' := by
  obtain ⟨W', R', k1, k2, k3, k4⟩ := k
  refine ⟨⟨W', R', W1, R1, k1, g1.turned k2 (p1).2, ((p1).step k3 k4 (fun j hj => g1.lt (g1.sub hj)) (fun j hj => g1.lt hj)), fun j hj => ?_⟩, k2.below hB (fun j hj => hb j (.inl (h1.sub hj)))⟩
  rcases hj with hj | hj
  · rcases k4 j hj with h | h
    · exact hb j (.inl h)
    · omega
  · exact hb j (.inr hj)
theorem Du.step1 {B : Nat} {z z' : World} {s x : Nat} {F : Int → List Ent} {Lx : List Ent} {L' : List Ent} {W R W1 R1 : Nat → Prop} (h1 : ShwAt z s W R F) (g1 : RfAt z x W1 R1 Lx) (p1 : Apt W R W1 R1) (hb : ∀ j, R j ∨ R1 j → B ≤ j) (hB : B ≤ z.heap.size) (k : RStep W1 R1 z z' x L') : Du B z' s x F L' ∧ Below B z z' := by
  obtain ⟨W', R', k1, k2, k3, k4⟩ := k
  refine ⟨⟨W, R, W', R', h1.turned k2 (p1.symm).2, k1, ((p1.symm).step k3 k4 (fun j hj => h1.lt (h1.sub hj)) (fun j hj => h1.lt hj)).symm, fun j hj => ?_⟩, k2.below hB (fun j hj => hb j (.inr (g1.sub hj)))⟩
  rcases hj with hj | hj
  · exact hb j (.inl hj)
  · rcases k4 j hj with h | h
    · exact hb j (.inr h)
    · omega
/-- a shadow, and 2 of the document's shelves beside it: made behind B, none writes what another one reads -/
def Tr (B : Nat) (z : World) (s x y : Nat) (F : Int → List Ent) (Lx Ly : List Ent) : Prop := ∃ W R W1 R1 W2 R2, ShwAt z s W R F ∧ RfAt z x W1 R1 Lx ∧ RfAt z y W2 R2 Ly ∧ Apt W R W1 R1 ∧ Apt W R W2 R2 ∧ Apt W1 R1 W2 R2 ∧ ∀ j, R j ∨ R1 j ∨ R2 j → B ≤ j
theorem Tr.keep {B : Nat} {z z' : World} {s x y : Nat} {F : Int → List Ent} {Lx Ly : List Ent} (h : Tr B z s x y F Lx Ly) (k : Below z.heap.size z z') : Tr B z' s x y F Lx Ly := by
  obtain ⟨W, R, W1, R1, W2, R2, h1, g1, g2, p1, p2, p3, hb⟩ := h
  exact ⟨W, R, W1, R1, W2, R2, h1.keep k, g1.keep k, g2.keep k, p1, p2, p3, hb⟩
theorem Tr.facts {B : Nat} {z : World} {s x y : Nat} {F : Int → List Ent} {Lx Ly : List Ent} (h : Tr B z s x y F Lx Ly) (o : Int) : UniqK (F o) ∧ (∀ y ∈ F o, okE y) ∧ (F o).length ≤ 10000 := by
  obtain ⟨W, R, W1, R1, W2, R2, h1, g1, g2, p1, p2, p3, hb⟩ := h
  exact h1.facts o
theorem Tr.step0 {B : Nat} {z z' : World} {s x y : Nat} {F : Int → List Ent} {Lx Ly : List Ent} {F' : Int → List Ent} {W R W1 R1 W2 R2 : Nat → Prop} (h1 : ShwAt z s W R F) (g1 : RfAt z x W1 R1 Lx) (g2 : RfAt z y W2 R2 Ly) (p1 : Apt W R W1 R1) (p2 : Apt W R W2 R2) (p3 : Apt W1 R1 W2 R2) (hb : ∀ j, R j ∨ R1 j ∨ R2 j → B ≤ j) (hB : B ≤ z.heap.size) (k : WStep W R z z' s F') : Tr B z' s x y F' Lx Ly ∧ Below B z z' := by
  obtain ⟨W', R', k1, k2, k3, k4⟩ := k
  refine ⟨⟨W', R', W1, R1, W2, R2, k1, g1.turned k2 (p1).2, g2.turned k2 (p2).2, ((p1).step k3 k4 (fun j hj => g1.lt (g1.sub hj)) (fun j hj => g1.lt hj)), ((p2).step k3 k4 (fun j hj => g2.lt (g2.sub hj)) (fun j hj => g2.lt hj)), p3, fun j hj => ?_⟩, k2.below hB (fun j hj => hb j (.inl (h1.sub hj)))⟩
  rcases hj with hj | hj | hj
  · rcases k4 j hj with h | h
    · exact hb j (.inl h)
    · omega
  · exact hb j (.inr (.inl hj))
  · exact hb j (.inr (.inr hj))
theorem Tr.step1 {B : Nat} {z z' : World} {s x y : Nat} {F : Int → List Ent} {Lx Ly : List Ent} {L' : List Ent} {W R W1 R1 W2 R2 : Nat → Prop} (h1 : ShwAt z s W R F) (g1 : RfAt z x W1 R1 Lx) (g2 : RfAt z y W2 R2 Ly) (p1 : Apt W R W1 R1) (p2 : Apt W R W2 R2) (p3 : Apt W1 R1 W2 R2) (hb : ∀ j, R j ∨ R1 j ∨ R2 j → B ≤ j) (hB : B ≤ z.heap.size) (k : RStep W1 R1 z z' x L') : Tr B z' s x y F L' Ly ∧ Below B z z' := by
  obtain ⟨W', R', k1, k2, k3, k4⟩ := k
  refine ⟨⟨W, R, W', R', W2, R2, h1.turned k2 (p1.symm).2, k1, g2.turned k2 (p3).2, ((p1.symm).step k3 k4 (fun j hj => h1.lt (h1.sub hj)) (fun j hj => h1.lt hj)).symm, p2, ((p3).step k3 k4 (fun j hj => g2.lt (g2.sub hj)) (fun j hj => g2.lt hj)), fun j hj => ?_⟩, k2.below hB (fun j hj => hb j (.inr (.inl (g1.sub hj))))⟩
  rcases hj with hj | hj | hj
  · exact hb j (.inl hj)
  · rcases k4 j hj with h | h
    · exact hb j (.inr (.inl h))
    · omega
  · exact hb j (.inr (.inr hj))
theorem Tr.step2 {B : Nat} {z z' : World} {s x y : Nat} {F : Int → List Ent} {Lx Ly : List Ent} {L' : List Ent} {W R W1 R1 W2 R2 : Nat → Prop} (h1 : ShwAt z s W R F) (g1 : RfAt z x W1 R1 Lx) (g2 : RfAt z y W2 R2 Ly) (p1 : Apt W R W1 R1) (p2 : Apt W R W2 R2) (p3 : Apt W1 R1 W2 R2) (hb : ∀ j, R j ∨ R1 j ∨ R2 j → B ≤ j) (hB : B ≤ z.heap.size) (k : RStep W2 R2 z z' y L') : Tr B z' s x y F Lx L' ∧ Below B z z' := by
  obtain ⟨W', R', k1, k2, k3, k4⟩ := k
  refine ⟨⟨W, R, W1, R1, W', R', h1.turned k2 (p2.symm).2, g1.turned k2 (p3.symm).2, k1, p1, ((p2.symm).step k3 k4 (fun j hj => h1.lt (h1.sub hj)) (fun j hj => h1.lt hj)).symm, ((p3.symm).step k3 k4 (fun j hj => g1.lt (g1.sub hj)) (fun j hj => g1.lt hj)).symm, fun j hj => ?_⟩, k2.below hB (fun j hj => hb j (.inr (.inr (g2.sub hj))))⟩
  rcases hj with hj | hj | hj
  · exact hb j (.inl hj)
  · exact hb j (.inr (.inl hj))
  · rcases k4 j hj with h | h
    · exact hb j (.inr (.inr h))
    · omega
/-- a fresh shelf of the document's -/
theorem rf_fresh (z : World) : RfAt (z.alloc (.cells #[.slice none 0 0] 40)) z.heap.size (fun j => j = z.heap.size) (fun j => j = z.heap.size) [] :=
  ⟨_, Blk.new z _ _, EntsAt.nil _ _ _, rfl, fun g hg => (nomatch hg), fun j h => h, fun j hj => by rw [hj]; exact (Blk.new z 40 #[.slice none 0 0]).lt⟩
theorem du_put (B s x : Nat) (F : Int → List Ent) (Lx : List Ent) (o : Int) (q : Ent) (v : Value) (z : World) (h : Du B z s x F Lx) (hB : B ≤ z.heap.size) (bo : 0 ≤ o ∧ o ≤ 4294967295) (hx : Rd (intE .u32) z v q.2.1.2.2) (hy : okE q) :
    Calls Try.prog 8 #[.pointer (some ⟨s, 0, none⟩), .int .u32 o, .agg (ecl q v).toArray] z fun e z' => PutAns e (F o = []) ∧ Du B z' s x (updF F o (putL (F o) q).1) Lx ∧ Below B z z' := by
  obtain ⟨W, R, W1, R1, h1, g1, p1, hb⟩ := h
  exact (shwput_any s W R F o q v z h1 bo hx hy).mono fun e z' ⟨he, k⟩ => ⟨he, Du.step0 h1 g1 p1 hb hB k⟩
theorem du_set (B s x : Nat) (F : Int → List Ent) (Lx : List Ent) (o : Int) (Q : Nat → Prop) (l : List Ent) (v : Value) (z : World) (h : Du B z s x F Lx) (hB : B ≤ z.heap.size) (bo : 0 ≤ o ∧ o ≤ 4294967295) (hv : EntsIn Q z v l) (hQ : ∀ j, Q j → j < B) (hl : ∀ y ∈ l, okE y) (hn : l.length ≤ 1000000) :
    Calls Try.prog 6 #[.pointer (some ⟨s, 0, none⟩), .int .u32 o, v] z fun e z' => (∃ u, e = .returned u) ∧ Du B z' s x (updF F o (joinL [] l).1) Lx ∧ Below B z z' := by
  obtain ⟨W, R, W1, R1, h1, g1, p1, hb⟩ := h
  exact (shwset_any s W R Q F o l v z h1 bo hv (fun j hj hw => by have := hQ j hj; have := hb j (.inl (h1.sub hw)); omega) hl hn).mono fun e z' ⟨he, k⟩ => ⟨he, Du.step0 h1 g1 p1 hb hB k⟩
theorem du_drop (B s x : Nat) (F : Int → List Ent) (Lx : List Ent) (o : Int) (z : World) (h : Du B z s x F Lx) (hB : B ≤ z.heap.size) (bo : 0 ≤ o ∧ o ≤ 4294967295) :
    Calls Try.prog 10 #[.pointer (some ⟨s, 0, none⟩), .int .u32 o] z fun e z' => e = .returned (.int .i64 ((F o).length : Int)) ∧ Du B z' s x (updF F o []) Lx ∧ Below B z z' := by
  obtain ⟨W, R, W1, R1, h1, g1, p1, hb⟩ := h
  exact (shwdrop_any s W R F o z h1 bo).mono fun e z' ⟨he, k⟩ => ⟨he, Du.step0 h1 g1 p1 hb hB k⟩
theorem du_of (B s x : Nat) (F : Int → List Ent) (Lx : List Ent) (o : Int) (z : World) (h : Du B z s x F Lx) (bo : 0 ≤ o ∧ o ≤ 4294967295) :
    Calls Try.prog 9 #[.pointer (some ⟨s, 0, none⟩), .int .u32 o] z fun e z' => ∃ v, e = .returned v ∧ EntsIn (fun _ => True) z' v (scanL 4294967295 4294967295 (F o)) ∧ Below z.heap.size z z' := by
  obtain ⟨W, R, W1, R1, h1, g1, p1, hb⟩ := h
  exact (shwof_any s W R F o z h1 bo).mono fun e z' ⟨v, he, hv, hk⟩ => ⟨v, he, hv.mono (fun _ _ _ => trivial), hk⟩
theorem du_owners (B s x : Nat) (F : Int → List Ent) (Lx : List Ent) (p : Int) (z : World) (h : Du B z s x F Lx) (hF : ∀ o, o ≠ p → F o = []) :
    Calls Try.prog 11 #[.pointer (some ⟨s, 0, none⟩)] z fun e z' => ∃ os v, e = .returned v ∧ Rd (intE .u32) z' v os ∧ os.Pairwise (· < ·) ∧ (∀ o, o ∈ os ↔ (0 ≤ o ∧ o ≤ 4294967295) ∧ F o ≠ []) ∧ Below z.heap.size z z' := by
  obtain ⟨W, R, W1, R1, h1, g1, p1, hb⟩ := h
  exact shwowners_any s W R F [p] z h1 (fun o ho => if e : o = p then (by simp [e]) else absurd (hF o e) ho) (by simp)
theorem du_rput1 (B s x : Nat) (F : Int → List Ent) (Lx : List Ent) (q : Ent) (v : Value) (z : World) (h : Du B z s x F Lx) (hB : B ≤ z.heap.size) (hx : Rd (intE .u32) z v q.2.1.2.2) (hy : okE q) (hok : ∀ y ∈ Lx, okE y) (hn : Lx.length ≤ 1000000) :
    Calls Try.prog 14 #[.pointer (some ⟨x, 0, none⟩), .agg (ecl q v).toArray] z fun e z' => e = .returned (.tuple #[.bool (putL Lx q).2.1, .int .i64 (putL Lx q).2.2]) ∧ Du B z' s x F (putL Lx q).1 ∧ Below B z z' := by
  obtain ⟨W, R, W1, R1, h1, g1, p1, hb⟩ := h
  exact (rshput_any x W1 R1 Lx q v z g1 hx hy.2 hy.1 (fun y hy => (hok y hy).1) hn).mono fun e z' ⟨he, k⟩ => ⟨he, Du.step1 h1 g1 p1 hb hB k⟩
theorem du_rjoin1 (B s x : Nat) (F : Int → List Ent) (Lx : List Ent) (Q : Nat → Prop) (l : List Ent) (v : Value) (z : World) (h : Du B z s x F Lx) (hB : B ≤ z.heap.size) (hv : EntsIn Q z v l) (hQ : ∀ j, Q j → j < B) (hl : ∀ y ∈ l, okE y) (hok : ∀ y ∈ Lx, okE y) (hn : Lx.length + l.length ≤ 1000000) :
    Calls Try.prog 15 #[.pointer (some ⟨x, 0, none⟩), v] z fun e z' => e = .returned (.int .i64 (joinL Lx l).2) ∧ Du B z' s x F (joinL Lx l).1 ∧ Below B z z' := by
  obtain ⟨W, R, W1, R1, h1, g1, p1, hb⟩ := h
  exact (rshjoin_any x W1 R1 Q Lx l v z g1 hv (fun j hj hw => by have := hQ j hj; have := hb j (.inr (g1.sub hw)); omega) (fun y hy => (hok y hy).1) (fun y hy => (hl y hy).1) (fun y hy => (hl y hy).2) hn).mono fun e z' ⟨he, k⟩ => ⟨he, Du.step1 h1 g1 p1 hb hB k⟩
theorem du_rall1 (B s x : Nat) (F : Int → List Ent) (Lx : List Ent) (z : World) (h : Du B z s x F Lx) (hok : ∀ y ∈ Lx, okE y) (hn : Lx.length ≤ 1000000) :
    Calls Try.prog 17 #[.pointer (some ⟨x, 0, none⟩)] z fun e z' => ∃ v, e = .returned v ∧ EntsIn (fun _ => True) z' v (scanL 4294967295 4294967295 Lx) ∧ Below z.heap.size z z' := by
  obtain ⟨W, R, W1, R1, h1, g1, p1, hb⟩ := h
  exact (rshall_any x W1 R1 Lx z g1 hok hn).mono fun e z' ⟨v, he, hv, hk⟩ => ⟨v, he, hv.mono (fun _ _ _ => trivial), hk⟩
theorem Du.head1 {B s x : Nat} {F : Int → List Ent} {Lx : List Ent} {z : World} (h : Du B z s x F Lx) : ∃ a c, z.cell? ⟨x, 0, none⟩ = some (.slice a Lx.length c) ∧ Lx.length ≤ c ∧ c ≤ maxLen := by
  obtain ⟨W, R, W1, R1, h1, g1, p1, hb⟩ := h
  obtain ⟨a, g, off, c, q1, q2, q3, _⟩ := g1.at
  exact ⟨a, c, q1, q2, q3⟩
theorem tr_put (B s x y : Nat) (F : Int → List Ent) (Lx Ly : List Ent) (o : Int) (q : Ent) (v : Value) (z : World) (h : Tr B z s x y F Lx Ly) (hB : B ≤ z.heap.size) (bo : 0 ≤ o ∧ o ≤ 4294967295) (hx : Rd (intE .u32) z v q.2.1.2.2) (hy : okE q) :
    Calls Try.prog 8 #[.pointer (some ⟨s, 0, none⟩), .int .u32 o, .agg (ecl q v).toArray] z fun e z' => PutAns e (F o = []) ∧ Tr B z' s x y (updF F o (putL (F o) q).1) Lx Ly ∧ Below B z z' := by
  obtain ⟨W, R, W1, R1, W2, R2, h1, g1, g2, p1, p2, p3, hb⟩ := h
  exact (shwput_any s W R F o q v z h1 bo hx hy).mono fun e z' ⟨he, k⟩ => ⟨he, Tr.step0 h1 g1 g2 p1 p2 p3 hb hB k⟩
theorem tr_set (B s x y : Nat) (F : Int → List Ent) (Lx Ly : List Ent) (o : Int) (Q : Nat → Prop) (l : List Ent) (v : Value) (z : World) (h : Tr B z s x y F Lx Ly) (hB : B ≤ z.heap.size) (bo : 0 ≤ o ∧ o ≤ 4294967295) (hv : EntsIn Q z v l) (hQ : ∀ j, Q j → j < B) (hl : ∀ y ∈ l, okE y) (hn : l.length ≤ 1000000) :
    Calls Try.prog 6 #[.pointer (some ⟨s, 0, none⟩), .int .u32 o, v] z fun e z' => (∃ u, e = .returned u) ∧ Tr B z' s x y (updF F o (joinL [] l).1) Lx Ly ∧ Below B z z' := by
  obtain ⟨W, R, W1, R1, W2, R2, h1, g1, g2, p1, p2, p3, hb⟩ := h
  exact (shwset_any s W R Q F o l v z h1 bo hv (fun j hj hw => by have := hQ j hj; have := hb j (.inl (h1.sub hw)); omega) hl hn).mono fun e z' ⟨he, k⟩ => ⟨he, Tr.step0 h1 g1 g2 p1 p2 p3 hb hB k⟩
theorem tr_drop (B s x y : Nat) (F : Int → List Ent) (Lx Ly : List Ent) (o : Int) (z : World) (h : Tr B z s x y F Lx Ly) (hB : B ≤ z.heap.size) (bo : 0 ≤ o ∧ o ≤ 4294967295) :
    Calls Try.prog 10 #[.pointer (some ⟨s, 0, none⟩), .int .u32 o] z fun e z' => e = .returned (.int .i64 ((F o).length : Int)) ∧ Tr B z' s x y (updF F o []) Lx Ly ∧ Below B z z' := by
  obtain ⟨W, R, W1, R1, W2, R2, h1, g1, g2, p1, p2, p3, hb⟩ := h
  exact (shwdrop_any s W R F o z h1 bo).mono fun e z' ⟨he, k⟩ => ⟨he, Tr.step0 h1 g1 g2 p1 p2 p3 hb hB k⟩
theorem tr_of (B s x y : Nat) (F : Int → List Ent) (Lx Ly : List Ent) (o : Int) (z : World) (h : Tr B z s x y F Lx Ly) (bo : 0 ≤ o ∧ o ≤ 4294967295) :
    Calls Try.prog 9 #[.pointer (some ⟨s, 0, none⟩), .int .u32 o] z fun e z' => ∃ v, e = .returned v ∧ EntsIn (fun _ => True) z' v (scanL 4294967295 4294967295 (F o)) ∧ Below z.heap.size z z' := by
  obtain ⟨W, R, W1, R1, W2, R2, h1, g1, g2, p1, p2, p3, hb⟩ := h
  exact (shwof_any s W R F o z h1 bo).mono fun e z' ⟨v, he, hv, hk⟩ => ⟨v, he, hv.mono (fun _ _ _ => trivial), hk⟩
theorem tr_owners (B s x y : Nat) (F : Int → List Ent) (Lx Ly : List Ent) (p : Int) (z : World) (h : Tr B z s x y F Lx Ly) (hF : ∀ o, o ≠ p → F o = []) :
    Calls Try.prog 11 #[.pointer (some ⟨s, 0, none⟩)] z fun e z' => ∃ os v, e = .returned v ∧ Rd (intE .u32) z' v os ∧ os.Pairwise (· < ·) ∧ (∀ o, o ∈ os ↔ (0 ≤ o ∧ o ≤ 4294967295) ∧ F o ≠ []) ∧ Below z.heap.size z z' := by
  obtain ⟨W, R, W1, R1, W2, R2, h1, g1, g2, p1, p2, p3, hb⟩ := h
  exact shwowners_any s W R F [p] z h1 (fun o ho => if e : o = p then (by simp [e]) else absurd (hF o e) ho) (by simp)
theorem tr_rput1 (B s x y : Nat) (F : Int → List Ent) (Lx Ly : List Ent) (q : Ent) (v : Value) (z : World) (h : Tr B z s x y F Lx Ly) (hB : B ≤ z.heap.size) (hx : Rd (intE .u32) z v q.2.1.2.2) (hy : okE q) (hok : ∀ y ∈ Lx, okE y) (hn : Lx.length ≤ 1000000) :
    Calls Try.prog 14 #[.pointer (some ⟨x, 0, none⟩), .agg (ecl q v).toArray] z fun e z' => e = .returned (.tuple #[.bool (putL Lx q).2.1, .int .i64 (putL Lx q).2.2]) ∧ Tr B z' s x y F (putL Lx q).1 Ly ∧ Below B z z' := by
  obtain ⟨W, R, W1, R1, W2, R2, h1, g1, g2, p1, p2, p3, hb⟩ := h
  exact (rshput_any x W1 R1 Lx q v z g1 hx hy.2 hy.1 (fun y hy => (hok y hy).1) hn).mono fun e z' ⟨he, k⟩ => ⟨he, Tr.step1 h1 g1 g2 p1 p2 p3 hb hB k⟩
theorem tr_rjoin1 (B s x y : Nat) (F : Int → List Ent) (Lx Ly : List Ent) (Q : Nat → Prop) (l : List Ent) (v : Value) (z : World) (h : Tr B z s x y F Lx Ly) (hB : B ≤ z.heap.size) (hv : EntsIn Q z v l) (hQ : ∀ j, Q j → j < B) (hl : ∀ y ∈ l, okE y) (hok : ∀ y ∈ Lx, okE y) (hn : Lx.length + l.length ≤ 1000000) :
    Calls Try.prog 15 #[.pointer (some ⟨x, 0, none⟩), v] z fun e z' => e = .returned (.int .i64 (joinL Lx l).2) ∧ Tr B z' s x y F (joinL Lx l).1 Ly ∧ Below B z z' := by
  obtain ⟨W, R, W1, R1, W2, R2, h1, g1, g2, p1, p2, p3, hb⟩ := h
  exact (rshjoin_any x W1 R1 Q Lx l v z g1 hv (fun j hj hw => by have := hQ j hj; have := hb j (.inr (.inl (g1.sub hw))); omega) (fun y hy => (hok y hy).1) (fun y hy => (hl y hy).1) (fun y hy => (hl y hy).2) hn).mono fun e z' ⟨he, k⟩ => ⟨he, Tr.step1 h1 g1 g2 p1 p2 p3 hb hB k⟩
theorem tr_rall1 (B s x y : Nat) (F : Int → List Ent) (Lx Ly : List Ent) (z : World) (h : Tr B z s x y F Lx Ly) (hok : ∀ y ∈ Lx, okE y) (hn : Lx.length ≤ 1000000) :
    Calls Try.prog 17 #[.pointer (some ⟨x, 0, none⟩)] z fun e z' => ∃ v, e = .returned v ∧ EntsIn (fun _ => True) z' v (scanL 4294967295 4294967295 Lx) ∧ Below z.heap.size z z' := by
  obtain ⟨W, R, W1, R1, W2, R2, h1, g1, g2, p1, p2, p3, hb⟩ := h
  exact (rshall_any x W1 R1 Lx z g1 hok hn).mono fun e z' ⟨v, he, hv, hk⟩ => ⟨v, he, hv.mono (fun _ _ _ => trivial), hk⟩
theorem Tr.head1 {B s x y : Nat} {F : Int → List Ent} {Lx Ly : List Ent} {z : World} (h : Tr B z s x y F Lx Ly) : ∃ a c, z.cell? ⟨x, 0, none⟩ = some (.slice a Lx.length c) ∧ Lx.length ≤ c ∧ c ≤ maxLen := by
  obtain ⟨W, R, W1, R1, W2, R2, h1, g1, g2, p1, p2, p3, hb⟩ := h
  obtain ⟨a, g, off, c, q1, q2, q3, _⟩ := g1.at
  exact ⟨a, c, q1, q2, q3⟩
theorem tr_rput2 (B s x y : Nat) (F : Int → List Ent) (Lx Ly : List Ent) (q : Ent) (v : Value) (z : World) (h : Tr B z s x y F Lx Ly) (hB : B ≤ z.heap.size) (hx : Rd (intE .u32) z v q.2.1.2.2) (hy : okE q) (hok : ∀ y ∈ Ly, okE y) (hn : Ly.length ≤ 1000000) :
    Calls Try.prog 14 #[.pointer (some ⟨y, 0, none⟩), .agg (ecl q v).toArray] z fun e z' => e = .returned (.tuple #[.bool (putL Ly q).2.1, .int .i64 (putL Ly q).2.2]) ∧ Tr B z' s x y F Lx (putL Ly q).1 ∧ Below B z z' := by
  obtain ⟨W, R, W1, R1, W2, R2, h1, g1, g2, p1, p2, p3, hb⟩ := h
  exact (rshput_any y W2 R2 Ly q v z g2 hx hy.2 hy.1 (fun y hy => (hok y hy).1) hn).mono fun e z' ⟨he, k⟩ => ⟨he, Tr.step2 h1 g1 g2 p1 p2 p3 hb hB k⟩
theorem tr_rjoin2 (B s x y : Nat) (F : Int → List Ent) (Lx Ly : List Ent) (Q : Nat → Prop) (l : List Ent) (v : Value) (z : World) (h : Tr B z s x y F Lx Ly) (hB : B ≤ z.heap.size) (hv : EntsIn Q z v l) (hQ : ∀ j, Q j → j < B) (hl : ∀ y ∈ l, okE y) (hok : ∀ y ∈ Ly, okE y) (hn : Ly.length + l.length ≤ 1000000) :
    Calls Try.prog 15 #[.pointer (some ⟨y, 0, none⟩), v] z fun e z' => e = .returned (.int .i64 (joinL Ly l).2) ∧ Tr B z' s x y F Lx (joinL Ly l).1 ∧ Below B z z' := by
  obtain ⟨W, R, W1, R1, W2, R2, h1, g1, g2, p1, p2, p3, hb⟩ := h
  exact (rshjoin_any y W2 R2 Q Ly l v z g2 hv (fun j hj hw => by have := hQ j hj; have := hb j (.inr (.inr (g2.sub hw))); omega) (fun y hy => (hok y hy).1) (fun y hy => (hl y hy).1) (fun y hy => (hl y hy).2) hn).mono fun e z' ⟨he, k⟩ => ⟨he, Tr.step2 h1 g1 g2 p1 p2 p3 hb hB k⟩
theorem tr_rall2 (B s x y : Nat) (F : Int → List Ent) (Lx Ly : List Ent) (z : World) (h : Tr B z s x y F Lx Ly) (hok : ∀ y ∈ Ly, okE y) (hn : Ly.length ≤ 1000000) :
    Calls Try.prog 17 #[.pointer (some ⟨y, 0, none⟩)] z fun e z' => ∃ v, e = .returned v ∧ EntsIn (fun _ => True) z' v (scanL 4294967295 4294967295 Ly) ∧ Below z.heap.size z z' := by
  obtain ⟨W, R, W1, R1, W2, R2, h1, g1, g2, p1, p2, p3, hb⟩ := h
  exact (rshall_any y W2 R2 Ly z g2 hok hn).mono fun e z' ⟨v, he, hv, hk⟩ => ⟨v, he, hv.mono (fun _ _ _ => trivial), hk⟩
theorem Tr.head2 {B s x y : Nat} {F : Int → List Ent} {Lx Ly : List Ent} {z : World} (h : Tr B z s x y F Lx Ly) : ∃ a c, z.cell? ⟨y, 0, none⟩ = some (.slice a Ly.length c) ∧ Ly.length ≤ c ∧ c ≤ maxLen := by
  obtain ⟨W, R, W1, R1, W2, R2, h1, g1, g2, p1, p2, p3, hb⟩ := h
  obtain ⟨a, g, off, c, q1, q2, q3, _⟩ := g2.at
  exact ⟨a, c, q1, q2, q3⟩
end Go.Proofs.Ytihfkjodjaoocaa
