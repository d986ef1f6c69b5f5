/- Walk of the law ShelfOrder. -/
import Derived.Test.YtmcnfndebmcapaaShAwake
set_option maxRecDepth 4000
namespace Go.Proofs.Ytmcnfndebmcapaa.shelfOrder
open Go.RowKit Mem
set_option linter.unusedSimpArgs false
set_option linter.unusedVariables false
attribute [local irreducible] Go.Calls

/-- alike in key, version, gone -/
def eqQ (x y : Ent) : Bool := x.1 == y.1 && x.2.1.1 == y.2.1.1 && x.2.1.2.1 == y.2.1.2.1 && x.2.2 == y.2.2
theorem eqQ_iff (x y : Ent) : eqQ x y = true ↔ keyP x = keyP y ∧ x.2.1.2.1 = y.2.1.2.1 ∧ x.2.2 = y.2.2 := by
  simp [eqQ, keyP]
  constructor
  · rintro ⟨⟨⟨h1, h2⟩, h3⟩, h4⟩; exact ⟨⟨h1, h2⟩, h3, h4⟩
  · rintro ⟨⟨h1, h2⟩, h3, h4⟩; exact ⟨⟨⟨h1, h2⟩, h3⟩, h4⟩
def anyQ (S : List Ent) (y : Ent) : Bool := S.any fun x => eqQ x y
/-- the first j, without those that came already -/
def someL (l : List Ent) : Nat → List Ent
  | 0 => []
  | j + 1 => if anyQ (someL l j) (l.getD j e0) then someL l j else someL l j ++ [l.getD j e0]
theorem someL_sub (l : List Ent) : ∀ j, j ≤ l.length → (someL l j).length ≤ j ∧ (∀ y ∈ someL l j, y ∈ l) ∧ (someL l j).Pairwise fun x y => eqQ x y = false := by
  intro j
  induction j with
  | zero => intro _; exact ⟨Nat.le_refl _, fun y hy => (nomatch hy), List.Pairwise.nil⟩
  | succ j ih =>
    intro hj
    obtain ⟨h1, h2, h3⟩ := ih (by omega)
    have hm : l.getD j e0 ∈ l := by rw [show l.getD j e0 = l[j] by simp [List.getD, show j < l.length by omega]]; exact List.getElem_mem _
    unfold someL
    cases ha : anyQ (someL l j) (l.getD j e0) with
    | true => rw [if_pos rfl]; exact ⟨by omega, h2, h3⟩
    | false =>
      rw [if_neg (by decide)]
      refine ⟨by simp; omega, fun y hy => ?_, ?_⟩
      · rcases List.mem_append.1 hy with hy | hy
        · exact h2 y hy
        · simp at hy; rw [hy]; exact hm
      · rw [List.pairwise_append]
        refine ⟨h3, List.pairwise_singleton _ _, fun x hx y hy => ?_⟩
        simp at hy
        subst hy
        unfold anyQ at ha
        rw [List.any_eq_false] at ha
        simpa using ha x hx
theorem someL_apart (l : List Ent) (j : Nat) (hj : j ≤ l.length) : Apart (someL l j) := by
  obtain ⟨_, _, h⟩ := someL_sub l j hj
  intro x hx y hy h1 h2 h3
  obtain ⟨i, hi, rfl⟩ := List.getElem_of_mem hx
  obtain ⟨k, hk, rfl⟩ := List.getElem_of_mem hy
  rcases Nat.lt_trichotomy i k with h4 | h4 | h4
  · have := List.pairwise_iff_getElem.1 h i k hi hk h4
    rw [(eqQ_iff _ _).2 ⟨h1, h2, h3⟩] at this
    cases this
  · subst h4; rfl
  · have := List.pairwise_iff_getElem.1 h k i hk hi h4
    rw [(eqQ_iff _ _).2 ⟨h1.symm, h2.symm, h3.symm⟩] at this
    cases this
theorem u64_bd (x : Int) : 0 ≤ IntKind.u64.wrap x ∧ IntKind.u64.wrap x ≤ 18446744073709551615 := by
  have h : IntKind.u64.wrap x = x % 18446744073709551616 := rfl
  omega
theorem anyQ_step (S : List Ent) (y : Ent) (k : Nat) (hk : k < S.length) : anyQ (S.take (k + 1)) y = (anyQ (S.take k) y || eqQ (S.getD k e0) y) := by
  unfold anyQ
  rw [List.take_add_one, List.any_append, List.getElem?_eq_getElem hk, show S.getD k e0 = S[k] by simp [List.getD, hk]]
  simp
theorem PW.set {α β : Type} {P : α → β → Prop} {hs : List α} {M : List β} (h : PW P hs M) (k : Nat) {x : α} {y : β} (hxy : P x y) : PW P (hs.set k x) (M.set k y) := by
  refine ⟨by simp [h.1], fun i x' y' hx hy => ?_⟩
  by_cases hik : i = k
  · subst hik
    have hi : i < hs.length := by
      have := (List.getElem?_eq_some_iff.1 hx).1
      simpa using this
    rw [List.getElem?_set_self hi] at hx
    rw [List.getElem?_set_self (by rw [← h.1]; exact hi)] at hy
    injection hx with hx
    injection hy with hy
    subst hx hy
    exact hxy
  · rw [List.getElem?_set_ne (fun e => hik e.symm)] at hx hy
    exact h.2 i x' y' hx hy
theorem swap_perm (M : List Ent) (p k : Nat) (hp : p < M.length) (hk : k < M.length) : ((M.set p (M.getD k e0)).set k (M.getD p e0)).Perm M := by
  rw [show M.getD k e0 = M[k] by simp [List.getD, hk], show M.getD p e0 = M[p] by simp [List.getD, hp]]
  exact List.set_set_perm hp hk

/-- two shelves that leave each other be, made behind B -/
def Two (B : Nat) (w : World) (a b : Nat) (La Lb : List Ent) : Prop := ∃ Wa Ra Wb Rb, ShAt w a Wa Ra La ∧ ShAt w b Wb Rb Lb ∧ (∀ j, Ra j → ¬ Wb j) ∧ (∀ j, Rb j → ¬ Wa j) ∧ ∀ j, Ra j ∨ Rb j → B ≤ j
theorem Two.keep {B : Nat} {w w' : World} {a b : Nat} {La Lb : List Ent} (h : Two B w a b La Lb) (k : Below w.heap.size w w') : Two B w' a b La Lb := by
  obtain ⟨Wa, Ra, Wb, Rb, h1, h2, h3, h4, h5⟩ := h
  exact ⟨Wa, Ra, Wb, Rb, h1.keep k, h2.keep k, h3, h4, h5⟩
theorem Two.swap {B : Nat} {w : World} {a b : Nat} {La Lb : List Ent} (h : Two B w a b La Lb) : Two B w b a Lb La := by
  obtain ⟨Wa, Ra, Wb, Rb, h1, h2, h3, h4, h5⟩ := h
  exact ⟨Wb, Rb, Wa, Ra, h2, h1, h4, h3, fun j hj => h5 j hj.symm⟩
theorem two_new {B : Nat} {w w' : World} {a b : Nat} {Wa Ra Wb Rb : Nat → Prop} {La : List Ent} (h : ShAt w a Wa Ra La) (k : Below w.heap.size w w') (h' : ShAt w' b Wb Rb []) (hr : ∀ j, Rb j → w.heap.size ≤ j) (ha : ∀ j, Ra j → B ≤ j) (hB : B ≤ w.heap.size) : Two B w' a b La [] := by
  refine ⟨Wa, Ra, Wb, Rb, h.keep k, h', fun j hj hw => ?_, fun j hj hw => ?_, fun j hj => ?_⟩
  · have := h.lt hj; have := hr j (h'.sub hw); omega
  · have := h.lt (h.sub hw); have := hr j hj; omega
  · rcases hj with hj | hj
    · exact ha j hj
    · have := hr j hj; omega
theorem two_join (B a b : Nat) (Q : Nat → Prop) (La Lb l : List Ent) (v : Value) (w : World) (h : Two B w a b La Lb) (hB : B ≤ w.heap.size) (hv : EntsIn Q w v l) (hQ : ∀ j, Q j → j < B) (hl : ∀ y ∈ l, okE y) (hn : l.length ≤ 1000000) :
    Calls Try.prog 15 #[.pointer (some ⟨a, 0, none⟩), v] w fun e w' => e = .returned (.int .i64 (joinL La l).2) ∧ Two B w' a b (joinL La l).1 Lb ∧ Below B w w' := by
  obtain ⟨Wa, Ra, Wb, Rb, h1, h2, h3, h4, h5⟩ := h
  refine (shjoin_any a Wa Ra Q La l v w h1 hv (fun j hj hw => by have := hQ j hj; have := h5 j (.inl (h1.sub hw)); omega) hl hn).mono fun e w' ⟨he, W', R', h', t, hw', hr'⟩ => ⟨he, ⟨W', R', Wb, Rb, h', h2.turned t h4, fun j hj hw => ?_, fun j hj hw => ?_, fun j hj => ?_⟩, t.below hB (fun j hj => h5 j (.inl (h1.sub hj)))⟩
  · rcases hr' j hj with h | h
    · exact h3 j h hw
    · have := h2.lt (h2.sub hw); omega
  · rcases hw' j hw with h | h
    · exact h4 j hj h
    · have := h2.lt hj; omega
  · rcases hj with hj | hj
    · rcases hr' j hj with h | h
      · exact h5 j (.inl h)
      · omega
    · exact h5 j (.inr hj)
theorem two_scan (B a b : Nat) (La Lb : List Ent) (f t : Int) (w : World) (h : Two B w a b La Lb) (bf : 0 ≤ f ∧ f ≤ 4294967295) (bt : 0 ≤ t ∧ t ≤ 4294967295) :
    Calls Try.prog 25 #[.pointer (some ⟨a, 0, none⟩), .agg #[.int .u32 f, .int .u32 t]] w fun e w' => ∃ v, e = .returned v ∧ EntsIn (fun _ => True) w' v (scanL f t La) ∧ Below w.heap.size w w' := by
  obtain ⟨Wa, Ra, Wb, Rb, h1, h2, h3, h4, h5⟩ := h
  exact (shscan_any a Wa Ra La f t w h1 bf bt).mono fun e w' ⟨v, he, hv, hk⟩ => ⟨v, he, hv.mono (fun _ _ _ => trivial), hk⟩
theorem two_len (B a b : Nat) (La Lb : List Ent) (w : World) (h : Two B w a b La Lb) : Calls Try.prog 20 #[.pointer (some ⟨a, 0, none⟩)] w fun e w' => e = .returned (.int .i64 La.length) ∧ Below w.heap.size w w' := by
  obtain ⟨Wa, Ra, Wb, Rb, h1, h2, h3, h4, h5⟩ := h
  exact shlen_any a Wa Ra La w h1
theorem Two.uniq {B : Nat} {w : World} {a b : Nat} {La Lb : List Ent} (h : Two B w a b La Lb) : UniqK La ∧ ∀ y ∈ La, okE y := by
  obtain ⟨Wa, Ra, Wb, Rb, h1, h2, h3, h4, h5⟩ := h
  exact ⟨h1.uniq, h1.ok⟩
/-- a list of one's own that reads as entries -/
theorem pw_in {Q : Nat → Prop} {B : Nat} {w0 w : World} {v : Value} {hs : List (Raw 5)} {M : List Ent} (hr : Row (rawE 5) 40 B w v hs) (hp : PW (fun x y => EntIn Q w0 x y) hs M) (k : Below w0.heap.size w0 w) : EntsIn (fun _ => True) w v M :=
  ⟨hs, hp.1, hr.rd, fun _ _ _ => trivial, fun i x y hx hy => ((hp.2 i x y hx hy).turned (S := fun _ => False) (Turned.of_below k) (fun _ _ h => h)).mono (fun _ _ _ => trivial)⟩

/-- one element of a list of one's own: its raw cells, one by one -/
theorem row_cells {T : TypeId} {B : Nat} {Q : Nat → Prop} {w0 w : World} {g n c : Nat} {hs : List (Raw 5)} {M : List Ent} (hr : Row (rawE 5) T B w (.slice (some ⟨g, 0, none⟩) n c) hs) (hp : PW (fun x y => EntIn Q w0 x y) hs M) {i : Nat} (hi : i < M.length) :
    ∃ (x : Raw 5) (a : Option Addr) (d : Nat), hs[i]? = some x ∧ x.1 = ecl (M.getD i e0) (.slice a (M.getD i e0).2.1.2.2.length d) ∧ EntIn Q w0 x (M.getD i e0) ∧ w.cell? ⟨g, i * 5, none⟩ = some (.int .u32 (M.getD i e0).1) ∧ w.cell? ⟨g, i * 5 + 1, none⟩ = some (.int .u64 (M.getD i e0).2.1.1) ∧
      w.cell? ⟨g, i * 5 + 2, none⟩ = some (.int .u64 (M.getD i e0).2.1.2.1) ∧ w.cell? ⟨g, i * 5 + 3, none⟩ = some (.slice a (M.getD i e0).2.1.2.2.length d) ∧ w.cell? ⟨g, i * 5 + 4, none⟩ = some (.bool (M.getD i e0).2.2) := by
  have hi2 : i < hs.length := by rw [hp.1]; exact hi
  obtain ⟨a', c', hv, _, _, hc⟩ := hr.rd
  obtain ⟨g', off', ha, hcell⟩ := hc (by omega)
  injection hv with e1 _ _
  rw [← e1] at ha
  injection ha with ha
  injection ha with e2 e3
  subst e2 e3
  have hy : M[i]? = some (M.getD i e0) := by simp [List.getD, List.getElem?_eq_getElem hi]
  have he := hp.2 i _ _ (List.getElem?_eq_getElem hi2) hy
  obtain ⟨x, q1, q2, q3⟩ := id he
  obtain ⟨a, d, rfl, _, _⟩ := q2.form
  have hf : ∀ j, j < 5 → w.cell? ⟨g, i * 5 + j, none⟩ = (ecl (M.getD i e0) (.slice a (M.getD i e0).2.1.2.2.length d))[j]? := by
    intro j hj
    have hf := (rawE 5).flat_at (l := hs) (i := i) (j := j) hi2 hj
    have hsz : (rawE 5).size = 5 := rfl
    rw [hsz] at hf
    have he : (rawE 5).cells hs[i] = ecl (M.getD i e0) (.slice a (M.getD i e0).2.1.2.2.length d) := q1
    rw [he] at hf
    have hlen : (ecl (M.getD i e0) (.slice a (M.getD i e0).2.1.2.2.length d)).length = 5 := rfl
    rw [List.getElem?_eq_getElem (by omega)]
    have := hcell (i * 5 + j) _ (by rw [hf, List.getElem?_eq_getElem (by omega)])
    rwa [Nat.zero_add] at this
  exact ⟨hs[i], a, d, List.getElem?_eq_getElem hi2, q1, he, hf 0 (by omega), hf 1 (by omega), hf 2 (by omega), hf 3 (by omega), hf 4 (by omega)⟩
theorem only_cells (g o : Nat) (z : World) (a0 a1 a2 a3 a4 : Value) : Only g z (z.setCells g o [a0, a1, a2, a3, a4]) := ((((Only.set _ _ _).trans (Only.set _ _ _)).trans (Only.set _ _ _)).trans (Only.set _ _ _)).trans (Only.set _ _ _)
/-- both loads first, in either order; then what stands behind them -/
def plan19 : List (Nat × Nat) := [(0, 0), (1, 0), (2, 0), (3, 0), (4, 0), (5, 0), (6, 0), (7, 0), (8, 0), (9, 0), (11, 0), (12, 0), (13, 0), (14, 0), (15, 0), (16, 0), (10, 19), (18, 0), (19, 1), (20, 0), (21, 1)]

set_option maxRecDepth 100000 in
set_option maxHeartbeats 8000000 in
theorem walk (v : Value) (l : List Ent) (u : Value) (tn : List Int) (w : World) (h : entsK.rd w [v] l) (hu : Rd (intE .i64) w u tn) (htb : ∀ x ∈ tn, -9223372036854775808 ≤ x ∧ x ≤ 9223372036854775807) :
    Calls Try.prog 4 #[v, u] w fun e w' => e = .returned (.bool true) ∧ Below w.heap.size w w' := by
  obtain ⟨hin, hbd⟩ := ents_of_kd h
  have HIN := Lib.hid hin
  have HBD := Lib.hid hbd
  have HTU := Lib.hid hu
  have HTB := Lib.hid htb
  obtain ⟨a, g, off, c, rfl, hca, hma, haa, hea⟩ := hin.at
  obtain ⟨au, cu, rfl, hcu, hmu⟩ := hu.form
  have hma' : c ≤ 9223372036854775807 := hma
  have hmu' : cu ≤ 9223372036854775807 := hmu
  have HAA := Lib.hid haa
  have HEA := Lib.hid hea
  clear h hin hbd hu htb haa hea hma hmu
  go_enter Try.func4, Try.ntmps4
  go_wp2_with fail
  refine (shfew_any _ _ l w HIN.out).mono ?_
  rintro e w2 ⟨rfl, hk⟩
  have HK2 := Lib.hid hk
  have HIN2 := Lib.hid (HIN.out.keep hk)
  have HTU2 := Lib.hid (HTU.out.keep hk)
  clear hk HIN HTU
  obtain ⟨fe, hfe⟩ : ∃ fe, fe = fewE l := ⟨_, rfl⟩
  rw [← hfe]
  cases fe with
  | false =>
    clear hfe
    go_wp2_with fail
    refine (shawake_any w2).mono ?_
    rintro e w3 ⟨rfl, hk⟩
    have HK3 := Lib.hid (nest HK2.out hk)
    clear hk
    go_wp2_with fail
    go_ret
    exact ⟨rfl, HK3.out⟩
  | true =>
    have hff := few_yes.1 hfe.symm
    have HLL : Hid (l.length ≤ 30) := Lib.hid hff.1
    have HOK : Hid (∀ y ∈ l, okE y) := Lib.hid (fun y hy => ⟨HBD.out y hy, by have := hff.2 y hy; omega⟩)
    clear hff hfe
    have HB02 : Hid (w.heap.size ≤ w2.heap.size) := Lib.hid HK2.out.size
    go_upto_block 99 with fail
    go_loopw [5, 6] (fun sv iv wr => ∃ (j : Nat) (hs : List (Raw 5)), j ≤ l.length ∧ iv = .int .i64 j ∧ Row (rawE 5) 40 w2.heap.size wr sv hs ∧ PW (fun x y => EntIn (fun j => j < w.heap.size) w2 x y) hs (someL l j) ∧ Below w2.heap.size w2 wr) (fun _ iv _ => l.length - (intOf iv).toNat)
    case atStart => exact ⟨0, [], Nat.zero_le _, rfl, Row.nil, ⟨rfl, fun i x y hx _ => by simp at hx⟩, Below.refl _ _⟩
    case round =>
      obtain ⟨j, hs, hj, rfl, hrow, hpw, hb⟩ := hrel
      obtain ⟨wo, hwo⟩ : ∃ z, z = wr := ⟨_, rfl⟩
      subst hwo
      have HROW := Lib.hid hrow
      have HPW := Lib.hid hpw
      have HKW := Lib.hid hb
      have HV := Lib.hid (pw_in hrow hpw hb)
      obtain ⟨a7, g7, o7, c7, rfl, hc7, hm7, ha7, he7⟩ := HV.out.at
      have hm7' : c7 ≤ 9223372036854775807 := hm7
      have HA7 := Lib.hid ha7
      have HE7 := Lib.hid he7
      have HSL : Hid ((someL l j).length ≤ j) := Lib.hid (someL_sub l j hj).1
      clear hrow hpw hb hm7 ha7 he7
      by_cases hlt : j < l.length
      · skip
        as_aux_lemma =>
          have HY2 : Hid (EntIn (fun j => j < w.heap.size) w2 (rawEnt (l.getD j e0) (.slice none 0 0) rfl) (l.getD j e0) → True) := Lib.hid (fun _ => trivial)
          obtain ⟨rfl, hg1, hg2⟩ := HAA.out (by omega)
          obtain ⟨x, t0, t1, t2, t3, t4, trx, trq⟩ := HEA.out j hlt
          obtain ⟨y, hy⟩ : ∃ y, y = l.getD j e0 := ⟨_, rfl⟩
          have HYL : Hid (y ∈ l) := Lib.hid (by rw [hy, show l.getD j e0 = l[j] by simp [List.getD, hlt]]; exact List.getElem_mem _)
          have HSJ : Hid (someL l (j + 1) = if anyQ (someL l j) y then someL l j else someL l j ++ [y]) := Lib.hid (by rw [hy]; rfl)
          rw [← hy] at t0 t1 t2 t4 trx trq
          obtain ⟨ax, cx, rfl, _, _⟩ := trx.form
          have hbx := HK2.out.trans (HKW.out.mono HB02.out)
          have d0 := kc hbx t0
          have d1 := kc hbx t1
          have d2 := kc hbx t2
          have d3 := kc hbx t3
          have d4 := kc hbx t4
          have HRAW : Hid (EntIn (fun j => j < w.heap.size) w2 (rawEnt y (.slice ax y.2.1.2.2.length cx) rfl) y) := Lib.hid ⟨.slice ax y.2.1.2.2.length cx, rfl, trx.keep HK2.out, trq⟩
          obtain ⟨S, hS⟩ : ∃ S, S = someL l j := ⟨_, rfl⟩
          rw [← hS] at HROW HPW HV HSL HE7 HA7 HSJ hc7 ⊢
          have hsl : S.length ≤ 30 := by have := HSL.out; have := HLL.out; omega
          clear t0 t1 t2 t3 t4 trx trq hy hg1 hg2 hS HY2
          obtain ⟨ya, ⟨yi, yv, yl⟩, yg⟩ := y
          have d0 : wo.cell? ⟨g, off + j * 5, none⟩ = some (.int .u32 ya) := d0
          have d1 : wo.cell? ⟨g, off + j * 5 + 1, none⟩ = some (.int .u64 yi) := d1
          have d2 : wo.cell? ⟨g, off + j * 5 + 2, none⟩ = some (.int .u64 yv) := d2
          have d3 : wo.cell? ⟨g, off + j * 5 + 3, none⟩ = some (.slice ax yl.length cx) := d3
          have d4 : wo.cell? ⟨g, off + j * 5 + 4, none⟩ = some (.bool yg) := d4
          have hjl : (j : Int) < (l.length : Int) := by omega
          have hcl : (l.length : Int) ≤ c := by omega
          go_upto_block 99 with fail
          go_loopw [7, 8] (fun av kv wr => ∃ (k : Nat) (ag : Bool), k ≤ S.length ∧ kv = .int .i64 k ∧ av = .bool ag ∧ ag = anyQ (S.take k) (ya, (yi, yv, yl), yg) ∧ Below wo.heap.size wo wr) (fun _ kv _ => S.length - (intOf kv).toNat)
          case atStart => exact ⟨0, false, Nat.zero_le _, rfl, rfl, by simp [anyQ], Below.refl _ _⟩
          case round =>
            obtain ⟨k, ag, hk, rfl, rfl, hag, hb⟩ := hrel
            have HAG := Lib.hid hag
            have HKX := Lib.hid hb
            clear hag
            have f0 := kc hb d0
            have f1 := kc hb d1
            have f2 := kc hb d2
            have f3 := kc hb d3
            have f4 := kc hb d4
            clear d0 d1 d2 d3 d4
            by_cases hlk : k < S.length
            · have HST := Lib.hid (anyQ_step S (ya, (yi, yv, yl), yg) k hlk)
              obtain ⟨rfl, hg1, hg2⟩ := HA7.out (by omega)
              obtain ⟨x', t0, t1, t2, t3, t4, _⟩ := HE7.out k hlk
              obtain ⟨s, hs'⟩ : ∃ s, s = S.getD k e0 := ⟨_, rfl⟩
              rw [← hs'] at t0 t1 t2 t4 HST
              obtain ⟨sa, ⟨si, sv, sl⟩, sg⟩ := s
              have e0 : wr.cell? ⟨g7, o7 + k * 5, none⟩ = some (.int .u32 sa) := kc hb t0
              have e1 : wr.cell? ⟨g7, o7 + k * 5 + 1, none⟩ = some (.int .u64 si) := kc hb t1
              have e2 : wr.cell? ⟨g7, o7 + k * 5 + 2, none⟩ = some (.int .u64 sv) := kc hb t2
              have e4 : wr.cell? ⟨g7, o7 + k * 5 + 4, none⟩ = some (.bool sg) := kc hb t4
              have HST2 : Hid (∀ b : Bool, b = (ag || eqQ (sa, (si, sv, sl), sg) (ya, (yi, yv, yl), yg)) → b = anyQ (S.take (k + 1)) (ya, (yi, yv, yl), yg)) := Lib.hid (fun b hb => by rw [hb, HST.out, HAG.out])
              have hkl : (k : Int) < (S.length : Int) := by omega
              have hcS : (S.length : Int) ≤ c7 := by omega
              clear hs' t0 t1 t2 t3 t4 hg1 hg2 HST f3 hb
              go_upto_region 11 with fail
              cases ag with
              | true =>
                as_aux_lemma =>
                  refine Run.region_walk (S := fun z => Below wr.heap.size wr z)
                    lshorder.rows9 lshorder.plan9 (l := ?steps1) (by kernel_rfl) (by kernel_rfl) (by kernel_rfl) (by kernel_rfl) ?written1 (Below.refl _ _).drew ?onward1
                  case written1 =>
                    simp only [lshorder.plan9, Run.stepsOf, Run.stepOf, Run.guardOf, List.getElem?_toArray, List.getElem?_cons_zero, List.getElem?_cons_succ, Option.map_some, Option.map_none, Option.bind_some, Option.toList_some, List.map_cons, List.map_nil, List.cons_append, List.nil_append, List.append_eq]
                    rfl
                  repeat ((first
                    | (refine Run.takes (v := ?_) ?_ ?_; rotate_left; (· intro w' hS'; go_simp; (try with_reducible rfl)))
                    | (refine Run.takesG (v := ?_) ?_ ?_ ?_; rotate_left; (· simp only [List.getElem?_cons_zero, List.getElem?_cons_succ]); (· intro w' hS'; go_simp; (try with_reducible rfl)))
                    | (refine Run.skipsT ?_ ?_; (· simp only [List.getElem?_cons_zero, List.getElem?_cons_succ]))
                    | (refine Run.skipsF ?_ ?_; (· simp only [List.getElem?_cons_zero, List.getElem?_cons_succ]))
                    | (refine Run.skipsU ?_ ?_; (· simp only [List.getElem?_cons_zero, List.getElem?_cons_succ]))
                    | (refine Run.passT ?_ ?_; (· simp only [List.getElem?_cons_zero, List.getElem?_cons_succ]))
                    | (refine Run.passF ?_ ?_; (· simp only [List.getElem?_cons_zero, List.getElem?_cons_succ]))
                    | (refine Run.passU ?_ ?_; (· simp only [List.getElem?_cons_zero, List.getElem?_cons_succ]))
                    | fail); simp only [Act.put, List.setIfInBounds_toArray, List.set_cons_zero, List.set_cons_succ])
                  refine Run.ends (fun hS => ?_)
                  have HKY := Lib.hid hS
                  clear hS
                  go_wp2_with fail
                  exact ⟨⟨k + 1, true, by omega, by go_num, rfl, HST2.out _ (by simp), nest HKX.out HKY.out⟩, by simp [intOf]; omega⟩
              | false =>
                by_cases n0 : sa = ya
                · subst n0
                  by_cases n1 : si = yi
                  · subst n1
                    by_cases n2 : sv = yv
                    · subst n2
                      skip
                      as_aux_lemma =>
                        refine Run.region_walk (S := fun z => z.cell? ⟨g7, o7 + k * 5, none⟩ = some (.int .u32 sa) ∧ z.cell? ⟨g, off + j * 5, none⟩ = some (.int .u32 sa) ∧ z.cell? ⟨g7, o7 + k * 5 + 1, none⟩ = some (.int .u64 si) ∧ z.cell? ⟨g, off + j * 5 + 1, none⟩ = some (.int .u64 si) ∧ z.cell? ⟨g7, o7 + k * 5 + 2, none⟩ = some (.int .u64 sv) ∧ z.cell? ⟨g, off + j * 5 + 2, none⟩ = some (.int .u64 sv) ∧ z.cell? ⟨g7, o7 + k * 5 + 4, none⟩ = some (.bool sg) ∧ z.cell? ⟨g, off + j * 5 + 4, none⟩ = some (.bool yg) ∧ Below wr.heap.size wr z)
                          lshorder.rows9 lshorder.plan9 (l := ?steps2) (by kernel_rfl) (by kernel_rfl) (by kernel_rfl) (by kernel_rfl) ?written2 ⟨e0, f0, e1, f1, e2, f2, e4, f4, (Below.refl _ _).drew⟩ ?onward2
                        case written2 =>
                          simp only [lshorder.plan9, Run.stepsOf, Run.stepOf, Run.guardOf, List.getElem?_toArray, List.getElem?_cons_zero, List.getElem?_cons_succ, Option.map_some, Option.map_none, Option.bind_some, Option.toList_some, List.map_cons, List.map_nil, List.cons_append, List.nil_append, List.append_eq]
                          rfl
                        repeat ((first
                          | (refine Run.takes (v := ?_) ?_ ?_; rotate_left; (· intro w' hS'; go_simp; (try with_reducible rfl)))
                          | (refine Run.takesG (v := ?_) ?_ ?_ ?_; rotate_left; (· simp only [List.getElem?_cons_zero, List.getElem?_cons_succ]); (· intro w' hS'; go_simp; (try with_reducible rfl)))
                          | (refine Run.skipsT ?_ ?_; (· simp only [List.getElem?_cons_zero, List.getElem?_cons_succ]))
                          | (refine Run.skipsF ?_ ?_; (· simp only [List.getElem?_cons_zero, List.getElem?_cons_succ]))
                          | (refine Run.skipsU ?_ ?_; (· simp only [List.getElem?_cons_zero, List.getElem?_cons_succ]))
                          | (refine Run.passT ?_ ?_; (· simp only [List.getElem?_cons_zero, List.getElem?_cons_succ]))
                          | (refine Run.passF ?_ ?_; (· simp only [List.getElem?_cons_zero, List.getElem?_cons_succ]))
                          | (refine Run.passU ?_ ?_; (· simp only [List.getElem?_cons_zero, List.getElem?_cons_succ]))
                          | fail); simp only [Act.put, List.setIfInBounds_toArray, List.set_cons_zero, List.set_cons_succ])
                        refine Run.ends (fun hS => ?_)
                        have HKY := Lib.hid hS.2.2.2.2.2.2.2.2
                        clear hS
                        go_wp2_with fail
                        exact ⟨⟨k + 1, (sg == yg), by omega, by go_num, rfl, HST2.out _ (by simp [eqQ]), nest HKX.out HKY.out⟩, by simp [intOf]; omega⟩
                    · have n3 : (sv == yv) = false := beq_eq_false_iff_ne.2 n2
                      as_aux_lemma =>
                        refine Run.region_walk (S := fun z => z.cell? ⟨g7, o7 + k * 5, none⟩ = some (.int .u32 sa) ∧ z.cell? ⟨g, off + j * 5, none⟩ = some (.int .u32 sa) ∧ z.cell? ⟨g7, o7 + k * 5 + 1, none⟩ = some (.int .u64 si) ∧ z.cell? ⟨g, off + j * 5 + 1, none⟩ = some (.int .u64 si) ∧ z.cell? ⟨g7, o7 + k * 5 + 2, none⟩ = some (.int .u64 sv) ∧ z.cell? ⟨g, off + j * 5 + 2, none⟩ = some (.int .u64 yv) ∧ Below wr.heap.size wr z)
                          lshorder.rows9 lshorder.plan9 (l := ?steps3) (by kernel_rfl) (by kernel_rfl) (by kernel_rfl) (by kernel_rfl) ?written3 ⟨e0, f0, e1, f1, e2, f2, (Below.refl _ _).drew⟩ ?onward3
                        case written3 =>
                          simp only [lshorder.plan9, Run.stepsOf, Run.stepOf, Run.guardOf, List.getElem?_toArray, List.getElem?_cons_zero, List.getElem?_cons_succ, Option.map_some, Option.map_none, Option.bind_some, Option.toList_some, List.map_cons, List.map_nil, List.cons_append, List.nil_append, List.append_eq]
                          rfl
                        repeat ((first
                          | (refine Run.takes (v := ?_) ?_ ?_; rotate_left; (· intro w' hS'; go_simp; (try with_reducible rfl)))
                          | (refine Run.takesG (v := ?_) ?_ ?_ ?_; rotate_left; (· simp only [List.getElem?_cons_zero, List.getElem?_cons_succ]); (· intro w' hS'; go_simp; (try with_reducible rfl)))
                          | (refine Run.skipsT ?_ ?_; (· simp only [List.getElem?_cons_zero, List.getElem?_cons_succ]))
                          | (refine Run.skipsF ?_ ?_; (· simp only [List.getElem?_cons_zero, List.getElem?_cons_succ]))
                          | (refine Run.skipsU ?_ ?_; (· simp only [List.getElem?_cons_zero, List.getElem?_cons_succ]))
                          | (refine Run.passT ?_ ?_; (· simp only [List.getElem?_cons_zero, List.getElem?_cons_succ]))
                          | (refine Run.passF ?_ ?_; (· simp only [List.getElem?_cons_zero, List.getElem?_cons_succ]))
                          | (refine Run.passU ?_ ?_; (· simp only [List.getElem?_cons_zero, List.getElem?_cons_succ]))
                          | fail); simp only [Act.put, List.setIfInBounds_toArray, List.set_cons_zero, List.set_cons_succ])
                        refine Run.ends (fun hS => ?_)
                        have HKY := Lib.hid hS.2.2.2.2.2.2
                        clear hS
                        go_wp2_with fail
                        exact ⟨⟨k + 1, false, by omega, by go_num, rfl, HST2.out _ (by simp [eqQ, n2]), nest HKX.out HKY.out⟩, by simp [intOf]; omega⟩
                  · have n3 : (si == yi) = false := beq_eq_false_iff_ne.2 n1
                    as_aux_lemma =>
                      refine Run.region_walk (S := fun z => z.cell? ⟨g7, o7 + k * 5, none⟩ = some (.int .u32 sa) ∧ z.cell? ⟨g, off + j * 5, none⟩ = some (.int .u32 sa) ∧ z.cell? ⟨g7, o7 + k * 5 + 1, none⟩ = some (.int .u64 si) ∧ z.cell? ⟨g, off + j * 5 + 1, none⟩ = some (.int .u64 yi) ∧ Below wr.heap.size wr z)
                        lshorder.rows9 lshorder.plan9 (l := ?steps4) (by kernel_rfl) (by kernel_rfl) (by kernel_rfl) (by kernel_rfl) ?written4 ⟨e0, f0, e1, f1, (Below.refl _ _).drew⟩ ?onward4
                      case written4 =>
                        simp only [lshorder.plan9, Run.stepsOf, Run.stepOf, Run.guardOf, List.getElem?_toArray, List.getElem?_cons_zero, List.getElem?_cons_succ, Option.map_some, Option.map_none, Option.bind_some, Option.toList_some, List.map_cons, List.map_nil, List.cons_append, List.nil_append, List.append_eq]
                        rfl
                      repeat ((first
                        | (refine Run.takes (v := ?_) ?_ ?_; rotate_left; (· intro w' hS'; go_simp; (try with_reducible rfl)))
                        | (refine Run.takesG (v := ?_) ?_ ?_ ?_; rotate_left; (· simp only [List.getElem?_cons_zero, List.getElem?_cons_succ]); (· intro w' hS'; go_simp; (try with_reducible rfl)))
                        | (refine Run.skipsT ?_ ?_; (· simp only [List.getElem?_cons_zero, List.getElem?_cons_succ]))
                        | (refine Run.skipsF ?_ ?_; (· simp only [List.getElem?_cons_zero, List.getElem?_cons_succ]))
                        | (refine Run.skipsU ?_ ?_; (· simp only [List.getElem?_cons_zero, List.getElem?_cons_succ]))
                        | (refine Run.passT ?_ ?_; (· simp only [List.getElem?_cons_zero, List.getElem?_cons_succ]))
                        | (refine Run.passF ?_ ?_; (· simp only [List.getElem?_cons_zero, List.getElem?_cons_succ]))
                        | (refine Run.passU ?_ ?_; (· simp only [List.getElem?_cons_zero, List.getElem?_cons_succ]))
                        | fail); simp only [Act.put, List.setIfInBounds_toArray, List.set_cons_zero, List.set_cons_succ])
                      refine Run.ends (fun hS => ?_)
                      have HKY := Lib.hid hS.2.2.2.2
                      clear hS
                      go_wp2_with fail
                      exact ⟨⟨k + 1, false, by omega, by go_num, rfl, HST2.out _ (by simp [eqQ, n1]), nest HKX.out HKY.out⟩, by simp [intOf]; omega⟩
                · have n3 : (sa == ya) = false := beq_eq_false_iff_ne.2 n0
                  as_aux_lemma =>
                    refine Run.region_walk (S := fun z => z.cell? ⟨g7, o7 + k * 5, none⟩ = some (.int .u32 sa) ∧ z.cell? ⟨g, off + j * 5, none⟩ = some (.int .u32 ya) ∧ Below wr.heap.size wr z)
                      lshorder.rows9 lshorder.plan9 (l := ?steps5) (by kernel_rfl) (by kernel_rfl) (by kernel_rfl) (by kernel_rfl) ?written5 ⟨e0, f0, (Below.refl _ _).drew⟩ ?onward5
                    case written5 =>
                      simp only [lshorder.plan9, Run.stepsOf, Run.stepOf, Run.guardOf, List.getElem?_toArray, List.getElem?_cons_zero, List.getElem?_cons_succ, Option.map_some, Option.map_none, Option.bind_some, Option.toList_some, List.map_cons, List.map_nil, List.cons_append, List.nil_append, List.append_eq]
                      rfl
                    repeat ((first
                      | (refine Run.takes (v := ?_) ?_ ?_; rotate_left; (· intro w' hS'; go_simp; (try with_reducible rfl)))
                      | (refine Run.takesG (v := ?_) ?_ ?_ ?_; rotate_left; (· simp only [List.getElem?_cons_zero, List.getElem?_cons_succ]); (· intro w' hS'; go_simp; (try with_reducible rfl)))
                      | (refine Run.skipsT ?_ ?_; (· simp only [List.getElem?_cons_zero, List.getElem?_cons_succ]))
                      | (refine Run.skipsF ?_ ?_; (· simp only [List.getElem?_cons_zero, List.getElem?_cons_succ]))
                      | (refine Run.skipsU ?_ ?_; (· simp only [List.getElem?_cons_zero, List.getElem?_cons_succ]))
                      | (refine Run.passT ?_ ?_; (· simp only [List.getElem?_cons_zero, List.getElem?_cons_succ]))
                      | (refine Run.passF ?_ ?_; (· simp only [List.getElem?_cons_zero, List.getElem?_cons_succ]))
                      | (refine Run.passU ?_ ?_; (· simp only [List.getElem?_cons_zero, List.getElem?_cons_succ]))
                      | fail); simp only [Act.put, List.setIfInBounds_toArray, List.set_cons_zero, List.set_cons_succ])
                    refine Run.ends (fun hS => ?_)
                    have HKY := Lib.hid hS.2.2
                    clear hS
                    go_wp2_with fail
                    exact ⟨⟨k + 1, false, by omega, by go_num, rfl, HST2.out _ (by simp [eqQ, n0]), nest HKX.out HKY.out⟩, by simp [intOf]; omega⟩
            · have hkS : k = S.length := by omega
              subst hkS
              have HA9 : Hid (ag = anyQ S (ya, (yi, yv, yl), yg)) := Lib.hid (by rw [HAG.out, List.take_length])
              clear hb HAG
              cases ag with
              | true =>
                as_aux_lemma =>
                  have HNX : Hid (someL l (j + 1) = S) := Lib.hid (by rw [HSJ.out, if_pos HA9.out.symm])
                  go_wp2_with fail
                  exact ⟨⟨j + 1, hs, by omega, by go_num, HROW.out.keep HKX.out, by rw [HNX.out]; exact HPW.out, nest HKW.out HKX.out⟩, by simp [intOf]; omega⟩
              | false =>
                as_aux_lemma =>
                  have HNX : Hid (someL l (j + 1) = S ++ [(ya, (yi, yv, yl), yg)]) := Lib.hid (by rw [HSJ.out, if_neg (by rw [← HA9.out]; decide)])
                  have HX3 := Lib.hid (Row.lit (E := rawE 5) wr.heap.size wr #[.int .u32 ya, .int .u64 yi, .int .u64 yv, .slice ax yl.length cx, .bool yg] [rawEnt (ya, (yi, yv, yl), yg) (.slice ax yl.length cx) rfl] 1 wr.heap.size rfl rfl rfl (Nat.le_refl _) (by simp [maxLen]) : Row (rawE 5) 40 wr.heap.size (wr.alloc (.cells #[.int .u32 ya, .int .u64 yi, .int .u64 yv, .slice ax yl.length cx, .bool yg] 40)) (.slice (some ⟨wr.heap.size, 0, none⟩) 1 1) [rawEnt (ya, (yi, yv, yl), yg) (.slice ax yl.length cx) rfl])
                  have HX4 : Hid (Below wr.heap.size wr (wr.alloc (.cells #[.int .u32 ya, .int .u64 yi, .int .u64 yv, .slice ax yl.length cx, .bool yg] 40))) := Lib.hid (more (Below.refl _ _) _)
                  have HROWX := Lib.hid ((HROW.out.keep HKX.out).keep HX4.out)
                  have HKZ := Lib.hid (nest (nest HKW.out HKX.out) HX4.out)
                  have HBS : Hid (w2.heap.size ≤ (wr.alloc (.cells #[.int .u32 ya, .int .u64 yi, .int .u64 yv, .slice ax yl.length cx, .bool yg] 40)).heap.size) := Lib.hid HKZ.out.size
                  go_wp2_with (first
                    | (refine at_build 94 rfl ?_; refine wpList_build_one (size := 5) (bytes := 56) entElem (by decide) (by decide) rfl _ rfl (C := #[.int .u32 ya, .int .u64 yi, .int .u64 yv, .slice ax yl.length cx, .bool yg]) rfl rfl ?_)
                    | (at_builtin; refine wpList_append (E := rawE 5) (B := w2.heap.size) (l := hs) (m := [rawEnt (ya, (yi, yv, yl), yg) (.slice ax yl.length cx) rfl]) (bytes := 56) entElem (Nat.zero_lt_succ 4) rfl (.tmp 90) (.tmp 95) rfl rfl HROWX.out rfl HX3.out.rd (by rw [HPW.out.1]; simp [maxLen]; omega) (by rw [HPW.out.1]; simp; omega) HBS.out ?_; intro v9 y9 hr9 hk9 hg9 _))
                  exact ⟨⟨j + 1, hs ++ [rawEnt (ya, (yi, yv, yl), yg) (.slice ax yl.length cx) rfl], by omega, by go_num, hr9, by rw [HNX.out]; exact HPW.out.append (PW.one HRAW.out), HKZ.out.trans hk9⟩, by simp [intOf]; omega⟩
      · have hjl : j = l.length := by omega
        subst hjl
        as_aux_lemma =>
          have HSS := Lib.hid (someL_sub l l.length (Nat.le_refl _))
          have HAP := Lib.hid (someL_apart l l.length (Nat.le_refl _))
          obtain ⟨S, hS⟩ : ∃ S, S = someL l l.length := ⟨_, rfl⟩
          rw [← hS] at HROW HPW HV HSL HSS HAP HE7 HA7 hc7 ⊢
          have HOKS : Hid (∀ y ∈ S, okE y) := Lib.hid (fun y hy => HOK.out y (HSS.out.2.1 y hy))
          have hsl : S.length ≤ 30 := by have := HSL.out; have := HLL.out; omega
          have HSN : Hid (hs.length ≤ 30) := Lib.hid (by rw [HPW.out.1]; exact hsl)
          have HTU5 := Lib.hid (HTU2.out.keep HKW.out)
          have HK5 := Lib.hid (nest HK2.out HKW.out)
          clear hS HA7 HE7 HSL HSS hlt hj
          go_upto_block 99 with (at_builtin; refine wpList_append (E := rawE 5) (B := wo.heap.size) (v := .slice none 0 0) (l := []) (m := hs) (bytes := 56) entElem (Nat.zero_lt_succ 4) rfl (.const (.slice none 0 0)) (.tmp 97) rfl rfl Row.nil rfl HROW.out.rd (by have := HSN.out; simp [maxLen]; omega) (by have := HSN.out; simp; omega) (Nat.le_refl _) ?_; intro v9 w9 hr9 hk9 hg9 _; rw [List.nil_append] at hr9; obtain ⟨a9, c9, rfl, hc9, hm9⟩ := hr9.rd.form)
          have HR9 := Lib.hid hr9
          have HK9 := Lib.hid hk9
          have HKK9 := Lib.hid (nest HK5.out hk9)
          have hm9' : c9 ≤ 9223372036854775807 := hm9
          clear hr9 hk9 hg9 hm9
          go_loopw [10] (fun iv wr => ∃ (i : Nat) (hs' : List (Raw 5)) (M : List Ent), iv = .int .i64 i ∧ i ≤ 60 ∧ hs'.length = hs.length ∧ Row (rawE 5) 40 wo.heap.size wr (.slice a9 hs.length c9) hs' ∧ PW (fun x y => EntIn (fun j => j < w.heap.size) w2 x y) hs' M ∧ M.Perm S ∧ Below wo.heap.size wo wr) (fun iv _ => 60 - (intOf iv).toNat)
          case atStart => exact ⟨0, hs, S, rfl, by omega, rfl, HR9.out, HPW.out, List.Perm.refl _, HK9.out⟩
          case round =>
            obtain ⟨i, hs', M, rfl, hi, hl', hrow, hpw, hp, hb⟩ := hrel
            obtain ⟨wi, hwi⟩ : ∃ z, z = wr := ⟨_, rfl⟩
            subst hwi
            have HROW' := Lib.hid hrow
            have HPW' := Lib.hid hpw
            have HP' := Lib.hid hp
            have HKI := Lib.hid hb
            have HL' := Lib.hid hl'
            have hln : hs.length = S.length := HPW.out.1
            have HLN := Lib.hid hln
            have HML : Hid (M.length = S.length) := Lib.hid hp.length_eq
            clear hrow hpw hp hb hl'
            rw [hln] at HROW' ⊢
            clear hln
            by_cases hcont : i < tn.length ∧ i < 60 ∧ 0 < S.length
            · skip
              as_aux_lemma =>
                obtain ⟨h1, h2, h3⟩ := hcont
                obtain ⟨gu, ou, cu', hv, _, _, hcell⟩ := HTU5.out.cells (by omega)
                injection hv with e1 _ _
                subst e1
                have t0 : wo.cell? ⟨gu, ou + i, none⟩ = some (.int .i64 tn[i]) := by simpa [intE] using hcell i h1 0 (by decide)
                have HTI := Lib.hid (HTB.out tn[i] (List.getElem_mem h1))
                obtain ⟨t, ht⟩ : ∃ t, t = tn[i] := ⟨_, rfl⟩
                rw [← ht] at t0 HTI
                have d0 := kc HKI.out t0
                have hil : (i : Int) < (tn.length : Int) := by omega
                have hcl : (tn.length : Int) ≤ cu := by omega
                clear ht
                go_upto_region 19 with fail
                obtain ⟨k, hkS, hkq⟩ : ∃ k : Nat, k < S.length ∧ wrap64 ((IntKind.u64.wrap t).tmod (S.length : Int)) = (k : Int) := by
                  have q1 : 0 ≤ (IntKind.u64.wrap t).tmod (S.length : Int) := Int.tmod_nonneg _ (u64_bd t).1
                  have q2 := Int.tmod_lt_of_pos (IntKind.u64.wrap t) (show (0 : Int) < (S.length : Int) by omega)
                  refine ⟨((IntKind.u64.wrap t).tmod (S.length : Int)).toNat, by omega, ?_⟩
                  unfold wrap64
                  omega
                obtain ⟨p, hpS, hpq⟩ : ∃ p : Nat, p < S.length ∧ (i : Int).tmod (S.length : Int) = (p : Int) := ⟨i % S.length, Nat.mod_lt _ h3, rfl⟩
                rw [hkq]
                clear hkq
                obtain ⟨g9, c9', hv9, _, _⟩ := Row.headE HROW'.out (by rw [HL'.out, HLN.out]; exact h3)
                injection hv9 with e1 e2 e3
                subst e1 e3
                obtain ⟨xk, ak, dk, qk0, qk1, qk2, k0, k1, k2, k3, k4⟩ := row_cells HROW'.out HPW'.out (i := k) (by rw [HML.out]; exact hkS)
                obtain ⟨xp, ap, dp, qp0, qp1, qp2, p0, p1, p2, p3, p4⟩ := row_cells HROW'.out HPW'.out (i := p) (by rw [HML.out]; exact hpS)
                have HSW := Lib.hid ((swap_perm M p k (by rw [HML.out]; exact hpS) (by rw [HML.out]; exact hkS)).trans HP'.out)
                obtain ⟨yk, hyk⟩ : ∃ y, y = M.getD k e0 := ⟨_, rfl⟩
                obtain ⟨yp, hyp⟩ : ∃ y, y = M.getD p e0 := ⟨_, rfl⟩
                rw [← hyk] at qk1 qk2 k0 k1 k2 k3 k4 HSW
                rw [← hyp] at qp1 qp2 p0 p1 p2 p3 p4 HSW
                obtain ⟨ka, ⟨ki, kv, kl⟩, kg⟩ := yk
                obtain ⟨pa, ⟨pi, pv, pl⟩, pg⟩ := yp
                have HPWN := Lib.hid (PW.set (PW.set HPW'.out p qk2) k qp2)
                have QK := Lib.hid qk1
                have QP := Lib.hid qp1
                have hD : Below wi.heap.size wi wi.drew := (Below.refl _ _).drew
                have k0 : wi.drew.cell? ⟨g9, k * 5, none⟩ = some (.int .u32 ka) := kc hD k0
                have k1 : wi.drew.cell? ⟨g9, k * 5 + 1, none⟩ = some (.int .u64 ki) := kc hD k1
                have k2 : wi.drew.cell? ⟨g9, k * 5 + 2, none⟩ = some (.int .u64 kv) := kc hD k2
                have k3 : wi.drew.cell? ⟨g9, k * 5 + 3, none⟩ = some (.slice ak kl.length dk) := kc hD k3
                have k4 : wi.drew.cell? ⟨g9, k * 5 + 4, none⟩ = some (.bool kg) := kc hD k4
                have p0 : wi.drew.cell? ⟨g9, p * 5, none⟩ = some (.int .u32 pa) := kc hD p0
                have p1 : wi.drew.cell? ⟨g9, p * 5 + 1, none⟩ = some (.int .u64 pi) := kc hD p1
                have p2 : wi.drew.cell? ⟨g9, p * 5 + 2, none⟩ = some (.int .u64 pv) := kc hD p2
                have p3 : wi.drew.cell? ⟨g9, p * 5 + 3, none⟩ = some (.slice ap pl.length dp) := kc hD p3
                have p4 : wi.drew.cell? ⟨g9, p * 5 + 4, none⟩ = some (.bool pg) := kc hD p4
                have HROWD := Lib.hid (HROW'.out.keep hD)
                have HKD := Lib.hid (nest HKI.out hD)
                have HG9 : Hid (wo.heap.size ≤ g9) := Lib.hid (HROW'.out.block g9 rfl).1
                have HLS : Hid (S.length = hs'.length) := Lib.hid (by rw [HL'.out, HLN.out])
                have hc9' : (S.length : Int) ≤ c9 := by have := HLS.out; have := HROW'.out.rd.form; obtain ⟨_, _, e, h, _⟩ := this; injection e with _ e4 e5; omega
                have hsne : ¬ S = [] := fun e => by rw [e] at h3; simp at h3
                have hkl : (k : Int) < (S.length : Int) := by omega
                have hpl : (p : Int) < (S.length : Int) := by omega
                clear qk0 qk1 qk2 qp0 qp1 qp2 hyk hyp hD e2 d0 t0 HROW'
                refine Run.region_walk (S := fun _ => True)
                  lshorder.rows18 plan19 (l := ?steps6) (by kernel_rfl) (by kernel_rfl) (by kernel_rfl) (by kernel_rfl) ?written6 trivial ?onward6
                case written6 =>
                  simp only [plan19, Run.stepsOf, Run.stepOf, Run.guardOf, List.getElem?_toArray, List.getElem?_cons_zero, List.getElem?_cons_succ, Option.map_some, Option.map_none, Option.bind_some, Option.toList_some, List.map_cons, List.map_nil, List.cons_append, List.nil_append, List.append_eq]
                  rfl
                repeat ((first
                  | (refine Run.takes (v := ?_) ?_ ?_; rotate_left; (· intro w' hS'; go_simp; (try with_reducible rfl)))
                  | (refine Run.takesG (v := ?_) ?_ ?_ ?_; rotate_left; (· simp only [List.getElem?_cons_zero, List.getElem?_cons_succ]); (· intro w' hS'; go_simp; (try with_reducible rfl)))
                  | (refine Run.skipsT ?_ ?_; (· simp only [List.getElem?_cons_zero, List.getElem?_cons_succ]))
                  | (refine Run.skipsF ?_ ?_; (· simp only [List.getElem?_cons_zero, List.getElem?_cons_succ]))
                  | (refine Run.skipsU ?_ ?_; (· simp only [List.getElem?_cons_zero, List.getElem?_cons_succ]))
                  | (refine Run.passT ?_ ?_; (· simp only [List.getElem?_cons_zero, List.getElem?_cons_succ]))
                  | (refine Run.passF ?_ ?_; (· simp only [List.getElem?_cons_zero, List.getElem?_cons_succ]))
                  | (refine Run.passU ?_ ?_; (· simp only [List.getElem?_cons_zero, List.getElem?_cons_succ]))
                  | fail); simp only [Act.put, List.setIfInBounds_toArray, List.set_cons_zero, List.set_cons_succ])
                generalize wi.drew = wd at *
                refine Run.both ?_ ?_
                all_goals
                  refine Run.one (fun _ K1 hK1 => ?_)
                  go_simp
                  refine hK1.out _ _ trivial ?_
                  clear hK1 K1
                  try simp only [Act.put, List.setIfInBounds_toArray, List.set_cons_zero, List.set_cons_succ]
                  refine Run.one (fun _ K1 hK1 => ?_)
                  go_simp
                  refine hK1.out _ _ trivial ?_
                  clear hK1 K1
                  try simp only [Act.put, List.setIfInBounds_toArray, List.set_cons_zero, List.set_cons_succ]
                  repeat ((first
                    | (refine Run.takes (v := ?_) ?_ ?_; rotate_left; (· intro w' hS'; go_simp; (try with_reducible rfl)))
                    | (refine Run.takesG (v := ?_) ?_ ?_ ?_; rotate_left; (· simp only [List.getElem?_cons_zero, List.getElem?_cons_succ]); (· intro w' hS'; go_simp; (try with_reducible rfl)))
                    | (refine Run.skipsT ?_ ?_; (· simp only [List.getElem?_cons_zero, List.getElem?_cons_succ]))
                    | (refine Run.skipsF ?_ ?_; (· simp only [List.getElem?_cons_zero, List.getElem?_cons_succ]))
                    | (refine Run.skipsU ?_ ?_; (· simp only [List.getElem?_cons_zero, List.getElem?_cons_succ]))
                    | (refine Run.passT ?_ ?_; (· simp only [List.getElem?_cons_zero, List.getElem?_cons_succ]))
                    | (refine Run.passF ?_ ?_; (· simp only [List.getElem?_cons_zero, List.getElem?_cons_succ]))
                    | (refine Run.passU ?_ ?_; (· simp only [List.getElem?_cons_zero, List.getElem?_cons_succ]))
                    | fail); simp only [Act.put, List.setIfInBounds_toArray, List.set_cons_zero, List.set_cons_succ])
                  refine Run.runsS (Run.one (fun _ K1 hK1 => ?_))
                  refine wp_store_mid 40 (.tmp 142) (.tmp 134) rfl g9 (p * 5) #[.int .u32 ka, .int .u64 ki, .int .u64 kv, .slice ak kl.length dk, .bool kg] ?_ rfl (Row.thereRaw HROWD.out HLS.out (by rw [← HLS.out]; exact hpS)) ent_info' (by simp [Value.oneCell']) ?_
                  · simp [Act.eval]
                  refine hK1.out _ _ trivial (fun _ => ⟨fun _ => True, fun _ h => h, trivial, ?_⟩)
                  clear hK1 K1 k0 k1 k2 k3 k4 p0 p1 p2 p3 p4
                  have HROW1 := Lib.hid (Row.putRaw HROWD.out HLS.out (i := p) (by rw [← HLS.out]; exact hpS) xk QK.out)
                  have HKE := Lib.hid (HKD.out.trans ((only_cells g9 (p * 5) wd (.int .u32 ka) (.int .u64 ki) (.int .u64 kv) (.slice ak kl.length dk) (.bool kg)).below HG9.out HKD.out.size))
                  rw [show (#[.int .u32 ka, .int .u64 ki, .int .u64 kv, .slice ak kl.length dk, .bool kg] : Array Value).toList = [.int .u32 ka, .int .u64 ki, .int .u64 kv, .slice ak kl.length dk, .bool kg] from rfl]
                  generalize wd.setCells g9 (p * 5) [.int .u32 ka, .int .u64 ki, .int .u64 kv, .slice ak kl.length dk, .bool kg] = we at *
                  have HLS1 : Hid (S.length = (hs'.set p xk).length) := Lib.hid (by rw [List.length_set]; exact HLS.out)
                  try simp only [Act.put, List.setIfInBounds_toArray, List.set_cons_zero, List.set_cons_succ]
                  repeat ((first
                    | (refine Run.takes (v := ?_) ?_ ?_; rotate_left; (· intro w' hS'; go_simp; (try with_reducible rfl)))
                    | (refine Run.takesG (v := ?_) ?_ ?_ ?_; rotate_left; (· simp only [List.getElem?_cons_zero, List.getElem?_cons_succ]); (· intro w' hS'; go_simp; (try with_reducible rfl)))
                    | (refine Run.skipsT ?_ ?_; (· simp only [List.getElem?_cons_zero, List.getElem?_cons_succ]))
                    | (refine Run.skipsF ?_ ?_; (· simp only [List.getElem?_cons_zero, List.getElem?_cons_succ]))
                    | (refine Run.skipsU ?_ ?_; (· simp only [List.getElem?_cons_zero, List.getElem?_cons_succ]))
                    | (refine Run.passT ?_ ?_; (· simp only [List.getElem?_cons_zero, List.getElem?_cons_succ]))
                    | (refine Run.passF ?_ ?_; (· simp only [List.getElem?_cons_zero, List.getElem?_cons_succ]))
                    | (refine Run.passU ?_ ?_; (· simp only [List.getElem?_cons_zero, List.getElem?_cons_succ]))
                    | fail); simp only [Act.put, List.setIfInBounds_toArray, List.set_cons_zero, List.set_cons_succ])
                  refine Run.runsS (Run.one (fun _ K1 hK1 => ?_))
                  refine wp_store_mid 40 (.tmp 143) (.tmp 141) rfl g9 (k * 5) #[.int .u32 pa, .int .u64 pi, .int .u64 pv, .slice ap pl.length dp, .bool pg] ?_ rfl (Row.thereRaw HROW1.out HLS1.out (by rw [← HLS1.out]; exact hkS)) ent_info' (by simp [Value.oneCell']) ?_
                  · simp [Act.eval]
                  refine hK1.out _ _ trivial (fun _ => ⟨fun _ => True, fun _ h => h, trivial, ?_⟩)
                  clear hK1 K1
                  have HROW2 := Lib.hid (Row.putRaw HROW1.out HLS1.out (i := k) (by rw [← HLS1.out]; exact hkS) xp QP.out)
                  have HKF := Lib.hid (HKE.out.trans ((only_cells g9 (k * 5) we (.int .u32 pa) (.int .u64 pi) (.int .u64 pv) (.slice ap pl.length dp) (.bool pg)).below HG9.out HKE.out.size))
                  rw [show (#[.int .u32 pa, .int .u64 pi, .int .u64 pv, .slice ap pl.length dp, .bool pg] : Array Value).toList = [.int .u32 pa, .int .u64 pi, .int .u64 pv, .slice ap pl.length dp, .bool pg] from rfl]
                  generalize we.setCells g9 (k * 5) [.int .u32 pa, .int .u64 pi, .int .u64 pv, .slice ap pl.length dp, .bool pg] = wf at *
                  have HLS2 : Hid (((hs'.set p xk).set k xp).length = S.length) := Lib.hid (by rw [List.length_set, List.length_set]; exact HLS.out.symm)
                  clear HROW1 HLS1 HKE HROWD HLS HKD QK QP
                  refine Run.ends (fun _ => ?_)
                  go_wp2_with fail
                  exact ⟨⟨i + 1, by go_num, by omega, (hs'.set p xk).set k xp, HLS2.out, by first | exact HROW2.out | (rw [HLN.out]; exact HROW2.out), (M.set p (ka, (ki, kv, kl), kg)).set k (pa, (pi, pv, pl), pg), HPWN.out, HSW.out, HKF.out⟩, by simp [intOf]; omega⟩
            · have HVS : Hid (EntsIn (fun j => j < wi.heap.size) wi (.slice a7 S.length c7) S) := Lib.hid ((pw_in (HROW.out.keep HKI.out) HPW.out (nest HKW.out HKI.out)).mono (fun j hj _ => hj))
              have HVM : Hid (EntsIn (fun j => j < wi.heap.size) wi (.slice a9 S.length c9) M) := Lib.hid ((pw_in HROW'.out HPW'.out (nest HKW.out HKI.out)).mono (fun j hj _ => hj))
              have HKK := Lib.hid (nest HK5.out HKI.out)
              have HJP := Lib.hid (joinL_perm HP'.out.symm HAP.out (by omega))
              have HOKM : Hid (∀ y ∈ M, okE y) := Lib.hid (fun y hy => HOKS.out y (HP'.out.mem_iff.1 hy))
              have HMN : Hid (M.length ≤ 1000000) := Lib.hid (by rw [HML.out]; omega)
              have hex : ¬ i < tn.length ∨ (i < tn.length ∧ ¬ i < 60) ∨ (i < tn.length ∧ i < 60 ∧ S = []) := by
                by_cases q1 : i < tn.length
                · by_cases q2 : i < 60
                  · refine .inr (.inr ⟨q1, q2, List.eq_nil_of_length_eq_zero ?_⟩)
                    by_cases q3 : 0 < S.length
                    · exact absurd ⟨q1, q2, q3⟩ hcont
                    · omega
                  · exact .inr (.inl ⟨q1, q2⟩)
                · exact .inl q1
              obtain ⟨ns, hns⟩ : ∃ n, n = S.length := ⟨_, rfl⟩
              have hcond : ¬ (i : Int) < (tn.length : Int) ∨ ((i : Int) < (tn.length : Int) ∧ ¬ (i : Int) < 60) ∨ ((i : Int) < (tn.length : Int) ∧ (i : Int) < 60 ∧ ns = 0) := by
                rcases hex with q | ⟨q1, q2⟩ | ⟨q1, q2, q3⟩
                · exact .inl (by omega)
                · exact .inr (.inl ⟨by omega, by omega⟩)
                · exact .inr (.inr ⟨by omega, by omega, by rw [hns, q3]; rfl⟩)
              rw [← hns] at HVS HVM ⊢
              clear hns hex hcont HROW HROW' HPW HPW' HKI HV HR9 HK9 HKK9 HTU5 HSN HL' HLN HML
              rcases hcond with q | ⟨q1, q2⟩ | ⟨q1, q2, rfl⟩
              all_goals
                go_wp2_with fail
                refine (shnew_any wi).mono ?_
                rintro e w10 ⟨b1, W1, R1, rfl, hp1, hr1, hk1⟩
                have HP1 := Lib.hid hp1
                have HR1 := Lib.hid hr1
                have HKB1 := Lib.hid hk1
                clear hp1 hr1 hk1
                go_wp2_with fail
                refine (shnew_any w10).mono ?_
                rintro e w11 ⟨b2, W2, R2, rfl, hp2, hr2, hk2⟩
                have HT := Lib.hid (two_new (B := wi.heap.size) HP1.out hk2 hp2 hr2 HR1.out HKB1.out.size)
                have HKB := Lib.hid (nest HKB1.out hk2)
                have HVS1 := Lib.hid (HVS.out.keep HKB.out)
                clear hp2 hr2 hk2 HP1 HR1 HKB1
                go_wp2_with fail
                refine (two_join wi.heap.size b1 b2 _ [] [] S _ w11 HT.out HKB.out.size HVS1.out (fun j hj => hj) HOKS.out (by omega)).mono ?_
                rintro e w12 ⟨rfl, ht, hk⟩
                have HT2 := Lib.hid ht.swap
                have HKB2 := Lib.hid (HKB.out.trans hk)
                have HVM2 := Lib.hid (HVM.out.keep HKB2.out)
                clear ht hk HT HKB HVS1
                go_wp2_with fail
                refine (two_join wi.heap.size b2 b1 _ [] _ M _ w12 HT2.out HKB2.out.size HVM2.out (fun j hj => hj) HOKM.out HMN.out).mono ?_
                rintro e w13 ⟨rfl, ht, hk⟩
                have HT3 := Lib.hid ht.swap
                have HKK3 := Lib.hid (nest HKK.out (HKB2.out.trans hk))
                clear ht hk HT2 HKB2 HVM2 HVS HVM
                obtain ⟨JA, hJA⟩ : ∃ J, J = (joinL [] S).1 := ⟨_, rfl⟩
                obtain ⟨JB, hJB⟩ : ∃ J, J = (joinL [] M).1 := ⟨_, rfl⟩
                rw [← hJA, ← hJB] at HT3 HJP
                have hlj : (JA.length : Int) = (JB.length : Int) := by rw [HJP.out.length_eq]
                have HSC : Hid (scanL 7 7 JA = scanL 7 7 JB) := Lib.hid (scanL_eq HT3.out.uniq.1 (fun y hy => (HT3.out.uniq.2 y hy).1.1) HJP.out)
                have HAE : Hid (∀ y ∈ scanL 7 7 JA, entB y) := Lib.hid (fun y hy => (HT3.out.uniq.2 y ((scanL_whole 7 JA).mem_iff.1 hy)).1)
                clear hJA hJB HJP
                go_upto_region 24 with fail
                have hX := more (Below.refl w13.heap.size w13) (.cells #[.int .u32 7, .int .u32 7] 25)
                have HB6 := Lib.hid (Blk.new w13 25 #[.int .u32 7, .int .u32 7])
                have HT6 := Lib.hid (HT3.out.keep hX)
                have HK6 := Lib.hid (nest HKK3.out hX)
                clear hX HT3 HKK3
                generalize w13.alloc (.cells #[.int .u32 7, .int .u32 7] 25) = w14 at *
                obtain ⟨g14, hg14⟩ : ∃ g, g = w13.heap.size := ⟨_, rfl⟩
                rw [← hg14] at HB6 ⊢
                clear hg14
                refine Run.region_walk (S := fun z => Blk z g14 25 #[.int .u32 7, .int .u32 7] ∧ Below w14.heap.size w14 z)
                  lshorder.rows24 lshorder.plan24 (l := ?_) (by kernel_rfl) (by kernel_rfl) (by kernel_rfl) (by kernel_rfl) ?_ ⟨HB6.out.keep (Below.refl _ _).drew, (Below.refl _ _).drew⟩ ?_
                rotate_left
                (· simp only [lshorder.plan24, Run.stepsOf, Run.stepOf, Run.guardOf, List.getElem?_toArray, List.getElem?_cons_zero, List.getElem?_cons_succ, Option.map_some, Option.map_none, Option.bind_some, Option.toList_some, List.map_cons, List.map_nil, List.cons_append, List.nil_append, List.append_eq]
                   rfl)
                repeat ((first
                  | (refine Run.takes (v := ?_) ?_ ?_; rotate_left; (· intro w' hS'; (first | (refine exec_load_blk (n := 2) (x := .tmp 14) (l := [.int .u32 7, .int .u32 7]) ?_ Try.underlying25 span_info9 ?_ ?_ hS'.1 <;> rfl) | (go_simp; (try with_reducible rfl)))))
                  | (refine Run.takesG (v := ?_) ?_ ?_ ?_; rotate_left; (· simp only [List.getElem?_cons_zero, List.getElem?_cons_succ]); (· intro w' hS'; (first | (refine exec_load_blk (n := 2) (x := .tmp 14) (l := [.int .u32 7, .int .u32 7]) ?_ Try.underlying25 span_info9 ?_ ?_ hS'.1 <;> rfl) | (go_simp; (try with_reducible rfl)))))
                  | (refine Run.skipsT ?_ ?_; (· simp only [List.getElem?_cons_zero, List.getElem?_cons_succ]))
                  | (refine Run.skipsF ?_ ?_; (· simp only [List.getElem?_cons_zero, List.getElem?_cons_succ]))
                  | (refine Run.skipsU ?_ ?_; (· simp only [List.getElem?_cons_zero, List.getElem?_cons_succ]))
                  | (refine Run.passT ?_ ?_; (· simp only [List.getElem?_cons_zero, List.getElem?_cons_succ]))
                  | (refine Run.passF ?_ ?_; (· simp only [List.getElem?_cons_zero, List.getElem?_cons_succ]))
                  | (refine Run.passU ?_ ?_; (· simp only [List.getElem?_cons_zero, List.getElem?_cons_succ]))
                  | (refine Run.runs ?_
                     (first
                     | (refine Run.callF 10 (by kernel_rfl) (fun hS => shawake_any _) rfl ?_)
                     | (refine Run.callG 10 (by kernel_rfl) ?_ (fun hS => shawake_any _) rfl ?_; (· simp only [List.getElem?_cons_zero, List.getElem?_cons_succ]))
                     | (refine Run.callF 25 (by kernel_rfl) (fun hS => two_scan _ b1 b2 JA JB 7 7 _ (HT6.out.keep hS.2) (by omega) (by omega)) rfl ?_)
                     | (refine Run.callG 25 (by kernel_rfl) ?_ (fun hS => two_scan _ b1 b2 JA JB 7 7 _ (HT6.out.keep hS.2) (by omega) (by omega)) rfl ?_; (· simp only [List.getElem?_cons_zero, List.getElem?_cons_succ]))
                     | fail)
                     (first
                     | (rintro hS e w' ⟨vq, rfl, hvq, hb⟩; have HVQ := Lib.hid hvq; obtain ⟨aq, gq, oq, cq, rfl, _⟩ := hvq.at; refine ⟨_, rfl, ⟨hS.1.keep hb, nest hS.2 hb⟩, ?_⟩; clear hvq)
                     | (rintro hS e w' ⟨rfl, rfl⟩; refine ⟨_, rfl, hS, ?_⟩)
                     | (rintro hS e w' ⟨rfl, hb⟩; refine ⟨_, rfl, ⟨hS.1.keep hb, nest hS.2 hb⟩, ?_⟩)
                     | fail))
                  | fail); simp only [Act.put, List.setIfInBounds_toArray, List.set_cons_zero, List.set_cons_succ])
                repeat ((first
                  | (refine Run.takes (v := ?_) ?_ ?_; rotate_left; (· intro w' hS'; (first | (refine exec_load_blk (n := 2) (x := .tmp 14) (l := [.int .u32 7, .int .u32 7]) ?_ Try.underlying25 span_info9 ?_ ?_ hS'.1 <;> rfl) | (go_simp; (try with_reducible rfl)))))
                  | (refine Run.takesG (v := ?_) ?_ ?_ ?_; rotate_left; (· simp only [List.getElem?_cons_zero, List.getElem?_cons_succ]); (· intro w' hS'; (first | (refine exec_load_blk (n := 2) (x := .tmp 14) (l := [.int .u32 7, .int .u32 7]) ?_ Try.underlying25 span_info9 ?_ ?_ hS'.1 <;> rfl) | (go_simp; (try with_reducible rfl)))))
                  | (refine Run.skipsT ?_ ?_; (· simp only [List.getElem?_cons_zero, List.getElem?_cons_succ]))
                  | (refine Run.skipsF ?_ ?_; (· simp only [List.getElem?_cons_zero, List.getElem?_cons_succ]))
                  | (refine Run.skipsU ?_ ?_; (· simp only [List.getElem?_cons_zero, List.getElem?_cons_succ]))
                  | (refine Run.passT ?_ ?_; (· simp only [List.getElem?_cons_zero, List.getElem?_cons_succ]))
                  | (refine Run.passF ?_ ?_; (· simp only [List.getElem?_cons_zero, List.getElem?_cons_succ]))
                  | (refine Run.passU ?_ ?_; (· simp only [List.getElem?_cons_zero, List.getElem?_cons_succ]))
                  | (refine Run.runs ?_
                     (first
                     | (refine Run.callF 25 (by kernel_rfl) (fun hS => two_scan _ b2 b1 JB JA 7 7 _ (HT6.out.swap.keep hS.2) (by omega) (by omega)) rfl ?_)
                     | (refine Run.callG 25 (by kernel_rfl) ?_ (fun hS => two_scan _ b2 b1 JB JA 7 7 _ (HT6.out.swap.keep hS.2) (by omega) (by omega)) rfl ?_; (· simp only [List.getElem?_cons_zero, List.getElem?_cons_succ]))
                     | fail)
                     (first
                     | (rintro hS e w' ⟨vq, rfl, hvq, hb⟩; rw [← HSC.out] at hvq; have HVR := Lib.hid hvq; have HVQ2 := Lib.hid (HVQ.out.keep hb); obtain ⟨ar, gr, or', cr, rfl, _⟩ := hvq.at; refine ⟨_, rfl, ⟨hS.1.keep hb, nest hS.2 hb⟩, ?_⟩; clear hvq)
                     | (rintro hS e w' ⟨rfl, rfl⟩; refine ⟨_, rfl, hS, ?_⟩)
                     | fail))
                  | fail); simp only [Act.put, List.setIfInBounds_toArray, List.set_cons_zero, List.set_cons_succ])
                repeat ((first
                  | (refine Run.takes (v := ?_) ?_ ?_; rotate_left; (· intro w' hS'; go_simp; (try with_reducible rfl)))
                  | (refine Run.takesG (v := ?_) ?_ ?_ ?_; rotate_left; (· simp only [List.getElem?_cons_zero, List.getElem?_cons_succ]); (· intro w' hS'; go_simp; (try with_reducible rfl)))
                  | (refine Run.skipsT ?_ ?_; (· simp only [List.getElem?_cons_zero, List.getElem?_cons_succ]))
                  | (refine Run.skipsF ?_ ?_; (· simp only [List.getElem?_cons_zero, List.getElem?_cons_succ]))
                  | (refine Run.skipsU ?_ ?_; (· simp only [List.getElem?_cons_zero, List.getElem?_cons_succ]))
                  | (refine Run.passT ?_ ?_; (· simp only [List.getElem?_cons_zero, List.getElem?_cons_succ]))
                  | (refine Run.passF ?_ ?_; (· simp only [List.getElem?_cons_zero, List.getElem?_cons_succ]))
                  | (refine Run.passU ?_ ?_; (· simp only [List.getElem?_cons_zero, List.getElem?_cons_succ]))
                  | (refine Run.runs ?_
                     (first
                     | (refine Run.callF 12 (by kernel_rfl) (fun hS => entries_yes _ _ (scanL 7 7 JA) _ HVQ2.out HVR.out HAE.out) rfl ?_)
                     | (refine Run.callG 12 (by kernel_rfl) ?_ (fun hS => entries_yes _ _ (scanL 7 7 JA) _ HVQ2.out HVR.out HAE.out) rfl ?_; (· simp only [List.getElem?_cons_zero, List.getElem?_cons_succ]))
                     | fail)
                     (first
                     | (rintro hS e w' ⟨rfl, rfl⟩; refine ⟨_, rfl, hS, ?_⟩)
                     | (rintro hS e w' ⟨rfl, hb⟩; refine ⟨_, rfl, ⟨hS.1.keep hb, nest hS.2 hb⟩, ?_⟩)
                     | fail))
                  | fail); simp only [Act.put, List.setIfInBounds_toArray, List.set_cons_zero, List.set_cons_succ])
                repeat ((first
                  | (refine Run.takes (v := ?_) ?_ ?_; rotate_left; (· intro w' hS'; go_simp; (try with_reducible rfl)))
                  | (refine Run.takesG (v := ?_) ?_ ?_ ?_; rotate_left; (· simp only [List.getElem?_cons_zero, List.getElem?_cons_succ]); (· intro w' hS'; go_simp; (try with_reducible rfl)))
                  | (refine Run.skipsT ?_ ?_; (· simp only [List.getElem?_cons_zero, List.getElem?_cons_succ]))
                  | (refine Run.skipsF ?_ ?_; (· simp only [List.getElem?_cons_zero, List.getElem?_cons_succ]))
                  | (refine Run.skipsU ?_ ?_; (· simp only [List.getElem?_cons_zero, List.getElem?_cons_succ]))
                  | (refine Run.passT ?_ ?_; (· simp only [List.getElem?_cons_zero, List.getElem?_cons_succ]))
                  | (refine Run.passF ?_ ?_; (· simp only [List.getElem?_cons_zero, List.getElem?_cons_succ]))
                  | (refine Run.passU ?_ ?_; (· simp only [List.getElem?_cons_zero, List.getElem?_cons_succ]))
                  | (refine Run.runs ?_
                     (first
                     | (refine Run.callF 20 (by kernel_rfl) (fun hS => two_len _ b1 b2 JA JB _ (HT6.out.keep hS.2)) rfl ?_)
                     | (refine Run.callG 20 (by kernel_rfl) ?_ (fun hS => two_len _ b1 b2 JA JB _ (HT6.out.keep hS.2)) rfl ?_; (· simp only [List.getElem?_cons_zero, List.getElem?_cons_succ]))
                     | (refine Run.callF 20 (by kernel_rfl) (fun hS => two_len _ b2 b1 JB JA _ (HT6.out.swap.keep hS.2)) rfl ?_)
                     | (refine Run.callG 20 (by kernel_rfl) ?_ (fun hS => two_len _ b2 b1 JB JA _ (HT6.out.swap.keep hS.2)) rfl ?_; (· simp only [List.getElem?_cons_zero, List.getElem?_cons_succ]))
                     | fail)
                     (first
                     | (rintro hS e w' ⟨rfl, rfl⟩; refine ⟨_, rfl, hS, ?_⟩)
                     | (rintro hS e w' ⟨rfl, hb⟩; refine ⟨_, rfl, ⟨hS.1.keep hb, nest hS.2 hb⟩, ?_⟩)
                     | fail))
                  | fail); simp only [Act.put, List.setIfInBounds_toArray, List.set_cons_zero, List.set_cons_succ])
                refine Run.ends (fun hS => ?_)
                have HE9 := Lib.hid (nest HK6.out hS.2)
                clear hS
                go_wp2_with fail
                go_ret
                exact ⟨rfl, HE9.out⟩
end Go.Proofs.Ytmcnfndebmcapaa.shelfOrder
