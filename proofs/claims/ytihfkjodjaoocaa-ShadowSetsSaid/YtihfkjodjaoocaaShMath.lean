/- The mathematics of shelves: keys, what Put and Join leave, whatever the order; scans, sorted. -/
import Derived.Test.YtihfkjodjaoocaaShCut
import Derived.Test.YtihfkjodjaoocaaShJoin
set_option maxRecDepth 4000
namespace Go.Proofs.Ytihfkjodjaoocaa
set_option linter.unusedSimpArgs false
set_option linter.unusedVariables false

/-- an entry that a shelf may hold -/
def okE (y : Ent) : Prop := entB y ∧ y.2.1.2.2.length ≤ 35184372087808
/-- what an entry is found by -/
def keyP (y : Ent) : Int × Int := (y.1, y.2.1.1)
/-- one entry for each key -/
def UniqK (L : List Ent) : Prop := (L.map keyP).Nodup
theorem keyE_iff (v i : Int) (y : Ent) : keyE v i y = true ↔ keyP y = (v, i) := by simp [keyE, keyP]
theorem UniqK.nodup {L : List Ent} (h : UniqK L) : L.Nodup := by
  unfold UniqK List.Nodup at h
  rw [List.pairwise_map] at h
  exact h.imp fun hne e => hne (by rw [e])
theorem UniqK.inj {L : List Ent} (h : UniqK L) {x y : Ent} (hx : x ∈ L) (hy : y ∈ L) (hk : keyP x = keyP y) : x = y := by
  induction L with
  | nil => cases hx
  | cons z L ih =>
    unfold UniqK at h
    rw [List.map_cons, List.nodup_cons] at h
    rcases List.mem_cons.1 hx with hx1 | hx1
    · rcases List.mem_cons.1 hy with hy1 | hy1
      · rw [hx1, hy1]
      · exact absurd (List.mem_map.2 ⟨y, hy1, by rw [← hk, hx1]⟩) h.1
    · rcases List.mem_cons.1 hy with hy1 | hy1
      · exact absurd (List.mem_map.2 ⟨x, hx1, by rw [hk, hy1]⟩) h.1
      · exact ih h.2 hx1 hy1
theorem UniqK.perm {L L' : List Ent} (h : UniqK L) (p : L.Perm L') : UniqK L' := (p.map keyP).nodup_iff.1 h
theorem UniqK.filter {L : List Ent} (h : UniqK L) (p : Ent → Bool) : UniqK (L.filter p) := by
  unfold UniqK at *
  exact List.Nodup.sublist ((List.filter_sublist).map keyP) h
theorem posE_lt {L : List Ent} {v i : Int} : posE L v i < L.length ↔ ∃ y ∈ L, keyP y = (v, i) := by
  unfold posE
  rw [List.findIdx_lt_length]
  exact ⟨fun ⟨y, h1, h2⟩ => ⟨y, h1, (keyE_iff v i y).1 h2⟩, fun ⟨y, h1, h2⟩ => ⟨y, h1, (keyE_iff v i y).2 h2⟩⟩
theorem posE_key {L : List Ent} {v i : Int} (h : posE L v i < L.length) : L.getD (posE L v i) e0 ∈ L ∧ keyP (L.getD (posE L v i) e0) = (v, i) := by
  rw [show L.getD (posE L v i) e0 = L[posE L v i] by simp [List.getD, h]]
  exact ⟨List.getElem_mem h, (keyE_iff v i _).1 (List.findIdx_getElem (w := h))⟩
/-- what Put does, in cases -/
theorem putL_cases (L : List Ent) (y : Ent) (hu : UniqK L) :
    (∃ z, z ∈ L ∧ keyP z = keyP y ∧ newerV y.2.1.2.1 y.2.2 z.2.1.2.1 z.2.2 = true ∧ (putL L y).2 = (true, 0) ∧ UniqK (putL L y).1 ∧ (putL L y).1.length = L.length ∧ ∀ x, x ∈ (putL L y).1 ↔ x = y ∨ (x ∈ L ∧ keyP x ≠ keyP y)) ∨
    (∃ z, z ∈ L ∧ keyP z = keyP y ∧ newerV y.2.1.2.1 y.2.2 z.2.1.2.1 z.2.2 = false ∧ putL L y = (L, false, 0)) ∨
    ((∀ z ∈ L, keyP z ≠ keyP y) ∧ 10000 ≤ L.length ∧ putL L y = (L, false, 5)) ∨
    ((∀ z ∈ L, keyP z ≠ keyP y) ∧ L.length < 10000 ∧ putL L y = (L ++ [y], true, 0) ∧ UniqK (L ++ [y])) := by
  by_cases hp : posE L y.1 y.2.1.1 < L.length
  · obtain ⟨hm, hk⟩ := posE_key hp
    have hk : keyP (L.getD (posE L y.1 y.2.1.1) e0) = keyP y := hk
    have hget : L.getD (posE L y.1 y.2.1.1) e0 = L[posE L y.1 y.2.1.1] := by simp [List.getD, hp]
    cases hn : newerV y.2.1.2.1 y.2.2 (L.getD (posE L y.1 y.2.1.1) e0).2.1.2.1 (L.getD (posE L y.1 y.2.1.1) e0).2.2 with
    | true =>
      have hP : putL L y = (L.set (posE L y.1 y.2.1.1) y, true, 0) := by unfold putL; rw [if_pos hp, if_pos hn]
      refine .inl ⟨_, hm, hk, hn, by rw [hP], ?_, by rw [hP]; simp, fun x => ?_⟩
      · rw [hP]
        unfold UniqK at *
        have : (L.set (posE L y.1 y.2.1.1) y).map keyP = L.map keyP := by
          rw [List.map_set, ← hk, hget]
          have : keyP L[posE L y.1 y.2.1.1] = (L.map keyP)[posE L y.1 y.2.1.1]'(by simpa using hp) := by simp
          rw [this, List.set_getElem_self]
        rw [this]
        exact hu
      · rw [hP]
        show x ∈ L.set (posE L y.1 y.2.1.1) y ↔ _
        rw [hget] at hk hm
        generalize posE L y.1 y.2.1.1 = k at *
        constructor
        · intro hx
          obtain ⟨i, hi, rfl⟩ := List.getElem_of_mem hx
          rw [List.getElem_set]
          rw [List.length_set] at hi
          split
          · exact .inl rfl
          · rename_i hne
            refine .inr ⟨List.getElem_mem hi, fun e => hne ?_⟩
            have := hu.inj (List.getElem_mem hi) hm (e.trans hk.symm)
            exact ((List.getElem_inj hu.nodup).1 this).symm
        · rintro (rfl | ⟨hx, hne⟩)
          · exact List.mem_set hp _
          · obtain ⟨i, hi, rfl⟩ := List.getElem_of_mem hx
            have hik : k ≠ i := by
              rintro rfl
              exact hne hk
            exact List.mem_iff_getElem.2 ⟨i, by simpa using hi, by rw [List.getElem_set_ne hik]⟩
    | false =>
      refine .inr (.inl ⟨_, hm, hk, hn, ?_⟩)
      unfold putL
      rw [if_pos hp, if_neg (by rw [hn]; decide)]
  · have hno : ∀ z ∈ L, keyP z ≠ keyP y := fun z hz hk => hp (posE_lt.2 ⟨z, hz, hk⟩)
    by_cases hf : 10000 ≤ L.length
    · exact .inr (.inr (.inl ⟨hno, hf, by unfold putL; rw [if_neg hp, if_pos hf]⟩))
    · refine .inr (.inr (.inr ⟨hno, by omega, by unfold putL; rw [if_neg hp, if_neg hf], ?_⟩))
      unfold UniqK at *
      rw [List.map_append, List.nodup_append]
      refine ⟨hu, by simp, fun a ha b hb => ?_⟩
      simp at hb
      subst hb
      obtain ⟨z, hz, rfl⟩ := List.mem_map.1 ha
      exact hno z hz
theorem putL_uniq {L : List Ent} (y : Ent) (hu : UniqK L) : UniqK (putL L y).1 := by
  rcases putL_cases L y hu with ⟨z, _, _, _, _, h, _⟩ | ⟨z, _, _, _, h⟩ | ⟨_, _, h⟩ | ⟨_, _, h, h2⟩
  · exact h
  · rw [h]; exact hu
  · rw [h]; exact hu
  · rw [h]; exact h2
theorem joinL_snoc (L l : List Ent) (y : Ent) : joinL L (l ++ [y]) = ((putL (joinL L l).1 y).1, (joinL L l).2 + (if (putL (joinL L l).1 y).2.1 then 1 else 0)) := by
  unfold joinL
  rw [List.foldl_append]
  rfl
theorem snoc_ind {P : List Ent → Prop} (h0 : P []) (h1 : ∀ l y, P l → P (l ++ [y])) : ∀ l, P l := by
  intro l
  rw [← List.reverse_reverse l]
  induction l.reverse with
  | nil => exact h0
  | cons y l ih => rw [List.reverse_cons]; exact h1 _ _ ih
theorem joinL_uniq {L : List Ent} (l : List Ent) (hu : UniqK L) : UniqK (joinL L l).1 := by
  refine snoc_ind (P := fun l => UniqK (joinL L l).1) hu (fun l y ih => ?_) l
  rw [joinL_snoc]
  exact putL_uniq y ih
theorem joinL_count (L l : List Ent) : (joinL L l).1.length ≤ L.length + l.length ∧ (joinL L l).2 ≤ l.length := by
  have h := joinL_len L l l.length (Nat.le_refl _)
  rw [List.take_length] at h
  exact h
theorem newer_total (v1 : Int) (g1 : Bool) (v2 : Int) (g2 : Bool) : newerV v1 g1 v2 g2 = true ∨ newerV v2 g2 v1 g1 = true ∨ (v1 = v2 ∧ g1 = g2) := by
  unfold newerV
  rcases Int.lt_trichotomy v1 v2 with h | h | h
  · rw [if_neg (by omega : ¬ v2 = v1)]; exact .inr (.inl (by simp; omega))
  · subst h; rw [if_pos rfl, if_pos rfl]; cases g1 <;> cases g2 <;> simp
  · rw [if_neg (by omega : ¬ v1 = v2)]; exact .inl (by simp; omega)
theorem newer_asymm {v1 : Int} {g1 : Bool} {v2 : Int} {g2 : Bool} (h : newerV v1 g1 v2 g2 = true) : newerV v2 g2 v1 g1 = false := by
  unfold newerV at *
  by_cases e : v1 = v2
  · subst e; rw [if_pos rfl] at *; cases g1 <;> cases g2 <;> simp_all
  · rw [if_neg e] at h; rw [if_neg (fun e' => e e'.symm)]; simp at *; omega
theorem newer_trans {v1 : Int} {g1 : Bool} {v2 : Int} {g2 : Bool} {v3 : Int} {g3 : Bool} (h : newerV v1 g1 v2 g2 = true) (h' : newerV v2 g2 v3 g3 = true) : newerV v1 g1 v3 g3 = true := by
  unfold newerV at *
  by_cases e : v1 = v2
  · subst e
    rw [if_pos rfl] at h
    by_cases e' : v1 = v3
    · subst e'; rw [if_pos rfl] at *; cases g1 <;> cases g2 <;> cases g3 <;> simp_all
    · rw [if_neg e'] at *; exact h'
  · rw [if_neg e] at h
    by_cases e' : v2 = v3
    · subst e'; rw [if_neg e]; exact h
    · rw [if_neg e'] at h'
      simp only [decide_eq_true_eq] at h h'
      rw [if_neg (by omega)]
      simp; omega
def newerE (x y : Ent) : Prop := newerV x.2.1.2.1 x.2.2 y.2.1.2.1 y.2.2 = true
/-- no two of one key are alike in version and gone -/
def Apart (l : List Ent) : Prop := ∀ x ∈ l, ∀ y ∈ l, keyP x = keyP y → x.2.1.2.1 = y.2.1.2.1 → x.2.2 = y.2.2 → x = y
/-- whatever came, its key is there -/
theorem joinL_has : ∀ l : List Ent, l.length ≤ 10000 → ∀ x ∈ l, ∃ z ∈ (joinL [] l).1, keyP z = keyP x := by
  refine snoc_ind (by intro _ x hx; cases hx) (fun l q ih => ?_)
  intro hlen x hx
  have ih := ih (by simp at hlen; omega)
  have hu : UniqK (joinL [] l).1 := joinL_uniq l (by simp [UniqK])
  have hcnt := (joinL_count [] l).1
  rw [joinL_snoc]
  show ∃ z ∈ (putL (joinL [] l).1 q).1, _
  rcases putL_cases (joinL [] l).1 q hu with ⟨z, hz, hkz, hnz, _, _, _, hmem⟩ | ⟨z, hz, hkz, hnz, hP⟩ | ⟨_, hfull, _⟩ | ⟨hno, _, hP, _⟩
  · by_cases hk : keyP x = keyP q
    · exact ⟨q, (hmem q).2 (.inl rfl), hk.symm⟩
    · rcases List.mem_append.1 hx with hx | hx
      · obtain ⟨y, hy, hyk⟩ := ih x hx
        exact ⟨y, (hmem y).2 (.inr ⟨hy, fun e => hk (hyk.symm.trans e)⟩), hyk⟩
      · simp at hx; subst hx; exact absurd rfl hk
  · rw [hP]
    rcases List.mem_append.1 hx with hx | hx
    · exact ih x hx
    · simp at hx; subst hx; exact ⟨z, hz, hkz⟩
  · simp at hlen hcnt; omega
  · rw [hP]
    rcases List.mem_append.1 hx with hx | hx
    · obtain ⟨y, hy, hyk⟩ := ih x hx
      exact ⟨y, List.mem_append_left _ hy, hyk⟩
    · simp at hx; subst hx; exact ⟨x, List.mem_append_right _ (by simp), rfl⟩
/-- the newest of each key are there, whatever the order -/
theorem joinL_newest : ∀ l : List Ent, Apart l → l.length ≤ 10000 → ∀ y, y ∈ (joinL [] l).1 ↔ y ∈ l ∧ ∀ z ∈ l, keyP z = keyP y → z = y ∨ newerE y z := by
  refine snoc_ind (by intro _ _ y; simp [joinL]) (fun l q ih => ?_)
  intro hA hlen
  have hA' : Apart l := fun x hx y hy => hA x (List.mem_append_left _ hx) y (List.mem_append_left _ hy)
  have ih := ih hA' (by simp at hlen; omega)
  have hu : UniqK (joinL [] l).1 := joinL_uniq l (by simp [UniqK])
  have hcnt := (joinL_count [] l).1
  intro y
  rw [joinL_snoc]
  show y ∈ (putL (joinL [] l).1 q).1 ↔ _
  have hql : q ∈ l ++ [q] := List.mem_append_right _ (by simp)
  rcases putL_cases (joinL [] l).1 q hu with ⟨z, hz, hkz, hnz, _, _, _, hmem⟩ | ⟨z, hz, hkz, hnz, hP⟩ | ⟨_, hfull, _⟩ | ⟨hno, _, hP, _⟩
  · rw [hmem]
    have hzl := (ih z).1 hz
    constructor
    · rintro (rfl | ⟨hy, hne⟩)
      · refine ⟨hql, fun x hx hkx => ?_⟩
        rcases List.mem_append.1 hx with hx | hx
        · rcases hzl.2 x hx (hkx.trans hkz.symm) with rfl | hn
          · exact .inr hnz
          · exact .inr (newer_trans hnz hn)
        · simp at hx; exact .inl hx
      · have := (ih y).1 hy
        refine ⟨List.mem_append_left _ this.1, fun x hx hkx => ?_⟩
        rcases List.mem_append.1 hx with hx | hx
        · exact this.2 x hx hkx
        · simp at hx; subst hx; exact absurd hkx.symm hne
    · rintro ⟨hy, hall⟩
      by_cases hkq : keyP q = keyP y
      · rcases hall q hql hkq with rfl | hn
        · exact .inl rfl
        · rcases hall z (List.mem_append_left _ hzl.1) (hkz.trans hkq) with rfl | hn2
          · have := newer_asymm hnz; rw [show newerV z.2.1.2.1 z.2.2 q.2.1.2.1 q.2.2 = true from hn] at this; cases this
          · rcases List.mem_append.1 hy with hy | hy
            · rcases hzl.2 y hy (hkq.symm.trans hkz.symm) with rfl | hn3
              · have := newer_asymm hnz; rw [show newerV y.2.1.2.1 y.2.2 q.2.1.2.1 q.2.2 = true from hn] at this; cases this
              · have := newer_asymm hn3; rw [show newerV y.2.1.2.1 y.2.2 z.2.1.2.1 z.2.2 = true from hn2] at this; cases this
            · simp at hy; exact .inl hy
      · rcases List.mem_append.1 hy with hy | hy
        · exact .inr ⟨(ih y).2 ⟨hy, fun x hx hkx => hall x (List.mem_append_left _ hx) hkx⟩, fun e => hkq e.symm⟩
        · simp at hy; subst hy; exact absurd rfl hkq
  · rw [hP]
    show y ∈ (joinL [] l).1 ↔ _
    have hzl := (ih z).1 hz
    rw [ih]
    constructor
    · rintro ⟨hy, hall⟩
      refine ⟨List.mem_append_left _ hy, fun x hx hkx => ?_⟩
      rcases List.mem_append.1 hx with hx | hx
      · exact hall x hx hkx
      · simp at hx
        subst hx
        have hyz : z = y := by
          rcases hall z hzl.1 (hkz.trans hkx) with e | hn
          · exact e
          · rcases hzl.2 y hy (hkx.symm.trans hkz.symm) with e | hn2
            · exact e.symm
            · have := newer_asymm hn; rw [show newerV z.2.1.2.1 z.2.2 y.2.1.2.1 y.2.2 = true from hn2] at this; cases this
        subst hyz
        rcases newer_total x.2.1.2.1 x.2.2 z.2.1.2.1 z.2.2 with h | h | ⟨h1, h2⟩
        · rw [hnz] at h; cases h
        · exact .inr h
        · exact .inl (hA x hql z (List.mem_append_left _ hy) hkx h1 h2)
    · rintro ⟨hy, hall⟩
      rcases List.mem_append.1 hy with hy | hy
      · exact ⟨hy, fun x hx hkx => hall x (List.mem_append_left _ hx) hkx⟩
      · simp at hy
        subst hy
        rcases hall z (List.mem_append_left _ hzl.1) hkz with rfl | hn
        · exact ⟨hzl.1, fun x hx hkx => hall x (List.mem_append_left _ hx) hkx⟩
        · rw [show newerV y.2.1.2.1 y.2.2 z.2.1.2.1 z.2.2 = true from hn] at hnz; cases hnz
  · simp at hlen hcnt; omega
  · rw [hP]
    show y ∈ (joinL [] l).1 ++ [q] ↔ _
    have hnol : ∀ x ∈ l, keyP x ≠ keyP q := by
      intro x hx hkx
      obtain ⟨z, hz, hkz⟩ := joinL_has l (by simp at hlen; omega) x hx
      exact hno z hz (hkz.trans hkx)
    rw [List.mem_append, ih]
    constructor
    · rintro (⟨hy, hall⟩ | hy)
      · refine ⟨List.mem_append_left _ hy, fun x hx hkx => ?_⟩
        rcases List.mem_append.1 hx with hx | hx
        · exact hall x hx hkx
        · simp at hx; subst hx; exact absurd hkx.symm (hnol y hy)
      · simp at hy
        subst hy
        refine ⟨hql, fun x hx hkx => ?_⟩
        rcases List.mem_append.1 hx with hx | hx
        · exact absurd hkx (hnol x hx)
        · simp at hx; exact .inl hx
    · rintro ⟨hy, hall⟩
      rcases List.mem_append.1 hy with hy | hy
      · exact .inl ⟨hy, fun x hx hkx => hall x (List.mem_append_left _ hx) hkx⟩
      · exact .inr hy
theorem joinL_perm {l l' : List Ent} (p : l.Perm l') (hA : Apart l) (hn : l.length ≤ 10000) : (joinL [] l).1.Perm (joinL [] l').1 := by
  have hA' : Apart l' := fun x hx y hy => hA x (p.mem_iff.2 hx) y (p.mem_iff.2 hy)
  refine (List.perm_ext_iff_of_nodup (joinL_uniq l (by simp [UniqK])).nodup (joinL_uniq l' (by simp [UniqK])).nodup).2 fun y => ?_
  rw [joinL_newest l hA hn, joinL_newest l' hA' (by rw [← p.length_eq]; exact hn), p.mem_iff]
  exact and_congr Iff.rfl ⟨fun h z hz => h z (p.mem_iff.2 hz), fun h z hz => h z (p.mem_iff.1 hz)⟩

/-! ### scans -/
def okV (y : Ent) : Prop := 0 ≤ y.1 ∧ y.1 ≤ 4294967295
theorem stepE_range (f v : Int) : 0 ≤ stepE f v ∧ stepE f v < 4294967296 := by unfold stepE; omega
theorem stepE_inj {f v v' : Int} (h : 0 ≤ v ∧ v ≤ 4294967295) (h' : 0 ≤ v' ∧ v' ≤ 4294967295) (e : stepE f v = stepE f v') : v = v' := by unfold stepE at e; omega
def Ahead (f : Int) (x y : Ent) : Prop := aheadE f x y = true
theorem ahead_iff {f : Int} {x y : Ent} : Ahead f x y ↔ stepE f x.1 < stepE f y.1 ∨ (stepE f x.1 = stepE f y.1 ∧ x.2.1.1 < y.2.1.1) := by simp [Ahead, aheadE]
theorem ahead_trans {f : Int} {x y z : Ent} (h : Ahead f x y) (h' : Ahead f y z) : Ahead f x z := by
  rw [ahead_iff] at *; omega
theorem ahead_asymm {f : Int} {x y : Ent} (h : Ahead f x y) : ¬ Ahead f y x := by
  rw [ahead_iff] at *; omega
theorem ahead_total {f : Int} {x y : Ent} (hx : okV x) (hy : okV y) (hk : keyP x ≠ keyP y) : Ahead f x y ∨ Ahead f y x := by
  simp only [ahead_iff]
  by_cases e : stepE f x.1 = stepE f y.1
  · have hv := stepE_inj hx hy e
    have hi : x.2.1.1 ≠ y.2.1.1 := fun e2 => hk (by simp [keyP, hv, e2])
    omega
  · omega
theorem insK_spec (f : Int) (y : Ent) (M : List Ent) : ∀ k, k ≤ M.length → (∀ j, insK f y M k ≤ j → j < k → Ahead f y (M.getD j e0)) ∧ (0 < insK f y M k → ¬ Ahead f y (M.getD (insK f y M k - 1) e0)) := by
  intro k
  induction k with
  | zero => intro _; exact ⟨fun j _ h => absurd h (Nat.not_lt_zero _), fun h => absurd h (by simp [insK])⟩
  | succ k ih =>
    intro hk
    have ih := ih (by omega)
    unfold insK
    by_cases ha : aheadE f y (M.getD k e0) = true
    · rw [if_pos ha]
      refine ⟨fun j h1 h2 => ?_, ih.2⟩
      by_cases hjk : j = k
      · subst hjk; exact ha
      · exact ih.1 j h1 (by omega)
    · rw [if_neg ha]
      exact ⟨fun j h1 h2 => by omega, fun _ => ha⟩
theorem insE_sorted {f : Int} {y : Ent} {M : List Ent} (hs : M.Pairwise (Ahead f)) (hy : okV y) (hM : ∀ x ∈ M, okV x ∧ keyP x ≠ keyP y) : (insE f y M).Pairwise (Ahead f) := by
  have hk := insK_le f y M M.length
  obtain ⟨h1, h2⟩ := insK_spec f y M M.length (Nat.le_refl _)
  generalize hK : insK f y M M.length = K at *
  unfold insE
  rw [hK]
  have hget : ∀ j (hj : j < M.length), M.getD j e0 = M[j] := fun j hj => by simp [List.getD, hj]
  have hpw : ∀ i j (hi : i < M.length) (hj : j < M.length), i < j → Ahead f M[i] M[j] := fun i j hi hj hij => List.pairwise_iff_getElem.1 hs i j hi hj hij
  have hbefore : ∀ x ∈ M.take K, Ahead f x y := by
    intro x hx
    obtain ⟨i, hi, rfl⟩ := List.getElem_of_mem hx
    rw [List.length_take] at hi
    rw [List.getElem_take]
    have hpos : 0 < K := by omega
    have hlast : Ahead f M[K - 1] y := by
      have hn := h2 hpos
      rw [hget (K - 1) (by omega)] at hn
      have hm := hM M[K - 1] (List.getElem_mem (by omega))
      rcases ahead_total (f := f) hm.1 hy hm.2 with h | h
      · exact h
      · exact absurd h hn
    by_cases hik : i = K - 1
    · subst hik; exact hlast
    · exact ahead_trans (hpw i (K - 1) (by omega) (by omega) (by omega)) hlast
  have hbehind : ∀ x ∈ M.drop K, Ahead f y x := by
    intro x hx
    obtain ⟨i, hi, rfl⟩ := List.getElem_of_mem hx
    rw [List.length_drop] at hi
    rw [List.getElem_drop]
    have := h1 (K + i) (by omega) (by omega)
    rwa [hget (K + i) (by omega)] at this
  rw [List.pairwise_append]
  refine ⟨hs.sublist (List.take_sublist _ _), ?_, fun a ha b hb => ?_⟩
  · rw [List.singleton_append, List.pairwise_cons]
    exact ⟨hbehind, hs.sublist (List.drop_sublist _ _)⟩
  · rcases List.mem_append.1 hb with hb | hb
    · simp at hb; subst hb; exact hbefore a ha
    · exact ahead_trans (hbefore a ha) (hbehind b hb)
theorem insE_perm (f : Int) (y : Ent) (M : List Ent) : (insE f y M).Perm (M ++ [y]) := by
  unfold insE
  generalize insK f y M M.length = K
  have h : (M.take K ++ ([y] ++ M.drop K)).Perm (M.take K ++ (M.drop K ++ [y])) := List.Perm.append_left _ List.perm_append_comm
  have e : M.take K ++ (M.drop K ++ [y]) = M ++ [y] := by rw [← List.append_assoc, List.take_append_drop]
  rwa [e] at h
theorem scanL_snoc (f t : Int) (l : List Ent) (y : Ent) : scanL f t (l ++ [y]) = if hasV f t y.1 = true then insE f y (scanL f t l) else scanL f t l := by
  unfold scanL
  rw [List.foldl_append]
  rfl
theorem scanL_perm (f t : Int) : ∀ L : List Ent, (scanL f t L).Perm (L.filter fun y => hasV f t y.1) := by
  refine snoc_ind (by simp [scanL]) (fun l y ih => ?_)
  rw [scanL_snoc, List.filter_append]
  by_cases h : hasV f t y.1 = true
  · rw [if_pos h]
    have e : [y].filter (fun y => hasV f t y.1) = [y] := by simp [h]
    rw [e]
    exact (insE_perm f y _).trans (ih.append_right _)
  · rw [if_neg h]
    have e : [y].filter (fun y => hasV f t y.1) = [] := by simp [h]
    rw [e, List.append_nil]
    exact ih
theorem scanL_sorted (f t : Int) : ∀ L : List Ent, UniqK L → (∀ y ∈ L, okV y) → (scanL f t L).Pairwise (Ahead f) := by
  refine snoc_ind (by intro _ _; simp [scanL]) (fun l y ih => ?_)
  intro hu hv
  have hu' := hu
  unfold UniqK at hu
  rw [List.map_append, List.nodup_append] at hu
  have ih := ih hu.1 (fun x hx => hv x (List.mem_append_left _ hx))
  rw [scanL_snoc]
  split
  · refine insE_sorted ih (hv y (List.mem_append_right _ (by simp))) fun x hx => ?_
    have hx2 := (List.mem_filter.1 ((scanL_perm f t l).mem_iff.1 hx)).1
    exact ⟨hv x (List.mem_append_left _ hx2), fun e => hu.2.2 _ (List.mem_map.2 ⟨x, hx2, rfl⟩) _ (by simp) e⟩
  · exact ih
theorem sorted_eq {f : Int} {M M' : List Ent} (h : M.Pairwise (Ahead f)) (h' : M'.Pairwise (Ahead f)) (p : M.Perm M') : M = M' :=
  List.Perm.eq_of_pairwise (le := Ahead f) (fun a b _ _ h1 h2 => absurd h2 (ahead_asymm h1)) h h' p
theorem scanL_eq {f t : Int} {L L' : List Ent} (hu : UniqK L) (hv : ∀ y ∈ L, okV y) (p : L.Perm L') : scanL f t L = scanL f t L' :=
  sorted_eq (scanL_sorted f t L hu hv) (scanL_sorted f t L' (hu.perm p) (fun y hy => hv y (p.mem_iff.2 hy))) ((scanL_perm f t L).trans ((p.filter _).trans (scanL_perm f t L').symm))
/-- a sorted list of the same entries is what is scanned -/
theorem scanL_is {f t : Int} {L M : List Ent} (hu : UniqK L) (hv : ∀ y ∈ L, okV y) (hM : M.Pairwise (Ahead f)) (p : M.Perm (L.filter fun y => hasV f t y.1)) : scanL f t L = M :=
  sorted_eq (scanL_sorted f t L hu hv) hM ((scanL_perm f t L).trans p.symm)
theorem hasV_whole (f v : Int) : hasV f f v = true := by
  unfold hasV Cir.beh
  simp
  omega
theorem scanL_whole (f : Int) (L : List Ent) : (scanL f f L).Perm L := by
  have h := scanL_perm f f L
  have e : L.filter (fun y => hasV f f y.1) = L := List.filter_eq_self.2 (fun y _ => hasV_whole f y.1)
  rwa [e] at h
/-! ### cuts -/
theorem scanL_rest (f t : Int) (L : List Ent) : scanL f t (restL f t L) = [] := by
  have h := scanL_perm f t (restL f t L)
  have e : (restL f t L).filter (fun y => hasV f t y.1) = [] := by
    unfold restL
    rw [List.filter_filter]
    exact List.filter_eq_nil_iff.2 (fun y _ => by simp)
  rw [e] at h
  exact h.eq_nil
theorem cut_perm (f t : Int) (L : List Ent) : (restL f t L ++ scanL f t L).Perm L := by
  have h : (restL f t L ++ scanL f t L).Perm (L.filter (fun y => !hasV f t y.1) ++ L.filter fun y => hasV f t y.1) := (scanL_perm f t L).append_left _
  refine h.trans ?_
  exact List.perm_append_comm.trans (List.filter_append_perm (fun y => hasV f t y.1) L)
theorem joinL_new : ∀ (l L : List Ent), UniqK (L ++ l) → L.length + l.length ≤ 10000 → joinL L l = (L ++ l, l.length) := by
  refine snoc_ind (by intro L _ _; simp [joinL]) (fun l y ih => ?_)
  intro L hu hn
  have hu' := hu
  rw [← List.append_assoc] at hu
  unfold UniqK at hu
  rw [List.map_append, List.nodup_append] at hu
  have hn : L.length + (l.length + 1) ≤ 10000 := by simpa using hn
  rw [joinL_snoc, ih L hu.1 (by omega)]
  rcases putL_cases (L ++ l) y hu.1 with ⟨z, hz, hkz, _⟩ | ⟨z, hz, hkz, _⟩ | ⟨_, hfull, _⟩ | ⟨hno, _, hP, _⟩
  · exact absurd hkz (hu.2.2 _ (List.mem_map.2 ⟨z, hz, rfl⟩) _ (by simp))
  · exact absurd hkz (hu.2.2 _ (List.mem_map.2 ⟨z, hz, rfl⟩) _ (by simp))
  · simp at hfull; omega
  · simp only []
    rw [hP]
    simp
/-- the order in which all entries come, from 0 on -/
def Up (x y : Ent) : Prop := x.1 < y.1 ∨ (x.1 = y.1 ∧ x.2.1.1 < y.2.1.1)
theorem up_ahead {x y : Ent} (hx : okV x) (hy : okV y) : Up x y ↔ Ahead 4294967295 x y := by
  unfold okV at *
  rw [ahead_iff]
  unfold Up stepE
  omega
/-- from anywhere on: those behind, then those ahead -/
theorem scan_turned (f : Int) (hf : 0 ≤ f ∧ f ≤ 4294967295) {L : List Ent} (hu : UniqK L) (hv : ∀ y ∈ L, okV y) :
    scanL f f L = (scanL 4294967295 4294967295 L).filter (fun y => decide (y.1 > f)) ++ (scanL 4294967295 4294967295 L).filter (fun y => !decide (y.1 > f)) := by
  have hs := scanL_sorted 4294967295 4294967295 L hu hv
  have hp := scanL_whole 4294967295 L
  generalize scanL 4294967295 4294967295 L = A at *
  have hvA : ∀ y ∈ A, okV y := fun y hy => hv y (hp.mem_iff.1 hy)
  refine scanL_is hu hv ?_ ?_
  · rw [List.pairwise_append]
    have key : ∀ x ∈ A, ∀ y ∈ A, Ahead 4294967295 x y → (x.1 > f ↔ y.1 > f) → Ahead f x y := by
      intro x hx y hy h hxy
      have h1 := hvA x hx
      have h2 := hvA y hy
      rw [ahead_iff] at *
      unfold okV stepE at *
      omega
    refine ⟨?_, ?_, fun x hx y hy => ?_⟩
    · refine List.Pairwise.imp_of_mem (fun {x y} hx hy h => ?_) (hs.sublist List.filter_sublist)
      have hx := List.mem_filter.1 hx
      have hy := List.mem_filter.1 hy
      exact key x hx.1 y hy.1 h (by have := hx.2; have := hy.2; simp at *; omega)
    · refine List.Pairwise.imp_of_mem (fun {x y} hx hy h => ?_) (hs.sublist List.filter_sublist)
      have hx := List.mem_filter.1 hx
      have hy := List.mem_filter.1 hy
      exact key x hx.1 y hy.1 h (by have := hx.2; have := hy.2; simp at *; omega)
    · have hx := List.mem_filter.1 hx
      have hy := List.mem_filter.1 hy
      have h1 := hvA x hx.1
      have h2 := hvA y hy.1
      have h3 := hx.2
      have h4 := hy.2
      simp at h3 h4
      rw [ahead_iff]
      unfold okV stepE at *
      omega
  · have e : L.filter (fun y => hasV f f y.1) = L := List.filter_eq_self.2 (fun y _ => hasV_whole f y.1)
    rw [e]
    exact (List.filter_append_perm _ A).trans hp
end Go.Proofs.Ytihfkjodjaoocaa
