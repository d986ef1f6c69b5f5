/- Maps in memory, told by the list of what they hold, in whatever order: what each operation on one does; a loop over one (or over a nil one), whichever entry comes next. -/
import Derived.Test.YtgkmkpkbdmciiaaMem
import Derived.Maps.RangeWalk
import Derived.DeepKeys4
set_option maxRecDepth 4000
namespace Go.Proofs.Ytgkmkpkbdmciiaa.Mem
open Go Go.RowKit Go.MapKept
open Go.ChangeMaps (setBlock)
open Go.Maps (Keyed)
set_option linter.unusedVariables false
set_option linter.unusedSimpArgs false

variable {P : Program} {k : TypeId} {α : Type} {f : α → Value × Value} {w w' : World} {g : Nat} {M : List α}
/-- a map that holds just these -/
def MapAt (P : Program) (k : TypeId) (f : α → Value × Value) (w : World) (g : Nat) (M : List α) : Prop :=
  ∃ es clock, w.heap[g]? = some (.map es clock) ∧ Stamped es clock ∧ (∀ x ∈ es.toList, ∃ l, keyOf P k x.key = some l) ∧ es.toList.map (fun x => (x.key, x.val)) = M.map f
theorem MapAt.lt (h : MapAt P k f w g M) : g < w.heap.size := by
  obtain ⟨es, clock, hb, _⟩ := h
  exact (Array.getElem?_eq_some_iff.1 hb).1
theorem MapAt.turned {S : Nat → Prop} (h : MapAt P k f w g M) (t : Turned S w w') (hs : ¬ S g) : MapAt P k f w' g M := by
  have hlt := h.lt
  obtain ⟨es, clock, hb, r⟩ := h
  exact ⟨es, clock, (t.block g hlt hs).trans hb, r⟩
theorem MapAt.keep (h : MapAt P k f w g M) (t : Below w.heap.size w w') : MapAt P k f w' g M := h.turned (S := fun _ => False) (Turned.of_below t) (fun h => h)
theorem MapAt.only {b : Nat} (h : MapAt P k f w g M) (t : Only b w w') (hs : g ≠ b) : MapAt P k f w' g M := h.turned (S := fun j => j = b) (Turned.of_only t rfl) hs
theorem MapAt.ne_blk (h : MapAt P k f w g M) {b : Nat} {t : TypeId} {cs : Array Value} (hb : Blk w b t cs) : g ≠ b := by
  obtain ⟨es, clock, h, _⟩ := h
  intro e
  subst e
  unfold Blk at hb
  rw [hb] at h
  cases h
theorem MapAt.keys (h : MapAt P k f w g M) : (M.map fun a => (f a).1).Nodup := by
  obtain ⟨es, clock, hb, st, hk, he⟩ := h
  have h3 := ((stamped_iff es clock).1 st).2.2
  have : (es.toList.map fun x => (x.key, x.val)).Pairwise fun p q => p.1 ≠ q.1 := by rw [List.pairwise_map]; exact h3
  rw [he, List.pairwise_map] at this
  rw [List.Nodup, List.pairwise_map]
  exact this
theorem MapAt.mem {es : Array MapEntry} {clock : Nat} (h : w.heap[g]? = some (.map es clock)) (he : es.toList.map (fun x => (x.key, x.val)) = M.map f) {x : MapEntry} (hx : x ∈ es.toList) : ∃ a ∈ M, f a = (x.key, x.val) := by
  have : (x.key, x.val) ∈ M.map f := by rw [← he]; exact List.mem_map.2 ⟨x, hx, rfl⟩
  obtain ⟨a, ha, e⟩ := List.mem_map.1 this
  exact ⟨a, ha, e⟩
theorem MapAt.made (w : World) : MapAt P k f (w.alloc (.map #[] 0)) w.heap.size [] :=
  ⟨#[], 0, heap_alloc_new w _, stamped_empty 0, by simp, rfl⟩
theorem run_makeMap_hint {t k e : TypeId} (ht : P.underlying t = some (.map k e)) (n : Int) (w : World) : (Instr.makeMap t (some (.int .i64 n))).run P w = .ok (.map (some w.heap.size)) (w.alloc (.map #[] 0)) := by
  simp [Instr.makeMap, run_underlying ht, asInt, asIntOf, Result.andThen]

/-! ### 'v, ok := m[k]' -/
theorem MapAt.look (h : MapAt P k f w g M) (K : Keyed P k) {t e : TypeId} (ht : P.underlying t = some (.map k e)) {z : Value} (hz : (zeroValue e).run P w = .ok z w) {key : Value} {kl : Lit} (hkey : keyOf P k key = some kl) :
    (∃ a ∈ M, (f a).1 = key ∧ (Instr.lookup t (.map (some g)) key true).run P w = .ok (.tuple #[(f a).2, .bool true]) w) ∨
    ((∀ a ∈ M, (f a).1 ≠ key) ∧ (Instr.lookup t (.map (some g)) key true).run P w = .ok (.tuple #[z, .bool false]) w) := by
  obtain ⟨es, clock, hb, st, hk, he⟩ := h
  rcases K.find w hkey es.toList hk with ⟨h1, h2⟩ | ⟨j, e0, h1, h2, h3⟩
  · refine .inr ⟨fun a ha e1 => ?_, ?_⟩
    · have : f a ∈ es.toList.map (fun x => (x.key, x.val)) := by rw [he]; exact List.mem_map.2 ⟨a, ha, rfl⟩
      obtain ⟨x, hx, ex⟩ := List.mem_map.1 this
      exact h2 x hx (by rw [← e1, ← ex])
    · simp [Instr.lookup, run_underlying ht, MapKept.run_getObj_map hb, K.check w _ hkey, h1, hz, Result.andThen]
  · obtain ⟨a, ha, ea⟩ := MapAt.mem hb he (List.mem_of_getElem? h2)
    refine .inl ⟨a, ha, by rw [ea]; exact h3, ?_⟩
    rw [ea]
    simp [Instr.lookup, run_underlying ht, MapKept.run_getObj_map hb, K.check w _ hkey, h1, Result.andThen]
theorem MapAt.one (h : MapAt P k f w g M) {a b : α} (ha : a ∈ M) (hb : b ∈ M) (e : (f a).1 = (f b).1) : a = b := by
  obtain ⟨i, hi, rfl⟩ := List.getElem_of_mem ha
  obtain ⟨j, hj, rfl⟩ := List.getElem_of_mem hb
  have e2 : (M.map fun a => (f a).1)[i]'(by simpa using hi) = (M.map fun a => (f a).1)[j]'(by simpa using hj) := by simpa using e
  have := (List.getElem_inj h.keys).1 e2
  subst this
  rfl
/-! ### 'm[k] = v' -/
theorem setBlock_same {o : Obj} (h : w.heap[g]? = some o) (o' : Obj) : (setBlock w g o').heap[g]? = some o' := (heap_set h).1
theorem setBlock_other {o : Obj} (h : w.heap[g]? = some o) (o' : Obj) {i : Nat} (hi : i ≠ g) : (setBlock w g o').heap[i]? = w.heap[i]? := (heap_set h).2 i hi
theorem modify_set {β : Type} (es : Array β) (j : Nat) (h : β → β) (e0 : β) (hj : es.toList[j]? = some e0) : (es.modify j h).toList = es.toList.set j (h e0) := by
  rw [Array.toList_modify, Go.ChangeMaps.modify_eq_set _ _ _ _ hj]
theorem grown_setBlock {o o' : Obj} (h : w.heap[g]? = some o) : w.grownBy (setBlock w g o') (some g) :=
  ⟨rfl, rfl, rfl, by simp [setBlock], fun i _ hi => setBlock_other h _ (fun e => hi (by rw [e]))⟩
theorem MapAt.store (h : MapAt P k f w g M) (K : Keyed P k) {t e : TypeId} (ht : P.underlying t = some (.map k e)) (a : α) {kl : Lit} (hkey : keyOf P k (f a).1 = some kl) :
    ∃ w' M', (Instr.mapUpdate t (.map (some g)) (f a).1 (f a).2).run P w = .ok () w' ∧ MapAt P k f w' g M' ∧ (∀ q, q ∈ M' ↔ q = a ∨ (q ∈ M ∧ (f q).1 ≠ (f a).1)) ∧ Only g w w' := by
  obtain ⟨es, clock, hb, st, hk, he⟩ := h
  rcases K.find w hkey es.toList hk with ⟨h1, h2⟩ | ⟨j, e0, h1, h2, h3⟩
  · refine ⟨_, M ++ [a], ?_, ⟨es.push ⟨(f a).1, (f a).2, clock⟩, clock + 1, setBlock_same hb _, stamped_push st h2, ?_, ?_⟩, ?_, grown_setBlock hb⟩
    · simp [Instr.mapUpdate, run_underlying ht, MapKept.run_getObj_map hb, K.check w false hkey, h1, MapKept.run_setObj_map _ hb, Result.andThen, setBlock]
    · intro x hx
      simp only [Array.toList_push, List.mem_append, List.mem_singleton] at hx
      rcases hx with hx | rfl
      · exact hk x hx
      · exact ⟨_, hkey⟩
    · simp [he]
    · intro q
      rw [List.mem_append, List.mem_singleton]
      constructor
      · rintro (hq | rfl)
        · refine .inr ⟨hq, fun e1 => ?_⟩
          have : f q ∈ es.toList.map (fun x => (x.key, x.val)) := by rw [he]; exact List.mem_map.2 ⟨q, hq, rfl⟩
          obtain ⟨x, hx, ex⟩ := List.mem_map.1 this
          exact h2 x hx (by rw [← e1, ← ex])
        · exact .inl rfl
      · rintro (rfl | hq)
        · exact .inr rfl
        · exact .inl hq.1
  · have hj : es[j]? = some e0 := by simpa using h2
    have hjl : j < es.toList.length := (List.getElem?_eq_some_iff.1 h2).1
    have hkeyf : ∀ e', es[j]? = some e' → ({ e' with key := (f a).1, val := (f a).2 } : MapEntry).key = e'.key := fun e' he' => by rw [hj] at he'; cases he'; exact h3.symm
    have hjM : j < M.length := by have := congrArg List.length he; simp at this; simpa [← this] using hjl
    have hM : ((f a).1, (f a).2) = f a := rfl
    refine ⟨_, M.set j a, ?_, ⟨es.modify j (fun e' => { e' with key := (f a).1, val := (f a).2 }), clock, setBlock_same hb _, stamped_modify st j _ (fun _ _ => rfl) (fun e' _ => hkeyf e'), ?_, ?_⟩, ?_, grown_setBlock hb⟩
    · have : K.stays = K.stays := rfl
      simp [Instr.mapUpdate, run_underlying ht, MapKept.run_getObj_map hb, K.check w false hkey, h1, hj, h3, K.stays w hkey, MapKept.run_setObj_map _ hb, Result.andThen, setBlock]
    · intro x hx
      rw [modify_set es j _ e0 h2] at hx
      rcases List.mem_or_eq_of_mem_set hx with hx | rfl
      · exact hk x hx
      · exact ⟨_, hkey⟩
    · rw [modify_set es j _ e0 h2, List.map_set, he, List.map_set]
    · have hnd : (M.map fun a => (f a).1).Nodup := MapAt.keys ⟨es, clock, hb, st, hk, he⟩
      have hMj : (f M[j]).1 = (f a).1 := by
        have : (es.toList.map fun x => (x.key, x.val))[j]? = (M.map f)[j]? := by rw [he]
        rw [List.getElem?_map, List.getElem?_map, h2, List.getElem?_eq_getElem hjM] at this
        simp only [Option.map_some, Option.some.injEq] at this
        rw [← this]
        exact h3
      intro q
      constructor
      · intro hq
        obtain ⟨i, hi, rfl⟩ := List.getElem_of_mem hq
        rw [List.length_set] at hi
        rw [List.getElem_set]
        split
        · exact .inl rfl
        · rename_i hne
          refine .inr ⟨List.getElem_mem hi, fun e1 => hne ?_⟩
          have e2 : (M.map fun a => (f a).1)[j]'(by simpa using hjM) = (M.map fun a => (f a).1)[i]'(by simpa using hi) := by simp only [List.getElem_map]; rw [hMj, e1]
          exact (List.getElem_inj hnd).1 e2
      · rintro (rfl | ⟨hq, hne⟩)
        · exact List.mem_set hjM _
        · obtain ⟨i, hi, rfl⟩ := List.getElem_of_mem hq
          have hik : j ≠ i := by
            rintro rfl
            exact hne hMj
          exact List.mem_iff_getElem.2 ⟨i, by simpa using hi, by rw [List.getElem_set_ne hik]⟩
/-! ### 'delete(m, k)' -/
theorem MapAt.drop (h : MapAt P k f w g M) (K : Keyed P k) {t e : TypeId} (ht : P.underlying t = some (.map k e)) {key : Value} {kl : Lit} (hkey : keyOf P k key = some kl) (ty : TypeId) :
    ∃ w' M', (Builtin.delete_ #[t, k] ty #[.map (some g), key]).run P w = .ok (.tuple #[]) w' ∧ MapAt P k f w' g M' ∧ (∀ q, q ∈ M' ↔ q ∈ M ∧ (f q).1 ≠ key) ∧ Only g w w' := by
  obtain ⟨es, clock, hb, st, hk, he⟩ := h
  rcases K.find w hkey es.toList hk with ⟨h1, h2⟩ | ⟨j, e0, h1, h2, h3⟩
  · refine ⟨_, M, ?_, ⟨es, clock, setBlock_same hb _, st, hk, he⟩, fun q => ⟨fun hq => ⟨hq, fun e1 => ?_⟩, fun hq => hq.1⟩, grown_setBlock hb⟩
    · simp [Builtin.delete_, run_underlying ht, MapKept.run_getObj_map hb, K.check w _ hkey, h1, MapKept.run_setObj_map _ hb, Result.andThen, setBlock]
    · have : f q ∈ es.toList.map (fun x => (x.key, x.val)) := by rw [he]; exact List.mem_map.2 ⟨q, hq, rfl⟩
      obtain ⟨x, hx, ex⟩ := List.mem_map.1 this
      exact h2 x hx (by rw [← e1, ← ex])
  · have hjl : j < es.toList.length := (List.getElem?_eq_some_iff.1 h2).1
    have hjs : j < es.size := by simpa using hjl
    have hjM : j < M.length := by have := congrArg List.length he; simp at this; omega
    have hsub : (es.eraseIdxIfInBounds j).toList = es.toList.eraseIdx j := by
      unfold Array.eraseIdxIfInBounds
      rw [dif_pos hjs]
      simp
    have hnd : (M.map fun a => (f a).1).Nodup := MapAt.keys ⟨es, clock, hb, st, hk, he⟩
    have hMj : (f M[j]).1 = key := by
      have : (es.toList.map fun x => (x.key, x.val))[j]? = (M.map f)[j]? := by rw [he]
      rw [List.getElem?_map, List.getElem?_map, h2, List.getElem?_eq_getElem hjM] at this
      simp only [Option.map_some, Option.some.injEq] at this
      rw [← this]
      exact h3
    refine ⟨_, M.eraseIdx j, ?_, ⟨es.eraseIdxIfInBounds j, clock, setBlock_same hb _, stamped_erase st j, fun x hx => ?_, ?_⟩, fun q => ?_, grown_setBlock hb⟩
    · simp [Builtin.delete_, run_underlying ht, MapKept.run_getObj_map hb, K.check w _ hkey, h1, MapKept.run_setObj_map _ hb, Result.andThen, setBlock]
    · rw [hsub] at hx
      exact hk x ((List.eraseIdx_sublist _ _).subset hx)
    · rw [hsub, Go.ChangeMaps.map_eraseIdx, he, Go.ChangeMaps.map_eraseIdx]
    · rw [List.mem_eraseIdx_iff_getElem?]
      constructor
      · rintro ⟨i, hne, hi⟩
        refine ⟨List.mem_of_getElem? hi, fun e1 => hne ?_⟩
        obtain ⟨hil, hi⟩ := List.getElem?_eq_some_iff.1 hi
        have e2 : (M.map fun a => (f a).1)[j]'(by simpa using hjM) = (M.map fun a => (f a).1)[i]'(by simpa using hil) := by simp only [List.getElem_map]; rw [hMj, hi, e1]
        exact ((List.getElem_inj hnd).1 e2).symm
      · rintro ⟨hq, hne⟩
        obtain ⟨i, hi⟩ := List.getElem?_of_mem hq
        refine ⟨i, fun e1 => hne ?_, hi⟩
        subst e1
        rw [List.getElem?_eq_getElem hjM] at hi
        cases hi
        exact hMj
/-! ### len -/
theorem MapAt.len (h : MapAt P k f w g M) {t e : TypeId} (ht : P.underlying t = some (.map k e)) (ty : TypeId) : (Builtin.len_ #[t] ty #[.map (some g)]).run P w = .ok (.int .i64 M.length) w := by
  obtain ⟨es, clock, hb, st, hk, he⟩ := h
  have e1 : M.length = es.size := by have := congrArg List.length he; simp at this; exact this.symm
  rw [e1]
  simp [Builtin.len_, run_underlying ht, MapKept.run_getObj_map hb, goInt, Result.andThen]

/-! ### a map, or none -/
/-- the value of a variable that is a map, and what it holds -/
def MapIs (P : Program) (k : TypeId) (f : α → Value × Value) (w : World) (v : Value) (M : List α) : Prop := (v = .map none ∧ M = []) ∨ ∃ g, v = .map (some g) ∧ MapAt P k f w g M
theorem MapIs.len {v : Value} (h : MapIs P k f w v M) {t e : TypeId} (ht : P.underlying t = some (.map k e)) (ty : TypeId) : (Builtin.len_ #[t] ty #[v]).run P w = .ok (.int .i64 M.length) w := by
  rcases h with ⟨rfl, rfl⟩ | ⟨g, rfl, h⟩
  · exact Go.Maps.len_nil ht ty
  · exact h.len ht ty
theorem MapIs.look {v : Value} (h : MapIs P k f w v M) (K : Keyed P k) {t e : TypeId} (ht : P.underlying t = some (.map k e)) {z : Value} (hz : (zeroValue e).run P w = .ok z w) {key : Value} {kl : Lit} (hkey : keyOf P k key = some kl) :
    (∃ a ∈ M, (f a).1 = key ∧ (Instr.lookup t v key true).run P w = .ok (.tuple #[(f a).2, .bool true]) w) ∨
    ((∀ a ∈ M, (f a).1 ≠ key) ∧ (Instr.lookup t v key true).run P w = .ok (.tuple #[z, .bool false]) w) := by
  rcases h with ⟨rfl, rfl⟩ | ⟨g, rfl, h⟩
  · exact .inr ⟨by simp, by simpa using Go.Maps.look_nil true K ht hz hkey⟩
  · exact h.look K ht hz hkey

theorem MapIs.yes {v : Value} (h : MapIs P k f w v M) (K : Keyed P k) {t e : TypeId} (ht : P.underlying t = some (.map k e)) {z : Value} (hz : (zeroValue e).run P w = .ok z w) {a : α} (ha : a ∈ M) {key : Value} (hf : (f a).1 = key) {kl : Lit} (hkey : keyOf P k key = some kl) :
    (Instr.lookup t v key true).run P w = .ok (.tuple #[(f a).2, .bool true]) w := by
  have hh := h
  rcases h with ⟨rfl, rfl⟩ | ⟨g, rfl, h⟩
  · simp at ha
  · rcases hh.look K ht hz hkey with ⟨b, hb, e1, hr⟩ | ⟨hno, _⟩
    · rw [h.one ha hb (hf.trans e1.symm)]
      exact hr
    · exact absurd hf (hno a ha)
theorem MapIs.no {v : Value} (h : MapIs P k f w v M) (K : Keyed P k) {t e : TypeId} (ht : P.underlying t = some (.map k e)) {z : Value} (hz : (zeroValue e).run P w = .ok z w) {key : Value} (hf : ∀ a ∈ M, (f a).1 ≠ key) {kl : Lit} (hkey : keyOf P k key = some kl) :
    (Instr.lookup t v key true).run P w = .ok (.tuple #[z, .bool false]) w := by
  rcases h.look K ht hz hkey with ⟨b, hb, e1, hr⟩ | ⟨_, hr⟩
  · exact absurd e1 (hf b hb)
  · exact hr
theorem MapIs.turned {v : Value} {S : Nat → Prop} (h : MapIs P k f w v M) (t : Turned S w w') (hs : ∀ g, v = .map (some g) → ¬ S g) : MapIs P k f w' v M := by
  rcases h with h | ⟨g, rfl, h⟩
  · exact .inl h
  · exact .inr ⟨g, rfl, h.turned t (hs g rfl)⟩
theorem MapIs.keep {v : Value} (h : MapIs P k f w v M) (t : Below w.heap.size w w') : MapIs P k f w' v M := h.turned (S := fun _ => False) (Turned.of_below t) (fun _ _ h => h)
theorem MapIs.keys {v : Value} (h : MapIs P k f w v M) : (M.map fun a => (f a).1).Nodup := by
  rcases h with ⟨rfl, rfl⟩ | ⟨g, rfl, h⟩
  · simp
  · exact h.keys

theorem MapIs.one {v : Value} (h : MapIs P k f w v M) {a b : α} (ha : a ∈ M) (hb : b ∈ M) (e : (f a).1 = (f b).1) : a = b := by
  rcases h with ⟨rfl, rfl⟩ | ⟨g, rfl, h⟩
  · simp at ha
  · exact h.one ha hb e
theorem mem_erase_or {β : Type} {S : List β} {i : Nat} {x q : β} (hi : S[i]? = some x) (hq : q ∈ S) : q = x ∨ q ∈ S.eraseIdx i := by
  obtain ⟨j, hj⟩ := List.getElem?_of_mem hq
  by_cases e : j = i
  · subst e
    rw [hi] at hj
    cases hj
    exact .inl rfl
  · exact .inr (List.mem_eraseIdx_iff_getElem?.2 ⟨j, e, hj⟩)
/-! ### a loop over one -/
/-- an iterator at block r over the map v, which holds M; S: what is still to come -/
def Rng (P : Program) (k : TypeId) (f : α → Value × Value) (w : World) (v : Value) (r : Nat) (M S : List α) : Prop :=
  (v = .map none ∧ M = [] ∧ S = [] ∧ w.heap[r]? = some (.mapIter none 0 #[] 0)) ∨
  ∃ g es clock since seen c0, v = .map (some g) ∧ w.heap[g]? = some (.map es clock) ∧ Stamped es clock ∧ (∀ x ∈ es.toList, ∃ l, keyOf P k x.key = some l) ∧ es.toList.map (fun x => (x.key, x.val)) = M.map f ∧
    w.heap[r]? = some (.mapIter (some g) since seen c0) ∧ (∀ x ∈ es.toList, x.born < since) ∧ since ≤ c0 ∧ since ≤ clock ∧ (leftOf es seen).toList.map (fun x => (x.key, x.val)) = S.map f ∧ S.Sublist M
/-- how many are still to come -/
def rngLeft (w : World) (r : Nat) : Nat :=
  match w.heap[r]? with
  | some (.mapIter (some g) _ seen _) => (match w.heap[g]? with | some (.map es _) => (leftOf es seen).size | _ => 0)
  | _ => 0
theorem Rng.left {v : Value} {r : Nat} {S : List α} (h : Rng P k f w v r M S) : rngLeft w r = S.length := by
  rcases h with ⟨rfl, rfl, rfl, h⟩ | ⟨g, es, clock, since, seen, c0, rfl, hb, _, _, _, hr, _, _, _, hl, _⟩
  · simp [rngLeft, h]
  · have := congrArg List.length hl
    simp at this
    simp [rngLeft, hr, hb, this]
theorem Rng.lt {v : Value} {r : Nat} {S : List α} (h : Rng P k f w v r M S) : r < w.heap.size := by
  rcases h with ⟨rfl, rfl, rfl, h⟩ | ⟨g, es, clock, since, seen, c0, rfl, hb, _, _, _, hr, _⟩
  · exact (Array.getElem?_eq_some_iff.1 h).1
  · exact (Array.getElem?_eq_some_iff.1 hr).1
theorem Rng.ne_map {v : Value} {r : Nat} {S : List α} {β : Type} {f' : β → Value × Value} {M' : List β} (h : Rng P k f w v r M S) {d : Nat} (hd : MapAt P k f' w d M') : d ≠ r := by
  obtain ⟨es, clock, hb, _⟩ := hd
  intro e
  subst e
  rcases h with ⟨rfl, rfl, rfl, h⟩ | ⟨g, es, clock, since, seen, c0, rfl, hb', _, _, _, hr, _⟩
  · rw [hb] at h; cases h
  · rw [hb] at hr; cases hr
theorem Rng.sub {v : Value} {r : Nat} {S : List α} (h : Rng P k f w v r M S) : S.Sublist M := by
  rcases h with ⟨rfl, rfl, rfl, h⟩ | ⟨g, es, clock, since, seen, c0, rfl, hb, _, _, _, hr, _, _, _, _, hs⟩
  · exact List.Sublist.refl _
  · exact hs
theorem Rng.is {v : Value} {r : Nat} {S : List α} (h : Rng P k f w v r M S) : MapIs P k f w v M := by
  rcases h with ⟨rfl, rfl, rfl, h⟩ | ⟨g, es, clock, since, seen, c0, rfl, hb, st, hk, he, _⟩
  · exact .inl ⟨rfl, rfl⟩
  · exact .inr ⟨g, rfl, es, clock, hb, st, hk, he⟩
theorem Rng.turned {v : Value} {r : Nat} {S : List α} {T : Nat → Prop} (h : Rng P k f w v r M S) (t : Turned T w w') (hr : ¬ T r) (hv : ∀ g, v = .map (some g) → ¬ T g) : Rng P k f w' v r M S := by
  rcases h with ⟨rfl, rfl, rfl, h⟩ | ⟨g, es, clock, since, seen, c0, rfl, hb, st, hk, he, hi, rest⟩
  · exact .inl ⟨rfl, rfl, rfl, (t.block r (Array.getElem?_eq_some_iff.1 h).1 hr).trans h⟩
  · exact .inr ⟨g, es, clock, since, seen, c0, rfl, (t.block g (Array.getElem?_eq_some_iff.1 hb).1 (hv g rfl)).trans hb, st, hk, he, (t.block r (Array.getElem?_eq_some_iff.1 hi).1 hr).trans hi, rest⟩
theorem Rng.keep {v : Value} {r : Nat} {S : List α} (h : Rng P k f w v r M S) (t : Below w.heap.size w w') : Rng P k f w' v r M S := h.turned (T := fun _ => False) (Turned.of_below t) (fun h => h) (fun _ _ h => h)
theorem MapIs.range {v : Value} (h : MapIs P k f w v M) {t e : TypeId} (ht : P.underlying t = some (.map k e)) :
    ∃ w', (Instr.range t v).run P w = .ok (.pointer (some ⟨w.heap.size, 0, none⟩)) w' ∧ Rng P k f w' v w.heap.size M M ∧ Below w.heap.size w w' ∧ w'.heap.size = w.heap.size + 1 := by
  rcases h with ⟨rfl, rfl⟩ | ⟨g, rfl, h⟩
  · exact ⟨_, run_range_nilMap w t k e ht, .inl ⟨rfl, rfl, rfl, heap_alloc_new w _⟩, more (Below.refl _ _) _, size_alloc _ _⟩
  · have hlt := h.lt
    obtain ⟨es, clock, hb, st, hk, he⟩ := h
    refine ⟨_, run_range_map w t k e g es clock ht hb, .inr ⟨g, es, clock, clock, #[], clock, rfl, ((MapKept.heap_alloc w _).2 g hlt).trans hb, st, hk, he, heap_alloc_new w _, ((stamped_iff es clock).1 st).1, Nat.le_refl _, Nat.le_refl _, ?_, List.Sublist.refl _⟩, more (Below.refl _ _) _, size_alloc _ _⟩
    have : leftOf es #[] = es := by simp [leftOf]
    rw [this, he]
theorem filter_drop_one {β : Type} (p : β → Bool) : ∀ (l : List β), l.Nodup → ∀ x ∈ l, p x = false → (∀ y ∈ l, y ≠ x → p y = true) → ∃ i, l[i]? = some x ∧ l.filter p = l.eraseIdx i
  | [], _, x, hx, _, _ => by simp at hx
  | a :: l, hn, x, hx, hp, hq => by
    obtain ⟨h1, h2⟩ := List.nodup_cons.1 hn
    by_cases e : a = x
    · subst e
      refine ⟨0, rfl, ?_⟩
      rw [List.filter_cons, if_neg (by rw [hp]; decide), List.eraseIdx_cons_zero, List.filter_eq_self]
      intro y hy
      exact hq y (List.mem_cons_of_mem _ hy) (fun e => h1 (e ▸ hy))
    · have hx' : x ∈ l := (List.mem_cons.1 hx).resolve_left (fun h => e h.symm)
      obtain ⟨i, hi, he⟩ := filter_drop_one p l h2 x hx' hp (fun y hy => hq y (List.mem_cons_of_mem _ hy))
      refine ⟨i + 1, by simpa using hi, ?_⟩
      rw [List.filter_cons, if_pos (hq a List.mem_cons_self e), he, List.eraseIdx_cons_succ]
/-- the step -/
theorem Rng.next {v : Value} {r : Nat} {S : List α} (h : Rng P k f w v r M S) (ty : TypeId) :
    (S = [] ∧ (Instr.next (.pointer (some ⟨r, 0, none⟩)) false ty).run P w = .ok (.tuple #[.bool false]) w) ∨
    ∃ i a w', S[i]? = some a ∧ (Instr.next (.pointer (some ⟨r, 0, none⟩)) false ty).run P w = .ok (.tuple #[.bool true, (f a).1, (f a).2]) w' ∧ Rng P k f w' v r M (S.eraseIdx i) ∧ Only r w w' ∧ w'.heap.size = w.heap.size ∧
      (Instr.entry (.pointer (some ⟨r, 0, none⟩))).run P w' = .ok (.tuple #[(f a).1, (f a).2]) w' := by
  rcases h with ⟨rfl, rfl, rfl, h⟩ | ⟨g, es, clock, since, seen, c0, rfl, hb, st, hk, he, hr, hold, hsc, hsk, hl, hs⟩
  · refine .inl ⟨rfl, ?_⟩
    simp only [Instr.next, getObj, Sem.run_bind, Sem.run, h, Result.andThen]
    rfl
  · have hst := (stamped_iff es clock).1 st
    have hne : r ≠ g := by
      intro e
      rw [e, hb] at hr
      cases hr
    rcases run_next_at (P := P) w ty r g since c0 seen es clock hr hb hold hsc with ⟨h0, hrun⟩ | ⟨e, hem, w1, hal, hrun⟩
    · refine .inl ⟨?_, hrun⟩
      have := congrArg List.length hl
      simp only [List.length_map, Array.length_toList, h0] at this
      exact List.eq_nil_of_length_eq_zero this.symm
    · obtain ⟨hee, hes⟩ := mem_left hem
      have hr1 : w1.heap[r]? = some (.mapIter (some g) since seen c0) := by rcases hal with rfl | rfl <;> exact hr
      have hb1 : w1.heap[g]? = some (.map es clock) := by rcases hal with rfl | rfl <;> exact hb
      have hnd : es.toList.Nodup := by
        have := hst.2.1
        rw [List.Nodup, List.pairwise_map] at this
        exact this.imp (fun hne e => hne (by rw [e]))
      have hflt : (leftOf es (seen.push e.born)).toList = (leftOf es seen).toList.filter fun x => !(x.born == e.born) := by
        unfold leftOf
        rw [Array.toList_filter, Array.toList_filter, List.filter_filter]
        refine List.filter_congr (fun x _ => ?_)
        rw [contains_push]
        cases seen.contains x.born <;> cases (x.born == e.born) <;> rfl
      have hndL : (leftOf es seen).toList.Nodup := by unfold leftOf; rw [Array.toList_filter]; exact hnd.filter _
      obtain ⟨i, hi, hfe⟩ := filter_drop_one (fun x => !(x.born == e.born)) _ hndL e hem (by simp) (fun y hy hne => by
        have := (mem_left hy).1
        simp only [Bool.not_eq_true', beq_eq_false_iff_ne, ne_eq]
        exact fun e1 => hne (born_inj hst.2.1 this hee e1))
      have hSi : (S.map f)[i]? = some (e.key, e.val) := by rw [← hl, List.getElem?_map, hi]; rfl
      rw [List.getElem?_map] at hSi
      obtain ⟨a, ha, ea⟩ := Option.map_eq_some_iff.1 hSi
      have hr2 : (setBlock w1 r (.mapIter (some g) since (seen.push e.born) clock)).heap[r]? = some (.mapIter (some g) since (seen.push e.born) clock) := setBlock_same hr1 _
      have hb2 : (setBlock w1 r (.mapIter (some g) since (seen.push e.born) clock)).heap[g]? = some (.map es clock) := (setBlock_other hr1 _ (fun e => hne e.symm)).trans hb1
      refine .inr ⟨i, a, _, ha, by rw [ea]; exact hrun, .inr ⟨g, es, clock, since, seen.push e.born, clock, rfl, hb2, st, hk, he, hr2, hold, hsk, hsk, ?_, (List.eraseIdx_sublist _ _).trans hs⟩, ?_, ?_, ?_⟩
      · rw [hflt, hfe, Go.ChangeMaps.map_eraseIdx, hl, Go.ChangeMaps.map_eraseIdx]
      · have o1 : Only r w1 (setBlock w1 r (.mapIter (some g) since (seen.push e.born) clock)) := grown_setBlock hr1
        rcases hal with rfl | rfl
        · exact o1
        · exact ((Only.refl r w).drew).trans o1
      · rcases hal with rfl | rfl
        · simp [setBlock]
        · simp only [setBlock, Array.size_setIfInBounds]; rfl
      · rw [ea]
        exact run_entry_at _ r g since seen es clock e hr2 hb2 hee hst.2.1
/-! ### at the operation, for the walk -/
section
variable {ops : Array Oper} {rest : List Oper} {o : Oper} {a : Act} {Q : Exit → Act → World → Prop}
theorem wpList_range_map (hg : o.guard = none) {m : Operand} {t : TypeId} (hop : o.op = Op.range t m) {e : TypeId} (ht : P.underlying t = some (.map k e)) {v : Value} (hm : a.eval m = v) (h : MapIs P k f w v M)
    (hK : ∀ w', Rng P k f w' v w.heap.size M M → Below w.heap.size w w' → w'.heap.size = w.heap.size + 1 → wpList P ops Q rest (a.put o.dst (.pointer (some ⟨w.heap.size, 0, none⟩))) w') :
    wpList P ops Q (o :: rest) a w := by
  refine wpList_plain hg fun K' hK' => ?_
  obtain ⟨w', hrun, r1, r2, r3⟩ := h.range ht
  unfold Oper.wp
  simp [execOp, hop, hm, hrun, Result.andThen]
  exact hK' _ _ (hK w' r1 r2 r3)
/-- an entry has come -/
def Nxt (P : Program) (k : TypeId) (f : α → Value × Value) (w w' : World) (v : Value) (r : Nat) (M S : List α) (kk vv : Value) : Prop :=
  ∃ i x, S[i]? = some x ∧ f x = (kk, vv) ∧ Rng P k f w' v r M (S.eraseIdx i) ∧ Only r w w' ∧ w'.heap.size = w.heap.size ∧ (Instr.entry (.pointer (some ⟨r, 0, none⟩))).run P w' = .ok (.tuple #[kk, vv]) w'
theorem wpList_next_map (hg : o.guard = none) {it : Operand} (hop : o.op = Op.next it false) {v : Value} {r : Nat} {S : List α} (hit : a.eval it = .pointer (some ⟨r, 0, none⟩)) (h : Rng P k f w v r M S)
    (hDone : S = [] → wpList P ops Q rest (a.put o.dst (.tuple #[.bool false])) w)
    (hMore : ∀ (kk vv : Value) (w' : World), Nxt P k f w w' v r M S kk vv → wpList P ops Q rest (a.put o.dst (.tuple #[.bool true, kk, vv])) w') :
    wpList P ops Q (o :: rest) a w := by
  refine wpList_plain hg fun K' hK' => ?_
  unfold Oper.wp
  rcases h.next o.type with ⟨h0, hrun⟩ | ⟨i, x, w', hx, hrun, hr, ho, hs, hen⟩
  · simp [execOp, hop, hit, hrun, Result.andThen]
    exact hK' _ _ (hDone h0)
  · simp [execOp, hop, hit, hrun, Result.andThen]
    exact hK' _ _ (hMore _ _ w' ⟨i, x, hx, rfl, hr, ho, hs, hen⟩)
theorem wpList_store_map (hg : o.guard = none) {m x v : Operand} {t : TypeId} (hop : o.op = Op.mapUpdate t m x v) {e : TypeId} (K : Keyed P k) (ht : P.underlying t = some (.map k e)) {g : Nat} (hm : a.eval m = .map (some g)) (h : MapAt P k f w g M) (y : α) {kl : Lit}
    (hx : a.eval x = (f y).1) (hv : a.eval v = (f y).2) (hkey : keyOf P k (f y).1 = some kl)
    (hK : ∀ w' M', MapAt P k f w' g M' → (∀ q, q ∈ M' ↔ q = y ∨ (q ∈ M ∧ (f q).1 ≠ (f y).1)) → Only g w w' → wpList P ops Q rest (a.put o.dst undef) w') :
    wpList P ops Q (o :: rest) a w := by
  refine wpList_plain hg fun K' hK' => ?_
  obtain ⟨w', M', hrun, r1, r2, r3⟩ := h.store K ht y hkey
  unfold Oper.wp
  simp [execOp, hop, hm, hx, hv, hrun, Result.andThen]
  exact hK' _ _ (hK w' M' r1 r2 r3)
theorem wp_store_map {K : Act → World → Prop} {m x v : Operand} {t : TypeId} (hop : o.op = Op.mapUpdate t m x v) {e : TypeId} (KK : Keyed P k) (ht : P.underlying t = some (.map k e)) {g : Nat} (hm : a.eval m = .map (some g)) (h : MapAt P k f w g M) (y : α) {kl : Lit}
    (hx : a.eval x = (f y).1) (hv : a.eval v = (f y).2) (hkey : keyOf P k (f y).1 = some kl)
    (hK : ∀ w' M', MapAt P k f w' g M' → (∀ q, q ∈ M' ↔ q = y ∨ (q ∈ M ∧ (f q).1 ≠ (f y).1)) → Only g w w' → K (a.put o.dst undef) w') :
    o.wp P a w K Q := by
  obtain ⟨w', M', hrun, r1, r2, r3⟩ := h.store KK ht y hkey
  unfold Oper.wp
  simp [execOp, hop, hm, hx, hv, hrun, Result.andThen]
  exact hK w' M' r1 r2 r3
theorem wp_drop_map {K : Act → World → Prop} {m x : Operand} {t : TypeId} (hop : o.op = Op.call { callee := Callee.builtin Builtin.delete, args := #[m, x], argTypes := #[t, k] }) {e : TypeId} (KK : Keyed P k) (ht : P.underlying t = some (.map k e)) {g : Nat} (hm : a.eval m = .map (some g)) (h : MapAt P k f w g M) {key : Value} {kl : Lit}
    (hx : a.eval x = key) (hkey : keyOf P k key = some kl)
    (hK : ∀ w' M', MapAt P k f w' g M' → (∀ q, q ∈ M' ↔ q ∈ M ∧ (f q).1 ≠ key) → Only g w w' → K (a.put o.dst (.tuple #[])) w') :
    o.wp P a w K Q := by
  obtain ⟨w', M', hrun, r1, r2, r3⟩ := h.drop KK ht hkey o.type
  unfold Oper.wp
  simp [execOp, hop, resolve, invoke, builtin, hm, hx, hrun, Result.andThen]
  exact hK w' M' r1 r2 r3
end
/-! ### 'm[k]' -/
theorem MapAt.look1 (h : MapAt P k f w g M) (K : Keyed P k) {t e : TypeId} (ht : P.underlying t = some (.map k e)) {z : Value} (hz : (zeroValue e).run P w = .ok z w) {key : Value} {kl : Lit} (hkey : keyOf P k key = some kl) :
    (∃ a ∈ M, (f a).1 = key ∧ (Instr.lookup t (.map (some g)) key false).run P w = .ok (f a).2 w) ∨
    ((∀ a ∈ M, (f a).1 ≠ key) ∧ (Instr.lookup t (.map (some g)) key false).run P w = .ok z w) := by
  obtain ⟨es, clock, hb, st, hk, he⟩ := h
  rcases K.find w hkey es.toList hk with ⟨h1, h2⟩ | ⟨j, e0, h1, h2, h3⟩
  · refine .inr ⟨fun a ha e1 => ?_, ?_⟩
    · have : f a ∈ es.toList.map (fun x => (x.key, x.val)) := by rw [he]; exact List.mem_map.2 ⟨a, ha, rfl⟩
      obtain ⟨x, hx, ex⟩ := List.mem_map.1 this
      exact h2 x hx (by rw [← e1, ← ex])
    · simp [Instr.lookup, run_underlying ht, MapKept.run_getObj_map hb, K.check w _ hkey, h1, hz, Result.andThen]
  · obtain ⟨a, ha, ea⟩ := MapAt.mem hb he (List.mem_of_getElem? h2)
    refine .inl ⟨a, ha, by rw [ea]; exact h3, ?_⟩
    rw [ea]
    simp [Instr.lookup, run_underlying ht, MapKept.run_getObj_map hb, K.check w _ hkey, h1, Result.andThen]
theorem MapIs.look1 {v : Value} (h : MapIs P k f w v M) (K : Keyed P k) {t e : TypeId} (ht : P.underlying t = some (.map k e)) {z : Value} (hz : (zeroValue e).run P w = .ok z w) {key : Value} {kl : Lit} (hkey : keyOf P k key = some kl) :
    (∃ a ∈ M, (f a).1 = key ∧ (Instr.lookup t v key false).run P w = .ok (f a).2 w) ∨
    ((∀ a ∈ M, (f a).1 ≠ key) ∧ (Instr.lookup t v key false).run P w = .ok z w) := by
  rcases h with ⟨rfl, rfl⟩ | ⟨g, rfl, h⟩
  · exact .inr ⟨by simp, by simpa using Go.Maps.look_nil false K ht hz hkey⟩
  · exact h.look1 K ht hz hkey
section
variable {ops : Array Oper} {rest : List Oper} {o : Oper} {a : Act} {Q : Exit → Act → World → Prop}
theorem wpList_drop_map (hg : o.guard = none) {m x : Operand} {t : TypeId} (hop : o.op = Op.call { callee := Callee.builtin Builtin.delete, args := #[m, x], argTypes := #[t, k] }) {e : TypeId} (KK : Keyed P k) (ht : P.underlying t = some (.map k e)) {g : Nat} (hm : a.eval m = .map (some g)) (h : MapAt P k f w g M) {key : Value} {kl : Lit}
    (hx : a.eval x = key) (hkey : keyOf P k key = some kl)
    (hK : ∀ w' M', MapAt P k f w' g M' → (∀ q, q ∈ M' ↔ q ∈ M ∧ (f q).1 ≠ key) → Only g w w' → wpList P ops Q rest (a.put o.dst (.tuple #[])) w') :
    wpList P ops Q (o :: rest) a w := by
  refine wpList_plain hg fun K' hK' => ?_
  obtain ⟨w', M', hrun, r1, r2, r3⟩ := h.drop KK ht hkey o.type
  unfold Oper.wp
  simp [execOp, hop, resolve, invoke, builtin, hm, hx, hrun, Result.andThen]
  exact hK' _ _ (hK w' M' r1 r2 r3)
end
end Go.Proofs.Ytgkmkpkbdmciiaa.Mem
