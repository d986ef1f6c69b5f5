/- A region that draws its order, walked by a plan that is a tree: where several operations come up at once, each has a plan of its own behind it. -/
import Derived.Test.YtpfdmjgojpngjaaRun2
set_option maxRecDepth 4000
namespace Go.Proofs.Ytpfdmjgojpngjaa.Run
open Go Go.RowKit
set_option linter.unusedVariables false
set_option linter.unusedSimpArgs false
/-- a plan: light: taken first; node: those that come up, each (alt) with what follows it -/
inductive Tree where
  | nil
  | light (i : Nat) (t : Tree)
  | node (c : Tree)
  | alt (i : Nat) (t r : Tree)
  | stop
def Tree.heads : Tree → List Nat
  | .alt i _ r => i :: Tree.heads r
  | _ => []
def Tree.main : Tree → Bool
  | .alt _ _ _ => false
  | .stop => false
  | _ => true
def Tree.count : Tree → Nat
  | .nil => 0
  | .light _ t => Tree.count t + 1
  | .node c => Tree.count c
  | .alt _ t r => max (Tree.count t + 1) (Tree.count r)
  | .stop => 0
/-- nobody but those may come up at L -/
def aloneN (is : List Nat) (L : Nat) : List (Nat × Nat × Nat) → Nat → Bool
  | [], _ => true
  | r :: rs, k => (is.contains k || L.testBit k || !sub r.1 L) && aloneN is L rs (k + 1)
theorem aloneN_spec {is : List Nat} {L : Nat} : ∀ (rs : List (Nat × Nat × Nat)) (k : Nat), aloneN is L rs k = true → ∀ j r, rs[j]? = some r → is.contains (k + j) = false → L.testBit (k + j) = false → sub r.1 L = false
  | [], _, _, j, r, h, _, _ => by simp at h
  | x :: rs, k, h, 0, r, hr, h1, h2 => by
    simp only [aloneN, Bool.and_eq_true, Bool.or_eq_true, Bool.not_eq_true'] at h
    simp only [List.getElem?_cons_zero, Option.some.injEq] at hr
    subst hr
    simp only [Nat.add_zero] at h1 h2
    rw [h1, h2] at h
    simpa using h.1
  | x :: rs, k, h, j + 1, r, hr, h1, h2 => by
    simp only [aloneN, Bool.and_eq_true] at h
    have e : k + 1 + j = k + (j + 1) := by omega
    exact aloneN_spec rs (k + 1) h.2 j r (by simpa using hr) (by rw [e]; exact h1) (by rw [e]; exact h2)
def checkT (rows : List (Nat × Nat × Nat)) : Tree → Nat → Bool
  | .nil, L => L == 2 ^ rows.length - 1
  | .light i t, L => up rows i L && (t.main && checkT rows t (L ||| 2 ^ i))
  | .node c, L => !c.heads.isEmpty && (aloneN c.heads L rows 0 && checkT rows c L)
  | .alt i t r, L => up rows i L && (t.main && (checkT rows t (L ||| 2 ^ i) && checkT rows r L))
  | .stop, _ => true
section
variable {P : Program} {md : Region.Mode} {ops : Array Oper} {Q : Exit → Act → World → Prop}
def TRuns (P : Program) (Q : Exit → Act → World → Prop) (ops : Array Oper) : Tree → (World → Prop) → Act → World → Prop
  | .nil, S, a, w => S w → Q .normal a w
  | .light i t, S, a, w => ∃ o v, ops[i]? = some o ∧ ((gate a (guardOf ops o) = true ∧ ∀ w', S w' → (execOp a.eval o).run P w' = .ok (.value v) w') ∨ (gate a (guardOf ops o) = false ∧ v = undef)) ∧ TRuns P Q ops t S (a.put o.dst v) w
  | .node c, S, a, w => TRuns P Q ops c S a w
  | .alt i t r, S, a, w => (∃ o, ops[i]? = some o ∧ One P Q S ops o a w (fun a' w' => S w' → ∃ S' : World → Prop, (∀ z, S' z → S z) ∧ S' w' ∧ TRuns P Q ops t S' a' w')) ∧ TRuns P Q ops r S a w
  | .stop, _, _, _ => True
theorem onlyN_spec {rows : List (Nat × Nat × Nat)} (hrows : ops.toList.map (rowOf md ops) = rows) {is : List Nat} {L : Nat} {listed : Array Bool} (hm : Met ops listed L) (h : aloneN is L rows 0 = true) :
    ∀ j ∈ Region.ready md ops listed, j ∈ is := by
  intro j hj
  obtain ⟨h1, oj, hoj, h2⟩ := mem_ready.1 hj
  have hjs := (Array.getElem?_eq_some_iff.1 hoj).1
  refine Classical.byContradiction fun hne => ?_
  have := aloneN_spec rows 0 h j _ (rows_of hrows hoj) (by rw [Nat.zero_add]; simpa using hne) (by rw [Nat.zero_add, ← hm.up hjs]; exact h1)
  rw [(waits_iff hm oj).2 h2] at this
  cases this
theorem tree_sound {rows : List (Nat × Nat × Nat)} (hrows : ops.toList.map (rowOf md ops) = rows) (hw : wired rows 0 = true)
    (hs : Region.noSelect ops = true) (hQ : ∀ c a d v w, Q (.panic c) (Act.put a d v) w → Q (.panic c) a w) :
    ∀ (T : Tree) (S : World → Prop) (fuel : Nat) (listed : Array Bool) (L : Nat) (a : Act) (w : World), Met ops listed L → T.count ≤ fuel → checkT rows T L = true → S w → TRuns P Q ops T S a w →
      (T.main = true → wpAnyH P md ops Q S fuel listed a w) ∧ (∀ n, fuel = n + 1 → ∀ i ∈ T.heads, wpOp P ops Q i (fun a' w' => S w' ∧ wpAnyH P md ops Q S n (listed.setIfInBounds i true) a' w') a w)
  | .nil, S, fuel, listed, L, a, w, hm, _, hf, hS, h => by
    refine ⟨fun _ => ?_, fun n _ i hi => (by cases hi)⟩
    have hr : Region.ready md ops listed = [] := ready_bit hrows hm (by simpa [checkT] using hf)
    cases fuel with
    | zero => exact ⟨hr, h hS⟩
    | succ n => exact wpAnyH_done hr (h hS) _
  | .light i t, S, fuel, listed, L, a, w, hm, hn, hf, hS, h => by
    refine ⟨fun _ => ?_, fun n _ i hi => (by cases hi)⟩
    obtain ⟨n, rfl⟩ : ∃ n, fuel = n + 1 := ⟨fuel - 1, by simp only [Tree.count] at hn; omega⟩
    have hn' : t.count ≤ n := by simp only [Tree.count] at hn; omega
    simp only [checkT, Bool.and_eq_true] at hf
    obtain ⟨o, ho, hri, hsub, hready⟩ := up_spec hrows hm hf.1
    have his := (Array.getElem?_eq_some_iff.1 ho).1
    obtain ⟨o', v, ho', hy, hrun⟩ := h
    obtain rfl : o' = o := Option.some.inj (ho'.symm.trans ho)
    refine wpAnyH_take ho hs (free_spec' hrows hw hm ho hri hsub) (by simpa using hready) (fun c a w hq => hQ c a _ _ w hq) (v := v) ?_ hS ((tree_sound hrows hw hs hQ t S n _ _ _ _ (hm.set his) hn' hf.2.2 hS hrun).1 hf.2.1)
    rcases hy with ⟨h1, h2⟩ | ⟨h1, h2⟩
    · exact .inl ⟨by rw [wanted_eq]; exact h1, h2⟩
    · exact .inr ⟨by rw [wanted_eq]; exact h1, h2⟩
  | .node c, S, fuel, listed, L, a, w, hm, hn, hf, hS, h => by
    refine ⟨fun _ => ?_, fun n _ i hi => (by cases hi)⟩
    simp only [checkT, Bool.and_eq_true] at hf
    have hpos : 1 ≤ c.count := by
      cases c with
      | alt i t r => simp only [Tree.count]; omega
      | _ => simp [Tree.heads] at hf
    obtain ⟨n, rfl⟩ : ∃ n, fuel = n + 1 := ⟨fuel - 1, by simp only [Tree.count] at hn; omega⟩
    have ih := (tree_sound hrows hw hs hQ c S (n + 1) listed L a w hm (by simpa only [Tree.count] using hn) hf.2.2 hS h).2 n rfl
    refine ⟨fun h0 => ?_, fun k hk => ih k (onlyN_spec hrows hm hf.2.1 k hk)⟩
    cases c with
    | alt i t r =>
      have hf2 := hf.2.2
      simp only [checkT, Bool.and_eq_true] at hf2
      obtain ⟨o, ho, hri, hsub, hready⟩ := up_spec hrows hm hf2.1
      rw [h0] at hready
      cases hready
    | _ => simp [Tree.heads] at hf
  | .alt i t r, S, fuel, listed, L, a, w, hm, hn, hf, hS, h => by
    refine ⟨fun h => (by cases h), fun n hfn j hj => ?_⟩
    simp only [checkT, Bool.and_eq_true] at hf
    simp only [Tree.count] at hn
    rcases List.mem_cons.1 hj with rfl | hj
    · obtain ⟨o, ho, hri, hsub, hready⟩ := up_spec hrows hm hf.1
      have his := (Array.getElem?_eq_some_iff.1 ho).1
      obtain ⟨⟨o', ho', hone⟩, _⟩ := h
      obtain rfl : o' = o := Option.some.inj (ho'.symm.trans ho)
      exact hone.wpOp ho hS (fun a' w' hS' hr => by
        obtain ⟨S', h1, h2, h3⟩ := hr hS'
        exact anyH_mono h1 _ _ _ _ ((tree_sound hrows hw hs hQ t S' n _ _ _ _ (hm.set his) (by omega) hf.2.2.1 h2 h3).1 hf.2.1))
    · exact (tree_sound hrows hw hs hQ r S fuel listed L a w hm (by omega) hf.2.2.2 hS h.2).2 n hfn j hj
  | .stop, S, fuel, listed, L, a, w, hm, hn, hf, hS, h => ⟨fun h => (by cases h), fun n _ i hi => (by cases hi)⟩
/-- the steps, written out -/
inductive TS where
  | nil
  | light (g : Option (Option Tmp × Bool)) (o : Oper) (t : TS)
  | node (c : TS)
  | alt (g : Option (Option Tmp × Bool)) (o : Oper) (t r : TS)
  | stop
  | bad
def treeOf (ops : Array Oper) : Tree → TS
  | .nil => .nil
  | .light i t => (ops[i]?).elim .bad fun o => .light (guardOf ops o) o (treeOf ops t)
  | .node c => .node (treeOf ops c)
  | .alt i t r => (ops[i]?).elim .bad fun o => .alt (guardOf ops o) o (treeOf ops t) (treeOf ops r)
  | .stop => .stop
def TWalk (P : Program) (Q : Exit → Act → World → Prop) : TS → (World → Prop) → Act → World → Prop
  | .nil, S, a, w => S w → Q .normal a w
  | .light g o t, S, a, w => ∃ v, ((gate a g = true ∧ ∀ w', S w' → (execOp a.eval o).run P w' = .ok (.value v) w') ∨ (gate a g = false ∧ v = undef)) ∧ TWalk P Q t S (a.put o.dst v) w
  | .node c, S, a, w => TWalk P Q c S a w
  | .alt g o t r, S, a, w => Act1 P Q S g o a w (fun a' w' => S w' → ∃ S' : World → Prop, (∀ z, S' z → S z) ∧ S' w' ∧ TWalk P Q t S' a' w') ∧ TWalk P Q r S a w
  | .stop, _, _, _ => True
  | .bad, _, _, _ => False
theorem one_act {S : World → Prop} {o : Oper} {a : Act} {w : World} {K : Act → World → Prop} (h : Act1 P Q S (guardOf ops o) o a w K) : One P Q S ops o a w K := by
  unfold Act1 at h
  unfold One
  exact h
theorem twalk_runs : ∀ (T : Tree) (S : World → Prop) (a : Act) (w : World), TWalk P Q (treeOf ops T) S a w → TRuns P Q ops T S a w
  | .nil, S, a, w, h => h
  | .light i t, S, a, w, h => by
    cases ho : ops[i]? with
    | none => simp only [treeOf, ho, Option.elim_none, TWalk] at h
    | some o =>
      simp only [treeOf, ho, Option.elim_some, TWalk] at h
      obtain ⟨v, hv, hr⟩ := h
      exact ⟨o, v, ho, hv, twalk_runs t S _ _ hr⟩
  | .node c, S, a, w, h => twalk_runs c S a w h
  | .alt i t r, S, a, w, h => by
    cases ho : ops[i]? with
    | none => simp only [treeOf, ho, Option.elim_none, TWalk] at h
    | some o =>
      simp only [treeOf, ho, Option.elim_some, TWalk] at h
      exact ⟨⟨o, ho, one_act (Act1.mono h.1 (fun a' w' hr hS => by
        obtain ⟨S', h1, h2, h3⟩ := hr hS
        exact ⟨S', h1, h2, twalk_runs t S' _ _ h3⟩))⟩, twalk_runs r S a w h.2⟩
  | .stop, S, a, w, h => h
/-- THE BEGINNING: the tree, and its steps written out -/
theorem region_tree {S : World → Prop} {id : Nat} {a : Act} {w : World} (rows : List (Nat × Nat × Nat)) (T : Tree) {l : TS} (hm : P.follows .mixedOrders = true) (hs : Region.noSelect ops = true)
    (hrows : ops.toList.map (rowOf .any ops) = rows) (hp : (wired rows 0 && (T.main && (checkT rows T 0 && decide (T.count ≤ rows.length)))) = true)
    (hl : treeOf ops T = l) (hS : S w.drew) (h : TWalk P (NoPanic Q) l S a w.drew) : (Code.region id ops true).wp P Q a w :=
  wp_region_noPanic (wp_region_held_drew hm hS (fun hS' => by
    simp only [Bool.and_eq_true, decide_eq_true_eq] at hp
    have hlen : rows.length = ops.size := by rw [← hrows]; simp
    exact (tree_sound hrows hp.1 hs (fun _ _ _ _ _ h => h) T S _ _ _ _ _ (Met.start ops) (by omega) hp.2.2.1 hS' (twalk_runs T S a _ (by rw [hl]; exact h))).1 hp.2.1))
variable {S : World → Prop} {o : Oper} {l r : TS} {a : Act} {w : World} {g : Option (Option Tmp × Bool)} {v : Value} {t : Tmp} {b : Bool}
theorem tEnds (h : S w → Q .normal a w) : TWalk P (NoPanic Q) .nil S a w := fun hS => NoPanic.normal (h hS)
theorem tTakes (hy : ∀ w', S w' → (execOp a.eval o).run P w' = .ok (.value v) w') (h : TWalk P Q l S (a.put o.dst v) w) : TWalk P Q (.light none o l) S a w := ⟨v, .inl ⟨rfl, hy⟩, h⟩
theorem tTakesG (hg : a.tmps.toList[t]? = some (.bool b)) (hy : ∀ w', S w' → (execOp a.eval o).run P w' = .ok (.value v) w') (h : TWalk P Q l S (a.put o.dst v) w) : TWalk P Q (.light (some (some t, b)) o l) S a w :=
  ⟨v, .inl ⟨by rw [gate_some hg]; simp, hy⟩, h⟩
theorem tSkipsT (hg : a.tmps.toList[t]? = some (.bool false)) (h : TWalk P Q l S (a.put o.dst undef) w) : TWalk P Q (.light (some (some t, true)) o l) S a w :=
  ⟨undef, .inr ⟨by rw [gate_some hg]; simp, rfl⟩, h⟩
theorem tSkipsF (hg : a.tmps.toList[t]? = some (.bool true)) (h : TWalk P Q l S (a.put o.dst undef) w) : TWalk P Q (.light (some (some t, false)) o l) S a w :=
  ⟨undef, .inr ⟨by rw [gate_some hg]; simp, rfl⟩, h⟩
theorem tSkipsU (hg : a.tmps.toList[t]? = some undef) (h : TWalk P Q l S (a.put o.dst undef) w) : TWalk P Q (.light (some (some t, b)) o l) S a w :=
  ⟨undef, .inr ⟨gate_undef hg b, rfl⟩, h⟩
/-- several come up: each in turn -/
theorem tAlt (h1 : Act1 P Q S g o a w (TWalk P Q l S)) (h2 : TWalk P Q r S a w) : TWalk P Q (.alt g o l r) S a w := ⟨Act1.mono h1 (fun _ _ h hS => ⟨S, fun _ h => h, hS, h⟩), h2⟩
theorem tAltS (h1 : Act1 P Q S g o a w (fun a' w' => S w' → ∃ S' : World → Prop, (∀ z, S' z → S z) ∧ S' w' ∧ TWalk P Q l S' a' w')) (h2 : TWalk P Q r S a w) : TWalk P Q (.alt g o l r) S a w := ⟨h1, h2⟩
theorem tStop : TWalk P Q .stop S a w := trivial
theorem tNode (h : TWalk P Q l S a w) : TWalk P Q (.node l) S a w := h
/-- one that comes up alone -/
theorem tRuns (h : Act1 P Q S g o a w (TWalk P Q l S)) : TWalk P Q (.node (.alt g o l .stop)) S a w := tNode (tAlt h tStop)
theorem tRunsS (h : Act1 P Q S g o a w (fun a' w' => S w' → ∃ S' : World → Prop, (∀ z, S' z → S z) ∧ S' w' ∧ TWalk P Q l S' a' w')) : TWalk P Q (.node (.alt g o l .stop)) S a w := tNode (tAltS h tStop)
theorem act_pass {K : Act → World → Prop} (hg : gate a g = false) (h : K (a.put o.dst undef) w) : Act1 P Q S g o a w K := by
  unfold Act1
  exact .inr ⟨hg, h⟩
theorem tPassT (hg : a.tmps.toList[t]? = some (.bool false)) (h : TWalk P Q l S (a.put o.dst undef) w) : TWalk P Q (.node (.alt (some (some t, true)) o l .stop)) S a w := tRuns (act_pass (by rw [gate_some hg]; simp) h)
theorem tPassF (hg : a.tmps.toList[t]? = some (.bool true)) (h : TWalk P Q l S (a.put o.dst undef) w) : TWalk P Q (.node (.alt (some (some t, false)) o l .stop)) S a w := tRuns (act_pass (by rw [gate_some hg]; simp) h)
theorem tPassU (hg : a.tmps.toList[t]? = some undef) (h : TWalk P Q l S (a.put o.dst undef) w) : TWalk P Q (.node (.alt (some (some t, b)) o l .stop)) S a w := tRuns (act_pass (gate_undef hg b) h)
end
attribute [irreducible] TRuns TWalk
end Go.Proofs.Ytpfdmjgojpngjaa.Run
