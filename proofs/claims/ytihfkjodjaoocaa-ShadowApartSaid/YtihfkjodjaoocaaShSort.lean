/- Walks of package shelf: a slice of keys sorted. -/
import Derived.Test.YtihfkjodjaoocaaShCmp
import Derived.Shelf.SlSortCmp.NoneTotal
set_option maxRecDepth 4000
namespace Go.Proofs.Ytihfkjodjaoocaa
open Go.RowKit Mem
open Go.Sort (grow HoldsK putRowK flatK get_flatK PermIn SortedIn SWO)
open Go.Shelf
set_option linter.unusedSimpArgs false
set_option linter.unusedVariables false
attribute [local irreducible] Go.Calls

/-- keys in memory -/
def ukE : Enc (Int × Int) where
  cells p := [.int .u32 p.1, .int .u64 p.2]
  size := 2
  len _ := rfl
  one p u hu := by simp at hu; rcases hu with rfl | rfl <;> rfl
theorem keyElem : Elem Try.prog 82 66 2 16 := elem_of (z := .agg #[.int .u32 0, .int .u64 0]) Try.underlying82 (by kernel_rfl) rfl
abbrev okK (p : Int × Int) : Prop := (0 ≤ p.1 ∧ p.1 ≤ 4294967295) ∧ (0 ≤ p.2 ∧ p.2 ≤ 18446744073709551615)
/-- which key comes first -/
def KAhead (f : Int) (x y : Int × Int) : Prop := stepE f x.1 < stepE f y.1 ∨ (stepE f x.1 = stepE f y.1 ∧ x.2 < y.2)
theorem kahead_iff {f : Int} {x y : Ent} : Ahead f x y ↔ KAhead f (keyP x) (keyP y) := ahead_iff
theorem kahead_asymm {f : Int} {x y : Int × Int} (h : KAhead f x y) : ¬ KAhead f y x := by
  unfold KAhead at *
  omega
theorem kahead_total {f : Int} {x y : Int × Int} (hx : okK x) (hy : okK y) (h : x ≠ y) : KAhead f x y ∨ KAhead f y x := by
  by_cases e : stepE f x.1 = stepE f y.1
  · have e1 := stepE_inj hx.1 hy.1 e
    have : x.2 ≠ y.2 := fun e2 => h (Prod.ext e1 e2)
    unfold KAhead
    omega
  · unfold KAhead
    omega
/-- the closure's answer, whatever the keys -/
def encQ (x : Int × Int) : List Value := [.int .u32 (x.1 % 4294967296), .int .u64 (x.2 % 18446744073709551616)]
def cmpQ (f : Int) (x y : Int × Int) : Int := cmpV f (x.1 % 4294967296) (x.2 % 18446744073709551616) (y.1 % 4294967296) (y.2 % 18446744073709551616)
theorem cmpInt_lt (x y : Int) : Lib.compareInt x y < 0 ↔ x < y := by
  unfold Lib.compareInt
  split
  · simp; omega
  · split <;> simp <;> omega
theorem ltQ (f : Int) (x y : Int × Int) : ltOf (cmpQ f) x y = decide (stepE f (x.1 % 4294967296) < stepE f (y.1 % 4294967296) ∨ (stepE f (x.1 % 4294967296) = stepE f (y.1 % 4294967296) ∧ x.2 % 18446744073709551616 < y.2 % 18446744073709551616)) := by
  unfold ltOf cmpQ cmpV
  have h1 : 0 ≤ x.1 % 4294967296 ∧ x.1 % 4294967296 ≤ 4294967295 := by omega
  have h2 : 0 ≤ y.1 % 4294967296 ∧ y.1 % 4294967296 ≤ 4294967295 := by omega
  by_cases e : x.1 % 4294967296 = y.1 % 4294967296
  · rw [if_pos e]
    rw [decide_eq_decide, cmpInt_lt]
    constructor
    · intro h
      exact .inr ⟨by rw [e], h⟩
    · rintro (h | h)
      · rw [e] at h; omega
      · exact h.2
  · rw [if_neg e]
    have hne : stepE f (x.1 % 4294967296) ≠ stepE f (y.1 % 4294967296) := fun h => e (stepE_inj h1 h2 h)
    simp only [cmpInt_lt, decide_eq_decide]
    omega
theorem swoQ (f : Int) : Go.Sort.SWO (ltOf (cmpQ f)) where
  irrefl x := by rw [ltQ]; simp
  trans x y z h1 h2 := by rw [ltQ] at *; simp only [decide_eq_true_eq, decide_eq_false_iff_not] at *; omega
  ntrans x y z h1 h2 := by rw [ltQ] at *; simp only [decide_eq_true_eq, decide_eq_false_iff_not] at *; omega
theorem encQ_ok {x : Int × Int} (h : okK x) : encQ x = ukE.cells x := by
  have e1 : x.1 % 4294967296 = x.1 := by have := h.1; omega
  have e2 : x.2 % 18446744073709551616 = x.2 := by have := h.2; omega
  unfold encQ
  rw [e1, e2]
  rfl
theorem ltQ_ok {f : Int} {x y : Int × Int} (hx : okK x) (hy : okK y) : ltOf (cmpQ f) x y = true ↔ KAhead f x y := by
  rw [ltQ]
  have e1 : x.1 % 4294967296 = x.1 := by have := hx.1; omega
  have e2 : x.2 % 18446744073709551616 = x.2 := by have := hx.2; omega
  have e3 : y.1 % 4294967296 = y.1 := by have := hy.1; omega
  have e4 : y.2 % 18446744073709551616 = y.2 := by have := hy.2; omega
  rw [e1, e2, e3, e4]
  simp [KAhead]
/-! ### the sort -/
theorem pairwise_get {l : List (Int × Int)} {R : Int × Int → Int × Int → Prop} (h : ∀ i j (hi : i < l.length) (hj : j < l.length), i < j → R l[i] l[j]) : l.Pairwise R := List.pairwise_iff_getElem.2 (fun i j hi hj hij => h i j hi hj hij)
/-- a row of keys, as the library speaks of one -/
theorem holds_of_rd {w : World} {g : Nat} {l : List (Int × Int)} {c : Nat} {N : Nat} (h : Row ukE 66 N w (.slice (some ⟨g, 0, none⟩) l.length c) l) (hok : ∀ p ∈ l, okK p) (hl : 0 < l.length) : HoldsK encQ 2 w g 0 l.toArray := by
  intro j hj
  have hj : j < l.length * 2 := by simpa using hj
  have hi : j / 2 < l.length := by omega
  have hd : l.toArray[j / 2]! = l[j / 2] := by simp [hi]
  have hm : j % 2 < 2 := by omega
  refine ⟨?_, ?_⟩
  · obtain ⟨g', off, c', hv, h1, h2, hc⟩ := h.rd.cells hl
    injection hv with e1 e2 e3
    injection e1 with e1
    injection e1 with e1 e4
    subst e1
    have := hc (j / 2) hi (j % 2) hm
    have hsz : ukE.size = 2 := rfl
    rw [hsz, ← e4, Nat.zero_add, show j / 2 * 2 + j % 2 = j by omega] at this
    rw [Nat.zero_add, this, get_flatK encQ 2 _ j (by simpa using hj), hd, encQ_ok (hok _ (List.getElem_mem hi))]
    have hlen : (ukE.cells l[j / 2]).length = 2 := rfl
    rw [List.getElem?_eq_getElem (by rw [hlen]; exact hm), getElem!_pos _ _ (by rw [hlen]; exact hm)]
    rfl
  · rw [Nat.zero_add]
    exact World.ownsRow.frozenAt h _
theorem only_sortK {α : Type} [Inhabited α] (enc : α → List Value) (k : Nat) (w : World) (g m : Nat) (d : Array α) (os : Array Obj) : Only g w (sortWorldK enc k w g 0 m d os) := by
  unfold sortWorldK putRowK
  refine ⟨rfl, rfl, rfl, by simp [Go.Sort.grow, Go.Sort.putRow, Go.Sort.mapBlock, Go.Sort.ahead], fun j hj hne => ?_⟩
  have hne : g ≠ j := fun e => hne (by rw [e])
  show ((Go.Sort.putRow id (Go.Sort.ahead w m) g 0 (flatK enc k d)).heap ++ os)[j]? = w.heap[j]?
  rw [Array.getElem?_append_left (by simpa [Go.Sort.putRow, Go.Sort.mapBlock, Go.Sort.ahead] using hj)]
  simp [Go.Sort.putRow, Go.Sort.mapBlock, Go.Sort.ahead, Array.getElem?_modify, hne]
theorem rd_of_holds {w : World} {g : Nat} {l : List (Int × Int)} {c : Nat} (h : HoldsK encQ 2 w g 0 l.toArray) (hok : ∀ p ∈ l, okK p) (h1 : l.length ≤ c) (h2 : c ≤ maxLen) : Rd ukE w (.slice (some ⟨g, 0, none⟩) l.length c) l := by
  refine ⟨_, c, rfl, h1, h2, fun hl => ⟨g, 0, rfl, fun j u hu => ?_⟩⟩
  have hj : j < l.length * 2 := by
    have := (List.getElem?_eq_some_iff.1 hu).1
    rw [Enc.flat_len] at this
    exact this
  have hi : j / 2 < l.length := by omega
  have hm : j % 2 < 2 := by omega
  have hd : l.toArray[j / 2]! = l[j / 2] := by simp [hi]
  have := (h j (by simpa using hj)).1
  rw [get_flatK encQ 2 _ j (by simpa using hj), hd, encQ_ok (hok _ (List.getElem_mem hi))] at this
  have hf := ukE.flat_at (l := l) (i := j / 2) (j := j % 2) hi hm
  have hsz : ukE.size = 2 := rfl
  rw [hsz, show j / 2 * 2 + j % 2 = j by omega, hu] at hf
  rw [this, hf]
  have hlen : (ukE.cells l[j / 2]).length = 2 := rfl
  rw [List.getElem?_eq_getElem (by rw [hlen]; exact hm), getElem!_pos _ _ (by rw [hlen]; exact hm)]
  rfl
theorem agg28 (w : World) : (isAgg 66).run Try.prog w = .ok true w := Try.isAgg66 w
theorem size28 (w : World) : (Go.sizeOf 66).run Try.prog w = .ok 2 w := Try.sizeOf66 w
theorem sortkeys_any (gs : Nat) (f t : Int) (l : List (Int × Int)) (v : Value) (N : Nat) (w : World) (h : Row ukE 66 N w v l) (hok : ∀ p ∈ l, okK p) (hnd : l.Nodup) (hn : l.length ≤ 1000000) (hgs : gs < N) (hN : N ≤ w.heap.size)
    (h0 : w.cell? ⟨gs, 0, none⟩ = some (.int .u32 f)) (h1 : w.cell? ⟨gs, 1, none⟩ = some (.int .u32 t)) :
    Calls Try.prog 53 #[v, .func (.func 54) #[] #[.pointer (some ⟨gs, 0, none⟩)]] w fun e w' => e = .returned (.tuple #[]) ∧ ∃ l', Rd ukE w' v l' ∧ l'.Perm l ∧ l'.Pairwise (KAhead f) ∧ Below N w w' := by
  rcases h.form with ⟨rfl, rfl⟩ | ⟨g, c, rfl, hg, hg2, hc, hc2⟩
  · refine (AnyF.slices_SortFunc_none laySortKey none 0 _ w).mono ?_
    rintro e w' ⟨rfl, rfl⟩
    exact ⟨rfl, [], Rd.nil _ _ (Nat.zero_le _), List.Perm.refl _, List.Pairwise.nil, Below.refl _ _⟩
  by_cases hl : 0 < l.length
  · have eg : ∀ args w, (callFunc 54 args).run Try.prog w = .ok (.enter 54 args) w := Run.callFunc_enters (by kernel_rfl)
    have hH := holds_of_rd h hok hl
    have hcmp : CmpLays Try.prog 54 #[.pointer (some ⟨gs, 0, none⟩)] encQ 2 (cmpQ f) g 0 l.toArray.size w := fun m os dk _ x y => by
      have tt := Turned.of_only (S := fun j => j = g) (only_sortK encQ 2 w g m dk os) rfl
      exact shcmp_any gs f t _ _ _ _ _ (tt.cell h0 (by show ¬ gs = g; omega)) (tt.cell h1 (by show ¬ gs = g; omega))
    have := AnyQ.slices_SortFunc laySortKey 2 agg28 size28 encQ (fun _ => rfl) (fun x v hv => by simp [encQ] at hv; rcases hv with rfl | rfl <;> rfl) (cmpQ f) (swoQ f) 54 #[.pointer (some ⟨gs, 0, none⟩)] g 0 c l.toArray w eg hcmp hH hg2 (by simp; omega)
    have hsz : l.toArray.size = l.length := by simp
    rw [hsz] at this
    change Calls Try.prog 53 _ _ _ at this
    refine this.mono ?_
    rintro e w' ⟨rfl, d', n, os, hp, hs, rfl⟩
    obtain ⟨hp1, _, hp3⟩ := hp
    have hsz' : d'.size = l.length := by rw [hp1, hsz]
    have hperm : d'.toList.Perm l := by
      have e1 : d'.extract 0 l.length = d' := by rw [← hsz']; simp
      have e2 : l.toArray.extract 0 l.length = l.toArray := by rw [← hsz]; simp
      rw [e1, e2] at hp3
      simpa using hp3
    have hok' : ∀ p ∈ d'.toList, okK p := fun p hp => hok p (hperm.mem_iff.1 hp)
    have hH' : HoldsK encQ 2 (sortWorldK encQ 2 w g 0 n d' os) g 0 d'.toList.toArray := by
      unfold sortWorldK
      refine Go.Sort.holdsK_grow encQ 2 _ os g 0 _ ?_ ?_
      · simpa [putRowK, Go.Sort.putRow, Go.Sort.mapBlock, Go.Sort.ahead] using hg2
      · exact Go.Sort.holdsK_putRowK encQ 2 _ g 0 l.toArray d' (Go.Sort.holdsK_ahead encQ 2 w n g 0 _ hH) hp1
    have hlen : d'.toList.length = l.length := by rw [Array.length_toList, hsz']
    refine ⟨rfl, d'.toList, ?_, hperm, ?_, (only_sortK encQ 2 w g n d' os).below hg hN⟩
    · have := rd_of_holds (c := c) hH' hok' (by rw [hlen]; exact hc) hc2
      rw [hlen] at this
      exact this
    · refine pairwise_get (fun i j hi hj hij => ?_)
      have hi' : i < d'.size := by simpa using hi
      have hj' : j < d'.size := by simpa using hj
      have hlt := hs i j (Nat.zero_le _) hij (by rw [← hsz']; exact hj')
      rw [getElem!_pos d' i hi', getElem!_pos d' j hj'] at hlt
      have hoi := hok' d'.toList[i] (List.getElem_mem hi)
      have hoj := hok' d'.toList[j] (List.getElem_mem hj)
      have hne : d'.toList[i] ≠ d'.toList[j] := fun e => by
        have := (List.getElem_inj (hperm.nodup_iff.2 hnd)).1 e
        omega
      rcases kahead_total hoi hoj hne with h | h
      · exact h
      · have := (ltQ_ok hoj hoi).2 h
        simp only [Array.getElem_toList] at this
        rw [hlt] at this
        cases this
  · have hl0 : l = [] := List.eq_nil_of_length_eq_zero (by omega)
    subst hl0
    refine (AnyF.slices_SortFunc_none laySortKey (some ⟨g, 0, none⟩) c _ w).mono ?_
    rintro e w' ⟨rfl, rfl⟩
    exact ⟨rfl, [], Rd.nil _ _ hc2, List.Perm.refl _, List.Pairwise.nil, Below.refl _ _⟩
end Go.Proofs.Ytihfkjodjaoocaa
