/- Package message: getRecords. -/
import Derived.Test.YthhelhhlofdehaaMsgOrec
import Derived.Test.YthhelhhlofdehaaMsgObox
import Derived.Test.YthhelhhlofdehaaMem
set_option maxRecDepth 4000
namespace Go.Proofs.Ythhelhhlofdehaa
open Go.RowKit Mem
set_option linter.unusedSimpArgs false
set_option linter.unusedVariables false
attribute [local irreducible] Go.Calls

def recsQ (l : List Int) (q a n : Nat) : List (Int × Int × List Int) := (List.range n).map fun i => recQ l (q + (16 + 4 * a) * i) a
theorem recsQ_len (l : List Int) (q a n : Nat) : (recsQ l q a n).length = n := by simp [recsQ]
theorem recsQ_succ (l : List Int) (q a n : Nat) : recsQ l q a (n + 1) = recsQ l q a n ++ [recQ l (q + (16 + 4 * a) * n) a] := by simp [recsQ, List.range_succ]
theorem recsQ_bd {l : List Int} (h : Byt l) (q a n : Nat) : ∀ x ∈ recsQ l q a n, recB x := by
  intro x hx
  simp only [recsQ, List.mem_map] at hx
  obtain ⟨i, _, rfl⟩ := hx
  exact recQ_bd h _ _
/-- one element of a slice of records, of one's own -/
def RecR (B : Nat) (w : World) (x : Raw recordK.size) (y : Int × Int × List Int) : Prop := ∃ v, x.1 = [.int .u64 y.1, .int .u64 y.2.1, v] ∧ Row (intE .u32) 22 B w v y.2.2
/-- a slice of records of one's own -/
def RecsAt (B : Nat) (w : World) (v : Value) (L : List (Int × Int × List Int)) : Prop :=
  ∃ hs : List (Raw recordK.size), Row (rawE recordK.size) 26 B w v hs ∧ hs.length = L.length ∧ ∀ (i : Nat) (x : Raw recordK.size) (y : Int × Int × List Int), hs[i]? = some x → L[i]? = some y → RecR B w x y
theorem RecR.keep {B : Nat} {w w' : World} {x : Raw recordK.size} {y : Int × Int × List Int} (h : RecR B w x y) (k : Below w.heap.size w w') : RecR B w' x y := by
  obtain ⟨v, h1, h2⟩ := h
  exact ⟨v, h1, h2.keep k⟩
theorem RecR.only {B d : Nat} {w w' : World} {x : Raw recordK.size} {y : Int × Int × List Int} (h : RecR B w x y) (k : Only d w w') (hd : d < B) : RecR B w' x y := by
  obtain ⟨v, h1, h2⟩ := h
  exact ⟨v, h1, h2.only k (fun e => by have := (h2.block d e).1; omega)⟩
theorem RecsAt.keep {B : Nat} {w w' : World} {v : Value} {L : List (Int × Int × List Int)} (h : RecsAt B w v L) (k : Below w.heap.size w w') : RecsAt B w' v L := by
  obtain ⟨hs, h1, h2, h3⟩ := h
  exact ⟨hs, h1.keep k, h2, fun i x y hx hy => (h3 i x y hx hy).keep k⟩
theorem RecsAt.only {B d : Nat} {w w' : World} {v : Value} {L : List (Int × Int × List Int)} (h : RecsAt B w v L) (k : Only d w w') (hd : d < B) : RecsAt B w' v L := by
  obtain ⟨hs, h1, h2, h3⟩ := h
  exact ⟨hs, h1.only k (fun e => by have := (h1.block d e).1; omega), h2, fun i x y hx hy => (h3 i x y hx hy).only k hd⟩
/-- rows of other elements lie in other blocks -/
theorem row_other {α β : Type} {E : Enc α} {E' : Enc β} {T T' : TypeId} {B B' : Nat} {w : World} {v v' : Value} {l : List α} {l' : List β} (h : Row E T B w v l) (h' : Row E' T' B' w v' l') (hne : T ≠ T') : v.ownBlock = none ∨ v.ownBlock ≠ v'.ownBlock := by
  rcases h'.2 with ⟨rfl, _⟩ | ⟨g, cap, cur, rfl, _, hblk, _⟩
  · cases hv : v.ownBlock with
    | none => exact .inl rfl
    | some k => exact .inr (by intro e; cases e)
  · exact .inr (h.ne_blk hblk hne)
theorem RecR.grown {B B' : Nat} {w w' : World} {x : Raw recordK.size} {y : Int × Int × List Int} {v' : Value} {hs : List (Raw recordK.size)} (h : RecR B w x y) (hr : Row (rawE recordK.size) 26 B' w v' hs) (k : w.grownBy w' v'.ownBlock) : RecR B w' x y := by
  obtain ⟨v, h1, h2⟩ := h
  exact ⟨v, h1, h2.kept k (row_other h2 hr (by decide))⟩
theorem recElemR : Elem Try.prog 32 26 3 40 := elem_of (z := .agg #[.int .u64 0, .int .u64 0, .slice none 0 0]) Try.underlying32 (by kernel_rfl) rfl
/-- a record's cells -/
def rawRec (i v : Int) (x : Value) (hx : x.oneCell' = true) : Raw recordK.size := ⟨[.int .u64 i, .int .u64 v, x], rfl, by intro u hu; simp at hu; rcases hu with rfl | rfl | rfl; rfl; rfl; exact hx⟩
def OGetRecs (b : Nat) (g : Option Nat) (l : List Int) (q a N : Nat) (w : World) (e : Ending) (w' : World) : Prop :=
  ∃ x k, e = .returned x ∧ RecsAt w.heap.size w' x (recsQ l (q + 2) a k) ∧ k ≤ N ∧ (q + 2 + (16 + 4 * a) * N ≤ l.length → k = N) ∧ OrQ w' b g l (q + 2 + (16 + 4 * a) * N) ∧ Only b w w'
set_option maxRecDepth 100000 in
set_option maxHeartbeats 4000000 in
theorem ogetrecs_any (b : Nat) (g : Option Nat) (l : List Int) (q a N : Nat) (w : World) (hN : gq l q 2 = N) (h : OrQ w b g l q) (hg : ∀ k, g = some k → k < w.heap.size) (hl : l.length ≤ 1000000) (hb : Byt l) (ha : 1 ≤ a ∧ a ≤ 8) :
    Calls Try.prog 78 #[.int .i64 a, .pointer (some ⟨b, 0, none⟩)] w (OGetRecs b g l q a N w) := by
  have hN8 : N ≤ 65535 := by have := (gq2 hb q).2; omega
  have HBY := Lib.hid hb
  have HL := Lib.hid hl
  have HR0 := Lib.hid h
  have HBW := Lib.hid h.lt
  have HGK := Lib.hid hg
  have HAA := Lib.hid ha
  clear h hb hl hg ha
  go_enter Try.func78, Try.ntmps78
  go_upto_region 3 with (go_at_call 60; refine (ogetq b g l q 2 sz2 _ HR0.out HL.out HBY.out).mono ?_; rintro e1 y1 ⟨rfl, hr1, ho1⟩; rw [hN])
  have HR1 := Lib.hid hr1
  have HO1 := Lib.hid ho1
  clear hr1 ho1 HR0
  go_loopw [5, 6] (fun o n wr => ∃ k : Nat, k ≤ N ∧ n = .int .u64 ((N : Int) - k) ∧ RecsAt w.heap.size wr o (recsQ l (q + 2) a k) ∧ OrQ wr b g l (q + 2 + (16 + 4 * a) * k) ∧ Only b w wr) (fun _ n _ => (intOf n).toNat)
  case atStart => exact ⟨0, Nat.zero_le _, by simp, ⟨[], Row.nil, by simp [recsQ], fun i x y hx _ => by simp at hx⟩, HR1.out, HO1.out⟩
  case round =>
    obtain ⟨k, hk, rfl, ⟨hs, hrow, hn, hel⟩, hr, ho⟩ := hrel
    obtain ⟨ao, co, rfl, hco1, hco2⟩ := hrow.rd.form
    have HROW := Lib.hid hrow
    have HR := Lib.hid hr
    have HO := Lib.hid ho
    have HEL := Lib.hid hel
    have HN := Lib.hid (hn.trans (recsQ_len l (q + 2) a k))
    have HNN := Lib.hid hn
    by_cases hlt : k < N
    · have d1 : decide ((N : Int) - k > 0) = true := decide_eq_true (by omega)
      by_cases hle : q + 2 + (16 + 4 * a) * k ≤ l.length
      · have HE : Hid (Calls Try.prog 62 #[.pointer (some ⟨b, 0, none⟩)] wr fun e w' => e = .returned (.int .i64 0) ∧ Below wr.heap.size wr w') := Lib.hid (by have := oerrq b g l (q + 2 + (16 + 4 * a) * k) wr hr; unfold errQ at this; rwa [if_pos hle] at this)
        have hne : (Value.slice ao hs.length co).ownBlock ≠ some b := fun e => by have := (hrow.block b e).1; have := HBW.out; omega
        have HNE := Lib.hid hne
        have HNG : Hid (∀ k', g = some k' → (Value.slice ao hs.length co).ownBlock ≠ some k') := Lib.hid (fun k' hk' e => by have := (hrow.block k' e).1; have := HGK.out k' hk'; omega)
        have HSU := Lib.hid (recsQ_succ l (q + 2) a k)
        clear hrow hr ho hne hel hn
        go_upto_region 5 with (go_at_call 62; refine HE.out.mono ?_; rintro e x1 ⟨rfl, hx1⟩)
        have HR2 := Lib.hid (HR.out.keep hx1)
        have HO2 := Lib.hid (HO.out.trans (Only.of_below (b := b) hx1))
        have HROW2 := Lib.hid (HROW.out.keep hx1)
        have HEL2 : Hid (∀ (i : Nat) (x : Raw recordK.size) (y : Int × Int × List Int), hs[i]? = some x → (recsQ l (q + 2) a k)[i]? = some y → RecR w.heap.size x1 x y) := Lib.hid (fun i x y hx hy => (HEL.out i x y hx hy).keep hx1)
        have HGL : Hid (∀ k, g = some k → k < x1.heap.size) := Lib.hid (fun k hk => by have := HGK.out k hk; have := HO2.out.size; omega)
        clear hx1 HE HR HO HROW HEL
        refine Run.region_seq (S := fun _ => True)
          [0, 0, 0, 1, 1, 1, 0] (l := ?_) ?_ trivial ?_
        rotate_left
        (· simp only [Run.seqOf, List.toList_toArray, Run.stepsOf, Run.stepOf, Run.guardOf, List.getElem?_toArray, List.getElem?_cons_zero, List.getElem?_cons_succ, Option.map_some, Option.map_none, Option.bind_some, Option.toList_some, List.map_cons, List.map_nil, List.cons_append, List.nil_append]
           rfl)
        repeat ((first
          | (refine Run.takes (v := ?_) ?_ ?_; rotate_left; (· intro w' hS'; go_simp; (try with_reducible rfl)))
          | (refine Run.takesG (v := ?_) ?_ ?_ ?_; rotate_left; (· simp only [List.getElem?_cons_zero, List.getElem?_cons_succ]); (· intro w' hS'; go_simp; (try with_reducible rfl)))
          | (refine Run.skipsT ?_ ?_; (· simp only [List.getElem?_cons_zero, List.getElem?_cons_succ]))
          | (refine Run.skipsF ?_ ?_; (· simp only [List.getElem?_cons_zero, List.getElem?_cons_succ]))
          | (refine Run.skipsU ?_ ?_; (· simp only [List.getElem?_cons_zero, List.getElem?_cons_succ]))
          | (refine Run.passT ?_ ?_; (· simp only [List.getElem?_cons_zero, List.getElem?_cons_succ]))
          | (refine Run.passF ?_ ?_; (· simp only [List.getElem?_cons_zero, List.getElem?_cons_succ]))
          | (refine Run.passU ?_ ?_; (· simp only [List.getElem?_cons_zero, List.getElem?_cons_succ]))
          | fail); simp only [Act.put, List.setIfInBounds_toArray, List.set_cons_zero, List.set_cons_succ])
        refine Run.runsS (Run.callF 82 (by kernel_rfl) (fun hS => ogetrec_any b g l (q + 2 + (16 + 4 * a) * k) a x1 HR2.out HGL.out HL.out HBY.out HAA.out) rfl ?_)
        rintro hS e x4 ⟨xv, rfl, hrv, hr4, ho4⟩
        have HR4 := Lib.hid hr4
        have HO4 := Lib.hid (HO2.out.trans ho4)
        have HROW4 := Lib.hid (HROW2.out.only ho4 HNE.out)
        have HEL4 : Hid (∀ (i : Nat) (x : Raw recordK.size) (y : Int × Int × List Int), hs[i]? = some x → (recsQ l (q + 2) a k)[i]? = some y → RecR w.heap.size x4 x y) := Lib.hid (fun i x y hx hy => (HEL2.out i x y hx hy).only ho4 HBW.out)
        have HXV := Lib.hid (hrv.mono HO2.out.size)
        obtain ⟨av, cv, rfl, hcv1, hcv2⟩ := hrv.rd.form
        obtain ⟨nv, hnv⟩ : ∃ nv, nv = (valQ l (q + 2 + (16 + 4 * a) * k + 16) a).length := ⟨_, rfl⟩
        rw [← hnv] at HXV ⊢
        refine ⟨_, rfl, trivial, fun _ => ⟨fun _ => True, fun _ h => h, trivial, ?_⟩⟩
        clear hS hr4 ho4 HR2 HO2 HROW2 HEL2 hrv hcv1 hnv
        obtain ⟨I, hI⟩ : ∃ I, I = gq l (q + 2 + (16 + 4 * a) * k) 8 := ⟨_, rfl⟩
        obtain ⟨V, hV⟩ : ∃ V, V = gq l (q + 2 + (16 + 4 * a) * k + 8) 8 := ⟨_, rfl⟩
        rw [← hI, ← hV]
        have HI := Lib.hid hI
        have HV := Lib.hid hV
        clear hI hV
        try simp only [Act.put, List.setIfInBounds_toArray, List.set_cons_zero, List.set_cons_succ]
        repeat ((first
          | (refine Run.takes (v := ?_) ?_ ?_; rotate_left; (· intro w' hS'; go_simp; (try with_reducible rfl)))
          | (refine Run.takesG (v := ?_) ?_ ?_ ?_; rotate_left; (· simp only [List.getElem?_cons_zero, List.getElem?_cons_succ]); (· intro w' hS'; go_simp; (try with_reducible rfl)))
          | (refine Run.skipsT ?_ ?_; (· simp only [List.getElem?_cons_zero, List.getElem?_cons_succ]))
          | (refine Run.skipsF ?_ ?_; (· simp only [List.getElem?_cons_zero, List.getElem?_cons_succ]))
          | (refine Run.skipsU ?_ ?_; (· simp only [List.getElem?_cons_zero, List.getElem?_cons_succ]))
          | (refine Run.passT ?_ ?_; (· simp only [List.getElem?_cons_zero, List.getElem?_cons_succ]))
          | (refine Run.passF ?_ ?_; (· simp only [List.getElem?_cons_zero, List.getElem?_cons_succ]))
          | (refine Run.passU ?_ ?_; (· simp only [List.getElem?_cons_zero, List.getElem?_cons_succ]))
          | fail); simp only [Act.put, List.setIfInBounds_toArray, List.set_cons_zero, List.set_cons_succ])
        refine Run.runsS (Run.one (fun hS K1 hK1 => ?_))
        go_simp
        have hX : Below x4.heap.size x4 (x4.alloc (.cells #[.int .u64 I, .int .u64 V, .slice av nv cv] 26)) := more (Below.refl _ _) _
        have HX5 := Lib.hid (Row.lit (E := rawE recordK.size) x4.heap.size x4 #[.int .u64 I, .int .u64 V, .slice av nv cv] [rawRec I V (.slice av nv cv) rfl] 1 x4.heap.size rfl rfl rfl (Nat.le_refl _) (by simp [maxLen]) : Row (rawE recordK.size) 26 x4.heap.size (x4.alloc (.cells #[.int .u64 I, .int .u64 V, .slice av nv cv] 26)) (.slice (some ⟨x4.heap.size, 0, none⟩) 1 1) [rawRec I V (.slice av nv cv) rfl])
        have HR5 := Lib.hid (HR4.out.keep hX)
        have HO5 := Lib.hid (HO4.out.trans (Only.of_below (b := b) hX))
        have HROW5 := Lib.hid (HROW4.out.keep hX)
        have HXV5 := Lib.hid (HXV.out.keep hX)
        have HEL5 : Hid (∀ (i : Nat) (x : Raw recordK.size) (y : Int × Int × List Int), hs[i]? = some x → (recsQ l (q + 2) a k)[i]? = some y → RecR w.heap.size (x4.alloc (.cells #[.int .u64 I, .int .u64 V, .slice av nv cv] 26)) x y) := Lib.hid (fun i x y hx hy => (HEL4.out i x y hx hy).keep hX)
        refine hK1.out _ _ trivial (fun _ => ⟨fun _ => True, fun _ h => h, trivial, ?_⟩)
        clear hS K1 hK1 hX HR4 HO4 HROW4 HEL4 HXV
        generalize x4.alloc (.cells #[.int .u64 I, .int .u64 V, .slice av nv cv] 26) = x5 at *
        try simp only [Act.put, List.setIfInBounds_toArray, List.set_cons_zero, List.set_cons_succ]
        repeat ((first
          | (refine Run.takes (v := ?_) ?_ ?_; rotate_left; (· intro w' hS'; go_simp; (try with_reducible rfl)))
          | (refine Run.takesG (v := ?_) ?_ ?_ ?_; rotate_left; (· simp only [List.getElem?_cons_zero, List.getElem?_cons_succ]); (· intro w' hS'; go_simp; (try with_reducible rfl)))
          | (refine Run.skipsT ?_ ?_; (· simp only [List.getElem?_cons_zero, List.getElem?_cons_succ]))
          | (refine Run.skipsF ?_ ?_; (· simp only [List.getElem?_cons_zero, List.getElem?_cons_succ]))
          | (refine Run.skipsU ?_ ?_; (· simp only [List.getElem?_cons_zero, List.getElem?_cons_succ]))
          | (refine Run.passT ?_ ?_; (· simp only [List.getElem?_cons_zero, List.getElem?_cons_succ]))
          | (refine Run.passF ?_ ?_; (· simp only [List.getElem?_cons_zero, List.getElem?_cons_succ]))
          | (refine Run.passU ?_ ?_; (· simp only [List.getElem?_cons_zero, List.getElem?_cons_succ]))
          | fail); simp only [Act.put, List.setIfInBounds_toArray, List.set_cons_zero, List.set_cons_succ])
        refine Run.runsS (Run.one (fun hS K1 hK1 => ?_))
        refine wp_append (E := rawE recordK.size) (B := w.heap.size) (l := hs) (m := [rawRec I V (.slice av nv cv) rfl]) (bytes := 40) recElemR (Nat.zero_lt_succ 2) (.tmp 18) (.tmp 22) rfl rfl HROW5.out rfl HX5.out.rd (by rw [HN.out]; simp [maxLen]; omega) (by rw [HN.out]; simp; omega) HO5.out.size ?_
        intro v6 x6 hr6 hk6 hg6 _
        have HROW6 := Lib.hid hr6
        have HR6 := Lib.hid (HR5.out.grown hg6 HNE.out HNG.out)
        have HO6 := Lib.hid (Only.upto HO5.out hk6)
        have HXV6 := Lib.hid (HXV5.out.kept hg6 (row_other HXV5.out HROW5.out (by decide)))
        have HEL6 : Hid (∀ (i : Nat) (x : Raw recordK.size) (y : Int × Int × List Int), hs[i]? = some x → (recsQ l (q + 2) a k)[i]? = some y → RecR w.heap.size x6 x y) := Lib.hid (fun i x y hx hy => (HEL5.out i x y hx hy).grown HROW5.out hg6)
        obtain ⟨a6, c6, rfl, _, _⟩ := hr6.rd.form
        refine hK1.out _ _ trivial (fun _ => ⟨fun _ => True, fun _ h => h, trivial, ?_⟩)
        clear hS K1 hK1 hr6 hk6 hg6 HR5 HO5 HROW5 HX5 HEL5 HXV5
        try simp only [Act.put, List.setIfInBounds_toArray, List.set_cons_zero, List.set_cons_succ]
        repeat ((first
          | (refine Run.takes (v := ?_) ?_ ?_; rotate_left; (· intro w' hS'; go_simp; (try with_reducible rfl)))
          | (refine Run.takesG (v := ?_) ?_ ?_ ?_; rotate_left; (· simp only [List.getElem?_cons_zero, List.getElem?_cons_succ]); (· intro w' hS'; go_simp; (try with_reducible rfl)))
          | (refine Run.skipsT ?_ ?_; (· simp only [List.getElem?_cons_zero, List.getElem?_cons_succ]))
          | (refine Run.skipsF ?_ ?_; (· simp only [List.getElem?_cons_zero, List.getElem?_cons_succ]))
          | (refine Run.skipsU ?_ ?_; (· simp only [List.getElem?_cons_zero, List.getElem?_cons_succ]))
          | (refine Run.passT ?_ ?_; (· simp only [List.getElem?_cons_zero, List.getElem?_cons_succ]))
          | (refine Run.passF ?_ ?_; (· simp only [List.getElem?_cons_zero, List.getElem?_cons_succ]))
          | (refine Run.passU ?_ ?_; (· simp only [List.getElem?_cons_zero, List.getElem?_cons_succ]))
          | fail); simp only [Act.put, List.setIfInBounds_toArray, List.set_cons_zero, List.set_cons_succ])
        refine Run.ends (fun _ => ?_)
        have uw : IntKind.u64.wrap ((N : Int) - k - 1) = (N : Int) - (k + 1 : Nat) := by rw [IntWalk.u64_in _ (by omega)]; omega
        have HAT : Hid (RecsAt w.heap.size x6 (.slice a6 (hs ++ [rawRec I V (.slice av nv cv) rfl]).length c6) (recsQ l (q + 2) a (k + 1))) := Lib.hid ⟨_, HROW6.out, by rw [HSU.out, List.length_append, List.length_append, HNN.out]; rfl, fun i x y hx hy => by
          rw [HSU.out] at hy
          by_cases hi : i < hs.length
          · rw [List.getElem?_append_left hi] at hx
            rw [List.getElem?_append_left (by rw [← HNN.out]; exact hi)] at hy
            exact HEL6.out i x y hx hy
          · rw [List.getElem?_append_right (by omega)] at hx
            rw [List.getElem?_append_right (by rw [← HNN.out]; omega), ← HNN.out] at hy
            by_cases hi2 : i - hs.length = 0
            · rw [hi2] at hx hy
              simp only [List.getElem?_cons_zero, Option.some.injEq] at hx hy
              subst hx hy
              exact ⟨_, by show [Value.int .u64 I, Value.int .u64 V, _] = _; rw [HI.out, HV.out]; rfl, HXV6.out⟩
            · rw [List.getElem?_eq_none (by simp; omega)] at hx
              cases hx⟩
        have HR7 : Hid (OrQ x6 b g l (q + 2 + (16 + 4 * a) * (k + 1))) := Lib.hid (by rw [show q + 2 + (16 + 4 * a) * (k + 1) = q + 2 + (16 + 4 * a) * k + 16 + 4 * a by rw [Nat.mul_add]; omega]; exact HR6.out)
        clear HROW6 HEL6 HXV6 HR6 HNG HNE
        rw [show (hs ++ [rawRec I V (.slice av nv cv) rfl]).length = hs.length + 1 by simp] at HAT
        go_wp2_with fail
        exact ⟨⟨k + 1, by omega, rfl, HAT.out, HR7.out, HO6.out⟩, by simp [intOf]; omega⟩
      · have HE : Hid (Calls Try.prog 62 #[.pointer (some ⟨b, 0, none⟩)] wr fun e w' => e = .returned (.int .i64 3) ∧ Below wr.heap.size wr w') := Lib.hid (by have := oerrq b g l (q + 2 + (16 + 4 * a) * k) wr hr; unfold errQ at this; rwa [if_neg hle] at this)
        have hle2 : l.length < q + 2 + (16 + 4 * a) * N := by have := Nat.mul_le_mul_left (16 + 4 * a) hk; omega
        clear hrow hr ho hel hn
        have HLE := Lib.hid hle
        have HLE2 := Lib.hid hle2
        clear hle hle2
        go_wp2_with (go_at_call 62; refine HE.out.mono ?_; rintro e x1 ⟨rfl, hx1⟩)
        go_ret
        exact ⟨_, k, rfl, RecsAt.keep ⟨hs, HROW.out, HNN.out, HEL.out⟩ hx1, hk, fun h => absurd h (by have := HLE2.out; omega), (HR.out.onward (by have := HLE.out; omega) HLE2.out).keep hx1, HO.out.trans (Only.of_below (b := b) hx1)⟩
    · have hkn : k = N := by omega
      subst hkn
      have d1 : decide ((k : Int) - k > 0) = false := decide_eq_false (by omega)
      clear hrow hr ho hel hn
      go_wp2_with fail
      go_ret
      exact ⟨_, k, rfl, ⟨hs, HROW.out, HNN.out, HEL.out⟩, Nat.le_refl _, fun _ => rfl, HR.out, HO.out⟩
end Go.Proofs.Ythhelhhlofdehaa
