/- Package message: getBox. -/
import Derived.Test.YthhelhhlofdehaaMsgOrd
import Derived.Test.YthhelhhlofdehaaOwnR
import Derived.Test.YthhelhhlofdehaaBoxRef
import Derived.Test.YthhelhhlofdehaaRun
import Derived.Deep.DeepCutAuto
set_option maxRecDepth 4000
namespace Go.Proofs.Ythhelhhlofdehaa
open Go.RowKit Mem
set_option linter.unusedSimpArgs false
set_option linter.unusedVariables false
attribute [local irreducible] Go.Calls

/-- so many ranges, read from place q on -/
def boxQ (l : List Int) (q n : Nat) : List (Int × Int × Int) := (List.range n).map fun i => (gq l (q + 9 * i) 1, gq l (q + 9 * i + 1) 4, gq l (q + 9 * i + 1 + 4) 4)
theorem boxQ_len (l : List Int) (q n : Nat) : (boxQ l q n).length = n := by simp [boxQ]
theorem boxQ_succ (l : List Int) (q n : Nat) : boxQ l q (n + 1) = boxQ l q n ++ [(gq l (q + 9 * n) 1, gq l (q + 9 * n + 1) 4, gq l (q + 9 * n + 1 + 4) 4)] := by simp [boxQ, List.range_succ]
theorem boxQ_rb {l : List Int} (h : Byt l) (q n : Nat) : RB (boxQ l q n) := by
  intro x hx
  simp only [boxQ, List.mem_map] at hx
  obtain ⟨i, _, rfl⟩ := hx
  exact ⟨gq4 h _, gq4 h _⟩
theorem OrQ.grown {w w' : World} {b : Nat} {g : Option Nat} {l : List Int} {q : Nat} {row : Option Nat} (h : OrQ w b g l q) (k : w.grownBy w' row) (h1 : row ≠ some b) (h2 : ∀ k, g = some k → row ≠ some k) : OrQ w' b g l q := by
  cases row with
  | none => exact h.keep ⟨k.os, k.tape, k.output, k.size, fun i hi => k.block i hi (by simp)⟩
  | some d => exact h.only (d := d) k (fun e => h1 (by rw [e])) (fun e => h2 d e rfl)
theorem Only.upto {b : Nat} {w y z : World} (h : Only b w y) (k : Below w.heap.size y z) : Only b w z :=
  ⟨k.os.trans h.os, k.tape.trans h.tape, k.output.trans h.output, Nat.le_trans h.size k.size, fun i hi hne => (k.block i hi).trans (h.block i hi hne)⟩
def OGetBox (b : Nat) (g : Option Nat) (l : List Int) (q N : Nat) (w : World) (e : Ending) (w' : World) : Prop :=
  ∃ x k, e = .returned x ∧ Row rngE 65 w.heap.size w' x (boxQ l (q + 1) k) ∧ k ≤ N ∧ (q + 1 + 9 * N ≤ l.length → k = N) ∧ OrQ w' b g l (q + 1 + 9 * N) ∧ Only b w w'
set_option maxRecDepth 100000 in
set_option maxHeartbeats 4000000 in
theorem ogetbox_any (b : Nat) (g : Option Nat) (l : List Int) (q N : Nat) (w : World) (hN : gq l q 1 = N) (h : OrQ w b g l q) (hg : ∀ k, g = some k → k < w.heap.size) (hl : l.length ≤ 1000000) (hb : Byt l) :
    Calls Try.prog 77 #[.pointer (some ⟨b, 0, none⟩)] w (OGetBox b g l q N w) := by
  have hN8 : N ≤ 255 := by have := (gq1 hb q).2; omega
  have HBY := Lib.hid hb
  have HL := Lib.hid hl
  have HR0 := Lib.hid h
  have HBW := Lib.hid h.lt
  have HGK := Lib.hid hg
  clear h hb hl hg
  go_enter Try.func77, Try.ntmps77
  go_upto_region 3 with (go_at_call 60; refine (ogetq b g l q 1 sz1 _ HR0.out HL.out HBY.out).mono ?_; rintro e1 y1 ⟨rfl, hr1, ho1⟩; rw [hN])
  have HR1 := Lib.hid hr1
  have HO1 := Lib.hid ho1
  clear hr1 ho1 HR0
  go_loopw [3, 4] (fun o n wr => ∃ k : Nat, k ≤ N ∧ n = .int .u64 ((N : Int) - k) ∧ Row rngE 65 w.heap.size wr o (boxQ l (q + 1) k) ∧ OrQ wr b g l (q + 1 + 9 * k) ∧ Only b w wr) (fun _ n _ => (intOf n).toNat)
  case atStart => exact ⟨0, Nat.zero_le _, by simp, by simpa [boxQ] using Row.nil, HR1.out, HO1.out⟩
  case round =>
    obtain ⟨k, hk, rfl, hrow, hr, ho⟩ := hrel
    obtain ⟨ao, co, rfl, hco1, hco2⟩ := hrow.rd.form
    have HROW := Lib.hid hrow
    have HR := Lib.hid hr
    have HO := Lib.hid ho
    have HBL := Lib.hid (boxQ_len l (q + 1) k)
    by_cases hlt : k < N
    · have d1 : decide ((N : Int) - k > 0) = true := decide_eq_true (by omega)
      by_cases hle : q + 1 + 9 * k ≤ l.length
      · have HE : Hid (Calls Try.prog 62 #[.pointer (some ⟨b, 0, none⟩)] wr fun e w' => e = .returned (.int .i64 0) ∧ Below wr.heap.size wr w') := Lib.hid (by have := oerrq b g l (q + 1 + 9 * k) wr hr; unfold errQ at this; rwa [if_pos hle] at this)
        have hne : (Value.slice ao (boxQ l (q + 1) k).length co).ownBlock ≠ some b := fun e => by have := (hrow.block b e).1; have := HBW.out; omega
        have HNE := Lib.hid hne
        have HNG : Hid (∀ k', g = some k' → (Value.slice ao (boxQ l (q + 1) k).length co).ownBlock ≠ some k') := Lib.hid (fun k' hk' e => by have := (hrow.block k' e).1; have := HGK.out k' hk'; omega)
        have HSU := Lib.hid (boxQ_succ l (q + 1) k)
        have k1 := gq1 HBY.out (q + 1 + 9 * k)
        have k2 := gq4 HBY.out (q + 1 + 9 * k + 1)
        have k3 := gq4 HBY.out (q + 1 + 9 * k + 1 + 4)
        have wA : IntKind.i64.wrap (gq l (q + 1 + 9 * k) 1) = gq l (q + 1 + 9 * k) 1 := IntWalk.i64_in _ (by omega)
        have wB : IntKind.u32.wrap (gq l (q + 1 + 9 * k + 1) 4) = gq l (q + 1 + 9 * k + 1) 4 := IntWalk.u32_in _ (by omega)
        have wC : IntKind.u32.wrap (gq l (q + 1 + 9 * k + 1 + 4) 4) = gq l (q + 1 + 9 * k + 1 + 4) 4 := IntWalk.u32_in _ (by omega)
        generalize hA : gq l (q + 1 + 9 * k) 1 = A at *
        generalize hB : gq l (q + 1 + 9 * k + 1) 4 = B at *
        generalize hC : gq l (q + 1 + 9 * k + 1 + 4) 4 = C at *
        have HA := Lib.hid hA
        have HB := Lib.hid hB
        have HC := Lib.hid hC
        clear hrow hr ho hne k1 k2 k3 hA hB hC
        go_upto_region 6 with (first | (go_at_call 62; refine HE.out.mono ?_; rintro e x1 ⟨rfl, hx1⟩) | (go_at_call 60; refine (ogetq b g l (q + 1 + 9 * k) 1 sz1 _ (HR.out.keep hx1) HL.out HBY.out).mono ?_; rintro e x2 ⟨rfl, hr2, ho2⟩; rw [HA.out]))
        have HR2 := Lib.hid hr2
        have HO2 := Lib.hid ((HO.out.trans (Only.of_below (b := b) hx1)).trans ho2)
        have HROW2 := Lib.hid ((HROW.out.keep hx1).only ho2 HNE.out)
        clear hr2 ho2 hx1 HE
        go_upto_region 7 with (go_at_call 60; refine (ogetq b g l (q + 1 + 9 * k + 1) 4 sz4' _ HR2.out HL.out HBY.out).mono ?_; rintro e x3 ⟨rfl, hr3, ho3⟩; rw [HB.out])
        have HR3 := Lib.hid hr3
        have HO3 := Lib.hid (HO2.out.trans ho3)
        have HROW3 := Lib.hid (HROW2.out.only ho3 HNE.out)
        clear hr3 ho3 HR2 HO2 HROW2
        refine Run.region_seq (S := fun _ => True)
          [0, 0, 0, 0, 1, 0, 0, 1, 1, 0] (l := ?_) ?_ trivial ?_
        rotate_left
        (· simp only [Run.seqOf, List.toList_toArray, Run.stepsOf, Run.stepOf, Run.guardOf, List.getElem?_toArray, List.getElem?_cons_zero, List.getElem?_cons_succ, Option.map_some, Option.map_none, Option.bind_some, Option.toList_some, List.map_cons, List.map_nil, List.cons_append, List.nil_append]
           rfl)
        repeat ((first
          | (refine Run.takes (v := ?_) ?_ ?_; rotate_left; (· intro w' hS'; go_simp; (try with_reducible rfl)))
          | (refine Run.takesG (v := ?_) ?_ ?_ ?_; rotate_left; (· simp only [List.getElem?_cons_zero, List.getElem?_cons_succ]); (· intro w' hS'; go_simp; (try with_reducible rfl)))
          | (refine Run.skipsT ?_ ?_; (· simp only [List.getElem?_cons_zero, List.getElem?_cons_succ]))
          | (refine Run.skipsF ?_ ?_; (· simp only [List.getElem?_cons_zero, List.getElem?_cons_succ]))
          | (refine Run.skipsU ?_ ?_; (· simp only [List.getElem?_cons_zero, List.getElem?_cons_succ]))
          | (refine Run.passT ?_ ?_; (· simp only [List.getElem?_cons_zero, List.getElem?_cons_succ]))
          | (refine Run.passF ?_ ?_; (· simp only [List.getElem?_cons_zero, List.getElem?_cons_succ]))
          | (refine Run.passU ?_ ?_; (· simp only [List.getElem?_cons_zero, List.getElem?_cons_succ]))
          | fail); simp only [Act.put, List.setIfInBounds_toArray, List.set_cons_zero, List.set_cons_succ])
        refine Run.runsS (Run.callF 60 (by kernel_rfl) (fun hS => ogetq b g l (q + 1 + 9 * k + 1 + 4) 4 sz4' x3 HR3.out HL.out HBY.out) rfl ?_)
        rintro hS e x4 ⟨rfl, hr4, ho4⟩
        rw [HC.out]
        have HR4 := Lib.hid hr4
        have HO4 := Lib.hid (HO3.out.trans ho4)
        have HROW4 := Lib.hid (HROW3.out.only ho4 HNE.out)
        refine ⟨_, rfl, trivial, fun _ => ⟨fun _ => True, fun _ h => h, trivial, ?_⟩⟩
        clear hS hr4 ho4 HR3 HO3 HROW3
        try simp only [Act.put, List.setIfInBounds_toArray, List.set_cons_zero, List.set_cons_succ]
        repeat ((first
          | (refine Run.takes (v := ?_) ?_ ?_; rotate_left; (· intro w' hS'; go_simp; (try with_reducible rfl)))
          | (refine Run.takesG (v := ?_) ?_ ?_ ?_; rotate_left; (· simp only [List.getElem?_cons_zero, List.getElem?_cons_succ]); (· intro w' hS'; go_simp; (try with_reducible rfl)))
          | (refine Run.skipsT ?_ ?_; (· simp only [List.getElem?_cons_zero, List.getElem?_cons_succ]))
          | (refine Run.skipsF ?_ ?_; (· simp only [List.getElem?_cons_zero, List.getElem?_cons_succ]))
          | (refine Run.skipsU ?_ ?_; (· simp only [List.getElem?_cons_zero, List.getElem?_cons_succ]))
          | (refine Run.passT ?_ ?_; (· simp only [List.getElem?_cons_zero, List.getElem?_cons_succ]))
          | (refine Run.passF ?_ ?_; (· simp only [List.getElem?_cons_zero, List.getElem?_cons_succ]))
          | (refine Run.passU ?_ ?_; (· simp only [List.getElem?_cons_zero, List.getElem?_cons_succ]))
          | fail); simp only [Act.put, List.setIfInBounds_toArray, List.set_cons_zero, List.set_cons_succ])
        refine Run.runsS (Run.one (fun hS K1 hK1 => ?_))
        go_simp
        have hX : Below x4.heap.size x4 (x4.alloc (.cells #[.int .i64 A, .int .u32 B, .int .u32 C] 65)) := more (Below.refl _ _) _
        have HX5 := Lib.hid (Row.lit (E := rngE) x4.heap.size x4 #[.int .i64 A, .int .u32 B, .int .u32 C] [(A, B, C)] 1 x4.heap.size (by simp [Enc.flat, tripE]) rfl rfl (Nat.le_refl _) (by simp [maxLen]) : Row rngE 65 x4.heap.size (x4.alloc (.cells #[.int .i64 A, .int .u32 B, .int .u32 C] 65)) (.slice (some ⟨x4.heap.size, 0, none⟩) 1 1) [(A, B, C)])
        have HR5 := Lib.hid (HR4.out.keep hX)
        have HO5 := Lib.hid (HO4.out.trans (Only.of_below (b := b) hX))
        have HROW5 := Lib.hid (HROW4.out.keep hX)
        refine hK1.out _ _ trivial (fun _ => ⟨fun _ => True, fun _ h => h, trivial, ?_⟩)
        clear hS K1 hK1 hX HR4 HO4 HROW4
        generalize x4.alloc (.cells #[.int .i64 A, .int .u32 B, .int .u32 C] 65) = x5 at *
        try simp only [Act.put, List.setIfInBounds_toArray, List.set_cons_zero, List.set_cons_succ]
        repeat ((first
          | (refine Run.takes (v := ?_) ?_ ?_; rotate_left; (· intro w' hS'; go_simp; (try with_reducible rfl)))
          | (refine Run.takesG (v := ?_) ?_ ?_ ?_; rotate_left; (· simp only [List.getElem?_cons_zero, List.getElem?_cons_succ]); (· intro w' hS'; go_simp; (try with_reducible rfl)))
          | (refine Run.skipsT ?_ ?_; (· simp only [List.getElem?_cons_zero, List.getElem?_cons_succ]))
          | (refine Run.skipsF ?_ ?_; (· simp only [List.getElem?_cons_zero, List.getElem?_cons_succ]))
          | (refine Run.skipsU ?_ ?_; (· simp only [List.getElem?_cons_zero, List.getElem?_cons_succ]))
          | (refine Run.passT ?_ ?_; (· simp only [List.getElem?_cons_zero, List.getElem?_cons_succ]))
          | (refine Run.passF ?_ ?_; (· simp only [List.getElem?_cons_zero, List.getElem?_cons_succ]))
          | (refine Run.passU ?_ ?_; (· simp only [List.getElem?_cons_zero, List.getElem?_cons_succ]))
          | fail); simp only [Act.put, List.setIfInBounds_toArray, List.set_cons_zero, List.set_cons_succ])
        refine Run.runsS (Run.one (fun hS K1 hK1 => ?_))
        refine wp_append (E := rngE) (B := w.heap.size) (l := boxQ l (q + 1) k) (m := [(A, B, C)]) (bytes := 16) rngElem (Nat.zero_lt_succ 2) (.tmp 24) (.tmp 31) rfl rfl HROW5.out rfl HX5.out.rd (by rw [HBL.out]; simp [maxLen]; omega) (by rw [HBL.out]; simp; omega) HO5.out.size ?_
        intro v6 x6 hr6 hk6 hg6 _
        rw [← HSU.out] at hr6
        have HROW6 := Lib.hid hr6
        have HR6 := Lib.hid (HR5.out.grown hg6 HNE.out HNG.out)
        have HO6 := Lib.hid (Only.upto HO5.out hk6)
        obtain ⟨a6, c6, rfl, _, _⟩ := hr6.rd.form
        refine hK1.out _ _ trivial (fun _ => ⟨fun _ => True, fun _ h => h, trivial, ?_⟩)
        clear hS K1 hK1 hr6 hk6 hg6 HR5 HO5 HROW5 HX5
        try simp only [Act.put, List.setIfInBounds_toArray, List.set_cons_zero, List.set_cons_succ]
        repeat ((first
          | (refine Run.takes (v := ?_) ?_ ?_; rotate_left; (· intro w' hS'; go_simp; (try with_reducible rfl)))
          | (refine Run.takesG (v := ?_) ?_ ?_ ?_; rotate_left; (· simp only [List.getElem?_cons_zero, List.getElem?_cons_succ]); (· intro w' hS'; go_simp; (try with_reducible rfl)))
          | (refine Run.skipsT ?_ ?_; (· simp only [List.getElem?_cons_zero, List.getElem?_cons_succ]))
          | (refine Run.skipsF ?_ ?_; (· simp only [List.getElem?_cons_zero, List.getElem?_cons_succ]))
          | (refine Run.skipsU ?_ ?_; (· simp only [List.getElem?_cons_zero, List.getElem?_cons_succ]))
          | (refine Run.passT ?_ ?_; (· simp only [List.getElem?_cons_zero, List.getElem?_cons_succ]))
          | (refine Run.passF ?_ ?_; (· simp only [List.getElem?_cons_zero, List.getElem?_cons_succ]))
          | (refine Run.passU ?_ ?_; (· simp only [List.getElem?_cons_zero, List.getElem?_cons_succ]))
          | fail); simp only [Act.put, List.setIfInBounds_toArray, List.set_cons_zero, List.set_cons_succ])
        refine Run.ends (fun _ => ?_)
        have uw : IntKind.u64.wrap ((N : Int) - k - 1) = (N : Int) - (k + 1 : Nat) := by rw [IntWalk.u64_in _ (by omega)]; omega
        go_wp2_with fail
        exact ⟨⟨k + 1, by omega, rfl, HROW6.out, by rw [show q + 1 + 9 * (k + 1) = q + 1 + 9 * k + 1 + 4 + 4 by omega]; exact HR6.out, HO6.out⟩, by simp [intOf]; omega⟩
      · have HE : Hid (Calls Try.prog 62 #[.pointer (some ⟨b, 0, none⟩)] wr fun e w' => e = .returned (.int .i64 3) ∧ Below wr.heap.size wr w') := Lib.hid (by have := oerrq b g l (q + 1 + 9 * k) wr hr; unfold errQ at this; rwa [if_neg hle] at this)
        clear hrow hr ho
        have HLE := Lib.hid hle
        clear hle
        go_wp2_with (go_at_call 62; refine HE.out.mono ?_; rintro e x1 ⟨rfl, hx1⟩)
        go_ret
        exact ⟨_, k, rfl, HROW.out.keep hx1, hk, fun h => absurd HLE.out (by omega), (HR.out.onward (by have := HLE.out; omega) (by have := HLE.out; omega)).keep hx1, HO.out.trans (Only.of_below (b := b) hx1)⟩
    · have hkn : k = N := by omega
      subst hkn
      have d1 : decide ((k : Int) - k > 0) = false := decide_eq_false (by omega)
      clear hrow hr ho
      go_wp2_with fail
      go_ret
      exact ⟨_, k, rfl, HROW.out, Nat.le_refl _, fun _ => rfl, HR.out, HO.out⟩
end Go.Proofs.Ythhelhhlofdehaa
