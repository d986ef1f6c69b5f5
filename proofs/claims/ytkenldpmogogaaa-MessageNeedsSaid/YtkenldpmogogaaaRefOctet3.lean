/- The reader of petasosref03: take. -/
import Derived.Test.YtkenldpmogogaaaRefOctet2
set_option maxRecDepth 4000
namespace Go.Proofs.Ytkenldpmogogaaa
open Go.RowKit Mem
set_option linter.unusedSimpArgs false
set_option linter.unusedVariables false
attribute [local irreducible] Go.Calls

/-- a reader of l, at place p, with that error, at block b -/
def RdrAt (w : World) (b : Nat) (v : Value) (l : List Int) (p : Nat) (e : Int) : Prop :=
  Blk w b 69 #[v, .int .i64 p, .int .i64 e] ∧ Rd (intE .u8) w v l ∧ p ≤ l.length ∧ (0 < l.length → v.ownBlock ≠ some b)
theorem RdrAt.keep {w w' : World} {b : Nat} {v : Value} {l : List Int} {p : Nat} {e : Int} (h : RdrAt w b v l p e) (k : Below w.heap.size w w') : RdrAt w' b v l p e :=
  ⟨h.1.keep k, h.2.1.keep k, h.2.2⟩
theorem Mem.Rd.only0' {α : Type} {E : Enc α} {w w' : World} {v : Value} {l : List α} {b : Nat} (h : Rd E w v l) (k : Only b w w') (hne : 0 < l.length → v.ownBlock ≠ some b) : Rd E w' v l := by
  rcases Nat.eq_zero_or_pos l.length with h0 | h0
  · obtain ⟨a, c, hv, h1, h2, _⟩ := h
    exact ⟨a, c, hv, h1, h2, fun hl => absurd hl (by omega)⟩
  · exact h.only k (hne h0)
/-- so many bytes: where it stands then, what is wrong then, the bytes -/
def tk (l : List Int) (p : Nat) (e : Int) (n : Nat) : Nat × Int × List Int :=
  if e = 0 then (if l.length - p < n then (p, 3, []) else (p + n, 0, (l.drop p).take n)) else (p, e, [])
def TakePost (b : Nat) (v : Value) (l : List Int) (r : Nat × Int × List Int) (w : World) (e : Ending) (w' : World) : Prop :=
  ∃ x y, e = .returned (.tuple #[x, y]) ∧ Rd (intE .u8) w' x r.2.2 ∧ RdrAt w' b v l r.1 r.2.1 ∧ Only b w w'

set_option maxHeartbeats 1000000 in
theorem rtake_any (b : Nat) (v : Value) (l : List Int) (p n : Nat) (e : Int) (he : e = 0 ∨ e = 3) (w : World) (h : RdrAt w b v l p e) (hl : l.length ≤ 1000000) (hn : n ≤ 1000000) :
    Calls Try.prog 54 #[.pointer (some ⟨b, 0, none⟩), .int .i64 n] w (TakePost b v l (tk l p e n) w) := by
  obtain ⟨hblk, hrd, hp, hne⟩ := h
  obtain ⟨a, c, rfl, h1, h2⟩ := hrd.form
  have d0 : w.cell? ⟨b, 0, none⟩ = some (.slice a l.length c) := hblk.cell 0
  have d1 : w.cell? ⟨b, 1, none⟩ = some (.int .i64 p) := hblk.cell 1
  have d2 : w.cell? ⟨b, 2, none⟩ = some (.int .i64 e) := hblk.cell 2
  have HB := Lib.hid hblk
  clear hblk
  have hwr : IntKind.i64.wrap ((l.length : Int) - p) = (l.length : Int) - p := IntWalk.i64_in _ (by omega)
  rcases he with rfl | rfl
  · by_cases hs : l.length - p < n
    · have e1 : decide ((l.length : Int) - p < n) = true := decide_eq_true (by omega)
      go_enter Try.func54, Try.ntmps54
      go_wp2_with fail
      refine Run.region_walk (S := fun z => z.cell? ⟨b, 0, none⟩ = some (.slice a l.length c) ∧ z.cell? ⟨b, 1, none⟩ = some (.int .i64 p) ∧ z.cell? ⟨b, 2, none⟩ = some (.int .i64 0))
        rtake.rows1 rtake.plan1 (l := ?steps64) (by kernel_rfl) (by kernel_rfl) (by kernel_rfl) (by kernel_rfl) ?written64 ⟨d0, d1, d2⟩ ?onward64
      case written64 =>
        simp only [rtake.plan1, Run.stepsOf, Run.stepOf, Run.guardOf, List.getElem?_toArray, List.getElem?_cons_zero, List.getElem?_cons_succ, Option.map_some, Option.map_none, Option.bind_some, Option.toList_some, List.map_cons, List.map_nil, List.cons_append, List.nil_append]
        rfl
      repeat ((first
        | (refine Run.takes (v := ?_) ?_ ?_; rotate_left; (· intro w' hS'; go_simp; (try with_reducible rfl)))
        | (refine Run.takesG (v := ?_) ?_ ?_ ?_; rotate_left; (· simp only [List.getElem?_cons_zero, List.getElem?_cons_succ]); (· intro w' hS'; go_simp; (try with_reducible rfl)))
        | (refine Run.skipsT ?_ ?_; (· simp only [List.getElem?_cons_zero, List.getElem?_cons_succ]))
        | (refine Run.skipsF ?_ ?_; (· simp only [List.getElem?_cons_zero, List.getElem?_cons_succ]))
        | (refine Run.skipsU ?_ ?_; (· simp only [List.getElem?_cons_zero, List.getElem?_cons_succ]))
        | (refine Run.passT ?_ ?_; (· simp only [List.getElem?_cons_zero, List.getElem?_cons_succ]))
        | (refine Run.passF ?_ ?_; (· simp only [List.getElem?_cons_zero, List.getElem?_cons_succ]))
        | (refine Run.passU ?_ ?_; (· simp only [List.getElem?_cons_zero, List.getElem?_cons_succ]))
        | fail); simp only [Act.put, List.setIfInBounds_toArray, List.set_cons_zero, List.set_cons_succ])
      refine Run.ends (fun _ => ?_)
      have hZ : Only b w ((w.setCell ⟨b, 2, none⟩ (.int .i64 3)).drew) := (Only.set w 2 _).drew
      have hbz : Blk ((w.setCell ⟨b, 2, none⟩ (.int .i64 3)).drew) b 69 #[.slice a l.length c, .int .i64 p, .int .i64 3] := HB.out.set_ 2 _
      have d5 : (w.setCell ⟨b, 2, none⟩ (.int .i64 3)).cell? ⟨b, 2, none⟩ = some (.int .i64 3) := hbz.cell 2
      have hfz : w.frozen? ⟨b, 2, none⟩ = false := HB.out.frozen 2
      go_wp2_with fail
      go_ret2
      have ht : tk l p 0 n = (p, 3, []) := by simp [tk, hs]
      rw [ht]
      exact ⟨_, _, rfl, Rd.nil none 0 (Nat.zero_le _), ⟨hbz, Mem.Rd.only0' hrd hZ hne, hp, hne⟩, hZ⟩
    · have e1 : decide ((l.length : Int) - p < n) = false := decide_eq_false (by omega)
      have hcut := run_cut byteElem a l.length c p (p + n) (Nat.le_add_right _ _) (by omega)
      have hwp : IntKind.i64.wrap ((p : Int) + n - n) = (p : Int) := by rw [Int.add_sub_cancel]; exact IntWalk.i64_in _ (by omega)
      have hwq : IntKind.i64.wrap (p : Int) = (p : Int) := IntWalk.i64_in _ (by omega)
      have hpn : ((p + n : Nat) : Int) = (p : Int) + n := by omega
      rw [hpn, Nat.add_sub_cancel_left] at hcut
      have HPN := Lib.hid hpn
      clear hpn
      go_enter Try.func54, Try.ntmps54
      go_wp2_with fail
      refine Run.region_walk (S := fun z => z.cell? ⟨b, 0, none⟩ = some (.slice a l.length c) ∧ z.cell? ⟨b, 1, none⟩ = some (.int .i64 p) ∧ z.cell? ⟨b, 2, none⟩ = some (.int .i64 0))
        rtake.rows1 rtake.plan1 (l := ?steps65) (by kernel_rfl) (by kernel_rfl) (by kernel_rfl) (by kernel_rfl) ?written65 ⟨d0, d1, d2⟩ ?onward65
      case written65 =>
        simp only [rtake.plan1, Run.stepsOf, Run.stepOf, Run.guardOf, List.getElem?_toArray, List.getElem?_cons_zero, List.getElem?_cons_succ, Option.map_some, Option.map_none, Option.bind_some, Option.toList_some, List.map_cons, List.map_nil, List.cons_append, List.nil_append]
        rfl
      repeat ((first
        | (refine Run.takes (v := ?_) ?_ ?_; rotate_left; (· intro w' hS'; go_simp; (try with_reducible rfl)))
        | (refine Run.takesG (v := ?_) ?_ ?_ ?_; rotate_left; (· simp only [List.getElem?_cons_zero, List.getElem?_cons_succ]); (· intro w' hS'; go_simp; (try with_reducible rfl)))
        | (refine Run.skipsT ?_ ?_; (· simp only [List.getElem?_cons_zero, List.getElem?_cons_succ]))
        | (refine Run.skipsF ?_ ?_; (· simp only [List.getElem?_cons_zero, List.getElem?_cons_succ]))
        | (refine Run.skipsU ?_ ?_; (· simp only [List.getElem?_cons_zero, List.getElem?_cons_succ]))
        | (refine Run.passT ?_ ?_; (· simp only [List.getElem?_cons_zero, List.getElem?_cons_succ]))
        | (refine Run.passF ?_ ?_; (· simp only [List.getElem?_cons_zero, List.getElem?_cons_succ]))
        | (refine Run.passU ?_ ?_; (· simp only [List.getElem?_cons_zero, List.getElem?_cons_succ]))
        | fail); simp only [Act.put, List.setIfInBounds_toArray, List.set_cons_zero, List.set_cons_succ])
      refine Run.ends (fun _ => ?_)
      have hfz : w.frozen? ⟨b, 1, none⟩ = false := HB.out.frozen 1
      go_wp2_with fail
      have hZ : Only b w ((w.setCell ⟨b, 1, none⟩ (.int .i64 ((p : Int) + n))).drew) := (Only.set w 1 _).drew
      have hbz : Blk ((w.setCell ⟨b, 1, none⟩ (.int .i64 ((p : Int) + n))).drew) b 69 #[.slice a l.length c, .int .i64 ((p : Int) + n), .int .i64 0] := HB.out.set_ 1 _
      generalize (w.setCell ⟨b, 1, none⟩ (.int .i64 ((p : Int) + n))).drew = Z at *
      have d3 : Z.cell? ⟨b, 0, none⟩ = some (.slice a l.length c) := hbz.cell 0
      have d4 : Z.cell? ⟨b, 1, none⟩ = some (.int .i64 ((p : Int) + n)) := hbz.cell 1
      refine Run.region_walk (S := fun z => z.cell? ⟨b, 0, none⟩ = some (.slice a l.length c) ∧ z.cell? ⟨b, 1, none⟩ = some (.int .i64 ((p : Int) + n)))
        rtake.rows6 rtake.plan6 (l := ?steps66) (by kernel_rfl) (by kernel_rfl) (by kernel_rfl) (by kernel_rfl) ?written66 ⟨d3, d4⟩ ?onward66
      case written66 =>
        simp only [rtake.plan6, Run.stepsOf, Run.stepOf, Run.guardOf, List.getElem?_toArray, List.getElem?_cons_zero, List.getElem?_cons_succ, Option.map_some, Option.map_none, Option.bind_some, Option.toList_some, List.map_cons, List.map_nil, List.cons_append, List.nil_append]
        rfl
      repeat ((first
        | (refine Run.takes (v := ?_) ?_ ?_; rotate_left; (· intro w' hS'; go_simp; (try with_reducible rfl)))
        | (refine Run.takesG (v := ?_) ?_ ?_ ?_; rotate_left; (· simp only [List.getElem?_cons_zero, List.getElem?_cons_succ]); (· intro w' hS'; go_simp; (try with_reducible rfl)))
        | (refine Run.skipsT ?_ ?_; (· simp only [List.getElem?_cons_zero, List.getElem?_cons_succ]))
        | (refine Run.skipsF ?_ ?_; (· simp only [List.getElem?_cons_zero, List.getElem?_cons_succ]))
        | (refine Run.skipsU ?_ ?_; (· simp only [List.getElem?_cons_zero, List.getElem?_cons_succ]))
        | (refine Run.passT ?_ ?_; (· simp only [List.getElem?_cons_zero, List.getElem?_cons_succ]))
        | (refine Run.passF ?_ ?_; (· simp only [List.getElem?_cons_zero, List.getElem?_cons_succ]))
        | (refine Run.passU ?_ ?_; (· simp only [List.getElem?_cons_zero, List.getElem?_cons_succ]))
        | fail); simp only [Act.put, List.setIfInBounds_toArray, List.set_cons_zero, List.set_cons_succ])
      refine Run.ends (fun hS => ?_)
      go_wp2_with fail
      go_ret2
      have ht : tk l p 0 n = (p + n, 0, (l.drop p).take n) := by simp [tk, hs]
      rw [ht]
      have hx := hrd.cutA (Nat.le_add_right p n) (show p + n ≤ l.length by omega)
      rw [Nat.add_sub_cancel_left] at hx
      have hy : (l.take (p + n)).drop p = (l.drop p).take n := by rw [List.drop_take, Nat.add_sub_cancel_left]
      rw [hy] at hx
      rw [← HPN.out] at hbz
      exact ⟨_, _, rfl, (Mem.Rd.only0' hx hZ.drew (fun h0 => cut_ne (hne (by simp at h0; omega)))), ⟨hbz, Mem.Rd.only0' hrd hZ.drew hne, by omega, hne⟩, hZ.drew⟩
  · go_enter Try.func54, Try.ntmps54
    go_wp2_with fail
    refine Run.region_walk (S := fun z => z.cell? ⟨b, 0, none⟩ = some (.slice a l.length c) ∧ z.cell? ⟨b, 1, none⟩ = some (.int .i64 p) ∧ z.cell? ⟨b, 2, none⟩ = some (.int .i64 3))
      rtake.rows1 rtake.plan1 (l := ?steps67) (by kernel_rfl) (by kernel_rfl) (by kernel_rfl) (by kernel_rfl) ?written67 ⟨d0, d1, d2⟩ ?onward67
    case written67 =>
      simp only [rtake.plan1, Run.stepsOf, Run.stepOf, Run.guardOf, List.getElem?_toArray, List.getElem?_cons_zero, List.getElem?_cons_succ, Option.map_some, Option.map_none, Option.bind_some, Option.toList_some, List.map_cons, List.map_nil, List.cons_append, List.nil_append]
      rfl
    repeat ((first
      | (refine Run.takes (v := ?_) ?_ ?_; rotate_left; (· intro w' hS'; go_simp; (try with_reducible rfl)))
      | (refine Run.takesG (v := ?_) ?_ ?_ ?_; rotate_left; (· simp only [List.getElem?_cons_zero, List.getElem?_cons_succ]); (· intro w' hS'; go_simp; (try with_reducible rfl)))
      | (refine Run.skipsT ?_ ?_; (· simp only [List.getElem?_cons_zero, List.getElem?_cons_succ]))
      | (refine Run.skipsF ?_ ?_; (· simp only [List.getElem?_cons_zero, List.getElem?_cons_succ]))
      | (refine Run.skipsU ?_ ?_; (· simp only [List.getElem?_cons_zero, List.getElem?_cons_succ]))
      | (refine Run.passT ?_ ?_; (· simp only [List.getElem?_cons_zero, List.getElem?_cons_succ]))
      | (refine Run.passF ?_ ?_; (· simp only [List.getElem?_cons_zero, List.getElem?_cons_succ]))
      | (refine Run.passU ?_ ?_; (· simp only [List.getElem?_cons_zero, List.getElem?_cons_succ]))
      | fail); simp only [Act.put, List.setIfInBounds_toArray, List.set_cons_zero, List.set_cons_succ])
    refine Run.ends (fun _ => ?_)
    go_wp2_with fail
    go_ret2
    exact ⟨_, _, rfl, Rd.nil none 0 (Nat.zero_le _), ⟨HB.out, hrd, hp, hne⟩, (Only.refl _ _).drew⟩
end Go.Proofs.Ytkenldpmogogaaa
