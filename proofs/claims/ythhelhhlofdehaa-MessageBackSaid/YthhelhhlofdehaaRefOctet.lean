/- The document's answers for package octet (petasosref03): size, Put. -/
import Derived.Test.YthhelhhlofdehaaBytes
import Derived.Test.YthhelhhlofdehaaOctRefPlans
import Derived.Test.YthhelhhlofdehaaRun
import Derived.Laws.BitsAllLaws
set_option maxRecDepth 4000
namespace Go.Proofs.Ythhelhhlofdehaa
open Go.RowKit Mem
set_option linter.unusedSimpArgs false
set_option linter.unusedVariables false
attribute [local irreducible] Go.Calls

/-- how many bytes a number has -/
def szN (n : Int) : Nat := if n < 1 then 1 else if 8 < n then 8 else n.toNat
theorem szN_bd (n : Int) : 1 ≤ szN n ∧ szN n ≤ 8 := by unfold szN; split <;> (try split) <;> omega
theorem r3size_any (n : Int) (w : World) : Calls Try.prog 58 #[.int .i64 n] w fun e w' => e = .returned (.int .i64 (szN n)) ∧ Below w.heap.size w w' := by
  have h1 : n < 1 ∨ n = 1 ∨ (1 < n ∧ n ≤ 8) ∨ 8 < n := by omega
  rcases h1 with h | rfl | ⟨h, h2⟩ | h
  · have hz : ((szN n : Nat) : Int) = 1 := by unfold szN; split <;> (try split) <;> omega
    rw [hz]
    go_enter Try.func58, Try.ntmps58
    go_wp2_with fail
    go_ret
    exact ⟨rfl, Below.refl _ _⟩
  · go_enter Try.func58, Try.ntmps58
    go_wp2_with fail
    go_ret
    exact ⟨rfl, Below.refl _ _⟩
  · have hz : ((szN n : Nat) : Int) = n := by unfold szN; split <;> (try split) <;> omega
    rw [hz]
    go_enter Try.func58, Try.ntmps58
    go_wp2_with fail
    go_ret
    exact ⟨rfl, Below.refl _ _⟩
  · have hz : ((szN n : Nat) : Int) = 8 := by unfold szN; split <;> (try split) <;> omega
    rw [hz]
    go_enter Try.func58, Try.ntmps58
    go_wp2_with fail
    go_ret
    exact ⟨rfl, Below.refl _ _⟩
/-- the bytes of v's lowest 8 k bits, the highest first -/
def be : Nat → Int → List Int
  | 0, _ => []
  | k + 1, v => (v / 2 ^ (8 * k)) % 256 :: be k v
theorem be_len (k : Nat) (v : Int) : (be k v).length = k := by
  induction k with
  | zero => rfl
  | succ k ih => simp [be, ih]
theorem be_take (v : Int) : ∀ (k j : Nat), j < k → (be k v).take (k - j) = (be k v).take (k - (j + 1)) ++ [(v / 2 ^ (8 * j)) % 256] := by
  intro k
  induction k with
  | zero => intro j h; omega
  | succ k ih =>
    intro j h
    rcases Nat.eq_or_lt_of_le (Nat.lt_succ_iff.1 h) with he | he
    · subst he
      rw [Nat.sub_self, show j + 1 - j = 1 by omega]
      simp [be]
    · rw [show k + 1 - j = (k - j) + 1 by omega, show k + 1 - (j + 1) = (k - (j + 1)) + 1 by omega]
      simp only [be, List.take_succ_cons, List.cons_append]
      rw [ih j he]

def PutPost (w : World) (l : List Int) (e : Ending) (w' : World) : Prop := ∃ v, e = .returned v ∧ Row (intE .u8) 5 w.heap.size w' v l ∧ Below w.heap.size w w'
set_option maxHeartbeats 1000000 in
theorem rput_any (b : Value) (l : List Int) (v n : Int) (bv : 0 ≤ v ∧ v ≤ 18446744073709551615) (w : World) (h : Rd (intE .u8) w b l) (hl : l.length ≤ 1000000) :
    Calls Try.prog 31 #[b, .int .u64 v, .int .i64 n] w (PutPost w (l ++ be (szN n) v)) := by
  have hs := szN_bd n
  go_enter Try.func31, Try.ntmps31
  go_wp2_with (at_builtin; go_must (refine wpList_append (E := intE .u8) (B := w.heap.size) (l := []) (m := l) (bytes := 1) byteElem Nat.zero_lt_one rfl (.const (.slice none 0 0)) (.tmp 9) rfl rfl Row.nil rfl h (by simp [maxLen]; omega) (by simp; omega) (Nat.le_refl _) ?_); intro v9 y hr9 hk9 hg9 _)
  rw [List.nil_append] at hr9
  clear hg9
  refine (r3size_any n y).mono ?_
  rintro e y2 ⟨rfl, hk⟩
  generalize hsz : szN n = s at *
  replace hr9 := hr9.keep hk
  have hb0 := nest hk9 hk
  clear hk9 hk hsz
  go_wp2_with fail
  go_loopw [7, 8] (fun o i wr => ∃ j : Nat, j ≤ s ∧ i = .int .i64 ((j : Int) - 1) ∧ Row (intE .u8) 5 w.heap.size wr o (l ++ (be s v).take (s - j)) ∧ Below w.heap.size w wr) (fun _ i _ => (intOf i + 1).toNat)
  case atStart => exact ⟨s, Nat.le_refl _, by go_num, by simpa using hr9, hb0⟩
  case round =>
    obtain ⟨j, hj, rfl, hro, hb⟩ := hrel
    obtain rfl | ⟨m, rfl⟩ : j = 0 ∨ ∃ m, j = m + 1 := by cases j with | zero => exact .inl rfl | succ m => exact .inr ⟨m, rfl⟩
    · rw [Nat.sub_zero, List.take_of_length_le (by rw [be_len]; exact Nat.le_refl _)] at hro
      go_wp2_with fail
      go_ret
      exact ⟨_, rfl, hro, hb⟩
    · have e1 : ((m + 1 : Nat) : Int) - 1 = (m : Int) := by omega
      rw [e1]
      have ht := be_take v s m (by omega)
      have hlen : l.length + ((be s v).take (s - (m + 1))).length ≤ 1000008 := by simp [be_len]; omega
      have HB := Lib.hid hb
      generalize (be s v).take (s - (m + 1)) = L at *
      go_wp2_with (at_builtin; go_must (refine wpList_append (m := [v / 2 ^ (8 * m) % 256]) (bytes := 1) byteElem Nat.zero_lt_one rfl (.tmp 18) (.tmp 25) rfl rfl (hro.keep (more (Below.refl _ _) _)) rfl (Rd.fresh wr _ _ _ _ rfl rfl) (by simp [maxLen]; omega) (by simp; omega) (more hb _).size ?_); intro v9 y hr9 hk9 hg9 _)
      have hb9 := (more HB.out (Obj.cells #[Value.int IntKind.u8 (v / 2 ^ (8 * m) % 256)] 5)).trans hk9
      rw [List.append_assoc, ← ht] at hr9
      go_roundw
      case rel => exact ⟨m, by omega, by go_num, hr9, hb9⟩
      case measure => simp [intOf]
end Go.Proofs.Ythhelhhlofdehaa
/- The document's answers for package octet (petasosref03): Text, and the reader. -/
namespace Go.Proofs.Ythhelhhlofdehaa
open Go.RowKit Mem
set_option linter.unusedSimpArgs false
set_option linter.unusedVariables false
attribute [local irreducible] Go.Calls

theorem sz2 : szN 2 = 2 := by decide
/-- what Text writes of a text of at most 65,535 bytes -/
def txt (l : List Int) : List Int := be 2 l.length ++ l
theorem cut_ne {a : Option Addr} {c p n n' c' b : Nat} (h : (Value.slice a n c).ownBlock ≠ some b) : (Value.slice (cutA a c p 1) n' c').ownBlock ≠ some b := by
  unfold cutA
  rcases a with _ | ad
  · split <;> exact h
  · split
    · exact h
    · intro e
      apply h
      rw [← e]
      simp only [Option.map_some, Addr.add]
      split <;> rfl
end Go.Proofs.Ythhelhhlofdehaa
/- The reader of petasosref03: take. -/
namespace Go.Proofs.Ythhelhhlofdehaa
open Go.RowKit Mem
set_option linter.unusedSimpArgs false
set_option linter.unusedVariables false
attribute [local irreducible] Go.Calls

/-- a reader of l, at place p, with that error, at block b -/
def RdrAt (w : World) (b : Nat) (v : Value) (l : List Int) (p : Nat) (e : Int) : Prop :=
  Blk w b 80 #[v, .int .i64 p, .int .i64 e] ∧ Rd (intE .u8) w v l ∧ p ≤ l.length ∧ (0 < l.length → v.ownBlock ≠ some b)
theorem RdrAt.keep {w w' : World} {b : Nat} {v : Value} {l : List Int} {p : Nat} {e : Int} (h : RdrAt w b v l p e) (k : Below w.heap.size w w') : RdrAt w' b v l p e :=
  ⟨h.1.keep k, h.2.1.keep k, h.2.2⟩
theorem Mem.Rd.only0' {α : Type} {E : Enc α} {w w' : World} {v : Value} {l : List α} {b : Nat} (h : Rd E w v l) (k : Only b w w') (hne : 0 < l.length → v.ownBlock ≠ some b) : Rd E w' v l := by
  rcases Nat.eq_zero_or_pos l.length with h0 | h0
  · obtain ⟨a, c, hv, h1, h2, _⟩ := h
    exact ⟨a, c, hv, h1, h2, fun hl => absurd hl (by omega)⟩
  · exact h.only k (hne h0)
/-- so many bytes: where it stands then, what is wrong then, the bytes -/
def tk (l : List Int) (p : Nat) (e : Int) (n : Nat) : Nat × Int × List Int :=
  if e = 0 then (if l.length - p < n then (p, 3, []) else (p + n, 0, (l.drop p).take n)) else (p, e, [])
def TakePost (b : Nat) (v : Value) (l : List Int) (r : Nat × Int × List Int) (w : World) (e : Ending) (w' : World) : Prop :=
  ∃ x y, e = .returned (.tuple #[x, y]) ∧ Rd (intE .u8) w' x r.2.2 ∧ RdrAt w' b v l r.1 r.2.1 ∧ Only b w w'

set_option maxHeartbeats 1000000 in
theorem rtake_any (b : Nat) (v : Value) (l : List Int) (p n : Nat) (e : Int) (he : e = 0 ∨ e = 3) (w : World) (h : RdrAt w b v l p e) (hl : l.length ≤ 1000000) (hn : n ≤ 1000000) :
    Calls Try.prog 63 #[.pointer (some ⟨b, 0, none⟩), .int .i64 n] w (TakePost b v l (tk l p e n) w) := by
  obtain ⟨hblk, hrd, hp, hne⟩ := h
  obtain ⟨a, c, rfl, h1, h2⟩ := hrd.form
  have d0 : w.cell? ⟨b, 0, none⟩ = some (.slice a l.length c) := hblk.cell 0
  have d1 : w.cell? ⟨b, 1, none⟩ = some (.int .i64 p) := hblk.cell 1
  have d2 : w.cell? ⟨b, 2, none⟩ = some (.int .i64 e) := hblk.cell 2
  have HB := Lib.hid hblk
  clear hblk
  have hwr : IntKind.i64.wrap ((l.length : Int) - p) = (l.length : Int) - p := IntWalk.i64_in _ (by omega)
  rcases he with rfl | rfl
  · by_cases hs : l.length - p < n
    · have e1 : decide ((l.length : Int) - p < n) = true := decide_eq_true (by omega)
      go_enter Try.func63, Try.ntmps63
      go_wp2_with fail
      refine Run.region_walk (S := fun z => z.cell? ⟨b, 0, none⟩ = some (.slice a l.length c) ∧ z.cell? ⟨b, 1, none⟩ = some (.int .i64 p) ∧ z.cell? ⟨b, 2, none⟩ = some (.int .i64 0))
        rtake.rows1 rtake.plan1 (l := ?steps1) (by kernel_rfl) (by kernel_rfl) (by kernel_rfl) (by kernel_rfl) ?written1 ⟨d0, d1, d2⟩ ?onward1
      case written1 =>
        simp only [rtake.plan1, Run.stepsOf, Run.stepOf, Run.guardOf, List.getElem?_toArray, List.getElem?_cons_zero, List.getElem?_cons_succ, Option.map_some, Option.map_none, Option.bind_some, Option.toList_some, List.map_cons, List.map_nil, List.cons_append, List.nil_append]
        rfl
      repeat ((first
        | (refine Run.takes (v := ?_) ?_ ?_; rotate_left; (· intro w' hS'; go_simp; (try with_reducible rfl)))
        | (refine Run.takesG (v := ?_) ?_ ?_ ?_; rotate_left; (· simp only [List.getElem?_cons_zero, List.getElem?_cons_succ]); (· intro w' hS'; go_simp; (try with_reducible rfl)))
        | (refine Run.skipsT ?_ ?_; (· simp only [List.getElem?_cons_zero, List.getElem?_cons_succ]))
        | (refine Run.skipsF ?_ ?_; (· simp only [List.getElem?_cons_zero, List.getElem?_cons_succ]))
        | (refine Run.skipsU ?_ ?_; (· simp only [List.getElem?_cons_zero, List.getElem?_cons_succ]))
        | (refine Run.passT ?_ ?_; (· simp only [List.getElem?_cons_zero, List.getElem?_cons_succ]))
        | (refine Run.passF ?_ ?_; (· simp only [List.getElem?_cons_zero, List.getElem?_cons_succ]))
        | (refine Run.passU ?_ ?_; (· simp only [List.getElem?_cons_zero, List.getElem?_cons_succ]))
        | fail); simp only [Act.put, List.setIfInBounds_toArray, List.set_cons_zero, List.set_cons_succ])
      refine Run.ends (fun _ => ?_)
      have hZ : Only b w ((w.setCell ⟨b, 2, none⟩ (.int .i64 3)).drew) := (Only.set w 2 _).drew
      have hbz : Blk ((w.setCell ⟨b, 2, none⟩ (.int .i64 3)).drew) b 80 #[.slice a l.length c, .int .i64 p, .int .i64 3] := HB.out.set_ 2 _
      have d5 : (w.setCell ⟨b, 2, none⟩ (.int .i64 3)).cell? ⟨b, 2, none⟩ = some (.int .i64 3) := hbz.cell 2
      have hfz : w.frozen? ⟨b, 2, none⟩ = false := HB.out.frozen 2
      go_wp2_with fail
      go_ret2
      have ht : tk l p 0 n = (p, 3, []) := by simp [tk, hs]
      rw [ht]
      exact ⟨_, _, rfl, Rd.nil none 0 (Nat.zero_le _), ⟨hbz, Mem.Rd.only0' hrd hZ hne, hp, hne⟩, hZ⟩
    · have e1 : decide ((l.length : Int) - p < n) = false := decide_eq_false (by omega)
      have hcut := run_cut byteElem a l.length c p (p + n) (Nat.le_add_right _ _) (by omega)
      have hwp : IntKind.i64.wrap ((p : Int) + n - n) = (p : Int) := by rw [Int.add_sub_cancel]; exact IntWalk.i64_in _ (by omega)
      have hwq : IntKind.i64.wrap (p : Int) = (p : Int) := IntWalk.i64_in _ (by omega)
      have hpn : ((p + n : Nat) : Int) = (p : Int) + n := by omega
      rw [hpn, Nat.add_sub_cancel_left] at hcut
      have HPN := Lib.hid hpn
      clear hpn
      go_enter Try.func63, Try.ntmps63
      go_wp2_with fail
      refine Run.region_walk (S := fun z => z.cell? ⟨b, 0, none⟩ = some (.slice a l.length c) ∧ z.cell? ⟨b, 1, none⟩ = some (.int .i64 p) ∧ z.cell? ⟨b, 2, none⟩ = some (.int .i64 0))
        rtake.rows1 rtake.plan1 (l := ?steps2) (by kernel_rfl) (by kernel_rfl) (by kernel_rfl) (by kernel_rfl) ?written2 ⟨d0, d1, d2⟩ ?onward2
      case written2 =>
        simp only [rtake.plan1, Run.stepsOf, Run.stepOf, Run.guardOf, List.getElem?_toArray, List.getElem?_cons_zero, List.getElem?_cons_succ, Option.map_some, Option.map_none, Option.bind_some, Option.toList_some, List.map_cons, List.map_nil, List.cons_append, List.nil_append]
        rfl
      repeat ((first
        | (refine Run.takes (v := ?_) ?_ ?_; rotate_left; (· intro w' hS'; go_simp; (try with_reducible rfl)))
        | (refine Run.takesG (v := ?_) ?_ ?_ ?_; rotate_left; (· simp only [List.getElem?_cons_zero, List.getElem?_cons_succ]); (· intro w' hS'; go_simp; (try with_reducible rfl)))
        | (refine Run.skipsT ?_ ?_; (· simp only [List.getElem?_cons_zero, List.getElem?_cons_succ]))
        | (refine Run.skipsF ?_ ?_; (· simp only [List.getElem?_cons_zero, List.getElem?_cons_succ]))
        | (refine Run.skipsU ?_ ?_; (· simp only [List.getElem?_cons_zero, List.getElem?_cons_succ]))
        | (refine Run.passT ?_ ?_; (· simp only [List.getElem?_cons_zero, List.getElem?_cons_succ]))
        | (refine Run.passF ?_ ?_; (· simp only [List.getElem?_cons_zero, List.getElem?_cons_succ]))
        | (refine Run.passU ?_ ?_; (· simp only [List.getElem?_cons_zero, List.getElem?_cons_succ]))
        | fail); simp only [Act.put, List.setIfInBounds_toArray, List.set_cons_zero, List.set_cons_succ])
      refine Run.ends (fun _ => ?_)
      have hfz : w.frozen? ⟨b, 1, none⟩ = false := HB.out.frozen 1
      go_wp2_with fail
      have hZ : Only b w ((w.setCell ⟨b, 1, none⟩ (.int .i64 ((p : Int) + n))).drew) := (Only.set w 1 _).drew
      have hbz : Blk ((w.setCell ⟨b, 1, none⟩ (.int .i64 ((p : Int) + n))).drew) b 80 #[.slice a l.length c, .int .i64 ((p : Int) + n), .int .i64 0] := HB.out.set_ 1 _
      generalize (w.setCell ⟨b, 1, none⟩ (.int .i64 ((p : Int) + n))).drew = Z at *
      have d3 : Z.cell? ⟨b, 0, none⟩ = some (.slice a l.length c) := hbz.cell 0
      have d4 : Z.cell? ⟨b, 1, none⟩ = some (.int .i64 ((p : Int) + n)) := hbz.cell 1
      refine Run.region_walk (S := fun z => z.cell? ⟨b, 0, none⟩ = some (.slice a l.length c) ∧ z.cell? ⟨b, 1, none⟩ = some (.int .i64 ((p : Int) + n)))
        rtake.rows6 rtake.plan6 (l := ?steps3) (by kernel_rfl) (by kernel_rfl) (by kernel_rfl) (by kernel_rfl) ?written3 ⟨d3, d4⟩ ?onward3
      case written3 =>
        simp only [rtake.plan6, Run.stepsOf, Run.stepOf, Run.guardOf, List.getElem?_toArray, List.getElem?_cons_zero, List.getElem?_cons_succ, Option.map_some, Option.map_none, Option.bind_some, Option.toList_some, List.map_cons, List.map_nil, List.cons_append, List.nil_append]
        rfl
      repeat ((first
        | (refine Run.takes (v := ?_) ?_ ?_; rotate_left; (· intro w' hS'; go_simp; (try with_reducible rfl)))
        | (refine Run.takesG (v := ?_) ?_ ?_ ?_; rotate_left; (· simp only [List.getElem?_cons_zero, List.getElem?_cons_succ]); (· intro w' hS'; go_simp; (try with_reducible rfl)))
        | (refine Run.skipsT ?_ ?_; (· simp only [List.getElem?_cons_zero, List.getElem?_cons_succ]))
        | (refine Run.skipsF ?_ ?_; (· simp only [List.getElem?_cons_zero, List.getElem?_cons_succ]))
        | (refine Run.skipsU ?_ ?_; (· simp only [List.getElem?_cons_zero, List.getElem?_cons_succ]))
        | (refine Run.passT ?_ ?_; (· simp only [List.getElem?_cons_zero, List.getElem?_cons_succ]))
        | (refine Run.passF ?_ ?_; (· simp only [List.getElem?_cons_zero, List.getElem?_cons_succ]))
        | (refine Run.passU ?_ ?_; (· simp only [List.getElem?_cons_zero, List.getElem?_cons_succ]))
        | fail); simp only [Act.put, List.setIfInBounds_toArray, List.set_cons_zero, List.set_cons_succ])
      refine Run.ends (fun hS => ?_)
      go_wp2_with fail
      go_ret2
      have ht : tk l p 0 n = (p + n, 0, (l.drop p).take n) := by simp [tk, hs]
      rw [ht]
      have hx := hrd.cutA (Nat.le_add_right p n) (show p + n ≤ l.length by omega)
      rw [Nat.add_sub_cancel_left] at hx
      have hy : (l.take (p + n)).drop p = (l.drop p).take n := by rw [List.drop_take, Nat.add_sub_cancel_left]
      rw [hy] at hx
      rw [← HPN.out] at hbz
      exact ⟨_, _, rfl, (Mem.Rd.only0' hx hZ.drew (fun h0 => cut_ne (hne (by simp at h0; omega)))), ⟨hbz, Mem.Rd.only0' hrd hZ.drew hne, by omega, hne⟩, hZ.drew⟩
  · go_enter Try.func63, Try.ntmps63
    go_wp2_with fail
    refine Run.region_walk (S := fun z => z.cell? ⟨b, 0, none⟩ = some (.slice a l.length c) ∧ z.cell? ⟨b, 1, none⟩ = some (.int .i64 p) ∧ z.cell? ⟨b, 2, none⟩ = some (.int .i64 3))
      rtake.rows1 rtake.plan1 (l := ?steps4) (by kernel_rfl) (by kernel_rfl) (by kernel_rfl) (by kernel_rfl) ?written4 ⟨d0, d1, d2⟩ ?onward4
    case written4 =>
      simp only [rtake.plan1, Run.stepsOf, Run.stepOf, Run.guardOf, List.getElem?_toArray, List.getElem?_cons_zero, List.getElem?_cons_succ, Option.map_some, Option.map_none, Option.bind_some, Option.toList_some, List.map_cons, List.map_nil, List.cons_append, List.nil_append]
      rfl
    repeat ((first
      | (refine Run.takes (v := ?_) ?_ ?_; rotate_left; (· intro w' hS'; go_simp; (try with_reducible rfl)))
      | (refine Run.takesG (v := ?_) ?_ ?_ ?_; rotate_left; (· simp only [List.getElem?_cons_zero, List.getElem?_cons_succ]); (· intro w' hS'; go_simp; (try with_reducible rfl)))
      | (refine Run.skipsT ?_ ?_; (· simp only [List.getElem?_cons_zero, List.getElem?_cons_succ]))
      | (refine Run.skipsF ?_ ?_; (· simp only [List.getElem?_cons_zero, List.getElem?_cons_succ]))
      | (refine Run.skipsU ?_ ?_; (· simp only [List.getElem?_cons_zero, List.getElem?_cons_succ]))
      | (refine Run.passT ?_ ?_; (· simp only [List.getElem?_cons_zero, List.getElem?_cons_succ]))
      | (refine Run.passF ?_ ?_; (· simp only [List.getElem?_cons_zero, List.getElem?_cons_succ]))
      | (refine Run.passU ?_ ?_; (· simp only [List.getElem?_cons_zero, List.getElem?_cons_succ]))
      | fail); simp only [Act.put, List.setIfInBounds_toArray, List.set_cons_zero, List.set_cons_succ])
    refine Run.ends (fun _ => ?_)
    go_wp2_with fail
    go_ret2
    exact ⟨_, _, rfl, Rd.nil none 0 (Nat.zero_le _), ⟨HB.out, hrd, hp, hne⟩, (Only.refl _ _).drew⟩
end Go.Proofs.Ythhelhhlofdehaa
/- The reader of petasosref03: Get, Text, Left. -/
namespace Go.Proofs.Ythhelhhlofdehaa
open Go.RowKit Mem
set_option linter.unusedSimpArgs false
set_option linter.unusedVariables false
attribute [local irreducible] Go.Calls

/-- the number that bytes are, the highest first -/
def num (l : List Int) : Int := l.foldl (fun v b => v * 256 + b) 0
theorem num_snoc (l : List Int) (b : Int) : num (l ++ [b]) = num l * 256 + b := by simp [num]
def Byt (l : List Int) : Prop := ∀ x ∈ l, 0 ≤ x ∧ x ≤ 255
theorem Byt.take {l : List Int} (h : Byt l) (k : Nat) : Byt (l.take k) := fun x hx => h x (List.mem_of_mem_take hx)
theorem Byt.drop {l : List Int} (h : Byt l) (k : Nat) : Byt (l.drop k) := fun x hx => h x (List.mem_of_mem_drop hx)
theorem Byt.append {l m : List Int} (h : Byt l) (k : Byt m) : Byt (l ++ m) := fun x hx => by
  rcases List.mem_append.1 hx with h' | h'
  · exact h x h'
  · exact k x h'
theorem take_one {l : List Int} {k : Nat} (h : k < l.length) : l.take (k + 1) = l.take k ++ [l.getD k 0] := by
  rw [List.take_add_one]
  simp [List.getD, h]
theorem num_bd : ∀ (k : Nat) {l : List Int}, Byt l → l.length = k → 0 ≤ num l ∧ num l < 256 ^ k := by
  intro k
  induction k with
  | zero => intro l h hl; rw [List.eq_nil_of_length_eq_zero hl]; decide
  | succ k ih =>
    intro l h hl
    have hs : l = l.take k ++ [l.getD k 0] := by rw [← take_one (by omega), List.take_of_length_le (by omega)]
    have hb := h (l.getD k 0) (by have hk : k < l.length := by omega
                                  rw [show l.getD k 0 = l[k] by simp [List.getD, hk]]; exact List.getElem_mem hk)
    have hi := ih (h.take k) (by simp; omega)
    rw [hs, num_snoc, Int.pow_succ]
    omega
theorem pow_small {k : Nat} (h : k ≤ 7) : (256 : Int) ^ k ≤ 72057594037927936 := by
  have h2 : k = 0 ∨ k = 1 ∨ k = 2 ∨ k = 3 ∨ k = 4 ∨ k = 5 ∨ k = 6 ∨ k = 7 := by omega
  rcases h2 with rfl | rfl | rfl | rfl | rfl | rfl | rfl | rfl <;> decide
theorem or_low {x b : Int} (h0 : 0 ≤ x) (h1 : x < 72057594037927936) (b0 : 0 ≤ b) (b1 : b ≤ 255) : bits .or .u64 (x * 256) b = x * 256 + b := by
  obtain ⟨X, rfl⟩ := Int.eq_ofNat_of_zero_le h0
  obtain ⟨Y, rfl⟩ := Int.eq_ofNat_of_zero_le b0
  rw [show ((X : Int) * 256) = ((X * 256 : Nat) : Int) by omega, u64_or_nat _ _ (by omega) (by omega)]
  have := Nat.two_pow_add_eq_or_of_lt (i := 8) (show Y < 2 ^ 8 by omega) X
  rw [show X * 256 = 2 ^ 8 * X by omega, ← this]
  omega
def gt (l : List Int) (p : Nat) (e : Int) (n : Int) : Nat × Int × List Int := tk l p e (szN n)
def GetPost (b : Nat) (v : Value) (l : List Int) (r : Nat × Int × List Int) (w : World) (e : Ending) (w' : World) : Prop :=
  e = .returned (.int .u64 (num r.2.2)) ∧ RdrAt w' b v l r.1 r.2.1 ∧ Only b w w'
theorem tk_len (l : List Int) (p : Nat) (e : Int) (n : Nat) : (tk l p e n).2.2.length ≤ n := by
  unfold tk
  split
  · split
    · simp
    · simp; omega
  · simp
theorem tk_byt {l : List Int} (h : Byt l) (p : Nat) (e : Int) (n : Nat) : Byt (tk l p e n).2.2 := by
  unfold tk
  split
  · split
    · intro x hx; simp at hx
    · exact (h.drop p).take n
  · intro x hx; simp at hx
theorem RdrAt.only {w w' : World} {b : Nat} {v : Value} {l : List Int} {p : Nat} {e : Int} (h : RdrAt w b v l p e) (k : Below w.heap.size w w') : RdrAt w' b v l p e := h.keep k

set_option maxHeartbeats 1000000 in
theorem rget_any (b : Nat) (v : Value) (l : List Int) (p : Nat) (n e : Int) (he : e = 0 ∨ e = 3) (w : World) (h : RdrAt w b v l p e) (hl : l.length ≤ 1000000) (hb : Byt l) :
    Calls Try.prog 38 #[.pointer (some ⟨b, 0, none⟩), .int .i64 n] w (GetPost b v l (gt l p e n) w) := by
  have hz := szN_bd n
  have hll := tk_len l p e (szN n)
  have hbb := tk_byt hb p e (szN n)
  generalize hG : gt l p e n = r
  have hT : tk l p e (szN n) = r := hG
  rw [hT] at hll hbb
  obtain ⟨p', e', m⟩ := r
  clear hG
  have HT := Lib.hid hT
  clear hT
  go_enter Try.func38, Try.ntmps38
  go_wp2_with fail
  refine (r3size_any n w).mono ?_
  rintro e1 y1 ⟨rfl, hk1⟩
  have hr1 := h.keep hk1
  clear h
  go_wp2_with fail
  refine (rtake_any b v l p (szN n) e he y1 hr1 hl (by omega)).mono ?_
  rintro e2 y2 ⟨x, y, rfl, hx, hr2, ho2⟩
  rw [HT.out] at hx hr2
  simp only [] at hx hr2 hll hbb ⊢
  have ho := (Only.of_below (b := b) hk1).trans ho2
  clear ho2 hr1 hk1
  obtain ⟨a, g, off, c, rfl, hc1, hc2, ha, hc⟩ := Mem.Rd.loopI hx
  have HC := Lib.hid hc
  have HBY := Lib.hid hbb
  have HA := Lib.hid ha
  clear hc ha hx hbb
  go_wp2_with fail
  go_loopw [7, 8] (fun s i wr => ∃ k : Nat, k ≤ m.length ∧ i = .int .i64 k ∧ s = .int .u64 (num (m.take k)) ∧ Below y2.heap.size y2 wr) (fun _ i _ => m.length - (intOf i).toNat)
  case atStart => exact ⟨0, Nat.zero_le _, rfl, rfl, Below.refl _ _⟩
  case round =>
    obtain ⟨k, hk, rfl, rfl, hw1⟩ := hrel
    by_cases hlt : k < m.length
    · have d1 := kc hw1 (HC.out k hlt)
      have hgl := World.block_lt_of_cell? _ _ d1
      obtain ⟨rfl, _⟩ := HA.out (by omega)
      have bx := num_bd k (HBY.out.take k) (by simp; omega)
      have hps := pow_small (show k ≤ 7 by omega)
      have hby := HBY.out (m.getD k 0) (by rw [show m.getD k 0 = m[k] by simp [List.getD, hlt]]; exact List.getElem_mem hlt)
      have htk := Lib.hid (take_one hlt)
      have hor := or_low (x := num (m.take k)) (b := m.getD k 0) bx.1 (by omega) hby.1 hby.2
      have e1 : (k : Int) < m.length := by omega
      generalize m.getD k 0 = y at *
      generalize hN : num (m.take k) = N at *
      have HN := Lib.hid hN
      clear hN
      go_wp2_with fail
      exact ⟨⟨k + 1, by omega, by go_num, by rw [htk.out, num_snoc, HN.out], hw1⟩, by simp [intOf]; omega⟩
    · have hkk : k = m.length := by omega
      subst hkk
      rw [List.take_length]
      have hz := ho.trans (Only.of_below (b := b) hw1)
      have hr3 := hr2.keep hw1
      go_wp2_with fail
      go_ret
      exact ⟨rfl, hr3, hz⟩

theorem tk_err {l : List Int} {p n : Nat} {e : Int} (he : e = 0 ∨ e = 3) : (tk l p e n).2.1 = 0 ∨ (tk l p e n).2.1 = 3 := by
  unfold tk
  split
  · split <;> simp
  · exact he
theorem num_lt {l : List Int} {k : Nat} (h : Byt l) (hl : l.length ≤ k) : 0 ≤ num l ∧ num l < 256 ^ k := by
  have h1 := num_bd l.length h rfl
  have h2 : (256 : Int) ^ l.length ≤ 256 ^ k := by
    have := Nat.pow_le_pow_right (show 0 < 256 by omega) hl
    have h3 : (((256 : Nat) ^ l.length : Nat) : Int) ≤ (((256 : Nat) ^ k : Nat) : Int) := by omega
    simpa using h3
  omega
/-- what Text reads -/
def tx (l : List Int) (p : Nat) (e : Int) : Nat × Int × List Int :=
  if (gt l p e 2).2.1 = 0 then tk l (gt l p e 2).1 0 (num (gt l p e 2).2.2).toNat else ((gt l p e 2).1, (gt l p e 2).2.1, [])
def TextPost (b : Nat) (v : Value) (l : List Int) (r : Nat × Int × List Int) (w : World) (e : Ending) (w' : World) : Prop :=
  ∃ x, e = .returned x ∧ Row (intE .u8) 5 w.heap.size w' x r.2.2 ∧ RdrAt w' b v l r.1 r.2.1 ∧ Only b w w'
end Go.Proofs.Ythhelhhlofdehaa
