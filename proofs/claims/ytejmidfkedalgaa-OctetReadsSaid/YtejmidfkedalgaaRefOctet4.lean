/- The reader of petasosref03: Get, Text, Left. -/
import Derived.Test.YtejmidfkedalgaaRefOctet3
import Derived.Laws.BitsAllLaws
namespace Go.Proofs.Ytejmidfkedalgaa
open Go.RowKit Mem
set_option linter.unusedSimpArgs false
set_option linter.unusedVariables false
attribute [local irreducible] Go.Calls

/-- the number that bytes are, the highest first -/
def num (l : List Int) : Int := l.foldl (fun v b => v * 256 + b) 0
theorem num_snoc (l : List Int) (b : Int) : num (l ++ [b]) = num l * 256 + b := by simp [num]
def Byt (l : List Int) : Prop := ∀ x ∈ l, 0 ≤ x ∧ x ≤ 255
theorem Byt.take {l : List Int} (h : Byt l) (k : Nat) : Byt (l.take k) := fun x hx => h x (List.mem_of_mem_take hx)
theorem Byt.drop {l : List Int} (h : Byt l) (k : Nat) : Byt (l.drop k) := fun x hx => h x (List.mem_of_mem_drop hx)
theorem Byt.append {l m : List Int} (h : Byt l) (k : Byt m) : Byt (l ++ m) := fun x hx => by
  rcases List.mem_append.1 hx with h' | h'
  · exact h x h'
  · exact k x h'
theorem take_one {l : List Int} {k : Nat} (h : k < l.length) : l.take (k + 1) = l.take k ++ [l.getD k 0] := by
  rw [List.take_add_one]
  simp [List.getD, h]
theorem num_bd : ∀ (k : Nat) {l : List Int}, Byt l → l.length = k → 0 ≤ num l ∧ num l < 256 ^ k := by
  intro k
  induction k with
  | zero => intro l h hl; rw [List.eq_nil_of_length_eq_zero hl]; decide
  | succ k ih =>
    intro l h hl
    have hs : l = l.take k ++ [l.getD k 0] := by rw [← take_one (by omega), List.take_of_length_le (by omega)]
    have hb := h (l.getD k 0) (by have hk : k < l.length := by omega
                                  rw [show l.getD k 0 = l[k] by simp [List.getD, hk]]; exact List.getElem_mem hk)
    have hi := ih (h.take k) (by simp; omega)
    rw [hs, num_snoc, Int.pow_succ]
    omega
theorem pow_small {k : Nat} (h : k ≤ 7) : (256 : Int) ^ k ≤ 72057594037927936 := by
  have h2 : k = 0 ∨ k = 1 ∨ k = 2 ∨ k = 3 ∨ k = 4 ∨ k = 5 ∨ k = 6 ∨ k = 7 := by omega
  rcases h2 with rfl | rfl | rfl | rfl | rfl | rfl | rfl | rfl <;> decide
theorem or_low {x b : Int} (h0 : 0 ≤ x) (h1 : x < 72057594037927936) (b0 : 0 ≤ b) (b1 : b ≤ 255) : bits .or .u64 (x * 256) b = x * 256 + b := by
  obtain ⟨X, rfl⟩ := Int.eq_ofNat_of_zero_le h0
  obtain ⟨Y, rfl⟩ := Int.eq_ofNat_of_zero_le b0
  rw [show ((X : Int) * 256) = ((X * 256 : Nat) : Int) by omega, u64_or_nat _ _ (by omega) (by omega)]
  have := Nat.two_pow_add_eq_or_of_lt (i := 8) (show Y < 2 ^ 8 by omega) X
  rw [show X * 256 = 2 ^ 8 * X by omega, ← this]
  omega
def gt (l : List Int) (p : Nat) (e : Int) (n : Int) : Nat × Int × List Int := tk l p e (szN n)
def GetPost (b : Nat) (v : Value) (l : List Int) (r : Nat × Int × List Int) (w : World) (e : Ending) (w' : World) : Prop :=
  e = .returned (.int .u64 (num r.2.2)) ∧ RdrAt w' b v l r.1 r.2.1 ∧ Only b w w'
theorem tk_len (l : List Int) (p : Nat) (e : Int) (n : Nat) : (tk l p e n).2.2.length ≤ n := by
  unfold tk
  split
  · split
    · simp
    · simp; omega
  · simp
theorem tk_byt {l : List Int} (h : Byt l) (p : Nat) (e : Int) (n : Nat) : Byt (tk l p e n).2.2 := by
  unfold tk
  split
  · split
    · intro x hx; simp at hx
    · exact (h.drop p).take n
  · intro x hx; simp at hx
theorem RdrAt.only {w w' : World} {b : Nat} {v : Value} {l : List Int} {p : Nat} {e : Int} (h : RdrAt w b v l p e) (k : Below w.heap.size w w') : RdrAt w' b v l p e := h.keep k

set_option maxHeartbeats 1000000 in
theorem rget_any (b : Nat) (v : Value) (l : List Int) (p : Nat) (n e : Int) (he : e = 0 ∨ e = 3) (w : World) (h : RdrAt w b v l p e) (hl : l.length ≤ 1000000) (hb : Byt l) :
    Calls Try.prog 22 #[.pointer (some ⟨b, 0, none⟩), .int .i64 n] w (GetPost b v l (gt l p e n) w) := by
  have hz := szN_bd n
  have hll := tk_len l p e (szN n)
  have hbb := tk_byt hb p e (szN n)
  generalize hG : gt l p e n = r
  have hT : tk l p e (szN n) = r := hG
  rw [hT] at hll hbb
  obtain ⟨p', e', m⟩ := r
  clear hG
  have HT := Lib.hid hT
  clear hT
  go_enter Try.func22, Try.ntmps22
  go_wp2_with fail
  refine (rsize_any n w).mono ?_
  rintro e1 y1 ⟨rfl, hk1⟩
  have hr1 := h.keep hk1
  clear h
  go_wp2_with fail
  refine (rtake_any b v l p (szN n) e he y1 hr1 hl (by omega)).mono ?_
  rintro e2 y2 ⟨x, y, rfl, hx, hr2, ho2⟩
  rw [HT.out] at hx hr2
  simp only [] at hx hr2 hll hbb ⊢
  have ho := (Only.of_below (b := b) hk1).trans ho2
  clear ho2 hr1 hk1
  obtain ⟨a, g, off, c, rfl, hc1, hc2, ha, hc⟩ := Mem.Rd.loopI hx
  have HC := Lib.hid hc
  have HBY := Lib.hid hbb
  have HA := Lib.hid ha
  clear hc ha hx hbb
  go_wp2_with fail
  go_loopw [7, 8] (fun s i wr => ∃ k : Nat, k ≤ m.length ∧ i = .int .i64 k ∧ s = .int .u64 (num (m.take k)) ∧ Below y2.heap.size y2 wr) (fun _ i _ => m.length - (intOf i).toNat)
  case atStart => exact ⟨0, Nat.zero_le _, rfl, rfl, Below.refl _ _⟩
  case round =>
    obtain ⟨k, hk, rfl, rfl, hw1⟩ := hrel
    by_cases hlt : k < m.length
    · have d1 := kc hw1 (HC.out k hlt)
      have hgl := World.block_lt_of_cell? _ _ d1
      obtain ⟨rfl, _⟩ := HA.out (by omega)
      have bx := num_bd k (HBY.out.take k) (by simp; omega)
      have hps := pow_small (show k ≤ 7 by omega)
      have hby := HBY.out (m.getD k 0) (by rw [show m.getD k 0 = m[k] by simp [List.getD, hlt]]; exact List.getElem_mem hlt)
      have htk := Lib.hid (take_one hlt)
      have hor := or_low (x := num (m.take k)) (b := m.getD k 0) bx.1 (by omega) hby.1 hby.2
      have e1 : (k : Int) < m.length := by omega
      generalize m.getD k 0 = y at *
      generalize hN : num (m.take k) = N at *
      have HN := Lib.hid hN
      clear hN
      go_wp2_with fail
      exact ⟨⟨k + 1, by omega, by go_num, by rw [htk.out, num_snoc, HN.out], hw1⟩, by simp [intOf]; omega⟩
    · have hkk : k = m.length := by omega
      subst hkk
      rw [List.take_length]
      have hz := ho.trans (Only.of_below (b := b) hw1)
      have hr3 := hr2.keep hw1
      go_wp2_with fail
      go_ret
      exact ⟨rfl, hr3, hz⟩

theorem tk_err {l : List Int} {p n : Nat} {e : Int} (he : e = 0 ∨ e = 3) : (tk l p e n).2.1 = 0 ∨ (tk l p e n).2.1 = 3 := by
  unfold tk
  split
  · split <;> simp
  · exact he
theorem num_lt {l : List Int} {k : Nat} (h : Byt l) (hl : l.length ≤ k) : 0 ≤ num l ∧ num l < 256 ^ k := by
  have h1 := num_bd l.length h rfl
  have h2 : (256 : Int) ^ l.length ≤ 256 ^ k := by
    have := Nat.pow_le_pow_right (show 0 < 256 by omega) hl
    have h3 : (((256 : Nat) ^ l.length : Nat) : Int) ≤ (((256 : Nat) ^ k : Nat) : Int) := by omega
    simpa using h3
  omega
/-- what Text reads -/
def tx (l : List Int) (p : Nat) (e : Int) : Nat × Int × List Int :=
  if (gt l p e 2).2.1 = 0 then tk l (gt l p e 2).1 0 (num (gt l p e 2).2.2).toNat else ((gt l p e 2).1, (gt l p e 2).2.1, [])
def TextPost (b : Nat) (v : Value) (l : List Int) (r : Nat × Int × List Int) (w : World) (e : Ending) (w' : World) : Prop :=
  ∃ x, e = .returned x ∧ Row (intE .u8) 5 w.heap.size w' x r.2.2 ∧ RdrAt w' b v l r.1 r.2.1 ∧ Only b w w'
set_option maxHeartbeats 1000000 in
theorem rrtext_any (b : Nat) (v : Value) (l : List Int) (p : Nat) (e : Int) (he : e = 0 ∨ e = 3) (w : World) (h : RdrAt w b v l p e) (hl : l.length ≤ 1000000) (hb : Byt l) :
    Calls Try.prog 21 #[.pointer (some ⟨b, 0, none⟩)] w (TextPost b v l (tx l p e) w) := by
  have hG := rget_any b v l p 2 e he w h hl hb
  have hge : (gt l p e 2).2.1 = 0 ∨ (gt l p e 2).2.1 = 3 := tk_err he
  have hgl : (gt l p e 2).2.2.length ≤ 2 := tk_len l p e (szN 2)
  have hgb : Byt (gt l p e 2).2.2 := tk_byt hb p e (szN 2)
  have hX : tx l p e = if (gt l p e 2).2.1 = 0 then tk l (gt l p e 2).1 0 (num (gt l p e 2).2.2).toNat else ((gt l p e 2).1, (gt l p e 2).2.1, []) := rfl
  rw [hX]
  clear hX h
  generalize gt l p e 2 = r at *
  obtain ⟨p', e', m⟩ := r
  simp only [] at hge hgl hgb hG ⊢
  have hnb := num_lt hgb hgl
  rw [show (256 : Int) ^ 2 = 65536 by decide] at hnb
  obtain ⟨n, hn⟩ := Int.eq_ofNat_of_zero_le hnb.1
  rw [hn] at hnb ⊢
  rcases hge with rfl | rfl
  · rw [if_pos rfl, Int.toNat_natCast]
    have htl : (tk l p' 0 n).2.2.length ≤ l.length := by
      unfold tk
      split
      · split <;> simp
        omega
      · simp
    generalize hT : tk l p' 0 n = r at *
    have HT := Lib.hid hT
    clear hT
    go_enter Try.func21, Try.ntmps21
    go_wp2_with fail
    refine hG.mono ?_
    rintro e1 y1 ⟨he1, hr1, ho1⟩
    simp only [hn] at hr1 he1
    subst he1
    have d2 : y1.cell? ⟨b, 2, none⟩ = some (.int .i64 0) := hr1.1.cell 2
    go_wp2_with fail
    refine (rtake_any b v l p' n 0 (.inl rfl) y1 hr1 hl (by omega)).mono ?_
    rintro e2 y2 ⟨x, y, rfl, hx, hr2, ho2⟩
    rw [HT.out] at hx hr2
    have ho := ho1.trans ho2
    have HO := Lib.hid ho
    have HR := Lib.hid hr2
    have hsz := ho.size
    clear ho1 ho2 hr1 hr2 ho
    go_wp2_with (at_builtin; go_must (refine wpList_append (E := intE .u8) (B := w.heap.size) (l := []) (m := r.2.2) (bytes := 1) byteElem Nat.zero_lt_one rfl (.const (.slice none 0 0)) (.tmp 20) rfl rfl Row.nil rfl hx (by simp [maxLen]; omega) (by simp; omega) hsz ?_); intro v9 z hr9 hk9 hg9 _)
    have hk := grown_below hg9 (Nat.le_refl _) (fun k hk => nomatch (show (none : Option Nat) = some k from hk))
    rw [List.nil_append] at hr9
    have hr3 := HR.out.keep hk
    have ho3 := HO.out.trans (Only.of_below hk)
    go_ret
    exact ⟨_, rfl, hr9, hr3, ho3⟩
  · rw [if_neg (by decide)]
    go_enter Try.func21, Try.ntmps21
    go_wp2_with fail
    refine hG.mono ?_
    rintro e1 y1 ⟨he1, hr1, ho1⟩
    simp only [hn] at hr1 he1
    subst he1
    have d2 : y1.cell? ⟨b, 2, none⟩ = some (.int .i64 3) := hr1.1.cell 2
    go_wp2_with fail
    go_ret
    exact ⟨_, rfl, Row.nil, hr1, ho1⟩
theorem rleft_any (b : Nat) (v : Value) (l : List Int) (p : Nat) (e : Int) (he : e = 0 ∨ e = 3) (w : World) (h : RdrAt w b v l p e) (hl : l.length ≤ 1000000) :
    Calls Try.prog 23 #[.pointer (some ⟨b, 0, none⟩)] w fun e' w' => e' = .returned (.int .i64 (if e = 0 then (l.length : Int) - p else 0)) ∧ Below w.heap.size w w' := by
  obtain ⟨hblk, hrd, hp, hne⟩ := h
  obtain ⟨a, c, rfl, h1, h2⟩ := hrd.form
  have d0 : w.cell? ⟨b, 0, none⟩ = some (.slice a l.length c) := hblk.cell 0
  have d1 : w.cell? ⟨b, 1, none⟩ = some (.int .i64 p) := hblk.cell 1
  have d2 : w.cell? ⟨b, 2, none⟩ = some (.int .i64 e) := hblk.cell 2
  rcases he with rfl | rfl
  · rw [if_pos rfl]
    have hwr : IntKind.i64.wrap ((l.length : Int) - p) = (l.length : Int) - p := IntWalk.i64_in _ (by omega)
    go_enter Try.func23, Try.ntmps23
    go_wp2_with fail
    refine Run.region_walk (S := fun z => z.cell? ⟨b, 0, none⟩ = some (.slice a l.length c) ∧ z.cell? ⟨b, 1, none⟩ = some (.int .i64 p))
      rleft.rows3 rleft.plan3 (l := ?steps5) (by kernel_rfl) (by kernel_rfl) (by kernel_rfl) (by kernel_rfl) ?written5 ⟨d0, d1⟩ ?onward5
    case written5 =>
      simp only [rleft.plan3, Run.stepsOf, Run.stepOf, Run.guardOf, List.getElem?_toArray, List.getElem?_cons_zero, List.getElem?_cons_succ, Option.map_some, Option.map_none, Option.bind_some, Option.toList_some, List.map_cons, List.map_nil, List.cons_append, List.nil_append]
      rfl
    repeat ((first
      | (refine Run.takes (v := ?_) ?_ ?_; rotate_left; (· intro w' hS'; go_simp; (try with_reducible rfl)))
      | (refine Run.takesG (v := ?_) ?_ ?_ ?_; rotate_left; (· simp only [List.getElem?_cons_zero, List.getElem?_cons_succ]); (· intro w' hS'; go_simp; (try with_reducible rfl)))
      | (refine Run.skipsT ?_ ?_; (· simp only [List.getElem?_cons_zero, List.getElem?_cons_succ]))
      | (refine Run.skipsF ?_ ?_; (· simp only [List.getElem?_cons_zero, List.getElem?_cons_succ]))
      | (refine Run.skipsU ?_ ?_; (· simp only [List.getElem?_cons_zero, List.getElem?_cons_succ]))
      | (refine Run.passT ?_ ?_; (· simp only [List.getElem?_cons_zero, List.getElem?_cons_succ]))
      | (refine Run.passF ?_ ?_; (· simp only [List.getElem?_cons_zero, List.getElem?_cons_succ]))
      | (refine Run.passU ?_ ?_; (· simp only [List.getElem?_cons_zero, List.getElem?_cons_succ]))
      | fail); simp only [Act.put, List.setIfInBounds_toArray, List.set_cons_zero, List.set_cons_succ])
    refine Run.ends (fun _ => ?_)
    go_wp2_with fail
    go_ret
    exact ⟨rfl, (Below.refl _ _).drew⟩
  · rw [if_neg (by decide)]
    go_enter Try.func23, Try.ntmps23
    go_wp2_with fail
    go_ret
    exact ⟨rfl, Below.refl _ _⟩
end Go.Proofs.Ytejmidfkedalgaa
