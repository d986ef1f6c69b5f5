/- Walk of the octet laws' awake; a new writer. -/
import Derived.Test.YtejmidfkedalgaaOctBytes
import Derived.Test.YtejmidfkedalgaaOctR
namespace Go.Proofs.Ytejmidfkedalgaa
open Go.RowKit Mem
set_option linter.unusedSimpArgs false
set_option linter.unusedVariables false
attribute [local irreducible] Go.Calls

/-- the cells of a new writer -/
def wnew : List Value := wcs (.pointer none) (List.replicate 64 0) 0
theorem wnew_info : (Try.prog.info? 26).map (fun i => (i.zero, i.size)) = some (some (.agg wnew.toArray), 66) := by kernel_rfl
theorem wr_new (w : World) : WrAt (w.alloc (.cells wnew.toArray 26)) w.heap.size [] :=
  ⟨.pointer none, [], List.replicate 64 0, Blk.new w _ _, by simp, rfl, by simp, by simp⟩
theorem WrAt.below {w w' : World} {b : Nat} {l : List Int} (h : WrAt w b l) (k : Below w.heap.size w w') : WrAt w' b l := h.keep k
theorem aw_be : be (szN 2) 258 = [1, 2] := by decide
theorem aw_gt : gt [1, 2] 0 0 2 = (2, 0, [1, 2]) := by decide
theorem aw_num : num [1, 2] = 258 := by decide
theorem aw_byt : Byt [1, 2] := by intro x hx; simp at hx; omega
set_option maxHeartbeats 1000000 in
theorem oawake_any (w : World) : Calls Try.prog 8 #[] w fun e w' => e = .returned (.bool true) ∧ Below w.heap.size w w' := by
  have hz : ∀ w, (zeroValue 26).run Try.prog w = .ok (.agg wnew.toArray) w := fun w => run_zero_of (n := 66) wnew_info w
  have hw0 := wr_new w
  have hk0 : Below w.heap.size w (w.alloc (.cells wnew.toArray 26)) := more (Below.refl _ _) _
  go_enter Try.func8, Try.ntmps8
  go_wp2_with fail
  clear hz
  have hsz : w.heap.size ≤ (w.alloc (.cells wnew.toArray 26)).heap.size := hk0.size
  generalize w.alloc (.cells wnew.toArray 26) = w0 at *
  refine (oput_any w.heap.size [] 258 2 (by omega) w0 hw0 (by simp)).mono ?_
  rintro e w1 ⟨⟨u, rfl⟩, hw1, ho1⟩
  rw [aw_be, List.nil_append] at hw1
  have hk1 := hk0.trans (ho1.below (Nat.le_refl _) hsz)
  clear hw0 ho1 hk0
  go_wp2_with fail
  have hX : Below w1.heap.size w1 (w1.alloc (Obj.cells #[Value.int IntKind.u8 1, Value.int IntKind.u8 2] 5)) := more (Below.refl _ _) _
  have hr2 : Row (intE .u8) 5 w1.heap.size (w1.alloc (Obj.cells #[Value.int IntKind.u8 1, Value.int IntKind.u8 2] 5)) (.slice (some ⟨w1.heap.size, 0, none⟩) 2 2) [1, 2] :=
    Row.lit _ _ _ _ _ _ rfl rfl rfl (Nat.le_refl _) (by simp [maxLen])
  refine (oread_any _ [1, 2] _ hr2.rd (by simp)).mono ?_
  rintro e w2 ⟨b2, g2, rfl, ho2, hb2, _, hk2⟩
  have hw2 := hw1.keep (nest hX hk2)
  have hk3 := hk1.trans ((nest hX hk2).mono hk1.size)
  have hb5 : w.heap.size ≤ b2 := by have := hk1.size; have := hX.size; omega
  clear hw1 hr2 hX hk2 hk1 hb2
  go_wp2_with fail
  refine (obytes_any w.heap.size [1, 2] w2 hw2 (by simp)).mono ?_
  rintro e w3 ⟨v3, rfl, hr3, hk4⟩
  have ho3 := ho2.keep hk4
  have hk5 := hk3.trans (hk4.mono hk3.size)
  obtain ⟨a3, c3, rfl, _, _⟩ := hr3.rd.form
  clear hw2 ho2 hk3 hk4
  go_wp2_with fail
  have hX : Below w3.heap.size w3 (w3.alloc (Obj.cells #[Value.int IntKind.u8 1, Value.int IntKind.u8 2] 5)) := more (Below.refl _ _) _
  have hr4 : Row (intE .u8) 5 w3.heap.size (w3.alloc (Obj.cells #[Value.int IntKind.u8 1, Value.int IntKind.u8 2] 5)) (.slice (some ⟨w3.heap.size, 0, none⟩) 2 2) [1, 2] :=
    Row.lit _ _ _ _ _ _ rfl rfl rfl (Nat.le_refl _) (by simp [maxLen])
  refine (bytes_yes _ _ [1, 2] _ (hr3.rd.keep hX) hr4.rd).mono ?_
  rintro e w4 ⟨rfl, hk6⟩
  have ho4 := ho3.keep (nest hX hk6)
  have hk7 := hk5.trans ((nest hX hk6).mono hk5.size)
  have hb4 : w.heap.size ≤ b2 := hb5
  clear hr3 hr4 hX hk6 hk5 ho3
  go_wp2_with fail
  refine (oget_any b2 g2 [1, 2] 0 2 0 (.inl rfl) w4 ho4 (by simp) aw_byt).mono ?_
  rintro e w5 ⟨rfl, ho5, ho6⟩
  rw [aw_gt] at ho5 ⊢
  rw [aw_num]
  have hk8 := hk7.trans (ho6.below hb4 hk7.size)
  clear ho4 ho6 hk7
  go_wp2_with fail
  refine (oleft_any b2 g2 [1, 2] 2 0 w5 ho5).mono ?_
  rintro e w6 ⟨rfl, hk9⟩
  have hk10 := hk8.trans (hk9.mono hk8.size)
  go_wp2_with fail
  go_ret
  exact ⟨rfl, hk10⟩
end Go.Proofs.Ytejmidfkedalgaa
