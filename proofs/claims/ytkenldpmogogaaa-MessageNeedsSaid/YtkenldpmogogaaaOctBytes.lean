/- Package octet, the writer: Bytes. -/
import Derived.Test.YtkenldpmogogaaaOctPut
set_option maxRecDepth 4000
namespace Go.Proofs.Ytkenldpmogogaaa
open Go.RowKit Mem
set_option linter.unusedSimpArgs false
set_option linter.unusedVariables false
attribute [local irreducible] Go.Calls

theorem part_to (b k : Nat) (hk : k ≤ 64) (w : World) : (Instr.sliceAt 56 (.pointer (some ⟨b, 1, none⟩)) none (some (.int .i64 k)) none).run Try.prog w = .ok (.slice (some ⟨b, 1, none⟩) k 64) w := by
  have h1 := run_sliceAt_array_h (P := Try.prog) w 56 ⟨b, 1, none⟩ Try.underlying56 .i64 (k : Int) (by omega) (by show (k : Int) ≤ (64 : Nat); omega)
  rw [h1]
  have e : Try.prog.elem 56 = 5 := by kernel_rfl
  have e2 : Try.prog.arrayLen 56 = 64 := by kernel_rfl
  have hs : (sizeOf 5).run Try.prog w = .ok 1 w := run_sizeOf_of (by kernel_rfl) w
  rw [e, hs, e2]
  simp [Result.andThen_ok, slicedAt, Addr.add]
theorem part_all (b : Nat) (w : World) : (Instr.sliceAt 56 (.pointer (some ⟨b, 1, none⟩)) none none none).run Try.prog w = .ok (.slice (some ⟨b, 1, none⟩) 64 64) w := by
  have h1 := run_sliceAt_array_all (P := Try.prog) w 56 ⟨b, 1, none⟩ Try.underlying56
  rw [h1]
  have e : Try.prog.elem 56 = 5 := by kernel_rfl
  have e2 : Try.prog.arrayLen 56 = 64 := by kernel_rfl
  have hs : (sizeOf 5).run Try.prog w = .ok 1 w := run_sizeOf_of (by kernel_rfl) w
  rw [e, hs, e2]
  simp [Result.andThen_ok, slicedAt, Addr.add]
theorem flat_u8 (l : List Int) : (intE .u8).flat l = l.map (Value.int .u8) := by
  induction l with
  | nil => rfl
  | cons x l ih => rw [Enc.flat_cons, ih]; rfl
/-- the first bytes of an array that lies in a block -/
theorem rd_part {w : World} {g : Nat} {t : TypeId} {cs : Array Value} {p : List Int} (h : Blk w g t cs) (hc : ∀ j u, (p.map (Value.int .u8))[j]? = some u → cs[1 + j]? = some u) (hp : p.length = 64) {m : Nat} (hm : m ≤ 64) : Rd (intE .u8) w (.slice (some ⟨g, 1, none⟩) m 64) (p.take m) := by
  have hl : (p.take m).length = m := by rw [List.length_take]; omega
  refine ⟨_, 64, by rw [hl], by rw [hl]; exact hm, by unfold maxLen; omega, fun _ => ⟨g, 1, rfl, fun j u hu => ?_⟩⟩
  rw [h.cell (1 + j)]
  apply hc
  rw [flat_u8, List.map_take, List.getElem?_take] at hu
  split at hu
  · exact hu
  · cases hu
theorem splice_map (x y : List Int) (k : Nat) : splice (x.map (Value.int .u8)) k (y.map (Value.int .u8)) = (splice x k y).map (Value.int .u8) := by
  simp [splice, List.map_take, List.map_drop]
theorem row_whole {w : World} {g B : Nat} {l : List Int} (h : Blk w g 5 (l.map (Value.int .u8)).toArray) (hB : B ≤ g) (hm : l.length ≤ maxLen) : Row (intE .u8) 5 B w (.slice (some ⟨g, 0, none⟩) l.length l.length) l := by
  refine ⟨by rw [flat_u8]; simp [intE], .inr ⟨g, l.length, _, rfl, hB, h, Nat.le_refl _, hm, by simp [intE], ?_⟩⟩
  rw [flat_u8]
  exact List.take_of_length_le (by simp [intE])
def BytesAt (W : World) (g : Nat) (l : List Int) (e c : Value) (w : World) : Prop :=
  ∃ qs rest Z, Chain W c qs ∧ e = .int .i64 ((64 * qs.length : Nat) : Int) ∧ Z.length = 64 * qs.length ∧ l = qs.reverse.flatten ++ rest ∧ Z.length + rest.length = l.length ∧ Blk w g 5 ((Z ++ rest).map (Value.int .u8)).toArray ∧ Below W.heap.size W w
theorem made_list (n : Nat) : madeCells #[Value.int .u8 0] n = ((List.replicate n (0 : Int)).map (Value.int .u8)).toArray := by
  rw [List.map_replicate]
  apply Array.ext'
  simp only [madeCells, Array.toList_map, Array.toList_range]
  rw [List.eq_replicate_iff]
  refine ⟨by simp, fun x hx => ?_⟩
  obtain ⟨i, _, rfl⟩ := List.mem_map.1 hx
  simp [Nat.mod_one]
theorem obytes_nil (w : World) : Calls Try.prog 22 #[.pointer none] w (PutPost w []) := by
  go_enter Try.func22, Try.ntmps22
  go_wp2_with fail
  go_ret
  exact ⟨_, rfl, Row.nil, Below.refl _ _⟩
set_option maxHeartbeats 1000000 in
theorem obytes_any (b : Nat) (l : List Int) (w : World) (h : WrAt w b l) (hl : l.length ≤ 1000000) :
    Calls Try.prog 22 #[.pointer (some ⟨b, 0, none⟩)] w (PutPost w l) := by
  obtain ⟨c, ps, p, hb, hp, hc, e1, e2⟩ := h
  have d65 : w.cell? ⟨b, 65, none⟩ = some (.int .i64 l.length) := (hb.cell 65).trans (wcs_size hp)
  have hlt := hb.lt
  have hmk := run_make_row' (P := Try.prog) 35 5 (.int .u8 0) 1 Try.underlying35 (by kernel_rfl) rfl .i64 .i64 l.length (by omega) (by omega) w
  have HB := Lib.hid hb
  have HE1 := Lib.hid e1
  have HC := Lib.hid hc
  have HP := Lib.hid hp
  have hL : ∃ L, l.length = L := ⟨_, rfl⟩
  obtain ⟨L, hL⟩ := hL
  rw [hL] at d65 hmk hl e2
  have HL := Lib.hid hL
  have HE2 := Lib.hid e2
  clear hb e1 e2 hc hp hL
  obtain ⟨k, hk⟩ : ∃ k, k = L % 64 := ⟨_, rfl⟩
  obtain ⟨E, hE⟩ : ∃ E, E + k = L := ⟨L - k, by omega⟩
  have hrem : ((L : Nat) : Int).tmod 64 = (k : Int) := by rw [Int.tmod_eq_emod_of_nonneg (by omega)]; omega
  have hsub : IntKind.i64.wrap ((L : Int) - k) = (E : Int) := by rw [IntWalk.i64_in _ (by omega)]; omega
  have hsub2 : IntKind.i64.wrap ((L : Int) - E) = (k : Int) := by rw [IntWalk.i64_in _ (by omega)]; omega
  have hk64 : k < 64 := by omega
  obtain ⟨g, hg⟩ : ∃ g, w.heap.size = g := ⟨_, rfl⟩
  have hblk : Blk (w.alloc (.cells (madeCells #[Value.int .u8 0] L) 5)) g 5 (madeCells #[Value.int .u8 0] L) := hg ▸ Blk.new w _ _
  rw [hg] at hmk
  have hbw : Below w.heap.size w (w.alloc (.cells (madeCells #[Value.int .u8 0] L) 5)) := (Below.refl _ _).alloc (Nat.le_refl _) _
  generalize w.alloc (.cells (madeCells #[Value.int .u8 0] L) 5) = w1 at *
  have f65 := kc hbw d65
  have HK := Lib.hid hk
  have HEE := Lib.hid hE
  have HG := Lib.hid hg
  have HBLK := Lib.hid hblk
  have HBW := Lib.hid hbw
  clear hk hE hg hblk hbw
  go_enter Try.func22, Try.ntmps22
  go_wp2_with fail
  refine Run.region_walk (S := fun z => z.cell? ⟨b, 65, none⟩ = some (.int .i64 L))
    obytes.rows4 obytes.plan4 (l := ?steps10) (by kernel_rfl) (by kernel_rfl) (by kernel_rfl) (by kernel_rfl) ?written10 f65 ?onward10
  case written10 =>
    simp only [obytes.plan4, Run.stepsOf, Run.stepOf, Run.guardOf, List.getElem?_toArray, List.getElem?_cons_zero, List.getElem?_cons_succ, Option.map_some, Option.map_none, Option.bind_some, Option.toList_some, List.map_cons, List.map_nil, List.cons_append, List.nil_append]
    rfl
  repeat ((first
    | (refine Run.takes (v := ?_) ?_ ?_; rotate_left; (· intro w' hS'; go_simp; (try with_reducible rfl)))
    | (refine Run.takesG (v := ?_) ?_ ?_ ?_; rotate_left; (· simp only [List.getElem?_cons_zero, List.getElem?_cons_succ]); (· intro w' hS'; go_simp; (try with_reducible rfl)))
    | (refine Run.skipsT ?_ ?_; (· simp only [List.getElem?_cons_zero, List.getElem?_cons_succ]))
    | (refine Run.skipsF ?_ ?_; (· simp only [List.getElem?_cons_zero, List.getElem?_cons_succ]))
    | (refine Run.skipsU ?_ ?_; (· simp only [List.getElem?_cons_zero, List.getElem?_cons_succ]))
    | (refine Run.passT ?_ ?_; (· simp only [List.getElem?_cons_zero, List.getElem?_cons_succ]))
    | (refine Run.passF ?_ ?_; (· simp only [List.getElem?_cons_zero, List.getElem?_cons_succ]))
    | (refine Run.passU ?_ ?_; (· simp only [List.getElem?_cons_zero, List.getElem?_cons_succ]))
    | fail); simp only [Act.put, List.setIfInBounds_toArray, List.set_cons_zero, List.set_cons_succ])
  refine Run.ends (fun _ => ?_)
  go_wp2_with fail
  have hw2 : Below w.heap.size w w1.drew := HBW.out.drew
  have hblk2 := HBLK.out.keep (Below.refl _ _).drew
  rw [made_list] at hblk2
  have g65 := kc hw2 d65
  have hELe : E ≤ L := by have := HEE.out; omega
  have hcut := run_cut_from (P := Try.prog) byteElem (some ⟨g, 0, none⟩) L L E hELe (Nat.le_refl _)
  have hpt := part_to b k (by omega)
  have HW2 := Lib.hid hw2
  have HBLK2 := Lib.hid hblk2
  clear hw2 hblk2 hrem hsub HBLK HBW hmk f65
  generalize w1.drew = w2 at *
  refine Run.region_walk (S := fun z => z.cell? ⟨b, 65, none⟩ = some (.int .i64 L))
    obytes.rows5 obytes.plan5 (l := ?steps11) (by kernel_rfl) (by kernel_rfl) (by kernel_rfl) (by kernel_rfl) ?written11 g65 ?onward11
  case written11 =>
    simp only [obytes.plan5, Run.stepsOf, Run.stepOf, Run.guardOf, List.getElem?_toArray, List.getElem?_cons_zero, List.getElem?_cons_succ, Option.map_some, Option.map_none, Option.bind_some, Option.toList_some, List.map_cons, List.map_nil, List.cons_append, List.nil_append]
    rfl
  repeat ((first
    | (refine Run.takes (v := ?_) ?_ ?_; rotate_left; (· intro w' hS'; go_simp; (try with_reducible rfl)))
    | (refine Run.takesG (v := ?_) ?_ ?_ ?_; rotate_left; (· simp only [List.getElem?_cons_zero, List.getElem?_cons_succ]); (· intro w' hS'; go_simp; (try with_reducible rfl)))
    | (refine Run.skipsT ?_ ?_; (· simp only [List.getElem?_cons_zero, List.getElem?_cons_succ]))
    | (refine Run.skipsF ?_ ?_; (· simp only [List.getElem?_cons_zero, List.getElem?_cons_succ]))
    | (refine Run.skipsU ?_ ?_; (· simp only [List.getElem?_cons_zero, List.getElem?_cons_succ]))
    | (refine Run.passT ?_ ?_; (· simp only [List.getElem?_cons_zero, List.getElem?_cons_succ]))
    | (refine Run.passF ?_ ?_; (· simp only [List.getElem?_cons_zero, List.getElem?_cons_succ]))
    | (refine Run.passU ?_ ?_; (· simp only [List.getElem?_cons_zero, List.getElem?_cons_succ]))
    | fail); simp only [Act.put, List.setIfInBounds_toArray, List.set_cons_zero, List.set_cons_succ])
  have hELe : E ≤ L := by have := HEE.out; omega
  have hb2 := HB.out.keep (HW2.out.drew.mono (Nat.le_refl _))
  refine Run.runs (Run.one (fun hS K hK => ?_))
  refine wp_copy (g := g) (off := E) (cs := (List.replicate L (0 : Int)).map (Value.int .u8)) (t := 5) (l := p.take k) byteElem (.tmp 25) (.tmp 35) rfl rfl rfl (HBLK2.out.keep (Below.refl _ _).drew) (rd_part hb2 (fun j u hu => wcs_part hu) HP.out (by omega)) (fun h => ⟨?_, ?_⟩) ?_
  · have hk0 : ¬ (L = E) := by
      intro e
      rw [e] at h
      simp at h
    show cutA _ _ _ _ = _
    unfold cutA
    rw [if_neg hk0]
    simp only [Option.map_some, Addr.add, Nat.mul_one, Nat.zero_add]
    split
    · rename_i h0; rw [h0]
    · rfl
  · simp; omega
  rw [List.take_of_length_le (show (p.take k).length ≤ L - E by have := HEE.out; rw [List.length_take]; omega), splice_map]
  intro w3 hb3 ho3
  refine hK.out _ _ (((HB.out.keep HW2.out.drew).only ho3 (by have := HG.out; omega)).cell 65 |>.trans (by rw [HL.out]; exact wcs_size HP.out)) ?_
  clear hK K hS
  have hw3 : Below w.heap.size w w3 := HW2.out.drew.trans (ho3.below (by rw [HG.out]; exact Nat.le_refl _) HW2.out.drew.size)
  have d0 : w.cell? ⟨b, 0, none⟩ = some c := (HB.out.cell 0).trans (wcs_full _ _ _)
  have f0 := kc hw3 d0
  have HB3 := Lib.hid hb3
  have HW3 := Lib.hid hw3
  clear hb3 ho3 hw3 hb2 g65 hsub2 hcut hpt d65 d0
  repeat ((first
    | (refine Run.takes (v := ?_) ?_ ?_; rotate_left; (· intro w' hS'; go_simp; (try with_reducible rfl)))
    | (refine Run.takesG (v := ?_) ?_ ?_ ?_; rotate_left; (· simp only [List.getElem?_cons_zero, List.getElem?_cons_succ]); (· intro w' hS'; go_simp; (try with_reducible rfl)))
    | (refine Run.skipsT ?_ ?_; (· simp only [List.getElem?_cons_zero, List.getElem?_cons_succ]))
    | (refine Run.skipsF ?_ ?_; (· simp only [List.getElem?_cons_zero, List.getElem?_cons_succ]))
    | (refine Run.skipsU ?_ ?_; (· simp only [List.getElem?_cons_zero, List.getElem?_cons_succ]))
    | (refine Run.passT ?_ ?_; (· simp only [List.getElem?_cons_zero, List.getElem?_cons_succ]))
    | (refine Run.passF ?_ ?_; (· simp only [List.getElem?_cons_zero, List.getElem?_cons_succ]))
    | (refine Run.passU ?_ ?_; (· simp only [List.getElem?_cons_zero, List.getElem?_cons_succ]))
    | fail); simp only [Act.put, List.setIfInBounds_toArray, List.set_cons_zero, List.set_cons_succ])
  refine Run.ends (fun _ => ?_)
  go_wp2_with fail
  have hst : BytesAt w g l (.int .i64 E) c w3 := by
    have h1 := HEE.out
    have h2 := HE2.out
    have h3 := HK.out
    have hE : E = 64 * ps.length := by omega
    have hlk : l.length % 64 = k := by rw [HL.out, h3]
    refine ⟨ps, p.take k, List.replicate E 0, HC.out, by rw [hE], by rw [List.length_replicate, hE], ?_, ?_, ?_, HW3.out⟩
    · rw [← hlk]; exact HE1.out
    · rw [List.length_replicate, List.length_take, HP.out, HL.out]; omega
    · have hsp : splice (List.replicate L (0 : Int)) E (p.take k) = List.replicate E 0 ++ p.take k := by
        unfold splice
        have hkl : (p.take k).length = k := by rw [List.length_take, HP.out]; omega
        rw [hkl, List.take_replicate, List.drop_replicate, h1, Nat.sub_self, List.replicate_zero, List.append_nil, Nat.min_eq_left hELe]
      rw [← hsp]
      exact HB3.out
  have HST := Lib.hid hst
  clear hst f0 HB3 HW3 HBLK2 HW2 HE2 HE1 HB HP HC HK HEE hELe
  go_loopw [4, 5] (fun e c wr => BytesAt w g l e c wr) (fun e _ _ => (intOf e).toNat)
  case atStart => exact HST.out
  case round =>
    clear HST
    obtain ⟨qs, rest, Z, hc, rfl, hz, hll, hlen, hb, hk⟩ := hrel
    cases qs with
    | nil =>
      obtain rfl := hc
      have hZ : Z = [] := List.eq_nil_of_length_eq_zero (by simpa using hz)
      subst hZ
      rw [List.nil_append] at hb
      have hlr : l = rest := by simpa using hll
      rw [← hlr] at hb
      have hrow := row_whole (B := w.heap.size) hb (by rw [HG.out]; exact Nat.le_refl _) (by unfold maxLen; have := HL.out; omega)
      rw [HL.out] at hrow
      clear hll hlr hb hz hlen
      go_wp2_with fail
      go_ret
      exact ⟨_, rfl, hrow, hk⟩
    | cons q qs =>
      obtain ⟨g', c', rfl, hbq, hq, hc⟩ := hc
      obtain ⟨E2, hE2⟩ : ∃ E2, E2 = 64 * qs.length := ⟨_, rfl⟩
      obtain ⟨E1, hE1⟩ : ∃ E1, E1 = E2 + 64 := ⟨_, rfl⟩
      have hee : 64 * (q :: qs).length = E1 := by rw [List.length_cons]; omega
      rw [hee] at hz ⊢
      rw [HL.out] at hlen
      have hd0 := (hbq.cell 0).trans (show (ccs c' q).toArray[0]? = some c' by simp [ccs])
      have f0 := kc hk hd0
      have hrdq := rd_part (hbq.keep hk) (fun j u hu => ccs_part hu) hq (Nat.le_refl 64)
      have hcut := run_cut_from (P := Try.prog) byteElem (some ⟨g, 0, none⟩) L L E2 (by omega) (Nat.le_refl _)
      have hpa := part_all g'
      have he1 : (E1 : Int) - 64 = (E2 : Int) := by omega
      have hle1 : E1 ≤ 1000000 := by omega
      have hle2 : E2 ≤ 1000000 := by omega
      have hgg : g' ≠ g := by have := hbq.lt; have := HG.out; omega
      have H1 := Lib.hid hc
      have H2 := Lib.hid hll
      have H3 := Lib.hid hb
      have H4 := Lib.hid hk
      have H5 := Lib.hid hrdq
      have H6 := Lib.hid hq
      have H7 := Lib.hid hE1
      have H8 := Lib.hid hE2
      have H9 := Lib.hid hlen
      have HZ := Lib.hid hz
      have HBQ := Lib.hid hbq
      clear hc hll hb hk hrdq hq hE1 hE2 hlen hz hee hbq hd0
      go_wp2_with fail
      refine Run.region_walk (S := fun z => z.cell? ⟨g', 0, none⟩ = some c')
        obytes.rows9 obytes.plan9 (l := ?steps13) (by kernel_rfl) (by kernel_rfl) (by kernel_rfl) (by kernel_rfl) ?written13 f0 ?onward13
      case written13 =>
        simp only [obytes.plan9, Run.stepsOf, Run.stepOf, Run.guardOf, List.getElem?_toArray, List.getElem?_cons_zero, List.getElem?_cons_succ, Option.map_some, Option.map_none, Option.bind_some, Option.toList_some, List.map_cons, List.map_nil, List.cons_append, List.nil_append]
        rfl
      repeat ((first
        | (refine Run.takes (v := ?_) ?_ ?_; rotate_left; (· intro w' hS'; go_simp; (try with_reducible rfl)))
        | (refine Run.takesG (v := ?_) ?_ ?_ ?_; rotate_left; (· simp only [List.getElem?_cons_zero, List.getElem?_cons_succ]); (· intro w' hS'; go_simp; (try with_reducible rfl)))
        | (refine Run.skipsT ?_ ?_; (· simp only [List.getElem?_cons_zero, List.getElem?_cons_succ]))
        | (refine Run.skipsF ?_ ?_; (· simp only [List.getElem?_cons_zero, List.getElem?_cons_succ]))
        | (refine Run.skipsU ?_ ?_; (· simp only [List.getElem?_cons_zero, List.getElem?_cons_succ]))
        | (refine Run.passT ?_ ?_; (· simp only [List.getElem?_cons_zero, List.getElem?_cons_succ]))
        | (refine Run.passF ?_ ?_; (· simp only [List.getElem?_cons_zero, List.getElem?_cons_succ]))
        | (refine Run.passU ?_ ?_; (· simp only [List.getElem?_cons_zero, List.getElem?_cons_succ]))
        | fail); simp only [Act.put, List.setIfInBounds_toArray, List.set_cons_zero, List.set_cons_succ])
      refine Run.runs (Run.one (fun hS K hK => ?_))
      refine wp_copy (g := g) (off := E2) (cs := (Z ++ rest).map (Value.int .u8)) (t := 5) (l := q.take 64) byteElem (.tmp 51) (.tmp 55) rfl rfl rfl (H3.out.keep (Below.refl _ _).drew) (H5.out.keep (Below.refl _ _).drew) (fun h => ⟨?_, ?_⟩) ?_
      · have hk0 : ¬ (L = E2) := by have := H7.out; have := H9.out; have := HZ.out; omega
        show cutA _ _ _ _ = _
        unfold cutA
        rw [if_neg hk0]
        simp only [Option.map_some, Addr.add, Nat.mul_one, Nat.zero_add]
        split
        · rename_i h0; rw [h0]
        · rfl
      · have := H7.out; have := H9.out; have := HZ.out; have := H6.out; simp; omega
      have hq64 : q.take 64 = q := List.take_of_length_le (by rw [H6.out]; exact Nat.le_refl _)
      rw [hq64, List.take_of_length_le (show q.length ≤ L - E2 by have := H7.out; have := H9.out; have := HZ.out; have := H6.out; omega), splice_map]
      intro w4 hb4 ho4
      have f4 : w4.cell? ⟨g', 0, none⟩ = some c' := (((HBQ.out.keep H4.out).keep (Below.refl _ _).drew).only ho4 hgg).cell 0 |>.trans (by simp [ccs])
      have hk4 : Below w.heap.size w w4 := H4.out.drew.trans (ho4.below (by rw [HG.out]; exact Nat.le_refl _) H4.out.drew.size)
      have HB4 := Lib.hid hb4
      have HK4 := Lib.hid hk4
      refine hK.out _ _ f4 ?_
      clear hK K hS hb4 hk4 ho4 f0 hcut hpa he1
      repeat ((first
        | (refine Run.takes (v := ?_) ?_ ?_; rotate_left; (· intro w' hS'; go_simp; (try with_reducible rfl)))
        | (refine Run.takesG (v := ?_) ?_ ?_ ?_; rotate_left; (· simp only [List.getElem?_cons_zero, List.getElem?_cons_succ]); (· intro w' hS'; go_simp; (try with_reducible rfl)))
        | (refine Run.skipsT ?_ ?_; (· simp only [List.getElem?_cons_zero, List.getElem?_cons_succ]))
        | (refine Run.skipsF ?_ ?_; (· simp only [List.getElem?_cons_zero, List.getElem?_cons_succ]))
        | (refine Run.skipsU ?_ ?_; (· simp only [List.getElem?_cons_zero, List.getElem?_cons_succ]))
        | (refine Run.passT ?_ ?_; (· simp only [List.getElem?_cons_zero, List.getElem?_cons_succ]))
        | (refine Run.passF ?_ ?_; (· simp only [List.getElem?_cons_zero, List.getElem?_cons_succ]))
        | (refine Run.passU ?_ ?_; (· simp only [List.getElem?_cons_zero, List.getElem?_cons_succ]))
        | fail); simp only [Act.put, List.setIfInBounds_toArray, List.set_cons_zero, List.set_cons_succ])
      refine Run.ends (fun _ => ?_)
      go_wp2_with fail
      refine ⟨⟨qs, q ++ rest, Z.take E2, H1.out, by rw [H8.out], ?_, ?_, ?_, ?_, HK4.out⟩, ?_⟩
      · rw [List.length_take, HZ.out, H7.out, ← H8.out]; omega
      · rw [H2.out, List.reverse_cons, List.flatten_append]; simp
      · have := H7.out; have := H9.out; have := HZ.out; have := H6.out; rw [HL.out, List.length_take, List.length_append]; omega
      · have h7 := H7.out
        have hz := HZ.out
        have hsp : splice (Z ++ rest) E2 q = Z.take E2 ++ (q ++ rest) := by
          unfold splice
          rw [H6.out, List.take_append_of_le_length (by omega), List.drop_append_of_le_length (by omega), List.drop_of_length_le (by omega), List.nil_append]
        rw [← hsp]
        exact HB4.out
      · have := H7.out; simp [intOf]; omega
end Go.Proofs.Ytkenldpmogogaaa
