/- Package message: getRecord. -/
import Derived.Test.YthhelhhlofdehaaMsgOrd
import Derived.Test.YthhelhhlofdehaaMsgOwnB
import Derived.Test.YthhelhhlofdehaaRun
import Derived.Deep.DeepCutAuto
import Derived.Test.YthhelhhlofdehaaMem
import Derived.Laws.Tables
import Derived.Deep.WholeRow
set_option maxRecDepth 4000
namespace Go.Proofs.Ythhelhhlofdehaa
open Go.RowKit Mem
set_option linter.unusedSimpArgs false
set_option linter.unusedVariables false
attribute [local irreducible] Go.Calls

theorem make_u32 (m : Nat) (hm : m ≤ 100) (x : Int) (hx : x = m) (w : World) : (Instr.makeSlice 24 (.int .i64 x) (.int .i64 x)).run Try.prog w = .ok (.slice (some ⟨w.heap.size, 0, none⟩) m m) (w.alloc (.cells (madeCells #[.int .u32 0] m) 22)) := by
  subst hx
  exact Go.run_make_row' 24 22 (.int .u32 0) 4 Try.underlying24 (by kernel_rfl) rfl .i64 .i64 m (by omega) (by omega) w
theorem flat_rep (m : Nat) : (intE .u32).flat (List.replicate m 0) = List.replicate m (.int .u32 0) := by
  induction m with
  | zero => rfl
  | succ m ih => rw [List.replicate_succ, Enc.flat_cons, ih, List.replicate_succ]; rfl
theorem made_rd (Z : World) (m : Nat) (hm : m ≤ 100) {g : Nat} (hg : g = Z.heap.size) : Rd (intE .u32) (Z.alloc (.cells (madeCells #[.int .u32 0] m) 22)) (.slice (some ⟨g, 0, none⟩) m m) (List.replicate m 0) :=
  (Row.lit (E := intE .u32) (T := 22) 0 Z (madeCells #[.int .u32 0] m) (List.replicate m 0) m g (by rw [flat_rep]; exact Go.toList_madeCells_one _ _) (by simp) hg (Nat.zero_le _) (by rw [List.length_replicate]; unfold maxLen; omega)).rd
theorem Only.rowS {b : Nat} (w : World) (cs : Array Value) : Only b w (w.setRow b cs) :=
  ⟨rfl, rfl, rfl, by simp, fun k _ hne => setRow_other w b k cs (fun e => hne (by rw [e]))⟩
theorem Blk.rowS {w : World} {g : Nat} {t : TypeId} {old : Array Value} (h : Blk w g t old) (cs : Array Value) : Blk (w.setRow g cs) g t cs := setRow_heap w g old cs t (0, 0) h
theorem Only.set_new {b d : Nat} {y z : World} (h : Only b y z) (hn : y.heap.size ≤ d) (i : Nat) (u : Value) : Only b y (z.setCell ⟨d, i, none⟩ u) := by
  have s := Only.set (b := d) z i u
  exact ⟨s.os.trans h.os, s.tape.trans h.tape, s.output.trans h.output, Nat.le_trans h.size s.size, fun k hk hne => (s.block k (by have := h.size; omega) (by intro e; injection e; omega)).trans (h.block k hk hne)⟩
theorem Only.row_new {b d : Nat} {y z : World} (h : Only b y z) (hn : y.heap.size ≤ d) (cs : Array Value) : Only b y (z.setRow d cs) := by
  have s := Only.rowS (b := d) z cs
  exact ⟨s.os.trans h.os, s.tape.trans h.tape, s.output.trans h.output, Nat.le_trans h.size s.size, fun k hk hne => (s.block k (by have := h.size; omega) (by intro e; injection e; omega)).trans (h.block k hk hne)⟩
theorem flat_u32 (l : List Int) : (intE .u32).flat l = l.map (Value.int .u32) := by
  induction l with
  | nil => rfl
  | cons x l ih => rw [Enc.flat_cons, ih]; rfl
def u32s (l : List Int) : Array Value := (l.map (Value.int .u32)).toArray
theorem u32s_set (l : List Int) (x : Int) (n : Nat) : (u32s (l ++ List.replicate (n + 1) 0)).setIfInBounds l.length (.int .u32 x) = u32s ((l ++ [x]) ++ List.replicate n 0) := by
  unfold u32s
  rw [List.setIfInBounds_toArray]
  congr 1
  rw [List.replicate_succ, List.map_append, List.map_cons, List.set_append_right _ _ (by simp)]
  simp [List.append_assoc]
theorem u32s_at (l : List Int) (n : Nat) : (u32s (l ++ List.replicate (n + 1) 0))[l.length]? = some (.int .u32 0) := by
  unfold u32s
  simp [List.replicate_succ]
theorem made_u32s (a : Nat) : madeCells #[.int .u32 0] a = u32s (List.replicate a 0) := by
  apply Array.ext'
  rw [Go.toList_madeCells_one]
  simp [u32s]
theorem row_u32s {w : World} {g B : Nat} {l : List Int} {n : Nat} (h : Blk w g 22 (u32s l)) (hB : B ≤ g) (hn : n = l.length) (hm : l.length ≤ 100) : Row (intE .u32) 22 B w (.slice (some ⟨g, 0, none⟩) n n) l := by
  subst hn
  refine ⟨by rw [flat_u32]; simp [intE], .inr ⟨g, l.length, _, rfl, hB, h, Nat.le_refl _, by unfold maxLen; omega, by simp [intE, u32s], ?_⟩⟩
  rw [flat_u32]
  exact List.take_of_length_le (by simp [intE, u32s])
def OGetRec (b : Nat) (g : Option Nat) (l : List Int) (q a : Nat) (w : World) (e : Ending) (w' : World) : Prop :=
  ∃ x, e = .returned (.agg #[.int .u64 (gq l q 8), .int .u64 (gq l (q + 8) 8), x]) ∧ Row (intE .u32) 22 w.heap.size w' x (valQ l (q + 16) a) ∧ OrQ w' b g l (q + 16 + 4 * a) ∧ Only b w w'
set_option maxRecDepth 100000 in
set_option maxHeartbeats 4000000 in
theorem ogetrec_any (b : Nat) (g : Option Nat) (l : List Int) (q a : Nat) (w : World) (h : OrQ w b g l q) (hg : ∀ k, g = some k → k < w.heap.size) (hl : l.length ≤ 1000000) (hb : Byt l) (ha : 1 ≤ a ∧ a ≤ 8) :
    Calls Try.prog 82 #[.int .i64 a, .pointer (some ⟨b, 0, none⟩)] w (OGetRec b g l q a w) := by
  have hbw := h.lt
  have HBY := Lib.hid hb
  have HL := Lib.hid hl
  have hk0 : Below w.heap.size w (w.alloc (.cells #[.int .u64 0, .int .u64 0, .slice none 0 0] 26)) := more (Below.refl _ _) _
  have HR0 := Lib.hid (h.keep hk0)
  have HK0 := Lib.hid hk0
  have HB4 := Lib.hid (Blk.newAt w 26 #[.int .u64 0, .int .u64 0, .slice none 0 0] rfl)
  have HBW := Lib.hid hbw
  have HGK := Lib.hid hg
  clear h hk0 hb hl hbw hg
  go_enter Try.func82, Try.ntmps82
  go_upto_region 1 with fail
  generalize w.alloc (.cells #[.int .u64 0, .int .u64 0, .slice none 0 0] 26) = w1 at *
  obtain ⟨g4, hg4⟩ : ∃ g4, g4 = w.heap.size := ⟨_, rfl⟩
  rw [← hg4] at HB4 HBW ⊢
  have HG4 := Lib.hid hg4
  clear hg4
  go_upto_region 2 with (go_at_call 60; refine (ogetq b g l q 8 sz8 _ HR0.out HL.out HBY.out).mono ?_; rintro e1 y1 ⟨rfl, hr1, ho1⟩)
  have HR1 := Lib.hid hr1
  have HO1 := Lib.hid ((Only.of_below (b := b) HK0.out).trans ho1)
  have HNE : Hid (g4 ≠ b) := Lib.hid (by have := HBW.out; omega)
  have HB4 := Lib.hid (HB4.out.only ho1 HNE.out)
  clear hr1 ho1 HR0 HK0
  have hmk := make_u32 a (by omega) (a : Int) rfl
  rename_i K hK
  have HKK := Lib.hid hK
  have HA := Lib.hid ha
  have HMK := Lib.hid hmk
  clear hK ha hmk
  have KEY : Hid (∀ (gm g6 : Nat) (z : World), Blk z gm 22 (u32s (List.replicate a 0)) → Blk z g6 26 #[.int .u64 (gq l q 8), .int .u64 (gq l (q + 8) 8), .slice (some ⟨gm, 0, none⟩) a a] → OrQ z b g l (q + 8 + 8) → Only b y1 z → y1.heap.size ≤ gm → y1.heap.size ≤ g6 → gm ≠ g6 → K { tmps := #[.int .i64 a, .pointer (some ⟨b, 0, none⟩), undef, undef, .pointer (some ⟨g4, 0, none⟩), .int .u64 (gq l q 8), .pointer (some ⟨g6, 0, none⟩), undef, .pointer (some ⟨b, 0, none⟩), .int .u64 (gq l q 8), .int .u64 (gq l q 8), .pointer (some ⟨b, 0, none⟩), .int .u64 (gq l (q + 8) 8), .int .i64 a, .slice (some ⟨gm, 0, none⟩) a a, .agg #[.int .u64 (gq l q 8), .int .u64 (gq l (q + 8) 8), .slice (some ⟨gm, 0, none⟩) a a], undef, undef, undef, undef, undef, undef, undef, undef, undef, undef, undef, undef, undef, undef, undef], defers := [] } z) := Lib.hid (by
    intro gm g6 z hm h6 hr ho n1 n2 n3
    refine HKK.out _ _ ?_
    have e2 : z.cell? ⟨g6, 2, none⟩ = some (.slice (some ⟨gm, 0, none⟩) a a) := h6.cell 2
    have HM := Lib.hid hm
    have H6 := Lib.hid h6
    have HR := Lib.hid hr
    have HO := Lib.hid ho
    have N1 := Lib.hid n1
    have N2 := Lib.hid n2
    have N3 := Lib.hid n3
    clear hm h6 hr ho n1 n2 n3
    go_wp2_with fail
    go_loopw [19] (fun i wr => ∃ j : Nat, j ≤ a ∧ i = .int .i64 j ∧ Blk wr gm 22 (u32s (valQ l (q + 16) j ++ List.replicate (a - j) 0)) ∧ Blk wr g6 26 #[.int .u64 (gq l q 8), .int .u64 (gq l (q + 8) 8), .slice (some ⟨gm, 0, none⟩) a a] ∧ OrQ wr b g l (q + 16 + 4 * j) ∧ Only b y1 wr) (fun i _ => a - (intOf i).toNat)
    case atStart => exact ⟨0, Nat.zero_le _, rfl, by simpa [valQ] using HM.out, H6.out, HR.out, HO.out⟩
    case round =>
      obtain ⟨j, hj, rfl, hm, h6, hr, ho⟩ := hrel
      have HM := Lib.hid hm
      have H6 := Lib.hid h6
      have HR := Lib.hid hr
      have HO := Lib.hid ho
      have e2 : wr.cell? ⟨g6, 2, none⟩ = some (.slice (some ⟨gm, 0, none⟩) a a) := h6.cell 2
      clear hm h6 hr ho
      by_cases hlt : j < a
      · have hx := gq4 HBY.out (q + 16 + 4 * j)
        have hw : IntKind.u32.wrap (gq l (q + 16 + 4 * j) 4) = gq l (q + 16 + 4 * j) 4 := IntWalk.u32_in _ (by omega)
        have HX := Lib.hid (valQ_succ l (q + 16) j)
        have HVL := Lib.hid (valQ_len l (q + 16) j)
        generalize hgx : gq l (q + 16 + 4 * j) 4 = x at *
        have HGX := Lib.hid hgx
        clear hgx hx
        have hj8 : j ≤ 8 := by have := HA.out; omega
        go_wp2_with fail
        refine Run.region_walkZ (S := fun z => z.cell? ⟨g6, 2, none⟩ = some (.slice (some ⟨gm, 0, none⟩) a a))
          omrec.rows6 omrec.plan6z 7 _ (l := ?steps1) (by kernel_rfl) (by kernel_rfl) (by kernel_rfl) (by kernel_rfl) rfl rfl ?written1 e2 ?onward1
        case written1 =>
          simp only [omrec.plan6z, Run.stepsOf, Run.stepOf, Run.guardOf, List.getElem?_toArray, List.getElem?_cons_zero, List.getElem?_cons_succ, Option.map_some, Option.map_none, Option.bind_some, Option.toList_some, List.map_cons, List.map_nil, List.cons_append, List.nil_append]
          rfl
        repeat ((first
          | (refine Run.takes (v := ?_) ?_ ?_; rotate_left; (· intro w' hS'; go_simp; (try with_reducible rfl)))
          | (refine Run.takesG (v := ?_) ?_ ?_ ?_; rotate_left; (· simp only [List.getElem?_cons_zero, List.getElem?_cons_succ]); (· intro w' hS'; go_simp; (try with_reducible rfl)))
          | (refine Run.skipsT ?_ ?_; (· simp only [List.getElem?_cons_zero, List.getElem?_cons_succ]))
          | (refine Run.skipsF ?_ ?_; (· simp only [List.getElem?_cons_zero, List.getElem?_cons_succ]))
          | (refine Run.skipsU ?_ ?_; (· simp only [List.getElem?_cons_zero, List.getElem?_cons_succ]))
          | (refine Run.passT ?_ ?_; (· simp only [List.getElem?_cons_zero, List.getElem?_cons_succ]))
          | (refine Run.passF ?_ ?_; (· simp only [List.getElem?_cons_zero, List.getElem?_cons_succ]))
          | (refine Run.passU ?_ ?_; (· simp only [List.getElem?_cons_zero, List.getElem?_cons_succ]))
          | fail); simp only [Act.put, List.setIfInBounds_toArray, List.set_cons_zero, List.set_cons_succ])
        have hD : Below wr.heap.size wr wr.drew := (Below.refl _ _).drew
        refine Run.runsS (Run.callF 60 (by kernel_rfl) (fun hS => ogetq b g l (q + 16 + 4 * j) 4 sz4' _ (HR.out.keep hD) HL.out HBY.out) rfl ?_)
        rintro hS e z1 ⟨rfl, hr1, ho1⟩
        rw [HGX.out]
        have HR1' := Lib.hid hr1
        have hoo := (Only.of_below (b := b) hD).trans ho1
        have hgne : gm ≠ b := by have := N1.out; have := HR1.out.lt; omega
        have hg6ne : g6 ≠ b := by have := N2.out; have := HR1.out.lt; omega
        have HM1 := Lib.hid (HM.out.only hoo hgne)
        have H61 := Lib.hid (H6.out.only hoo hg6ne)
        have HO1' := Lib.hid (HO.out.trans hoo)
        refine ⟨_, rfl, H61.out.cell 2, fun _ => ⟨fun z => z.cell? ⟨g6, 2, none⟩ = some (.slice (some ⟨gm, 0, none⟩) a a), fun z h => h, H61.out.cell 2, ?_⟩⟩
        clear hS hr1 ho1 hoo hgne hg6ne hD
        simp only [Act.put, List.setIfInBounds_toArray, List.set_cons_zero, List.set_cons_succ]
        repeat ((first
          | (refine Run.takes (v := ?_) ?_ ?_; rotate_left; (· intro w' hS'; go_simp; (try with_reducible rfl)))
          | (refine Run.takesG (v := ?_) ?_ ?_ ?_; rotate_left; (· simp only [List.getElem?_cons_zero, List.getElem?_cons_succ]); (· intro w' hS'; go_simp; (try with_reducible rfl)))
          | (refine Run.skipsT ?_ ?_; (· simp only [List.getElem?_cons_zero, List.getElem?_cons_succ]))
          | (refine Run.skipsF ?_ ?_; (· simp only [List.getElem?_cons_zero, List.getElem?_cons_succ]))
          | (refine Run.skipsU ?_ ?_; (· simp only [List.getElem?_cons_zero, List.getElem?_cons_succ]))
          | (refine Run.passT ?_ ?_; (· simp only [List.getElem?_cons_zero, List.getElem?_cons_succ]))
          | (refine Run.passF ?_ ?_; (· simp only [List.getElem?_cons_zero, List.getElem?_cons_succ]))
          | (refine Run.passU ?_ ?_; (· simp only [List.getElem?_cons_zero, List.getElem?_cons_succ]))
          | fail); simp only [Act.put, List.setIfInBounds_toArray, List.set_cons_zero, List.set_cons_succ])
        refine Run.endsZ (fun hS K' hK' => ?_)
        obtain ⟨n, hn⟩ : ∃ n, a - j = n + 1 := ⟨a - j - 1, by omega⟩
        have hm2 := HM1.out
        rw [hn] at hm2
        have cf := hm2.frozen j
        have cc : z1.cell? ⟨gm, j, none⟩ = some (.int .u32 0) := by
          have h9 := hm2.cell j
          have h8 := u32s_at (valQ l (q + 16) j) n
          rw [HVL.out] at h8
          rw [h9, h8]
        have HM2 := Lib.hid hm2
        clear hm2 hS
        go_simp
        refine hK'.out _ _ (NoPanic.normal ?_)
        clear hK' K' cf cc
        have hset : Blk (z1.setCell ⟨gm, j, none⟩ (.int .u32 x)) gm 22 (u32s ((valQ l (q + 16) j ++ [x]) ++ List.replicate n 0)) := by
          have h8 := u32s_set (valQ l (q + 16) j) x n
          rw [HVL.out] at h8
          rw [← h8]
          exact HM2.out.set_ j (.int .u32 x)
        have ho2 := Only.set (b := gm) z1 j (.int .u32 x)
        have HS := Lib.hid hset
        have HN : Hid (a - (j + 1) = n) := Lib.hid (by omega)
        have hg6 : g6 ≠ gm := fun e => N3.out e.symm
        have hbm : b ≠ gm := by have := N1.out; have := HR1.out.lt; omega
        have hgg : g ≠ some gm := fun e => by have := HGK.out gm e; have := N1.out; have := HO1.out.size; omega
        have H62 := Lib.hid (H61.out.only ho2 hg6)
        have HR2 := Lib.hid (HR1'.out.only ho2 hbm hgg)
        have HO2 := Lib.hid (Only.set_new HO1'.out N1.out j (.int .u32 x))
        clear hset ho2 hg6 hbm hgg HM2
        generalize z1.setCell ⟨gm, j, none⟩ (.int .u32 x) = z2 at *
        go_wp2_with fail
        exact ⟨⟨j + 1, by omega, by go_num, by rw [HN.out, HX.out]; exact HS.out, H62.out, by rw [show q + 16 + 4 * (j + 1) = q + 16 + 4 * j + 4 by omega]; exact HR2.out, HO2.out⟩, by simp [intOf]; omega⟩
      · have hja : j = a := by omega
        subst hja
        have HBZ := Lib.hid (HB4.out.only HO.out HNE.out)
        go_upto_if 99 with (first | (refine wpList_load_row rfl 26 (.tmp 6) rfl g6 rfl 26 _ (0, 0) _ H6.out Try.underlying26 rfl rec_info ?_) | (refine wpList_store_row rfl 26 (.tmp 4) (.tmp 30) rfl g4 #[.int .u64 (gq l q 8), .int .u64 (gq l (q + 8) 8), .slice (some ⟨gm, 0, none⟩) j j] rfl rfl 26 _ HBZ.out rec_info rfl (by simp [Value.oneCell']) ?_))
        have hm9 := HM.out
        rw [Nat.sub_self, List.replicate_zero, List.append_nil] at hm9
        have hg4y : g4 < y1.heap.size := HB4.out.lt
        have n9 := N1.out
        have hsz := HO1.out.size
        have hg49 := HG4.out
        have hmne : gm ≠ g4 := by omega
        have hbne : b ≠ g4 := by have := HBW.out; omega
        have hgne : g ≠ some g4 := fun e => by have := HGK.out g4 e; omega
        refine bodyPost_ret (results_blk (l := [.int .u64 (gq l q 8), .int .u64 (gq l (q + 8) 8), .slice (some ⟨gm, 0, none⟩) j j]) rfl Try.underlying26 rec_info rfl rfl (Blk.rowS HBZ.out _)) rfl ?_
        exact ⟨_, rfl, row_u32s (hm9.only (Only.rowS wr _) hmne) (by omega) (valQ_len l (q + 16) j).symm (by rw [valQ_len]; have := HA.out; omega), HR.out.only (Only.rowS wr _) hbne hgne, Only.row_new (HO1.out.trans HO.out) (by omega) _⟩)
  have HOY : Hid (w.heap.size ≤ y1.heap.size) := Lib.hid HO1.out.size
  have hD : Below y1.heap.size y1 y1.drew := (Below.refl _ _).drew
  have HD := Lib.hid hD
  have HRD := Lib.hid (HR1.out.keep hD)
  have hblt : b < y1.drew.heap.size := by have := HR1.out.lt; have := hD.size; omega
  have hglt : ∀ k, g = some k → k < y1.drew.heap.size := fun k hk => by have := HGK.out k hk; have := HO1.out.size; have := hD.size; omega
  have HBL := Lib.hid hblt
  have HGL := Lib.hid hglt
  have hys : y1.heap.size ≤ y1.drew.heap.size := hD.size
  have HYS := Lib.hid hys
  clear hD hblt hglt hys
  have hmk := HMK.out
  generalize hZ : y1.drew = Z at *
  refine Run.region_walk3 (S := fun _ => True) (ls := ?ls) (gi := ?gi) (oi := ?oi) (gj := ?gj) (oj := ?oj) (gk := ?gk) (ok := ?ok) (lij := ?lij) (lik := ?lik) (lji := ?lji) (ljk := ?ljk) (lki := ?lki) (lkj := ?lkj) omrec.rows2 [0, 1, 3] 2 4 6 4 [(5, 0), (6, 1), (7, 1)] [(4, 1), (5, 0), (7, 1)] [(5, 0), (6, 1), (7, 1)] [(2, 1), (5, 0), (7, 1)] [(4, 1), (5, 0), (7, 1)] [(2, 1), (5, 0), (7, 1)]
    (by kernel_rfl) (by kernel_rfl) (by kernel_rfl) (by kernel_rfl) ?w0 ?wi ?wj ?wk ?w1 ?w2 ?w3 ?w4 ?w5 ?w6 trivial ?onw
  case w0 => simp only [Run.stepsOf, Run.lsOf, Run.stepOf, Run.guardOf, List.getElem?_toArray, List.getElem?_cons_zero, List.getElem?_cons_succ, Option.map_some, Option.map_none, Option.bind_some, Option.toList_some, List.map_cons, List.map_nil, List.cons_append, List.nil_append]; rfl
  case wi => simp only [Run.stepsOf, Run.lsOf, Run.stepOf, Run.guardOf, List.getElem?_toArray, List.getElem?_cons_zero, List.getElem?_cons_succ, Option.map_some, Option.map_none, Option.bind_some, Option.toList_some, List.map_cons, List.map_nil, List.cons_append, List.nil_append]; rfl
  case wj => simp only [Run.stepsOf, Run.lsOf, Run.stepOf, Run.guardOf, List.getElem?_toArray, List.getElem?_cons_zero, List.getElem?_cons_succ, Option.map_some, Option.map_none, Option.bind_some, Option.toList_some, List.map_cons, List.map_nil, List.cons_append, List.nil_append]; rfl
  case wk => simp only [Run.stepsOf, Run.lsOf, Run.stepOf, Run.guardOf, List.getElem?_toArray, List.getElem?_cons_zero, List.getElem?_cons_succ, Option.map_some, Option.map_none, Option.bind_some, Option.toList_some, List.map_cons, List.map_nil, List.cons_append, List.nil_append]; rfl
  case w1 => simp only [Run.stepsOf, Run.lsOf, Run.stepOf, Run.guardOf, List.getElem?_toArray, List.getElem?_cons_zero, List.getElem?_cons_succ, Option.map_some, Option.map_none, Option.bind_some, Option.toList_some, List.map_cons, List.map_nil, List.cons_append, List.nil_append]; rfl
  case w2 => simp only [Run.stepsOf, Run.lsOf, Run.stepOf, Run.guardOf, List.getElem?_toArray, List.getElem?_cons_zero, List.getElem?_cons_succ, Option.map_some, Option.map_none, Option.bind_some, Option.toList_some, List.map_cons, List.map_nil, List.cons_append, List.nil_append]; rfl
  case w3 => simp only [Run.stepsOf, Run.lsOf, Run.stepOf, Run.guardOf, List.getElem?_toArray, List.getElem?_cons_zero, List.getElem?_cons_succ, Option.map_some, Option.map_none, Option.bind_some, Option.toList_some, List.map_cons, List.map_nil, List.cons_append, List.nil_append]; rfl
  case w4 => simp only [Run.stepsOf, Run.lsOf, Run.stepOf, Run.guardOf, List.getElem?_toArray, List.getElem?_cons_zero, List.getElem?_cons_succ, Option.map_some, Option.map_none, Option.bind_some, Option.toList_some, List.map_cons, List.map_nil, List.cons_append, List.nil_append]; rfl
  case w5 => simp only [Run.stepsOf, Run.lsOf, Run.stepOf, Run.guardOf, List.getElem?_toArray, List.getElem?_cons_zero, List.getElem?_cons_succ, Option.map_some, Option.map_none, Option.bind_some, Option.toList_some, List.map_cons, List.map_nil, List.cons_append, List.nil_append]; rfl
  case w6 => simp only [Run.stepsOf, Run.lsOf, Run.stepOf, Run.guardOf, List.getElem?_toArray, List.getElem?_cons_zero, List.getElem?_cons_succ, Option.map_some, Option.map_none, Option.bind_some, Option.toList_some, List.map_cons, List.map_nil, List.cons_append, List.nil_append]; rfl
  case onw =>
    rw [hZ]
    refine ⟨.int .u64 (gq l q 8), .inl ⟨rfl, fun w' _ => rfl⟩, .pointer (some ⟨b, 0, none⟩), .inl ⟨rfl, fun w' _ => rfl⟩, .int .i64 a, .inl ⟨rfl, fun w' _ => rfl⟩, ?_⟩
    simp only [Run.LS, Act.put, List.setIfInBounds_toArray, List.set_cons_zero, List.set_cons_succ]
    have HO0 : Hid (Only b y1 Z) := Lib.hid (Only.of_below (b := b) HD.out)
    have HR0 := HRD
    obtain ⟨Z0, hZ0⟩ : ∃ x, x = Z := ⟨_, rfl⟩
    rw [← hZ0] at HO0 HR0 ⊢
    clear hZ0 HRD HD HBL HGL HYS hZ HB4 HO1
    unfold Run.First Run.Two
    refine ⟨?_, ?_, ?_⟩
    · skip
      as_aux_lemma =>
        refine (Run.callF 60 (by kernel_rfl) (fun hS => ogetq b g l (q + 8) 8 sz8 Z0 HR0.out HL.out HBY.out) rfl ?_)
        rintro hS e Z1 ⟨rfl, hr, ho⟩
        have HR1 := Lib.hid hr
        have HO1 := Lib.hid (HO0.out.trans ho)
        refine ⟨_, rfl, trivial, fun _ => ⟨fun _ => True, fun _ h => h, trivial, ?_⟩⟩
        clear hS hr ho
        try simp only [Act.put, List.setIfInBounds_toArray, List.set_cons_zero, List.set_cons_succ]
        unfold Run.First
        refine ⟨?_, ?_⟩
        · skip
          refine (Run.one (fun hS K1 hK1 => ?_))
          go_simp
          have hX : Below Z1.heap.size Z1 (Z1.alloc (.cells (madeCells #[.int .u32 0] a) 22)) := more (Below.refl _ _) _
          have HR2 := Lib.hid (HR1.out.keep hX)
          have HO2 := Lib.hid (HO1.out.trans (Only.of_below (b := b) hX))
          have HM2 := Lib.hid (Blk.new Z1 22 (madeCells #[.int .u32 0] a))
          have NM1 : Hid (y1.heap.size ≤ Z1.heap.size) := Lib.hid HO1.out.size
          have NMB : Hid (Z1.heap.size ≠ b) := Lib.hid (by have := HR1.out.lt; omega)
          refine hK1.out _ _ trivial (fun _ => ⟨fun _ => True, fun _ h => h, trivial, ?_⟩)
          clear hS K1 hK1 hX
          generalize Z1.alloc (.cells (madeCells #[.int .u32 0] a) 22) = Z2 at *
          obtain ⟨gM, hgM⟩ : ∃ x, x = Z1.heap.size := ⟨_, rfl⟩
          rw [← hgM] at HM2 NM1 NMB ⊢
          clear hgM
          try simp only [Act.put, List.setIfInBounds_toArray, List.set_cons_zero, List.set_cons_succ]
          repeat ((first
            | (refine Run.takes (v := ?_) ?_ ?_; rotate_left; (· intro w' hS'; go_simp; (try with_reducible rfl)))
            | (refine Run.takesG (v := ?_) ?_ ?_ ?_; rotate_left; (· simp only [List.getElem?_cons_zero, List.getElem?_cons_succ]); (· intro w' hS'; go_simp; (try with_reducible rfl)))
            | (refine Run.skipsT ?_ ?_; (· simp only [List.getElem?_cons_zero, List.getElem?_cons_succ]))
            | (refine Run.skipsF ?_ ?_; (· simp only [List.getElem?_cons_zero, List.getElem?_cons_succ]))
            | (refine Run.skipsU ?_ ?_; (· simp only [List.getElem?_cons_zero, List.getElem?_cons_succ]))
            | (refine Run.passT ?_ ?_; (· simp only [List.getElem?_cons_zero, List.getElem?_cons_succ]))
            | (refine Run.passF ?_ ?_; (· simp only [List.getElem?_cons_zero, List.getElem?_cons_succ]))
            | (refine Run.passU ?_ ?_; (· simp only [List.getElem?_cons_zero, List.getElem?_cons_succ]))
            | fail); simp only [Act.put, List.setIfInBounds_toArray, List.set_cons_zero, List.set_cons_succ])
          refine Run.runsS (Run.one (fun hS K1 hK1 => ?_))
          go_simp
          have hX : Below Z2.heap.size Z2 (Z2.alloc (.cells #[.int .u64 0, .int .u64 0, .slice none 0 0] 26)) := more (Below.refl _ _) _
          have HR3 := Lib.hid (HR2.out.keep hX)
          have HO3 := Lib.hid (HO2.out.trans (Only.of_below (b := b) hX))
          have HA3 := Lib.hid (Blk.new Z2 26 #[.int .u64 0, .int .u64 0, .slice none 0 0])
          have NA1 : Hid (y1.heap.size ≤ Z2.heap.size) := Lib.hid HO2.out.size
          have NAB : Hid (Z2.heap.size ≠ b) := Lib.hid (by have := HR2.out.lt; omega)
          have HM3 := Lib.hid (HM2.out.keep hX)
          have NE : Hid (gM < Z2.heap.size) := Lib.hid HM2.out.lt
          refine hK1.out _ _ trivial (fun _ => ⟨fun _ => True, fun _ h => h, trivial, ?_⟩)
          clear hS K1 hK1 hX
          generalize Z2.alloc (.cells #[.int .u64 0, .int .u64 0, .slice none 0 0] 26) = Z3 at *
          obtain ⟨gA, hgA⟩ : ∃ x, x = Z2.heap.size := ⟨_, rfl⟩
          rw [← hgA] at HA3 NA1 NAB NE ⊢
          clear hgA
          try simp only [Act.put, List.setIfInBounds_toArray, List.set_cons_zero, List.set_cons_succ]
          repeat ((first
            | (refine Run.takes (v := ?_) ?_ ?_; rotate_left; (· intro w' hS'; go_simp; (try with_reducible rfl)))
            | (refine Run.takesG (v := ?_) ?_ ?_ ?_; rotate_left; (· simp only [List.getElem?_cons_zero, List.getElem?_cons_succ]); (· intro w' hS'; go_simp; (try with_reducible rfl)))
            | (refine Run.skipsT ?_ ?_; (· simp only [List.getElem?_cons_zero, List.getElem?_cons_succ]))
            | (refine Run.skipsF ?_ ?_; (· simp only [List.getElem?_cons_zero, List.getElem?_cons_succ]))
            | (refine Run.skipsU ?_ ?_; (· simp only [List.getElem?_cons_zero, List.getElem?_cons_succ]))
            | (refine Run.passT ?_ ?_; (· simp only [List.getElem?_cons_zero, List.getElem?_cons_succ]))
            | (refine Run.passF ?_ ?_; (· simp only [List.getElem?_cons_zero, List.getElem?_cons_succ]))
            | (refine Run.passU ?_ ?_; (· simp only [List.getElem?_cons_zero, List.getElem?_cons_succ]))
            | fail); simp only [Act.put, List.setIfInBounds_toArray, List.set_cons_zero, List.set_cons_succ])
          refine Run.runs (Run.one (fun hS K1 hK1 => ?_))
          refine wp_store_row 26 (.tmp 6) (.tmp 15) rfl gA #[.int .u64 (gq l q 8), .int .u64 (gq l (q + 8) 8), .slice (some ⟨gM, 0, none⟩) a a] rfl rfl 26 _ HA3.out rec_info rfl (by simp [Value.oneCell']) ?_
          refine hK1.out _ _ trivial ?_
          clear hS K1 hK1
          try simp only [Act.put, List.setIfInBounds_toArray, List.set_cons_zero, List.set_cons_succ]
          refine Run.ends (fun _ => ?_)
          have hne : gM ≠ gA := by have := NE.out; omega
          have hgne : g ≠ some gA := fun e => by have := HGK.out gA e; have := NA1.out; have := HOY.out; omega
          have hm := HM3.out.only (Only.rowS Z3 #[.int .u64 (gq l q 8), .int .u64 (gq l (q + 8) 8), .slice (some ⟨gM, 0, none⟩) a a]) hne
          rw [made_u32s] at hm
          exact KEY.out gM gA _ hm (Blk.rowS HA3.out _) (HR3.out.only (Only.rowS Z3 _) (fun e => NAB.out e.symm) hgne) (Only.row_new HO3.out NA1.out _) NM1.out NA1.out hne
        · skip
          refine (Run.one (fun hS K1 hK1 => ?_))
          go_simp
          have hX : Below Z1.heap.size Z1 (Z1.alloc (.cells #[.int .u64 0, .int .u64 0, .slice none 0 0] 26)) := more (Below.refl _ _) _
          have HR2 := Lib.hid (HR1.out.keep hX)
          have HO2 := Lib.hid (HO1.out.trans (Only.of_below (b := b) hX))
          have HA2 := Lib.hid (Blk.new Z1 26 #[.int .u64 0, .int .u64 0, .slice none 0 0])
          have NA1 : Hid (y1.heap.size ≤ Z1.heap.size) := Lib.hid HO1.out.size
          have NAB : Hid (Z1.heap.size ≠ b) := Lib.hid (by have := HR1.out.lt; omega)
          refine hK1.out _ _ trivial (fun _ => ⟨fun _ => True, fun _ h => h, trivial, ?_⟩)
          clear hS K1 hK1 hX
          generalize Z1.alloc (.cells #[.int .u64 0, .int .u64 0, .slice none 0 0] 26) = Z2 at *
          obtain ⟨gA, hgA⟩ : ∃ x, x = Z1.heap.size := ⟨_, rfl⟩
          rw [← hgA] at HA2 NA1 NAB ⊢
          clear hgA
          try simp only [Act.put, List.setIfInBounds_toArray, List.set_cons_zero, List.set_cons_succ]
          repeat ((first
            | (refine Run.takes (v := ?_) ?_ ?_; rotate_left; (· intro w' hS'; go_simp; (try with_reducible rfl)))
            | (refine Run.takesG (v := ?_) ?_ ?_ ?_; rotate_left; (· simp only [List.getElem?_cons_zero, List.getElem?_cons_succ]); (· intro w' hS'; go_simp; (try with_reducible rfl)))
            | (refine Run.skipsT ?_ ?_; (· simp only [List.getElem?_cons_zero, List.getElem?_cons_succ]))
            | (refine Run.skipsF ?_ ?_; (· simp only [List.getElem?_cons_zero, List.getElem?_cons_succ]))
            | (refine Run.skipsU ?_ ?_; (· simp only [List.getElem?_cons_zero, List.getElem?_cons_succ]))
            | (refine Run.passT ?_ ?_; (· simp only [List.getElem?_cons_zero, List.getElem?_cons_succ]))
            | (refine Run.passF ?_ ?_; (· simp only [List.getElem?_cons_zero, List.getElem?_cons_succ]))
            | (refine Run.passU ?_ ?_; (· simp only [List.getElem?_cons_zero, List.getElem?_cons_succ]))
            | fail); simp only [Act.put, List.setIfInBounds_toArray, List.set_cons_zero, List.set_cons_succ])
          refine Run.runsS (Run.one (fun hS K1 hK1 => ?_))
          go_simp
          have hX : Below Z2.heap.size Z2 (Z2.alloc (.cells (madeCells #[.int .u32 0] a) 22)) := more (Below.refl _ _) _
          have HR3 := Lib.hid (HR2.out.keep hX)
          have HO3 := Lib.hid (HO2.out.trans (Only.of_below (b := b) hX))
          have HM3 := Lib.hid (Blk.new Z2 22 (madeCells #[.int .u32 0] a))
          have NM1 : Hid (y1.heap.size ≤ Z2.heap.size) := Lib.hid HO2.out.size
          have NMB : Hid (Z2.heap.size ≠ b) := Lib.hid (by have := HR2.out.lt; omega)
          have HA3 := Lib.hid (HA2.out.keep hX)
          have NE : Hid (gA < Z2.heap.size) := Lib.hid HA2.out.lt
          refine hK1.out _ _ trivial (fun _ => ⟨fun _ => True, fun _ h => h, trivial, ?_⟩)
          clear hS K1 hK1 hX
          generalize Z2.alloc (.cells (madeCells #[.int .u32 0] a) 22) = Z3 at *
          obtain ⟨gM, hgM⟩ : ∃ x, x = Z2.heap.size := ⟨_, rfl⟩
          rw [← hgM] at HM3 NM1 NMB NE ⊢
          clear hgM
          try simp only [Act.put, List.setIfInBounds_toArray, List.set_cons_zero, List.set_cons_succ]
          repeat ((first
            | (refine Run.takes (v := ?_) ?_ ?_; rotate_left; (· intro w' hS'; go_simp; (try with_reducible rfl)))
            | (refine Run.takesG (v := ?_) ?_ ?_ ?_; rotate_left; (· simp only [List.getElem?_cons_zero, List.getElem?_cons_succ]); (· intro w' hS'; go_simp; (try with_reducible rfl)))
            | (refine Run.skipsT ?_ ?_; (· simp only [List.getElem?_cons_zero, List.getElem?_cons_succ]))
            | (refine Run.skipsF ?_ ?_; (· simp only [List.getElem?_cons_zero, List.getElem?_cons_succ]))
            | (refine Run.skipsU ?_ ?_; (· simp only [List.getElem?_cons_zero, List.getElem?_cons_succ]))
            | (refine Run.passT ?_ ?_; (· simp only [List.getElem?_cons_zero, List.getElem?_cons_succ]))
            | (refine Run.passF ?_ ?_; (· simp only [List.getElem?_cons_zero, List.getElem?_cons_succ]))
            | (refine Run.passU ?_ ?_; (· simp only [List.getElem?_cons_zero, List.getElem?_cons_succ]))
            | fail); simp only [Act.put, List.setIfInBounds_toArray, List.set_cons_zero, List.set_cons_succ])
          refine Run.runs (Run.one (fun hS K1 hK1 => ?_))
          refine wp_store_row 26 (.tmp 6) (.tmp 15) rfl gA #[.int .u64 (gq l q 8), .int .u64 (gq l (q + 8) 8), .slice (some ⟨gM, 0, none⟩) a a] rfl rfl 26 _ HA3.out rec_info rfl (by simp [Value.oneCell']) ?_
          refine hK1.out _ _ trivial ?_
          clear hS K1 hK1
          try simp only [Act.put, List.setIfInBounds_toArray, List.set_cons_zero, List.set_cons_succ]
          refine Run.ends (fun _ => ?_)
          have hne : gM ≠ gA := by have := NE.out; omega
          have hgne : g ≠ some gA := fun e => by have := HGK.out gA e; have := NA1.out; have := HOY.out; omega
          have hm := HM3.out.only (Only.rowS Z3 #[.int .u64 (gq l q 8), .int .u64 (gq l (q + 8) 8), .slice (some ⟨gM, 0, none⟩) a a]) hne
          rw [made_u32s] at hm
          exact KEY.out gM gA _ hm (Blk.rowS HA3.out _) (HR3.out.only (Only.rowS Z3 _) (fun e => NAB.out e.symm) hgne) (Only.row_new HO3.out NA1.out _) NM1.out NA1.out hne
    · skip
      as_aux_lemma =>
        refine (Run.one (fun hS K1 hK1 => ?_))
        go_simp
        have hX : Below Z0.heap.size Z0 (Z0.alloc (.cells (madeCells #[.int .u32 0] a) 22)) := more (Below.refl _ _) _
        have HR1 := Lib.hid (HR0.out.keep hX)
        have HO1 := Lib.hid (HO0.out.trans (Only.of_below (b := b) hX))
        have HM1 := Lib.hid (Blk.new Z0 22 (madeCells #[.int .u32 0] a))
        have NM1 : Hid (y1.heap.size ≤ Z0.heap.size) := Lib.hid HO0.out.size
        have NMB : Hid (Z0.heap.size ≠ b) := Lib.hid (by have := HR0.out.lt; omega)
        refine hK1.out _ _ trivial (fun _ => ⟨fun _ => True, fun _ h => h, trivial, ?_⟩)
        clear hS K1 hK1 hX
        generalize Z0.alloc (.cells (madeCells #[.int .u32 0] a) 22) = Z1 at *
        obtain ⟨gM, hgM⟩ : ∃ x, x = Z0.heap.size := ⟨_, rfl⟩
        rw [← hgM] at HM1 NM1 NMB ⊢
        clear hgM
        try simp only [Act.put, List.setIfInBounds_toArray, List.set_cons_zero, List.set_cons_succ]
        unfold Run.First
        refine ⟨?_, ?_⟩
        · skip
          refine (Run.callF 60 (by kernel_rfl) (fun hS => ogetq b g l (q + 8) 8 sz8 Z1 HR1.out HL.out HBY.out) rfl ?_)
          rintro hS e Z2 ⟨rfl, hr, ho⟩
          have HR2 := Lib.hid hr
          have HO2 := Lib.hid (HO1.out.trans ho)
          have HM2 := Lib.hid (HM1.out.only ho NMB.out)
          refine ⟨_, rfl, trivial, fun _ => ⟨fun _ => True, fun _ h => h, trivial, ?_⟩⟩
          clear hS hr ho
          try simp only [Act.put, List.setIfInBounds_toArray, List.set_cons_zero, List.set_cons_succ]
          repeat ((first
            | (refine Run.takes (v := ?_) ?_ ?_; rotate_left; (· intro w' hS'; go_simp; (try with_reducible rfl)))
            | (refine Run.takesG (v := ?_) ?_ ?_ ?_; rotate_left; (· simp only [List.getElem?_cons_zero, List.getElem?_cons_succ]); (· intro w' hS'; go_simp; (try with_reducible rfl)))
            | (refine Run.skipsT ?_ ?_; (· simp only [List.getElem?_cons_zero, List.getElem?_cons_succ]))
            | (refine Run.skipsF ?_ ?_; (· simp only [List.getElem?_cons_zero, List.getElem?_cons_succ]))
            | (refine Run.skipsU ?_ ?_; (· simp only [List.getElem?_cons_zero, List.getElem?_cons_succ]))
            | (refine Run.passT ?_ ?_; (· simp only [List.getElem?_cons_zero, List.getElem?_cons_succ]))
            | (refine Run.passF ?_ ?_; (· simp only [List.getElem?_cons_zero, List.getElem?_cons_succ]))
            | (refine Run.passU ?_ ?_; (· simp only [List.getElem?_cons_zero, List.getElem?_cons_succ]))
            | fail); simp only [Act.put, List.setIfInBounds_toArray, List.set_cons_zero, List.set_cons_succ])
          refine Run.runsS (Run.one (fun hS K1 hK1 => ?_))
          go_simp
          have hX : Below Z2.heap.size Z2 (Z2.alloc (.cells #[.int .u64 0, .int .u64 0, .slice none 0 0] 26)) := more (Below.refl _ _) _
          have HR3 := Lib.hid (HR2.out.keep hX)
          have HO3 := Lib.hid (HO2.out.trans (Only.of_below (b := b) hX))
          have HA3 := Lib.hid (Blk.new Z2 26 #[.int .u64 0, .int .u64 0, .slice none 0 0])
          have NA1 : Hid (y1.heap.size ≤ Z2.heap.size) := Lib.hid HO2.out.size
          have NAB : Hid (Z2.heap.size ≠ b) := Lib.hid (by have := HR2.out.lt; omega)
          have HM3 := Lib.hid (HM2.out.keep hX)
          have NE : Hid (gM < Z2.heap.size) := Lib.hid HM2.out.lt
          refine hK1.out _ _ trivial (fun _ => ⟨fun _ => True, fun _ h => h, trivial, ?_⟩)
          clear hS K1 hK1 hX
          generalize Z2.alloc (.cells #[.int .u64 0, .int .u64 0, .slice none 0 0] 26) = Z3 at *
          obtain ⟨gA, hgA⟩ : ∃ x, x = Z2.heap.size := ⟨_, rfl⟩
          rw [← hgA] at HA3 NA1 NAB NE ⊢
          clear hgA
          try simp only [Act.put, List.setIfInBounds_toArray, List.set_cons_zero, List.set_cons_succ]
          repeat ((first
            | (refine Run.takes (v := ?_) ?_ ?_; rotate_left; (· intro w' hS'; go_simp; (try with_reducible rfl)))
            | (refine Run.takesG (v := ?_) ?_ ?_ ?_; rotate_left; (· simp only [List.getElem?_cons_zero, List.getElem?_cons_succ]); (· intro w' hS'; go_simp; (try with_reducible rfl)))
            | (refine Run.skipsT ?_ ?_; (· simp only [List.getElem?_cons_zero, List.getElem?_cons_succ]))
            | (refine Run.skipsF ?_ ?_; (· simp only [List.getElem?_cons_zero, List.getElem?_cons_succ]))
            | (refine Run.skipsU ?_ ?_; (· simp only [List.getElem?_cons_zero, List.getElem?_cons_succ]))
            | (refine Run.passT ?_ ?_; (· simp only [List.getElem?_cons_zero, List.getElem?_cons_succ]))
            | (refine Run.passF ?_ ?_; (· simp only [List.getElem?_cons_zero, List.getElem?_cons_succ]))
            | (refine Run.passU ?_ ?_; (· simp only [List.getElem?_cons_zero, List.getElem?_cons_succ]))
            | fail); simp only [Act.put, List.setIfInBounds_toArray, List.set_cons_zero, List.set_cons_succ])
          refine Run.runs (Run.one (fun hS K1 hK1 => ?_))
          refine wp_store_row 26 (.tmp 6) (.tmp 15) rfl gA #[.int .u64 (gq l q 8), .int .u64 (gq l (q + 8) 8), .slice (some ⟨gM, 0, none⟩) a a] rfl rfl 26 _ HA3.out rec_info rfl (by simp [Value.oneCell']) ?_
          refine hK1.out _ _ trivial ?_
          clear hS K1 hK1
          try simp only [Act.put, List.setIfInBounds_toArray, List.set_cons_zero, List.set_cons_succ]
          refine Run.ends (fun _ => ?_)
          have hne : gM ≠ gA := by have := NE.out; omega
          have hgne : g ≠ some gA := fun e => by have := HGK.out gA e; have := NA1.out; have := HOY.out; omega
          have hm := HM3.out.only (Only.rowS Z3 #[.int .u64 (gq l q 8), .int .u64 (gq l (q + 8) 8), .slice (some ⟨gM, 0, none⟩) a a]) hne
          rw [made_u32s] at hm
          exact KEY.out gM gA _ hm (Blk.rowS HA3.out _) (HR3.out.only (Only.rowS Z3 _) (fun e => NAB.out e.symm) hgne) (Only.row_new HO3.out NA1.out _) NM1.out NA1.out hne
        · skip
          refine (Run.one (fun hS K1 hK1 => ?_))
          go_simp
          have hX : Below Z1.heap.size Z1 (Z1.alloc (.cells #[.int .u64 0, .int .u64 0, .slice none 0 0] 26)) := more (Below.refl _ _) _
          have HR2 := Lib.hid (HR1.out.keep hX)
          have HO2 := Lib.hid (HO1.out.trans (Only.of_below (b := b) hX))
          have HA2 := Lib.hid (Blk.new Z1 26 #[.int .u64 0, .int .u64 0, .slice none 0 0])
          have NA1 : Hid (y1.heap.size ≤ Z1.heap.size) := Lib.hid HO1.out.size
          have NAB : Hid (Z1.heap.size ≠ b) := Lib.hid (by have := HR1.out.lt; omega)
          have HM2 := Lib.hid (HM1.out.keep hX)
          have NE : Hid (gM < Z1.heap.size) := Lib.hid HM1.out.lt
          refine hK1.out _ _ trivial (fun _ => ⟨fun _ => True, fun _ h => h, trivial, ?_⟩)
          clear hS K1 hK1 hX
          generalize Z1.alloc (.cells #[.int .u64 0, .int .u64 0, .slice none 0 0] 26) = Z2 at *
          obtain ⟨gA, hgA⟩ : ∃ x, x = Z1.heap.size := ⟨_, rfl⟩
          rw [← hgA] at HA2 NA1 NAB NE ⊢
          clear hgA
          try simp only [Act.put, List.setIfInBounds_toArray, List.set_cons_zero, List.set_cons_succ]
          repeat ((first
            | (refine Run.takes (v := ?_) ?_ ?_; rotate_left; (· intro w' hS'; go_simp; (try with_reducible rfl)))
            | (refine Run.takesG (v := ?_) ?_ ?_ ?_; rotate_left; (· simp only [List.getElem?_cons_zero, List.getElem?_cons_succ]); (· intro w' hS'; go_simp; (try with_reducible rfl)))
            | (refine Run.skipsT ?_ ?_; (· simp only [List.getElem?_cons_zero, List.getElem?_cons_succ]))
            | (refine Run.skipsF ?_ ?_; (· simp only [List.getElem?_cons_zero, List.getElem?_cons_succ]))
            | (refine Run.skipsU ?_ ?_; (· simp only [List.getElem?_cons_zero, List.getElem?_cons_succ]))
            | (refine Run.passT ?_ ?_; (· simp only [List.getElem?_cons_zero, List.getElem?_cons_succ]))
            | (refine Run.passF ?_ ?_; (· simp only [List.getElem?_cons_zero, List.getElem?_cons_succ]))
            | (refine Run.passU ?_ ?_; (· simp only [List.getElem?_cons_zero, List.getElem?_cons_succ]))
            | fail); simp only [Act.put, List.setIfInBounds_toArray, List.set_cons_zero, List.set_cons_succ])
          refine Run.runsS (Run.callF 60 (by kernel_rfl) (fun hS => ogetq b g l (q + 8) 8 sz8 Z2 HR2.out HL.out HBY.out) rfl ?_)
          rintro hS e Z3 ⟨rfl, hr, ho⟩
          have HR3 := Lib.hid hr
          have HO3 := Lib.hid (HO2.out.trans ho)
          have HM3 := Lib.hid (HM2.out.only ho NMB.out)
          have HA3 := Lib.hid (HA2.out.only ho NAB.out)
          refine ⟨_, rfl, trivial, fun _ => ⟨fun _ => True, fun _ h => h, trivial, ?_⟩⟩
          clear hS hr ho
          try simp only [Act.put, List.setIfInBounds_toArray, List.set_cons_zero, List.set_cons_succ]
          repeat ((first
            | (refine Run.takes (v := ?_) ?_ ?_; rotate_left; (· intro w' hS'; go_simp; (try with_reducible rfl)))
            | (refine Run.takesG (v := ?_) ?_ ?_ ?_; rotate_left; (· simp only [List.getElem?_cons_zero, List.getElem?_cons_succ]); (· intro w' hS'; go_simp; (try with_reducible rfl)))
            | (refine Run.skipsT ?_ ?_; (· simp only [List.getElem?_cons_zero, List.getElem?_cons_succ]))
            | (refine Run.skipsF ?_ ?_; (· simp only [List.getElem?_cons_zero, List.getElem?_cons_succ]))
            | (refine Run.skipsU ?_ ?_; (· simp only [List.getElem?_cons_zero, List.getElem?_cons_succ]))
            | (refine Run.passT ?_ ?_; (· simp only [List.getElem?_cons_zero, List.getElem?_cons_succ]))
            | (refine Run.passF ?_ ?_; (· simp only [List.getElem?_cons_zero, List.getElem?_cons_succ]))
            | (refine Run.passU ?_ ?_; (· simp only [List.getElem?_cons_zero, List.getElem?_cons_succ]))
            | fail); simp only [Act.put, List.setIfInBounds_toArray, List.set_cons_zero, List.set_cons_succ])
          refine Run.runs (Run.one (fun hS K1 hK1 => ?_))
          refine wp_store_row 26 (.tmp 6) (.tmp 15) rfl gA #[.int .u64 (gq l q 8), .int .u64 (gq l (q + 8) 8), .slice (some ⟨gM, 0, none⟩) a a] rfl rfl 26 _ HA3.out rec_info rfl (by simp [Value.oneCell']) ?_
          refine hK1.out _ _ trivial ?_
          clear hS K1 hK1
          try simp only [Act.put, List.setIfInBounds_toArray, List.set_cons_zero, List.set_cons_succ]
          refine Run.ends (fun _ => ?_)
          have hne : gM ≠ gA := by have := NE.out; omega
          have hgne : g ≠ some gA := fun e => by have := HGK.out gA e; have := NA1.out; have := HOY.out; omega
          have hm := HM3.out.only (Only.rowS Z3 #[.int .u64 (gq l q 8), .int .u64 (gq l (q + 8) 8), .slice (some ⟨gM, 0, none⟩) a a]) hne
          rw [made_u32s] at hm
          exact KEY.out gM gA _ hm (Blk.rowS HA3.out _) (HR3.out.only (Only.rowS Z3 _) (fun e => NAB.out e.symm) hgne) (Only.row_new HO3.out NA1.out _) NM1.out NA1.out hne
    · skip
      as_aux_lemma =>
        refine (Run.one (fun hS K1 hK1 => ?_))
        go_simp
        have hX : Below Z0.heap.size Z0 (Z0.alloc (.cells #[.int .u64 0, .int .u64 0, .slice none 0 0] 26)) := more (Below.refl _ _) _
        have HR1 := Lib.hid (HR0.out.keep hX)
        have HO1 := Lib.hid (HO0.out.trans (Only.of_below (b := b) hX))
        have HA1 := Lib.hid (Blk.new Z0 26 #[.int .u64 0, .int .u64 0, .slice none 0 0])
        have NA1 : Hid (y1.heap.size ≤ Z0.heap.size) := Lib.hid HO0.out.size
        have NAB : Hid (Z0.heap.size ≠ b) := Lib.hid (by have := HR0.out.lt; omega)
        refine hK1.out _ _ trivial (fun _ => ⟨fun _ => True, fun _ h => h, trivial, ?_⟩)
        clear hS K1 hK1 hX
        generalize Z0.alloc (.cells #[.int .u64 0, .int .u64 0, .slice none 0 0] 26) = Z1 at *
        obtain ⟨gA, hgA⟩ : ∃ x, x = Z0.heap.size := ⟨_, rfl⟩
        rw [← hgA] at HA1 NA1 NAB ⊢
        clear hgA
        try simp only [Act.put, List.setIfInBounds_toArray, List.set_cons_zero, List.set_cons_succ]
        unfold Run.First
        refine ⟨?_, ?_⟩
        · skip
          refine (Run.callF 60 (by kernel_rfl) (fun hS => ogetq b g l (q + 8) 8 sz8 Z1 HR1.out HL.out HBY.out) rfl ?_)
          rintro hS e Z2 ⟨rfl, hr, ho⟩
          have HR2 := Lib.hid hr
          have HO2 := Lib.hid (HO1.out.trans ho)
          have HA2 := Lib.hid (HA1.out.only ho NAB.out)
          refine ⟨_, rfl, trivial, fun _ => ⟨fun _ => True, fun _ h => h, trivial, ?_⟩⟩
          clear hS hr ho
          try simp only [Act.put, List.setIfInBounds_toArray, List.set_cons_zero, List.set_cons_succ]
          repeat ((first
            | (refine Run.takes (v := ?_) ?_ ?_; rotate_left; (· intro w' hS'; go_simp; (try with_reducible rfl)))
            | (refine Run.takesG (v := ?_) ?_ ?_ ?_; rotate_left; (· simp only [List.getElem?_cons_zero, List.getElem?_cons_succ]); (· intro w' hS'; go_simp; (try with_reducible rfl)))
            | (refine Run.skipsT ?_ ?_; (· simp only [List.getElem?_cons_zero, List.getElem?_cons_succ]))
            | (refine Run.skipsF ?_ ?_; (· simp only [List.getElem?_cons_zero, List.getElem?_cons_succ]))
            | (refine Run.skipsU ?_ ?_; (· simp only [List.getElem?_cons_zero, List.getElem?_cons_succ]))
            | (refine Run.passT ?_ ?_; (· simp only [List.getElem?_cons_zero, List.getElem?_cons_succ]))
            | (refine Run.passF ?_ ?_; (· simp only [List.getElem?_cons_zero, List.getElem?_cons_succ]))
            | (refine Run.passU ?_ ?_; (· simp only [List.getElem?_cons_zero, List.getElem?_cons_succ]))
            | fail); simp only [Act.put, List.setIfInBounds_toArray, List.set_cons_zero, List.set_cons_succ])
          refine Run.runsS (Run.one (fun hS K1 hK1 => ?_))
          go_simp
          have hX : Below Z2.heap.size Z2 (Z2.alloc (.cells (madeCells #[.int .u32 0] a) 22)) := more (Below.refl _ _) _
          have HR3 := Lib.hid (HR2.out.keep hX)
          have HO3 := Lib.hid (HO2.out.trans (Only.of_below (b := b) hX))
          have HM3 := Lib.hid (Blk.new Z2 22 (madeCells #[.int .u32 0] a))
          have NM1 : Hid (y1.heap.size ≤ Z2.heap.size) := Lib.hid HO2.out.size
          have NMB : Hid (Z2.heap.size ≠ b) := Lib.hid (by have := HR2.out.lt; omega)
          have HA3 := Lib.hid (HA2.out.keep hX)
          have NE : Hid (gA < Z2.heap.size) := Lib.hid HA2.out.lt
          refine hK1.out _ _ trivial (fun _ => ⟨fun _ => True, fun _ h => h, trivial, ?_⟩)
          clear hS K1 hK1 hX
          generalize Z2.alloc (.cells (madeCells #[.int .u32 0] a) 22) = Z3 at *
          obtain ⟨gM, hgM⟩ : ∃ x, x = Z2.heap.size := ⟨_, rfl⟩
          rw [← hgM] at HM3 NM1 NMB NE ⊢
          clear hgM
          try simp only [Act.put, List.setIfInBounds_toArray, List.set_cons_zero, List.set_cons_succ]
          repeat ((first
            | (refine Run.takes (v := ?_) ?_ ?_; rotate_left; (· intro w' hS'; go_simp; (try with_reducible rfl)))
            | (refine Run.takesG (v := ?_) ?_ ?_ ?_; rotate_left; (· simp only [List.getElem?_cons_zero, List.getElem?_cons_succ]); (· intro w' hS'; go_simp; (try with_reducible rfl)))
            | (refine Run.skipsT ?_ ?_; (· simp only [List.getElem?_cons_zero, List.getElem?_cons_succ]))
            | (refine Run.skipsF ?_ ?_; (· simp only [List.getElem?_cons_zero, List.getElem?_cons_succ]))
            | (refine Run.skipsU ?_ ?_; (· simp only [List.getElem?_cons_zero, List.getElem?_cons_succ]))
            | (refine Run.passT ?_ ?_; (· simp only [List.getElem?_cons_zero, List.getElem?_cons_succ]))
            | (refine Run.passF ?_ ?_; (· simp only [List.getElem?_cons_zero, List.getElem?_cons_succ]))
            | (refine Run.passU ?_ ?_; (· simp only [List.getElem?_cons_zero, List.getElem?_cons_succ]))
            | fail); simp only [Act.put, List.setIfInBounds_toArray, List.set_cons_zero, List.set_cons_succ])
          refine Run.runs (Run.one (fun hS K1 hK1 => ?_))
          refine wp_store_row 26 (.tmp 6) (.tmp 15) rfl gA #[.int .u64 (gq l q 8), .int .u64 (gq l (q + 8) 8), .slice (some ⟨gM, 0, none⟩) a a] rfl rfl 26 _ HA3.out rec_info rfl (by simp [Value.oneCell']) ?_
          refine hK1.out _ _ trivial ?_
          clear hS K1 hK1
          try simp only [Act.put, List.setIfInBounds_toArray, List.set_cons_zero, List.set_cons_succ]
          refine Run.ends (fun _ => ?_)
          have hne : gM ≠ gA := by have := NE.out; omega
          have hgne : g ≠ some gA := fun e => by have := HGK.out gA e; have := NA1.out; have := HOY.out; omega
          have hm := HM3.out.only (Only.rowS Z3 #[.int .u64 (gq l q 8), .int .u64 (gq l (q + 8) 8), .slice (some ⟨gM, 0, none⟩) a a]) hne
          rw [made_u32s] at hm
          exact KEY.out gM gA _ hm (Blk.rowS HA3.out _) (HR3.out.only (Only.rowS Z3 _) (fun e => NAB.out e.symm) hgne) (Only.row_new HO3.out NA1.out _) NM1.out NA1.out hne
        · skip
          refine (Run.one (fun hS K1 hK1 => ?_))
          go_simp
          have hX : Below Z1.heap.size Z1 (Z1.alloc (.cells (madeCells #[.int .u32 0] a) 22)) := more (Below.refl _ _) _
          have HR2 := Lib.hid (HR1.out.keep hX)
          have HO2 := Lib.hid (HO1.out.trans (Only.of_below (b := b) hX))
          have HM2 := Lib.hid (Blk.new Z1 22 (madeCells #[.int .u32 0] a))
          have NM1 : Hid (y1.heap.size ≤ Z1.heap.size) := Lib.hid HO1.out.size
          have NMB : Hid (Z1.heap.size ≠ b) := Lib.hid (by have := HR1.out.lt; omega)
          have HA2 := Lib.hid (HA1.out.keep hX)
          have NE : Hid (gA < Z1.heap.size) := Lib.hid HA1.out.lt
          refine hK1.out _ _ trivial (fun _ => ⟨fun _ => True, fun _ h => h, trivial, ?_⟩)
          clear hS K1 hK1 hX
          generalize Z1.alloc (.cells (madeCells #[.int .u32 0] a) 22) = Z2 at *
          obtain ⟨gM, hgM⟩ : ∃ x, x = Z1.heap.size := ⟨_, rfl⟩
          rw [← hgM] at HM2 NM1 NMB NE ⊢
          clear hgM
          try simp only [Act.put, List.setIfInBounds_toArray, List.set_cons_zero, List.set_cons_succ]
          repeat ((first
            | (refine Run.takes (v := ?_) ?_ ?_; rotate_left; (· intro w' hS'; go_simp; (try with_reducible rfl)))
            | (refine Run.takesG (v := ?_) ?_ ?_ ?_; rotate_left; (· simp only [List.getElem?_cons_zero, List.getElem?_cons_succ]); (· intro w' hS'; go_simp; (try with_reducible rfl)))
            | (refine Run.skipsT ?_ ?_; (· simp only [List.getElem?_cons_zero, List.getElem?_cons_succ]))
            | (refine Run.skipsF ?_ ?_; (· simp only [List.getElem?_cons_zero, List.getElem?_cons_succ]))
            | (refine Run.skipsU ?_ ?_; (· simp only [List.getElem?_cons_zero, List.getElem?_cons_succ]))
            | (refine Run.passT ?_ ?_; (· simp only [List.getElem?_cons_zero, List.getElem?_cons_succ]))
            | (refine Run.passF ?_ ?_; (· simp only [List.getElem?_cons_zero, List.getElem?_cons_succ]))
            | (refine Run.passU ?_ ?_; (· simp only [List.getElem?_cons_zero, List.getElem?_cons_succ]))
            | fail); simp only [Act.put, List.setIfInBounds_toArray, List.set_cons_zero, List.set_cons_succ])
          refine Run.runsS (Run.callF 60 (by kernel_rfl) (fun hS => ogetq b g l (q + 8) 8 sz8 Z2 HR2.out HL.out HBY.out) rfl ?_)
          rintro hS e Z3 ⟨rfl, hr, ho⟩
          have HR3 := Lib.hid hr
          have HO3 := Lib.hid (HO2.out.trans ho)
          have HM3 := Lib.hid (HM2.out.only ho NMB.out)
          have HA3 := Lib.hid (HA2.out.only ho NAB.out)
          refine ⟨_, rfl, trivial, fun _ => ⟨fun _ => True, fun _ h => h, trivial, ?_⟩⟩
          clear hS hr ho
          try simp only [Act.put, List.setIfInBounds_toArray, List.set_cons_zero, List.set_cons_succ]
          repeat ((first
            | (refine Run.takes (v := ?_) ?_ ?_; rotate_left; (· intro w' hS'; go_simp; (try with_reducible rfl)))
            | (refine Run.takesG (v := ?_) ?_ ?_ ?_; rotate_left; (· simp only [List.getElem?_cons_zero, List.getElem?_cons_succ]); (· intro w' hS'; go_simp; (try with_reducible rfl)))
            | (refine Run.skipsT ?_ ?_; (· simp only [List.getElem?_cons_zero, List.getElem?_cons_succ]))
            | (refine Run.skipsF ?_ ?_; (· simp only [List.getElem?_cons_zero, List.getElem?_cons_succ]))
            | (refine Run.skipsU ?_ ?_; (· simp only [List.getElem?_cons_zero, List.getElem?_cons_succ]))
            | (refine Run.passT ?_ ?_; (· simp only [List.getElem?_cons_zero, List.getElem?_cons_succ]))
            | (refine Run.passF ?_ ?_; (· simp only [List.getElem?_cons_zero, List.getElem?_cons_succ]))
            | (refine Run.passU ?_ ?_; (· simp only [List.getElem?_cons_zero, List.getElem?_cons_succ]))
            | fail); simp only [Act.put, List.setIfInBounds_toArray, List.set_cons_zero, List.set_cons_succ])
          refine Run.runs (Run.one (fun hS K1 hK1 => ?_))
          refine wp_store_row 26 (.tmp 6) (.tmp 15) rfl gA #[.int .u64 (gq l q 8), .int .u64 (gq l (q + 8) 8), .slice (some ⟨gM, 0, none⟩) a a] rfl rfl 26 _ HA3.out rec_info rfl (by simp [Value.oneCell']) ?_
          refine hK1.out _ _ trivial ?_
          clear hS K1 hK1
          try simp only [Act.put, List.setIfInBounds_toArray, List.set_cons_zero, List.set_cons_succ]
          refine Run.ends (fun _ => ?_)
          have hne : gM ≠ gA := by have := NE.out; omega
          have hgne : g ≠ some gA := fun e => by have := HGK.out gA e; have := NA1.out; have := HOY.out; omega
          have hm := HM3.out.only (Only.rowS Z3 #[.int .u64 (gq l q 8), .int .u64 (gq l (q + 8) 8), .slice (some ⟨gM, 0, none⟩) a a]) hne
          rw [made_u32s] at hm
          exact KEY.out gM gA _ hm (Blk.rowS HA3.out _) (HR3.out.only (Only.rowS Z3 _) (fun e => NAB.out e.symm) hgne) (Only.row_new HO3.out NA1.out _) NM1.out NA1.out hne
end Go.Proofs.Ythhelhhlofdehaa
