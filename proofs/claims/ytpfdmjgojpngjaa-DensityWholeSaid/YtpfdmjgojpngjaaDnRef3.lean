/- The document's answers for package density (petasosref14): Sum, Count. -/
import Derived.Test.YtpfdmjgojpngjaaDnRef2
import Derived.Test.YtpfdmjgojpngjaaDnPlans
import Derived.Test.YtpfdmjgojpngjaaVec
set_option maxRecDepth 4000
namespace Go.Proofs.Ytpfdmjgojpngjaa
open Go.RowKit Mem Cir
set_option linter.unusedSimpArgs false
set_option linter.unusedVariables false
attribute [local irreducible] Go.Calls

/-- densities, one behind the other -/
abbrev Den := {l : List Int // l.length = 16}
abbrev denE : Enc Den := vecE 16 .u32
theorem den_cells (x : Den) : denE.cells x = dcs x.1 := rfl
def vals (L : List Den) : List (List Int) := L.map (·.1)
theorem sumD_step {L : List Den} {i : Nat} (h : i < L.length) : sumD (vals (L.take (i + 1))) = sumD2 (sumD (vals (L.take i))) (L[i]).1 := by
  unfold sumD vals
  rw [List.take_add_one, List.getElem?_eq_getElem h, List.map_append, List.foldl_append]
  simp only [Option.toList_some, List.map_cons, List.map_nil, List.foldl_cons, List.foldl_nil]
/-- a slice of densities: where a number of one lies -/
theorem den_at {w : World} {v : Value} {L : List Den} (h : Rd denE w v L) :
    ∃ a g off c, v = .slice a L.length c ∧ L.length ≤ c ∧ c ≤ maxLen ∧ (0 < L.length → a = some ⟨g, off, none⟩) ∧ ∀ (i : Nat) (hi : i < L.length) (k : Nat), k < 16 → w.cell? ⟨g, off + i * 16 + k, none⟩ = some (.int .u32 ((L[i]).1.getD k 0)) := by
  by_cases hl : 0 < L.length
  · obtain ⟨g, off, c, hv, h1, h2, hc⟩ := Rd.cells (E := vecE 16 .u32) h hl
    have key : ∀ (i : Nat) (hi : i < L.length) (k : Nat), k < 16 → w.cell? ⟨g, off + i * 16 + k, none⟩ = some (.int .u32 ((L[i]).1.getD k 0)) := by
      intro i hi k hk
      have h3 : w.cell? ⟨g, off + (i * 16 + k), none⟩ = (dcs (L[i]).1)[k]? := hc i hi k hk
      have h4 := dcs_at (L[i]).1 (k := k) (by rw [(L[i]).2]; exact hk)
      rw [List.getElem?_toArray] at h4
      rw [Nat.add_assoc, h3, h4]
    exact ⟨_, g, off, c, hv, h1, h2, fun _ => rfl, key⟩
  · obtain ⟨a, c, hv, h1, h2⟩ := h.form
    exact ⟨a, 0, 0, c, hv, h1, h2, fun h => absurd h hl, fun i hi => absurd hi (by omega)⟩
set_option maxHeartbeats 4000000 in
theorem rsum_any (v : Value) (L : List Den) (w : World) (h : Rd denE w v L) (hb : ∀ x ∈ L, okD x.1) (hL : L.length ≤ 1000000) : Calls Try.prog 18 #[v] w fun e w' => e = .returned (.agg (dcs (sumD (vals L))).toArray) ∧ Below w.heap.size w w' := by
  obtain ⟨a, gl, ol, c, rfl, _, hc2, hga, hcs⟩ := den_at h
  have hc2' : c ≤ 9223372036854775807 := hc2
  have HCS := Lib.hid hcs
  have HGA := Lib.hid hga
  have HOK := Lib.hid hb
  have HRO := Lib.hid (okD.sum (vals L))
  clear h hcs hga hb
  obtain ⟨RES, hRES⟩ : ∃ x, x = sumD (vals L) := ⟨_, rfl⟩
  rw [← hRES] at HRO ⊢
  have HRES := Lib.hid hRES
  have HRL : Hid (RES.length = 16) := Lib.hid HRO.out.1
  clear hRES
  go_enter Try.func18, Try.ntmps18
  go_upto_region 2 with fail
  obtain ⟨W, hW⟩ : ∃ W, W = (w.alloc (.cells (dcs zeroD).toArray 24)).alloc (.cells (dcs zeroD).toArray 24) := ⟨_, rfl⟩
  have HK : Hid (Below w.heap.size w W) := Lib.hid (hW ▸ more (more (Below.refl _ _) _) _)
  have HR : Hid (Blk W w.heap.size 24 (dcs zeroD).toArray) := Lib.hid (by rw [hW]; exact (Blk.new w _ _).keep (more (Below.refl _ _) _))
  have HG : Hid (Blk W (w.heap.size + 1) 24 (dcs zeroD).toArray) := Lib.hid (by rw [hW]; exact Blk.newAt _ _ _ (by rw [size_alloc]))
  have hW' := hW
  simp only [dcs, zeroD, List.replicate, List.map_cons, List.map_nil] at hW'
  rw [← hW']
  obtain ⟨r, hr⟩ : ∃ r, r = w.heap.size := ⟨_, rfl⟩
  obtain ⟨g, hg⟩ : ∃ g, g = w.heap.size + 1 := ⟨_, rfl⟩
  have HE : Hid (r = w.heap.size ∧ g = w.heap.size + 1) := Lib.hid ⟨hr, hg⟩
  rw [← hg] at HG ⊢
  rw [← hr] at HR ⊢
  clear hW hW' hg hr
  go_wp2_with fail
  go_loopw [4] (fun iv wr => ∃ i : Nat, i ≤ L.length ∧ iv = .int .i64 i ∧ Blk wr g 24 (dcs (sumD (vals (L.take i)))).toArray ∧ Blk wr r 24 (dcs zeroD).toArray ∧ Below w.heap.size w wr) (fun iv _ => L.length - (intOf iv).toNat)
  case atStart => exact ⟨0, by omega, rfl, HG.out, HR.out, HK.out⟩
  case round =>
    obtain ⟨i, hi, rfl, hg, hr, hb⟩ := hrel
    have HG1 := Lib.hid hg
    have HR1 := Lib.hid hr
    have HB1 := Lib.hid hb
    obtain ⟨wo, hwo⟩ : ∃ z, z = wr := ⟨_, rfl⟩
    subst hwo
    clear hg hr hb
    by_cases hlt : i < L.length
    · have hil : (i : Int) < (L.length : Int) := by omega
      obtain rfl := HGA.out (by omega)
      have HST := Lib.hid (sumD_step hlt)
      have HD := Lib.hid (okD.sum (vals (L.take i)))
      have HX := Lib.hid (HOK.out L[i] (List.getElem_mem hlt))
      have HCI := Lib.hid (HCS.out i hlt)
      obtain ⟨D, hD⟩ : ∃ x, x = sumD (vals (L.take i)) := ⟨_, rfl⟩
      obtain ⟨X, hX⟩ : ∃ x, x = (L[i]).1 := ⟨_, rfl⟩
      rw [← hD] at HG1 HST HD
      rw [← hX] at HST HX HCI
      clear hD hX
      go_upto_region 6 with fail
      go_loopw [5] (fun kv wr => ∃ k : Nat, k ≤ 16 ∧ kv = .int .i64 k ∧ Blk wr g 24 (dcs (sumT D X k)).toArray ∧ Blk wr r 24 (dcs zeroD).toArray ∧ Below w.heap.size w wr) (fun kv _ => 16 - (intOf kv).toNat)
      case atStart => exact ⟨0, by omega, rfl, HG1.out, HR1.out, HB1.out⟩
      case round =>
        obtain ⟨k, hk, rfl, hg, hr, hb⟩ := hrel
        have HG2 := Lib.hid hg
        have HR2 := Lib.hid hr
        have HB2 := Lib.hid hb
        obtain ⟨wi, hwi⟩ : ∃ z, z = wr := ⟨_, rfl⟩
        subst hwi
        clear hg hr hb
        by_cases hltk : k < 16
        · have hkl : (k : Int) < 16 := by omega
          have HT := Lib.hid (HD.out.sumT (b := X) k)
          have d0 : wi.cell? ⟨g, k, none⟩ = some (.int .u32 ((sumT D X k).getD k 0)) := by rw [HG2.out.cell]; exact dcs_at _ (by rw [HT.out.1]; exact hltk)
          have d1 : wi.cell? ⟨gl, ol + i * 16 + k, none⟩ = some (.int .u32 (X.getD k 0)) := by have := HCI.out k hltk; exact (HB2.out.cell (World.block_lt_of_cell? w _ this)).trans this
          have HX0 := Lib.hid (HT.out.at k)
          have HY0 := Lib.hid (HX.out.at k)
          have HNX : Hid (sumT D X (k + 1) = (sumT D X k).set k (heldV ((sumT D X k).getD k 0 + X.getD k 0))) := Lib.hid rfl
          obtain ⟨x, hx⟩ : ∃ x, x = (sumT D X k).getD k 0 := ⟨_, rfl⟩
          obtain ⟨y, hy⟩ : ∃ y, y = X.getD k 0 := ⟨_, rfl⟩
          rw [← hx] at d0 HX0 HNX
          rw [← hy] at d1 HY0 HNX
          have hxw : IntKind.i64.wrap x = x := by rw [IntWalk.i64_in _ (by have := HX0.out; omega)]
          have hyw : IntKind.i64.wrap y = y := by rw [IntWalk.i64_in _ (by have := HY0.out; omega)]
          have hsw : IntKind.i64.wrap (x + y) = x + y := by rw [IntWalk.i64_in _ (by have := HX0.out; have := HY0.out; omega)]
          obtain ⟨q, hq⟩ : ∃ q, q = heldV (x + y) := ⟨_, rfl⟩
          have HH : Hid (∀ z, Calls Try.prog 25 #[.int .i64 (x + y)] z fun e w' => e = .returned (.int .u32 q) ∧ Below z.heap.size z w') := Lib.hid (fun z => by rw [hq]; exact rheld_any _ z)
          rw [← hq] at HNX
          clear hx hy hq
          go_upto_region 8 with fail
          refine Run.region_walkZ (S := fun z => z.cell? ⟨g, k, none⟩ = some (.int .u32 x) ∧ z.cell? ⟨gl, ol + i * 16 + k, none⟩ = some (.int .u32 y) ∧ Below wi.heap.size wi z)
            rdsum.rows6 rdsum.plan6z 15 _ (l := ?steps1) (by kernel_rfl) (by kernel_rfl) (by kernel_rfl) (by kernel_rfl) rfl rfl ?written1 ⟨d0, d1, (Below.refl _ _).drew⟩ ?onward1
          case written1 =>
            simp only [rdsum.plan6z, Run.stepsOf, Run.stepOf, Run.guardOf, List.getElem?_toArray, List.getElem?_cons_zero, List.getElem?_cons_succ, Option.map_some, Option.map_none, Option.bind_some, Option.toList_some, List.map_cons, List.map_nil, List.cons_append, List.nil_append, List.append_eq]
            rfl
          repeat ((first
            | (refine Run.takes (v := ?_) ?_ ?_; rotate_left; (· intro w' hS'; go_simp; (try with_reducible rfl)))
            | (refine Run.takesG (v := ?_) ?_ ?_ ?_; rotate_left; (· simp only [List.getElem?_cons_zero, List.getElem?_cons_succ]); (· intro w' hS'; go_simp; (try with_reducible rfl)))
            | (refine Run.skipsT ?_ ?_; (· simp only [List.getElem?_cons_zero, List.getElem?_cons_succ]))
            | (refine Run.skipsF ?_ ?_; (· simp only [List.getElem?_cons_zero, List.getElem?_cons_succ]))
            | (refine Run.skipsU ?_ ?_; (· simp only [List.getElem?_cons_zero, List.getElem?_cons_succ]))
            | (refine Run.passT ?_ ?_; (· simp only [List.getElem?_cons_zero, List.getElem?_cons_succ]))
            | (refine Run.passF ?_ ?_; (· simp only [List.getElem?_cons_zero, List.getElem?_cons_succ]))
            | (refine Run.passU ?_ ?_; (· simp only [List.getElem?_cons_zero, List.getElem?_cons_succ]))
            | (refine Run.runs ?_
               (first
               | (refine Run.callF 25 (by kernel_rfl) (fun hS => HH.out _) rfl ?_)
               | (refine Run.callG 25 (by kernel_rfl) ?_ (fun hS => HH.out _) rfl ?_; (· simp only [List.getElem?_cons_zero, List.getElem?_cons_succ]))
               | fail)
               (first
               | (rintro hS e w' ⟨rfl, rfl⟩; refine ⟨_, rfl, hS, ?_⟩)
               | (rintro hS e w' ⟨rfl, hb⟩; refine ⟨_, rfl, ⟨kc hb hS.1, kc hb hS.2.1, nest hS.2.2 hb⟩, ?_⟩)
               | fail))
            | fail); simp only [Act.put, List.setIfInBounds_toArray, List.set_cons_zero, List.set_cons_succ])
          refine Run.endsZ (fun hS K hK => ?_)
          have hc0 := hS.1
          have HGZ := Lib.hid (HG2.out.keep hS.2.2)
          have hfz : w'.frozen? ⟨g, k, none⟩ = false := HGZ.out.frozen k
          have HRZ := Lib.hid (HR2.out.keep hS.2.2)
          have HBZ := Lib.hid (nest HB2.out hS.2.2)
          clear hS d0 d1
          go_simp
          refine hK.out _ _ (NoPanic.normal ?_)
          clear hK K hc0 hfz
          have HG3 : Hid (Blk (w'.setCell ⟨g, k, none⟩ (.int .u32 q)) g 24 (dcs (sumT D X (k + 1))).toArray) := Lib.hid (by rw [HNX.out, ← dcs_set]; exact HGZ.out.set_ k _)
          have HR3 : Hid (Blk (w'.setCell ⟨g, k, none⟩ (.int .u32 q)) r 24 (dcs zeroD).toArray) := Lib.hid (HRZ.out.only (Only.set _ k _) (by have := HE.out; omega))
          have HB3 : Hid (Below w.heap.size w (w'.setCell ⟨g, k, none⟩ (.int .u32 q))) := Lib.hid (HBZ.out.trans ((Only.set _ k _).below (by have := HE.out; omega) HBZ.out.size))
          clear HGZ HRZ HBZ
          generalize w'.setCell ⟨g, k, none⟩ (.int .u32 q) = z3 at *
          go_wp2_with fail
          exact ⟨⟨k + 1, by omega, by go_num, HG3.out, HR3.out, HB3.out⟩, by simp [intOf]; omega⟩
        · have hkl : k = 16 := by omega
          subst hkl
          have HG3 : Hid (Blk wi g 24 (dcs (sumD (vals (L.take (i + 1))))).toArray) := Lib.hid (by rw [HST.out]; exact HG2.out)
          go_wp2_with fail
          exact ⟨⟨i + 1, by omega, by go_num, HG3.out, HR2.out, HB2.out⟩, by simp [intOf]; omega⟩
    · have hil : i = L.length := by omega
      subst hil
      have HG3 : Hid (Blk wo g 24 (dcs RES).toArray) := Lib.hid (by have := HG1.out; rwa [List.take_length, ← HRES.out] at this)
      go_wp2_with (first | (refine at_load 3 rfl ?_; refine wpList_load_row rfl 24 (.tmp 3) rfl g rfl 24 _ (0, 0) _ HG3.out Try.underlying24 rfl (den_info _ HRL.out) ?_) | (refine at_store 2 rfl ?_; refine wpList_store_row rfl 24 (.tmp 2) (.tmp 31) rfl r _ rfl rfl 24 _ HR1.out (den_info _ HRL.out) (by rw [List.size_toArray, List.size_toArray, dcs_len, dcs_len, HRL.out]; rfl) (dcs_one _) ?_))
      refine bodyPost_ret (results_cell_row rfl _ _ r 24 _ (0, 0) _ rfl (Blk.rowS HR1.out _) Try.underlying24 rfl (den_info _ HRL.out)) rfl ?_
      exact ⟨rfl, HB1.out.trans ((Only.rowS wo _).below (by have := HE.out; omega) HB1.out.size)⟩
/-- one more is counted, unless it is gone -/
def cntS (d : List Int) (y : Ent) : List Int := if y.2.2 then d else addD d y.1 1
def countD (l : List Ent) : List Int := l.foldl cntS zeroD
theorem okD.cnt {d : List Int} (h : okD d) (y : Ent) : okD (cntS d y) := by
  unfold cntS
  split
  · exact h
  · exact h.add _ _
theorem okD.cntl : ∀ (l : List Ent) {d : List Int}, okD d → okD (l.foldl cntS d)
  | [], _, h => h
  | y :: l, _, h => okD.cntl l (h.cnt y)
theorem okD.count (l : List Ent) : okD (countD l) := okD.cntl l okD_zero
theorem count_step {l : List Ent} {i : Nat} (h : i < l.length) : countD (l.take (i + 1)) = cntS (countD (l.take i)) (l.getD i e0) := by
  unfold countD
  rw [List.take_add_one, List.getElem?_eq_getElem h, List.foldl_append]
  simp only [Option.toList_some, List.foldl_cons, List.foldl_nil, List.getD, List.getElem?_eq_getElem h, Option.getD_some]
theorem den_i : (Try.prog.info? 24).map (·.size) = some 16 := by kernel_rfl
set_option maxHeartbeats 4000000 in
theorem rcount_any (v : Value) (l : List Ent) (Q : Nat → Prop) (w : World) (h : EntsIn Q w v l) (hb : ∀ y ∈ l, entB y) : Calls Try.prog 16 #[v] w fun e w' => e = .returned (.agg (dcs (countD l)).toArray) ∧ Below w.heap.size w w' := by
  obtain ⟨a, gl, ol, c, rfl, _, hc2, hga, hcs⟩ := h.at
  have hc2' : c ≤ 9223372036854775807 := hc2
  have HCS := Lib.hid hcs
  have HGA := Lib.hid hga
  have HOK := Lib.hid hb
  have HRO := Lib.hid (okD.count l)
  clear h hcs hga hb
  obtain ⟨RES, hRES⟩ : ∃ x, x = countD l := ⟨_, rfl⟩
  rw [← hRES] at HRO ⊢
  have HRES := Lib.hid hRES
  have HRL : Hid (RES.length = 16) := Lib.hid HRO.out.1
  clear hRES
  go_enter Try.func16, Try.ntmps16
  go_upto_region 2 with fail
  obtain ⟨W, hW⟩ : ∃ W, W = (w.alloc (.cells (dcs zeroD).toArray 24)).alloc (.cells (dcs zeroD).toArray 24) := ⟨_, rfl⟩
  have HK : Hid (Below w.heap.size w W) := Lib.hid (hW ▸ more (more (Below.refl _ _) _) _)
  have HR : Hid (Blk W w.heap.size 24 (dcs zeroD).toArray) := Lib.hid (by rw [hW]; exact (Blk.new w _ _).keep (more (Below.refl _ _) _))
  have HG : Hid (Blk W (w.heap.size + 1) 24 (dcs zeroD).toArray) := Lib.hid (by rw [hW]; exact Blk.newAt _ _ _ (by rw [size_alloc]))
  have hW' := hW
  simp only [dcs, zeroD, List.replicate, List.map_cons, List.map_nil] at hW'
  rw [← hW']
  obtain ⟨r, hr⟩ : ∃ r, r = w.heap.size := ⟨_, rfl⟩
  obtain ⟨g, hg⟩ : ∃ g, g = w.heap.size + 1 := ⟨_, rfl⟩
  have HE : Hid (r = w.heap.size ∧ g = w.heap.size + 1) := Lib.hid ⟨hr, hg⟩
  rw [← hg] at HG ⊢
  rw [← hr] at HR ⊢
  clear hW hW' hg hr
  go_wp2_with fail
  go_loopw [4] (fun iv wr => ∃ i : Nat, i ≤ l.length ∧ iv = .int .i64 i ∧ Blk wr g 24 (dcs (countD (l.take i))).toArray ∧ Blk wr r 24 (dcs zeroD).toArray ∧ Below w.heap.size w wr) (fun iv _ => l.length - (intOf iv).toNat)
  case atStart => exact ⟨0, by omega, rfl, HG.out, HR.out, HK.out⟩
  case round =>
    obtain ⟨i, hi, rfl, hg, hr, hb⟩ := hrel
    have HG1 := Lib.hid hg
    have HR1 := Lib.hid hr
    have HB1 := Lib.hid hb
    obtain ⟨wo, hwo⟩ : ∃ z, z = wr := ⟨_, rfl⟩
    subst hwo
    clear hg hr hb
    by_cases hlt : i < l.length
    · have hil : (i : Int) < (l.length : Int) := by omega
      obtain ⟨rfl, _, hgl⟩ := HGA.out (by omega)
      obtain ⟨x, k0, _, _, _, k4, _, _⟩ := HCS.out i hlt
      have d0 := (HB1.out.cell (p := ⟨gl, ol + i * 5, none⟩) hgl).trans k0
      have d4 := (HB1.out.cell (p := ⟨gl, ol + i * 5 + 4, none⟩) hgl).trans k4
      have HST := Lib.hid (count_step hlt)
      have HD := Lib.hid (okD.count (l.take i))
      have HBY : Hid (0 ≤ (l.getD i e0).1 ∧ (l.getD i e0).1 ≤ 4294967295) := Lib.hid (HOK.out _ (by rw [show l.getD i e0 = l[i] by simp [List.getD, hlt]]; exact List.getElem_mem hlt)).1
      obtain ⟨D, hD⟩ : ∃ x, x = countD (l.take i) := ⟨_, rfl⟩
      rw [← hD] at HG1 HST HD
      obtain ⟨⟨q, qr, qg⟩, hq⟩ : ∃ y, y = l.getD i e0 := ⟨_, rfl⟩
      rw [← hq] at d0 d4 HST HBY
      dsimp only at d0 d4 HBY
      clear hD hq k0 k4 hgl
      cases qg with
      | true =>
        have HG3 : Hid (Blk wo g 24 (dcs (countD (l.take (i + 1)))).toArray) := Lib.hid (by rw [HST.out]; exact HG1.out)
        go_wp2_with fail
        exact ⟨⟨i + 1, by omega, by go_num, HG3.out, HR1.out, HB1.out⟩, by simp [intOf]; omega⟩
      | false =>
        have HA : Hid (∀ z, Calls Try.prog 12 #[.agg (dcs D).toArray, .int .u32 q, .int .i64 1] z fun e w' => e = .returned (.agg (dcs (addD D q 1)).toArray) ∧ Below z.heap.size z w') := Lib.hid (fun z => radd_any D q 1 HD.out HBY.out z)
        have HST2 : Hid (countD (l.take (i + 1)) = addD D q 1) := Lib.hid (by rw [HST.out]; rfl)
        have HA1 := Lib.hid (HD.out.add q 1).1
        obtain ⟨A, hA⟩ : ∃ x, x = addD D q 1 := ⟨_, rfl⟩
        rw [← hA] at HA HST2 HA1
        have HDL : Hid (D.length = 16) := Lib.hid HD.out.1
        clear hA
        go_upto_region 6 with fail
        refine Run.region_walkZ (S := fun z => z.cell? ⟨gl, ol + i * 5, none⟩ = some (.int .u32 q) ∧ Blk z g 24 (dcs D).toArray ∧ Below wo.heap.size wo z)
          rdcount.rows5 rdcount.plan5z 7 _ (l := ?steps2) (by kernel_rfl) (by kernel_rfl) (by kernel_rfl) (by kernel_rfl) rfl rfl ?written2 ⟨d0, HG1.out.keep (Below.refl _ _).drew, (Below.refl _ _).drew⟩ ?onward2
        case written2 =>
          simp only [rdcount.plan5z, Run.stepsOf, Run.stepOf, Run.guardOf, List.getElem?_toArray, List.getElem?_cons_zero, List.getElem?_cons_succ, Option.map_some, Option.map_none, Option.bind_some, Option.toList_some, List.map_cons, List.map_nil, List.cons_append, List.nil_append, List.append_eq]
          rfl
        repeat ((first
          | (refine Run.takes (v := ?_) ?_ ?_; rotate_left; (· intro w' hS'; (first | (refine exec_load_arr (n := 16) (x := .tmp 3) (l := dcs D) ?_ Try.underlying24 den_i (by rw [dcs_len]; exact HDL.out) ?_ hS'.2.1 <;> rfl) | (go_simp; (try with_reducible rfl)))))
          | (refine Run.takesG (v := ?_) ?_ ?_ ?_; rotate_left; (· simp only [List.getElem?_cons_zero, List.getElem?_cons_succ]); (· intro w' hS'; (first | (refine exec_load_arr (n := 16) (x := .tmp 3) (l := dcs D) ?_ Try.underlying24 den_i (by rw [dcs_len]; exact HDL.out) ?_ hS'.2.1 <;> rfl) | (go_simp; (try with_reducible rfl)))))
          | (refine Run.skipsT ?_ ?_; (· simp only [List.getElem?_cons_zero, List.getElem?_cons_succ]))
          | (refine Run.skipsF ?_ ?_; (· simp only [List.getElem?_cons_zero, List.getElem?_cons_succ]))
          | (refine Run.skipsU ?_ ?_; (· simp only [List.getElem?_cons_zero, List.getElem?_cons_succ]))
          | (refine Run.passT ?_ ?_; (· simp only [List.getElem?_cons_zero, List.getElem?_cons_succ]))
          | (refine Run.passF ?_ ?_; (· simp only [List.getElem?_cons_zero, List.getElem?_cons_succ]))
          | (refine Run.passU ?_ ?_; (· simp only [List.getElem?_cons_zero, List.getElem?_cons_succ]))
          | (refine Run.runs ?_
             (first
             | (refine Run.callF 12 (by kernel_rfl) (fun hS => HA.out _) rfl ?_)
             | (refine Run.callG 12 (by kernel_rfl) ?_ (fun hS => HA.out _) rfl ?_; (· simp only [List.getElem?_cons_zero, List.getElem?_cons_succ]))
             | fail)
             (first
             | (rintro hS e w' ⟨rfl, rfl⟩; refine ⟨_, rfl, hS, ?_⟩)
             | (rintro hS e w' ⟨rfl, hb⟩; refine ⟨_, rfl, ⟨kc hb hS.1, hS.2.1.keep hb, nest hS.2.2 hb⟩, ?_⟩)
             | fail))
          | fail); simp only [Act.put, List.setIfInBounds_toArray, List.set_cons_zero, List.set_cons_succ])
        refine Run.endsZ (fun hS K hK => ?_)
        have HGZ := Lib.hid hS.2.1
        have HRZ := Lib.hid (HR1.out.keep hS.2.2)
        have HBZ := Lib.hid (nest HB1.out hS.2.2)
        clear hS d0 d4
        refine wp_store_row 24 (.tmp 3) (.tmp 23) rfl g _ rfl rfl 24 _ HGZ.out (den_info _ HA1.out) (by rw [List.size_toArray, List.size_toArray, dcs_len, dcs_len, HDL.out, HA1.out]) (dcs_one _) ?_
        refine hK.out _ _ (NoPanic.normal ?_)
        clear hK K
        have HG3 : Hid (Blk (w'.setRow g (dcs A).toArray) g 24 (dcs (countD (l.take (i + 1)))).toArray) := Lib.hid (by rw [HST2.out]; exact Blk.rowS HGZ.out _)
        have HR3 : Hid (Blk (w'.setRow g (dcs A).toArray) r 24 (dcs zeroD).toArray) := Lib.hid (HRZ.out.only (Only.rowS _ _) (by have := HE.out; omega))
        have HB3 : Hid (Below w.heap.size w (w'.setRow g (dcs A).toArray)) := Lib.hid (HBZ.out.trans ((Only.rowS _ _).below (by have := HE.out; omega) HBZ.out.size))
        clear HGZ HRZ HBZ
        generalize w'.setRow g (dcs A).toArray = z3 at *
        go_wp2_with fail
        exact ⟨⟨i + 1, by omega, by go_num, HG3.out, HR3.out, HB3.out⟩, by simp [intOf]; omega⟩
    · have hil : i = l.length := by omega
      subst hil
      have HG3 : Hid (Blk wo g 24 (dcs RES).toArray) := Lib.hid (by have := HG1.out; rwa [List.take_length, ← HRES.out] at this)
      go_wp2_with (first | (refine at_load 3 rfl ?_; refine wpList_load_row rfl 24 (.tmp 3) rfl g rfl 24 _ (0, 0) _ HG3.out Try.underlying24 rfl (den_info _ HRL.out) ?_) | (refine at_store 2 rfl ?_; refine wpList_store_row rfl 24 (.tmp 2) (.tmp 24) rfl r _ rfl rfl 24 _ HR1.out (den_info _ HRL.out) (by rw [List.size_toArray, List.size_toArray, dcs_len, dcs_len, HRL.out]; rfl) (dcs_one _) ?_))
      refine bodyPost_ret (results_cell_row rfl _ _ r 24 _ (0, 0) _ rfl (Blk.rowS HR1.out _) Try.underlying24 rfl (den_info _ HRL.out)) rfl ?_
      exact ⟨rfl, HB1.out.trans ((Only.rowS wo _).below (by have := HE.out; omega) HB1.out.size)⟩
end Go.Proofs.Ytpfdmjgojpngjaa
