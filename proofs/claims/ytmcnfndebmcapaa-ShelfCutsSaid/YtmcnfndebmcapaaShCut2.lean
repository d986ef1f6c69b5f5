/- Walks of package shelf: Cut. -/
import Derived.Test.YtmcnfndebmcapaaShScan2
import Derived.Test.YtmcnfndebmcapaaShJoin3
import Derived.Test.YtmcnfndebmcapaaShoPlans
set_option maxRecDepth 4000
namespace Go.Proofs.Ytmcnfndebmcapaa
open Go.RowKit Mem
set_option linter.unusedSimpArgs false
set_option linter.unusedVariables false
attribute [local irreducible] Go.Calls

/-- is an entry left, when the first j of M were taken? -/
def cutJ (M : List Ent) (j : Nat) (y : Ent) : Bool := !((M.take j).any fun z => keyP z == keyP y)
theorem cutJ_zero (M L : List Ent) : L.filter (cutJ M 0) = L := by
  rw [List.filter_eq_self]
  intro y _
  simp [cutJ]
theorem cutJ_succ {M : List Ent} {j : Nat} {y : Ent} (hy : M[j]? = some y) (L : List Ent) (z : Ent) : z ∈ L.filter (cutJ M (j + 1)) ↔ (z ∈ L.filter (cutJ M j) ∧ keyP z ≠ keyP y) := by
  have e : M.take (j + 1) = M.take j ++ [y] := by rw [List.take_add_one, hy]; rfl
  rw [List.mem_filter, List.mem_filter]
  unfold cutJ
  rw [e, List.any_append]
  simp only [List.any_cons, List.any_nil, Bool.or_false, Bool.not_or, Bool.and_eq_true, Bool.not_eq_true', beq_eq_false_iff_ne, ne_eq]
  constructor
  · rintro ⟨h1, h2, h3⟩
    exact ⟨⟨h1, h2⟩, fun e => h3 e.symm⟩
  · rintro ⟨⟨h1, h2⟩, h3⟩
    exact ⟨h1, h2, fun e => h3 e.symm⟩
theorem cutJ_all {L : List Ent} (hu : UniqK L) (f t : Int) : L.filter (cutJ (scanL f t L) (scanL f t L).length) = restL f t L := by
  unfold restL
  refine List.filter_congr (fun y hy => ?_)
  unfold cutJ
  rw [List.take_length]
  have hm : ∀ z, z ∈ scanL f t L ↔ z ∈ L ∧ hasV f t z.1 = true := fun z => by rw [(scanL_perm f t L).mem_iff, List.mem_filter]
  cases hv : hasV f t y.1
  · rw [Bool.not_false, Bool.not_eq_true']
    rw [List.any_eq_false]
    intro z hz e
    have e : keyP z = keyP y := by simpa using e
    have := (hm z).1 hz
    rw [hu.inj this.1 hy e, hv] at this
    cases this.2
  · rw [Bool.not_true, Bool.not_eq_false']
    rw [List.any_eq_true]
    exact ⟨y, (hm y).2 ⟨hy, hv⟩, by simp⟩
theorem OutR.step {N w0 : Nat} {w w' : World} {b c : Nat} {R : Nat → Prop} {n : Int} {L M : List Ent} {cs : List Value} {B : Nat → List EV} {fl : List Value} {v : Value} (h : OutR N w v M) (hc : ChIs w0 w b c R n L cs B fl) (hN : w0 ≤ N) (t : Turned (fun j => j = b ∨ j = c) w w') : OutR N w' v M := by
  have hb := hc.hb
  obtain ⟨hs, h1, h2, h3⟩ := h
  refine ⟨hs, h1, h2.turned t (fun g hg e => ?_), fun i x y hx hy => ?_⟩
  · rcases e with e | e
    · have := (h2.block g hg).1; omega
    · exact h2.ne_blk hc.cb (by decide) (by rw [hg, e])
  · obtain ⟨u, hu, hr⟩ := h3 i x y hx hy
    refine ⟨u, hu, hr.turned t (fun g hg e => ?_)⟩
    rcases e with e | e
    · have := (hr.block g hg).1; omega
    · exact hr.ne_blk hc.cb (by decide) (by rw [hg, e])
theorem OutR.map {N g : Nat} {w w' : World} {M : List Ent} {v : Value} {K : List EV} (h : OutR N w v M) (hm : MapAt Try.prog 28 evc w g K) (o : Only g w w') : OutR N w' v M := by
  obtain ⟨hs, h1, h2, h3⟩ := h
  refine ⟨hs, h1, h2.only o (Row.ne_map h2 hm), fun i x y hx hy => ?_⟩
  obtain ⟨u, hu, hr⟩ := h3 i x y hx hy
  exact ⟨u, hu, hr.only o (Row.ne_map hr hm)⟩
set_option maxHeartbeats 2000000 in
theorem shcut_nil (f t : Int) (w : World) : Calls Try.prog 13 #[.pointer none, .agg #[.int .u32 f, .int .u32 t]] w fun e w' => ∃ a c, e = .returned (.slice a 0 c) ∧ c ≤ maxLen ∧ Below w.heap.size w w' := by
  go_enter Try.func13, Try.ntmps13
  go_wp2_with fail
  go_ret
  exact ⟨none, 0, rfl, Nat.zero_le _, more (Below.refl _ _) _⟩
set_option maxHeartbeats 8000000 in
set_option maxRecDepth 100000 in
theorem shcut_any (b : Nat) (W R : Nat → Prop) (L : List Ent) (f t : Int) (w : World) (h : ShAt w b W R L) (_ : 0 ≤ f ∧ f ≤ 4294967295) (_ : 0 ≤ t ∧ t ≤ 4294967295) :
    Calls Try.prog 13 #[.pointer (some ⟨b, 0, none⟩), .agg #[.int .u32 f, .int .u32 t]] w fun e w' => ∃ v, e = .returned v ∧ STold W R w w' b (restL f t L) v (scanL f t L) := by
  have hk0 : Below w.heap.size w (w.alloc (.cells #[.int .u32 f, .int .u32 t] 25)) := more (Below.refl _ _) _
  have HS1 := Lib.hid (h.turned (S := fun _ => False) (Turned.of_below hk0) (fun _ _ h => h))
  have HSP : Hid (Blk (w.alloc (.cells #[.int .u32 f, .int .u32 t] 25)) w.heap.size 25 #[.int .u32 f, .int .u32 t]) := Lib.hid (Blk.new _ _ _)
  have HK0 := Lib.hid hk0
  have HH := Lib.hid h
  have HU := Lib.hid h.uniq
  have HLN := Lib.hid h.len
  have HALL := Lib.hid (cutJ_all h.uniq f t)
  have HMP : Hid ((scanL f t L).length + (restL f t L).length = L.length) := Lib.hid (by
    have := (cut_perm f t L).length_eq
    rw [List.length_append] at this
    omega)
  obtain ⟨_, _, _, _, cs0, B0, hsi⟩ := h
  have HSI := Lib.hid hsi
  clear hk0 hsi
  obtain ⟨RL, hRL⟩ : ∃ M, M = restL f t L := ⟨_, rfl⟩
  rw [← hRL] at HALL HMP ⊢
  clear hRL
  obtain ⟨M, hM⟩ : ∃ M, M = scanL f t L := ⟨_, rfl⟩
  rw [← hM] at HALL HMP ⊢
  have HME := Lib.hid hM
  clear hM
  obtain ⟨w0, hw0⟩ : ∃ x, x = w.heap.size := ⟨_, rfl⟩
  have HW0 := Lib.hid hw0
  clear hw0
  go_enter Try.func13, Try.ntmps13
  go_upto_region 1 with fail
  generalize w.alloc (.cells #[.int .u32 f, .int .u32 t] 25) = w1 at *
  obtain ⟨gs, hgs⟩ : ∃ g, g = w.heap.size := ⟨_, rfl⟩
  rw [← hgs] at HSP ⊢
  clear hgs
  have hscan := shscanR_any b W R L f t w1 HS1.out
  rw [← HME.out] at hscan
  have HSCAN := Lib.hid hscan
  clear hscan
  go_upto_region 4 with (first | (refine at_load 3 rfl ?_; refine wpList_load_row rfl 25 (.tmp 3) rfl gs rfl 25 _ (0, 0) _ HSP.out Try.underlying25 rfl span_info ?_) | (go_at_call 25; refine HSCAN.out.mono ?_; rintro e w2 ⟨v2, rfl, hout, hk2⟩))
  obtain ⟨av, nv, cv, hv2⟩ : ∃ a n c, v2 = .slice a n c := by
    obtain ⟨hs, _, hr, _⟩ := hout
    obtain ⟨a, c, e, _⟩ := hr.rd.form
    exact ⟨a, _, c, e⟩
  have hnv : nv = M.length := by
    obtain ⟨hs, h1, hr, _⟩ := hout
    obtain ⟨a, c, e, _⟩ := hr.rd.form
    rw [hv2] at e
    injection e with _ e _
    rw [e, h1]
  subst hv2
  subst hnv
  have HOUT : Hid (OutR w0 w2 (.slice av M.length cv) M) := Lib.hid (hout.mono (by have := HK0.out.size; have := HW0.out; omega))
  have HB2 := Lib.hid (nest HK0.out hk2)
  clear hout hk2 HS1 HSP HSCAN
  go_upto_region 5 with (first | (refine at_store 6 rfl ?_; refine wpList_store_row rfl 70 (.tmp 6) (.tmp 16) rfl w2.heap.size (Try.zeroCells70.setIfInBounds 0 (.pointer (some ⟨b, 0, none⟩))) rfl rfl 70 Try.zeroCells70 (Blk.new _ _ _) (by rw [ch0_is, ch0_size]; exact change_info) (by rw [ch0_is, ch0_size, zero_change_cells]; simp) (by rw [ch0_is]; exact ch0_one b) ?_))
  rw [change_new, ch0_is]
  have hX : Below w2.heap.size w2 (w2.alloc (.cells (ch0 b) 70)) := more (Below.refl _ _) _
  have HBC : Hid (Blk (w2.alloc (.cells (ch0 b) 70)) w2.heap.size 70 (ch0 b)) := Lib.hid (Blk.new _ _ _)
  have HB3 := Lib.hid (nest HB2.out hX)
  have HOUT3 := Lib.hid (HOUT.out.keep hX)
  clear hX HOUT
  generalize w2.alloc (.cells (ch0 b) 70) = w3 at *
  obtain ⟨c, hc⟩ : ∃ x, x = w2.heap.size := ⟨_, rfl⟩
  rw [← hc] at HBC ⊢
  have HC0 := Lib.hid (change_start HSI.out HB3.out HBC.out (by have := HB2.out.size; omega))
  have HCW : Hid (w0 ≤ c) := Lib.hid (by have := HB2.out.size; have := HW0.out; omega)
  rw [← HW0.out] at HC0
  clear hc HSI
  simp only [Act.put]
  go_upto_block 99 with fail
  go_loopw [19] (fun i wr => ∃ j : Nat, j ≤ M.length ∧ i = .int .i64 j ∧ (∃ cs B fl, ChIs w0 wr b c (fun j => R j ∨ w0 ≤ j) L.length (L.filter (cutJ M j)) cs B fl) ∧ OutR w0 wr (.slice av M.length cv) M ∧ Turned (fun j => j = b ∨ w0 ≤ j) w wr) (fun i _ => M.length - (intOf i).toNat)
  case atStart => exact ⟨0, Nat.zero_le _, rfl, ⟨_, _, _, by rw [cutJ_zero]; exact HC0.out⟩, HOUT3.out, Turned.of_below HB3.out⟩
  case round =>
    obtain ⟨j, hj, rfl, ⟨cs, B, fl, hch⟩, hout, ht⟩ := hrel
    have HCH := Lib.hid hch
    have HOUT := Lib.hid hout
    have HT := Lib.hid ht
    clear hch hout ht HC0 HOUT3 HB3
    by_cases hlt : j < M.length
    · obtain ⟨a', g, off, c', hva, hc1, hc2, hc3, hc4⟩ := HOUT.out.ents.at
      injection hva with e1 e2 e3
      subst e1 e3
      obtain ⟨rfl, hg1, hg2⟩ := hc3 (by omega)
      obtain ⟨x, d0, d1, d2, d3, d4, hrx, _⟩ := hc4 j hlt
      obtain ⟨y, hy⟩ : ∃ y, y = M.getD j e0 := ⟨_, rfl⟩
      rw [← hy] at d0 d1 d2 d4 hrx
      have hyM : M[j]? = some y := by rw [hy, List.getD_eq_getElem?_getD, List.getElem?_eq_getElem hlt]; rfl
      have hyL : y ∈ L := by
        have := List.mem_of_getElem? hyM
        rw [HME.out] at this
        exact (List.mem_filter.1 ((scanL_perm f t L).mem_iff.1 this)).1
      have HYOK := Lib.hid (HH.out.ok y hyL)
      have HYM := Lib.hid hyM
      obtain ⟨ax, cx, rfl, _, _⟩ := hrx.form
      obtain ⟨ya, ⟨yi, yv, yl⟩, yg⟩ := y
      have d0 : wr.cell? ⟨g, off + j * 5, none⟩ = some (.int .u32 ya) := d0
      have d1 : wr.cell? ⟨g, off + j * 5 + 1, none⟩ = some (.int .u64 yi) := d1
      have d2 : wr.cell? ⟨g, off + j * 5 + 2, none⟩ = some (.int .u64 yv) := d2
      have d3 : wr.cell? ⟨g, off + j * 5 + 3, none⟩ = some (.slice ax yl.length cx) := d3
      have d4 : wr.cell? ⟨g, off + j * 5 + 4, none⟩ = some (.bool yg) := d4
      have HKY : Hid (∀ z : World, Calls Try.prog 29 #[.agg #[.int .u32 ya, .int .u64 yi, .int .u64 yv, .slice ax yl.length cx, .bool yg]] z fun e w' => e = .returned (.agg #[.int .u32 ya, .int .u64 yi]) ∧ Below z.heap.size z w') := Lib.hid (shkey_any (ya, (yi, yv, yl), yg) (.slice ax yl.length cx) rfl)
      clear hc1 hc2 hc3 hc4 hy hyM hyL hrx hg1 hg2 e2
      go_upto_region 8 with fail
      have hX : Below wr.heap.size wr (wr.alloc (.cells #[.int .u32 ya, .int .u64 yi, .int .u64 yv, .slice ax yl.length cx, .bool yg] 40)) := more (Below.refl _ _) _
      have HBE : Hid (Blk (wr.alloc (.cells #[.int .u32 ya, .int .u64 yi, .int .u64 yv, .slice ax yl.length cx, .bool yg] 40)) wr.heap.size 40 #[.int .u32 ya, .int .u64 yi, .int .u64 yv, .slice ax yl.length cx, .bool yg]) := Lib.hid (Blk.new _ _ _)
      have HX4 := Lib.hid hX
      clear hX d0 d1 d2 d3 d4
      generalize wr.alloc (.cells #[.int .u32 ya, .int .u64 yi, .int .u64 yv, .slice ax yl.length cx, .bool yg] 40) = w4 at *
      obtain ⟨g8, hg8⟩ : ∃ g, g = wr.heap.size := ⟨_, rfl⟩
      rw [← hg8] at HBE ⊢
      clear hg8
      go_upto_region 9 with (first | (refine at_load 8 rfl ?_; refine wpList_load_row rfl 40 (.tmp 8) rfl g8 rfl 40 _ (0, 0) _ HBE.out Try.underlying40 rfl ent_info' ?_) | (go_at_call 29; refine (HKY.out _).mono ?_; rintro e w5 ⟨rfl, hk5⟩))
      have HX5 : Hid (Below wr.heap.size wr (w5.alloc (.cells #[.int .u32 ya, .int .u64 yi] 28))) := Lib.hid (more (nest HX4.out hk5) _)
      have HBK : Hid (Blk (w5.alloc (.cells #[.int .u32 ya, .int .u64 yi] 28)) w5.heap.size 28 #[.int .u32 ya, .int .u64 yi]) := Lib.hid (Blk.new _ _ _)
      have HG9 : Hid (w0 ≤ w5.heap.size ∧ w5.heap.size ≠ b ∧ w5.heap.size ≠ c) := Lib.hid (by
        have h1 := hk5.size
        have h2 := HX4.out.size
        have h3 := HCH.out.cb.lt
        have h4 := HCH.out.hc
        have h5 := HCH.out.hb
        omega)
      clear hk5 HX4
      generalize w5.alloc (.cells #[.int .u32 ya, .int .u64 yi] 28) = w6 at *
      obtain ⟨g9, hg9⟩ : ∃ g, g = w5.heap.size := ⟨_, rfl⟩
      rw [← hg9] at HBK HG9 ⊢
      clear hg9
      have HCH6 := Lib.hid (HCH.out.keep HX5.out)
      have HOUT6 := Lib.hid (HOUT.out.keep HX5.out)
      have HT6 : Hid (Turned (fun j => j = b ∨ w0 ≤ j) w w6) := Lib.hid (HT.out.trans (Turned.of_below (S := fun j => j = b ∨ w0 ≤ j) HX5.out) (fun _ _ h => h))
      have HLL : Hid ((L.filter (cutJ M j)).length ≤ 1000000) := Lib.hid (by have := List.length_filter_le (cutJ M j) L; have := HLN.out; omega)
      clear HCH HOUT HT HX5
      refine Run.region_walk (S := fun z => Blk z g9 28 #[.int .u32 ya, .int .u64 yi])
        ocut.rows9 ocut.plan9 (l := ?steps1) (by kernel_rfl) (by kernel_rfl) (by kernel_rfl) (by kernel_rfl) ?written1 HBK.out ?onward1
      case written1 =>
        simp only [ocut.plan9, Run.stepsOf, Run.stepOf, Run.guardOf, List.getElem?_toArray, List.getElem?_cons_zero, List.getElem?_cons_succ, Option.map_some, Option.map_none, Option.bind_some, Option.toList_some, List.map_cons, List.map_nil, List.cons_append, List.nil_append, List.append_eq]
        rfl
      repeat ((first
        | (refine Run.takes (v := ?_) ?_ ?_; rotate_left; (· intro w' hS'; (first | (refine exec_load_blk (n := 2) (x := .tmp 9) (l := [.int .u32 ya, .int .u64 yi]) ?_ Try.underlying28 key_info ?_ ?_ hS' <;> rfl) | (go_simp; (try with_reducible rfl)))))
        | (refine Run.takesG (v := ?_) ?_ ?_ ?_; rotate_left; (· simp only [List.getElem?_cons_zero, List.getElem?_cons_succ]); (· intro w' hS'; (first | (refine exec_load_blk (n := 2) (x := .tmp 9) (l := [.int .u32 ya, .int .u64 yi]) ?_ Try.underlying28 key_info ?_ ?_ hS' <;> rfl) | (go_simp; (try with_reducible rfl)))))
        | (refine Run.skipsT ?_ ?_; (· simp only [List.getElem?_cons_zero, List.getElem?_cons_succ]))
        | (refine Run.skipsF ?_ ?_; (· simp only [List.getElem?_cons_zero, List.getElem?_cons_succ]))
        | (refine Run.skipsU ?_ ?_; (· simp only [List.getElem?_cons_zero, List.getElem?_cons_succ]))
        | (refine Run.passT ?_ ?_; (· simp only [List.getElem?_cons_zero, List.getElem?_cons_succ]))
        | (refine Run.passF ?_ ?_; (· simp only [List.getElem?_cons_zero, List.getElem?_cons_succ]))
        | (refine Run.passU ?_ ?_; (· simp only [List.getElem?_cons_zero, List.getElem?_cons_succ]))
        | fail); simp only [Act.put, List.setIfInBounds_toArray, List.set_cons_zero, List.set_cons_succ])
      refine Run.runs (Run.callF 30 (by kernel_rfl) (fun hS => shopen_any w0 b c _ L.length (L.filter (cutJ M j)) cs B fl ya yi _ (HCH6.out.keep (Below.refl _ _).drew) HLL.out) rfl ?_)
      rintro hS e z1 ⟨g1, cs1, B1, fl1, rfl, hch, hcg, hwg, htz⟩
      have hBK1 := hS.turned htz (fun e => by rcases e with e | e; exact HG9.out.2.1 e; exact HG9.out.2.2 e)
      have HCH1 := Lib.hid hch
      have HCG1 := Lib.hid hcg
      have HWG1 := Lib.hid hwg
      have HBK1 := Lib.hid hBK1
      have HOUT1 := Lib.hid ((HOUT6.out.keep (Below.refl _ _).drew).step (HCH6.out.keep (Below.refl _ _).drew) (Nat.le_refl _) htz)
      have HT1 : Hid (Turned (fun j => j = b ∨ w0 ≤ j) w z1) := Lib.hid (HT6.out.drew.trans htz (fun j _ h => by rcases h with h | h; exact .inl h; exact .inr (by rw [h]; exact HCW.out)))
      refine ⟨_, rfl, hBK1, ?_⟩
      clear hS htz hBK1 hch hcg hwg HOUT6 HT6 HCH6
      try simp only [Act.put, List.setIfInBounds_toArray, List.set_cons_zero, List.set_cons_succ]
      have HMG : Hid (MapAt Try.prog 28 evc z1 g1 (B1 (plE (ya, (yi, yv, yl), yg)))) := Lib.hid (by
        have hcg := HCG1.out
        rcases HCH1.out.sh.bd _ (plc_lt ya yi) with ⟨e, _⟩ | ⟨g', e, hm⟩
        · rw [e] at hcg; cases hcg
        · rw [e] at hcg; cases hcg; exact hm)
      obtain ⟨kl, hkl⟩ := key_of HYOK.out.1.1 HYOK.out.1.2.1
      have HKL := Lib.hid hkl
      clear hkl
      refine Run.runs (Run.one (fun hS K1 hK1 => ?_))
      refine wp_drop_map rfl keyK Try.underlying63 rfl HMG.out rfl HKL.out ?_
      intro z3 M3 hm3 hmem3 ho3
      have hBK3 := HBK1.out.only ho3 (fun e => HMG.out.ne_blk HBK1.out e.symm)
      refine hK1.out _ _ hBK3 ?_
      have HCH3 : Hid (ChIs w0 z3 b c (fun j => R j ∨ w0 ≤ j) L.length (L.filter (cutJ M (j + 1))) cs1 (updB B1 (plE (ya, (yi, yv, yl), yg)) M3) fl1) := Lib.hid (ChIs.took HCH1.out HCG1.out ho3 hm3 hmem3 (HU.out.filter _) (fun z => cutJ_succ HYM.out L z))
      have HOUT3 := Lib.hid (HOUT1.out.map HMG.out ho3)
      have HT3 : Hid (Turned (fun j => j = b ∨ w0 ≤ j) w z3) := Lib.hid (HT1.out.trans (Turned.of_only ho3 (S := fun j => j = b ∨ w0 ≤ j) (.inr HWG1.out)) (fun _ _ h => h))
      clear hK1 K1 hS hm3 hmem3 ho3 hBK3
      try simp only [Act.put, List.setIfInBounds_toArray, List.set_cons_zero, List.set_cons_succ]
      refine Run.ends (fun _ => ?_)
      have hkw : wrap64 ((j : Int) + 1) = ((j + 1 : Nat) : Int) := by
        have := HMP.out; have := HLN.out
        rw [IntWalk.wrap64_in _ (by omega)]; omega
      go_wp2_with fail
      exact ⟨⟨j + 1, by omega, by rw [hkw], ⟨_, _, _, HCH3.out⟩, HOUT3.out, HT3.out⟩, by rw [hkw]; simp only [intOf]; omega⟩
    · have hjl : j = M.length := by omega
      subst hjl
      have c2 := HCH.out.sh.size
      have f2 := HCH.out.sh.blk.frozen 256
      have hsub : wrap64 ((L.length : Int) - (M.length : Int)) = (RL.length : Int) := by
        have := HMP.out
        have := HLN.out
        rw [IntWalk.wrap64_in _ (by omega)]; omega
      have hch := HCH.out.count RL.length
      rw [HALL.out] at hch
      have HCH7 := Lib.hid hch
      have hos : Only b wr (wr.setCell ⟨b, 256, none⟩ (.int .i64 RL.length)) := Only.set _ _ _
      have HOUT7 := Lib.hid (HOUT.out.turned (Turned.of_only (S := fun j => j = b) hos rfl) (fun j hj => by rw [hj]; exact HCH.out.hb))
      have HT7 : Hid (Turned (fun j => j = b ∨ w0 ≤ j) w (wr.setCell ⟨b, 256, none⟩ (.int .i64 RL.length))) := Lib.hid (HT.out.trans (Turned.of_only hos (S := fun j => j = b ∨ w0 ≤ j) (.inl rfl)) (fun _ _ h => h))
      clear hch hos hlt hj
      go_wp2_with fail
      go_ret
      have hRL : RL.length ≤ 10000 := by have := HMP.out; have := HLN.out; omega
      have hwb := HH.out.2.1
      have hlt := fun j hj => HH.out.lt (j := j) hj
      have e0 := HW0.out
      refine ⟨_, rfl, W, fun j => (R j ∨ w0 ≤ j) ∧ j < (wr.setCell ⟨b, 256, none⟩ (.int .i64 RL.length)).heap.size, ⟨hRL, hwb, ⟨.inl HH.out.2.2.1, Nat.lt_of_lt_of_le (hlt _ HH.out.2.2.1) HT7.out.size⟩, fun j hj => hj.2, _, _, HCH7.out.sh.mono (fun j hj hR => ⟨hR, hj⟩)⟩, HT7.out.mono (fun j hj hS => ?_), fun j hj => .inl hj, fun j hj => ?_, HOUT7.out.ents.mono (fun j hj hN => ⟨fun hw => ?_, .inr ?_⟩)⟩
      · rcases hS with e | e
        · exact (hwb j).2 e
        · omega
      · rw [← e0]; exact hj.1
      · have := (hwb j).1 hw
        have := HCH7.out.hb
        omega
      · omega
end Go.Proofs.Ytmcnfndebmcapaa
