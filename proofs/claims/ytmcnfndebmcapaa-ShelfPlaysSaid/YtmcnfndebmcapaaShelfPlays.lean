/- Walk of the law ShelfPlays. -/
import Derived.Test.YtmcnfndebmcapaaShBeside
set_option maxRecDepth 4000
namespace Go.Proofs.Ytmcnfndebmcapaa.shelfPlays
open Go.RowKit Mem
set_option linter.unusedSimpArgs false
set_option linter.unusedVariables false
attribute [local irreducible] Go.Calls

theorem op_info : (Try.prog.info? 42).map (·.size) = some 9 := by kernel_rfl
set_option maxRecDepth 100000 in
set_option maxHeartbeats 8000000 in
theorem walk (v : Value) (l : List POp) (f t : Int) (bf : 0 ≤ f ∧ f ≤ 4294967295) (bt : 0 ≤ t ∧ t ≤ 4294967295) (kv ki : Int) (bkv : 0 ≤ kv ∧ kv ≤ 4294967295) (bki : 0 ≤ ki ∧ ki ≤ 18446744073709551615) (w : World) (h : (kSlice opK9).rd w [v] l) :
    Calls Try.prog 3 #[v, .agg #[.int .u32 f, .int .u32 t], .agg #[.int .u32 kv, .int .u64 ki]] w fun e w' => e = .returned (.bool true) ∧ Below w.heap.size w w' := by
  obtain ⟨a, g, off, c, rfl, hc1, hm1, hsa, ht⟩ := sops_of h
  have hm1' : c ≤ 9223372036854775807 := hm1
  have HT := Lib.hid ht
  have HA := Lib.hid hsa
  have HBF := Lib.hid bf
  have HBT := Lib.hid bt
  have HBV := Lib.hid bkv
  have HBI := Lib.hid bki
  have hX := more (more (Below.refl w.heap.size w) (.cells #[.int .u32 f, .int .u32 t] 25)) (.cells #[.int .u32 kv, .int .u64 ki] 28)
  have HB4 : Hid (Blk ((w.alloc (.cells #[.int .u32 f, .int .u32 t] 25)).alloc (.cells #[.int .u32 kv, .int .u64 ki] 28)) w.heap.size 25 #[.int .u32 f, .int .u32 t]) := Lib.hid ((Blk.new w _ _).keep (more (Below.refl _ _) _))
  have HB5 := Lib.hid (Blk.newAt (w.alloc (.cells #[.int .u32 f, .int .u32 t] 25)) 28 #[.int .u32 kv, .int .u64 ki] (n := w.heap.size + 1) (by rw [size_alloc]))
  have HK := Lib.hid hX
  clear h ht hsa hm1 hX bf bt bkv bki
  go_enter Try.func3, Try.ntmps3
  go_upto_region 1 with fail
  generalize (w.alloc (.cells #[.int .u32 f, .int .u32 t] 25)).alloc (.cells #[.int .u32 kv, .int .u64 ki] 28) = w0 at *
  obtain ⟨g4, hg4⟩ : ∃ g, g = w.heap.size := ⟨_, rfl⟩
  obtain ⟨g5, hg5⟩ : ∃ g, g = w.heap.size + 1 := ⟨_, rfl⟩
  rw [← hg5] at HB5 ⊢
  have HG4 := Lib.hid hg4
  rw [← hg4] at HB4 ⊢
  clear hg4 hg5
  go_wp2_with fail
  refine (shnew_any w0).mono ?_
  rintro e w1 ⟨s, W, R, rfl, hp, hr, hk⟩
  go_wp2_with fail
  have hX := more (Below.refl w1.heap.size w1) (.cells #[.slice none 0 0] 34)
  have hbk := Blk.new w1 34 #[.slice none 0 0]
  have hpl : Pl w0.heap.size (fun _ => False) (w1.alloc (.cells #[.slice none 0 0] 34)) s w1.heap.size [] [] := by
    refine ⟨W, R, fun j => j = w1.heap.size, fun j => j = w1.heap.size, hp.keep hX, ⟨_, hbk, EntsAt.nil _ _ _, rfl, fun g hg => (nomatch hg), fun j h => h, fun j hj => by rw [hj]; exact hbk.lt⟩, fun j hj e => ?_, fun j e hj => ?_, fun j hj => ?_, fun j h => h.elim⟩
    · have := hp.lt hj; omega
    · have := hp.lt (hp.sub hj); omega
    · have := hk.size
      rcases hj with hj | hj
      · exact hr j hj
      · omega
  have HPL := Lib.hid hpl
  have HKB := Lib.hid (nest hk hX)
  clear hX hbk hpl hp hr hk
  generalize w1.alloc (.cells #[.slice none 0 0] 34) = w2 at *
  obtain ⟨b, hb⟩ : ∃ b, b = w1.heap.size := ⟨_, rfl⟩
  rw [← hb] at HPL ⊢
  clear hb
  refine (shawake_any w2).mono ?_
  rintro e w3 ⟨rfl, hk⟩
  have HPL3 := Lib.hid (HPL.out.keep hk)
  have HKB3 := Lib.hid (nest HKB.out hk)
  clear hk HPL HKB
  go_upto_block 99 with fail
  go_loopw [7, 9] (fun sv iv wr => ∃ (j s : Nat) (L : List Ent), j ≤ 40 ∧ iv = .int .i64 j ∧ sv = .pointer (some ⟨s, 0, none⟩) ∧ Pl w0.heap.size (fun _ => False) wr s b L L ∧ Below w0.heap.size w0 wr) (fun _ iv _ => 40 - (intOf iv).toNat)
  case atStart => exact ⟨0, s, [], Nat.zero_le _, rfl, rfl, HPL3.out, HKB3.out⟩
  case round =>
    obtain ⟨j, s, L, hj40, rfl, rfl, hpl, hk⟩ := hrel
    obtain ⟨wo, hwo⟩ : ∃ z, z = wr := ⟨_, rfl⟩
    subst hwo
    have HP := Lib.hid hpl
    have HKB := Lib.hid hk
    have HF := Lib.hid hpl.facts
    have HKW := Lib.hid (HK.out.trans (hk.mono HK.out.size))
    have HW0 : Hid (w.heap.size ≤ w0.heap.size) := Lib.hid HK.out.size
    clear hpl hk HPL3 HKB3
    by_cases hin : j < l.length ∧ j < 40
    · obtain ⟨h1, h2⟩ := hin
      have hjl : (j : Int) < (l.length : Int) := by omega
      have hj4 : (j : Int) < 40 := by omega
      have hcl : (l.length : Int) ≤ c := by omega
      have ha := HA.out (by omega)
      subst ha
      obtain ⟨x, u, hcells, hrx, hu, hpb⟩ := HT.out j h1
      obtain ⟨o, ho⟩ : ∃ o, o = l.getD j pop0 := ⟨_, rfl⟩
      rw [← ho] at hcells hrx hu hpb
      obtain ⟨kd, ⟨ya, ⟨yi, yv, yl⟩, yg⟩, ⟨pf, pt⟩, J⟩ := o
      obtain ⟨ax, cx, rfl, _, _⟩ := hrx.form
      obtain ⟨au, gu, ou, cu, rfl, hcu, hmu, _, _⟩ := hu.at
      have hmu' : cu ≤ 9223372036854775807 := hmu
      have d0 : wo.cell? ⟨g, off + j * 9, none⟩ = some (.int .i64 kd) := kc HKW.out (hcells 0 (by decide))
      have d1 : wo.cell? ⟨g, off + j * 9 + 1, none⟩ = some (.int .u32 ya) := kc HKW.out (hcells 1 (by decide))
      have d2 : wo.cell? ⟨g, off + j * 9 + 2, none⟩ = some (.int .u64 yi) := kc HKW.out (hcells 2 (by decide))
      have d3 : wo.cell? ⟨g, off + j * 9 + 3, none⟩ = some (.int .u64 yv) := kc HKW.out (hcells 3 (by decide))
      have d4 : wo.cell? ⟨g, off + j * 9 + 4, none⟩ = some (.slice ax yl.length cx) := kc HKW.out (hcells 4 (by decide))
      have d5 : wo.cell? ⟨g, off + j * 9 + 5, none⟩ = some (.bool yg) := kc HKW.out (hcells 5 (by decide))
      have d6 : wo.cell? ⟨g, off + j * 9 + 6, none⟩ = some (.int .u32 pf) := kc HKW.out (hcells 6 (by decide))
      have d7 : wo.cell? ⟨g, off + j * 9 + 7, none⟩ = some (.int .u32 pt) := kc HKW.out (hcells 7 (by decide))
      have d8 : wo.cell? ⟨g, off + j * 9 + 8, none⟩ = some (.slice au J.length cu) := kc HKW.out (hcells 8 (by decide))
      have HXA : Hid (∀ z, Below w.heap.size w z → Rd (intE .u32) z (.slice ax yl.length cx) yl) := Lib.hid (fun z hz => hrx.keep hz)
      have HUA : Hid (∀ z, Below w.heap.size w z → EntsIn (fun j => j < w.heap.size) z (.slice au J.length cu) J) := Lib.hid (fun z hz => hu.keep hz)
      have HPB := Lib.hid hpb
      clear hcells hrx hu hpb ho hmu
      go_upto_region 8 with (refine at_store 10 rfl ?_; refine wpList_store_row rfl 42 (.tmp 10) (.tmp 42) rfl wo.heap.size #[.int .i64 kd, .int .u32 ya, .int .u64 yi, .int .u64 yv, .slice ax yl.length cx, .bool yg, .int .u32 pf, .int .u32 pt, .slice au J.length cu] rfl rfl 42 _ (heap_alloc_new wo _) op_info rfl (by simp [Value.oneCell']) ?_)
      (try rw [World.setRow_alloc_new])
      have hX := more (Below.refl wo.heap.size wo) (.cells #[.int .i64 kd, .int .u32 ya, .int .u64 yi, .int .u64 yv, .slice ax yl.length cx, .bool yg, .int .u32 pf, .int .u32 pt, .slice au J.length cu] 42)
      have HBO := Lib.hid (Blk.new wo 42 #[.int .i64 kd, .int .u32 ya, .int .u64 yi, .int .u64 yv, .slice ax yl.length cx, .bool yg, .int .u32 pf, .int .u32 pt, .slice au J.length cu])
      have HP0 := Lib.hid ((HP.out.free hX).less (N' := fun j => j = wo.heap.size) (fun j hj => .inr ⟨by omega, by rw [hj]; exact HBO.out.lt⟩))
      have HK0 := Lib.hid (nest HKW.out hX)
      have HKB0 := Lib.hid (nest HKB.out hX)
      clear hX HP HKB HKW d0 d1 d2 d3 d4 d5 d6 d7 d8
      generalize wo.alloc (.cells #[.int .i64 kd, .int .u32 ya, .int .u64 yi, .int .u64 yv, .slice ax yl.length cx, .bool yg, .int .u32 pf, .int .u32 pt, .slice au J.length cu] 42) = z0 at *
      obtain ⟨g10, hg10⟩ : ∃ g, g = wo.heap.size := ⟨_, rfl⟩
      rw [← hg10] at HBO HP0 ⊢
      clear hg10
      have o8 : z0.cell? ⟨g10, 8, none⟩ = some (.slice au J.length cu) := HBO.out.cell 8
      go_wp2_with fail
      refine (shfew_any _ _ J z0 (HUA.out _ HK0.out)).mono ?_
      rintro e z1 ⟨rfl, hk⟩
      have HBO1 := Lib.hid (HBO.out.keep hk)
      have HP1 := Lib.hid (HP0.out.keep hk)
      have HK1 := Lib.hid (nest HK0.out hk)
      have HKB1 := Lib.hid (nest HKB0.out hk)
      clear hk HBO HP0 HK0 HKB0 o8
      obtain ⟨fe, hfe⟩ : ∃ fe, fe = fewE J := ⟨_, rfl⟩
      rw [← hfe]
      cases fe with
      | false =>
        clear hfe
        go_wp2_with fail
        go_ret
        exact ⟨rfl, HK1.out⟩
      | true =>
        have hff := few_yes.1 hfe.symm
        have HJL : Hid (J.length ≤ 30) := Lib.hid hff.1
        have HOKJ : Hid (∀ y ∈ J, okE y) := Lib.hid (fun y hy => ⟨HPB.out.2.2.2.2 y hy, by have := hff.2 y hy; omega⟩)
        clear hff hfe
        have o4 : z1.cell? ⟨g10, 4, none⟩ = some (.slice ax yl.length cx) := HBO1.out.cell 4
        by_cases h20 : yl.length > 20
        · have e20 : (yl.length : Int) > 20 := by omega
          go_wp2_with fail
          go_ret
          exact ⟨rfl, HK1.out⟩
        have e20 : ¬ (yl.length : Int) > 20 := by omega
        have HYE : Hid (okE (ya, (yi, yv, yl), yg)) := Lib.hid ⟨HPB.out.2.1, by show yl.length ≤ 35184372087808; omega⟩
        have HF2 : Hid (0 ≤ pf ∧ pf ≤ 4294967295) := Lib.hid HPB.out.2.2.1
        have HT2 : Hid (0 ≤ pt ∧ pt ≤ 4294967295) := Lib.hid HPB.out.2.2.2.1
        have HLN : Hid (L.length ≤ 1000000) := Lib.hid (by have := HF.out.2.2; omega)
        have HLJ : Hid (L.length + J.length ≤ 1000000) := Lib.hid (by have := HF.out.2.2; have := HJL.out; omega)
        have o0 : z1.cell? ⟨g10, 0, none⟩ = some (.int .i64 kd) := HBO1.out.cell 0
        by_cases k1 : kd = 1
        · subst k1
          as_aux_lemma =>
            go_upto_region 16 with fail
            clear o0 o4
            refine Run.region_walk (S := fun z => Blk z g10 42 #[.int .i64 1, .int .u32 ya, .int .u64 yi, .int .u64 yv, .slice ax yl.length cx, .bool yg, .int .u32 pf, .int .u32 pt, .slice au J.length cu])
              lshplays.rows11 lshplays.plan11 (l := ?_) (by kernel_rfl) (by kernel_rfl) (by kernel_rfl) (by kernel_rfl) ?_ (HBO1.out.keep (Below.refl _ _).drew) ?_
            rotate_left
            (· simp only [lshplays.plan11, Run.stepsOf, Run.stepOf, Run.guardOf, List.getElem?_toArray, List.getElem?_cons_zero, List.getElem?_cons_succ, Option.map_some, Option.map_none, Option.bind_some, Option.toList_some, List.map_cons, List.map_nil, List.cons_append, List.nil_append, List.append_eq]
               rfl)
            repeat ((first
              | (refine Run.takes (v := ?_) ?_ ?_; rotate_left; (· intro w' hS'; (first | (refine exec_load_sub (n := 2) (x := .tmp 82) (off := 6) (l := [.int .u32 pf, .int .u32 pt]) (m := [.int .i64 1, .int .u32 ya, .int .u64 yi, .int .u64 yv, .slice ax yl.length cx, .bool yg, .int .u32 pf, .int .u32 pt, .slice au J.length cu]) ?_ Try.underlying25 span_info9 ?_ ?_ hS' ?_ <;> rfl) | (refine exec_load_sub (n := 2) (x := .tmp 86) (off := 6) (l := [.int .u32 pf, .int .u32 pt]) (m := [.int .i64 1, .int .u32 ya, .int .u64 yi, .int .u64 yv, .slice ax yl.length cx, .bool yg, .int .u32 pf, .int .u32 pt, .slice au J.length cu]) ?_ Try.underlying25 span_info9 ?_ ?_ hS' ?_ <;> rfl) | (go_simp; (try with_reducible rfl)))))
              | (refine Run.takesG (v := ?_) ?_ ?_ ?_; rotate_left; (· simp only [List.getElem?_cons_zero, List.getElem?_cons_succ]); (· intro w' hS'; (first | (refine exec_load_sub (n := 2) (x := .tmp 82) (off := 6) (l := [.int .u32 pf, .int .u32 pt]) (m := [.int .i64 1, .int .u32 ya, .int .u64 yi, .int .u64 yv, .slice ax yl.length cx, .bool yg, .int .u32 pf, .int .u32 pt, .slice au J.length cu]) ?_ Try.underlying25 span_info9 ?_ ?_ hS' ?_ <;> rfl) | (refine exec_load_sub (n := 2) (x := .tmp 86) (off := 6) (l := [.int .u32 pf, .int .u32 pt]) (m := [.int .i64 1, .int .u32 ya, .int .u64 yi, .int .u64 yv, .slice ax yl.length cx, .bool yg, .int .u32 pf, .int .u32 pt, .slice au J.length cu]) ?_ Try.underlying25 span_info9 ?_ ?_ hS' ?_ <;> rfl) | (go_simp; (try with_reducible rfl)))))
              | (refine Run.skipsT ?_ ?_; (· simp only [List.getElem?_cons_zero, List.getElem?_cons_succ]))
              | (refine Run.skipsF ?_ ?_; (· simp only [List.getElem?_cons_zero, List.getElem?_cons_succ]))
              | (refine Run.skipsU ?_ ?_; (· simp only [List.getElem?_cons_zero, List.getElem?_cons_succ]))
              | (refine Run.passT ?_ ?_; (· simp only [List.getElem?_cons_zero, List.getElem?_cons_succ]))
              | (refine Run.passF ?_ ?_; (· simp only [List.getElem?_cons_zero, List.getElem?_cons_succ]))
              | (refine Run.passU ?_ ?_; (· simp only [List.getElem?_cons_zero, List.getElem?_cons_succ]))
              | (refine Run.runs ?_
                 (first
                 | (refine Run.callF 13 (by kernel_rfl) (fun hS => pl_scut _ _ s b L L _ pf pt (HP1.out.keep (Below.refl _ _).drew) HKB1.out.drew.size HF2.out HT2.out) rfl ?_)
                 | (refine Run.callG 13 (by kernel_rfl) ?_ (fun hS => pl_scut _ _ s b L L _ pf pt (HP1.out.keep (Below.refl _ _).drew) HKB1.out.drew.size HF2.out HT2.out) rfl ?_; (· simp only [List.getElem?_cons_zero, List.getElem?_cons_succ]))
                 | fail)
                 (first
                 | (rintro hS e z2 ⟨vq, Qq, rfl, hvq, hp, ht⟩; have HVQ := Lib.hid hvq; have HP2 := Lib.hid hp; have HKB2 := Lib.hid (HKB1.out.drew.trans (Tn.below ht HKB1.out.drew.size)); obtain ⟨aq, gq, oq, cq, rfl, _⟩ := hvq.at; refine ⟨_, rfl, Tn.blk hS ht rfl, ?_⟩; clear hvq hp ht)
                 | (rintro hS e w' ⟨rfl, rfl⟩; refine ⟨_, rfl, hS, ?_⟩)
                 | fail))
              | fail); simp only [Act.put, List.setIfInBounds_toArray, List.set_cons_zero, List.set_cons_succ])
            repeat ((first
              | (refine Run.takes (v := ?_) ?_ ?_; rotate_left; (· intro w' hS'; go_simp; (try with_reducible rfl)))
              | (refine Run.takesG (v := ?_) ?_ ?_ ?_; rotate_left; (· simp only [List.getElem?_cons_zero, List.getElem?_cons_succ]); (· intro w' hS'; go_simp; (try with_reducible rfl)))
              | (refine Run.skipsT ?_ ?_; (· simp only [List.getElem?_cons_zero, List.getElem?_cons_succ]))
              | (refine Run.skipsF ?_ ?_; (· simp only [List.getElem?_cons_zero, List.getElem?_cons_succ]))
              | (refine Run.skipsU ?_ ?_; (· simp only [List.getElem?_cons_zero, List.getElem?_cons_succ]))
              | (refine Run.passT ?_ ?_; (· simp only [List.getElem?_cons_zero, List.getElem?_cons_succ]))
              | (refine Run.passF ?_ ?_; (· simp only [List.getElem?_cons_zero, List.getElem?_cons_succ]))
              | (refine Run.passU ?_ ?_; (· simp only [List.getElem?_cons_zero, List.getElem?_cons_succ]))
              | (refine Run.runs ?_
                 (first
                 | (refine Run.callF 14 (by kernel_rfl) (fun hS => pl_rcut _ _ s b (restL pf pt L) L _ pf pt HP2.out HKB2.out.size HF2.out HT2.out HF.out.2.1 HLN.out) rfl ?_)
                 | (refine Run.callG 14 (by kernel_rfl) ?_ (fun hS => pl_rcut _ _ s b (restL pf pt L) L _ pf pt HP2.out HKB2.out.size HF2.out HT2.out HF.out.2.1 HLN.out) rfl ?_; (· simp only [List.getElem?_cons_zero, List.getElem?_cons_succ]))
                 | fail)
                 (first
                 | (rintro hS e z3 ⟨vr, rfl, hvr, hp, ht⟩; have HVR := Lib.hid hvr; have HVQ3 := Lib.hid (Tn.ents HVQ.out ht (fun j hj => .inr hj)); have HP3 := Lib.hid hp; have HKB3 := Lib.hid (HKB2.out.trans (Tn.below ht HKB2.out.size)); obtain ⟨ar, gr, or', cr, rfl, _⟩ := hvr.at; refine ⟨_, rfl, Tn.blk hS ht (.inl rfl), ?_⟩; clear hvr hp ht)
                 | (rintro hS e w' ⟨rfl, rfl⟩; refine ⟨_, rfl, hS, ?_⟩)
                 | fail))
              | fail); simp only [Act.put, List.setIfInBounds_toArray, List.set_cons_zero, List.set_cons_succ])
            repeat ((first
              | (refine Run.takes (v := ?_) ?_ ?_; rotate_left; (· intro w' hS'; go_simp; (try with_reducible rfl)))
              | (refine Run.takesG (v := ?_) ?_ ?_ ?_; rotate_left; (· simp only [List.getElem?_cons_zero, List.getElem?_cons_succ]); (· intro w' hS'; go_simp; (try with_reducible rfl)))
              | (refine Run.skipsT ?_ ?_; (· simp only [List.getElem?_cons_zero, List.getElem?_cons_succ]))
              | (refine Run.skipsF ?_ ?_; (· simp only [List.getElem?_cons_zero, List.getElem?_cons_succ]))
              | (refine Run.skipsU ?_ ?_; (· simp only [List.getElem?_cons_zero, List.getElem?_cons_succ]))
              | (refine Run.passT ?_ ?_; (· simp only [List.getElem?_cons_zero, List.getElem?_cons_succ]))
              | (refine Run.passF ?_ ?_; (· simp only [List.getElem?_cons_zero, List.getElem?_cons_succ]))
              | (refine Run.passU ?_ ?_; (· simp only [List.getElem?_cons_zero, List.getElem?_cons_succ]))
              | (refine Run.runs ?_
                 (first
                 | (refine Run.callF 12 (by kernel_rfl) (fun hS => entries_yes _ _ (scanL pf pt L) _ HVQ3.out HVR.out (fun y hy => (HF.out.2.1 y (List.mem_filter.1 ((scanL_perm pf pt L).mem_iff.1 hy)).1).1)) rfl ?_)
                 | (refine Run.callG 12 (by kernel_rfl) ?_ (fun hS => entries_yes _ _ (scanL pf pt L) _ HVQ3.out HVR.out (fun y hy => (HF.out.2.1 y (List.mem_filter.1 ((scanL_perm pf pt L).mem_iff.1 hy)).1).1)) rfl ?_; (· simp only [List.getElem?_cons_zero, List.getElem?_cons_succ]))
                 | fail)
                 (first
                 | (rintro hS e z4 ⟨rfl, hb⟩; have HP4 := Lib.hid (HP3.out.keep hb); have HKB4 := Lib.hid (nest HKB3.out hb); refine ⟨_, rfl, hS.keep hb, ?_⟩; clear hb)
                 | (rintro hS e w' ⟨rfl, rfl⟩; refine ⟨_, rfl, hS, ?_⟩)
                 | fail))
              | fail); simp only [Act.put, List.setIfInBounds_toArray, List.set_cons_zero, List.set_cons_succ])
            refine Run.ends (fun _ => ?_)
            obtain ⟨L', hL'⟩ : ∃ X, X = restL pf pt L := ⟨_, rfl⟩
            rw [← hL'] at HP4
            clear hL' HP1 HP2 HP3 HVQ HVQ3 HVR HKB1 HKB2 HKB3
            go_upto_region 27 with fail
            have HPZ := Lib.hid (HP4.out.less (N' := fun _ => False) (fun _ h => h.elim))
            have HKZ := Lib.hid HKB4.out
            obtain ⟨ah, ch, hh, hh1, hh2⟩ := HPZ.out.head
            have hh2' : ch ≤ 9223372036854775807 := hh2
            clear hh2
            refine Run.region_walk (S := fun z => z.cell? ⟨b, 0, none⟩ = some (.slice ah L'.length ch) ∧ Below z4.heap.size z4 z)
              lshplays.rows26 lshplays.plan26 (l := ?_) (by kernel_rfl) (by kernel_rfl) (by kernel_rfl) (by kernel_rfl) ?_ ⟨kc (Below.refl _ _).drew hh, (Below.refl _ _).drew⟩ ?_
            rotate_left
            (· simp only [lshplays.plan26, Run.stepsOf, Run.stepOf, Run.guardOf, List.getElem?_toArray, List.getElem?_cons_zero, List.getElem?_cons_succ, Option.map_some, Option.map_none, Option.bind_some, Option.toList_some, List.map_cons, List.map_nil, List.cons_append, List.nil_append, List.append_eq]
               rfl)
            repeat ((first
              | (refine Run.takes (v := ?_) ?_ ?_; rotate_left; (· intro w' hS'; go_simp; (try with_reducible rfl)))
              | (refine Run.takesG (v := ?_) ?_ ?_ ?_; rotate_left; (· simp only [List.getElem?_cons_zero, List.getElem?_cons_succ]); (· intro w' hS'; go_simp; (try with_reducible rfl)))
              | (refine Run.skipsT ?_ ?_; (· simp only [List.getElem?_cons_zero, List.getElem?_cons_succ]))
              | (refine Run.skipsF ?_ ?_; (· simp only [List.getElem?_cons_zero, List.getElem?_cons_succ]))
              | (refine Run.skipsU ?_ ?_; (· simp only [List.getElem?_cons_zero, List.getElem?_cons_succ]))
              | (refine Run.passT ?_ ?_; (· simp only [List.getElem?_cons_zero, List.getElem?_cons_succ]))
              | (refine Run.passF ?_ ?_; (· simp only [List.getElem?_cons_zero, List.getElem?_cons_succ]))
              | (refine Run.passU ?_ ?_; (· simp only [List.getElem?_cons_zero, List.getElem?_cons_succ]))
              | (refine Run.runs ?_
                 (first
                 | (refine Run.callF 20 (by kernel_rfl) (fun hS => pl_slen _ _ s b L' L' _ (HPZ.out.keep hS.2)) rfl ?_)
                 | (refine Run.callG 20 (by kernel_rfl) ?_ (fun hS => pl_slen _ _ s b L' L' _ (HPZ.out.keep hS.2)) rfl ?_; (· simp only [List.getElem?_cons_zero, List.getElem?_cons_succ]))
                 | (refine Run.callF 21 (by kernel_rfl) (fun hS => pl_slive _ _ s b L' L' _ (HPZ.out.keep hS.2)) rfl ?_)
                 | (refine Run.callG 21 (by kernel_rfl) ?_ (fun hS => pl_slive _ _ s b L' L' _ (HPZ.out.keep hS.2)) rfl ?_; (· simp only [List.getElem?_cons_zero, List.getElem?_cons_succ]))
                 | (refine Run.callF 22 (by kernel_rfl) (fun hS => pl_rlive _ _ s b L' L' _ (HPZ.out.keep hS.2)) rfl ?_)
                 | (refine Run.callG 22 (by kernel_rfl) ?_ (fun hS => pl_rlive _ _ s b L' L' _ (HPZ.out.keep hS.2)) rfl ?_; (· simp only [List.getElem?_cons_zero, List.getElem?_cons_succ]))
                 | fail)
                 (first
                 | (rintro hS e w' ⟨rfl, rfl⟩; refine ⟨_, rfl, hS, ?_⟩)
                 | (rintro hS e w' ⟨rfl, hb⟩; refine ⟨_, rfl, ⟨kc hb hS.1, nest hS.2 hb⟩, ?_⟩)
                 | fail))
              | fail); simp only [Act.put, List.setIfInBounds_toArray, List.set_cons_zero, List.set_cons_succ])
            refine Run.ends (fun hS => ?_)
            have HPE := Lib.hid (HPZ.out.keep hS.2)
            have HKE := Lib.hid (nest HKZ.out hS.2)
            clear hS hh
            go_wp2_with fail
            exact ⟨⟨j + 1, s, L', by omega, by go_num, rfl, HPE.out, HKE.out⟩, by simp [intOf]; omega⟩
        by_cases k2 : kd = 2
        · subst k2
          as_aux_lemma =>
            go_upto_region 19 with fail
            clear o0 o4
            refine Run.region_walk (S := fun z => z.cell? ⟨g10, 8, none⟩ = some (.slice au J.length cu) ∧ Blk z g10 42 #[.int .i64 2, .int .u32 ya, .int .u64 yi, .int .u64 yv, .slice ax yl.length cx, .bool yg, .int .u32 pf, .int .u32 pt, .slice au J.length cu])
              lshplays.rows14 lshplays.plan14 (l := ?_) (by kernel_rfl) (by kernel_rfl) (by kernel_rfl) (by kernel_rfl) ?_ ⟨(HBO1.out.keep (Below.refl _ _).drew).cell 8, HBO1.out.keep (Below.refl _ _).drew⟩ ?_
            rotate_left
            (· simp only [lshplays.plan14, Run.stepsOf, Run.stepOf, Run.guardOf, List.getElem?_toArray, List.getElem?_cons_zero, List.getElem?_cons_succ, Option.map_some, Option.map_none, Option.bind_some, Option.toList_some, List.map_cons, List.map_nil, List.cons_append, List.nil_append, List.append_eq]
               rfl)
            repeat ((first
              | (refine Run.takes (v := ?_) ?_ ?_; rotate_left; (· intro w' hS'; go_simp; (try with_reducible rfl)))
              | (refine Run.takesG (v := ?_) ?_ ?_ ?_; rotate_left; (· simp only [List.getElem?_cons_zero, List.getElem?_cons_succ]); (· intro w' hS'; go_simp; (try with_reducible rfl)))
              | (refine Run.skipsT ?_ ?_; (· simp only [List.getElem?_cons_zero, List.getElem?_cons_succ]))
              | (refine Run.skipsF ?_ ?_; (· simp only [List.getElem?_cons_zero, List.getElem?_cons_succ]))
              | (refine Run.skipsU ?_ ?_; (· simp only [List.getElem?_cons_zero, List.getElem?_cons_succ]))
              | (refine Run.passT ?_ ?_; (· simp only [List.getElem?_cons_zero, List.getElem?_cons_succ]))
              | (refine Run.passF ?_ ?_; (· simp only [List.getElem?_cons_zero, List.getElem?_cons_succ]))
              | (refine Run.passU ?_ ?_; (· simp only [List.getElem?_cons_zero, List.getElem?_cons_succ]))
              | (refine Run.runs ?_
                 (first
                 | (refine Run.callF 15 (by kernel_rfl) (fun hS => pl_sjoin _ _ s b L L _ _ J _ (HP1.out.keep (Below.refl _ _).drew) HKB1.out.drew.size (HUA.out _ HK1.out.drew) (fun j hj => by have := HW0.out; omega) HOKJ.out (by have := HJL.out; omega)) rfl ?_)
                 | (refine Run.callG 15 (by kernel_rfl) ?_ (fun hS => pl_sjoin _ _ s b L L _ _ J _ (HP1.out.keep (Below.refl _ _).drew) HKB1.out.drew.size (HUA.out _ HK1.out.drew) (fun j hj => by have := HW0.out; omega) HOKJ.out (by have := HJL.out; omega)) rfl ?_; (· simp only [List.getElem?_cons_zero, List.getElem?_cons_succ]))
                 | fail)
                 (first
                 | (rintro hS e z2 ⟨rfl, hp, ht⟩; have HP2 := Lib.hid hp; have HKB2 := Lib.hid (HKB1.out.drew.trans (Tn.below ht HKB1.out.drew.size)); have hS2 := Tn.blk hS.2 ht rfl; refine ⟨_, rfl, ⟨hS2.cell 8, hS2⟩, ?_⟩; clear hp ht hS2)
                 | (rintro hS e w' ⟨rfl, rfl⟩; refine ⟨_, rfl, hS, ?_⟩)
                 | fail))
              | fail); simp only [Act.put, List.setIfInBounds_toArray, List.set_cons_zero, List.set_cons_succ])
            have HK2 := Lib.hid (HK.out.trans (HKB2.out.mono HK.out.size))
            repeat ((first
              | (refine Run.takes (v := ?_) ?_ ?_; rotate_left; (· intro w' hS'; go_simp; (try with_reducible rfl)))
              | (refine Run.takesG (v := ?_) ?_ ?_ ?_; rotate_left; (· simp only [List.getElem?_cons_zero, List.getElem?_cons_succ]); (· intro w' hS'; go_simp; (try with_reducible rfl)))
              | (refine Run.skipsT ?_ ?_; (· simp only [List.getElem?_cons_zero, List.getElem?_cons_succ]))
              | (refine Run.skipsF ?_ ?_; (· simp only [List.getElem?_cons_zero, List.getElem?_cons_succ]))
              | (refine Run.skipsU ?_ ?_; (· simp only [List.getElem?_cons_zero, List.getElem?_cons_succ]))
              | (refine Run.passT ?_ ?_; (· simp only [List.getElem?_cons_zero, List.getElem?_cons_succ]))
              | (refine Run.passF ?_ ?_; (· simp only [List.getElem?_cons_zero, List.getElem?_cons_succ]))
              | (refine Run.passU ?_ ?_; (· simp only [List.getElem?_cons_zero, List.getElem?_cons_succ]))
              | (refine Run.runs ?_
                 (first
                 | (refine Run.callF 16 (by kernel_rfl) (fun hS => pl_rjoin _ _ s b (joinL L J).1 L _ _ J _ HP2.out HKB2.out.size (HUA.out _ HK2.out) (fun j hj => by have := HW0.out; omega) HOKJ.out HF.out.2.1 HLJ.out) rfl ?_)
                 | (refine Run.callG 16 (by kernel_rfl) ?_ (fun hS => pl_rjoin _ _ s b (joinL L J).1 L _ _ J _ HP2.out HKB2.out.size (HUA.out _ HK2.out) (fun j hj => by have := HW0.out; omega) HOKJ.out HF.out.2.1 HLJ.out) rfl ?_; (· simp only [List.getElem?_cons_zero, List.getElem?_cons_succ]))
                 | fail)
                 (first
                 | (rintro hS e z3 ⟨rfl, hp, ht⟩; have HP3 := Lib.hid hp; have HKB3 := Lib.hid (HKB2.out.trans (Tn.below ht HKB2.out.size)); have hS2 := Tn.blk hS.2 ht rfl; refine ⟨_, rfl, ⟨hS2.cell 8, hS2⟩, ?_⟩; clear hp ht hS2)
                 | (rintro hS e w' ⟨rfl, rfl⟩; refine ⟨_, rfl, hS, ?_⟩)
                 | fail))
              | fail); simp only [Act.put, List.setIfInBounds_toArray, List.set_cons_zero, List.set_cons_succ])
            refine Run.ends (fun _ => ?_)
            obtain ⟨L', hL'⟩ : ∃ X, X = (joinL L J).1 := ⟨_, rfl⟩
            rw [← hL'] at HP3
            clear hL' HP1 HP2 HKB1 HKB2
            go_upto_region 27 with fail
            have HPZ := Lib.hid (HP3.out.less (N' := fun _ => False) (fun _ h => h.elim))
            have HKZ := Lib.hid HKB3.out
            obtain ⟨ah, ch, hh, hh1, hh2⟩ := HPZ.out.head
            have hh2' : ch ≤ 9223372036854775807 := hh2
            clear hh2
            refine Run.region_walk (S := fun z => z.cell? ⟨b, 0, none⟩ = some (.slice ah L'.length ch) ∧ Below z3.heap.size z3 z)
              lshplays.rows26 lshplays.plan26 (l := ?_) (by kernel_rfl) (by kernel_rfl) (by kernel_rfl) (by kernel_rfl) ?_ ⟨kc (Below.refl _ _).drew hh, (Below.refl _ _).drew⟩ ?_
            rotate_left
            (· simp only [lshplays.plan26, Run.stepsOf, Run.stepOf, Run.guardOf, List.getElem?_toArray, List.getElem?_cons_zero, List.getElem?_cons_succ, Option.map_some, Option.map_none, Option.bind_some, Option.toList_some, List.map_cons, List.map_nil, List.cons_append, List.nil_append, List.append_eq]
               rfl)
            repeat ((first
              | (refine Run.takes (v := ?_) ?_ ?_; rotate_left; (· intro w' hS'; go_simp; (try with_reducible rfl)))
              | (refine Run.takesG (v := ?_) ?_ ?_ ?_; rotate_left; (· simp only [List.getElem?_cons_zero, List.getElem?_cons_succ]); (· intro w' hS'; go_simp; (try with_reducible rfl)))
              | (refine Run.skipsT ?_ ?_; (· simp only [List.getElem?_cons_zero, List.getElem?_cons_succ]))
              | (refine Run.skipsF ?_ ?_; (· simp only [List.getElem?_cons_zero, List.getElem?_cons_succ]))
              | (refine Run.skipsU ?_ ?_; (· simp only [List.getElem?_cons_zero, List.getElem?_cons_succ]))
              | (refine Run.passT ?_ ?_; (· simp only [List.getElem?_cons_zero, List.getElem?_cons_succ]))
              | (refine Run.passF ?_ ?_; (· simp only [List.getElem?_cons_zero, List.getElem?_cons_succ]))
              | (refine Run.passU ?_ ?_; (· simp only [List.getElem?_cons_zero, List.getElem?_cons_succ]))
              | (refine Run.runs ?_
                 (first
                 | (refine Run.callF 20 (by kernel_rfl) (fun hS => pl_slen _ _ s b L' L' _ (HPZ.out.keep hS.2)) rfl ?_)
                 | (refine Run.callG 20 (by kernel_rfl) ?_ (fun hS => pl_slen _ _ s b L' L' _ (HPZ.out.keep hS.2)) rfl ?_; (· simp only [List.getElem?_cons_zero, List.getElem?_cons_succ]))
                 | (refine Run.callF 21 (by kernel_rfl) (fun hS => pl_slive _ _ s b L' L' _ (HPZ.out.keep hS.2)) rfl ?_)
                 | (refine Run.callG 21 (by kernel_rfl) ?_ (fun hS => pl_slive _ _ s b L' L' _ (HPZ.out.keep hS.2)) rfl ?_; (· simp only [List.getElem?_cons_zero, List.getElem?_cons_succ]))
                 | (refine Run.callF 22 (by kernel_rfl) (fun hS => pl_rlive _ _ s b L' L' _ (HPZ.out.keep hS.2)) rfl ?_)
                 | (refine Run.callG 22 (by kernel_rfl) ?_ (fun hS => pl_rlive _ _ s b L' L' _ (HPZ.out.keep hS.2)) rfl ?_; (· simp only [List.getElem?_cons_zero, List.getElem?_cons_succ]))
                 | fail)
                 (first
                 | (rintro hS e w' ⟨rfl, rfl⟩; refine ⟨_, rfl, hS, ?_⟩)
                 | (rintro hS e w' ⟨rfl, hb⟩; refine ⟨_, rfl, ⟨kc hb hS.1, nest hS.2 hb⟩, ?_⟩)
                 | fail))
              | fail); simp only [Act.put, List.setIfInBounds_toArray, List.set_cons_zero, List.set_cons_succ])
            refine Run.ends (fun hS => ?_)
            have HPE := Lib.hid (HPZ.out.keep hS.2)
            have HKE := Lib.hid (nest HKZ.out hS.2)
            clear hS hh
            go_wp2_with fail
            exact ⟨⟨j + 1, s, L', by omega, by go_num, rfl, HPE.out, HKE.out⟩, by simp [intOf]; omega⟩
        by_cases k3 : kd = 3
        · subst k3
          as_aux_lemma =>
            go_wp2_with fail
            refine (pl_fork _ _ s b L z1 HP1.out HKB1.out.size).mono ?_
            rintro e z2 ⟨f2, rfl, hf2, hk⟩
            have HF9 := Lib.hid hf2
            have HKB2 := Lib.hid (nest HKB1.out hk)
            clear hf2 hk HP1 HKB1
            go_wp2_with fail
            refine (fk_cut _ _ s f2 b L 0 0 z2 HF9.out HKB2.out.size (by omega) (by omega)).mono ?_
            rintro e z3 ⟨vq, rfl, hp, ht⟩
            have HP3 := Lib.hid hp
            have HKB3 := Lib.hid (HKB2.out.trans (Tn.below ht HKB2.out.size))
            clear hp ht HF9 HKB2 o0 o4
            go_upto_region 27 with fail
            have HPZ := Lib.hid (HP3.out.less (N' := fun _ => False) (fun _ h => h.elim))
            have HKZ := Lib.hid HKB3.out
            obtain ⟨ah, ch, hh, hh1, hh2⟩ := HPZ.out.head
            have hh2' : ch ≤ 9223372036854775807 := hh2
            clear hh2
            refine Run.region_walk (S := fun z => z.cell? ⟨b, 0, none⟩ = some (.slice ah L.length ch) ∧ Below z3.heap.size z3 z)
              lshplays.rows26 lshplays.plan26 (l := ?_) (by kernel_rfl) (by kernel_rfl) (by kernel_rfl) (by kernel_rfl) ?_ ⟨kc (Below.refl _ _).drew hh, (Below.refl _ _).drew⟩ ?_
            rotate_left
            (· simp only [lshplays.plan26, Run.stepsOf, Run.stepOf, Run.guardOf, List.getElem?_toArray, List.getElem?_cons_zero, List.getElem?_cons_succ, Option.map_some, Option.map_none, Option.bind_some, Option.toList_some, List.map_cons, List.map_nil, List.cons_append, List.nil_append, List.append_eq]
               rfl)
            repeat ((first
              | (refine Run.takes (v := ?_) ?_ ?_; rotate_left; (· intro w' hS'; go_simp; (try with_reducible rfl)))
              | (refine Run.takesG (v := ?_) ?_ ?_ ?_; rotate_left; (· simp only [List.getElem?_cons_zero, List.getElem?_cons_succ]); (· intro w' hS'; go_simp; (try with_reducible rfl)))
              | (refine Run.skipsT ?_ ?_; (· simp only [List.getElem?_cons_zero, List.getElem?_cons_succ]))
              | (refine Run.skipsF ?_ ?_; (· simp only [List.getElem?_cons_zero, List.getElem?_cons_succ]))
              | (refine Run.skipsU ?_ ?_; (· simp only [List.getElem?_cons_zero, List.getElem?_cons_succ]))
              | (refine Run.passT ?_ ?_; (· simp only [List.getElem?_cons_zero, List.getElem?_cons_succ]))
              | (refine Run.passF ?_ ?_; (· simp only [List.getElem?_cons_zero, List.getElem?_cons_succ]))
              | (refine Run.passU ?_ ?_; (· simp only [List.getElem?_cons_zero, List.getElem?_cons_succ]))
              | (refine Run.runs ?_
                 (first
                 | (refine Run.callF 20 (by kernel_rfl) (fun hS => pl_slen _ _ f2 b L L _ (HPZ.out.keep hS.2)) rfl ?_)
                 | (refine Run.callG 20 (by kernel_rfl) ?_ (fun hS => pl_slen _ _ f2 b L L _ (HPZ.out.keep hS.2)) rfl ?_; (· simp only [List.getElem?_cons_zero, List.getElem?_cons_succ]))
                 | (refine Run.callF 21 (by kernel_rfl) (fun hS => pl_slive _ _ f2 b L L _ (HPZ.out.keep hS.2)) rfl ?_)
                 | (refine Run.callG 21 (by kernel_rfl) ?_ (fun hS => pl_slive _ _ f2 b L L _ (HPZ.out.keep hS.2)) rfl ?_; (· simp only [List.getElem?_cons_zero, List.getElem?_cons_succ]))
                 | (refine Run.callF 22 (by kernel_rfl) (fun hS => pl_rlive _ _ f2 b L L _ (HPZ.out.keep hS.2)) rfl ?_)
                 | (refine Run.callG 22 (by kernel_rfl) ?_ (fun hS => pl_rlive _ _ f2 b L L _ (HPZ.out.keep hS.2)) rfl ?_; (· simp only [List.getElem?_cons_zero, List.getElem?_cons_succ]))
                 | fail)
                 (first
                 | (rintro hS e w' ⟨rfl, rfl⟩; refine ⟨_, rfl, hS, ?_⟩)
                 | (rintro hS e w' ⟨rfl, hb⟩; refine ⟨_, rfl, ⟨kc hb hS.1, nest hS.2 hb⟩, ?_⟩)
                 | fail))
              | fail); simp only [Act.put, List.setIfInBounds_toArray, List.set_cons_zero, List.set_cons_succ])
            refine Run.ends (fun hS => ?_)
            have HPE := Lib.hid (HPZ.out.keep hS.2)
            have HKE := Lib.hid (nest HKZ.out hS.2)
            clear hS hh
            go_wp2_with fail
            exact ⟨⟨j + 1, f2, L, by omega, by go_num, rfl, HPE.out, HKE.out⟩, by simp [intOf]; omega⟩
        skip
        as_aux_lemma =>
          have ek1 : (kd == 1) = false := beq_eq_false_iff_ne.2 k1
          have ek2 : (kd == 2) = false := beq_eq_false_iff_ne.2 k2
          have ek3 : (kd == 3) = false := beq_eq_false_iff_ne.2 k3
          have o1 : z1.cell? ⟨g10, 1, none⟩ = some (.int .u32 ya) := HBO1.out.cell 1
          have o2 : z1.cell? ⟨g10, 2, none⟩ = some (.int .u64 yi) := HBO1.out.cell 2
          have o3 : z1.cell? ⟨g10, 3, none⟩ = some (.int .u64 yv) := HBO1.out.cell 3
          have o5 : z1.cell? ⟨g10, 5, none⟩ = some (.bool yg) := HBO1.out.cell 5
          go_wp2_with fail
          refine (pl_sput _ _ s b L L z1 (ya, (yi, yv, yl), yg) (.slice ax yl.length cx) HP1.out HKB1.out.size (HXA.out _ HK1.out) HYE.out).mono ?_
          obtain ⟨PL, hPL⟩ : ∃ P, P = putL L (ya, (yi, yv, yl), yg) := ⟨_, rfl⟩
          have HPR : Hid (∀ z, Pl w0.heap.size (fun j => j = g10) z s b PL.1 L → w0.heap.size ≤ z.heap.size → Below w.heap.size w z → Calls Try.prog 19 #[.pointer (some ⟨b, 0, none⟩), .agg #[.int .u32 ya, .int .u64 yi, .int .u64 yv, .slice ax yl.length cx, .bool yg]] z fun e z' => e = .returned (.tuple #[.bool PL.2.1, .int .i64 PL.2.2]) ∧ Pl w0.heap.size (fun j => j = g10) z' s b PL.1 PL.1 ∧ Tn w0.heap.size (fun j => j = g10) z z') := Lib.hid (fun z hz hB hw => by rw [hPL] at hz ⊢; exact pl_rput _ _ s b _ L z (ya, (yi, yv, yl), yg) (.slice ax yl.length cx) hz hB (HXA.out _ hw) HYE.out HF.out.2.1 HLN.out)
          rw [← hPL]
          clear hPL
          obtain ⟨PL, pb, pe⟩ := PL
          rintro e z2 ⟨rfl, hp, ht⟩
          have HP2 := Lib.hid hp
          have HKB2 := Lib.hid (HKB1.out.trans (Tn.below ht HKB1.out.size))
          have HK2 := Lib.hid (HK.out.trans (HKB2.out.mono HK.out.size))
          have HBO2 := Lib.hid (Tn.blk HBO1.out ht rfl)
          clear hp ht o0 o1 o2 o3 o4 o5 HP1 HKB1 HBO1
          have o1 : z2.cell? ⟨g10, 1, none⟩ = some (.int .u32 ya) := HBO2.out.cell 1
          have o2 : z2.cell? ⟨g10, 2, none⟩ = some (.int .u64 yi) := HBO2.out.cell 2
          have o3 : z2.cell? ⟨g10, 3, none⟩ = some (.int .u64 yv) := HBO2.out.cell 3
          have o4 : z2.cell? ⟨g10, 4, none⟩ = some (.slice ax yl.length cx) := HBO2.out.cell 4
          have o5 : z2.cell? ⟨g10, 5, none⟩ = some (.bool yg) := HBO2.out.cell 5
          go_wp2_with fail
          refine (HPR.out z2 HP2.out HKB2.out.size HK2.out).mono ?_
          rintro e z3 ⟨rfl, hp, ht⟩
          have HP3 := Lib.hid hp
          have HKB3 := Lib.hid (HKB2.out.trans (Tn.below ht HKB2.out.size))
          clear hp ht o1 o2 o3 o4 o5 HP2 HKB2 HBO2 HPR
          go_upto_region 27 with fail
          have HPZ := Lib.hid (HP3.out.less (N' := fun _ => False) (fun _ h => h.elim))
          have HKZ := Lib.hid HKB3.out
          obtain ⟨ah, ch, hh, hh1, hh2⟩ := HPZ.out.head
          have hh2' : ch ≤ 9223372036854775807 := hh2
          clear hh2
          refine Run.region_walk (S := fun z => z.cell? ⟨b, 0, none⟩ = some (.slice ah PL.length ch) ∧ Below z3.heap.size z3 z)
            lshplays.rows26 lshplays.plan26 (l := ?_) (by kernel_rfl) (by kernel_rfl) (by kernel_rfl) (by kernel_rfl) ?_ ⟨kc (Below.refl _ _).drew hh, (Below.refl _ _).drew⟩ ?_
          rotate_left
          (· simp only [lshplays.plan26, Run.stepsOf, Run.stepOf, Run.guardOf, List.getElem?_toArray, List.getElem?_cons_zero, List.getElem?_cons_succ, Option.map_some, Option.map_none, Option.bind_some, Option.toList_some, List.map_cons, List.map_nil, List.cons_append, List.nil_append, List.append_eq]
             rfl)
          repeat ((first
            | (refine Run.takes (v := ?_) ?_ ?_; rotate_left; (· intro w' hS'; go_simp; (try with_reducible rfl)))
            | (refine Run.takesG (v := ?_) ?_ ?_ ?_; rotate_left; (· simp only [List.getElem?_cons_zero, List.getElem?_cons_succ]); (· intro w' hS'; go_simp; (try with_reducible rfl)))
            | (refine Run.skipsT ?_ ?_; (· simp only [List.getElem?_cons_zero, List.getElem?_cons_succ]))
            | (refine Run.skipsF ?_ ?_; (· simp only [List.getElem?_cons_zero, List.getElem?_cons_succ]))
            | (refine Run.skipsU ?_ ?_; (· simp only [List.getElem?_cons_zero, List.getElem?_cons_succ]))
            | (refine Run.passT ?_ ?_; (· simp only [List.getElem?_cons_zero, List.getElem?_cons_succ]))
            | (refine Run.passF ?_ ?_; (· simp only [List.getElem?_cons_zero, List.getElem?_cons_succ]))
            | (refine Run.passU ?_ ?_; (· simp only [List.getElem?_cons_zero, List.getElem?_cons_succ]))
            | (refine Run.runs ?_
               (first
               | (refine Run.callF 20 (by kernel_rfl) (fun hS => pl_slen _ _ s b PL PL _ (HPZ.out.keep hS.2)) rfl ?_)
               | (refine Run.callG 20 (by kernel_rfl) ?_ (fun hS => pl_slen _ _ s b PL PL _ (HPZ.out.keep hS.2)) rfl ?_; (· simp only [List.getElem?_cons_zero, List.getElem?_cons_succ]))
               | (refine Run.callF 21 (by kernel_rfl) (fun hS => pl_slive _ _ s b PL PL _ (HPZ.out.keep hS.2)) rfl ?_)
               | (refine Run.callG 21 (by kernel_rfl) ?_ (fun hS => pl_slive _ _ s b PL PL _ (HPZ.out.keep hS.2)) rfl ?_; (· simp only [List.getElem?_cons_zero, List.getElem?_cons_succ]))
               | (refine Run.callF 22 (by kernel_rfl) (fun hS => pl_rlive _ _ s b PL PL _ (HPZ.out.keep hS.2)) rfl ?_)
               | (refine Run.callG 22 (by kernel_rfl) ?_ (fun hS => pl_rlive _ _ s b PL PL _ (HPZ.out.keep hS.2)) rfl ?_; (· simp only [List.getElem?_cons_zero, List.getElem?_cons_succ]))
               | fail)
               (first
               | (rintro hS e w' ⟨rfl, rfl⟩; refine ⟨_, rfl, hS, ?_⟩)
               | (rintro hS e w' ⟨rfl, hb⟩; refine ⟨_, rfl, ⟨kc hb hS.1, nest hS.2 hb⟩, ?_⟩)
               | fail))
            | fail); simp only [Act.put, List.setIfInBounds_toArray, List.set_cons_zero, List.set_cons_succ])
          refine Run.ends (fun hS => ?_)
          have HPE := Lib.hid (HPZ.out.keep hS.2)
          have HKE := Lib.hid (nest HKZ.out hS.2)
          clear hS hh
          go_wp2_with fail
          exact ⟨⟨j + 1, s, PL, by omega, by go_num, rfl, HPE.out, HKE.out⟩, by simp [intOf]; omega⟩
    rcases (show ¬ (j : Int) < (l.length : Int) ∨ ((j : Int) < (l.length : Int) ∧ ¬ (j : Int) < 40) by omega) with q | ⟨q1, q2⟩
    all_goals
      obtain ⟨Y, hY⟩ : ∃ Y, Y = getE L kv ki := ⟨_, rfl⟩
      obtain ⟨⟨ya, ⟨yi, yv, yl⟩, yg⟩, yb⟩ := Y
      have HGS : Hid (∀ z, Pl w0.heap.size (fun _ => False) z s b L L → Calls Try.prog 23 #[.pointer (some ⟨s, 0, none⟩), .agg #[.int .u32 kv, .int .u64 ki]] z fun e z' => ∃ x, e = .returned (.tuple #[.agg #[.int .u32 ya, .int .u64 yi, .int .u64 yv, x, .bool yg], .bool yb]) ∧ Rd (intE .u32) z' x yl ∧ Below z.heap.size z z') := Lib.hid (fun z hz => by have := pl_sget _ _ s b L L z kv ki hz HBV.out HBI.out; rw [← hY] at this; exact this)
      have HGR : Hid (∀ z, Pl w0.heap.size (fun _ => False) z s b L L → Calls Try.prog 24 #[.pointer (some ⟨b, 0, none⟩), .agg #[.int .u32 kv, .int .u64 ki]] z fun e z' => ∃ x, e = .returned (.tuple #[.agg #[.int .u32 ya, .int .u64 yi, .int .u64 yv, x, .bool yg], .bool yb]) ∧ Rd (intE .u32) z' x yl ∧ Below z.heap.size z z') := Lib.hid (fun z hz => by have := pl_rget _ _ s b L L z kv ki hz HF.out.2.1 (by have := HF.out.2.2; omega); rw [← hY] at this; exact this)
      have HB5o := Lib.hid (HB5.out.keep HKB.out)
      have HB4o := Lib.hid (HB4.out.keep HKB.out)
      clear hY HB4 HB5 HT HA HBV HBI
      go_upto_region 30 with (first | (refine at_load 5 rfl ?_; refine wpList_load_row rfl 28 (.tmp 5) rfl g5 rfl 28 _ (0, 0) _ HB5o.out Try.underlying28 rfl key_info ?_) | (go_at_call 23; refine (HGS.out _ HP.out).mono ?_; rintro e z1 ⟨x1, rfl, hx1, hk1⟩; have HX1 := Lib.hid hx1; have HK1 := Lib.hid hk1; obtain ⟨a1, c1, rfl, _, _⟩ := hx1.form; clear hx1 hk1) | (refine at_store 16 rfl ?_; refine wpList_store_row rfl 40 (.tmp 16) (.tmp 131) rfl z1.heap.size #[.int .u32 ya, .int .u64 yi, .int .u64 yv, .slice a1 yl.length c1, .bool yg] rfl rfl 40 _ (heap_alloc_new z1 _) ent_info' rfl (by simp [Value.oneCell']) ?_))
      (try rw [World.setRow_alloc_new])
      have hX := more (Below.refl z1.heap.size z1) (.cells #[.int .u32 ya, .int .u64 yi, .int .u64 yv, .slice a1 yl.length c1, .bool yg] 40)
      have HBX := Lib.hid (Blk.new z1 40 #[.int .u32 ya, .int .u64 yi, .int .u64 yv, .slice a1 yl.length c1, .bool yg])
      have HP2 := Lib.hid ((HP.out.keep HK1.out).keep hX)
      have HB52 := Lib.hid ((HB5o.out.keep HK1.out).keep hX)
      have HB42 := Lib.hid ((HB4o.out.keep HK1.out).keep hX)
      have HX2 := Lib.hid (HX1.out.keep hX)
      have HK2 := Lib.hid (nest (nest HKW.out HK1.out) hX)
      clear hX HP HB5o HB4o HX1 HKW HK1 HGS
      generalize z1.alloc (.cells #[.int .u32 ya, .int .u64 yi, .int .u64 yv, .slice a1 yl.length c1, .bool yg] 40) = z2 at *
      obtain ⟨g16, hg16⟩ : ∃ g, g = z1.heap.size := ⟨_, rfl⟩
      rw [← hg16] at HBX ⊢
      clear hg16
      go_upto_region 31 with (first | (refine at_load 5 rfl ?_; refine wpList_load_row rfl 28 (.tmp 5) rfl g5 rfl 28 _ (0, 0) _ HB52.out Try.underlying28 rfl key_info ?_) | (go_at_call 24; refine (HGR.out _ HP2.out).mono ?_; rintro e z3 ⟨x3, rfl, hx3, hk3⟩; have HX3 := Lib.hid hx3; have HK3 := Lib.hid hk3; obtain ⟨a3, c3, rfl, _, _⟩ := hx3.form; clear hx3 hk3) | (refine at_store 18 rfl ?_; refine wpList_store_row rfl 40 (.tmp 18) (.tmp 137) rfl z3.heap.size #[.int .u32 ya, .int .u64 yi, .int .u64 yv, .slice a3 yl.length c3, .bool yg] rfl rfl 40 _ (heap_alloc_new z3 _) ent_info' rfl (by simp [Value.oneCell']) ?_))
      (try rw [World.setRow_alloc_new])
      have hX := more (Below.refl z3.heap.size z3) (.cells #[.int .u32 ya, .int .u64 yi, .int .u64 yv, .slice a3 yl.length c3, .bool yg] 40)
      have HBY := Lib.hid (Blk.new z3 40 #[.int .u32 ya, .int .u64 yi, .int .u64 yv, .slice a3 yl.length c3, .bool yg])
      have hk34 := nest HK3.out hX
      have HBX4 := Lib.hid (HBX.out.keep hk34)
      have HP4 := Lib.hid (HP2.out.keep hk34)
      have HB44 := Lib.hid (HB42.out.keep hk34)
      have HX4 := Lib.hid (HX2.out.keep hk34)
      have HX34 := Lib.hid (HX3.out.keep hX)
      have HK4 := Lib.hid (nest HK2.out hk34)
      have HVE : Hid (∀ y ∈ scanL f t L, entB y) := Lib.hid (fun y hy => (HF.out.2.1 y (List.mem_filter.1 ((scanL_perm f t L).mem_iff.1 hy)).1).1)
      clear hX hk34 HP2 HB52 HB42 HX2 HX3 HK2 HK3 HGR HBX
      generalize z3.alloc (.cells #[.int .u32 ya, .int .u64 yi, .int .u64 yv, .slice a3 yl.length c3, .bool yg] 40) = z4 at *
      obtain ⟨g18, hg18⟩ : ∃ g, g = z3.heap.size := ⟨_, rfl⟩
      rw [← hg18] at HBY ⊢
      clear hg18
      refine Run.region_walk (S := fun z => Blk z g4 25 #[.int .u32 f, .int .u32 t] ∧ Blk z g16 40 #[.int .u32 ya, .int .u64 yi, .int .u64 yv, .slice a1 yl.length c1, .bool yg] ∧ Blk z g18 40 #[.int .u32 ya, .int .u64 yi, .int .u64 yv, .slice a3 yl.length c3, .bool yg] ∧ Below z4.heap.size z4 z)
        lshplays.rows31 lshplays.plan31 (l := ?_) (by kernel_rfl) (by kernel_rfl) (by kernel_rfl) (by kernel_rfl) ?_ ⟨HB44.out.keep (Below.refl _ _).drew, HBX4.out.keep (Below.refl _ _).drew, HBY.out.keep (Below.refl _ _).drew, (Below.refl _ _).drew⟩ ?_
      rotate_left
      (· simp only [lshplays.plan31, Run.stepsOf, Run.stepOf, Run.guardOf, List.getElem?_toArray, List.getElem?_cons_zero, List.getElem?_cons_succ, Option.map_some, Option.map_none, Option.bind_some, Option.toList_some, List.map_cons, List.map_nil, List.cons_append, List.nil_append, List.append_eq]
         rfl)
      repeat ((first
        | (refine Run.takes (v := ?_) ?_ ?_; rotate_left; (· intro w' hS'; (first | (refine exec_load_blk (n := 2) (x := .tmp 4) (l := [.int .u32 f, .int .u32 t]) ?_ Try.underlying25 span_info9 ?_ ?_ hS'.1 <;> rfl) | (go_simp; (try with_reducible rfl)))))
        | (refine Run.takesG (v := ?_) ?_ ?_ ?_; rotate_left; (· simp only [List.getElem?_cons_zero, List.getElem?_cons_succ]); (· intro w' hS'; (first | (refine exec_load_blk (n := 2) (x := .tmp 4) (l := [.int .u32 f, .int .u32 t]) ?_ Try.underlying25 span_info9 ?_ ?_ hS'.1 <;> rfl) | (go_simp; (try with_reducible rfl)))))
        | (refine Run.skipsT ?_ ?_; (· simp only [List.getElem?_cons_zero, List.getElem?_cons_succ]))
        | (refine Run.skipsF ?_ ?_; (· simp only [List.getElem?_cons_zero, List.getElem?_cons_succ]))
        | (refine Run.skipsU ?_ ?_; (· simp only [List.getElem?_cons_zero, List.getElem?_cons_succ]))
        | (refine Run.passT ?_ ?_; (· simp only [List.getElem?_cons_zero, List.getElem?_cons_succ]))
        | (refine Run.passF ?_ ?_; (· simp only [List.getElem?_cons_zero, List.getElem?_cons_succ]))
        | (refine Run.passU ?_ ?_; (· simp only [List.getElem?_cons_zero, List.getElem?_cons_succ]))
        | (refine Run.runs ?_
           (first
           | (refine Run.callF 25 (by kernel_rfl) (fun hS => pl_sscan _ _ s b L L _ f t (HP4.out.keep hS.2.2.2) HBF.out HBT.out) rfl ?_)
           | (refine Run.callG 25 (by kernel_rfl) ?_ (fun hS => pl_sscan _ _ s b L L _ f t (HP4.out.keep hS.2.2.2) HBF.out HBT.out) rfl ?_; (· simp only [List.getElem?_cons_zero, List.getElem?_cons_succ]))
           | fail)
           (first
           | (rintro hS e w' ⟨vq, rfl, hvq, hb⟩; have HVQ := Lib.hid hvq; obtain ⟨aq, gq, oq, cq, rfl, _⟩ := hvq.at; refine ⟨_, rfl, ⟨hS.1.keep hb, hS.2.1.keep hb, hS.2.2.1.keep hb, nest hS.2.2.2 hb⟩, ?_⟩; clear hvq)
           | (rintro hS e w' ⟨rfl, rfl⟩; refine ⟨_, rfl, hS, ?_⟩)
           | fail))
        | fail); simp only [Act.put, List.setIfInBounds_toArray, List.set_cons_zero, List.set_cons_succ])
      repeat ((first
        | (refine Run.takes (v := ?_) ?_ ?_; rotate_left; (· intro w' hS'; go_simp; (try with_reducible rfl)))
        | (refine Run.takesG (v := ?_) ?_ ?_ ?_; rotate_left; (· simp only [List.getElem?_cons_zero, List.getElem?_cons_succ]); (· intro w' hS'; go_simp; (try with_reducible rfl)))
        | (refine Run.skipsT ?_ ?_; (· simp only [List.getElem?_cons_zero, List.getElem?_cons_succ]))
        | (refine Run.skipsF ?_ ?_; (· simp only [List.getElem?_cons_zero, List.getElem?_cons_succ]))
        | (refine Run.skipsU ?_ ?_; (· simp only [List.getElem?_cons_zero, List.getElem?_cons_succ]))
        | (refine Run.passT ?_ ?_; (· simp only [List.getElem?_cons_zero, List.getElem?_cons_succ]))
        | (refine Run.passF ?_ ?_; (· simp only [List.getElem?_cons_zero, List.getElem?_cons_succ]))
        | (refine Run.passU ?_ ?_; (· simp only [List.getElem?_cons_zero, List.getElem?_cons_succ]))
        | (refine Run.runs ?_
           (first
           | (refine Run.callF 26 (by kernel_rfl) (fun hS => pl_rscan _ _ s b L L _ f t (HP4.out.keep hS.2.2.2) HBF.out HBT.out HF.out.2.1 (by have := HF.out.2.2; omega)) rfl ?_)
           | (refine Run.callG 26 (by kernel_rfl) ?_ (fun hS => pl_rscan _ _ s b L L _ f t (HP4.out.keep hS.2.2.2) HBF.out HBT.out HF.out.2.1 (by have := HF.out.2.2; omega)) rfl ?_; (· simp only [List.getElem?_cons_zero, List.getElem?_cons_succ]))
           | fail)
           (first
           | (rintro hS e w' ⟨vq, rfl, hvq, hb⟩; have HVR := Lib.hid hvq; have HVQ2 := Lib.hid (HVQ.out.keep hb); obtain ⟨ar, gr, or', cr, rfl, _⟩ := hvq.at; refine ⟨_, rfl, ⟨hS.1.keep hb, hS.2.1.keep hb, hS.2.2.1.keep hb, nest hS.2.2.2 hb⟩, ?_⟩; clear hvq)
           | (rintro hS e w' ⟨rfl, rfl⟩; refine ⟨_, rfl, hS, ?_⟩)
           | fail))
        | fail); simp only [Act.put, List.setIfInBounds_toArray, List.set_cons_zero, List.set_cons_succ])
      repeat ((first
        | (refine Run.takes (v := ?_) ?_ ?_; rotate_left; (· intro w' hS'; (first | (refine exec_load_blk (n := 5) (x := .tmp 16) (l := [.int .u32 ya, .int .u64 yi, .int .u64 yv, .slice a1 yl.length c1, .bool yg]) ?_ Try.underlying40 ent_info' ?_ ?_ hS'.2.1 <;> rfl) | (refine exec_load_blk (n := 5) (x := .tmp 18) (l := [.int .u32 ya, .int .u64 yi, .int .u64 yv, .slice a3 yl.length c3, .bool yg]) ?_ Try.underlying40 ent_info' ?_ ?_ hS'.2.2.1 <;> rfl) | (go_simp; (try with_reducible rfl)))))
        | (refine Run.takesG (v := ?_) ?_ ?_ ?_; rotate_left; (· simp only [List.getElem?_cons_zero, List.getElem?_cons_succ]); (· intro w' hS'; (first | (refine exec_load_blk (n := 5) (x := .tmp 16) (l := [.int .u32 ya, .int .u64 yi, .int .u64 yv, .slice a1 yl.length c1, .bool yg]) ?_ Try.underlying40 ent_info' ?_ ?_ hS'.2.1 <;> rfl) | (refine exec_load_blk (n := 5) (x := .tmp 18) (l := [.int .u32 ya, .int .u64 yi, .int .u64 yv, .slice a3 yl.length c3, .bool yg]) ?_ Try.underlying40 ent_info' ?_ ?_ hS'.2.2.1 <;> rfl) | (go_simp; (try with_reducible rfl)))))
        | (refine Run.skipsT ?_ ?_; (· simp only [List.getElem?_cons_zero, List.getElem?_cons_succ]))
        | (refine Run.skipsF ?_ ?_; (· simp only [List.getElem?_cons_zero, List.getElem?_cons_succ]))
        | (refine Run.skipsU ?_ ?_; (· simp only [List.getElem?_cons_zero, List.getElem?_cons_succ]))
        | (refine Run.passT ?_ ?_; (· simp only [List.getElem?_cons_zero, List.getElem?_cons_succ]))
        | (refine Run.passF ?_ ?_; (· simp only [List.getElem?_cons_zero, List.getElem?_cons_succ]))
        | (refine Run.passU ?_ ?_; (· simp only [List.getElem?_cons_zero, List.getElem?_cons_succ]))
        | (refine Run.runs ?_
           (first
           | (refine Run.callF 12 (by kernel_rfl) (fun hS => entries_yes _ _ (scanL f t L) _ HVQ2.out HVR.out HVE.out) rfl ?_)
           | (refine Run.callG 12 (by kernel_rfl) ?_ (fun hS => entries_yes _ _ (scanL f t L) _ HVQ2.out HVR.out HVE.out) rfl ?_; (· simp only [List.getElem?_cons_zero, List.getElem?_cons_succ]))
           | (refine Run.callF 27 (by kernel_rfl) (fun hS => entry_yes (ya, (yi, yv, yl), yg) (.slice a1 yl.length c1) (.slice a3 yl.length c3) _ (HX4.out.keep hS.2.2.2) (HX34.out.keep hS.2.2.2)) rfl ?_)
           | (refine Run.callG 27 (by kernel_rfl) ?_ (fun hS => entry_yes (ya, (yi, yv, yl), yg) (.slice a1 yl.length c1) (.slice a3 yl.length c3) _ (HX4.out.keep hS.2.2.2) (HX34.out.keep hS.2.2.2)) rfl ?_; (· simp only [List.getElem?_cons_zero, List.getElem?_cons_succ]))
           | fail)
           (first
           | (rintro hS e w' ⟨rfl, rfl⟩; refine ⟨_, rfl, hS, ?_⟩)
           | (rintro hS e w' ⟨rfl, hb⟩; refine ⟨_, rfl, ⟨hS.1.keep hb, hS.2.1.keep hb, hS.2.2.1.keep hb, nest hS.2.2.2 hb⟩, ?_⟩)
           | fail))
        | fail); simp only [Act.put, List.setIfInBounds_toArray, List.set_cons_zero, List.set_cons_succ])
      refine Run.ends (fun hS => ?_)
      have HE9 := Lib.hid (nest HK4.out hS.2.2.2)
      clear hS
      go_wp2_with fail
      go_ret
      exact ⟨rfl, HE9.out⟩
end Go.Proofs.Ytmcnfndebmcapaa.shelfPlays
