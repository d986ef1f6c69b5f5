/- Walk of package cover: fill. -/
import Derived.Test.YtbdijeekekaibaaCover3
import Derived.Outline
namespace Go.Proofs.Ytbdijeekekaibaa
open Go.RowKit Cir Mem
set_option linter.unusedSimpArgs false
set_option linter.unusedVariables false
attribute [local irreducible] Go.Calls

def FillPost (B b : Nat) (f t x y : Int) (l : List (Int × Int)) (w : World) (e : Ending) (w' : World) : Prop := e = .returned (.int .u64 (cntL x y l)) ∧ CoverAt B w' b f t (fillL x y l) ∧ Only b w w'
theorem fst_found {x : Int} {l : List (Int × Int)} {r : Nat} (h0 : r ≤ l.length) (h1 : ∀ k, k < r → (fun i => decide (x < (l.getD i (0, 0)).2)) k = false) (h2 : r < l.length → (fun i => decide (x < (l.getD i (0, 0)).2)) r = true) : r = fstI x l :=
  (while_len _ l r h0 (fun k hk => by have := h1 k hk; simp at this ⊢; omega) (fun hk => by have := h2 hk; simp at this ⊢; omega)).symm
theorem end_found {y : Int} {l : List (Int × Int)} {r : Nat} (h0 : r ≤ l.length) (h1 : ∀ k, k < r → (fun i => decide (y ≤ (l.getD i (0, 0)).1)) k = false) (h2 : r < l.length → (fun i => decide (y ≤ (l.getD i (0, 0)).1)) r = true) : r = endI y l :=
  (while_len _ l r h0 (fun k hk => by have := h1 k hk; simp at this ⊢; omega) (fun hk => by have := h2 hk; simp at this ⊢; omega)).symm
theorem rise2 {n x : Int} {l : List (Int × Int)} (hn : Norm n 0 l) : ∀ i j, i ≤ j → j < l.length → decide (x < (l.getD i (0, 0)).2) = true → decide (x < (l.getD j (0, 0)).2) = true := by
  intro i j hij hj h
  rcases Nat.eq_or_lt_of_le hij with rfl | hlt
  · exact h
  · have h1 := hn.le i j hlt hj
    have h2 := hn.at hj
    simp only [decide_eq_true_eq] at h ⊢
    omega
theorem rise1 {n y : Int} {l : List (Int × Int)} (hn : Norm n 0 l) : ∀ i j, i ≤ j → j < l.length → decide (y ≤ (l.getD i (0, 0)).1) = true → decide (y ≤ (l.getD j (0, 0)).1) = true := by
  intro i j hij hj h
  rcases Nat.eq_or_lt_of_le hij with rfl | hlt
  · exact h
  · have h1 := hn.le i j hlt hj
    have h2 := hn.at (k := i) (by omega)
    simp only [decide_eq_true_eq] at h ⊢
    omega

set_option maxHeartbeats 4000000 in
theorem cfill_any (B b : Nat) (f t n x y : Int) (l : List (Int × Int)) (w : World) (h : CoverAt B w b f t l) (hn : Norm n 0 l) (hn0 : 0 ≤ n ∧ n ≤ 4294967296) (hxy : x < y) (hx : 0 ≤ x) (hy : y ≤ 4294967296) (hl : l.length ≤ 1000000) :
    Calls Try.prog 24 #[.pointer (some ⟨b, 0, none⟩), .agg #[.int .u64 x, .int .u64 y]] w (FillPost B b f t x y l w) := by
  obtain ⟨hB, v, hblk, hrow⟩ := h
  obtain ⟨a, c, rfl, hlc, hcm⟩ := hrow.rd.form
  have hv : w.cell? ⟨b, 2, none⟩ = some (.slice a l.length c) := hblk.cell 2
  have hbl := hblk.lt
  have hbl2 : b < w.heap.size + 1 := by omega
  go_enter Try.func24, Try.ntmps24
  go_wp2_with fail
  generalize hW : (w.alloc (Obj.cells #[Value.pointer (some ⟨b, 0, none⟩)] 26)).alloc (Obj.cells #[Value.int IntKind.u64 x, Value.int IntKind.u64 y] 49) = W
  have hb0 : Below w.heap.size w W := hW ▸ more (more (Below.refl _ _) _) _
  have hcaps : Caps W w.heap.size (w.heap.size + 1) b x y a l.length c := by
    refine ⟨by rw [← hW]; simp, by rw [← hW]; simp, by rw [← hW]; simp, kc hb0 hv⟩
  clear hW
  refine (cf1_search w.heap.size (w.heap.size + 1) b x y B l a c W hcaps (hrow.keep hb0) hl (rise2 hn)).mono ?_
  rintro e w1 ⟨r1, rfl, h0, h1, h2, hk1⟩
  obtain rfl := fst_found h0 h1 h2
  clear h1 h2
  have hb1 := nest hb0 hk1
  have hcaps1 := hcaps.keep hk1
  have e1 := hcaps1.1
  have e2 := hcaps1.2.2.2
  go_wp2_with fail
  refine (cf2_search w.heap.size (w.heap.size + 1) b x y B l a c w1 hcaps1 (hrow.keep hb1) hl (rise1 hn)).mono ?_
  rintro e w2 ⟨r2, rfl, h3, h1, h2, hk2⟩
  obtain rfl := end_found h3 h1 h2
  clear h1 h2 e1 e2
  have hb2 := nest hb1 hk2
  obtain ⟨e1, e3, e4, e2⟩ := hcaps1.keep hk2
  have hfe := fst_le_end hxy hn
  have HFE := Lib.hid hfe
  clear hcaps hcaps1
  generalize hi1 : fstI x l = i1 at *
  generalize hi2 : endI y l = i2 at *
  have HI1 := Lib.hid hi1
  have HI2 := Lib.hid hi2
  clear hi1 hi2
  have hcut := run_cut stretchElem a l.length c i1 i2 hfe (by omega)
  have hrm : Rd (pairE .u64) w2 (.slice (cutA a c i1 2) (i2 - i1) (c - i1)) (midL x y l) := by
    unfold midL
    rw [HI1.out, HI2.out]
    exact (hrow.keep hb2).rd.cutA hfe h3
  have hmm := Lib.hid (mid_mem (x := x) (y := y) hn)
  have hov0 := ovl_bd hxy hn hn0
  generalize hmd : midL x y l = md at *
  have HMD := Lib.hid hmd
  have hov := Lib.hid hov0
  clear hmd hov0
  obtain ⟨a', g, off, c', hv', hl1, hl2, hag, hcells⟩ := hrm.loop
  injection hv' with ea en ec
  have HEN := Lib.hid en
  rw [ea, en] at hcut
  clear ea en ec hl1 hl2
  have HAG := Lib.hid hag
  have HC := Lib.hid hcells
  clear hag hcells hrm
  have hml : md.length ≤ 1000000 := by have := HEN.out; omega
  go_wp2_with fail
  clear hcut
  go_loopw [7, 8, 33] (fun s o i wr => ∃ k : Nat, k ≤ md.length ∧ i = .int .i64 k ∧ s = .int .u64 (((md.take k).map (ovl x y)).sum) ∧ Row (pairE .u64) 49 w2.heap.size wr o ((md.take k).flatMap (cutG x y)) ∧ Below w2.heap.size w2 wr) (fun _ _ i _ => md.length - (intOf i).toNat)
  case atStart => exact ⟨0, Nat.zero_le _, rfl, by simp, Row.nil, Below.refl _ _⟩
  case round =>
    obtain ⟨k, hk, rfl, rfl, hro, hb⟩ := hrel
    by_cases hlt : k < md.length
    · obtain ⟨rfl, hg⟩ := HAG.out (by omega)
      have d1 := (hb.cell (p := ⟨g, off + k * 2, none⟩) hg).trans (HC.out k hlt).1
      have d2 := (hb.cell (p := ⟨g, off + k * 2 + 1, none⟩) hg).trans (HC.out k hlt).2
      have d3 := kc hb e3
      have d4 := kc hb e4
      have hl3 : w.heap.size + 1 < wr.heap.size := World.block_lt_of_cell? wr _ d4
      have hmem := hmm.out (md.getD k (0, 0)) (by simp [List.getD, hlt])
      have hpb := hn.all _ hmem.1
      have HS := Lib.hid (sum_take md (ovl x y) k hlt)
      have HF := Lib.hid (flat_take md (cutG x y) k hlt)
      have hbd := hov.out k
      have hbd2 := hov.out (k + 1)
      rw [HS.out] at hbd2
      have hfl := cuts_len md x y k
      generalize md.getD k (0, 0) = s at *
      obtain ⟨p, q⟩ := s
      simp only [] at d1 d2 hmem hpb
      obtain ⟨_, hxq, hpy⟩ := hmem
      generalize (((md.take k).map (ovl x y)).sum) = sm at *
      generalize (md.take k).flatMap (cutG x y) = fl at *
      have hcg : cutG x y (p, q) = (if p < x then [(p, x)] else []) ++ (if y < q then [(y, q)] else []) := rfl
      have HCG := Lib.hid hcg
      have hX : Below wr.heap.size wr (wr.alloc (Obj.cells #[Value.int IntKind.u64 p, Value.int IntKind.u64 q] 49)) := more (Below.refl _ _) _
      clear hcg
      by_cases ha : p < x
      · by_cases hq : y < q
        · have ho : ovl x y (p, q) = y - x := by unfold ovl; simp only []; rw [if_pos ha]; rw [if_neg (by omega)]
          have HO := Lib.hid ho
          have hx0 : y - x = y - x := rfl
          rw [ho] at hbd2
          clear ho hx0
          go_wp2_with (first
            | (at_builtin; refine wpList_append (E := pairE .u64) (B := w2.heap.size) (l := fl) (m := [(p, x)]) (bytes := 16) stretchElem Nat.zero_lt_two rfl (.tmp 55) (.tmp 61) rfl rfl ((hro.keep (more (Below.refl _ _) _)).keep (more (Below.refl _ _) _)) rfl (Rd.fresh _ (p, x) _ _ _ rfl (by first | rfl | simp)) (by simp only [maxLen, List.length_append, List.length_cons, List.length_nil]; omega) (by simp only [List.length_append, List.length_cons, List.length_nil]; omega) (nest hb (more (more (Below.refl _ _) _) _)).size ?_; intro v5 x5 hrx5 hkx5 hgx5 _
               have c0 := hgx5.cell (a := ⟨wr.heap.size, 0, none⟩) (v := .int .u64 p) (by simp) (hro.new_ne (Nat.le_refl _))
               have c1 := hgx5.cell (a := ⟨wr.heap.size, 1, none⟩) (v := .int .u64 q) (by simp) (hro.new_ne (Nat.le_refl _))
               have hb5 : Below w2.heap.size w2 x5 := (nest hb (more (more (Below.refl _ _) _) _)).trans hkx5
               have c3 := kc hb5 e3
               have c4 := kc hb5 e4
               have l5 := World.block_lt_of_cell? x5 _ c4
               have l6 := World.block_lt_of_cell? x5 _ c0
               simp only [] at l5 l6
               clear hgx5 hkx5)
            | (at_builtin; refine wpList_append (E := pairE .u64) (B := w2.heap.size) (l := fl ++ [(p, x)]) (m := [(y, q)]) (bytes := 16) stretchElem Nat.zero_lt_two rfl (.tmp 68) (.tmp 74) rfl rfl (hrx5.keep (more (Below.refl _ _) _)) rfl (Rd.fresh _ (y, q) _ _ _ rfl (by first | rfl | simp)) (by simp only [maxLen, List.length_append, List.length_cons, List.length_nil]; omega) (by simp only [List.length_append, List.length_cons, List.length_nil]; omega) (nest hb5 (more (Below.refl _ _) _)).size ?_; intro v6 x6 hrx6 hkx6 hgx6 _
               have hb6 : Below w2.heap.size w2 x6 := (nest hb5 (more (Below.refl _ _) _)).trans hkx6
               clear hgx6))
          go_roundw
          case rel => exact ⟨k + 1, by omega, by go_num, by rw [HS.out, HO.out], by rw [HF.out, HCG.out, if_pos ha, if_pos hq]; simpa using hrx6, hb6⟩
          case measure => simp [intOf]; omega
        · have ho : ovl x y (p, q) = q - x := by unfold ovl; simp only []; rw [if_pos ha]; split <;> omega
          have HO := Lib.hid ho
          have hx0 : q - x = q - x := rfl
          rw [ho] at hbd2
          clear ho hx0
          have hq2 : ¬ y < q := hq
          go_wp2_with (first
            | (at_builtin; refine wpList_append (E := pairE .u64) (B := w2.heap.size) (l := fl) (m := [(p, x)]) (bytes := 16) stretchElem Nat.zero_lt_two rfl (.tmp 55) (.tmp 61) rfl rfl ((hro.keep (more (Below.refl _ _) _)).keep (more (Below.refl _ _) _)) rfl (Rd.fresh _ (p, x) _ _ _ rfl (by first | rfl | simp)) (by simp only [maxLen, List.length_append, List.length_cons, List.length_nil]; omega) (by simp only [List.length_append, List.length_cons, List.length_nil]; omega) (nest hb (more (more (Below.refl _ _) _) _)).size ?_; intro v5 x5 hrx5 hkx5 hgx5 _
               have c0 := hgx5.cell (a := ⟨wr.heap.size, 0, none⟩) (v := .int .u64 p) (by simp) (hro.new_ne (Nat.le_refl _))
               have c1 := hgx5.cell (a := ⟨wr.heap.size, 1, none⟩) (v := .int .u64 q) (by simp) (hro.new_ne (Nat.le_refl _))
               have hb5 : Below w2.heap.size w2 x5 := (nest hb (more (more (Below.refl _ _) _) _)).trans hkx5
               have c3 := kc hb5 e3
               have c4 := kc hb5 e4
               have l5 := World.block_lt_of_cell? x5 _ c4
               have l6 := World.block_lt_of_cell? x5 _ c0
               simp only [] at l5 l6
               clear hgx5 hkx5))
          go_roundw
          case rel => exact ⟨k + 1, by omega, by go_num, by rw [HS.out, HO.out], by rw [HF.out, HCG.out, if_pos ha, if_neg hq]; simpa using hrx5, hb5⟩
          case measure => simp [intOf]; omega
      · by_cases hq : y < q
        · have ho : ovl x y (p, q) = y - p := by unfold ovl; simp only []; rw [if_neg ha]; rw [if_neg (by omega)]
          have HO := Lib.hid ho
          have hx0 : y - p = y - p := rfl
          rw [ho] at hbd2
          clear ho hx0
          go_wp2_with (first
            | (at_builtin; refine wpList_append (E := pairE .u64) (B := w2.heap.size) (l := fl) (m := [(y, q)]) (bytes := 16) stretchElem Nat.zero_lt_two rfl (.tmp 68) (.tmp 74) rfl rfl ((hro.keep (more (Below.refl _ _) _)).keep (more (Below.refl _ _) _)) rfl (Rd.fresh _ (y, q) _ _ _ rfl (by first | rfl | simp)) (by simp only [maxLen, List.length_append, List.length_cons, List.length_nil]; omega) (by simp only [List.length_append, List.length_cons, List.length_nil]; omega) (nest hb (more (more (Below.refl _ _) _) _)).size ?_; intro v6 x6 hrx6 hkx6 hgx6 _
               have hb6 : Below w2.heap.size w2 x6 := (nest hb (more (more (Below.refl _ _) _) _)).trans hkx6
               clear hgx6))
          go_roundw
          case rel => exact ⟨k + 1, by omega, by go_num, by rw [HS.out, HO.out], by rw [HF.out, HCG.out, if_neg ha, if_pos hq]; simpa using hrx6, hb6⟩
          case measure => simp [intOf]; omega
        · have ho : ovl x y (p, q) = q - p := by unfold ovl; simp only []; rw [if_neg ha]; split <;> omega
          have HO := Lib.hid ho
          have hx0 : q - p = q - p := rfl
          rw [ho] at hbd2
          clear ho hx0
          have hq2 : ¬ y < q := hq
          go_wp2_with fail
          go_roundw
          case rel => exact ⟨k + 1, by omega, by go_num, by rw [HS.out, HO.out], by rw [HF.out, HCG.out, if_neg ha, if_neg hq]; simpa using hro.keep hX, nest hb hX⟩
          case measure => simp [intOf]; omega
    · have hkn : k = md.length := by omega
      subst hkn
      rw [List.take_length] at hro ⊢
      have hcnt : cntL x y l = (md.map (ovl x y)).sum := by rw [cntL_def, HMD.out]
      have HCN := Lib.hid hcnt
      have hfill : fillL x y l = l.take i1 ++ (md.flatMap (cutG x y) ++ l.drop i2) := by rw [fillL_def, HMD.out, HI1.out, HI2.out]
      have HFL := Lib.hid hfill
      have hfl := cuts_len md x y md.length
      rw [List.take_length] at hfl
      clear hcnt hfill
      generalize md.flatMap (cutG x y) = fl at *
      generalize (md.map (ovl x y)).sum = sm at *
      obtain ⟨ar, cr, rfl, _, _⟩ := hro.rd.form
      have f1 := kc hb e1
      have f2 := kc hb e2
      have hcut1 := run_cut_to stretchElem a l.length c i1 (by omega)
      have hcut2 := run_cut_from stretchElem a l.length c i2 h3 hlc
      have hbk := nest hb2 hb
      have hrl := (hrow.keep hbk).rd
      have g0 : Rd (pairE .u64) wr (.slice (cutA a c 0 2) i1 c) (l.take i1) := by
        have h9 : Rd (pairE .u64) wr (.slice (cutA a c 0 2) (i1 - 0) (c - 0)) ((l.take i1).drop 0) := hrl.cutA (Nat.zero_le _) h0
        simpa using h9
      have g2 : Rd (pairE .u64) wr (.slice (cutA a c i2 2) (l.length - i2) (c - i2)) (l.drop i2) := by
        have h9 : Rd (pairE .u64) wr (.slice (cutA a c i2 2) (l.length - i2) (c - i2)) ((l.take l.length).drop i2) := hrl.cutA h3 (Nat.le_refl _)
        simpa using h9
      have G0 := Lib.hid g0
      have G1 := Lib.hid hro.rd
      have G2 := Lib.hid g2
      have hbw := hblk.keep hbk
      clear g0 g2 hrl
      go_wp2_with fail
      refine Run.region_walkZ (S := fun z => z.cell? ⟨w.heap.size, 0, none⟩ = some (.pointer (some ⟨b, 0, none⟩)) ∧ z.cell? ⟨b, 2, none⟩ = some (.slice a l.length c) ∧ Below wr.heap.size wr z)
        cfill.rows14 cfill.plan14z 18 _ (l := ?steps11) (by kernel_rfl) (by kernel_rfl) (by kernel_rfl) (by kernel_rfl) rfl rfl ?written11 ⟨f1, f2, (Below.refl _ _).drew⟩ ?onward11
      case written11 =>
        simp only [cfill.plan14z, Run.stepsOf, Run.stepOf, Run.guardOf, List.getElem?_toArray, List.getElem?_cons_zero, List.getElem?_cons_succ, Option.map_some, Option.map_none, Option.bind_some, Option.toList_some, List.map_cons, List.map_nil, List.cons_append, List.nil_append]
        rfl
      repeat ((first
        | (refine Run.takes (v := ?_) ?_ ?_; rotate_left; (· intro w' hS'; go_simp; (try with_reducible rfl)))
        | (refine Run.takesG (v := ?_) ?_ ?_ ?_; rotate_left; (· simp only [List.getElem?_cons_zero, List.getElem?_cons_succ]); (· intro w' hS'; go_simp; (try with_reducible rfl)))
        | (refine Run.skipsT ?_ ?_; (· simp only [List.getElem?_cons_zero, List.getElem?_cons_succ]))
        | (refine Run.skipsF ?_ ?_; (· simp only [List.getElem?_cons_zero, List.getElem?_cons_succ]))
        | (refine Run.skipsU ?_ ?_; (· simp only [List.getElem?_cons_zero, List.getElem?_cons_succ]))
        | (refine Run.passT ?_ ?_; (· simp only [List.getElem?_cons_zero, List.getElem?_cons_succ]))
        | (refine Run.passF ?_ ?_; (· simp only [List.getElem?_cons_zero, List.getElem?_cons_succ]))
        | (refine Run.passU ?_ ?_; (· simp only [List.getElem?_cons_zero, List.getElem?_cons_succ]))
        | fail); simp only [Act.put, List.setIfInBounds_toArray, List.set_cons_zero, List.set_cons_succ])
      refine Run.runs (Run.one (fun hS K hK => ?_))
      go_simp
      have hY : Below wr.heap.size wr (wr.alloc (Obj.cells #[Value.slice (cutA a c 0 2) i1 c, Value.slice ar fl.length cr, Value.slice (cutA a c i2 2) (l.length - i2) (c - i2)] 50)).drew := (more (Below.refl _ _) _).drew
      have hsl : Slices (wr.alloc (Obj.cells #[Value.slice (cutA a c 0 2) i1 c, Value.slice ar fl.length cr, Value.slice (cutA a c i2 2) (l.length - i2) (c - i2)] 50)).drew wr.heap.size [Value.slice (cutA a c 0 2) i1 c, Value.slice ar fl.length cr, Value.slice (cutA a c i2 2) (l.length - i2) (c - i2)] [l.take i1, fl, l.drop i2] := by
        have hbq : Blk (wr.alloc (Obj.cells #[Value.slice (cutA a c 0 2) i1 c, Value.slice ar fl.length cr, Value.slice (cutA a c i2 2) (l.length - i2) (c - i2)] 50)).drew wr.heap.size 50 _ := Blk.new wr _ _
        refine ⟨rfl, fun i hi => ?_⟩
        have hi3 : i = 0 ∨ i = 1 ∨ i = 2 := by simp at hi; omega
        rcases hi3 with rfl | rfl | rfl
        · exact ⟨hbq.cell 0, G0.out.keep hY⟩
        · exact ⟨hbq.cell 1, G1.out.keep hY⟩
        · exact ⟨hbq.cell 2, G2.out.keep hY⟩
      refine hK.out _ _ ⟨kc hY f1, kc hY f2, hY⟩ ?_
      clear hK K hS
      generalize (wr.alloc (Obj.cells #[Value.slice (cutA a c 0 2) i1 c, Value.slice ar fl.length cr, Value.slice (cutA a c i2 2) (l.length - i2) (c - i2)] 50)).drew = Y at *
      refine Run.runs (Run.callF 38 (by kernel_rfl) (fun hS => concat_any wr.heap.size 3 _ _ Y hsl rfl (by omega) (by simp only [tot, List.map_cons, List.map_nil, List.sum_cons, List.sum_nil, List.length_take, List.length_drop]; omega)) rfl ?_)
      rintro hS e Z ⟨v8, rfl, hr8, hk8⟩
      refine ⟨_, rfl, ⟨kc hk8 hS.1, kc hk8 hS.2.1, nest hY hk8⟩, ?_⟩
      have hZ := nest hY hk8
      clear hS hsl
      simp only [Act.put, List.setIfInBounds_toArray, List.set_cons_zero, List.set_cons_succ]
      repeat ((first
        | (refine Run.takes (v := ?_) ?_ ?_; rotate_left; (· intro w' hS'; go_simp; (try with_reducible rfl)))
        | (refine Run.takesG (v := ?_) ?_ ?_ ?_; rotate_left; (· simp only [List.getElem?_cons_zero, List.getElem?_cons_succ]); (· intro w' hS'; go_simp; (try with_reducible rfl)))
        | (refine Run.skipsT ?_ ?_; (· simp only [List.getElem?_cons_zero, List.getElem?_cons_succ]))
        | (refine Run.skipsF ?_ ?_; (· simp only [List.getElem?_cons_zero, List.getElem?_cons_succ]))
        | (refine Run.skipsU ?_ ?_; (· simp only [List.getElem?_cons_zero, List.getElem?_cons_succ]))
        | (refine Run.passT ?_ ?_; (· simp only [List.getElem?_cons_zero, List.getElem?_cons_succ]))
        | (refine Run.passF ?_ ?_; (· simp only [List.getElem?_cons_zero, List.getElem?_cons_succ]))
        | (refine Run.passU ?_ ?_; (· simp only [List.getElem?_cons_zero, List.getElem?_cons_succ]))
        | fail); simp only [Act.put, List.setIfInBounds_toArray, List.set_cons_zero, List.set_cons_succ])
      have hbz := hbw.keep hZ
      have q1 := hbz.frozen 2
      have q2 : Z.cell? ⟨b, 2, none⟩ = some (.slice a l.length c) := hbz.cell 2
      have hfl3 : [l.take i1, fl, l.drop i2].flatten = fillL x y l := by rw [HFL.out]; simp
      rw [hfl3] at hr8
      obtain ⟨a8, c8, rfl, _, _⟩ := hr8.rd.form
      clear hfl3
      refine Run.endsZ (fun hS K hK => ?_)
      go_simp
      refine hK.out _ _ (NoPanic.normal ?_)
      clear hK K hS
      have hrz : Row (pairE .u64) 49 B Z (.slice a8 (fillL x y l).length c8) (fillL x y l) := hr8.mono (by have := (nest hbk hY).size; have := hblk.lt; omega)
      have hset := Only.set (b := b) Z 2 (.slice a8 (fillL x y l).length c8)
      have hrs := hrz.only hset (hrz.ne_blk hbz (by decide))
      have hbs := hbz.set_ 2 (.slice a8 (fillL x y l).length c8)
      have hon : Only b w (Z.setCell ⟨b, 2, none⟩ (.slice a8 (fillL x y l).length c8)) := (Only.of_below (nest hbk hZ)).trans hset
      clear q1 q2 hcut1 hcut2 f1 f2
      generalize Z.setCell ⟨b, 2, none⟩ (.slice a8 (fillL x y l).length c8) = V at *
      go_wp2_with fail
      go_ret
      exact ⟨congrArg (fun n => Ending.returned (.int .u64 n)) HCN.out.symm, ⟨hB, _, hbs, hrs⟩, hon⟩
end Go.Proofs.Ytbdijeekekaibaa
