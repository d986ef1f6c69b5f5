/- Walk of petasosref01.Cover's Add. -/
import Derived.Test.YtbdijeekekaibaaRefSorted
namespace Go.Proofs.Ytbdijeekekaibaa
open Go.RowKit Cir Mem
set_option linter.unusedSimpArgs false
set_option linter.unusedVariables false
attribute [local irreducible] Go.Calls

def RAddPost (B b : Nat) (f t : Int) (P R : List (Int × Int)) (w : World) (e : Ending) (w' : World) : Prop := e = .returned (.int .u64 (sumL R - sumL P)) ∧ RefAt B w' b f t R ∧ Only b w w'
theorem keepR {W a b : World} {p0 p1 p2 p3 p4 : Addr} {x0 x1 x2 x3 x4 : Value} (h : a.cell? p0 = some x0 ∧ a.cell? p1 = some x1 ∧ a.cell? p2 = some x2 ∧ a.cell? p3 = some x3 ∧ a.cell? p4 = some x4 ∧ Below W.heap.size W a) (k : Below a.heap.size a b) :
    b.cell? p0 = some x0 ∧ b.cell? p1 = some x1 ∧ b.cell? p2 = some x2 ∧ b.cell? p3 = some x3 ∧ b.cell? p4 = some x4 ∧ Below W.heap.size W b := ⟨kc k h.1, kc k h.2.1, kc k h.2.2.1, kc k h.2.2.2.1, kc k h.2.2.2.2.1, nest h.2.2.2.2.2 k⟩

set_option maxHeartbeats 4000000 in
theorem rcadd_any (B b : Nat) (f t g u : Int) (bf : 0 ≤ f ∧ f ≤ 4294967295) (bt : 0 ≤ t ∧ t ≤ 4294967295) (bg : 0 ≤ g ∧ g ≤ 4294967295) (bu : 0 ≤ u ∧ u ≤ 4294967295) (P : List (Int × Int)) (w : World) (h : RefAt B w b f t P)
    (hn : Norm (beh f t) 0 P) (hl : P.length ≤ 90) :
    Calls Try.prog 11 #[.pointer (some ⟨b, 0, none⟩), .agg #[.int .u32 g, .int .u32 u]] w (RAddPost B b f t P (radd f t g u P) w) := by
  have bd := beh_bd f t
  obtain ⟨hB, v, hblk, hrow⟩ := h
  obtain ⟨av, cv, rfl, _, _⟩ := hrow.rd.form
  have f0 : w.cell? ⟨b, 0, none⟩ = some (.int .u32 f) := hblk.cell 0
  have f1 : w.cell? ⟨b, 1, none⟩ = some (.int .u32 t) := hblk.cell 1
  have f2 : w.cell? ⟨b, 2, none⟩ = some (.slice av P.length cv) := hblk.cell 2
  have hbl := hblk.lt
  have hpl := (prts_bd f t g u bg bu).1
  obtain ⟨q1, q2, q3⟩ := radd_facts bg bu hn
  have hsr := sumL_bd q1 (by omega)
  have hsp := sumL_bd hn (by omega)
  have hle : sumL P ≤ sumL (radd f t g u P) := by
    have h1 := (oth_facts (show 0 ≤ beh f t by omega) hn)
    have h2 := (oth_facts (show 0 ≤ beh f t by omega) q1)
    have h3 := addL_less (prts f t g u) (fun p hp => ((prts_norm f t g u bg bu).all p hp).2.1) h1.1
    rw [← q2] at h3
    omega
  have HQ1 := Lib.hid q1
  have HN := Lib.hid hn
  obtain ⟨s1, s2, s3⟩ := srt_facts (P ++ prts f t g u)
  have hsl : (srt (P ++ prts f t g u)).length ≤ 92 := by rw [s3, List.length_append]; omega
  have hR : radd f t g u P = mrg (srt (P ++ prts f t g u)) := by unfold radd; rfl
  have HR := Lib.hid hR
  have HML := Lib.hid (fun k hk => (mrg_facts (n := beh f t) s1 (fun x hx => by
    rcases List.mem_append.1 ((s2 x).1 hx) with hx | hx
    · exact hn.all x hx
    · exact (prts_norm f t g u bg bu).all x hx) k hk).2.2.2)
  generalize radd f t g u P = R at *
  clear q1 q2 hR hn s1 s2 s3
  go_enter Try.func11, Try.ntmps11
  go_wp2_with fail
  generalize hW : w.alloc (Obj.cells #[Value.int IntKind.u32 g, Value.int IntKind.u32 u] 24) = W
  have hb0 : Below w.heap.size w W := hW ▸ more (Below.refl _ _) _
  have hc0 : W.cell? ⟨w.heap.size, 0, none⟩ = some (.int .u32 g) := by rw [← hW]; simp
  have hc1 : W.cell? ⟨w.heap.size, 1, none⟩ = some (.int .u32 u) := by rw [← hW]; simp
  have g0 := kc hb0 f0
  have g1 := kc hb0 f1
  have g2 := kc hb0 f2
  have HROW := Lib.hid (hrow.keep hb0)
  clear hW
  refine Run.region_walk (S := fun z => z.cell? ⟨w.heap.size, 0, none⟩ = some (.int .u32 g) ∧ z.cell? ⟨w.heap.size, 1, none⟩ = some (.int .u32 u) ∧ z.cell? ⟨b, 0, none⟩ = some (.int .u32 f) ∧ z.cell? ⟨b, 1, none⟩ = some (.int .u32 t) ∧ z.cell? ⟨b, 2, none⟩ = some (.slice av P.length cv) ∧ Below W.heap.size W z)
    rcadd.rows1 rcadd.plan1 (l := ?steps1) (by kernel_rfl) (by kernel_rfl) (by kernel_rfl) (by kernel_rfl) ?written1 ⟨hc0, hc1, g0, g1, g2, (Below.refl _ _).drew⟩ ?onward1
  case written1 =>
    simp only [rcadd.plan1, Run.stepsOf, Run.stepOf, Run.guardOf, List.getElem?_toArray, List.getElem?_cons_zero, List.getElem?_cons_succ, Option.map_some, Option.map_none, Option.bind_some, Option.toList_some, List.map_cons, List.map_nil, List.cons_append, List.nil_append]
    rfl
  repeat ((first
    | (refine Run.takes (v := ?_) ?_ ?_; rotate_left; (· intro w' hS'; go_simp; (try with_reducible rfl)))
    | (refine Run.takesG (v := ?_) ?_ ?_ ?_; rotate_left; (· simp only [List.getElem?_cons_zero, List.getElem?_cons_succ]); (· intro w' hS'; go_simp; (try with_reducible rfl)))
    | (refine Run.skipsT ?_ ?_; (· simp only [List.getElem?_cons_zero, List.getElem?_cons_succ]))
    | (refine Run.skipsF ?_ ?_; (· simp only [List.getElem?_cons_zero, List.getElem?_cons_succ]))
    | (refine Run.skipsU ?_ ?_; (· simp only [List.getElem?_cons_zero, List.getElem?_cons_succ]))
    | (refine Run.passT ?_ ?_; (· simp only [List.getElem?_cons_zero, List.getElem?_cons_succ]))
    | (refine Run.passF ?_ ?_; (· simp only [List.getElem?_cons_zero, List.getElem?_cons_succ]))
    | (refine Run.passU ?_ ?_; (· simp only [List.getElem?_cons_zero, List.getElem?_cons_succ]))
    | fail); simp only [Act.put, List.setIfInBounds_toArray, List.set_cons_zero, List.set_cons_succ])
  refine Run.runs (Run.one (fun hS K hK => ?_))
  refine wp_append (E := pairE .u64) (B := W.heap.size) (T := 58) (v := .slice none 0 0) (l := []) (m := P) (bytes := 16) partElem Nat.zero_lt_two (.const (.slice none 0 0)) (.tmp 12) rfl rfl Row.nil rfl (HROW.out.keep hS.2.2.2.2.2).rd (by simp only [maxLen, List.length_nil]; omega) (by simp only [List.length_nil]; omega) hS.2.2.2.2.2.size ?_
  intro v1 z1 hr1 hk1 hg1 _
  have hk1' : Below W.drew.heap.size W.drew z1 := grown_below hg1 (Nat.le_refl _) (fun k hk => by simp [Value.ownBlock] at hk)
  refine hK.out _ _ (keepR hS hk1') ?_
  clear hK K hS hg1 hk1'
  rw [List.nil_append] at hr1
  simp only [Act.put, List.setIfInBounds_toArray, List.set_cons_zero, List.set_cons_succ]
  refine Run.runs (Run.callF 26 (by kernel_rfl) (fun hS => rparts_any f t g u bf bt bg bu _) rfl ?_)
  rintro hS e z2 ⟨v2, rfl, hp2, hz2⟩
  refine ⟨_, rfl, keepR hS hz2, ?_⟩
  have hr2 := hr1.keep hz2
  have hp3 : Row (pairE .u64) 58 z1.heap.size z2 v2 (prts f t g u) := hp2
  clear hS hr1 hp2
  simp only [Act.put, List.setIfInBounds_toArray, List.set_cons_zero, List.set_cons_succ]
  refine Run.runs (Run.one (fun hS K hK => ?_))
  refine wp_append (E := pairE .u64) (B := W.heap.size) (T := 58) (v := v1) (l := P) (m := prts f t g u) (bytes := 16) partElem Nat.zero_lt_two (.tmp 13) (.tmp 19) rfl rfl hr2 rfl hp3.rd (by simp only [maxLen]; omega) (by omega) hS.2.2.2.2.2.size ?_
  intro v3 z3 hr3 hk3 hg3 _
  have hwW : w.heap.size < W.heap.size := World.block_lt_of_cell? W _ hc0
  have hbW : b < W.heap.size := Nat.lt_of_lt_of_le hbl hb0.size
  have hb3 : Below W.heap.size W z3 := hS.2.2.2.2.2.trans hk3
  refine hK.out _ _ ⟨(hb3.cell (p := ⟨w.heap.size, 0, none⟩) hwW).trans hc0, (hb3.cell (p := ⟨w.heap.size, 1, none⟩) hwW).trans hc1, (hb3.cell (p := ⟨b, 0, none⟩) hbW).trans g0, (hb3.cell (p := ⟨b, 1, none⟩) hbW).trans g1, (hb3.cell (p := ⟨b, 2, none⟩) hbW).trans g2, hb3⟩ ?_
  clear hK K hS hg3 hr2 hp3 hk1 hz2 hk3
  simp only [Act.put, List.setIfInBounds_toArray, List.set_cons_zero, List.set_cons_succ]
  refine Run.runs (Run.callF 25 (by kernel_rfl) (fun hS => rsorted_any W.heap.size v3 _ _ hr3 (by rw [List.length_append]; omega)) rfl ?_)
  rintro hS e z4 ⟨v4, rfl, hr4, hz4⟩
  refine ⟨_, rfl, keepR hS hz4, ?_⟩
  have hb4 := nest hb0 (nest hb3 hz4)
  clear hS hr3 hb3
  simp only [Act.put, List.setIfInBounds_toArray, List.set_cons_zero, List.set_cons_succ]
  repeat ((first
    | (refine Run.takes (v := ?_) ?_ ?_; rotate_left; (· intro w' hS'; go_simp; (try with_reducible rfl)))
    | (refine Run.takesG (v := ?_) ?_ ?_ ?_; rotate_left; (· simp only [List.getElem?_cons_zero, List.getElem?_cons_succ]); (· intro w' hS'; go_simp; (try with_reducible rfl)))
    | (refine Run.skipsT ?_ ?_; (· simp only [List.getElem?_cons_zero, List.getElem?_cons_succ]))
    | (refine Run.skipsF ?_ ?_; (· simp only [List.getElem?_cons_zero, List.getElem?_cons_succ]))
    | (refine Run.skipsU ?_ ?_; (· simp only [List.getElem?_cons_zero, List.getElem?_cons_succ]))
    | (refine Run.passT ?_ ?_; (· simp only [List.getElem?_cons_zero, List.getElem?_cons_succ]))
    | (refine Run.passF ?_ ?_; (· simp only [List.getElem?_cons_zero, List.getElem?_cons_succ]))
    | (refine Run.passU ?_ ?_; (· simp only [List.getElem?_cons_zero, List.getElem?_cons_succ]))
    | fail); simp only [Act.put, List.setIfInBounds_toArray, List.set_cons_zero, List.set_cons_succ])
  refine Run.ends (fun _ => ?_)
  obtain ⟨a4, g4, c4, rfl, _, _, ha4, hcl4⟩ := hr4.loop
  generalize hsl0 : srt (P ++ prts f t g u) = sl at *
  have HA4 := Lib.hid ha4
  have HC4 := Lib.hid hcl4
  clear ha4 hcl4 hr4 hz4 hsl0 g0 g1 g2 hc0 hc1
  go_wp2_with fail
  go_loopw [6, 7] (fun o i wr => ∃ k : Nat, k ≤ sl.length ∧ i = .int .i64 k ∧ Row (pairE .u64) 58 z4.heap.size wr o (mrg (sl.take k)) ∧ Below z4.heap.size z4 wr) (fun _ i _ => sl.length - (intOf i).toNat)
  case atStart => exact ⟨0, Nat.zero_le _, rfl, by rw [List.take_zero, mrg_none]; exact Row.nil, Below.refl _ _⟩
  case round =>
    obtain ⟨k, hk, rfl, hro, hb⟩ := hrel
    by_cases hlt : k < sl.length
    · obtain ⟨rfl, hgl⟩ := HA4.out (by omega)
      have d1 := (hb.cell (p := ⟨g4, k * 2, none⟩) hgl).trans (HC4.out k hlt).1
      have d2 := (hb.cell (p := ⟨g4, k * 2 + 1, none⟩) hgl).trans (HC4.out k hlt).2
      have HMT := Lib.hid (mrg_take sl k hlt)
      have hol : (mrg (sl.take k)).length ≤ k := HML.out k hk
      generalize sl.getD k (0, 0) = x at *
      obtain ⟨p, q⟩ := x
      simp only [] at d1 d2
      generalize mrg (sl.take k) = out at *
      have i6 : (k : Int) < (sl.length : Int) := by omega
      have hkw : k ≤ 92 := by omega
      rcases List.eq_nil_or_concat out with rfl | ⟨os, y, rfl⟩
      · obtain ⟨a9, c9, rfl, _, _⟩ := hro.rd.form
        have HE := Lib.hid (mrg_nil (p, q))
        go_wp2_with fail
        refine Run.region_walk (S := fun z => z.cell? ⟨g4, k * 2, none⟩ = some (.int .u64 p) ∧ z.cell? ⟨g4, k * 2 + 1, none⟩ = some (.int .u64 q) ∧ Below wr.heap.size wr z)
          rcadd.rows5 rcadd.plan5 (l := ?_) (by kernel_rfl) (by kernel_rfl) (by kernel_rfl) (by kernel_rfl) ?_ ⟨d1, d2, (Below.refl _ _).drew⟩ ?_
        rotate_left
        (· simp only [rcadd.plan5, Run.stepsOf, Run.stepOf, Run.guardOf, List.getElem?_toArray, List.getElem?_cons_zero, List.getElem?_cons_succ, Option.map_some, Option.map_none, Option.bind_some, Option.toList_some, List.map_cons, List.map_nil, List.cons_append, List.nil_append]
           rfl)
        repeat ((first
          | (refine Run.takes (v := ?_) ?_ ?_; rotate_left; (· intro w' hS'; go_simp; (try with_reducible rfl)))
          | (refine Run.takesG (v := ?_) ?_ ?_ ?_; rotate_left; (· simp only [List.getElem?_cons_zero, List.getElem?_cons_succ]); (· intro w' hS'; go_simp; (try with_reducible rfl)))
          | (refine Run.skipsT ?_ ?_; (· simp only [List.getElem?_cons_zero, List.getElem?_cons_succ]))
          | (refine Run.skipsF ?_ ?_; (· simp only [List.getElem?_cons_zero, List.getElem?_cons_succ]))
          | (refine Run.skipsU ?_ ?_; (· simp only [List.getElem?_cons_zero, List.getElem?_cons_succ]))
          | (refine Run.passT ?_ ?_; (· simp only [List.getElem?_cons_zero, List.getElem?_cons_succ]))
          | (refine Run.passF ?_ ?_; (· simp only [List.getElem?_cons_zero, List.getElem?_cons_succ]))
          | (refine Run.passU ?_ ?_; (· simp only [List.getElem?_cons_zero, List.getElem?_cons_succ]))
          | fail); simp only [Act.put, List.setIfInBounds_toArray, List.set_cons_zero, List.set_cons_succ])
        refine Run.ends (fun hS => ?_)
        have hk5 := hS.2.2
        have e1 := hS.1
        have e2 := hS.2.1
        have hr5 := hro.keep hk5
        have hb5 := nest hb hk5
        clear hS d1 d2 hro hb hk5
        generalize wr.drew = wj at *
        go_wp2_with (at_builtin; go_must (refine wpList_append (E := pairE .u64) (T := 58) (B := z4.heap.size) (l := []) (m := [(p, q)]) (bytes := 16) partElem Nat.zero_lt_two rfl (.tmp 65) (.tmp 70) rfl rfl (hr5.keep (more (Below.refl _ _) _)) rfl (Rd.fresh wj (p, q) _ _ _ rfl rfl) (by simp only [maxLen, List.length_cons, List.length_nil]; omega) (by simp only [List.length_cons, List.length_nil]; omega) (nest hb5 (more (Below.refl _ _) _)).size ?_); intro v6 z6 hr6 hk6 _ _)
        go_roundw
        case rel => exact ⟨k + 1, by omega, by go_num, by rw [HMT.out, HE.out]; exact hr6, (nest hb5 (more (Below.refl _ _) _)).trans hk6⟩
        case measure => simp [intOf]; omega
      · rw [List.concat_eq_append] at *
        obtain ⟨y1, y2⟩ := y
        have hlo : (os ++ [(y1, y2)]).length = os.length + 1 := by simp
        obtain ⟨go, c9, rfl, hgo, _, _, hoc⟩ := hro.pairs (by rw [hlo]; omega)
        have hy := (hoc os.length (by rw [hlo]; omega)).2
        have hgy : (os ++ [(y1, y2)]).getD os.length (0, 0) = (y1, y2) := by simp [List.getD]
        rw [hgy] at hy
        simp only [] at hy
        clear hoc hgy
        rw [hlo] at *
        have hosl : os.length ≤ 92 := by have h9 := hol; simp at h9; omega
        have i1 : IntKind.i64.wrap ((os.length : Int) + 1 - 1) = (os.length : Int) := by rw [Int.add_sub_cancel]; exact IntWalk.i64_in _ (by omega)
        have i2 : IntKind.i64.wrap (((os.length + 1 : Nat) : Int) - 1) = (os.length : Int) := by rw [show ((os.length + 1 : Nat) : Int) - 1 = (os.length : Int) from by omega]; exact IntWalk.i64_in _ (by omega)
        have i3 : IntKind.i64.wrap (os.length : Int) = (os.length : Int) := IntWalk.i64_in _ (by omega)
        have i4 : (os.length : Int) < (os.length : Int) + 1 := by omega
        have i5 : (0 : Int) ≤ (os.length : Int) := by omega
        have i8 : (0 : Int) < (os.length : Int) + 1 := by omega
        by_cases hj : p ≤ y2
        · have he := mrg_snoc os (y1, y2) (p, q)
          rw [if_pos hj] at he
          have HE := Lib.hid he
          clear he
          have hmx : (if y2 < q then q else y2) = mx y2 q := rfl
          go_wp2_with fail
          refine Run.region_walk (S := fun z => z.cell? ⟨g4, k * 2, none⟩ = some (.int .u64 p) ∧ z.cell? ⟨go, os.length * 2 + 1, none⟩ = some (.int .u64 y2) ∧ Below wr.heap.size wr z)
            rcadd.rows5 rcadd.plan5 (l := ?_) (by kernel_rfl) (by kernel_rfl) (by kernel_rfl) (by kernel_rfl) ?_ ⟨d1, hy, (Below.refl _ _).drew⟩ ?_
          rotate_left
          (· simp only [rcadd.plan5, Run.stepsOf, Run.stepOf, Run.guardOf, List.getElem?_toArray, List.getElem?_cons_zero, List.getElem?_cons_succ, Option.map_some, Option.map_none, Option.bind_some, Option.toList_some, List.map_cons, List.map_nil, List.cons_append, List.nil_append]
             rfl)
          repeat ((first
            | (refine Run.takes (v := ?_) ?_ ?_; rotate_left; (· intro w' hS'; go_simp; (try with_reducible rfl)))
            | (refine Run.takesG (v := ?_) ?_ ?_ ?_; rotate_left; (· simp only [List.getElem?_cons_zero, List.getElem?_cons_succ]); (· intro w' hS'; go_simp; (try with_reducible rfl)))
            | (refine Run.skipsT ?_ ?_; (· simp only [List.getElem?_cons_zero, List.getElem?_cons_succ]))
            | (refine Run.skipsF ?_ ?_; (· simp only [List.getElem?_cons_zero, List.getElem?_cons_succ]))
            | (refine Run.skipsU ?_ ?_; (· simp only [List.getElem?_cons_zero, List.getElem?_cons_succ]))
            | (refine Run.passT ?_ ?_; (· simp only [List.getElem?_cons_zero, List.getElem?_cons_succ]))
            | (refine Run.passF ?_ ?_; (· simp only [List.getElem?_cons_zero, List.getElem?_cons_succ]))
            | (refine Run.passU ?_ ?_; (· simp only [List.getElem?_cons_zero, List.getElem?_cons_succ]))
            | fail); simp only [Act.put, List.setIfInBounds_toArray, List.set_cons_zero, List.set_cons_succ])
          refine Run.ends (fun _ => ?_)
          have e2 := kc (Below.refl wr.heap.size wr).drew d2
          have e3 := kc (Below.refl wr.heap.size wr).drew hy
          have hr5 := hro.keep (Below.refl wr.heap.size wr).drew
          have hb5 := nest hb (Below.refl wr.heap.size wr).drew
          clear d1 d2 hy hro hb
          generalize wr.drew = wj at *
          have hr6 : wj.ownsRow z4.heap.size 58 2 (.slice (some ⟨go, 0, none⟩) (os.length + 1) c9) (os.length + 1) ((pairE .u64).flat (os ++ [(y1, y2)])) := by
            have h9 := hr5
            unfold Row at h9
            rwa [show (os ++ [(y1, y2)]).length = os.length + 1 by simp] at h9
          have fz := World.ownsRow.frozenAt hr6 (os.length * 2 + 1)
          have hst := (World.ownsRow.stored hr6 (os.length * 2 + 1) (.int .u64 (mx y2 q))).1
          have hgB : z4.heap.size ≤ go := (World.ownsRow.lt hr6 go rfl).1
          have hr7 : Row (pairE .u64) 58 z4.heap.size (wj.setCell ⟨go, os.length * 2 + 1, none⟩ (.int .u64 (mx y2 q))) (.slice (some ⟨go, 0, none⟩) (os.length + 1) c9) (os ++ [(y1, mx y2 q)]) := by
            have e9 : (os ++ [(y1, mx y2 q)]).length = os.length + 1 := by simp
            have e8 : ((pairE .u64).flat (os ++ [(y1, y2)])).set (os.length * 2 + 1) (Value.int IntKind.u64 (mx y2 q)) = (pairE .u64).flat (os ++ [(y1, mx y2 q)]) := by
              rw [Enc.flat_append, Enc.flat_append]
              have e7 : ((pairE .u64).flat os).length = os.length * 2 := (pairE .u64).flat_len os
              rw [List.set_append_right _ _ (by omega), e7]
              simp [Enc.flat, pairE]
            unfold Row
            rw [e9, ← e8]
            exact hst
          have hb6 : Below z4.heap.size z4 (wj.setCell ⟨go, os.length * 2 + 1, none⟩ (.int .u64 (mx y2 q))) := hb5.setCell hgB _
          clear hr6 hst hr5
          go_wp2_with fail
          refine Run.region_walkZ (S := fun z => z.cell? ⟨g4, k * 2 + 1, none⟩ = some (.int .u64 q) ∧ z.cell? ⟨go, os.length * 2 + 1, none⟩ = some (.int .u64 y2) ∧ z = wj.drew)
            rcadd.rows6 rcadd.plan6z 19 _ (l := ?steps5) (by kernel_rfl) (by kernel_rfl) (by kernel_rfl) (by kernel_rfl) rfl rfl ?written5 ⟨e2, e3, rfl⟩ ?onward5
          case written5 =>
            simp only [rcadd.plan6z, Run.stepsOf, Run.stepOf, Run.guardOf, List.getElem?_toArray, List.getElem?_cons_zero, List.getElem?_cons_succ, Option.map_some, Option.map_none, Option.bind_some, Option.toList_some, List.map_cons, List.map_nil, List.cons_append, List.nil_append]
            rfl
          repeat ((first
            | (refine Run.takes (v := ?_) ?_ ?_; rotate_left; (· intro w' hS'; go_simp; (try with_reducible rfl)))
            | (refine Run.takesG (v := ?_) ?_ ?_ ?_; rotate_left; (· simp only [List.getElem?_cons_zero, List.getElem?_cons_succ]); (· intro w' hS'; go_simp; (try with_reducible rfl)))
            | (refine Run.skipsT ?_ ?_; (· simp only [List.getElem?_cons_zero, List.getElem?_cons_succ]))
            | (refine Run.skipsF ?_ ?_; (· simp only [List.getElem?_cons_zero, List.getElem?_cons_succ]))
            | (refine Run.skipsU ?_ ?_; (· simp only [List.getElem?_cons_zero, List.getElem?_cons_succ]))
            | (refine Run.passT ?_ ?_; (· simp only [List.getElem?_cons_zero, List.getElem?_cons_succ]))
            | (refine Run.passF ?_ ?_; (· simp only [List.getElem?_cons_zero, List.getElem?_cons_succ]))
            | (refine Run.passU ?_ ?_; (· simp only [List.getElem?_cons_zero, List.getElem?_cons_succ]))
            | fail); simp only [Act.put, List.setIfInBounds_toArray, List.set_cons_zero, List.set_cons_succ])
          refine Run.endsZ (fun hS K hK => ?_)
          go_simp
          refine hK.out _ _ (NoPanic.normal ?_)
          clear hK K hS
          have hr8 := hr7.keep (Below.refl _ _).drew
          have hb8 := nest hb6 (Below.refl _ _).drew
          clear hr7 hb6 e2 e3 fz i1 i2 i3
          generalize (wj.setCell ⟨go, os.length * 2 + 1, none⟩ (.int .u64 (mx y2 q))).drew = V at *
          go_wp2_with fail
          go_roundw
          case rel => exact ⟨k + 1, by omega, by go_num, by rw [HMT.out, HE.out]; exact hr8, hb8⟩
          case measure => simp [intOf]; omega
        · have he := mrg_snoc os (y1, y2) (p, q)
          rw [if_neg hj] at he
          have HE := Lib.hid he
          have hj2 : decide (p ≤ y2) = false := by simpa using hj
          clear he
          go_wp2_with fail
          refine Run.region_walk (S := fun z => z.cell? ⟨g4, k * 2, none⟩ = some (.int .u64 p) ∧ z.cell? ⟨go, os.length * 2 + 1, none⟩ = some (.int .u64 y2) ∧ Below wr.heap.size wr z)
            rcadd.rows5 rcadd.plan5 (l := ?_) (by kernel_rfl) (by kernel_rfl) (by kernel_rfl) (by kernel_rfl) ?_ ⟨d1, hy, (Below.refl _ _).drew⟩ ?_
          rotate_left
          (· simp only [rcadd.plan5, Run.stepsOf, Run.stepOf, Run.guardOf, List.getElem?_toArray, List.getElem?_cons_zero, List.getElem?_cons_succ, Option.map_some, Option.map_none, Option.bind_some, Option.toList_some, List.map_cons, List.map_nil, List.cons_append, List.nil_append]
             rfl)
          repeat ((first
            | (refine Run.takes (v := ?_) ?_ ?_; rotate_left; (· intro w' hS'; go_simp; (try with_reducible rfl)))
            | (refine Run.takesG (v := ?_) ?_ ?_ ?_; rotate_left; (· simp only [List.getElem?_cons_zero, List.getElem?_cons_succ]); (· intro w' hS'; go_simp; (try with_reducible rfl)))
            | (refine Run.skipsT ?_ ?_; (· simp only [List.getElem?_cons_zero, List.getElem?_cons_succ]))
            | (refine Run.skipsF ?_ ?_; (· simp only [List.getElem?_cons_zero, List.getElem?_cons_succ]))
            | (refine Run.skipsU ?_ ?_; (· simp only [List.getElem?_cons_zero, List.getElem?_cons_succ]))
            | (refine Run.passT ?_ ?_; (· simp only [List.getElem?_cons_zero, List.getElem?_cons_succ]))
            | (refine Run.passF ?_ ?_; (· simp only [List.getElem?_cons_zero, List.getElem?_cons_succ]))
            | (refine Run.passU ?_ ?_; (· simp only [List.getElem?_cons_zero, List.getElem?_cons_succ]))
            | fail); simp only [Act.put, List.setIfInBounds_toArray, List.set_cons_zero, List.set_cons_succ])
          refine Run.ends (fun hS => ?_)
          have hk5 := hS.2.2
          have e1 := hS.1
          have e2 := kc hk5 d2
          have hr5 := hro.keep hk5
          have hb5 := nest hb hk5
          clear hS d1 d2 hro hb hk5 hy i1 i2 i3
          generalize wr.drew = wj at *
          go_wp2_with (at_builtin; go_must (refine wpList_append (E := pairE .u64) (T := 58) (B := z4.heap.size) (l := os ++ [(y1, y2)]) (m := [(p, q)]) (bytes := 16) partElem Nat.zero_lt_two rfl (.tmp 65) (.tmp 70) rfl rfl (hr5.keep (more (Below.refl _ _) _)) rfl (Rd.fresh wj (p, q) _ _ _ rfl rfl) (by simp only [maxLen, List.length_append, List.length_cons, List.length_nil]; omega) (by simp only [List.length_append, List.length_cons, List.length_nil]; omega) (nest hb5 (more (Below.refl _ _) _)).size ?_); intro v6 z6 hr6 hk6 _ _)
          go_roundw
          case rel => exact ⟨k + 1, by omega, by go_num, by rw [HMT.out, HE.out]; exact hr6, (nest hb5 (more (Below.refl _ _) _)).trans hk6⟩
          case measure => simp [intOf]; omega
    · have hkk : k = sl.length := by omega
      subst hkk
      rw [List.take_length] at hro
      have hRe := HR.out
      rw [← hRe] at hro
      clear hRe
      have hbw := nest hb4 hb
      have hblw := hblk.keep hbw
      have hroww := hrow.keep hbw
      have k2 : wr.cell? ⟨b, 2, none⟩ = some (.slice av P.length cv) := hblw.cell 2
      go_wp2_with fail
      refine (rmany_any B _ (beh f t) P wr hroww HN.out (by omega)).mono ?_
      rintro e y ⟨rfl, hky⟩
      have hby := nest hbw hky
      have hbly := hblw.keep hky
      have hroy := hro.keep hky
      obtain ⟨ar, cr, rfl, _, _⟩ := hro.rd.form
      have z0 := hbly.frozen 2
      have z1 : y.cell? ⟨b, 2, none⟩ = some (.slice av P.length cv) := hbly.cell 2
      have hset := Only.set (b := b) y 2 (.slice ar R.length cr)
      have hrs := hroy.only hset (hroy.ne_blk hbly (by decide))
      have hbs := hbly.set_ 2 (.slice ar R.length cr)
      have hon : Only b w (y.setCell ⟨b, 2, none⟩ (.slice ar R.length cr)) := (Only.of_below hby).trans hset
      have hB2 : B ≤ z4.heap.size := by have := hb4.size; omega
      clear hblw hroww hbly hro k2 hky hbw hroy
      go_wp2_with fail
      clear z0 z1
      generalize y.setCell ⟨b, 2, none⟩ (.slice ar R.length cr) = V at *
      refine (rmany_any z4.heap.size _ (beh f t) R V hrs HQ1.out (by omega)).mono ?_
      rintro e X ⟨rfl, hkX⟩
      have j1 : 0 ≤ sumL R - sumL P := by omega
      go_wp2_with fail
      go_ret
      exact ⟨rfl, ⟨hB, _, hbs.keep hkX, (hrs.keep hkX).mono hB2⟩, hon.trans (Only.of_below hkX)⟩
end Go.Proofs.Ytbdijeekekaibaa
