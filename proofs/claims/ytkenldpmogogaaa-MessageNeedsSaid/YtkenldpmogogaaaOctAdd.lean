/- Package octet, the writer: add. -/
import Derived.Test.YtkenldpmogogaaaOctW
set_option maxRecDepth 4000
namespace Go.Proofs.Ytkenldpmogogaaa
open Go.RowKit Mem
set_option linter.unusedSimpArgs false
set_option linter.unusedVariables false
attribute [local irreducible] Go.Calls

theorem part_cut (b k : Nat) (hk : k < 64) (w : World) : (Instr.sliceAt 56 (.pointer (some ⟨b, 1, none⟩)) (some (.int .i64 k)) none none).run Try.prog w = .ok (.slice (some ⟨b, 1 + k, none⟩) (64 - k) (64 - k)) w := by
  have h1 := run_sliceAt_array_l (P := Try.prog) w 56 ⟨b, 1, none⟩ Try.underlying56 .i64 (k : Int) (by omega) (by show (k : Int) ≤ (64 : Nat); omega)
  rw [h1]
  have e : Try.prog.elem 56 = 5 := by kernel_rfl
  have e2 : Try.prog.arrayLen 56 = 64 := by kernel_rfl
  have hs : (sizeOf 5).run Try.prog w = .ok 1 w := run_sizeOf_of (by kernel_rfl) w
  rw [e, hs, e2]
  have hne : ¬ (64 = k) := by omega
  have hadd : (⟨b, 1, none⟩ : Addr).add k = ⟨b, 1 + k, none⟩ := by unfold Addr.add; split <;> simp_all
  simp only [Result.andThen_ok, slicedAt, Int.toNat_natCast, if_neg hne, Nat.mul_one, hadd]

def slen : Value → Nat | .slice _ n _ => n | _ => 0
def AddAt (x l : List Int) (b : Nat) (w : World) (v : Value) (wr : World) : Prop :=
  ∃ m, m ≤ x.length ∧ Rd (intE .u8) wr v (x.drop m) ∧ v.ownBlock ≠ some b ∧ WrAt wr b (l ++ x.take m) ∧ Only b w wr
theorem add_step {x l y : List Int} {m : Nat} (hy : y = x.drop m) (n : Nat) : (l ++ x.take m) ++ y.take n = l ++ x.take (m + n) := by
  subst hy
  rw [List.append_assoc, List.take_add]
/-- some more, that does not fill the chunk -/
theorem wr_more {l y p : List Int} {ps : List (List Int)} (hp : p.length = 64) (hl : l = ps.reverse.flatten ++ p.take (l.length % 64)) (hps : ps.length = l.length / 64) (hn : l.length % 64 + y.length < 64) :
    l ++ y = ps.reverse.flatten ++ (splice p (l.length % 64) y).take ((l ++ y).length % 64) ∧ ps.length = (l ++ y).length / 64 := by
  have e1 : (l ++ y).length % 64 = l.length % 64 + y.length := by rw [List.length_append]; omega
  have e2 : (l ++ y).length / 64 = l.length / 64 := by rw [List.length_append]; omega
  rw [e1, e2]
  refine ⟨?_, hps⟩
  have e3 : (splice p (l.length % 64) y).take (l.length % 64 + y.length) = p.take (l.length % 64) ++ y := by
    unfold splice
    rw [← List.append_assoc, List.take_append_of_le_length (by simp; omega), List.take_of_length_le (by simp; omega)]
  rw [e3, ← List.append_assoc, ← hl]
/-- .. that fills it -/
theorem wr_full {l y p : List Int} {ps : List (List Int)} (hp : p.length = 64) (hl : l = ps.reverse.flatten ++ p.take (l.length % 64)) (hps : ps.length = l.length / 64) (hn : l.length % 64 + y.length = 64) (q : List Int) :
    l ++ y = (splice p (l.length % 64) y :: ps).reverse.flatten ++ q.take ((l ++ y).length % 64) ∧ (splice p (l.length % 64) y :: ps).length = (l ++ y).length / 64 := by
  have e1 : (l ++ y).length % 64 = 0 := by rw [List.length_append]; omega
  have e2 : (l ++ y).length / 64 = l.length / 64 + 1 := by rw [List.length_append]; omega
  rw [e1, e2]
  refine ⟨?_, by simp [hps]⟩
  have e3 : splice p (l.length % 64) y = p.take (l.length % 64) ++ y := by
    unfold splice
    rw [hn, List.drop_of_length_le (by omega), List.append_nil]
  rw [e3, List.take_zero, List.append_nil, List.reverse_cons, List.flatten_append]
  simp only [List.flatten_cons, List.flatten_nil, List.append_nil]
  rw [← List.append_assoc, ← hl]

def AddPost (b : Nat) (l : List Int) (w : World) (e : Ending) (w' : World) : Prop := (∃ u, e = .returned u) ∧ WrAt w' b l ∧ Only b w w'
theorem oadd_nil (v : Value) (w : World) : Calls Try.prog 44 #[.pointer none, v] w fun e w' => (∃ u, e = .returned u) ∧ Below w.heap.size w w' := by
  go_enter Try.func44, Try.ntmps44
  go_wp2_with fail
  (try simp only [Exit.inBlock, Exit.then])
  refine bodyPost_ret (results_none rfl _ _ _) rfl ?_
  exact ⟨⟨_, rfl⟩, Below.refl _ _⟩
set_option maxHeartbeats 1000000 in
theorem oadd_any (b : Nat) (l x : List Int) (v : Value) (w : World) (h : WrAt w b l) (hr : Rd (intE .u8) w v x) (hne : v.ownBlock ≠ some b) (hl : l.length ≤ 1000000) (hx : x.length ≤ 1000000) :
    Calls Try.prog 44 #[.pointer (some ⟨b, 0, none⟩), v] w (AddPost b (l ++ x) w) := by
  go_enter Try.func44, Try.ntmps44
  go_wp2_with fail
  go_loopw [1] (fun v wr => AddAt x l b w v wr) (fun v _ => slen v)
  case atStart => exact ⟨0, Nat.zero_le _, by simpa using hr, hne, by simpa using h, Only.refl _ _⟩
  case round =>
    obtain ⟨m, hm, hrd, hnb, hw, ho⟩ := hrel
    obtain ⟨a, c, rfl, h1, h2⟩ := hrd.form
    obtain ⟨y, hy⟩ : ∃ y, y = x.drop m := ⟨_, rfl⟩
    rw [← hy] at hrd h1 hnb ⊢
    have hyl : y.length = x.length - m := by rw [hy]; simp
    by_cases h0 : 0 < y.length
    · have HS := Lib.hid (add_step (l := l) hy)
      have HY := Lib.hid hy
      have HM := Lib.hid hyl
      clear hy
      have hq : (l ++ x.take m).length = l.length + m := by simp; omega
      generalize l ++ x.take m = q at *
      obtain ⟨cp, ps, p, hb, hp, hc, e1, e2⟩ := hw
      obtain ⟨oc, rfl⟩ := hc.ptr
      have d65 : wr.cell? ⟨b, 65, none⟩ = some (.int .i64 q.length) := (hb.cell 65).trans (wcs_size hp)
      have hql : q.length ≤ 3000000 := by omega
      have hyl2 : y.length ≤ 1000000 := by omega
      have HB := Lib.hid hb
      have HE1 := Lib.hid e1
      have HE2 := Lib.hid e2
      have HC := Lib.hid hc
      have HP := Lib.hid hp
      have HO := Lib.hid ho
      have HQ := Lib.hid hq
      have HR := Lib.hid hrd
      clear hb e1 e2 hc hp ho hq hrd hyl h hr hne
      generalize hL : q.length = L at *
      have HL := Lib.hid hL
      clear hL
      obtain ⟨k, hk⟩ : ∃ k, k = L % 64 := ⟨_, rfl⟩
      have hk64 : k < 64 := by omega
      have hrem : ((L : Nat) : Int).tmod 64 = (k : Int) := by rw [Int.tmod_eq_emod_of_nonneg (by omega)]; omega
      have hrem2 : ((L : Nat) : Int) % 64 = (k : Int) := by omega
      have hpc := part_cut b k hk64
      have hlen : decide ((y.length : Int) > 0) = true := decide_eq_true (by omega)
      have HK := Lib.hid hk
      clear hk
      go_wp2_with fail
      refine Run.region_walk (S := fun z => z.cell? ⟨b, 65, none⟩ = some (.int .i64 L))
        oadd.rows2 oadd.plan2 (l := ?steps6) (by kernel_rfl) (by kernel_rfl) (by kernel_rfl) (by kernel_rfl) ?written6 d65 ?onward6
      case written6 =>
        simp only [oadd.plan2, Run.stepsOf, Run.stepOf, Run.guardOf, List.getElem?_toArray, List.getElem?_cons_zero, List.getElem?_cons_succ, Option.map_some, Option.map_none, Option.bind_some, Option.toList_some, List.map_cons, List.map_nil, List.cons_append, List.nil_append]
        rfl
      repeat ((first
        | (refine Run.takes (v := ?_) ?_ ?_; rotate_left; (· intro w' hS'; go_simp; (try with_reducible rfl)))
        | (refine Run.takesG (v := ?_) ?_ ?_ ?_; rotate_left; (· simp only [List.getElem?_cons_zero, List.getElem?_cons_succ]); (· intro w' hS'; go_simp; (try with_reducible rfl)))
        | (refine Run.skipsT ?_ ?_; (· simp only [List.getElem?_cons_zero, List.getElem?_cons_succ]))
        | (refine Run.skipsF ?_ ?_; (· simp only [List.getElem?_cons_zero, List.getElem?_cons_succ]))
        | (refine Run.skipsU ?_ ?_; (· simp only [List.getElem?_cons_zero, List.getElem?_cons_succ]))
        | (refine Run.passT ?_ ?_; (· simp only [List.getElem?_cons_zero, List.getElem?_cons_succ]))
        | (refine Run.passF ?_ ?_; (· simp only [List.getElem?_cons_zero, List.getElem?_cons_succ]))
        | (refine Run.passU ?_ ?_; (· simp only [List.getElem?_cons_zero, List.getElem?_cons_succ]))
        | fail); simp only [Act.put, List.setIfInBounds_toArray, List.set_cons_zero, List.set_cons_succ])
      have hmn : min y.length (64 - k) ≤ y.length := Nat.min_le_left _ _
      have hml : (y.take (64 - k)).length = min y.length (64 - k) := by rw [List.length_take, Nat.min_comm]
      have hms := Nat.min_le_right y.length (64 - k)
      refine Run.runs (Run.one (fun hS K hK => ?_))
      refine wp_copy byteElem (.tmp 18) (.tmp 19) rfl rfl rfl (HB.out.keep (Below.refl _ _).drew) (HR.out.keep (Below.refl _ _).drew) (fun _ => ⟨rfl, by rw [wcs_len HP.out]; omega⟩) ?_
      rw [wcs_splice HP.out (by omega)]
      intro w2 hb2 ho2
      have hp2 : (splice p k (y.take (64 - k))).length = 64 := by rw [splice_len (by rw [hml, HP.out]; omega), HP.out]
      have hk2 := HK.out
      have e65 : w2.cell? ⟨b, 65, none⟩ = some (.int .i64 L) := (hb2.cell 65).trans (wcs_size hp2)
      refine hK.out _ _ e65 ?_
      clear hK K hS
      obtain ⟨n, hn⟩ : ∃ n, n = min y.length (64 - k) := ⟨_, rfl⟩
      rw [← hn] at hml hmn hms ⊢
      have HML := Lib.hid hml
      have HN := Lib.hid hn
      have HK2 := Lib.hid hk2
      have HO2 := Lib.hid (HO.out.drew.trans ho2)
      have HC2 := Lib.hid ((HC.out.keep (Below.refl _ _).drew).only ho2 (HB.out.keep (Below.refl _ _).drew) (by decide))
      have HR2 := Lib.hid ((HR.out.keep (Below.refl _ _).drew).only ho2 hnb)
      have HP2 := Lib.hid hp2
      clear hml hn hk2 ho2 HR HO HC hmn hms
      have hyt : y.take (64 - k) = y.take n := by
        have := HN.out
        rcases Nat.le_total (64 - k) y.length with h | h
        · rw [this, Nat.min_eq_right h]
        · rw [this, Nat.min_eq_left h, List.take_of_length_le h, List.take_length]
      rw [hyt] at hb2 HP2 HML
      have hmn : n ≤ y.length := by have := HN.out; omega
      have hms : n ≤ 64 - k := by have := HN.out; omega
      have hn1 : 1 ≤ n := by have := HN.out; omega
      obtain ⟨p2, hpe⟩ : ∃ p2, p2 = splice p k (y.take n) := ⟨_, rfl⟩
      rw [← hpe] at hb2 HP2
      have HPE := Lib.hid hpe
      clear hpe hyt hp2
      repeat ((first
        | (refine Run.takes (v := ?_) ?_ ?_; rotate_left; (· intro w' hS'; go_simp; (try with_reducible rfl)))
        | (refine Run.takesG (v := ?_) ?_ ?_ ?_; rotate_left; (· simp only [List.getElem?_cons_zero, List.getElem?_cons_succ]); (· intro w' hS'; go_simp; (try with_reducible rfl)))
        | (refine Run.skipsT ?_ ?_; (· simp only [List.getElem?_cons_zero, List.getElem?_cons_succ]))
        | (refine Run.skipsF ?_ ?_; (· simp only [List.getElem?_cons_zero, List.getElem?_cons_succ]))
        | (refine Run.skipsU ?_ ?_; (· simp only [List.getElem?_cons_zero, List.getElem?_cons_succ]))
        | (refine Run.passT ?_ ?_; (· simp only [List.getElem?_cons_zero, List.getElem?_cons_succ]))
        | (refine Run.passF ?_ ?_; (· simp only [List.getElem?_cons_zero, List.getElem?_cons_succ]))
        | (refine Run.passU ?_ ?_; (· simp only [List.getElem?_cons_zero, List.getElem?_cons_succ]))
        | fail); simp only [Act.put, List.setIfInBounds_toArray, List.set_cons_zero, List.set_cons_succ])
      refine Run.ends (fun _ => ?_)
      have hfz : w2.frozen? ⟨b, 65, none⟩ = false := hb2.frozen 65
      have hb3 : Blk (w2.setCell ⟨b, 65, none⟩ (.int .i64 ((L : Int) + n))) b 58 (wcs (.pointer oc) p2 ((L : Int) + n)).toArray := by
        have := hb2.set_ 65 (.int .i64 ((L : Int) + n))
        rwa [wcs_setn HP2.out] at this
      have f65 : (w2.setCell ⟨b, 65, none⟩ (.int .i64 ((L : Int) + n))).cell? ⟨b, 65, none⟩ = some (.int .i64 ((L : Int) + n)) := (hb3.cell 65).trans (wcs_size HP2.out)
      have hcut := run_cut_from (P := Try.prog) byteElem a y.length c n hmn h1
      have HB3 := Lib.hid hb3
      have HB2 := Lib.hid hb2
      have HSET := Lib.hid (Only.set (b := b) w2 65 (.int .i64 ((L : Int) + n)))
      have hn64 : n ≤ 64 := by omega
      clear hb3 hb2 hrem hrem2 d65 hpc hlen
      by_cases hfull : k + n = 64
      · have hr1 : ((L : Int) + n).tmod 64 = 0 := by rw [Int.tmod_eq_emod_of_nonneg (by omega)]; have := HK2.out; omega
        have hr2 : ((L : Int) + n) % 64 = 0 := by have := HK2.out; omega
        have HF := Lib.hid hfull
        clear hfull
        go_wp2_with fail
        generalize w2.setCell ⟨b, 65, none⟩ (.int .i64 ((L : Int) + n)) = W at *
        have g0 : W.cell? ⟨b, 0, none⟩ = some (.pointer oc) := (HB3.out.cell 0).trans (wcs_full _ _ _)
        have HC3 := Lib.hid (HC2.out.only HSET.out HB2.out (by decide))
        refine Run.region_walkZ (S := fun z => z.cell? ⟨b, 0, none⟩ = some (.pointer oc) ∧ Blk z b 58 (wcs (.pointer oc) p2 ((L : Int) + n)).toArray)
          oadd.rows6 oadd.plan6z 13 _ (l := ?steps8) (by kernel_rfl) (by kernel_rfl) (by kernel_rfl) (by kernel_rfl) rfl rfl ?written8 ⟨g0, HB3.out.keep (Below.refl _ _).drew⟩ ?onward8
        case written8 =>
          simp only [oadd.plan6z, Run.stepsOf, Run.stepOf, Run.guardOf, List.getElem?_toArray, List.getElem?_cons_zero, List.getElem?_cons_succ, Option.map_some, Option.map_none, Option.bind_some, Option.toList_some, List.map_cons, List.map_nil, List.cons_append, List.nil_append]
          rfl
        repeat ((first
          | (refine Run.takes (v := ?_) ?_ ?_; rotate_left; (· intro w' hS'; (first | (refine exec_load_part (x := .tmp 45) (l := p2.map (Value.int .u8)) (g := b) (off := 1) (n := 64) (e := 5) (ty := 56) ?_ Try.underlying56 arr_size (by rw [List.length_map]; exact HP2.out) ?_ (fun j u hu => (hS'.2.cell (1 + j)).trans (wcs_part hu)) <;> rfl) | (refine exec_build_chunk (oc := oc) (x := .tmp 42) (y := .tmp 46) ?_ HP2.out ?_ ?_ _ <;> rfl) | (go_simp; (try with_reducible rfl)))))
          | (refine Run.takesG (v := ?_) ?_ ?_ ?_; rotate_left; (· simp only [List.getElem?_cons_zero, List.getElem?_cons_succ]); (· intro w' hS'; (first | (refine exec_load_part (x := .tmp 45) (l := p2.map (Value.int .u8)) (g := b) (off := 1) (n := 64) (e := 5) (ty := 56) ?_ Try.underlying56 arr_size (by rw [List.length_map]; exact HP2.out) ?_ (fun j u hu => (hS'.2.cell (1 + j)).trans (wcs_part hu)) <;> rfl) | (refine exec_build_chunk (oc := oc) (x := .tmp 42) (y := .tmp 46) ?_ HP2.out ?_ ?_ _ <;> rfl) | (go_simp; (try with_reducible rfl)))))
          | (refine Run.skipsT ?_ ?_; (· simp only [List.getElem?_cons_zero, List.getElem?_cons_succ]))
          | (refine Run.skipsF ?_ ?_; (· simp only [List.getElem?_cons_zero, List.getElem?_cons_succ]))
          | (refine Run.skipsU ?_ ?_; (· simp only [List.getElem?_cons_zero, List.getElem?_cons_succ]))
          | (refine Run.passT ?_ ?_; (· simp only [List.getElem?_cons_zero, List.getElem?_cons_succ]))
          | (refine Run.passF ?_ ?_; (· simp only [List.getElem?_cons_zero, List.getElem?_cons_succ]))
          | (refine Run.passU ?_ ?_; (· simp only [List.getElem?_cons_zero, List.getElem?_cons_succ]))
          | fail); simp only [Act.put, List.setIfInBounds_toArray, List.set_cons_zero, List.set_cons_succ])
        refine Run.runs (Run.one (fun hS K hK => ?_))
        go_simp
        have hY : Below W.heap.size W (W.alloc (Obj.cells (ccs (.pointer oc) p2).toArray 89)).drew := (more (Below.refl _ _) _).drew
        have hbg : Blk (W.alloc (Obj.cells (ccs (.pointer oc) p2).toArray 89)).drew W.heap.size 89 (ccs (.pointer oc) p2).toArray := Blk.new W _ _
        have hbY := HB3.out.keep hY
        refine hK.out _ _ ⟨(hbY.cell 0).trans (wcs_full _ _ _), hbY⟩ ?_
        clear hK K hS
        have HBG := Lib.hid hbg
        have HBY := Lib.hid hbY
        have HY2 := Lib.hid (Only.of_below (b := b) hY)
        have HC4 := Lib.hid (HC3.out.keep hY)
        clear hbg hbY hY
        generalize (W.alloc (Obj.cells (ccs (.pointer oc) p2).toArray 89)).drew = Y at *
        generalize W.heap.size = g at *
        repeat ((first
          | (refine Run.takes (v := ?_) ?_ ?_; rotate_left; (· intro w' hS'; go_simp; (try with_reducible rfl)))
          | (refine Run.takesG (v := ?_) ?_ ?_ ?_; rotate_left; (· simp only [List.getElem?_cons_zero, List.getElem?_cons_succ]); (· intro w' hS'; go_simp; (try with_reducible rfl)))
          | (refine Run.skipsT ?_ ?_; (· simp only [List.getElem?_cons_zero, List.getElem?_cons_succ]))
          | (refine Run.skipsF ?_ ?_; (· simp only [List.getElem?_cons_zero, List.getElem?_cons_succ]))
          | (refine Run.skipsU ?_ ?_; (· simp only [List.getElem?_cons_zero, List.getElem?_cons_succ]))
          | (refine Run.passT ?_ ?_; (· simp only [List.getElem?_cons_zero, List.getElem?_cons_succ]))
          | (refine Run.passF ?_ ?_; (· simp only [List.getElem?_cons_zero, List.getElem?_cons_succ]))
          | (refine Run.passU ?_ ?_; (· simp only [List.getElem?_cons_zero, List.getElem?_cons_succ]))
          | fail); simp only [Act.put, List.setIfInBounds_toArray, List.set_cons_zero, List.set_cons_succ])
        have fz0 : Y.frozen? ⟨b, 0, none⟩ = false := HBY.out.frozen 0
        have y0 : Y.cell? ⟨b, 0, none⟩ = some (.pointer oc) := (HBY.out.cell 0).trans (wcs_full _ _ _)
        refine Run.endsZ (fun hS K hK => ?_)
        go_simp
        refine hK.out _ _ (NoPanic.normal ?_)
        clear hK K hS
        have hbz := HBY.out.set_ 0 (.pointer (some ⟨g, 0, none⟩))
        rw [wcs_setc] at hbz
        have hoz : Only b Y (Y.setCell ⟨b, 0, none⟩ (.pointer (some ⟨g, 0, none⟩))) := Only.set Y 0 _
        have HZ := Lib.hid hbz
        have HOZ := Lib.hid hoz
        clear hbz hoz y0 fz0
        generalize Y.setCell ⟨b, 0, none⟩ (.pointer (some ⟨g, 0, none⟩)) = Z at *
        go_wp2_with fail
        refine ⟨?_, by simp [slen]; omega⟩
        have hL := HL.out
        have hyn : (y.take n).length = n := by rw [List.length_take]; omega
        have hf := wr_full (y := y.take n) HP.out (by rw [hL]; exact HE1.out) (by rw [hL]; exact HE2.out) (by rw [hL, hyn, ← HK2.out]; exact HF.out) p2
        rw [hL, ← HK2.out, ← HPE.out] at hf
        refine ⟨m + n, by have := HM.out; omega, ?_, cut_ne hnb, ?_, ((HO2.out.trans HSET.out).trans HY2.out).trans HOZ.out⟩
        · have hr := HR2.out.cutA hmn (Nat.le_refl _)
          rw [List.take_length, HY.out, List.drop_drop, ← HY.out] at hr
          exact ((hr.only HSET.out (cut_ne hnb)).only HY2.out (cut_ne hnb)).only HOZ.out (cut_ne hnb)
        · rw [← HS.out n]
          have hlq : (q ++ y.take n).length = L + n := by rw [List.length_append, hL, hyn]
          refine ⟨.pointer (some ⟨g, 0, none⟩), p2 :: ps, p2, ?_, HP2.out, ⟨g, .pointer oc, rfl, HBG.out.only HOZ.out (Blk.ne HBG.out HBY.out (by decide)), HP2.out, HC4.out.only HOZ.out HBY.out (by decide)⟩, hf.1, hf.2⟩
          rw [hlq]
          exact HZ.out
      · have hyn : n = y.length := by have := HN.out; omega
        have hr1 : ((L : Int) + n).tmod 64 = ((k + n : Nat) : Int) := by rw [Int.tmod_eq_emod_of_nonneg (by omega)]; have := HK2.out; omega
        have hr2 : ((L : Int) + n) % 64 = ((k + n : Nat) : Int) := by have := HK2.out; omega
        have hlt : k + n < 64 := by omega
        have HYN := Lib.hid hyn
        have HLT := Lib.hid hlt
        obtain ⟨r, hr⟩ : ∃ r, r = k + n := ⟨_, rfl⟩
        rw [← hr] at hr1 hr2
        have hz1 : ((r : Int) == 0) = false := by
          have : ¬ ((r : Int) = 0) := by omega
          simpa using this
        clear hfull hyn hlt hr
        go_wp2_with fail
        refine ⟨?_, by simp [slen]; omega⟩
        generalize w2.setCell ⟨b, 65, none⟩ (.int .i64 ((L : Int) + n)) = W at *
        have hL := HL.out
        have hyn : (y.take n).length = n := by rw [List.length_take]; omega
        have hf := wr_more (y := y.take n) HP.out (by rw [hL]; exact HE1.out) (by rw [hL]; exact HE2.out) (by rw [hL, hyn, ← HK2.out]; exact HLT.out)
        rw [hL, ← HK2.out, ← HPE.out] at hf
        refine ⟨m + n, by have := HM.out; omega, ?_, cut_ne hnb, ?_, HO2.out.trans HSET.out⟩
        · have hr := HR2.out.cutA hmn (Nat.le_refl _)
          rw [List.take_length, HY.out, List.drop_drop, ← HY.out] at hr
          exact hr.only HSET.out (cut_ne hnb)
        · rw [← HS.out n]
          have hlq : (q ++ y.take n).length = L + n := by rw [List.length_append, hL, hyn]
          refine ⟨.pointer oc, ps, p2, ?_, HP2.out, HC2.out.only HSET.out HB2.out (by decide), hf.1, hf.2⟩
          rw [hlq]
          exact HB3.out
    · have hmx : m = x.length := by omega
      have he : decide ((y.length : Int) > 0) = false := decide_eq_false (by omega)
      rw [hmx, List.take_length] at hw
      have hz : y.length = 0 := by omega
      clear hy hyl hmx
      go_wp2_with fail
      go_end0
      exact ⟨⟨_, rfl⟩, hw, ho⟩
theorem oadd_none (b : Nat) (l : List Int) (a : Option Addr) (c : Nat) (w : World) (h : WrAt w b l) :
    Calls Try.prog 44 #[.pointer (some ⟨b, 0, none⟩), .slice a 0 c] w (AddPost b l w) := by
  have H := Lib.hid h
  clear h
  go_enter Try.func44, Try.ntmps44
  go_wp2_with fail
  go_loopw [1] (fun v wr => v = .slice a 0 c ∧ wr = w) (fun v _ => 0)
  case atStart => exact ⟨rfl, rfl⟩
  case round =>
    obtain ⟨rfl, rfl⟩ := hrel
    go_wp2_with fail
    go_end0
    exact ⟨⟨_, rfl⟩, H.out, Only.refl _ _⟩
theorem oadd_more (b : Nat) (l x : List Int) (v : Value) (w : World) (h : WrAt w b l) (hr : Rd (intE .u8) w v x) (hne : 0 < x.length → v.ownBlock ≠ some b) (hl : l.length ≤ 1000000) (hx : x.length ≤ 1000000) :
    Calls Try.prog 44 #[.pointer (some ⟨b, 0, none⟩), v] w (AddPost b (l ++ x) w) := by
  rcases Nat.eq_zero_or_pos x.length with h0 | h0
  · obtain ⟨a, c, rfl, _⟩ := hr.form
    rw [List.eq_nil_of_length_eq_zero h0, List.append_nil]
    exact oadd_none b l a c w h
  · exact oadd_any b l x v w h hr (hne h0) hl hx
end Go.Proofs.Ytkenldpmogogaaa
