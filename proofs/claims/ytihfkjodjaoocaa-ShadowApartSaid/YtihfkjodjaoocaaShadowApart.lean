/- Walk of the law ShadowApart. -/
import Derived.Test.YtihfkjodjaoocaaShwLaw
set_option maxRecDepth 4000
namespace Go.Proofs.Ytihfkjodjaoocaa.shadowApart
open Go.RowKit Mem
set_option linter.unusedSimpArgs false
set_option linter.unusedVariables false
attribute [local irreducible] Go.Calls

theorem f0_upd (o : Int) : updF (fun _ => []) o [] = fun _ => [] := by
  funext p
  unfold updF
  split <;> rfl
theorem tr_new {w w1 : World} {s : Nat} {W R : Nat → Prop} (h : ShwAt w1 s W R (fun _ => [])) (hr : ∀ j, R j → w.heap.size ≤ j) (hk : Below w.heap.size w w1) :
    Tr w.heap.size ((w1.alloc (.cells #[.slice none 0 0] 40)).alloc (.cells #[.slice none 0 0] 40)) s w1.heap.size (w1.heap.size + 1) (fun _ => []) [] [] := by
  have k1 := more (Below.refl w1.heap.size w1) (.cells #[.slice none 0 0] 40)
  have e : (w1.alloc (.cells #[.slice none 0 0] 40)).heap.size = w1.heap.size + 1 := size_alloc _ _
  have k2 := more (Below.refl (w1.alloc (.cells #[.slice none 0 0] 40)).heap.size (w1.alloc (.cells #[.slice none 0 0] 40))) (.cells #[.slice none 0 0] 40)
  have f2 := rf_fresh (w1.alloc (.cells #[.slice none 0 0] 40))
  rw [e] at f2
  have hs := hk.size
  refine ⟨W, R, fun j => j = w1.heap.size, fun j => j = w1.heap.size, fun j => j = w1.heap.size + 1, fun j => j = w1.heap.size + 1, (h.keep k1).keep k2, (rf_fresh w1).keep k2, f2, ⟨fun j hj e => ?_, fun j e hj => ?_⟩, ⟨fun j hj e => ?_, fun j e hj => ?_⟩, ⟨fun j e1 e2 => by omega, fun j e1 e2 => by omega⟩, fun j hj => ?_⟩
  · have := h.lt hj; omega
  · have := h.lt (h.sub hj); omega
  · have := h.lt hj; omega
  · have := h.lt (h.sub hj); omega
  · rcases hj with hj | hj | hj
    · exact hr j hj
    · omega
    · omega

set_option maxRecDepth 100000 in
set_option maxHeartbeats 8000000 in
theorem walk (a : Int) (ba : 0 ≤ a ∧ a ≤ 4294967295) (b : Int) (bb : 0 ≤ b ∧ b ≤ 4294967295) (v0 : Value) (l : List Ent) (v1 : Value) (m : List Ent) (w : World) (h0 : entsKW.rd w [v0] l) (h1 : entsKW.rd w [v1] m) :
    Calls Try.prog 4 #[.int .u32 a, .int .u32 b, v0, v1] w fun e w' => e = .returned (.bool true) ∧ Below w.heap.size w w' := by
  obtain ⟨hil, hol⟩ := ents_of_kdw h0
  obtain ⟨him, hom⟩ := ents_of_kdw h1
  obtain ⟨al, gl, ol, cl, rfl, hcl, hml, hal, hel⟩ := hil.at
  obtain ⟨am, gm, om, cm, rfl, hcm, hmm, _, _⟩ := him.at
  have hml' : cl ≤ 9223372036854775807 := hml
  have hmm' : cm ≤ 9223372036854775807 := hmm
  have HAL := Lib.hid hal
  have HEL := Lib.hid hel
  have HIM := Lib.hid him
  have HOL := Lib.hid hol
  have HOM := Lib.hid hom
  have HBA := Lib.hid ba
  have HBB := Lib.hid bb
  clear h0 h1 hil him hol hom hml hmm hal hel ba bb
  go_enter Try.func4, Try.ntmps4
  by_cases hab : a = b
  · subst hab
    go_wp2_with fail
    refine (shwawake_any w).mono ?_
    rintro e w3 ⟨rfl, hk⟩
    have HK3 := Lib.hid hk
    clear hk
    go_wp2_with fail
    go_ret
    exact ⟨rfl, HK3.out⟩
  have hab' : (a == b) = false := beq_eq_false_iff_ne.2 hab
  by_cases hl20 : (l.length : Int) > 20
  · go_wp2_with fail
    refine (shwawake_any w).mono ?_
    rintro e w3 ⟨rfl, hk⟩
    have HK3 := Lib.hid hk
    clear hk
    go_wp2_with fail
    go_ret
    exact ⟨rfl, HK3.out⟩
  by_cases hm20 : (m.length : Int) > 20
  · go_wp2_with fail
    refine (shwawake_any w).mono ?_
    rintro e w3 ⟨rfl, hk⟩
    have HK3 := Lib.hid hk
    clear hk
    go_wp2_with fail
    go_ret
    exact ⟨rfl, HK3.out⟩
  go_wp2_with fail
  refine (shwnew_any w).mono ?_
  rintro e w1 ⟨s, W, R, rfl, hp, hr, hk⟩
  go_upto_block 99 with fail
  have HT0 := Lib.hid (tr_new hp hr hk)
  have HK0 := Lib.hid (nest (nest hk (more (Below.refl w1.heap.size w1) (.cells #[.slice none 0 0] 40))) (more (Below.refl _ _) (.cells #[.slice none 0 0] 40)))
  clear hp hr hk
  generalize (w1.alloc (.cells #[.slice none 0 0] 40)).alloc (.cells #[.slice none 0 0] 40) = z0 at *
  obtain ⟨x, hx⟩ : ∃ x, x = w1.heap.size := ⟨_, rfl⟩
  obtain ⟨y, hy⟩ : ∃ y, y = w1.heap.size + 1 := ⟨_, rfl⟩
  rw [← hy] at HT0 ⊢
  rw [← hx] at HT0 ⊢
  clear hx hy
  go_loopw [12] (fun iv wr => ∃ i : Nat, i ≤ l.length ∧ iv = .int .i64 i ∧ Tr w.heap.size wr s x y (updF (fun _ => []) a (joinL [] (l.take i)).1) (joinL [] (l.take i)).1 [] ∧ Below w.heap.size w wr) (fun iv _ => l.length - (intOf iv).toNat)
  case atStart => exact ⟨0, Nat.zero_le _, rfl, by rw [List.take_zero, joinL_nil]; rw [f0_upd]; exact HT0.out, HK0.out⟩
  case round =>
    obtain ⟨i, hi, rfl, ht, hk⟩ := hrel
    obtain ⟨wi, hwi⟩ : ∃ z, z = wr := ⟨_, rfl⟩
    subst hwi
    have HT := Lib.hid ht
    have HK := Lib.hid hk
    clear ht hk HT0 HK0
    by_cases hlt : i < l.length
    · obtain ⟨rfl, hg1, hg2⟩ := HAL.out (by omega)
      obtain ⟨q, t0, t1, t2, t3, t4, tr, _⟩ := HEL.out i hlt
      obtain ⟨e, he⟩ : ∃ e, e = l.getD i e0 := ⟨_, rfl⟩
      have HOE : Hid (okE e) := Lib.hid (HOL.out e (by rw [he, show l.getD i e0 = l[i] by simp [List.getD, hlt]]; exact List.getElem_mem _))
      have HST := Lib.hid (joinL_step [] hlt)
      rw [← he] at t0 t1 t2 t4 tr HST
      obtain ⟨aq, cq, rfl, _, _⟩ := tr.form
      obtain ⟨J, hJ⟩ : ∃ J, J = (joinL [] (l.take i)).1 := ⟨_, rfl⟩
      rw [← hJ] at HT HST
      have HTR := Lib.hid tr
      have HTC := Lib.hid (And.intro t0 (And.intro t1 (And.intro t2 (And.intro t3 t4))))
      clear he hJ tr t0 t1 t2 t3 t4 hg1 hg2
      obtain ⟨ea, ⟨ei, ev, evl⟩, eg⟩ := e
      have d0 : wi.cell? ⟨gl, ol + i * 5, none⟩ = some (.int .u32 ea) := kc HK.out HTC.out.1
      have d1 : wi.cell? ⟨gl, ol + i * 5 + 1, none⟩ = some (.int .u64 ei) := kc HK.out HTC.out.2.1
      have d2 : wi.cell? ⟨gl, ol + i * 5 + 2, none⟩ = some (.int .u64 ev) := kc HK.out HTC.out.2.2.1
      have d3 : wi.cell? ⟨gl, ol + i * 5 + 3, none⟩ = some (.slice aq evl.length cq) := kc HK.out HTC.out.2.2.2.1
      have d4 : wi.cell? ⟨gl, ol + i * 5 + 4, none⟩ = some (.bool eg) := kc HK.out HTC.out.2.2.2.2
      have hil : (i : Int) < (l.length : Int) := by omega
      have hicl : (l.length : Int) ≤ cl := by omega
      go_wp2_with fail
      refine (tr_put w.heap.size s x y _ J [] a (ea, (ei, ev, evl), eg) (.slice aq evl.length cq) wi HT.out HK.out.size HBA.out (HTR.out.keep HK.out) HOE.out).mono ?_
      rw [updF_at, updF_upd]
      rintro e z2 ⟨⟨r, rfl, _⟩, ht, hk⟩
      have HF := Lib.hid (HT.out.facts a)
      rw [updF_at] at HF
      have HT2 := Lib.hid ht
      have HK2 := Lib.hid (HK.out.trans hk)
      clear ht hk d0 d1 d2 d3 d4 HT HK
      have d0 : z2.cell? ⟨gl, ol + i * 5, none⟩ = some (.int .u32 ea) := kc HK2.out HTC.out.1
      have d1 : z2.cell? ⟨gl, ol + i * 5 + 1, none⟩ = some (.int .u64 ei) := kc HK2.out HTC.out.2.1
      have d2 : z2.cell? ⟨gl, ol + i * 5 + 2, none⟩ = some (.int .u64 ev) := kc HK2.out HTC.out.2.2.1
      have d3 : z2.cell? ⟨gl, ol + i * 5 + 3, none⟩ = some (.slice aq evl.length cq) := kc HK2.out HTC.out.2.2.2.1
      have d4 : z2.cell? ⟨gl, ol + i * 5 + 4, none⟩ = some (.bool eg) := kc HK2.out HTC.out.2.2.2.2
      go_wp2_with fail
      refine (tr_rput1 w.heap.size s x y _ J [] (ea, (ei, ev, evl), eg) (.slice aq evl.length cq) z2 HT2.out HK2.out.size (HTR.out.keep HK2.out) HOE.out HF.out.2.1 (by have := HF.out.2.2; omega)).mono ?_
      rintro e z3 ⟨rfl, ht, hk⟩
      have HT3 := Lib.hid ht
      have HK3 := Lib.hid (HK2.out.trans hk)
      clear ht hk d0 d1 d2 d3 d4 HT2 HK2
      go_wp2_with fail
      exact ⟨⟨i + 1, by omega, by go_num, by rw [HST.out]; exact HT3.out, HK3.out⟩, by simp [intOf]; omega⟩
    · have hil : i = l.length := by omega
      subst hil
      rw [List.take_length] at HT
      obtain ⟨J, hJ⟩ : ∃ J, J = (joinL [] l).1 := ⟨_, rfl⟩
      rw [← hJ] at HT
      have HFJ := Lib.hid (HT.out.facts a)
      rw [updF_at] at HFJ
      clear hJ HEL HAL HOL
      go_wp2_with fail
      refine (tr_set w.heap.size s x y _ J [] b _ m _ wi HT.out HK.out.size HBB.out (HIM.out.keep HK.out) (fun j hj => hj) HOM.out (by omega)).mono ?_
      rintro e z2 ⟨⟨uu, rfl⟩, ht, hk⟩
      have HT2 := Lib.hid ht
      have HK2 := Lib.hid (HK.out.trans hk)
      clear ht hk HT HK
      go_wp2_with fail
      refine (tr_rjoin2 w.heap.size s x y _ J [] _ m _ z2 HT2.out HK2.out.size (HIM.out.keep HK2.out) (fun j hj => hj) HOM.out (fun y hy => (nomatch hy)) (by simp; omega)).mono ?_
      rintro e z3 ⟨rfl, ht, hk⟩
      have HT3 := Lib.hid ht
      have HK3 := Lib.hid (HK2.out.trans hk)
      clear ht hk HT2 HK2
      obtain ⟨K, hK⟩ : ∃ K, K = (joinL [] m).1 := ⟨_, rfl⟩
      rw [← hK] at HT3
      obtain ⟨F2, hF2⟩ : ∃ F, F = updF (updF (fun _ => []) a J) b K := ⟨_, rfl⟩
      rw [← hF2] at HT3
      have HFA : Hid (F2 a = J) := Lib.hid (by rw [hF2, updF_ne hab, updF_at])
      have HFB : Hid (F2 b = K) := Lib.hid (by rw [hF2, updF_at])
      have HFK := Lib.hid (HT3.out.facts b)
      rw [HFB.out] at HFK
      have HVJ : Hid (∀ y ∈ scanL 4294967295 4294967295 J, entB y) := Lib.hid (fun y hy => (HFJ.out.2.1 y ((scanL_whole _ J).mem_iff.1 hy)).1)
      have HVK : Hid (∀ y ∈ scanL 4294967295 4294967295 K, entB y) := Lib.hid (fun y hy => (HFK.out.2.1 y ((scanL_whole _ K).mem_iff.1 hy)).1)
      clear hK hF2
      go_upto_region 12 with fail
      refine Run.region_seq (S := fun z => Below z3.heap.size z3 z)
        [1, 0, 0, 0, 0, 1, 0, 1, 1, 0, 0, 0, 0, 0, 1, 0, 1, 1, 0, 0] (l := ?_) ?_ (Below.refl _ _) ?_
      rotate_left
      (· simp only [Run.seqOf, List.toList_toArray, Run.stepsOf, Run.stepOf, Run.guardOf, List.getElem?_toArray, List.getElem?_cons_zero, List.getElem?_cons_succ, Option.map_some, Option.map_none, Option.bind_some, Option.toList_some, List.map_cons, List.map_nil, List.cons_append, List.nil_append, List.append_eq]
         rfl)
      repeat ((first
        | (refine Run.takes (v := ?_) ?_ ?_; rotate_left; (· intro w' hS'; go_simp; (try with_reducible rfl)))
        | (refine Run.takesG (v := ?_) ?_ ?_ ?_; rotate_left; (· simp only [List.getElem?_cons_zero, List.getElem?_cons_succ]); (· intro w' hS'; go_simp; (try with_reducible rfl)))
        | (refine Run.skipsT ?_ ?_; (· simp only [List.getElem?_cons_zero, List.getElem?_cons_succ]))
        | (refine Run.skipsF ?_ ?_; (· simp only [List.getElem?_cons_zero, List.getElem?_cons_succ]))
        | (refine Run.skipsU ?_ ?_; (· simp only [List.getElem?_cons_zero, List.getElem?_cons_succ]))
        | (refine Run.passT ?_ ?_; (· simp only [List.getElem?_cons_zero, List.getElem?_cons_succ]))
        | (refine Run.passF ?_ ?_; (· simp only [List.getElem?_cons_zero, List.getElem?_cons_succ]))
        | (refine Run.passU ?_ ?_; (· simp only [List.getElem?_cons_zero, List.getElem?_cons_succ]))
        | (refine Run.runs ?_
           (first
           | (refine Run.callF 7 (by kernel_rfl) (fun hS => shwawake_any _) rfl ?_)
           | (refine Run.callG 7 (by kernel_rfl) ?_ (fun hS => shwawake_any _) rfl ?_; (· simp only [List.getElem?_cons_zero, List.getElem?_cons_succ]))
           | (refine Run.callF 9 (by kernel_rfl) (fun hS => tr_of w.heap.size s x y F2 J K a _ (HT3.out.keep hS) HBA.out) rfl ?_)
           | (refine Run.callG 9 (by kernel_rfl) ?_ (fun hS => tr_of w.heap.size s x y F2 J K a _ (HT3.out.keep hS) HBA.out) rfl ?_; (· simp only [List.getElem?_cons_zero, List.getElem?_cons_succ]))
           | fail)
           (first
           | (rintro hS e w' ⟨vq, rfl, hvq, hb⟩; rw [HFA.out] at hvq; have HVA := Lib.hid hvq; obtain ⟨aq, gq, oq, cq, rfl, _⟩ := hvq.at; refine ⟨_, rfl, nest hS hb, ?_⟩; clear hvq)
           | (rintro hS e w' ⟨rfl, rfl⟩; refine ⟨_, rfl, hS, ?_⟩)
           | (rintro hS e w' ⟨rfl, hb⟩; refine ⟨_, rfl, nest hS hb, ?_⟩)
           | fail))
        | fail); simp only [Act.put, List.setIfInBounds_toArray, List.set_cons_zero, List.set_cons_succ])
      repeat ((first
        | (refine Run.takes (v := ?_) ?_ ?_; rotate_left; (· intro w' hS'; go_simp; (try with_reducible rfl)))
        | (refine Run.takesG (v := ?_) ?_ ?_ ?_; rotate_left; (· simp only [List.getElem?_cons_zero, List.getElem?_cons_succ]); (· intro w' hS'; go_simp; (try with_reducible rfl)))
        | (refine Run.skipsT ?_ ?_; (· simp only [List.getElem?_cons_zero, List.getElem?_cons_succ]))
        | (refine Run.skipsF ?_ ?_; (· simp only [List.getElem?_cons_zero, List.getElem?_cons_succ]))
        | (refine Run.skipsU ?_ ?_; (· simp only [List.getElem?_cons_zero, List.getElem?_cons_succ]))
        | (refine Run.passT ?_ ?_; (· simp only [List.getElem?_cons_zero, List.getElem?_cons_succ]))
        | (refine Run.passF ?_ ?_; (· simp only [List.getElem?_cons_zero, List.getElem?_cons_succ]))
        | (refine Run.passU ?_ ?_; (· simp only [List.getElem?_cons_zero, List.getElem?_cons_succ]))
        | (refine Run.runs ?_
           (first
           | (refine Run.callF 17 (by kernel_rfl) (fun hS => tr_rall1 w.heap.size s x y F2 J K _ (HT3.out.keep hS) HFJ.out.2.1 (by have := HFJ.out.2.2; omega)) rfl ?_)
           | (refine Run.callG 17 (by kernel_rfl) ?_ (fun hS => tr_rall1 w.heap.size s x y F2 J K _ (HT3.out.keep hS) HFJ.out.2.1 (by have := HFJ.out.2.2; omega)) rfl ?_; (· simp only [List.getElem?_cons_zero, List.getElem?_cons_succ]))
           | fail)
           (first
           | (rintro hS e w' ⟨vq, rfl, hvq, hb⟩; have HVB := Lib.hid hvq; have HVA2 := Lib.hid (HVA.out.keep hb); obtain ⟨aq, gq, oq, cq, rfl, _⟩ := hvq.at; refine ⟨_, rfl, nest hS hb, ?_⟩; clear hvq)
           | (rintro hS e w' ⟨rfl, rfl⟩; refine ⟨_, rfl, hS, ?_⟩)
           | fail))
        | fail); simp only [Act.put, List.setIfInBounds_toArray, List.set_cons_zero, List.set_cons_succ])
      repeat ((first
        | (refine Run.takes (v := ?_) ?_ ?_; rotate_left; (· intro w' hS'; go_simp; (try with_reducible rfl)))
        | (refine Run.takesG (v := ?_) ?_ ?_ ?_; rotate_left; (· simp only [List.getElem?_cons_zero, List.getElem?_cons_succ]); (· intro w' hS'; go_simp; (try with_reducible rfl)))
        | (refine Run.skipsT ?_ ?_; (· simp only [List.getElem?_cons_zero, List.getElem?_cons_succ]))
        | (refine Run.skipsF ?_ ?_; (· simp only [List.getElem?_cons_zero, List.getElem?_cons_succ]))
        | (refine Run.skipsU ?_ ?_; (· simp only [List.getElem?_cons_zero, List.getElem?_cons_succ]))
        | (refine Run.passT ?_ ?_; (· simp only [List.getElem?_cons_zero, List.getElem?_cons_succ]))
        | (refine Run.passF ?_ ?_; (· simp only [List.getElem?_cons_zero, List.getElem?_cons_succ]))
        | (refine Run.passU ?_ ?_; (· simp only [List.getElem?_cons_zero, List.getElem?_cons_succ]))
        | (refine Run.runs ?_
           (first
           | (refine Run.callF 16 (by kernel_rfl) (fun hS => entries_yes _ _ (scanL 4294967295 4294967295 J) _ HVA2.out HVB.out HVJ.out) rfl ?_)
           | (refine Run.callG 16 (by kernel_rfl) ?_ (fun hS => entries_yes _ _ (scanL 4294967295 4294967295 J) _ HVA2.out HVB.out HVJ.out) rfl ?_; (· simp only [List.getElem?_cons_zero, List.getElem?_cons_succ]))
           | fail)
           (first
           | (rintro hS e w' ⟨rfl, rfl⟩; refine ⟨_, rfl, hS, ?_⟩)
           | (rintro hS e w' ⟨rfl, hb⟩; refine ⟨_, rfl, nest hS hb, ?_⟩)
           | fail))
        | fail); simp only [Act.put, List.setIfInBounds_toArray, List.set_cons_zero, List.set_cons_succ])
      clear HVA HVA2 HVB
      repeat ((first
        | (refine Run.takes (v := ?_) ?_ ?_; rotate_left; (· intro w' hS'; go_simp; (try with_reducible rfl)))
        | (refine Run.takesG (v := ?_) ?_ ?_ ?_; rotate_left; (· simp only [List.getElem?_cons_zero, List.getElem?_cons_succ]); (· intro w' hS'; go_simp; (try with_reducible rfl)))
        | (refine Run.skipsT ?_ ?_; (· simp only [List.getElem?_cons_zero, List.getElem?_cons_succ]))
        | (refine Run.skipsF ?_ ?_; (· simp only [List.getElem?_cons_zero, List.getElem?_cons_succ]))
        | (refine Run.skipsU ?_ ?_; (· simp only [List.getElem?_cons_zero, List.getElem?_cons_succ]))
        | (refine Run.passT ?_ ?_; (· simp only [List.getElem?_cons_zero, List.getElem?_cons_succ]))
        | (refine Run.passF ?_ ?_; (· simp only [List.getElem?_cons_zero, List.getElem?_cons_succ]))
        | (refine Run.passU ?_ ?_; (· simp only [List.getElem?_cons_zero, List.getElem?_cons_succ]))
        | (refine Run.runs ?_
           (first
           | (refine Run.callF 9 (by kernel_rfl) (fun hS => tr_of w.heap.size s x y F2 J K b _ (HT3.out.keep hS) HBB.out) rfl ?_)
           | (refine Run.callG 9 (by kernel_rfl) ?_ (fun hS => tr_of w.heap.size s x y F2 J K b _ (HT3.out.keep hS) HBB.out) rfl ?_; (· simp only [List.getElem?_cons_zero, List.getElem?_cons_succ]))
           | fail)
           (first
           | (rintro hS e w' ⟨vq, rfl, hvq, hb⟩; rw [HFB.out] at hvq; have HVA := Lib.hid hvq; obtain ⟨aq, gq, oq, cq, rfl, _⟩ := hvq.at; refine ⟨_, rfl, nest hS hb, ?_⟩; clear hvq)
           | (rintro hS e w' ⟨rfl, rfl⟩; refine ⟨_, rfl, hS, ?_⟩)
           | fail))
        | fail); simp only [Act.put, List.setIfInBounds_toArray, List.set_cons_zero, List.set_cons_succ])
      repeat ((first
        | (refine Run.takes (v := ?_) ?_ ?_; rotate_left; (· intro w' hS'; go_simp; (try with_reducible rfl)))
        | (refine Run.takesG (v := ?_) ?_ ?_ ?_; rotate_left; (· simp only [List.getElem?_cons_zero, List.getElem?_cons_succ]); (· intro w' hS'; go_simp; (try with_reducible rfl)))
        | (refine Run.skipsT ?_ ?_; (· simp only [List.getElem?_cons_zero, List.getElem?_cons_succ]))
        | (refine Run.skipsF ?_ ?_; (· simp only [List.getElem?_cons_zero, List.getElem?_cons_succ]))
        | (refine Run.skipsU ?_ ?_; (· simp only [List.getElem?_cons_zero, List.getElem?_cons_succ]))
        | (refine Run.passT ?_ ?_; (· simp only [List.getElem?_cons_zero, List.getElem?_cons_succ]))
        | (refine Run.passF ?_ ?_; (· simp only [List.getElem?_cons_zero, List.getElem?_cons_succ]))
        | (refine Run.passU ?_ ?_; (· simp only [List.getElem?_cons_zero, List.getElem?_cons_succ]))
        | (refine Run.runs ?_
           (first
           | (refine Run.callF 17 (by kernel_rfl) (fun hS => tr_rall2 w.heap.size s x y F2 J K _ (HT3.out.keep hS) HFK.out.2.1 (by have := HFK.out.2.2; omega)) rfl ?_)
           | (refine Run.callG 17 (by kernel_rfl) ?_ (fun hS => tr_rall2 w.heap.size s x y F2 J K _ (HT3.out.keep hS) HFK.out.2.1 (by have := HFK.out.2.2; omega)) rfl ?_; (· simp only [List.getElem?_cons_zero, List.getElem?_cons_succ]))
           | fail)
           (first
           | (rintro hS e w' ⟨vq, rfl, hvq, hb⟩; have HVB := Lib.hid hvq; have HVA2 := Lib.hid (HVA.out.keep hb); obtain ⟨aq, gq, oq, cq, rfl, _⟩ := hvq.at; refine ⟨_, rfl, nest hS hb, ?_⟩; clear hvq)
           | (rintro hS e w' ⟨rfl, rfl⟩; refine ⟨_, rfl, hS, ?_⟩)
           | fail))
        | fail); simp only [Act.put, List.setIfInBounds_toArray, List.set_cons_zero, List.set_cons_succ])
      repeat ((first
        | (refine Run.takes (v := ?_) ?_ ?_; rotate_left; (· intro w' hS'; go_simp; (try with_reducible rfl)))
        | (refine Run.takesG (v := ?_) ?_ ?_ ?_; rotate_left; (· simp only [List.getElem?_cons_zero, List.getElem?_cons_succ]); (· intro w' hS'; go_simp; (try with_reducible rfl)))
        | (refine Run.skipsT ?_ ?_; (· simp only [List.getElem?_cons_zero, List.getElem?_cons_succ]))
        | (refine Run.skipsF ?_ ?_; (· simp only [List.getElem?_cons_zero, List.getElem?_cons_succ]))
        | (refine Run.skipsU ?_ ?_; (· simp only [List.getElem?_cons_zero, List.getElem?_cons_succ]))
        | (refine Run.passT ?_ ?_; (· simp only [List.getElem?_cons_zero, List.getElem?_cons_succ]))
        | (refine Run.passF ?_ ?_; (· simp only [List.getElem?_cons_zero, List.getElem?_cons_succ]))
        | (refine Run.passU ?_ ?_; (· simp only [List.getElem?_cons_zero, List.getElem?_cons_succ]))
        | (refine Run.runs ?_
           (first
           | (refine Run.callF 16 (by kernel_rfl) (fun hS => entries_yes _ _ (scanL 4294967295 4294967295 K) _ HVA2.out HVB.out HVK.out) rfl ?_)
           | (refine Run.callG 16 (by kernel_rfl) ?_ (fun hS => entries_yes _ _ (scanL 4294967295 4294967295 K) _ HVA2.out HVB.out HVK.out) rfl ?_; (· simp only [List.getElem?_cons_zero, List.getElem?_cons_succ]))
           | fail)
           (first
           | (rintro hS e w' ⟨rfl, rfl⟩; refine ⟨_, rfl, hS, ?_⟩)
           | (rintro hS e w' ⟨rfl, hb⟩; refine ⟨_, rfl, nest hS hb, ?_⟩)
           | fail))
        | fail); simp only [Act.put, List.setIfInBounds_toArray, List.set_cons_zero, List.set_cons_succ])
      refine Run.ends (fun hS => ?_)
      obtain ⟨z4, hz4⟩ : ∃ z, z = w' := ⟨_, rfl⟩
      subst hz4
      have HT4 := Lib.hid (HT3.out.keep hS)
      have HK4 := Lib.hid (nest HK3.out hS)
      clear hS HVA HVA2 HVB HT3 HK3
      go_wp2_with fail
      refine (tr_drop w.heap.size s x y F2 J K a z4 HT4.out HK4.out.size HBA.out).mono ?_
      rw [HFA.out]
      rintro e z5 ⟨rfl, ht, hk⟩
      obtain ⟨F3, hF3⟩ : ∃ F, F = updF F2 a [] := ⟨_, rfl⟩
      rw [← hF3] at ht
      have HT5 := Lib.hid ht
      have HK5 := Lib.hid (HK4.out.trans hk)
      have HGA : Hid (F3 a = []) := Lib.hid (by rw [hF3, updF_at])
      have HE0 : Hid (scanL 4294967295 4294967295 [] = []) := Lib.hid rfl
      have HGB : Hid (F3 b = K) := Lib.hid (by rw [hF3, updF_ne (fun e => hab e.symm)]; exact HFB.out)
      clear ht hk hF3 HT4 HK4
      obtain ⟨ah, ch, hh, hh1, hh2⟩ := HT5.out.head1
      have hh2' : ch ≤ 9223372036854775807 := hh2
      clear hh2
      go_upto_region 15 with fail
      refine Run.region_seq (S := fun z => z.cell? ⟨x, 0, none⟩ = some (.slice ah J.length ch) ∧ Below z5.heap.size z5 z)
        [0, 0, 0, 0, 0, 0, 0, 0, 0, 0, 1, 0, 0, 0, 0, 0, 0, 1, 0, 1, 1, 0, 0] (l := ?_) ?_ ⟨hh, Below.refl _ _⟩ ?_
      rotate_left
      (· simp only [Run.seqOf, List.toList_toArray, Run.stepsOf, Run.stepOf, Run.guardOf, List.getElem?_toArray, List.getElem?_cons_zero, List.getElem?_cons_succ, Option.map_some, Option.map_none, Option.bind_some, Option.toList_some, List.map_cons, List.map_nil, List.cons_append, List.nil_append, List.append_eq]
         rfl)
      repeat ((first
        | (refine Run.takes (v := ?_) ?_ ?_; rotate_left; (· intro w' hS'; go_simp; (try with_reducible rfl)))
        | (refine Run.takesG (v := ?_) ?_ ?_ ?_; rotate_left; (· simp only [List.getElem?_cons_zero, List.getElem?_cons_succ]); (· intro w' hS'; go_simp; (try with_reducible rfl)))
        | (refine Run.skipsT ?_ ?_; (· simp only [List.getElem?_cons_zero, List.getElem?_cons_succ]))
        | (refine Run.skipsF ?_ ?_; (· simp only [List.getElem?_cons_zero, List.getElem?_cons_succ]))
        | (refine Run.skipsU ?_ ?_; (· simp only [List.getElem?_cons_zero, List.getElem?_cons_succ]))
        | (refine Run.passT ?_ ?_; (· simp only [List.getElem?_cons_zero, List.getElem?_cons_succ]))
        | (refine Run.passF ?_ ?_; (· simp only [List.getElem?_cons_zero, List.getElem?_cons_succ]))
        | (refine Run.passU ?_ ?_; (· simp only [List.getElem?_cons_zero, List.getElem?_cons_succ]))
        | (refine Run.runs ?_
           (first
           | (refine Run.callF 9 (by kernel_rfl) (fun hS => tr_of w.heap.size s x y F3 J K a _ (HT5.out.keep hS.2) HBA.out) rfl ?_)
           | (refine Run.callG 9 (by kernel_rfl) ?_ (fun hS => tr_of w.heap.size s x y F3 J K a _ (HT5.out.keep hS.2) HBA.out) rfl ?_; (· simp only [List.getElem?_cons_zero, List.getElem?_cons_succ]))
           | fail)
           (first
           | (rintro hS e w' ⟨vq, rfl, hvq, hb⟩; rw [HGA.out, HE0.out] at hvq; obtain ⟨aq, gq, oq, cq, rfl, _⟩ := hvq.at; refine ⟨_, rfl, ⟨kc hb hS.1, nest hS.2 hb⟩, ?_⟩; clear hvq)
           | (rintro hS e w' ⟨rfl, rfl⟩; refine ⟨_, rfl, hS, ?_⟩)
           | fail))
        | fail); simp only [Act.put, List.setIfInBounds_toArray, List.set_cons_zero, List.set_cons_succ])
      repeat ((first
        | (refine Run.takes (v := ?_) ?_ ?_; rotate_left; (· intro w' hS'; go_simp; (try with_reducible rfl)))
        | (refine Run.takesG (v := ?_) ?_ ?_ ?_; rotate_left; (· simp only [List.getElem?_cons_zero, List.getElem?_cons_succ]); (· intro w' hS'; go_simp; (try with_reducible rfl)))
        | (refine Run.skipsT ?_ ?_; (· simp only [List.getElem?_cons_zero, List.getElem?_cons_succ]))
        | (refine Run.skipsF ?_ ?_; (· simp only [List.getElem?_cons_zero, List.getElem?_cons_succ]))
        | (refine Run.skipsU ?_ ?_; (· simp only [List.getElem?_cons_zero, List.getElem?_cons_succ]))
        | (refine Run.passT ?_ ?_; (· simp only [List.getElem?_cons_zero, List.getElem?_cons_succ]))
        | (refine Run.passF ?_ ?_; (· simp only [List.getElem?_cons_zero, List.getElem?_cons_succ]))
        | (refine Run.passU ?_ ?_; (· simp only [List.getElem?_cons_zero, List.getElem?_cons_succ]))
        | (refine Run.runs ?_
           (first
           | (refine Run.callF 9 (by kernel_rfl) (fun hS => tr_of w.heap.size s x y F3 J K b _ (HT5.out.keep hS.2) HBB.out) rfl ?_)
           | (refine Run.callG 9 (by kernel_rfl) ?_ (fun hS => tr_of w.heap.size s x y F3 J K b _ (HT5.out.keep hS.2) HBB.out) rfl ?_; (· simp only [List.getElem?_cons_zero, List.getElem?_cons_succ]))
           | fail)
           (first
           | (rintro hS e w' ⟨vq, rfl, hvq, hb⟩; rw [HGB.out] at hvq; have HVA := Lib.hid hvq; obtain ⟨aq, gq, oq, cq, rfl, _⟩ := hvq.at; refine ⟨_, rfl, ⟨kc hb hS.1, nest hS.2 hb⟩, ?_⟩; clear hvq)
           | (rintro hS e w' ⟨rfl, rfl⟩; refine ⟨_, rfl, hS, ?_⟩)
           | fail))
        | fail); simp only [Act.put, List.setIfInBounds_toArray, List.set_cons_zero, List.set_cons_succ])
      repeat ((first
        | (refine Run.takes (v := ?_) ?_ ?_; rotate_left; (· intro w' hS'; go_simp; (try with_reducible rfl)))
        | (refine Run.takesG (v := ?_) ?_ ?_ ?_; rotate_left; (· simp only [List.getElem?_cons_zero, List.getElem?_cons_succ]); (· intro w' hS'; go_simp; (try with_reducible rfl)))
        | (refine Run.skipsT ?_ ?_; (· simp only [List.getElem?_cons_zero, List.getElem?_cons_succ]))
        | (refine Run.skipsF ?_ ?_; (· simp only [List.getElem?_cons_zero, List.getElem?_cons_succ]))
        | (refine Run.skipsU ?_ ?_; (· simp only [List.getElem?_cons_zero, List.getElem?_cons_succ]))
        | (refine Run.passT ?_ ?_; (· simp only [List.getElem?_cons_zero, List.getElem?_cons_succ]))
        | (refine Run.passF ?_ ?_; (· simp only [List.getElem?_cons_zero, List.getElem?_cons_succ]))
        | (refine Run.passU ?_ ?_; (· simp only [List.getElem?_cons_zero, List.getElem?_cons_succ]))
        | (refine Run.runs ?_
           (first
           | (refine Run.callF 17 (by kernel_rfl) (fun hS => tr_rall2 w.heap.size s x y F3 J K _ (HT5.out.keep hS.2) HFK.out.2.1 (by have := HFK.out.2.2; omega)) rfl ?_)
           | (refine Run.callG 17 (by kernel_rfl) ?_ (fun hS => tr_rall2 w.heap.size s x y F3 J K _ (HT5.out.keep hS.2) HFK.out.2.1 (by have := HFK.out.2.2; omega)) rfl ?_; (· simp only [List.getElem?_cons_zero, List.getElem?_cons_succ]))
           | fail)
           (first
           | (rintro hS e w' ⟨vq, rfl, hvq, hb⟩; have HVB := Lib.hid hvq; have HVA2 := Lib.hid (HVA.out.keep hb); obtain ⟨aq, gq, oq, cq, rfl, _⟩ := hvq.at; refine ⟨_, rfl, ⟨kc hb hS.1, nest hS.2 hb⟩, ?_⟩; clear hvq)
           | (rintro hS e w' ⟨rfl, rfl⟩; refine ⟨_, rfl, hS, ?_⟩)
           | fail))
        | fail); simp only [Act.put, List.setIfInBounds_toArray, List.set_cons_zero, List.set_cons_succ])
      repeat ((first
        | (refine Run.takes (v := ?_) ?_ ?_; rotate_left; (· intro w' hS'; go_simp; (try with_reducible rfl)))
        | (refine Run.takesG (v := ?_) ?_ ?_ ?_; rotate_left; (· simp only [List.getElem?_cons_zero, List.getElem?_cons_succ]); (· intro w' hS'; go_simp; (try with_reducible rfl)))
        | (refine Run.skipsT ?_ ?_; (· simp only [List.getElem?_cons_zero, List.getElem?_cons_succ]))
        | (refine Run.skipsF ?_ ?_; (· simp only [List.getElem?_cons_zero, List.getElem?_cons_succ]))
        | (refine Run.skipsU ?_ ?_; (· simp only [List.getElem?_cons_zero, List.getElem?_cons_succ]))
        | (refine Run.passT ?_ ?_; (· simp only [List.getElem?_cons_zero, List.getElem?_cons_succ]))
        | (refine Run.passF ?_ ?_; (· simp only [List.getElem?_cons_zero, List.getElem?_cons_succ]))
        | (refine Run.passU ?_ ?_; (· simp only [List.getElem?_cons_zero, List.getElem?_cons_succ]))
        | (refine Run.runs ?_
           (first
           | (refine Run.callF 16 (by kernel_rfl) (fun hS => entries_yes _ _ (scanL 4294967295 4294967295 K) _ HVA2.out HVB.out HVK.out) rfl ?_)
           | (refine Run.callG 16 (by kernel_rfl) ?_ (fun hS => entries_yes _ _ (scanL 4294967295 4294967295 K) _ HVA2.out HVB.out HVK.out) rfl ?_; (· simp only [List.getElem?_cons_zero, List.getElem?_cons_succ]))
           | fail)
           (first
           | (rintro hS e w' ⟨rfl, rfl⟩; refine ⟨_, rfl, hS, ?_⟩)
           | (rintro hS e w' ⟨rfl, hb⟩; refine ⟨_, rfl, ⟨kc hb hS.1, nest hS.2 hb⟩, ?_⟩)
           | fail))
        | fail); simp only [Act.put, List.setIfInBounds_toArray, List.set_cons_zero, List.set_cons_succ])
      refine Run.ends (fun hS => ?_)
      have HE9 := Lib.hid (nest HK5.out hS.2)
      clear hS
      go_wp2_with fail
      go_ret
      exact ⟨rfl, HE9.out⟩
end Go.Proofs.Ytihfkjodjaoocaa.shadowApart
