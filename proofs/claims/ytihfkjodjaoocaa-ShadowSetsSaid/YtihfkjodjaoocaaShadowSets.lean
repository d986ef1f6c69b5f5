/- Walk of the law ShadowSets. -/
import Derived.Test.YtihfkjodjaoocaaShwLaw
import Derived.Test.YtihfkjodjaoocaaShwPlans
set_option maxRecDepth 4000
namespace Go.Proofs.Ytihfkjodjaoocaa.shadowSets
open Go.RowKit Mem
set_option linter.unusedSimpArgs false
set_option linter.unusedVariables false
attribute [local irreducible] Go.Calls

/-- a shadow whose first shelf beside is made later: what holds before -/
def Sw (B : Nat) (z : World) (s : Nat) (F : Int → List Ent) : Prop := ∃ W R, ShwAt z s W R F ∧ ∀ j, R j → B ≤ j
theorem sw_set (B s : Nat) (F : Int → List Ent) (o : Int) (Q : Nat → Prop) (l : List Ent) (v : Value) (z : World) (h : Sw B z s F) (hB : B ≤ z.heap.size) (bo : 0 ≤ o ∧ o ≤ 4294967295) (hv : EntsIn Q z v l) (hQ : ∀ j, Q j → j < B) (hl : ∀ y ∈ l, okE y) (hn : l.length ≤ 1000000) :
    Calls Try.prog 6 #[.pointer (some ⟨s, 0, none⟩), .int .u32 o, v] z fun e z' => (∃ u, e = .returned u) ∧ Sw B z' s (updF F o (joinL [] l).1) ∧ Below B z z' := by
  obtain ⟨W, R, h1, hb⟩ := h
  refine (shwset_any s W R Q F o l v z h1 bo hv (fun j hj hw => by have := hQ j hj; have := hb j (h1.sub hw); omega) hl hn).mono fun e z' ⟨he, W', R', k1, k2, k3, k4⟩ => ⟨he, ⟨W', R', k1, fun j hj => ?_⟩, k2.below hB (fun j hj => hb j (h1.sub hj))⟩
  rcases k4 j hj with h | h
  · exact hb j h
  · omega
theorem du_new {B : Nat} {z : World} {s : Nat} {F : Int → List Ent} (h : Sw B z s F) (hB : B ≤ z.heap.size) : Du B (z.alloc (.cells #[.slice none 0 0] 40)) s z.heap.size F [] := by
  obtain ⟨W, R, h1, hb⟩ := h
  refine ⟨W, R, fun j => j = z.heap.size, fun j => j = z.heap.size, h1.keep (more (Below.refl _ _) _), rf_fresh z, ⟨fun j hj e => ?_, fun j e hj => ?_⟩, fun j hj => ?_⟩
  · have := h1.lt hj; omega
  · have := h1.lt (h1.sub hj); omega
  · rcases hj with hj | hj
    · exact hb j hj
    · omega

set_option maxRecDepth 100000 in
set_option maxHeartbeats 8000000 in
theorem walk (o : Int) (bo : 0 ≤ o ∧ o ≤ 4294967295) (v0 : Value) (l : List Ent) (v1 : Value) (m : List Ent) (w : World) (h0 : entsKW.rd w [v0] l) (h1 : entsKW.rd w [v1] m) :
    Calls Try.prog 5 #[.int .u32 o, v0, v1] w fun e w' => e = .returned (.bool true) ∧ Below w.heap.size w w' := by
  obtain ⟨hil, hol⟩ := ents_of_kdw h0
  obtain ⟨him, hom⟩ := ents_of_kdw h1
  obtain ⟨al, gl, ol, cl, rfl, hcl, hml, _, _⟩ := hil.at
  obtain ⟨am, gm, om, cm, rfl, hcm, hmm, _, _⟩ := him.at
  have hml' : cl ≤ 9223372036854775807 := hml
  have hmm' : cm ≤ 9223372036854775807 := hmm
  have HIL := Lib.hid hil
  have HIM := Lib.hid him
  have HOL := Lib.hid hol
  have HOM := Lib.hid hom
  have HBO := Lib.hid bo
  clear h0 h1 hil him hol hom hml hmm bo
  go_enter Try.func5, Try.ntmps5
  by_cases hl20 : (l.length : Int) > 20
  · go_wp2_with fail
    refine (shwawake_any w).mono ?_
    rintro e w3 ⟨rfl, hk⟩
    have HK3 := Lib.hid hk
    clear hk
    go_wp2_with fail
    go_ret
    exact ⟨rfl, HK3.out⟩
  by_cases hm20 : (m.length : Int) > 20
  · go_wp2_with fail
    refine (shwawake_any w).mono ?_
    rintro e w3 ⟨rfl, hk⟩
    have HK3 := Lib.hid hk
    clear hk
    go_wp2_with fail
    go_ret
    exact ⟨rfl, HK3.out⟩
  go_wp2_with fail
  refine (shwnew_any w).mono ?_
  rintro e w1 ⟨s, W, R, rfl, hp, hr, hk⟩
  have HT := Lib.hid (show Sw w.heap.size w1 s (fun _ => []) from ⟨W, R, hp, hr⟩)
  have HK := Lib.hid hk
  clear hp hr hk
  go_wp2_with fail
  refine (sw_set w.heap.size s _ o _ l _ w1 HT.out HK.out.size HBO.out (HIL.out.keep HK.out) (fun j hj => hj) HOL.out (by omega)).mono ?_
  rintro e z2 ⟨⟨uu, rfl⟩, ht, hk⟩
  have HT2 := Lib.hid ht
  have HK2 := Lib.hid (HK.out.trans hk)
  clear ht hk HT HK
  go_wp2_with fail
  refine (sw_set w.heap.size s _ o _ m _ z2 HT2.out HK2.out.size HBO.out (HIM.out.keep HK2.out) (fun j hj => hj) HOM.out (by omega)).mono ?_
  rw [updF_upd]
  rintro e z3 ⟨⟨uu2, rfl⟩, ht, hk⟩
  have HT3 := Lib.hid ht
  have HK3 := Lib.hid (HK2.out.trans hk)
  clear ht hk HT2 HK2
  go_upto_region 7 with fail
  have HT4 := Lib.hid (du_new HT3.out HK3.out.size)
  have HK4 := Lib.hid (nest HK3.out (more (Below.refl _ _) (.cells #[.slice none 0 0] 40)))
  clear HT3 HK3
  generalize z3.alloc (.cells #[.slice none 0 0] 40) = z4 at *
  obtain ⟨x, hx⟩ : ∃ x, x = z3.heap.size := ⟨_, rfl⟩
  rw [← hx] at HT4 ⊢
  clear hx
  go_wp2_with fail
  refine (du_rjoin1 w.heap.size s x _ [] _ m _ z4 HT4.out HK4.out.size (HIM.out.keep HK4.out) (fun j hj => hj) HOM.out (fun y hy => (nomatch hy)) (by simp; omega)).mono ?_
  rintro e z5 ⟨rfl, ht, hk⟩
  have HT5 := Lib.hid ht
  have HK5 := Lib.hid (HK4.out.trans hk)
  clear ht hk HT4 HK4
  obtain ⟨K, hK⟩ : ∃ K, K = (joinL [] m).1 := ⟨_, rfl⟩
  rw [← hK] at HT5
  obtain ⟨F, hF⟩ : ∃ F, F = updF (fun _ => []) o K := ⟨_, rfl⟩
  rw [← hF] at HT5
  have HFO : Hid (F o = K) := Lib.hid (by rw [hF, updF_at])
  have HFN : Hid (∀ p, p ≠ o → F p = []) := Lib.hid (fun p hp => by rw [hF, updF_ne hp])
  have HFK := Lib.hid (HT5.out.facts o)
  rw [HFO.out] at HFK
  have HVK : Hid (∀ y ∈ scanL 4294967295 4294967295 K, entB y) := Lib.hid (fun y hy => (HFK.out.2.1 y ((scanL_whole _ K).mem_iff.1 hy)).1)
  obtain ⟨ah, ch, hh, hh1, hh2⟩ := HT5.out.head1
  have hh2' : ch ≤ 9223372036854775807 := hh2
  clear hK hF hh2
  go_upto_region 8 with fail
  refine Run.region_walk (S := fun z => z.cell? ⟨x, 0, none⟩ = some (.slice ah K.length ch) ∧ Below z5.heap.size z5 z)
    lshwsets.rows8 lshwsets.plan8 (l := ?steps1) (by kernel_rfl) (by kernel_rfl) (by kernel_rfl) (by kernel_rfl) ?written1 ⟨kc (Below.refl _ _).drew hh, (Below.refl _ _).drew⟩ ?onward1
  case written1 =>
    simp only [lshwsets.plan8, Run.stepsOf, Run.stepOf, Run.guardOf, List.getElem?_toArray, List.getElem?_cons_zero, List.getElem?_cons_succ, Option.map_some, Option.map_none, Option.bind_some, Option.toList_some, List.map_cons, List.map_nil, List.cons_append, List.nil_append, List.append_eq]
    rfl
  repeat ((first
    | (refine Run.takes (v := ?_) ?_ ?_; rotate_left; (· intro w' hS'; go_simp; (try with_reducible rfl)))
    | (refine Run.takesG (v := ?_) ?_ ?_ ?_; rotate_left; (· simp only [List.getElem?_cons_zero, List.getElem?_cons_succ]); (· intro w' hS'; go_simp; (try with_reducible rfl)))
    | (refine Run.skipsT ?_ ?_; (· simp only [List.getElem?_cons_zero, List.getElem?_cons_succ]))
    | (refine Run.skipsF ?_ ?_; (· simp only [List.getElem?_cons_zero, List.getElem?_cons_succ]))
    | (refine Run.skipsU ?_ ?_; (· simp only [List.getElem?_cons_zero, List.getElem?_cons_succ]))
    | (refine Run.passT ?_ ?_; (· simp only [List.getElem?_cons_zero, List.getElem?_cons_succ]))
    | (refine Run.passF ?_ ?_; (· simp only [List.getElem?_cons_zero, List.getElem?_cons_succ]))
    | (refine Run.passU ?_ ?_; (· simp only [List.getElem?_cons_zero, List.getElem?_cons_succ]))
    | (refine Run.runs ?_
       (first
       | (refine Run.callF 7 (by kernel_rfl) (fun hS => shwawake_any _) rfl ?_)
       | (refine Run.callG 7 (by kernel_rfl) ?_ (fun hS => shwawake_any _) rfl ?_; (· simp only [List.getElem?_cons_zero, List.getElem?_cons_succ]))
       | (refine Run.callF 9 (by kernel_rfl) (fun hS => du_of w.heap.size s x F K o _ (HT5.out.keep hS.2) HBO.out) rfl ?_)
       | (refine Run.callG 9 (by kernel_rfl) ?_ (fun hS => du_of w.heap.size s x F K o _ (HT5.out.keep hS.2) HBO.out) rfl ?_; (· simp only [List.getElem?_cons_zero, List.getElem?_cons_succ]))
       | fail)
       (first
       | (rintro hS e w' ⟨vq, rfl, hvq, hb⟩; rw [HFO.out] at hvq; have HVA := Lib.hid hvq; obtain ⟨aq, gq, oq, cq, rfl, _⟩ := hvq.at; refine ⟨_, rfl, ⟨kc hb hS.1, nest hS.2 hb⟩, ?_⟩; clear hvq)
       | (rintro hS e w' ⟨rfl, rfl⟩; refine ⟨_, rfl, hS, ?_⟩)
       | (rintro hS e w' ⟨rfl, hb⟩; refine ⟨_, rfl, ⟨kc hb hS.1, nest hS.2 hb⟩, ?_⟩)
       | fail))
    | fail); simp only [Act.put, List.setIfInBounds_toArray, List.set_cons_zero, List.set_cons_succ])
  repeat ((first
    | (refine Run.takes (v := ?_) ?_ ?_; rotate_left; (· intro w' hS'; go_simp; (try with_reducible rfl)))
    | (refine Run.takesG (v := ?_) ?_ ?_ ?_; rotate_left; (· simp only [List.getElem?_cons_zero, List.getElem?_cons_succ]); (· intro w' hS'; go_simp; (try with_reducible rfl)))
    | (refine Run.skipsT ?_ ?_; (· simp only [List.getElem?_cons_zero, List.getElem?_cons_succ]))
    | (refine Run.skipsF ?_ ?_; (· simp only [List.getElem?_cons_zero, List.getElem?_cons_succ]))
    | (refine Run.skipsU ?_ ?_; (· simp only [List.getElem?_cons_zero, List.getElem?_cons_succ]))
    | (refine Run.passT ?_ ?_; (· simp only [List.getElem?_cons_zero, List.getElem?_cons_succ]))
    | (refine Run.passF ?_ ?_; (· simp only [List.getElem?_cons_zero, List.getElem?_cons_succ]))
    | (refine Run.passU ?_ ?_; (· simp only [List.getElem?_cons_zero, List.getElem?_cons_succ]))
    | (refine Run.runs ?_
       (first
       | (refine Run.callF 17 (by kernel_rfl) (fun hS => du_rall1 w.heap.size s x F K _ (HT5.out.keep hS.2) HFK.out.2.1 (by have := HFK.out.2.2; omega)) rfl ?_)
       | (refine Run.callG 17 (by kernel_rfl) ?_ (fun hS => du_rall1 w.heap.size s x F K _ (HT5.out.keep hS.2) HFK.out.2.1 (by have := HFK.out.2.2; omega)) rfl ?_; (· simp only [List.getElem?_cons_zero, List.getElem?_cons_succ]))
       | fail)
       (first
       | (rintro hS e w' ⟨vq, rfl, hvq, hb⟩; have HVB := Lib.hid hvq; have HVA2 := Lib.hid (HVA.out.keep hb); obtain ⟨aq, gq, oq, cq, rfl, _⟩ := hvq.at; refine ⟨_, rfl, ⟨kc hb hS.1, nest hS.2 hb⟩, ?_⟩; clear hvq)
       | (rintro hS e w' ⟨rfl, rfl⟩; refine ⟨_, rfl, hS, ?_⟩)
       | fail))
    | fail); simp only [Act.put, List.setIfInBounds_toArray, List.set_cons_zero, List.set_cons_succ])
  repeat ((first
    | (refine Run.takes (v := ?_) ?_ ?_; rotate_left; (· intro w' hS'; go_simp; (try with_reducible rfl)))
    | (refine Run.takesG (v := ?_) ?_ ?_ ?_; rotate_left; (· simp only [List.getElem?_cons_zero, List.getElem?_cons_succ]); (· intro w' hS'; go_simp; (try with_reducible rfl)))
    | (refine Run.skipsT ?_ ?_; (· simp only [List.getElem?_cons_zero, List.getElem?_cons_succ]))
    | (refine Run.skipsF ?_ ?_; (· simp only [List.getElem?_cons_zero, List.getElem?_cons_succ]))
    | (refine Run.skipsU ?_ ?_; (· simp only [List.getElem?_cons_zero, List.getElem?_cons_succ]))
    | (refine Run.passT ?_ ?_; (· simp only [List.getElem?_cons_zero, List.getElem?_cons_succ]))
    | (refine Run.passF ?_ ?_; (· simp only [List.getElem?_cons_zero, List.getElem?_cons_succ]))
    | (refine Run.passU ?_ ?_; (· simp only [List.getElem?_cons_zero, List.getElem?_cons_succ]))
    | (refine Run.runs ?_
       (first
       | (refine Run.callF 16 (by kernel_rfl) (fun hS => entries_yes _ _ (scanL 4294967295 4294967295 K) _ HVA2.out HVB.out HVK.out) rfl ?_)
       | (refine Run.callG 16 (by kernel_rfl) ?_ (fun hS => entries_yes _ _ (scanL 4294967295 4294967295 K) _ HVA2.out HVB.out HVK.out) rfl ?_; (· simp only [List.getElem?_cons_zero, List.getElem?_cons_succ]))
       | fail)
       (first
       | (rintro hS e w' ⟨rfl, rfl⟩; refine ⟨_, rfl, hS, ?_⟩)
       | (rintro hS e w' ⟨rfl, hb⟩; refine ⟨_, rfl, ⟨kc hb hS.1, nest hS.2 hb⟩, ?_⟩)
       | fail))
    | fail); simp only [Act.put, List.setIfInBounds_toArray, List.set_cons_zero, List.set_cons_succ])
  by_cases hK0 : K = []
  case' pos => have hq : Hid ((if F o = [] then [] else [o]).length = 0) := Lib.hid (by rw [HFO.out, if_pos hK0]; rfl)
  case' pos => have hq2 : ¬ 0 < K.length := by rw [hK0]; simp
  case' neg => have hq : Hid ((if F o = [] then [] else [o]).length = 1) := Lib.hid (by rw [HFO.out, if_neg hK0]; rfl)
  case' neg => have hq2 : 0 < K.length := List.length_pos_iff.2 hK0
  all_goals
    clear hK0
    repeat ((first
      | (refine Run.takes (v := ?_) ?_ ?_; rotate_left; (· intro w' hS'; go_simp; (try with_reducible rfl)))
      | (refine Run.takesG (v := ?_) ?_ ?_ ?_; rotate_left; (· simp only [List.getElem?_cons_zero, List.getElem?_cons_succ]); (· intro w' hS'; go_simp; (try with_reducible rfl)))
      | (refine Run.skipsT ?_ ?_; (· simp only [List.getElem?_cons_zero, List.getElem?_cons_succ]))
      | (refine Run.skipsF ?_ ?_; (· simp only [List.getElem?_cons_zero, List.getElem?_cons_succ]))
      | (refine Run.skipsU ?_ ?_; (· simp only [List.getElem?_cons_zero, List.getElem?_cons_succ]))
      | (refine Run.passT ?_ ?_; (· simp only [List.getElem?_cons_zero, List.getElem?_cons_succ]))
      | (refine Run.passF ?_ ?_; (· simp only [List.getElem?_cons_zero, List.getElem?_cons_succ]))
      | (refine Run.passU ?_ ?_; (· simp only [List.getElem?_cons_zero, List.getElem?_cons_succ]))
      | (refine Run.runs ?_
         (first
         | (refine Run.callF 11 (by kernel_rfl) (fun hS => du_owners w.heap.size s x F K o _ (HT5.out.keep hS.2) HFN.out) rfl ?_)
         | (refine Run.callG 11 (by kernel_rfl) ?_ (fun hS => du_owners w.heap.size s x F K o _ (HT5.out.keep hS.2) HFN.out) rfl ?_; (· simp only [List.getElem?_cons_zero, List.getElem?_cons_succ]))
         | fail)
         (first
         | (rintro hS e w' ⟨os, vq, rfl, hvq, hs, hm, hb⟩; rw [owners_one hs hm HBO.out HFN.out] at hvq; obtain ⟨aq, cq, rfl, _, _⟩ := hvq.form; rw [hq.out]; refine ⟨_, rfl, ⟨kc hb hS.1, nest hS.2 hb⟩, ?_⟩; clear hvq hs hm)
         | (rintro hS e w' ⟨rfl, rfl⟩; refine ⟨_, rfl, hS, ?_⟩)
         | fail))
      | fail); simp only [Act.put, List.setIfInBounds_toArray, List.set_cons_zero, List.set_cons_succ])
    refine Run.ends (fun hS => ?_)
    obtain ⟨z6, hz6⟩ : ∃ z, z = w' := ⟨_, rfl⟩
    subst hz6
    have HT6 := Lib.hid (HT5.out.keep hS.2)
    have HK6 := Lib.hid (nest HK5.out hS.2)
    clear hS hh HVA HVA2 HVB HT5 HK5
    go_wp2_with fail
    refine (du_set w.heap.size s x F K o (fun _ => False) [] _ z6 HT6.out HK6.out.size HBO.out (EntsIn.nil _ _ none 0 (Nat.zero_le _)) (fun j hj => hj.elim) (fun y hy => (nomatch hy)) (by simp)).mono ?_
    rintro e z7 ⟨⟨uu3, rfl⟩, ht, hk⟩
    rw [show (joinL [] []).1 = ([] : List Ent) from rfl] at ht
    obtain ⟨G, hG⟩ : ∃ G, G = updF F o [] := ⟨_, rfl⟩
    rw [← hG] at ht
    have HGO : Hid (G o = []) := Lib.hid (by rw [hG, updF_at])
    have HGN : Hid (∀ p, p ≠ o → G p = []) := Lib.hid (fun p hp => by rw [hG, updF_ne hp]; exact HFN.out p hp)
    have HQ0 : Hid ((if G o = [] then [] else [o]).length = 0) := Lib.hid (by rw [HGO.out, if_pos rfl]; rfl)
    have HE0 : Hid (scanL 4294967295 4294967295 [] = []) := Lib.hid rfl
    have HT7 := Lib.hid ht
    have HK7 := Lib.hid (HK6.out.trans hk)
    clear ht hk hG HT6 HK6 hq hq2
    go_upto_region 11 with fail
    refine Run.region_seq (S := fun z => Below w.heap.size w z)
      [0, 1, 0, 0, 0, 0, 0, 1, 0, 0, 0, 0, 0, 0, 1, 0, 0, 0] (l := ?_) ?_ HK7.out ?_
    rotate_left
    (· simp only [Run.seqOf, List.toList_toArray, Run.stepsOf, Run.stepOf, Run.guardOf, List.getElem?_toArray, List.getElem?_cons_zero, List.getElem?_cons_succ, Option.map_some, Option.map_none, Option.bind_some, Option.toList_some, List.map_cons, List.map_nil, List.cons_append, List.nil_append, List.append_eq]
       rfl)
    repeat ((first
      | (refine Run.takes (v := ?_) ?_ ?_; rotate_left; (· intro w' hS'; go_simp; (try with_reducible rfl)))
      | (refine Run.takesG (v := ?_) ?_ ?_ ?_; rotate_left; (· simp only [List.getElem?_cons_zero, List.getElem?_cons_succ]); (· intro w' hS'; go_simp; (try with_reducible rfl)))
      | (refine Run.skipsT ?_ ?_; (· simp only [List.getElem?_cons_zero, List.getElem?_cons_succ]))
      | (refine Run.skipsF ?_ ?_; (· simp only [List.getElem?_cons_zero, List.getElem?_cons_succ]))
      | (refine Run.skipsU ?_ ?_; (· simp only [List.getElem?_cons_zero, List.getElem?_cons_succ]))
      | (refine Run.passT ?_ ?_; (· simp only [List.getElem?_cons_zero, List.getElem?_cons_succ]))
      | (refine Run.passF ?_ ?_; (· simp only [List.getElem?_cons_zero, List.getElem?_cons_succ]))
      | (refine Run.passU ?_ ?_; (· simp only [List.getElem?_cons_zero, List.getElem?_cons_succ]))
      | (refine Run.runs ?_
         (first
         | (refine Run.callF 11 (by kernel_rfl) (fun hS => du_owners w.heap.size s x G K o _ HT7.out HGN.out) rfl ?_)
         | (refine Run.callG 11 (by kernel_rfl) ?_ (fun hS => du_owners w.heap.size s x G K o _ HT7.out HGN.out) rfl ?_; (· simp only [List.getElem?_cons_zero, List.getElem?_cons_succ]))
         | fail)
         (first
         | (rintro hS e w' ⟨os, vq, rfl, hvq, hs, hm, hb⟩; rw [owners_one hs hm HBO.out HGN.out] at hvq; obtain ⟨aq, cq, rfl, _, _⟩ := hvq.form; rw [HQ0.out]; have HT8 := Lib.hid (HT7.out.keep hb); refine ⟨_, rfl, nest hS hb, ?_⟩; clear hvq hs hm)
         | (rintro hS e w' ⟨rfl, rfl⟩; refine ⟨_, rfl, hS, ?_⟩)
         | fail))
      | fail); simp only [Act.put, List.setIfInBounds_toArray, List.set_cons_zero, List.set_cons_succ])
    repeat ((first
      | (refine Run.takes (v := ?_) ?_ ?_; rotate_left; (· intro w' hS'; go_simp; (try with_reducible rfl)))
      | (refine Run.takesG (v := ?_) ?_ ?_ ?_; rotate_left; (· simp only [List.getElem?_cons_zero, List.getElem?_cons_succ]); (· intro w' hS'; go_simp; (try with_reducible rfl)))
      | (refine Run.skipsT ?_ ?_; (· simp only [List.getElem?_cons_zero, List.getElem?_cons_succ]))
      | (refine Run.skipsF ?_ ?_; (· simp only [List.getElem?_cons_zero, List.getElem?_cons_succ]))
      | (refine Run.skipsU ?_ ?_; (· simp only [List.getElem?_cons_zero, List.getElem?_cons_succ]))
      | (refine Run.passT ?_ ?_; (· simp only [List.getElem?_cons_zero, List.getElem?_cons_succ]))
      | (refine Run.passF ?_ ?_; (· simp only [List.getElem?_cons_zero, List.getElem?_cons_succ]))
      | (refine Run.passU ?_ ?_; (· simp only [List.getElem?_cons_zero, List.getElem?_cons_succ]))
      | (refine Run.runs ?_
         (first
         | (refine Run.callF 9 (by kernel_rfl) (fun hS => du_of w.heap.size s x G K o _ HT8.out HBO.out) rfl ?_)
         | (refine Run.callG 9 (by kernel_rfl) ?_ (fun hS => du_of w.heap.size s x G K o _ HT8.out HBO.out) rfl ?_; (· simp only [List.getElem?_cons_zero, List.getElem?_cons_succ]))
         | fail)
         (first
         | (rintro hS e w' ⟨vq, rfl, hvq, hb⟩; rw [HGO.out, HE0.out] at hvq; obtain ⟨aq, gq, oq, cq, rfl, _⟩ := hvq.at; have HT9 := Lib.hid (HT8.out.keep hb); refine ⟨_, rfl, nest hS hb, ?_⟩; clear hvq)
         | (rintro hS e w' ⟨rfl, rfl⟩; refine ⟨_, rfl, hS, ?_⟩)
         | fail))
      | fail); simp only [Act.put, List.setIfInBounds_toArray, List.set_cons_zero, List.set_cons_succ])
    have HGL : Hid ((G o).length = 0) := Lib.hid (by rw [HGO.out]; rfl)
    repeat ((first
      | (refine Run.takes (v := ?_) ?_ ?_; rotate_left; (· intro w' hS'; go_simp; (try with_reducible rfl)))
      | (refine Run.takesG (v := ?_) ?_ ?_ ?_; rotate_left; (· simp only [List.getElem?_cons_zero, List.getElem?_cons_succ]); (· intro w' hS'; go_simp; (try with_reducible rfl)))
      | (refine Run.skipsT ?_ ?_; (· simp only [List.getElem?_cons_zero, List.getElem?_cons_succ]))
      | (refine Run.skipsF ?_ ?_; (· simp only [List.getElem?_cons_zero, List.getElem?_cons_succ]))
      | (refine Run.skipsU ?_ ?_; (· simp only [List.getElem?_cons_zero, List.getElem?_cons_succ]))
      | (refine Run.passT ?_ ?_; (· simp only [List.getElem?_cons_zero, List.getElem?_cons_succ]))
      | (refine Run.passF ?_ ?_; (· simp only [List.getElem?_cons_zero, List.getElem?_cons_succ]))
      | (refine Run.passU ?_ ?_; (· simp only [List.getElem?_cons_zero, List.getElem?_cons_succ]))
      | (refine Run.runs ?_
         (first
         | (refine Run.callF 10 (by kernel_rfl) (fun hS => du_drop w.heap.size s x G K o _ HT9.out hS.size HBO.out) rfl ?_)
         | (refine Run.callG 10 (by kernel_rfl) ?_ (fun hS => du_drop w.heap.size s x G K o _ HT9.out hS.size HBO.out) rfl ?_; (· simp only [List.getElem?_cons_zero, List.getElem?_cons_succ]))
         | fail)
         (first
         | (rintro hS e w' ⟨rfl, ht, hk⟩; rw [HGL.out]; refine ⟨_, rfl, hS.trans hk, ?_⟩; clear ht)
         | (rintro hS e w' ⟨rfl, rfl⟩; refine ⟨_, rfl, hS, ?_⟩)
         | fail))
      | fail); simp only [Act.put, List.setIfInBounds_toArray, List.set_cons_zero, List.set_cons_succ])
    refine Run.ends (fun hS => ?_)
    have HE9 := Lib.hid hS
    clear hS
    go_wp2_with fail
    go_ret
    exact ⟨rfl, HE9.out⟩
end Go.Proofs.Ytihfkjodjaoocaa.shadowSets
