/- Walks that the laws of links share: awake; a ring, the document's, dice, and the document's, side by side. -/
import Derived.Test.YtoifmijbkfohhaaLinksC
import Derived.Test.YtoifmijbkfohhaaRgLinks
import Derived.Test.YtoifmijbkfohhaaMade12
set_option maxRecDepth 4000
namespace Go.Proofs.Ytoifmijbkfohhaa
open Go.RowKit Mem
set_option linter.unusedSimpArgs false
set_option linter.unusedVariables false
attribute [local irreducible] Go.Calls

/-- a ring r, the document's rr, of the same points; dice d, the document's e, of states s and t -/
def LkS (B : Nat) (z : World) (r rr d e : Nat) (L : List Int) (s t : Int) : Prop := ∃ W R, RgAt z r W R L ∧ RrAt z rr L ∧ DAt z d s ∧ Blk z e 33 #[.int .u64 t] ∧ ¬ R d ∧ ¬ R e ∧ (∀ v g, z.cell? ⟨rr, 0, none⟩ = some v → v.ownBlock = some g → g ≠ d ∧ g ≠ e) ∧ (d ≠ e ∧ rr ≠ d ∧ rr ≠ e) ∧ B ≤ d ∧ B ≤ e
theorem lks_mk {B : Nat} {z z' : World} {r rr d e : Nat} {L : List Int} {s t : Int} (h : Pr B z r rr L L) (k : Below z.heap.size z z') (hd : DAt z' d s) (hd0 : z.heap.size ≤ d) (he : Blk z' e 33 #[.int .u64 t]) (he0 : z.heap.size ≤ e) (hde : d ≠ e) (hB : B ≤ z.heap.size) : LkS B z' r rr d e L s t := by
  obtain ⟨W, R, h1, h2, h3, h4, h5, h6⟩ := h
  have hr := h2.lt
  obtain ⟨v0, hv0, _, hg0, _⟩ := id h2
  refine ⟨W, R, h1.keep k, h2.keep k, hd, he, fun h => by have := h1.lt h; omega, fun h => by have := h1.lt h; omega, fun v g hv hg => ?_, ⟨hde, by omega, by omega⟩, by omega, by omega⟩
  rw [(hv0.keep k).cell 0] at hv
  injection hv with hv
  subst hv
  have := (hg0 g hg).2
  omega
section
variable {B : Nat} {z z' : World} {r rr d e : Nat} {L : List Int} {s s' t t' : Int}
theorem LkS.keep (h : LkS B z r rr d e L s t) (k : Below z.heap.size z z') : LkS B z' r rr d e L s t := by
  obtain ⟨W, R, h1, h2, h3, h4, h5, h6, h7, h8, h9, h10⟩ := h
  obtain ⟨v0, hv0, _, hg0, _⟩ := id h2
  refine ⟨W, R, h1.keep k, h2.keep k, h3.keep k, h4.keep k, h5, h6, fun v g hv hg => ?_, h8, h9, h10⟩
  rw [(hv0.keep k).cell 0] at hv
  exact h7 v g (by rw [hv0.cell 0]; exact hv) hg
theorem LkS.dstep (h : LkS B z r rr d e L s t) (k : Turned (fun j => j = d) z z') (hd : DAt z' d s') : LkS B z' r rr d e L s' t := by
  obtain ⟨W, R, h1, h2, h3, h4, h5, h6, h7, h8, h9, h10⟩ := h
  obtain ⟨v0, hv0, _, hg0, _⟩ := id h2
  refine ⟨W, R, h1.turned k (fun j hj e => h5 (e ▸ hj)), h2.turned k (fun e => h8.2.1 e) (fun v g hv hg => (h7 v g hv hg).1), hd, h4.turned k (fun e => h8.1 e.symm), h5, h6, fun v g hv hg => ?_, h8, h9, h10⟩
  rw [(hv0.turned k (fun e => h8.2.1 e)).cell 0] at hv
  exact h7 v g (by rw [hv0.cell 0]; exact hv) hg
theorem LkS.estep (h : LkS B z r rr d e L s t) (k : Turned (fun j => j = e) z z') (he : Blk z' e 33 #[.int .u64 t']) : LkS B z' r rr d e L s t' := by
  obtain ⟨W, R, h1, h2, h3, h4, h5, h6, h7, h8, h9, h10⟩ := h
  obtain ⟨v0, hv0, _, hg0, _⟩ := id h2
  refine ⟨W, R, h1.turned k (fun j hj e => h6 (e ▸ hj)), h2.turned k (fun e => h8.2.2 e) (fun v g hv hg => (h7 v g hv hg).2), Blk.turned h3 k (fun e => h8.1 e), he, h5, h6, fun v g hv hg => ?_, h8, h9, h10⟩
  rw [(hv0.turned k (fun e => h8.2.2 e)).cell 0] at hv
  exact h7 v g (by rw [hv0.cell 0]; exact hv) hg
end
/-- links do not lie where dice do -/
theorem rd_ne_dice {w : World} {v : Value} {l : List Int} {e : Nat} {T : TypeId} {t : Int} (h : Rd (intE .u32) w v l) (hb : Blk w e T #[.int .u64 t]) (hl : 0 < l.length) : v.ownBlock ≠ some e := by
  obtain ⟨a, g, o, c, rfl, _, _, ha, hc⟩ := Mem.Rd.loopI h
  obtain ⟨rfl, _⟩ := ha hl
  intro he
  have he : some g = some e := he
  injection he with he
  subst he
  have h1 := hc 0 hl
  rw [hb.cell] at h1
  cases o with
  | zero => simp at h1
  | succ o => simp at h1
theorem rd_over {w w' : World} {v : Value} {l : List Int} {e : Nat} {T : TypeId} {t : Int} (h : Rd (intE .u32) w v l) (hb : Blk w e T #[.int .u64 t]) (k : Turned (fun j => j = e) w w') : Rd (intE .u32) w' v l := by
  by_cases hl : 0 < l.length
  · exact h.turned k (fun g hg he => rd_ne_dice h hb hl (by rw [hg, he]))
  · have : l = [] := List.eq_nil_of_length_eq_zero (by omega)
    subst this
    obtain ⟨a, c, rfl, _, hc⟩ := h.form
    exact Rd.nil _ _ hc
theorem LkS.e {B : Nat} {z : World} {r rr d e : Nat} {L : List Int} {s t : Int} (h : LkS B z r rr d e L s t) : Blk z e 33 #[.int .u64 t] := by
  obtain ⟨W, R, h1, h2, h3, h4, _⟩ := h
  exact h4
section
variable (B : Nat) (r rr d e : Nat) (L : List Int) (s t : Int) (z : World) (h : LkS B z r rr d e L s t) (hB : B ≤ z.heap.size)
include h hB
theorem lks_far (bs : 0 ≤ s ∧ s ≤ 18446744073709551615) : Calls Try.prog 12 #[.pointer (some ⟨d, 0, none⟩)] z fun x z' => x = .returned (.int .u32 (farV s)) ∧ LkS B z' r rr d e L (farS s) t ∧ Below B z z' := by
  have h' := h
  obtain ⟨W, R, h1, h2, h3, h4, h5, h6, h7, h8, h9, h10⟩ := h
  exact (lkfar_any d s bs z h3).mono fun x z' ⟨hx, hd, ho⟩ => ⟨hx, h'.dstep (Turned.of_only ho rfl) hd, ho.below h9 hB⟩
theorem lks_rfar (bt : 0 ≤ t ∧ t ≤ 18446744073709551615) : Calls Try.prog 13 #[.pointer (some ⟨e, 0, none⟩)] z fun x z' => x = .returned (.int .u32 (farV t)) ∧ LkS B z' r rr d e L s (farS t) ∧ Below B z z' := by
  have h' := h
  obtain ⟨W, R, h1, h2, h3, h4, h5, h6, h7, h8, h9, h10⟩ := h
  exact (rfar_any e t bt z h4).mono fun x z' ⟨hx, hd, ho⟩ => ⟨hx, h'.estep (Turned.of_only ho rfl) hd, ho.below h10 hB⟩
theorem lks_step (bs : 0 ≤ s ∧ s ≤ 18446744073709551615) : Calls Try.prog 14 #[.pointer (some ⟨d, 0, none⟩)] z fun x z' => x = .returned (.int .u64 (dmix (dnext s))) ∧ LkS B z' r rr d e L (dnext s) t ∧ Below B z z' := by
  have h' := h
  obtain ⟨W, R, h1, h2, h3, h4, h5, h6, h7, h8, h9, h10⟩ := h
  exact (dstep_any d s bs z h3).mono fun x z' ⟨hx, hd, ho⟩ => ⟨hx, h'.dstep (Turned.of_only ho rfl) hd, ho.below h9 hB⟩
theorem lks_rstep (bt : 0 ≤ t ∧ t ≤ 18446744073709551615) : Calls Try.prog 15 #[.pointer (some ⟨e, 0, none⟩)] z fun x z' => x = .returned (.int .u64 (dmix (dnext t))) ∧ LkS B z' r rr d e L s (dnext t) ∧ Below B z z' := by
  have h' := h
  obtain ⟨W, R, h1, h2, h3, h4, h5, h6, h7, h8, h9, h10⟩ := h
  exact (rdstep_any e t bt z h4).mono fun x z' ⟨hx, hd, ho⟩ => ⟨hx, h'.estep (Turned.of_only ho rfl) hd, ho.below h10 hB⟩
theorem lks_of (p n : Int) (bs : 0 ≤ s ∧ s ≤ 18446744073709551615) (bp : 0 ≤ p ∧ p ≤ 4294967295) (bn : -9223372036854775808 ≤ n ∧ n ≤ 9223372036854775807) : Calls Try.prog 9 #[.pointer (some ⟨r, 0, none⟩), .int .u32 p, .int .i64 n, .pointer (some ⟨d, 0, none⟩)] z fun x z' => ∃ v, x = .returned v ∧ Rd (intE .u32) z' v (linksR L p n s) ∧ LkS B z' r rr d e L (linksE L p n s) t ∧ Below B z z' := by
  have h' := h
  obtain ⟨W, R, h1, h2, h3, h4, h5, h6, h7, h8, h9, h10⟩ := h
  exact (lkof_any r d W R L p n s z h1 h3 h5 bs bp bn).mono fun x z' ⟨v, hx, hv, hd, ho⟩ => ⟨v, hx, hv, h'.dstep ho hd, ho.below hB (fun j hj => by rw [hj]; exact h9)⟩
theorem lks_links (p n : Int) (bt : 0 ≤ t ∧ t ≤ 18446744073709551615) (bp : 0 ≤ p ∧ p ≤ 4294967295) (bn : -9223372036854775808 ≤ n ∧ n ≤ 9223372036854775807) : Calls Try.prog 10 #[.pointer (some ⟨rr, 0, none⟩), .int .u32 p, .int .i64 n, .pointer (some ⟨e, 0, none⟩)] z fun x z' => ∃ v, x = .returned v ∧ Row (intE .u32) 23 z.heap.size z' v (linksR L p n t) ∧ LkS B z' r rr d e L s (linksE L p n t) ∧ Turned (fun j => j = e) z z' ∧ Below B z z' := by
  have h' := h
  obtain ⟨W, R, h1, h2, h3, h4, h5, h6, h7, h8, h9, h10⟩ := h
  exact (rlinks_any rr e L p n t z h2 h4 (fun x => h8.2.2 x.symm) (fun v g hv hg => (h7 v g hv hg).2) bt bp bn).mono fun x z' ⟨v, hx, hv, hd, ho⟩ => ⟨v, hx, hv, h'.estep ho hd, ho, ho.below hB (fun j hj => by rw [hj]; exact h10)⟩
end
set_option maxHeartbeats 2000000 in
theorem lkawake_any (w : World) : Calls Try.prog 8 #[] w fun e w' => e = .returned (.bool true) ∧ Below w.heap.size w w' := by
  have h1 := (farV_bd 5).1
  have h0 : (0 : Int) < farV 5 := by omega
  obtain ⟨fv, hfv⟩ : ∃ x, x = farV 5 := ⟨_, rfl⟩
  have HFV := Lib.hid hfv
  rw [← hfv] at h0
  clear hfv h1
  obtain ⟨w0, hw0⟩ : ∃ x, x = w := ⟨_, rfl⟩
  go_enter Try.func8, Try.ntmps8
  go_upto_region 1 with fail
  refine Run.region_seq (S := fun z => Below w.heap.size w z)
    [1, 0, 0, 1, 1, 0, 0, 0] (l := ?_) ?_ (Below.refl _ _) ?_
  rotate_left
  (· simp only [Run.seqOf, List.toList_toArray, Run.stepsOf, Run.stepOf, Run.guardOf, List.getElem?_toArray, List.getElem?_cons_zero, List.getElem?_cons_succ, Option.map_some, Option.map_none, Option.bind_some, Option.toList_some, List.map_cons, List.map_nil, List.cons_append, List.nil_append, List.append_eq]
     rfl)
  repeat ((first
    | (refine Run.takes (v := ?_) ?_ ?_; rotate_left; (· intro w' hS'; go_simp; (try with_reducible rfl)))
    | (refine Run.takesG (v := ?_) ?_ ?_ ?_; rotate_left; (· simp only [List.getElem?_cons_zero, List.getElem?_cons_succ]); (· intro w' hS'; go_simp; (try with_reducible rfl)))
    | (refine Run.skipsT ?_ ?_; (· simp only [List.getElem?_cons_zero, List.getElem?_cons_succ]))
    | (refine Run.skipsF ?_ ?_; (· simp only [List.getElem?_cons_zero, List.getElem?_cons_succ]))
    | (refine Run.skipsU ?_ ?_; (· simp only [List.getElem?_cons_zero, List.getElem?_cons_succ]))
    | (refine Run.passT ?_ ?_; (· simp only [List.getElem?_cons_zero, List.getElem?_cons_succ]))
    | (refine Run.passF ?_ ?_; (· simp only [List.getElem?_cons_zero, List.getElem?_cons_succ]))
    | (refine Run.passU ?_ ?_; (· simp only [List.getElem?_cons_zero, List.getElem?_cons_succ]))
    | (refine Run.runs ?_
       (first
       | (refine Run.callF 12 (by kernel_rfl) (fun hS => lkfar_nil _) rfl ?_)
       | (refine Run.callG 12 (by kernel_rfl) ?_ (fun hS => lkfar_nil _) rfl ?_; (· simp only [List.getElem?_cons_zero, List.getElem?_cons_succ]))
       | (refine Run.callF 7 (by kernel_rfl) (fun hS => dnew_any 5 (by omega) _) rfl ?_)
       | (refine Run.callG 7 (by kernel_rfl) ?_ (fun hS => dnew_any 5 (by omega) _) rfl ?_; (· simp only [List.getElem?_cons_zero, List.getElem?_cons_succ]))
       | (refine Run.callF 12 (by kernel_rfl) (fun hS => (HFV.out ▸ lkfar_any _ 5 (by omega) _ HD.out)) rfl ?_)
       | (refine Run.callG 12 (by kernel_rfl) ?_ (fun hS => (HFV.out ▸ lkfar_any _ 5 (by omega) _ HD.out)) rfl ?_; (· simp only [List.getElem?_cons_zero, List.getElem?_cons_succ]))
       | fail)
       (first
       | (rintro hS e w' ⟨b, rfl, hb, hd, hk⟩; have HD := Lib.hid hd; have HBB := Lib.hid (Nat.le_trans hS.size hb); refine ⟨_, rfl, nest hS hk, ?_⟩; clear hd hb)
       | (rintro hS e w' ⟨rfl, hd, ho⟩; refine ⟨_, rfl, hS.trans (ho.below HBB.out hS.size), ?_⟩; clear hd)
       | (rintro hS e w' ⟨rfl, rfl⟩; refine ⟨_, rfl, hS, ?_⟩)
       | (rintro hS e w' ⟨rfl, hb⟩; refine ⟨_, rfl, nest hS hb, ?_⟩)
       | fail))
    | fail); simp only [Act.put, List.setIfInBounds_toArray, List.set_cons_zero, List.set_cons_succ])
  refine Run.ends (fun hS => ?_)
  have HS := Lib.hid hS
  clear hS
  go_wp2_with fail
  go_ret
  exact ⟨rfl, HS.out⟩
end Go.Proofs.Ytoifmijbkfohhaa
