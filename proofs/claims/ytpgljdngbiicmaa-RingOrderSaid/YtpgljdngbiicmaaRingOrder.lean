/- Walk of the law RingOrder. -/
import Derived.Test.YtpgljdngbiicmaaRgLaw
import Derived.Test.YtpgljdngbiicmaaRgPlans
set_option maxRecDepth 4000
namespace Go.Proofs.Ytpgljdngbiicmaa.ringOrder
open Go.RowKit Mem
set_option linter.unusedSimpArgs false
set_option linter.unusedVariables false
attribute [local irreducible] Go.Calls

theorem u64_bd (x : Int) : 0 ≤ IntKind.u64.wrap x ∧ IntKind.u64.wrap x ≤ 18446744073709551615 := by
  have h : IntKind.u64.wrap x = x % 18446744073709551616 := rfl
  omega
theorem flatI (k : IntKind) (l : List Int) : (intE k).flat l = l.map (fun x => .int k x) := by
  induction l with
  | nil => rfl
  | cons x l ih => rw [Enc.flat_cons, ih]; rfl
theorem putI {k : IntKind} {T : TypeId} {B : Nat} {w : World} {g n c : Nat} {l : List Int} (h : Row (intE k) T B w (.slice (some ⟨g, 0, none⟩) n c) l) (hn : n = l.length) (i : Nat) (x : Int) :
    Row (intE k) T B (w.setCell ⟨g, i, none⟩ (.int k x)) (.slice (some ⟨g, 0, none⟩) n c) (l.set i x) := by
  subst hn
  have h1 : w.ownsRow B T 1 (.slice (some ⟨g, 0, none⟩) l.length c) l.length ((intE k).flat l) := h
  have h2 := (World.ownsRow.stored h1 i (.int k x)).1
  have e : ((intE k).flat l).set i (.int k x) = (intE k).flat (l.set i x) := by rw [flatI, flatI, List.map_set]
  unfold Row
  rw [List.length_set, ← e]
  exact h2
theorem frozenI {k : IntKind} {T : TypeId} {B : Nat} {w : World} {g n c : Nat} {l : List Int} (h : Row (intE k) T B w (.slice (some ⟨g, 0, none⟩) n c) l) (hn : n = l.length) (j : Nat) : w.frozen? ⟨g, j, none⟩ = false := by
  subst hn
  exact World.ownsRow.frozenAt h j
theorem headI {k : IntKind} {T : TypeId} {B : Nat} {w : World} {v : Value} {l : List Int} (h : Row (intE k) T B w v l) (hl : 0 < l.length) : ∃ g c, v = .slice (some ⟨g, 0, none⟩) l.length c ∧ l.length ≤ c ∧ c ≤ maxLen ∧ B ≤ g ∧ g < w.heap.size := by
  rcases h.2 with ⟨hv, hn⟩ | ⟨g, cap, cur, hv, hg, hc, h1, h2, h3, h4⟩
  · omega
  · refine ⟨g, cap, hv, h1, h2, ?_⟩
    exact h.block g (by rw [hv]; rfl)
theorem cellI {k : IntKind} {T : TypeId} {B : Nat} {w : World} {g n c : Nat} {l : List Int} (h : Row (intE k) T B w (.slice (some ⟨g, 0, none⟩) n c) l) {i : Nat} (hi : i < l.length) : w.cell? ⟨g, i, none⟩ = some (.int k (l.getD i 0)) := by
  obtain ⟨a, g', o, c', hv, _, _, ha, hc⟩ := Mem.Rd.loopI h.rd
  obtain ⟨e1, _⟩ := ha (by omega)
  injection hv with h1 h2 h3
  rw [← h1] at e1
  injection e1 with e1
  injection e1 with e2 e3
  have := hc i hi
  rw [← e2, ← e3, Nat.zero_add] at this
  exact this
theorem swap_perm (M : List Int) (p k : Nat) (hp : p < M.length) (hk : k < M.length) : ((M.set p (M.getD k 0)).set k (M.getD p 0)).Perm M := by
  rw [show M.getD k 0 = M[k] by simp [List.getD, hk], show M.getD p 0 = M[p] by simp [List.getD, hp]]
  exact List.set_set_perm hp hk
theorem adds_perm {l M : List Int} (hb : ∀ x ∈ l, 0 ≤ x ∧ x ≤ 4294967295) (hp : M.Perm l) (hn : l.length ≤ 40) : addsR [] (M.take l.length) = addsR [] (l.take l.length) := by
  have hl := hp.length_eq
  obtain ⟨h1, _, h2⟩ := addsR_facts l hb l.length (Nat.le_refl _) (by omega)
  obtain ⟨h3, _, h4⟩ := addsR_facts M (fun x hx => hb x (hp.mem_iff.1 hx)) l.length (by omega) (by omega)
  refine sorted_same h3.1 h1.1 fun x => ?_
  rw [h2, h4, List.take_length, show M.take l.length = M from by rw [← hl]; exact List.take_length, hp.mem_iff]

/-- two rings that leave each other be, made behind B -/
def Two (B : Nat) (w : World) (a b : Nat) (La Lb : List Int) : Prop := ∃ Wa Ra Wb Rb, RgAt w a Wa Ra La ∧ RgAt w b Wb Rb Lb ∧ (∀ j, Ra j → ¬ Wb j) ∧ (∀ j, Rb j → ¬ Wa j) ∧ ∀ j, Ra j ∨ Rb j → B ≤ j
theorem Two.keep {B : Nat} {w w' : World} {a b : Nat} {La Lb : List Int} (h : Two B w a b La Lb) (k : Below w.heap.size w w') : Two B w' a b La Lb := by
  obtain ⟨Wa, Ra, Wb, Rb, h1, h2, h3, h4, h5⟩ := h
  exact ⟨Wa, Ra, Wb, Rb, h1.keep k, h2.keep k, h3, h4, h5⟩
theorem Two.swap {B : Nat} {w : World} {a b : Nat} {La Lb : List Int} (h : Two B w a b La Lb) : Two B w b a Lb La := by
  obtain ⟨Wa, Ra, Wb, Rb, h1, h2, h3, h4, h5⟩ := h
  exact ⟨Wb, Rb, Wa, Ra, h2, h1, h4, h3, fun j hj => h5 j hj.symm⟩
theorem Two.one {B : Nat} {w : World} {a b : Nat} {La Lb : List Int} (h : Two B w a b La Lb) : Rg B w a La := by
  obtain ⟨Wa, Ra, Wb, Rb, h1, h2, h3, h4, h5⟩ := h
  exact ⟨Wa, Ra, h1, fun j hj => h5 j (.inl hj)⟩
theorem two_new {B : Nat} {w w' : World} {a b : Nat} {Wa Ra Wb Rb : Nat → Prop} {La : List Int} (h : RgAt w a Wa Ra La) (k : Below w.heap.size w w') (h' : RgAt w' b Wb Rb []) (hr : ∀ j, Rb j → w.heap.size ≤ j) (ha : ∀ j, Ra j → B ≤ j) (hB : B ≤ w.heap.size) : Two B w' a b La [] := by
  refine ⟨Wa, Ra, Wb, Rb, h.keep k, h', fun j hj hw => ?_, fun j hj hw => ?_, fun j hj => ?_⟩
  · have := h.lt hj; have := hr j (h'.sub hw); omega
  · have := h.lt (h.sub hw); have := hr j hj; omega
  · rcases hj with hj | hj
    · exact ha j hj
    · have := hr j hj; omega
theorem two_add (B a b : Nat) (La Lb : List Int) (p : Int) (w : World) (h : Two B w a b La Lb) (hB : B ≤ w.heap.size) (bp : 0 ≤ p ∧ p ≤ 4294967295) :
    Calls Try.prog 14 #[.pointer (some ⟨a, 0, none⟩), .int .u32 p] w fun e w' => e = .returned (.int .i64 (addR La p).2) ∧ Two B w' a b (addR La p).1 Lb ∧ Below B w w' := by
  obtain ⟨Wa, Ra, Wb, Rb, h1, h2, h3, h4, h5⟩ := h
  refine (rgadd_any a Wa Ra La p w h1 bp).mono fun e w' ⟨he, W', R', h', t, hw', hr'⟩ => ⟨he, ⟨W', R', Wb, Rb, h', h2.turned t h4, fun j hj hw => ?_, fun j hj hw => ?_, fun j hj => ?_⟩, t.below hB (fun j hj => h5 j (.inl (h1.sub hj)))⟩
  · rcases hr' j hj with h | h
    · exact h3 j h hw
    · have := h2.lt (h2.sub hw); omega
  · rcases hw' j hw with h | h
    · exact h4 j hj h
    · have := h2.lt hj; omega
  · rcases hj with hj | hj
    · rcases hr' j hj with h | h
      · exact h5 j (.inl h)
      · omega
    · exact h5 j (.inr hj)
/-- both loads first, in either order; then what stands behind them -/
def plan8 : List (Nat × Nat) := [(0, 0), (1, 0), (2, 0), (3, 0), (4, 0), (5, 0), (6, 0), (7, 0), (8, 0), (9, 0), (11, 0), (12, 0), (13, 0), (14, 0), (15, 0), (16, 0), (10, 19), (18, 0), (19, 1), (20, 0), (21, 1)]

set_option maxRecDepth 100000 in
set_option maxHeartbeats 8000000 in
theorem walk (v : Value) (l : List Int) (u : Value) (tn : List Int) (w : World) (h : Rd (intE .u32) w v l) (hb : ∀ x ∈ l, 0 ≤ x ∧ x ≤ 4294967295) (hu : Rd (intE .i64) w u tn) (htb : ∀ x ∈ tn, -9223372036854775808 ≤ x ∧ x ≤ 9223372036854775807) :
    Calls Try.prog 9 #[v, u] w fun e w' => e = .returned (.bool true) ∧ Below w.heap.size w w' := by
  have HRD := Lib.hid h
  obtain ⟨a, g, o, c, rfl, hc, hm, ha, hcells⟩ := Mem.Rd.loopI h
  obtain ⟨au, cu, rfl, hcu, hmu⟩ := hu.form
  have hm' : c ≤ 9223372036854775807 := hm
  have hmu' : cu ≤ 9223372036854775807 := hmu
  have HA := Lib.hid ha
  have HC := Lib.hid hcells
  have HB := Lib.hid hb
  have HTU := Lib.hid hu
  have HTB := Lib.hid htb
  clear h ha hcells hm hb hu htb hmu
  by_cases hl40 : 40 < l.length
  · have h40 : (40 : Int) < (l.length : Int) := by omega
    go_enter Try.func9, Try.ntmps9
    go_wp2_with fail
    refine (rgawake_any w).mono ?_
    rintro e w3 ⟨rfl, hk⟩
    go_wp2_with fail
    go_ret
    exact ⟨rfl, hk⟩
  · have h40 : ¬ (40 : Int) < (l.length : Int) := by omega
    have HLN : Hid (l.length ≤ 40) := Lib.hid (by omega)
    go_enter Try.func9, Try.ntmps9
    go_upto_block 99 with (at_builtin; refine wpList_append (E := intE .u32) (B := w.heap.size) (v := .slice none 0 0) (l := []) (m := l) (bytes := 4) rgElem Nat.zero_lt_one rfl (.const (.slice none 0 0)) (.tmp 21) rfl rfl Row.nil rfl HRD.out (by have := HLN.out; simp [maxLen]; omega) (by have := HLN.out; simp; omega) (Nat.le_refl _) ?_; intro v9 w9 hr9 hk9 hg9 _; rw [List.nil_append] at hr9; obtain ⟨a9, c9, rfl, hc9, hm9⟩ := hr9.rd.form)
    have HR9 := Lib.hid hr9
    have HK9 := Lib.hid hk9
    have hm9' : c9 ≤ 9223372036854775807 := hm9
    have HRDK := Lib.hid HRD.out
    clear hr9 hk9 hg9 hm9 HRD
    go_loopw [6] (fun iv wr => ∃ (i : Nat) (M : List Int), iv = .int .i64 i ∧ i ≤ 60 ∧ M.length = l.length ∧ M.Perm l ∧ Row (intE .u32) 24 w.heap.size wr (.slice a9 l.length c9) M ∧ Below w.heap.size w wr) (fun iv _ => 60 - (intOf iv).toNat)
    case atStart => exact ⟨0, l, rfl, by omega, rfl, List.Perm.refl _, HR9.out, HK9.out⟩
    case round =>
      obtain ⟨i, M, rfl, hi, hml, hpm, hrow, hbw⟩ := hrel
      have HROW := Lib.hid hrow
      have HPM := Lib.hid hpm
      have HKI := Lib.hid hbw
      have HML := Lib.hid hml
      clear hrow hpm hbw hml HR9 HK9
      by_cases hcont : i < tn.length ∧ i < 60 ∧ 0 < l.length
      · skip
        as_aux_lemma =>
          obtain ⟨h1, h2, h3⟩ := hcont
          obtain ⟨gu, ou, cu', hv, _, _, hcell⟩ := HTU.out.cells (by omega)
          injection hv with e1 _ _
          subst e1
          have t0 : w.cell? ⟨gu, ou + i, none⟩ = some (.int .i64 tn[i]) := by simpa [intE] using hcell i h1 0 (by decide)
          have HTI := Lib.hid (HTB.out tn[i] (List.getElem_mem h1))
          obtain ⟨t, ht⟩ : ∃ t, t = tn[i] := ⟨_, rfl⟩
          rw [← ht] at t0 HTI
          have d0 := kc HKI.out t0
          have hil : (i : Int) < (tn.length : Int) := by omega
          have hcl : (tn.length : Int) ≤ cu := by omega
          have hi60 : (i : Int) < 60 := by omega
          have hlp : (0 : Int) < (l.length : Int) := by omega
          clear ht hcell
          go_upto_region 8 with fail
          obtain ⟨k, hkS, hkq⟩ : ∃ k : Nat, k < l.length ∧ wrap64 ((IntKind.u64.wrap t).tmod (l.length : Int)) = (k : Int) := by
            have q1 : 0 ≤ (IntKind.u64.wrap t).tmod (l.length : Int) := Int.tmod_nonneg _ (u64_bd t).1
            have q2 := Int.tmod_lt_of_pos (IntKind.u64.wrap t) (show (0 : Int) < (l.length : Int) by omega)
            refine ⟨((IntKind.u64.wrap t).tmod (l.length : Int)).toNat, by omega, ?_⟩
            unfold wrap64
            omega
          obtain ⟨p, hpS, hpq⟩ : ∃ p : Nat, p < l.length ∧ (i : Int).tmod (l.length : Int) = (p : Int) := ⟨i % l.length, Nat.mod_lt _ h3, rfl⟩
          rw [hkq]
          clear hkq
          obtain ⟨g9, c9', hv9, _, _, hgB, _⟩ := headI HROW.out (by rw [HML.out]; exact h3)
          injection hv9 with e1 e2 e3
          subst e1 e3
          have hD : Below wr.heap.size wr wr.drew := (Below.refl _ _).drew
          have HRD := Lib.hid (HROW.out.keep hD)
          have hkc := cellI HRD.out (i := k) (by rw [HML.out]; exact hkS)
          have hpc := cellI HRD.out (i := p) (by rw [HML.out]; exact hpS)
          have HSW := Lib.hid ((swap_perm M p k (by rw [HML.out]; exact hpS) (by rw [HML.out]; exact hkS)).trans HPM.out)
          have HKD := Lib.hid (nest HKI.out hD)
          have HGB := Lib.hid hgB
          have hz1 := frozenI HRD.out HML.out.symm p
          obtain ⟨xk, hxk⟩ : ∃ y, y = M.getD k 0 := ⟨_, rfl⟩
          obtain ⟨xp, hxp⟩ : ∃ y, y = M.getD p 0 := ⟨_, rfl⟩
          rw [← hxk] at hkc HSW
          rw [← hxp] at hpc HSW
          have hlne : ¬ l = [] := fun e => by rw [e] at h3; simp at h3
          have hkl : (k : Int) < (l.length : Int) := by omega
          have hpl : (p : Int) < (l.length : Int) := by omega
          have hc9' : (l.length : Int) ≤ c9 := by omega
          clear hxk hxp hD e2 d0 t0 HROW hgB
          refine Run.region_walk (S := fun _ => True)
            lrgorder.rows7 plan8 (l := ?steps1) (by kernel_rfl) (by kernel_rfl) (by kernel_rfl) (by kernel_rfl) ?written1 trivial ?onward1
          case written1 =>
            simp only [plan8, Run.stepsOf, Run.stepOf, Run.guardOf, List.getElem?_toArray, List.getElem?_cons_zero, List.getElem?_cons_succ, Option.map_some, Option.map_none, Option.bind_some, Option.toList_some, List.map_cons, List.map_nil, List.cons_append, List.nil_append, List.append_eq]
            rfl
          repeat ((first
            | (refine Run.takes (v := ?_) ?_ ?_; rotate_left; (· intro w' hS'; go_simp; (try with_reducible rfl)))
            | (refine Run.takesG (v := ?_) ?_ ?_ ?_; rotate_left; (· simp only [List.getElem?_cons_zero, List.getElem?_cons_succ]); (· intro w' hS'; go_simp; (try with_reducible rfl)))
            | (refine Run.skipsT ?_ ?_; (· simp only [List.getElem?_cons_zero, List.getElem?_cons_succ]))
            | (refine Run.skipsF ?_ ?_; (· simp only [List.getElem?_cons_zero, List.getElem?_cons_succ]))
            | (refine Run.skipsU ?_ ?_; (· simp only [List.getElem?_cons_zero, List.getElem?_cons_succ]))
            | (refine Run.passT ?_ ?_; (· simp only [List.getElem?_cons_zero, List.getElem?_cons_succ]))
            | (refine Run.passF ?_ ?_; (· simp only [List.getElem?_cons_zero, List.getElem?_cons_succ]))
            | (refine Run.passU ?_ ?_; (· simp only [List.getElem?_cons_zero, List.getElem?_cons_succ]))
            | fail); simp only [Act.put, List.setIfInBounds_toArray, List.set_cons_zero, List.set_cons_succ])
          generalize wr.drew = wd at *
          refine Run.both ?_ ?_
          all_goals
            refine Run.one (fun _ K1 hK1 => ?_)
            go_simp
            refine hK1.out _ _ trivial ?_
            clear hK1 K1
            try simp only [Act.put, List.setIfInBounds_toArray, List.set_cons_zero, List.set_cons_succ]
            refine Run.one (fun _ K1 hK1 => ?_)
            go_simp
            refine hK1.out _ _ trivial ?_
            clear hK1 K1
            try simp only [Act.put, List.setIfInBounds_toArray, List.set_cons_zero, List.set_cons_succ]
            repeat ((first
              | (refine Run.takes (v := ?_) ?_ ?_; rotate_left; (· intro w' hS'; go_simp; (try with_reducible rfl)))
              | (refine Run.takesG (v := ?_) ?_ ?_ ?_; rotate_left; (· simp only [List.getElem?_cons_zero, List.getElem?_cons_succ]); (· intro w' hS'; go_simp; (try with_reducible rfl)))
              | (refine Run.skipsT ?_ ?_; (· simp only [List.getElem?_cons_zero, List.getElem?_cons_succ]))
              | (refine Run.skipsF ?_ ?_; (· simp only [List.getElem?_cons_zero, List.getElem?_cons_succ]))
              | (refine Run.skipsU ?_ ?_; (· simp only [List.getElem?_cons_zero, List.getElem?_cons_succ]))
              | (refine Run.passT ?_ ?_; (· simp only [List.getElem?_cons_zero, List.getElem?_cons_succ]))
              | (refine Run.passF ?_ ?_; (· simp only [List.getElem?_cons_zero, List.getElem?_cons_succ]))
              | (refine Run.passU ?_ ?_; (· simp only [List.getElem?_cons_zero, List.getElem?_cons_succ]))
              | fail); simp only [Act.put, List.setIfInBounds_toArray, List.set_cons_zero, List.set_cons_succ])
            refine Run.runs (Run.one (fun _ K1 hK1 => ?_))
            go_simp
            refine hK1.out _ _ trivial ?_
            clear hK1 K1 hkc hpc hz1
            have HR1 := Lib.hid (putI HRD.out HML.out.symm p xk)
            have HKE := Lib.hid (HKD.out.trans ((show Only g9 wd (wd.setCell ⟨g9, p, none⟩ (.int .u32 xk)) from Only.set _ _ _).below HGB.out HKD.out.size))
            generalize wd.setCell ⟨g9, p, none⟩ (.int .u32 xk) = we at *
            have HM1 : Hid (l.length = (M.set p xk).length) := Lib.hid (by rw [List.length_set]; exact HML.out.symm)
            have hz2 := frozenI HR1.out HM1.out k
            have hkc2 := cellI HR1.out (i := k) (by rw [← HM1.out]; exact hkS)
            generalize (M.set p xk).getD k 0 = xo at hkc2
            try simp only [Act.put, List.setIfInBounds_toArray, List.set_cons_zero, List.set_cons_succ]
            repeat ((first
              | (refine Run.takes (v := ?_) ?_ ?_; rotate_left; (· intro w' hS'; go_simp; (try with_reducible rfl)))
              | (refine Run.takesG (v := ?_) ?_ ?_ ?_; rotate_left; (· simp only [List.getElem?_cons_zero, List.getElem?_cons_succ]); (· intro w' hS'; go_simp; (try with_reducible rfl)))
              | (refine Run.skipsT ?_ ?_; (· simp only [List.getElem?_cons_zero, List.getElem?_cons_succ]))
              | (refine Run.skipsF ?_ ?_; (· simp only [List.getElem?_cons_zero, List.getElem?_cons_succ]))
              | (refine Run.skipsU ?_ ?_; (· simp only [List.getElem?_cons_zero, List.getElem?_cons_succ]))
              | (refine Run.passT ?_ ?_; (· simp only [List.getElem?_cons_zero, List.getElem?_cons_succ]))
              | (refine Run.passF ?_ ?_; (· simp only [List.getElem?_cons_zero, List.getElem?_cons_succ]))
              | (refine Run.passU ?_ ?_; (· simp only [List.getElem?_cons_zero, List.getElem?_cons_succ]))
              | fail); simp only [Act.put, List.setIfInBounds_toArray, List.set_cons_zero, List.set_cons_succ])
            refine Run.runs (Run.one (fun _ K1 hK1 => ?_))
            go_simp
            refine hK1.out _ _ trivial ?_
            clear hK1 K1 hz2 hkc2
            have HR2 := Lib.hid (putI HR1.out HM1.out k xp)
            have HKF := Lib.hid (HKE.out.trans ((show Only g9 we (we.setCell ⟨g9, k, none⟩ (.int .u32 xp)) from Only.set _ _ _).below HGB.out HKE.out.size))
            generalize we.setCell ⟨g9, k, none⟩ (.int .u32 xp) = wf at *
            have HM2 : Hid (((M.set p xk).set k xp).length = l.length) := Lib.hid (by rw [List.length_set]; exact HM1.out.symm)
            clear HR1 HM1 HKE HRD HKD
            refine Run.ends (fun _ => ?_)
            go_wp2_with fail
            exact ⟨⟨i + 1, by go_num, by omega, (M.set p xk).set k xp, HM2.out, HSW.out, HR2.out, HKF.out⟩, by simp [intOf]; omega⟩
      · obtain ⟨wi, hwi⟩ : ∃ z, z = wr := ⟨_, rfl⟩
        subst hwi
        have HVL : Hid (Rd (intE .u32) wi (.slice a l.length c) l) := Lib.hid (HRDK.out.keep HKI.out)
        have HVM : Hid (Rd (intE .u32) wi (.slice a9 l.length c9) M) := Lib.hid HROW.out.rd
        have HSAME := Lib.hid (adds_perm HB.out HPM.out HLN.out)
        have HMB : Hid (∀ x ∈ M, 0 ≤ x ∧ x ≤ 4294967295) := Lib.hid (fun x hx => HB.out x (HPM.out.mem_iff.1 hx))
        obtain ⟨al, gl, ol, cl, hvl, hcl, _, hal, hel⟩ := Mem.Rd.loopI HVL.out
        injection hvl with e1 _ e3
        subst e1 e3
        obtain ⟨am, gm, om, cm, hvm, hcm, _, ham, hem⟩ := Mem.Rd.loopI HVM.out
        rw [HML.out] at hvm hcm ham hem
        injection hvm with e1 _ e3
        subst e1 e3
        have HAL := Lib.hid hal
        have HEL := Lib.hid hel
        have HAM := Lib.hid ham
        have HEM := Lib.hid hem
        have hex : ¬ i < tn.length ∨ (i < tn.length ∧ ¬ i < 60) ∨ (i < tn.length ∧ i < 60 ∧ l.length = 0) := by omega
        have hcond : ¬ (i : Int) < (tn.length : Int) ∨ ((i : Int) < (tn.length : Int) ∧ ¬ (i : Int) < 60) ∨ ((i : Int) < (tn.length : Int) ∧ (i : Int) < 60 ∧ ¬ (0 : Int) < (l.length : Int)) := by omega
        clear hal hel ham hem hex hcont HA HC HVL HVM HROW hi
        rcases hcond with q | ⟨q1, q2⟩ | ⟨q1, q2, q3⟩
        all_goals
          go_wp2_with fail
          refine (rgnew_any wi).mono ?_
          rintro e w10 ⟨b1, W1, R1, rfl, hp1, hr1, hk1⟩
          have HP1 := Lib.hid hp1
          have HR1 := Lib.hid hr1
          have HKB1 := Lib.hid hk1
          clear hp1 hr1 hk1
          go_wp2_with fail
          refine (rgnew_any w10).mono ?_
          rintro e w11 ⟨b2, W2, R2, rfl, hp2, hr2, hk2⟩
          have HT := Lib.hid (two_new (B := wi.heap.size) HP1.out hk2 hp2 hr2 HR1.out HKB1.out.size)
          have HKB := Lib.hid (nest HKB1.out hk2)
          clear hp2 hr2 hk2 HP1 HR1 HKB1
          go_upto_block 99 with fail
          go_loopw [10] (fun iv wr2 => ∃ j : Nat, j ≤ l.length ∧ iv = .int .i64 j ∧ Two wi.heap.size wr2 b1 b2 (addsR [] (l.take j)) (addsR [] (M.take j)) ∧ Below wi.heap.size wi wr2) (fun iv _ => l.length - (intOf iv).toNat)
          case atStart => exact ⟨0, Nat.zero_le _, rfl, HT.out, HKB.out⟩
          case round =>
            obtain ⟨j, hj, rfl, htwo, hb2⟩ := hrel
            have HT2 := Lib.hid htwo
            have HKB2 := Lib.hid hb2
            clear htwo hb2 HT HKB
            by_cases hlt : j < l.length
            · obtain ⟨rfl, hgl⟩ := HAL.out (by omega)
              obtain ⟨rfl, hgm⟩ := HAM.out (by omega)
              have d0 := kc HKB2.out (HEL.out j hlt)
              have HM0 := Lib.hid (HEM.out j hlt)
              have HBL : Hid (0 ≤ l.getD j 0 ∧ l.getD j 0 ≤ 4294967295) := Lib.hid (HB.out _ (by rw [show l.getD j 0 = l[j] by simp [List.getD, hlt]]; exact List.getElem_mem hlt))
              have HBM : Hid (0 ≤ M.getD j 0 ∧ M.getD j 0 ≤ 4294967295) := Lib.hid (HMB.out _ (by rw [show M.getD j 0 = M[j]'(by rw [HML.out]; exact hlt) by simp [List.getD, show j < M.length by rw [HML.out]; exact hlt]]; exact List.getElem_mem _))
              have HSL := Lib.hid (addsR_step [] hlt)
              have HSM := Lib.hid (addsR_step [] (show j < M.length by rw [HML.out]; exact hlt))
              obtain ⟨x, hx⟩ : ∃ x, x = l.getD j 0 := ⟨_, rfl⟩
              obtain ⟨y, hy⟩ : ∃ x, x = M.getD j 0 := ⟨_, rfl⟩
              rw [← hx] at d0 HBL HSL
              rw [← hy] at HM0 HBM HSM
              have hjl : (j : Int) < (l.length : Int) := by omega
              have hcl1 : (l.length : Int) ≤ c := by omega
              have hcm1 : (l.length : Int) ≤ c9 := by omega
              clear hx hy hgl hgm
              go_wp2_with fail
              refine (two_add wi.heap.size b1 b2 _ _ x _ HT2.out HKB2.out.size HBL.out).mono ?_
              rintro e w12 ⟨rfl, ht, hk⟩
              have HT3 := Lib.hid ht.swap
              have HKB3 := Lib.hid (HKB2.out.trans hk)
              have m1 := kc HKB3.out HM0.out
              clear ht hk HT2 HKB2 d0 HM0
              go_wp2_with fail
              refine (two_add wi.heap.size b2 b1 _ _ y _ HT3.out HKB3.out.size HBM.out).mono ?_
              rintro e w13 ⟨rfl, ht, hk⟩
              have HT4 := Lib.hid ht.swap
              have HKB4 := Lib.hid (HKB3.out.trans hk)
              rw [← HSL.out, ← HSM.out] at HT4
              clear ht hk HT3 HKB3 m1
              go_wp2_with fail
              exact ⟨⟨j + 1, by omega, by go_num, HT4.out, HKB4.out⟩, by simp [intOf]; omega⟩
            · have hjl : j = l.length := by omega
              subst hjl
              rw [HSAME.out] at HT2
              have HO := Lib.hid HT2.out.one.ok
              obtain ⟨L, hL⟩ : ∃ L, L = addsR [] (l.take l.length) := ⟨_, rfl⟩
              rw [← hL] at HT2 HO
              have hLL : L.length ≤ 64 := HO.out.2.2
              clear hL HSAME HAL HEL HAM HEM
              go_wp2_with fail
              refine (rg_points wi.heap.size b1 L _ HT2.out.one).mono ?_
              rintro e w13 ⟨vp, rfl, hv, hk⟩
              have HT3 := Lib.hid (HT2.out.keep hk)
              have HK3 := Lib.hid (nest HKI.out (HKB2.out.trans (hk.mono HKB2.out.size)))
              have HV3 := Lib.hid hv
              have HBS : Hid (wi.heap.size ≤ w13.heap.size) := Lib.hid (Nat.le_trans HKB2.out.size hk.size)
              clear hv hk HT2 HKB2
              obtain ⟨ap, gp, op, cp, rfl, hcp, hmp, hap, hep⟩ := Mem.Rd.loopI HV3.out
              have hmp' : cp ≤ 9223372036854775807 := hmp
              have HAP := Lib.hid hap
              have HEP := Lib.hid hep
              clear hap hep hmp
              go_upto_block 99 with fail
              go_loopw [12] (fun iv wr => ∃ j : Nat, j ≤ L.length ∧ iv = .int .i64 j ∧ Below w13.heap.size w13 wr) (fun iv _ => L.length - (intOf iv).toNat)
              case atStart => exact ⟨0, Nat.zero_le _, rfl, Below.refl _ _⟩
              case round =>
                obtain ⟨j, hj, rfl, hb4⟩ := hrel
                obtain ⟨wo, hwo⟩ : ∃ z, z = wr := ⟨_, rfl⟩
                subst hwo
                have HT4 := Lib.hid (HT3.out.keep hb4)
                have HK4 := Lib.hid hb4
                by_cases hlt : j < L.length
                · obtain ⟨rfl, hgp⟩ := HAP.out (by omega)
                  have d0 := kc hb4 (HEP.out j hlt)
                  have HXB : Hid (0 ≤ L.getD j 0 ∧ L.getD j 0 ≤ 4294967295) := Lib.hid (HO.out.2.1 _ (by rw [show L.getD j 0 = L[j] by simp [List.getD, hlt]]; exact List.getElem_mem hlt))
                  obtain ⟨x, hx⟩ : ∃ x, x = L.getD j 0 := ⟨_, rfl⟩
                  rw [← hx] at d0 HXB
                  have hjl : (j : Int) < (L.length : Int) := by omega
                  have hcl1 : (L.length : Int) ≤ cp := by omega
                  clear hx hgp hb4 HAP HEP
                  obtain ⟨s1, hs1⟩ : ∃ s, s = (spanR L x).1.1 := ⟨_, rfl⟩
                  obtain ⟨s2, hs2⟩ : ∃ s, s = (spanR L x).1.2 := ⟨_, rfl⟩
                  obtain ⟨s3, hs3⟩ : ∃ s, s = (spanR L x).2 := ⟨_, rfl⟩
                  have HSP1 : Hid (∀ z, Below wo.heap.size wo z → Calls Try.prog 21 #[.pointer (some ⟨b1, 0, none⟩), .int .u32 x] z fun e w' => e = .returned (.tuple #[.agg #[.int .u32 s1, .int .u32 s2], .bool s3]) ∧ Below z.heap.size z w') := Lib.hid (fun z hz => by rw [hs1, hs2, hs3]; exact rg_span wi.heap.size b1 L x z (HT4.out.keep hz).one HXB.out)
                  have HSP2 : Hid (∀ z, Below wo.heap.size wo z → Calls Try.prog 21 #[.pointer (some ⟨b2, 0, none⟩), .int .u32 x] z fun e w' => e = .returned (.tuple #[.agg #[.int .u32 s1, .int .u32 s2], .bool s3]) ∧ Below z.heap.size z w') := Lib.hid (fun z hz => by rw [hs1, hs2, hs3]; exact rg_span wi.heap.size b2 L x z (HT4.out.keep hz).swap.one HXB.out)
                  clear hs1 hs2 hs3
                  go_upto_region 20 with (first | (go_at_call 21; refine (HSP1.out _ (Below.refl _ _)).mono ?_; rintro e z6 ⟨rfl, hk6⟩) | (refine at_store 13 rfl ?_; refine wpList_store_row rfl 36 (.tmp 13) (.tmp 103) rfl z6.heap.size #[.int .u32 s1, .int .u32 s2] rfl rfl 36 _ (heap_alloc_new z6 _) span_infoR rfl (by simp [Value.oneCell']) ?_))
                  (try rw [World.setRow_alloc_new])
                  have hX := more (Below.refl z6.heap.size z6) (.cells #[.int .u32 s1, .int .u32 s2] 36)
                  have HB7 := Lib.hid (Blk.new z6 36 #[.int .u32 s1, .int .u32 s2])
                  have HKX := Lib.hid (nest hk6 hX)
                  have c0 := kc HKX.out d0
                  clear hX hk6
                  generalize z6.alloc (.cells #[.int .u32 s1, .int .u32 s2] 36) = z7 at *
                  obtain ⟨g13, hg13⟩ : ∃ g, g = z6.heap.size := ⟨_, rfl⟩
                  rw [← hg13] at HB7 ⊢
                  clear hg13
                  go_upto_region 21 with (first | (go_at_call 21; refine (HSP2.out _ HKX.out).mono ?_; rintro e z8 ⟨rfl, hk8⟩) | (refine at_store 15 rfl ?_; refine wpList_store_row rfl 36 (.tmp 15) (.tmp 112) rfl z8.heap.size #[.int .u32 s1, .int .u32 s2] rfl rfl 36 _ (heap_alloc_new z8 _) span_infoR rfl (by simp [Value.oneCell']) ?_))
                  (try rw [World.setRow_alloc_new])
                  have hX := more (Below.refl z8.heap.size z8) (.cells #[.int .u32 s1, .int .u32 s2] 36)
                  have HB8 := Lib.hid (Blk.new z8 36 #[.int .u32 s1, .int .u32 s2])
                  have HB9 := Lib.hid (HB7.out.keep (nest hk8 hX))
                  have HK9 := Lib.hid (nest HKX.out (nest hk8 hX))
                  have HT9 := Lib.hid (HT4.out.keep HK9.out)
                  have c1 := kc HK9.out d0
                  clear hX hk8 c0 d0 HB7 HKX HSP1 HSP2
                  generalize z8.alloc (.cells #[.int .u32 s1, .int .u32 s2] 36) = z9 at *
                  obtain ⟨g15, hg15⟩ : ∃ g, g = z8.heap.size := ⟨_, rfl⟩
                  rw [← hg15] at HB8 ⊢
                  clear hg15
                  refine Run.region_walk (S := fun z => z.cell? ⟨gp, op + j, none⟩ = some (.int .u32 x) ∧ Blk z g13 36 #[.int .u32 s1, .int .u32 s2] ∧ Blk z g15 36 #[.int .u32 s1, .int .u32 s2] ∧ Below z9.heap.size z9 z)
                    lrgorder.rows20 lrgorder.plan20 (l := ?_) (by kernel_rfl) (by kernel_rfl) (by kernel_rfl) (by kernel_rfl) ?_ ⟨kc (Below.refl _ _).drew c1, HB9.out.keep (Below.refl _ _).drew, HB8.out.keep (Below.refl _ _).drew, (Below.refl _ _).drew⟩ ?_
                  rotate_left
                  (· simp only [lrgorder.plan20, Run.stepsOf, Run.stepOf, Run.guardOf, List.getElem?_toArray, List.getElem?_cons_zero, List.getElem?_cons_succ, Option.map_some, Option.map_none, Option.bind_some, Option.toList_some, List.map_cons, List.map_nil, List.cons_append, List.nil_append, List.append_eq]
                     rfl)
                  repeat ((first
                    | (refine Run.takes (v := ?_) ?_ ?_; rotate_left; (· intro w' hS'; (first | ((first | (refine exec_load_blk (n := 2) (x := .tmp 13) (l := [.int .u32 s1, .int .u32 s2]) ?_ Try.underlying36 span_infoR ?_ ?_ hS'.2.1 <;> rfl) | (refine exec_load_blk (n := 2) (x := .tmp 15) (l := [.int .u32 s1, .int .u32 s2]) ?_ Try.underlying36 span_infoR ?_ ?_ hS'.2.2.1 <;> rfl))) | (go_simp; (try with_reducible rfl)))))
                    | (refine Run.takesG (v := ?_) ?_ ?_ ?_; rotate_left; (· simp only [List.getElem?_cons_zero, List.getElem?_cons_succ]); (· intro w' hS'; (first | ((first | (refine exec_load_blk (n := 2) (x := .tmp 13) (l := [.int .u32 s1, .int .u32 s2]) ?_ Try.underlying36 span_infoR ?_ ?_ hS'.2.1 <;> rfl) | (refine exec_load_blk (n := 2) (x := .tmp 15) (l := [.int .u32 s1, .int .u32 s2]) ?_ Try.underlying36 span_infoR ?_ ?_ hS'.2.2.1 <;> rfl))) | (go_simp; (try with_reducible rfl)))))
                    | (refine Run.skipsT ?_ ?_; (· simp only [List.getElem?_cons_zero, List.getElem?_cons_succ]))
                    | (refine Run.skipsF ?_ ?_; (· simp only [List.getElem?_cons_zero, List.getElem?_cons_succ]))
                    | (refine Run.skipsU ?_ ?_; (· simp only [List.getElem?_cons_zero, List.getElem?_cons_succ]))
                    | (refine Run.passT ?_ ?_; (· simp only [List.getElem?_cons_zero, List.getElem?_cons_succ]))
                    | (refine Run.passF ?_ ?_; (· simp only [List.getElem?_cons_zero, List.getElem?_cons_succ]))
                    | (refine Run.passU ?_ ?_; (· simp only [List.getElem?_cons_zero, List.getElem?_cons_succ]))
                    | (refine Run.runs ?_
                       (first
                       | (refine Run.callF 25 (by kernel_rfl) (fun hS => rg_heirs wi.heap.size b1 L x _ 3 (HT9.out.keep hS.2.2.2).one HXB.out (by omega)) rfl ?_)
                       | (refine Run.callG 25 (by kernel_rfl) ?_ (fun hS => rg_heirs wi.heap.size b1 L x _ 3 (HT9.out.keep hS.2.2.2).one HXB.out (by omega)) rfl ?_; (· simp only [List.getElem?_cons_zero, List.getElem?_cons_succ]))
                       | fail)
                       (first
                       | (rintro hS e w' ⟨vq, rfl, hvq, hb⟩; have HVQ := Lib.hid hvq; obtain ⟨aq, cq, rfl, _⟩ := hvq.form; refine ⟨_, rfl, ⟨kc hb hS.1, hS.2.1.keep hb, hS.2.2.1.keep hb, nest hS.2.2.2 hb⟩, ?_⟩; clear hvq)
                       | (rintro hS e w' ⟨rfl, rfl⟩; refine ⟨_, rfl, hS, ?_⟩)
                       | (rintro hS e w' ⟨rfl, hb⟩; refine ⟨_, rfl, ⟨kc hb hS.1, hS.2.1.keep hb, hS.2.2.1.keep hb, nest hS.2.2.2 hb⟩, ?_⟩)
                       | fail))
                    | fail); simp only [Act.put, List.setIfInBounds_toArray, List.set_cons_zero, List.set_cons_succ])
                  repeat ((first
                    | (refine Run.takes (v := ?_) ?_ ?_; rotate_left; (· intro w' hS'; go_simp; (try with_reducible rfl)))
                    | (refine Run.takesG (v := ?_) ?_ ?_ ?_; rotate_left; (· simp only [List.getElem?_cons_zero, List.getElem?_cons_succ]); (· intro w' hS'; go_simp; (try with_reducible rfl)))
                    | (refine Run.skipsT ?_ ?_; (· simp only [List.getElem?_cons_zero, List.getElem?_cons_succ]))
                    | (refine Run.skipsF ?_ ?_; (· simp only [List.getElem?_cons_zero, List.getElem?_cons_succ]))
                    | (refine Run.skipsU ?_ ?_; (· simp only [List.getElem?_cons_zero, List.getElem?_cons_succ]))
                    | (refine Run.passT ?_ ?_; (· simp only [List.getElem?_cons_zero, List.getElem?_cons_succ]))
                    | (refine Run.passF ?_ ?_; (· simp only [List.getElem?_cons_zero, List.getElem?_cons_succ]))
                    | (refine Run.passU ?_ ?_; (· simp only [List.getElem?_cons_zero, List.getElem?_cons_succ]))
                    | (refine Run.runs ?_
                       (first
                       | (refine Run.callF 25 (by kernel_rfl) (fun hS => rg_heirs wi.heap.size b2 L x _ 3 (HT9.out.keep hS.2.2.2).swap.one HXB.out (by omega)) rfl ?_)
                       | (refine Run.callG 25 (by kernel_rfl) ?_ (fun hS => rg_heirs wi.heap.size b2 L x _ 3 (HT9.out.keep hS.2.2.2).swap.one HXB.out (by omega)) rfl ?_; (· simp only [List.getElem?_cons_zero, List.getElem?_cons_succ]))
                       | fail)
                       (first
                       | (rintro hS e w' ⟨vq, rfl, hvq, hb⟩; have HVR := Lib.hid hvq; have HVQ2 := Lib.hid (HVQ.out.keep hb); obtain ⟨ar, cr, rfl, _⟩ := hvq.form; refine ⟨_, rfl, ⟨kc hb hS.1, hS.2.1.keep hb, hS.2.2.1.keep hb, nest hS.2.2.2 hb⟩, ?_⟩; clear hvq)
                       | (rintro hS e w' ⟨rfl, rfl⟩; refine ⟨_, rfl, hS, ?_⟩)
                       | fail))
                    | fail); simp only [Act.put, List.setIfInBounds_toArray, List.set_cons_zero, List.set_cons_succ])
                  repeat ((first
                    | (refine Run.takes (v := ?_) ?_ ?_; rotate_left; (· intro w' hS'; go_simp; (try with_reducible rfl)))
                    | (refine Run.takesG (v := ?_) ?_ ?_ ?_; rotate_left; (· simp only [List.getElem?_cons_zero, List.getElem?_cons_succ]); (· intro w' hS'; go_simp; (try with_reducible rfl)))
                    | (refine Run.skipsT ?_ ?_; (· simp only [List.getElem?_cons_zero, List.getElem?_cons_succ]))
                    | (refine Run.skipsF ?_ ?_; (· simp only [List.getElem?_cons_zero, List.getElem?_cons_succ]))
                    | (refine Run.skipsU ?_ ?_; (· simp only [List.getElem?_cons_zero, List.getElem?_cons_succ]))
                    | (refine Run.passT ?_ ?_; (· simp only [List.getElem?_cons_zero, List.getElem?_cons_succ]))
                    | (refine Run.passF ?_ ?_; (· simp only [List.getElem?_cons_zero, List.getElem?_cons_succ]))
                    | (refine Run.passU ?_ ?_; (· simp only [List.getElem?_cons_zero, List.getElem?_cons_succ]))
                    | (refine Run.runs ?_
                       (first
                       | (refine Run.callF 23 (by kernel_rfl) (fun hS => plainU_yes _ _ _ _ HVQ2.out HVR.out) rfl ?_)
                       | (refine Run.callG 23 (by kernel_rfl) ?_ (fun hS => plainU_yes _ _ _ _ HVQ2.out HVR.out) rfl ?_; (· simp only [List.getElem?_cons_zero, List.getElem?_cons_succ]))
                       | fail)
                       (first
                       | (rintro hS e w' ⟨rfl, rfl⟩; refine ⟨_, rfl, hS, ?_⟩)
                       | (rintro hS e w' ⟨rfl, hb⟩; refine ⟨_, rfl, ⟨kc hb hS.1, hS.2.1.keep hb, hS.2.2.1.keep hb, nest hS.2.2.2 hb⟩, ?_⟩)
                       | fail))
                    | fail); simp only [Act.put, List.setIfInBounds_toArray, List.set_cons_zero, List.set_cons_succ])
                  refine Run.ends (fun hS => ?_)
                  have HE9 := Lib.hid (nest HK4.out (nest HK9.out hS.2.2.2))
                  clear hS c1
                  go_wp2_with fail
                  exact ⟨⟨j + 1, by omega, by go_num, HE9.out⟩, by simp [intOf]; omega⟩
                · have hjl : j = L.length := by omega
                  subst hjl
                  have HV4 := Lib.hid (HV3.out.keep hb4)
                  have HE4 := Lib.hid (nest HK3.out hb4)
                  clear HAP HEP HT3 HV3 hb4
                  go_wp2_with fail
                  refine (rgawake_any wo).mono ?_
                  rintro e w14 ⟨rfl, hk⟩
                  have HT5 := Lib.hid (HT4.out.keep hk)
                  have HV5 := Lib.hid (HV4.out.keep hk)
                  have HE5 := Lib.hid (nest HE4.out hk)
                  clear hk HT4 HV4 HE4
                  go_wp2_with fail
                  refine (rg_points wi.heap.size b2 L _ HT5.out.swap.one).mono ?_
                  rintro e w15 ⟨vq, rfl, hvq, hk⟩
                  have HV6 := Lib.hid (HV5.out.keep hk)
                  have HE6 := Lib.hid (nest HE5.out hk)
                  have HQ6 := Lib.hid hvq
                  obtain ⟨aq, cq, rfl, _⟩ := hvq.form
                  clear hk HT5 HV5 HE5 hvq
                  go_wp2_with fail
                  refine (plainU_yes _ _ _ _ HV6.out HQ6.out).mono ?_
                  rintro e w16 ⟨rfl, hk⟩
                  have HE7 := Lib.hid (nest HE6.out hk)
                  clear hk HV6 HQ6 HE6
                  go_wp2_with fail
                  go_ret
                  exact ⟨rfl, HE7.out⟩
end Go.Proofs.Ytpgljdngbiicmaa.ringOrder
