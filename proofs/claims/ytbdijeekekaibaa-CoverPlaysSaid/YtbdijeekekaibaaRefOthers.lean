/- Walk of petasosref01.Others. -/
import Derived.Test.YtbdijeekekaibaaRefSpans
namespace Go.Proofs.Ytbdijeekekaibaa
open Go.RowKit Cir
set_option linter.unusedSimpArgs false
set_option linter.unusedVariables false
namespace Cir
def maxP (a b : Int) : Int := if a < b then b else a
def stepO (s : List (Int × Int) × Int) (x : Int × Int) : List (Int × Int) × Int := (if s.2 < x.1 then s.1 ++ [(s.2, x.1)] else s.1, maxP s.2 x.2)
def runO (l : List (Int × Int)) : List (Int × Int) × Int := l.foldl stepO ([], 0)
def othP (n : Int) (l : List (Int × Int)) : List (Int × Int) := if (runO l).2 < n then (runO l).1 ++ [((runO l).2, n)] else (runO l).1
theorem runO_take (l : List (Int × Int)) (k : Nat) (h : k < l.length) : runO (l.take (k + 1)) = stepO (runO (l.take k)) (l.getD k (0, 0)) := by
  unfold runO
  rw [List.take_succ_eq_append_getElem h, List.foldl_append]
  simp [h]
theorem runO_bd (l : List (Int × Int)) (hq : ∀ x ∈ l, 0 ≤ x.2 ∧ x.2 ≤ 4294967296) : (runO l).1.length ≤ l.length ∧ 0 ≤ (runO l).2 ∧ (runO l).2 ≤ 4294967296 := by
  have : ∀ (l : List (Int × Int)) (s : List (Int × Int) × Int), (∀ x ∈ l, 0 ≤ x.2 ∧ x.2 ≤ 4294967296) → 0 ≤ s.2 ∧ s.2 ≤ 4294967296 → (l.foldl stepO s).1.length ≤ s.1.length + l.length ∧ 0 ≤ (l.foldl stepO s).2 ∧ (l.foldl stepO s).2 ≤ 4294967296 := by
    intro l
    induction l with
    | nil => intro s _ hs; exact ⟨by simp, hs⟩
    | cons x l ih =>
      intro s hq hs
      have hx := hq x (List.mem_cons_self ..)
      have h1 := ih (stepO s x) (fun y hy => hq y (List.mem_cons_of_mem _ hy)) (by unfold stepO maxP; simp only []; split <;> omega)
      have h2 : (stepO s x).1.length ≤ s.1.length + 1 := by unfold stepO; simp only []; split <;> simp
      simp only [List.foldl_cons, List.length_cons]
      omega
  have h := this l ([], 0) hq (by simp)
  simpa [runO] using h
end Cir

set_option maxHeartbeats 4000000 in
theorem rothers_any (f t : Int) (bf : 0 ≤ f ∧ f ≤ 4294967295) (bt : 0 ≤ t ∧ t ≤ 4294967295) (B : Nat) (v : Value) (l : List (Int × Int)) (hl : l.length ≤ 100) (hq0 : ∀ x ∈ l, 0 ≤ x.1 ∧ x.1 ≤ 4294967296 ∧ 0 ≤ x.2 ∧ x.2 ≤ 4294967296)
    (w : World) (hp : PartsAt B w v l) :
    Calls Try.prog 31 #[.agg #[.int .u32 f, .int .u32 t], v] w fun e w' => ∃ v, e = .returned v ∧ PartsAt w.heap.size w' v (othP (beh f t) l) ∧ Below w.heap.size w w' := by
  obtain ⟨a1, g1, n1, rfl, ha1, hl1⟩ := PartsAt.loop hp
  have HA1 := Lib.hid ha1
  have HL1 := Lib.hid hl1
  have HQ := Lib.hid hq0
  have b3 := beh_bd f t
  clear hq0 ha1 hl1 hp
  go_enter Try.func31, Try.ntmps31
  go_wp2_with fail
  generalize hW : w.alloc (Obj.cells #[Value.int IntKind.u32 f, Value.int IntKind.u32 t] 24) = W
  have hb0 : Below w.heap.size w W := hW ▸ more (Below.refl _ _) _
  have hc0 : W.cell? ⟨w.heap.size, 0, none⟩ = some (.int .u32 f) := by rw [← hW]; simp
  have hc1 : W.cell? ⟨w.heap.size, 1, none⟩ = some (.int .u32 t) := by rw [← hW]; simp
  have hwl : w.heap.size < W.heap.size := by rw [← hW]; simp
  clear hW
  go_loopw [5, 6, 7] (fun o s i wr => ∃ k : Nat, k ≤ l.length ∧ i = .int .i64 k ∧ PartsAt W.heap.size wr o (runO (l.take k)).1 ∧ s = .int .u64 (runO (l.take k)).2 ∧ Below W.heap.size W wr) (fun _ _ i _ => l.length - (intOf i).toNat)
  case atStart => exact ⟨0, Nat.zero_le _, rfl, PartsAt.nil _ _, rfl, Below.refl _ _⟩
  case round =>
    obtain ⟨k, hkl, rfl, hpo, rfl, hb⟩ := hrel
    have hrb := runO_bd (l.take k) (fun x hx => (HQ.out x (List.mem_of_mem_take hx)).2.2)
    have htl : (l.take k).length ≤ k := List.length_take_le _ _
    by_cases hlt : k < l.length
    · obtain ⟨he, hgl⟩ := HA1.out (by omega)
      subst he
      have hbw := nest hb0 hb
      have c1 := (hbw.cell (p := ⟨g1, k * 2, none⟩) hgl).trans (HL1.out k hlt).1
      have c2 := (hbw.cell (p := ⟨g1, k * 2 + 1, none⟩) hgl).trans (HL1.out k hlt).2
      have hqq := HQ.out (l.getD k (0, 0)) (by simp [List.getD, hlt])
      have HTK := Lib.hid (runO_take l k hlt)
      generalize l.getD k (0, 0) = s at *
      obtain ⟨p, q⟩ := s
      simp only [] at c1 c2 hqq
      generalize hro : runO (l.take k) = r at *
      clear hro
      obtain ⟨ol, at0⟩ := r
      simp only [] at hpo hrb
      have hm : (if at0 < q then q else at0) = maxP at0 q := rfl
      have hmb : 0 ≤ maxP at0 q ∧ maxP at0 q ≤ 4294967296 := by unfold maxP; split <;> omega
      by_cases hgt : at0 < p
      · have es : stepO (ol, at0) (p, q) = (ol ++ [(at0, p)], maxP at0 q) := by unfold stepO; rw [if_pos hgt]
        have ES := Lib.hid es
        clear es
        generalize maxP at0 q = m at *
        go_wp2_with (at_builtin; refine append_part wr rfl (.tmp 21) (.tmp 29) rfl W.heap.size _ ol at0 p wr.heap.size rfl hpo (by omega) hb.size rfl rfl ?_; intro v9 y hp9 hgg9 hk9; clear hgg9
                     have hky := nest hbw (nest (Below.refl _ _) (Below.refl _ _))
                     have hky2 := hb.trans hk9
                     have d2 := ((nest hb0 hky2).cell (p := ⟨g1, k * 2 + 1, none⟩) hgl).trans ((hbw.cell (p := ⟨g1, k * 2 + 1, none⟩) hgl).symm.trans c2)
                     clear hky)
        go_roundw
        case rel => exact ⟨k + 1, by omega, by go_num, by rw [HTK.out, ES.out]; exact hp9, by rw [HTK.out, ES.out], hky2⟩
        case measure => simp [intOf]; omega
      · have es : stepO (ol, at0) (p, q) = (ol, maxP at0 q) := by unfold stepO; rw [if_neg hgt]
        have ES := Lib.hid es
        clear es
        generalize maxP at0 q = m at *
        go_wp2_with fail
        go_roundw
        case rel => exact ⟨k + 1, by omega, by go_num, by rw [HTK.out, ES.out]; exact hpo, by rw [HTK.out, ES.out], hb⟩
        case measure => simp [intOf]; omega
    · have hkn : k = l.length := by omega
      subst hkn
      rw [List.take_length] at *
      have hbw := nest hb0 hb
      have d0 := (hb.cell (p := ⟨w.heap.size, 0, none⟩) hwl).trans hc0
      have d1 := (hb.cell (p := ⟨w.heap.size, 1, none⟩) hwl).trans hc1
      generalize hro : runO l = r at *
      obtain ⟨ol, at0⟩ := r
      simp only [] at hpo hrb
      by_cases hgt : at0 < beh f t
      · have eo : othP (beh f t) l = ol ++ [(at0, beh f t)] := by unfold othP; rw [hro]; simp [hgt]
        have EO := Lib.hid eo
        clear eo hro HA1 HL1 HQ
        go_wp2_with (first
          | (go_at_call 19; have _h := d0; clear _h; refine (rsize_any f t bf bt _).mono ?_; rintro e w5 ⟨rfl, hk5⟩
             have f0 := kc hk5 d0
             have f1 := kc hk5 d1
             have hpo2 := hpo.below hk5
             clear d0 d1 hpo)
          | (go_at_call 19; refine (rsize_any f t bf bt _).mono ?_; rintro e w6 ⟨rfl, hk6⟩
             have hpo3 := hpo2.below hk6
             have hb3 := nest (nest hb hk5) hk6)
          | (at_builtin; refine append_part w6 rfl (.tmp 42) (.tmp 47) rfl W.heap.size _ ol at0 (beh f t) w6.heap.size rfl hpo3 (by omega) hb3.size rfl rfl ?_; intro v9 y hp9 hgg9 hk9; clear hgg9))
        go_ret
        exact ⟨v9, rfl, by rw [EO.out]; exact hp9.mono hb0.size, nest hb0 (hb3.trans hk9)⟩
      · have eo : othP (beh f t) l = ol := by unfold othP; rw [hro]; simp [hgt]
        have EO := Lib.hid eo
        clear eo hro HA1 HL1 HQ
        go_wp2_with (go_at_call 19; refine (rsize_any f t bf bt _).mono ?_; rintro e w5 ⟨rfl, hk5⟩)
        go_ret
        exact ⟨_, rfl, by rw [EO.out]; exact (hpo.below hk5).mono hb0.size, nest hb0 (nest hb hk5)⟩
end Go.Proofs.Ytbdijeekekaibaa
