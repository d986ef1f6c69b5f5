/- Walks of package shelf: a board opened to be written into. -/
import Derived.Test.YtihfkjodjaoocaaShOps
import Derived.BigRegion
import Derived.ChangeAlike
set_option maxRecDepth 4000
namespace Go.Proofs.Ytihfkjodjaoocaa
open Go.RowKit Mem
set_option linter.unusedSimpArgs false
set_option linter.unusedVariables false
attribute [local irreducible] Go.Calls

section
variable {w : World} {b : Nat} {R : Nat → Prop} {n : Int} {L : List Ent} {cs : List Value} {B : Nat → List EV}
theorem ShIs.board (h : ShIs w b R n L cs B) {p : Nat} (hp : p < 256) : w.cell? ⟨b, p, none⟩ = some (cs.getD p nm) := by
  have := h.len
  rw [h.blk.cell]
  unfold scs
  rw [List.getElem?_toArray, List.getElem?_append_left (by omega), List.getD_eq_getElem?_getD, List.getElem?_eq_getElem (by omega)]
  rfl
theorem ShIs.size (h : ShIs w b R n L cs B) : w.cell? ⟨b, 256, none⟩ = some (.int .i64 n) := by
  have := h.len
  rw [h.blk.cell]
  unfold scs
  rw [List.getElem?_toArray, List.getElem?_append_right (by omega), h.len]
  rfl
variable {w0 c : Nat} {fl : List Value}
theorem ChIs.ptr (h : ChIs w0 w b c R n L cs B fl) : w.cell? ⟨c, 0, none⟩ = some (.pointer (some ⟨b, 0, none⟩)) := by
  rw [h.cb.cell]
  rfl
theorem ChIs.flag (h : ChIs w0 w b c R n L cs B fl) {p : Nat} (hp : p < 256) : w.cell? ⟨c, 1 + p, none⟩ = some (fl.getD p fb) := by
  have := h.flen
  rw [h.cb.cell, Nat.add_comm, List.getElem?_toArray, List.getElem?_cons_succ, List.getD_eq_getElem?_getD, List.getElem?_eq_getElem (by omega)]
  rfl
end
/-- a map that is none of the shelf's was written -/
theorem ChIs.beside {w w' : World} {b : Nat} {R : Nat → Prop} {n : Int} {L : List Ent} {cs : List Value} {B : Nat → List EV} {w0 c g : Nat} {fl : List Value} {M : List EV} (h : ChIs w0 w b c R n L cs B fl) (hm : MapAt Try.prog 66 evc w g M) (o : Only g w w') (hnew : ∀ j, j < 256 → cs.getD j nm ≠ .map (some g)) : ChIs w0 w' b c R n L cs B fl := by
  have t : Turned (fun j => j = g) w w' := Turned.of_only o rfl
  refine ⟨⟨h.sh.len, h.sh.blk.turned t (fun e => hm.ne_blk h.sh.blk e.symm), fun i hi => (h.sh.bd i hi).turned t (fun g' hg' e => hnew i hi (by rw [hg', e])), h.sh.inR, h.sh.inj, fun i q hi hq => ⟨(h.sh.ev i q hi hq).1.turned t (fun hl j hj e => Rd.ne_map (h.sh.ev i q hi hq).1.2.1 hl hm (by rw [hj, e])), (h.sh.ev i q hi hq).2⟩, h.sh.uniq, h.sh.mem⟩, h.cb.turned t (fun e => hm.ne_blk h.cb e.symm), h.flen, h.fl, h.hb, h.hc, h.hR⟩
theorem ShIs.slices {w : World} {b : Nat} {R : Nat → Prop} {n : Int} {L : List Ent} {cs : List Value} {B : Nat → List EV} (h : ShIs w b R n L cs B) {i : Nat} (hi : i < 256) : ∀ p ∈ B i, ∃ a n c, p.2 = .slice a n c := fun p hp => by
  obtain ⟨a, c, e, _⟩ := (h.ev i p hi hp).1.2.1.form
  exact ⟨a, _, c, e⟩
set_option maxHeartbeats 4000000 in
set_option maxRecDepth 100000 in
theorem shopen_any (w0 b c : Nat) (R : Nat → Prop) (n : Int) (L : List Ent) (cs : List Value) (B : Nat → List EV) (fl : List Value) (v i : Int) (w : World) (h : ChIs w0 w b c R n L cs B fl) (hn : L.length ≤ 1000000) :
    Calls Try.prog 51 #[.pointer (some ⟨c, 0, none⟩), kv v i] w fun e w' => ∃ g cs' B' fl', e = .returned (.map (some g)) ∧ ChIs w0 w' b c R n L cs' B' fl' ∧ cs'.getD (plc v i) nm = .map (some g) ∧ w0 ≤ g ∧ Turned (fun j => j = b ∨ j = c) w w' := by
  have HP := Lib.hid (shplace_any v i)
  obtain ⟨p, hp⟩ : ∃ p, p = plc v i := ⟨_, rfl⟩
  have hp1 : p < 256 := by rw [hp]; exact plc_lt v i
  rw [← hp] at HP ⊢
  have HK := Lib.hid hp1
  have HN := Lib.hid hn
  have hpi : (p : Int) < 256 := by omega
  have hpn : ¬ ((p : Int) < 0) := by omega
  clear hp hn hp1
  have HH : Hid (ChIs w0 (w.alloc (.cells #[.int .u32 v, .int .u64 i] 66)) b c R n L cs B fl) := Lib.hid (h.keep (more (Below.refl _ _) _))
  have HB : Hid (Below w.heap.size w (w.alloc (.cells #[.int .u32 v, .int .u64 i] 66))) := Lib.hid (more (Below.refl _ _) _)
  have HBK : Hid (Blk (w.alloc (.cells #[.int .u32 v, .int .u64 i] 66)) w.heap.size 66 #[.int .u32 v, .int .u64 i]) := Lib.hid (Blk.new w _ _)
  clear h
  unfold kv at HP ⊢
  go_enter Try.func51, Try.ntmps51
  go_upto_region 1 with fail
  generalize w.alloc (.cells #[.int .u32 v, .int .u64 i] 66) = w1 at *
  obtain ⟨g3, hg3⟩ : ∃ g, g = w.heap.size := ⟨_, rfl⟩
  rw [← hg3] at HBK ⊢
  clear hg3
  go_upto_region 2 with (first | (refine at_load 3 rfl ?_; refine wpList_load_row rfl 66 (.tmp 3) rfl g3 rfl 66 _ (0, 0) _ HBK.out Try.underlying66 rfl key_info ?_) | (go_at_call 48; refine (HP.out _).mono ?_; rintro e w2 ⟨rfl, hk2⟩))
  have HH2 := Lib.hid (HH.out.keep hk2)
  have HB2 := Lib.hid (nest HB.out hk2)
  clear hk2 HH HB HBK HP
  have c0 := HH2.out.ptr
  have c1 := HH2.out.flag HK.out
  have c2 := HH2.out.sh.board HK.out
  rcases HH2.out.fl p HK.out with hf | ⟨hf, g, hg, hwg⟩
  case inr =>
    rw [hf] at c1
    rw [hg] at c2
    go_wp2_with fail
    go_ret
    exact ⟨g, cs, B, fl, rfl, HH2.out, hg, hwg, Turned.of_below HB2.out⟩
  rw [hf] at c1
  obtain ⟨bv, hbv⟩ : ∃ bv, bv = cs.getD p nm := ⟨_, rfl⟩
  rw [← hbv] at c2
  have HIS := Lib.hid (HH2.out.sh.bd p HK.out)
  rw [← hbv] at HIS
  have HBV := Lib.hid hbv
  have HF := Lib.hid hf
  clear hbv hf
  have hmk := run_makeMap_hint (P := Try.prog) (t := 71) Try.underlying71
  have hlen := HIS.out.len (t := 71) Try.underlying71 3
  go_upto_region 4 with fail
  have hm0 : MapAt Try.prog 66 evc (w2.alloc (.map #[] 0)) w2.heap.size [] := MapAt.made w2
  have hk3 : Below w2.heap.size w2 (w2.alloc (.map #[] 0)) := more (Below.refl _ _) _
  have HH3 := Lib.hid (HH2.out.keep hk3)
  have HB3 := Lib.hid (nest HB2.out hk3)
  have HIS3 := Lib.hid (HIS.out.keep hk3)
  have HM0 := Lib.hid hm0
  have HNEW : Hid (∀ j, j < 256 → cs.getD j nm ≠ .map (some w2.heap.size)) := Lib.hid (fun j hj e => by
    rcases HH2.out.sh.bd j hj with ⟨e', _⟩ | ⟨g', e', hm⟩
    · rw [e] at e'; cases e'
    · rw [e] at e'; cases e'; exact Nat.lt_irrefl _ hm.lt)
  have HWG : Hid (w0 ≤ w2.heap.size) := Lib.hid (by have := HH2.out.hc; have := HH2.out.cb.lt; omega)
  have HW2 : Hid (w2.heap.size < (w2.alloc (.map #[] 0)).heap.size) := Lib.hid (by rw [size_alloc]; omega)
  have HK3 := Lib.hid hk3
  have HWS : Hid (w.heap.size ≤ w2.heap.size) := Lib.hid HB2.out.size
  clear hm0 hk3 hlen hmk c0 c1 c2 HH2 HB2
  generalize w2.alloc (.map #[] 0) = w3 at *
  obtain ⟨g, hg⟩ : ∃ g, g = w2.heap.size := ⟨_, rfl⟩
  rw [← hg] at HM0 HNEW HWG HW2 ⊢
  have HG := Lib.hid hg
  clear hg
  have c0 := HH3.out.ptr
  have c2 := HH3.out.sh.board HK.out
  rw [← HBV.out] at c2
  have HCP : Hid (Calls Try.prog 72 #[.map (some g), bv] w3 fun e w' => e = .returned (.tuple #[]) ∧ Only g w3 w' ∧ ∃ M', MapAt Try.prog 66 evc w' g M' ∧ ∀ q, q ∈ M' ↔ q ∈ B p) :=
    Lib.hid (mcopy_any g bv (B p) w3 HM0.out HIS3.out (fun e => HNEW.out p HK.out (by rw [← HBV.out]; exact e)) (fun q hq => (HH3.out.sh.ev p q HK.out hq).1.1) (HH3.out.sh.slices HK.out))
  go_upto_region 5 with (go_at_call 72; refine HCP.out.mono ?_; rintro e w4 ⟨rfl, ho4, M4, hm4, hmem4⟩)
  have hbc : b ≠ c := by have := HH3.out.hb; have := HH3.out.hc; omega
  have HGB : Hid (g ≠ b) := Lib.hid (HM0.out.ne_blk HH3.out.sh.blk)
  have HGC : Hid (g ≠ c) := Lib.hid (HM0.out.ne_blk HH3.out.cb)
  have HO4 := Lib.hid ho4
  have HM4 := Lib.hid hm4
  have HMEM4 := Lib.hid hmem4
  clear ho4 hm4 hmem4 c0 c2 HCP
  have HH4 := Lib.hid (HH3.out.beside HM0.out HO4.out HNEW.out)
  have HOP := Lib.hid (HH4.out.opened HK.out HM4.out HMEM4.out HWG.out HNEW.out)
  have c0 := HH4.out.ptr
  have c1 := HH4.out.flag HK.out
  rw [HF.out] at c1
  have c2 := HH4.out.sh.board HK.out
  rw [← HBV.out] at c2
  have f1 := HH4.out.cb.frozen (1 + p)
  have f2 := HH4.out.sh.blk.frozen p
  have hcb : c ≠ b := fun e => hbc e.symm
  go_region
  have ht4 : Turned (fun j => j = b ∨ j = c) w w4 := Turned.of_below (HB3.out.trans (Only.below HO4.out (by have := HG.out; have := HWS.out; omega) HB3.out.size))
  have ht5 : Turned (fun j => j = b ∨ j = c) w (((w4.setCell ⟨b, p, none⟩ (.map (some g))).setCell ⟨c, 1 + p, none⟩ (.bool true)).drew) :=
    ((ht4.trans (Turned.of_only (Only.set _ _ _) (S := fun j => j = b ∨ j = c) (.inl rfl)) (fun _ _ h => h)).trans (Turned.of_only (Only.set _ _ _) (S := fun j => j = b ∨ j = c) (.inr rfl)) (fun _ _ h => h)).drew
  have HT5 := Lib.hid ht5
  have hop := HOP.out
  rw [Nat.add_comm p 1] at hop
  have HO5 := Lib.hid (hop.keep (Below.refl _ _).drew)
  clear ht4 ht5 hop HOP c0 c1 c2 f1 f2 HH4 HM4 HO4
  generalize ((w4.setCell ⟨b, p, none⟩ (.map (some g))).setCell ⟨c, 1 + p, none⟩ (.bool true)).drew = w5 at *
  have c0 := HO5.out.ptr
  have c2 := HO5.out.sh.board HK.out
  have hcg : (cs.set p (.map (some g))).getD p nm = .map (some g) := by
    have := HO5.out.sh.len
    rw [List.length_set] at this
    have := HK.out
    rw [List.getD_eq_getElem?_getD, List.getElem?_set_self (by omega)]
    rfl
  rw [hcg] at c2
  have HCG := Lib.hid hcg
  clear hcg
  go_wp2_with fail
  go_ret
  exact ⟨g, _, _, _, rfl, HO5.out, HCG.out, HWG.out, HT5.out⟩
end Go.Proofs.Ytihfkjodjaoocaa
