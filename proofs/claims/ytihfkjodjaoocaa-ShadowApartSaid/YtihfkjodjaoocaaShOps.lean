/- Walks of package shelf, the small ones: copies of entries, keys, places, steps; maps.Copy at boards. -/
import Derived.Test.YtihfkjodjaoocaaShBd
import Derived.Test.YtihfkjodjaoocaaWalk
import Derived.Test.YtihfkjodjaoocaaShCut
import Derived.Lib.SliceRun
import Derived.Deep.MidRow
set_option maxRecDepth 4000
namespace Go.Proofs.Ytihfkjodjaoocaa
open Go.RowKit Mem
set_option linter.unusedSimpArgs false
set_option linter.unusedVariables false
attribute [local irreducible] Go.Calls

theorem clone32_any (v : Value) (l : List Int) (w : World) (h : Rd (intE .u32) w v l) (hl : l.length ≤ 35184372087808) :
    Calls Try.prog 71 #[v] w fun e w' => ∃ v, e = .returned v ∧ Row (intE .u32) 22 w.heap.size w' v l ∧ Below w.heap.size w w' := by
  obtain ⟨a, c, rfl, h1, h2⟩ := h.form
  rcases a with _ | a
  · have hl0 : l = [] := by
      obtain ⟨a', c', hv, _, _, h3⟩ := h
      rcases Nat.eq_zero_or_pos l.length with h0 | h0
      · exact List.eq_nil_of_length_eq_zero h0
      · obtain ⟨g, off, ha, _⟩ := h3 h0
        rw [ha] at hv
        cases hv
    subst hl0
    have heq := Go.Lib.run_eql_slice_nil w 24 22 none 0 c 0 0 Try.underlying24
    go_enter Try.func71, Try.ntmps71
    go_wp2_with fail
    go_ret
    exact ⟨_, rfl, Row.nil, Below.refl _ _⟩
  · have heq := Go.Lib.run_eql_slice_nil w 24 22 (some a) l.length c 0 0 Try.underlying24
    have hrow : Row (intE .u32) 22 w.heap.size (w.alloc (.cells #[] 22)) (.slice (some ⟨w.heap.size, 0, none⟩) 0 0) [] := Row.lit _ _ #[] [] 0 _ rfl rfl rfl (Nat.le_refl _) (Nat.zero_le _)
    have hk : Below w.heap.size w (w.alloc (.cells #[] 22)) := more (Below.refl _ _) _
    have hr := h.keep hk
    have HK := Lib.hid hk
    clear hk h
    go_enter Try.func71, Try.ntmps71
    go_wp2_with (at_builtin; go_must (refine wpList_append (E := intE .u32) (B := w.heap.size) (l := []) (m := l) (bytes := 4) u32Elem9 Nat.zero_lt_one rfl (.tmp 5) (.tmp 6) rfl rfl hrow rfl hr (by simp [maxLen]; omega) (by simp; omega) HK.out.size ?_); intro v9 z hr9 hk9 hg9 _)
    rw [List.nil_append] at hr9
    have hz := HK.out.trans hk9
    go_ret
    exact ⟨_, rfl, hr9, hz⟩
set_option maxRecDepth 100000 in
set_option maxHeartbeats 2000000 in
theorem shown_any (y : Ent) (x : Value) (w : World) (h : Rd (intE .u32) w x y.2.1.2.2) (hl : y.2.1.2.2.length ≤ 35184372087808) :
    Calls Try.prog 50 #[.agg (ecl y x).toArray] w (CopyEPost y w) := by
  obtain ⟨a, ⟨i, v, l⟩, g⟩ := y
  have h : Rd (intE .u32) w x l := h
  have hl : l.length ≤ 35184372087808 := hl
  obtain ⟨ax, cx, rfl, _, _⟩ := h.form
  show Calls Try.prog 50 #[.agg #[.int .u32 a, .int .u64 i, .int .u64 v, .slice ax l.length cx, .bool g]] w _
  have hk0 : Below w.heap.size w ((w.alloc (.cells #[.int .u32 a, .int .u64 i, .int .u64 v, .slice ax l.length cx, .bool g] 28)).alloc (.cells #[.int .u32 0, .int .u64 0, .int .u64 0, .slice none 0 0, .bool false] 28)) := more (more (Below.refl _ _) _) _
  have HB1 : Hid (Blk ((w.alloc (.cells #[.int .u32 a, .int .u64 i, .int .u64 v, .slice ax l.length cx, .bool g] 28)).alloc (.cells #[.int .u32 0, .int .u64 0, .int .u64 0, .slice none 0 0, .bool false] 28)) w.heap.size 28 #[.int .u32 a, .int .u64 i, .int .u64 v, .slice ax l.length cx, .bool g]) := Lib.hid ((Blk.new w _ _).keep (more (Below.refl _ _) _))
  have HB2 : Hid (Blk ((w.alloc (.cells #[.int .u32 a, .int .u64 i, .int .u64 v, .slice ax l.length cx, .bool g] 28)).alloc (.cells #[.int .u32 0, .int .u64 0, .int .u64 0, .slice none 0 0, .bool false] 28)) (w.heap.size + 1) 28 #[.int .u32 0, .int .u64 0, .int .u64 0, .slice none 0 0, .bool false]) := Lib.hid (Blk.newAt _ _ _ (size_alloc _ _).symm)
  have HX := Lib.hid (h.keep hk0)
  have HK := Lib.hid hk0
  have HL := Lib.hid hl
  clear h hk0 hl
  go_enter Try.func50, Try.ntmps50
  go_upto_region 1 with fail
  generalize (w.alloc (.cells #[.int .u32 a, .int .u64 i, .int .u64 v, .slice ax l.length cx, .bool g] 28)).alloc (.cells #[.int .u32 0, .int .u64 0, .int .u64 0, .slice none 0 0, .bool false] 28) = w1 at *
  obtain ⟨g1, hg1⟩ : ∃ g, g = w.heap.size := ⟨_, rfl⟩
  have HG1 := Lib.hid hg1
  rw [← hg1] at HB1 HB2 ⊢
  clear hg1
  have HS1 := Lib.hid HB2.out.lt
  have c3 : w1.cell? ⟨g1, 3, none⟩ = some (.slice ax l.length cx) := HB1.out.cell 3
  go_upto_region 2 with (go_at_call 71; refine (clone32_any _ l _ HX.out HL.out).mono ?_; rintro e w2 ⟨xq, rfl, hr2, hk2⟩; have HR2 := Lib.hid hr2; have ec := (HB1.out.keep hk2).cell 3; have ec : w2.cell? ⟨g1, 3, none⟩ = some (.slice ax l.length cx) := ec; have ef := (HB1.out.keep hk2).frozen 3; obtain ⟨aq, cq, rfl, _, _⟩ := hr2.rd.form; clear hr2)
  have hos := Only.set (b := g1) w2 3 (.slice aq l.length cq)
  have HB13 : Hid (Blk (w2.setCell ⟨g1, 3, none⟩ (.slice aq l.length cq)) g1 28 #[.int .u32 a, .int .u64 i, .int .u64 v, .slice aq l.length cq, .bool g]) := Lib.hid ((HB1.out.keep hk2).set_ 3 _)
  have HB23 := Lib.hid ((HB2.out.keep hk2).only hos (by omega))
  have HR3 := Lib.hid (HR2.out.only hos (fun e => by have := (HR2.out.block g1 e).1; have := HS1.out; omega))
  have HK3 := Lib.hid ((nest HK.out hk2).trans (hos.below (by have := HG1.out; omega) (nest HK.out hk2).size))
  have HW1 : Hid (w.heap.size ≤ w1.heap.size) := Lib.hid HK.out.size
  clear hos hk2 ec ef c3 HB1 HB2 HR2 HK HX
  generalize w2.setCell ⟨g1, 3, none⟩ (.slice aq l.length cq) = w3 at *
  go_upto_if 99 with (first | (refine at_load 1 rfl ?_; refine wpList_load_row rfl 28 (.tmp 1) rfl g1 rfl 28 _ (0, 0) _ HB13.out Try.underlying28 rfl ent_info' ?_) | (refine at_store 2 rfl ?_; refine wpList_store_row rfl 28 (.tmp 2) (.tmp 9) rfl (g1 + 1) #[.int .u32 a, .int .u64 i, .int .u64 v, .slice aq l.length cq, .bool g] rfl rfl 28 _ HB23.out ent_info' rfl (by simp [Value.oneCell']) ?_))
  refine bodyPost_ret (results_blk (l := [.int .u32 a, .int .u64 i, .int .u64 v, .slice aq l.length cq, .bool g]) rfl Try.underlying28 ent_info' rfl rfl (Blk.rowS HB23.out _)) rfl ?_
  exact ⟨_, rfl, (HR3.out.only (Only.rowS w3 _) (HR3.out.ne_blk HB23.out (by decide))).mono HW1.out, HK3.out.trans ((Only.rowS w3 _).below (by have := HG1.out; omega) HK3.out.size)⟩
/-! ### keys, places -/
set_option maxHeartbeats 1000000 in
theorem shkey_any (y : Ent) (x : Value) (h1 : x.oneCell' = true) (w : World) :
    Calls Try.prog 47 #[.agg (ecl y x).toArray] w fun e w' => e = .returned (kv y.1 y.2.1.1) ∧ Below w.heap.size w w' := by
  obtain ⟨a, ⟨i, v, l⟩, g⟩ := y
  show Calls Try.prog 47 #[.agg #[.int .u32 a, .int .u64 i, .int .u64 v, x, .bool g]] w _
  go_enter Try.func47, Try.ntmps47
  go_wp2_with fail
  refine bodyPost_ret (results_blk (l := [.int .u32 a, .int .u64 i]) rfl Try.underlying66 key_info rfl rfl (Blk.newAt _ 66 _ (size_alloc _ _).symm)) rfl ?_
  exact ⟨rfl, more (more (Below.refl _ _) _) _⟩
theorem wrapu64 (n : Int) : IntKind.u64.wrap n = n % 18446744073709551616 := by simp [IntKind.wrap, IntKind.bits, IntKind.signed]
theorem plc_is (v i : Int) : wrap64 (IntKind.u64.wrap (IntKind.u64.wrap (IntKind.u64.wrap (i * 13787848793156543929) + IntKind.u64.wrap v) * 11400714819323198485) / 72057594037927936) = (plc v i : Nat) := by
  simp only [wrapu64]
  have e : (i * 13787848793156543929 % 18446744073709551616 + v % 18446744073709551616) % 18446744073709551616 = (i * 13787848793156543929 % 18446744073709551616 + v) % 18446744073709551616 := by omega
  rw [e]
  unfold plc
  generalize (i * 13787848793156543929 % 18446744073709551616 + v) % 18446744073709551616 * 11400714819323198485 = z
  unfold wrap64
  omega
theorem shplace_any (v i : Int) (w : World) :
    Calls Try.prog 48 #[kv v i] w fun e w' => e = .returned (.int .i64 (plc v i : Nat)) ∧ Below w.heap.size w w' := by
  unfold kv
  go_enter Try.func48, Try.ntmps48
  go_wp2_with fail
  go_ret
  exact ⟨by rw [plc_is]; rfl, more (Below.refl _ _) _⟩
theorem shsteps_any (f t v : Int) (w : World) :
    Calls Try.prog 57 #[.agg #[.int .u32 f, .int .u32 t], .int .u32 v] w fun e w' => e = .returned (.int .u32 (stepE f v)) ∧ Below w.heap.size w w' := by
  have he : Cir.far ((f + 1) % 4294967296) v = stepE f v := by unfold Cir.far stepE; omega
  go_enter Try.func57, Try.ntmps57
  go_wp2_with (go_at_call 78; refine (far_any _ _ _).mono ?_; rintro e w' ⟨rfl, rfl⟩)
  go_ret
  exact ⟨rfl, more (Below.refl _ _) _⟩
/-! ### maps.Copy -/
theorem evc_of (p : EV) (hp : okE p.1) : ∃ l, keyOf Try.prog 66 (evc p).1 = some l := key_of hp.1.1 hp.1.2.1
set_option maxHeartbeats 4000000 in
set_option maxRecDepth 100000 in
theorem mcopy_any (d : Nat) (v : Value) (M : List EV) (w : World) (hd : MapAt Try.prog 66 evc w d []) (hv : MapIs Try.prog 66 evc w v M) (hne : v ≠ .map (some d)) (hok : ∀ p ∈ M, okE p.1) (hvo : ∀ p ∈ M, ∃ a n c, p.2 = .slice a n c) :
    Calls Try.prog 72 #[.map (some d), v] w fun e w' => e = .returned (.tuple #[]) ∧ Only d w w' ∧ ∃ M', MapAt Try.prog 66 evc w' d M' ∧ ∀ q, q ∈ M' ↔ q ∈ M := by
  have HD := Lib.hid hd
  have HV := Lib.hid hv
  have HOK := Lib.hid hok
  have HVO := Lib.hid hvo
  have HNE := Lib.hid hne
  clear hd hv hok hvo hne
  go_enter Try.func72, Try.ntmps72
  go_wp2_with (at_range; refine wpList_range_map rfl rfl Try.underlying71 rfl HV.out ?_; intro w0 hrg0 hg0 hs0)
  go_frame
  have HRG0 := Lib.hid hrg0
  have HG0 := Lib.hid hg0
  clear hrg0 hg0 hs0
  go_loopw [8] (fun _ wr => ∃ S M', Rng Try.prog 66 evc wr v w.heap.size M S ∧ MapAt Try.prog 66 evc wr d M' ∧ (∀ q, q ∈ M' ∨ q ∈ S ↔ q ∈ M) ∧ Only d w wr) (fun _ wr => rngLeft wr w.heap.size)
  case atStart => exact ⟨M, [], HRG0.out, HD.out.keep HG0.out, by simp, Only.of_below HG0.out⟩
  case round =>
    obtain ⟨S, M', hrg, hm, hmem, ho⟩ := hrel
    have HRG := Lib.hid hrg
    have HM := Lib.hid hm
    have HMEM := Lib.hid hmem
    have HO := Lib.hid ho
    clear hrg hm hmem ho HRG0 HG0 HD
    go_wp2_with (first | (at_next; refine wpList_next_map rfl rfl rfl HRG.out ?_ ?_) | go_in)
    · intro hS
      have HS := Lib.hid hS
      clear hS
      go_wp2_with fail
      go_end0
      exact ⟨rfl, HO.out, M', HM.out, fun q => by have := HMEM.out q; rw [HS.out] at this; simpa using this⟩
    · intro kk vv w1 hn
      obtain ⟨i, x, hx, hf, hrg1, ho1, hs1, hen⟩ := hn
      have hxS : x ∈ S := List.mem_of_getElem? hx
      have hxM : x ∈ M := (HMEM.out x).1 (.inr hxS)
      have HOKX := Lib.hid (HOK.out x hxM)
      have hxv := HVO.out x hxM
      have HX := Lib.hid hx
      have HRG1 := Lib.hid hrg1
      have HO1 := Lib.hid ho1
      have HS1 := Lib.hid hs1
      have HXM := Lib.hid hxM
      clear hx hrg1 ho1 hs1 hxS hxM
      obtain ⟨⟨ya, ⟨yi, yv, yl⟩, yg⟩, xv⟩ := x
      obtain ⟨kl, hkl⟩ := evc_of _ HOKX.out
      have HKL := Lib.hid hkl
      clear hkl
      obtain ⟨ax, nx, cx, hxv⟩ := hxv
      have hxv : xv = .slice ax nx cx := hxv
      subst hxv
      simp only [evc, kv, ecl, Prod.mk.injEq] at hf
      obtain ⟨rfl, rfl⟩ := hf
      have hdr : d ≠ w.heap.size := HRG.out.ne_map HM.out
      have HM1 := Lib.hid (HM.out.only HO1.out hdr)
      have HDR := Lib.hid hdr
      clear hdr
      go_wp2_with (first | (at_mapUpdate; refine wpList_store_map rfl rfl keyK Try.underlying71 rfl (HM1.out.keep (more (more (Below.refl _ _) _) _)) ((ya, (yi, yv, yl), yg), .slice ax nx cx) rfl rfl HKL.out ?_; intro w2 M2 hm2 hmem2 ho2; go_frame) | go_in)
      have HRG2 := Lib.hid ((HRG1.out.keep (more (more (Below.refl _ _) _) _)).turned (Turned.of_only (S := fun j => j = d) ho2 rfl) (fun e => HDR.out e.symm) (fun g hg e => HNE.out (by rw [hg, e])))
      refine ⟨⟨S.eraseIdx i, M2, HRG2.out, hm2, fun q => ?_, ?_⟩, ?_⟩
      · constructor
        · rintro (hq | hq)
          · rcases (hmem2 q).1 hq with rfl | ⟨hq, _⟩
            · exact HXM.out
            · exact (HMEM.out q).1 (.inl hq)
          · exact (HMEM.out q).1 (.inr ((List.eraseIdx_sublist _ _).subset hq))
        · intro hq
          by_cases e : q = ((ya, (yi, yv, yl), yg), .slice ax nx cx)
          · exact .inl ((hmem2 q).2 (.inl e))
          · rcases (HMEM.out q).2 hq with h | h
            · exact .inl ((hmem2 q).2 (.inr ⟨h, fun e2 => e (HV.out.one hq HXM.out e2)⟩))
            · exact .inr ((mem_erase_or HX.out h).resolve_left e)
      · exact ((World.grownBy.andThen HO.out HO1.out (fun j hj => .inl (by cases hj; exact Nat.le_refl _))).trans (Only.of_below (more (more (Below.refl _ _) _) _))).trans ho2
      · rw [HRG2.out.left, HRG.out.left, List.length_eraseIdx]
        have := (List.getElem?_eq_some_iff.1 HX.out).1
        simp [this]
        omega
end Go.Proofs.Ytihfkjodjaoocaa
