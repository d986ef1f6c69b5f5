/- Walks of package shelf: put. -/
import Derived.Test.YtihfkjodjaoocaaShOpen
import Derived.Test.YtihfkjodjaoocaaShoPlans
import Derived.Test.YtihfkjodjaoocaaRun2
set_option maxRecDepth 4000
namespace Go.Proofs.Ytihfkjodjaoocaa
open Go.RowKit Mem
set_option linter.unusedSimpArgs false
set_option linter.unusedVariables false
attribute [local irreducible] Go.Calls

theorem zeroEnt (w : World) : (zeroValue 28).run Try.prog w = .ok (.agg (ecl e0 (.slice none 0 0)).toArray) w := by kernel_rfl
theorem exec_look {P : Program} {w : World} {o : Oper} {a : Act} {m x : Operand} {t : TypeId} {u k r : Value} (hop : o.op = Op.lookup t m x true) (hm : a.eval m = u) (hx : a.eval x = k) (h : (Instr.lookup t u k true).run P w = .ok r w) : (execOp a.eval o).run P w = .ok (.value r) w := by
  simp [execOp, hop, hm, hx, h, Result.andThen]
theorem execOp_lookup {P : Program} {w : World} {o : Oper} {a : Act} {m x : Operand} {t : TypeId} {r : Value} (hop : o.op = Op.lookup t m x true) (h : (Instr.lookup t (a.eval m) (a.eval x) true).run P w = .ok r w) {K : Act → World → Prop} {Q : Exit → Act → World → Prop} (hK : K (a.put o.dst r) w) : o.wp P a w K Q := by
  unfold Oper.wp
  simp [execOp, hop, h, Result.andThen]
  exact hK
/-- what a look at a board tells -/
theorem look_board {w : World} {b : Nat} {R : Nat → Prop} {n : Int} {L : List Ent} {cs : List Value} {B : Nat → List EV} (h : ShIs w b R n L cs B) (v i : Int) (bv : 0 ≤ v ∧ v ≤ 4294967295) (bi : 0 ≤ i ∧ i ≤ 18446744073709551615) :
    ∃ (q : Ent) (xq : Value) (is : Bool), (∀ w' u, MapIs Try.prog 66 evc w' u (B (plc v i)) → (Instr.lookup 71 u (kv v i) true).run Try.prog w' = .ok (.tuple #[.agg (ecl q xq).toArray, .bool is]) w') ∧ (∃ a n c, xq = .slice a n c) ∧
      (is = true → (q, xq) ∈ B (plc v i) ∧ keyP q = (v, i)) ∧ (is = false → q = e0 ∧ xq = .slice none 0 0 ∧ ∀ z ∈ L, keyP z ≠ (v, i)) := by
  obtain ⟨kl, hkl⟩ := key_of bv bi
  by_cases hc : ∃ q ∈ B (plc v i), keyP q.1 = (v, i)
  · obtain ⟨⟨q, xq⟩, hq, hk⟩ := hc
    refine ⟨q, xq, true, fun w' u hm => hm.yes keyK Try.underlying71 (zeroEnt w') hq ?_ hkl, h.slices (plc_lt _ _) _ hq, fun _ => ⟨hq, hk⟩, fun e => (by cases e)⟩
    have hk : keyP q = (v, i) := hk
    simp only [evc]
    rw [kv_inj]
    exact hk
  · refine ⟨e0, .slice none 0 0, false, fun w' u hm => hm.no keyK Try.underlying71 (zeroEnt w') (fun q hq e => hc ⟨q, hq, ?_⟩) hkl, ⟨none, 0, 0, rfl⟩, fun e => (by cases e), fun _ => ⟨rfl, rfl, fun z hz hk => hc ?_⟩⟩
    · simp only [evc] at e
      rw [kv_inj] at e
      exact e
    · obtain ⟨x, hx⟩ := (h.mem z).1 hz
      refine ⟨(z, x), ?_, hk⟩
      have : plE z = plc v i := by
        have hk : (z.1, z.2.1.1) = (v, i) := hk
        cases hk
        rfl
      rw [← this]
      exact hx
theorem put_yes {L : List Ent} {y q : Ent} (hu : UniqK L) (hq : q ∈ L) (hk : keyP q = keyP y) :
    (newerV y.2.1.2.1 y.2.2 q.2.1.2.1 q.2.2 = true → (putL L y).2 = (true, 0) ∧ UniqK (putL L y).1 ∧ (putL L y).1.length = L.length ∧ ∀ x, x ∈ (putL L y).1 ↔ x = y ∨ (x ∈ L ∧ keyP x ≠ keyP y)) ∧
    (newerV y.2.1.2.1 y.2.2 q.2.1.2.1 q.2.2 = false → putL L y = (L, false, 0)) := by
  rcases putL_cases L y hu with ⟨z, hz, hkz, hn, h1, h2, h3, h4⟩ | ⟨z, hz, hkz, hn, h1⟩ | ⟨hno, _⟩ | ⟨hno, _⟩
  · have e : z = q := hu.inj hz hq (hkz.trans hk.symm)
    subst e
    exact ⟨fun _ => ⟨h1, h2, h3, h4⟩, fun h => by rw [h] at hn; cases hn⟩
  · have e : z = q := hu.inj hz hq (hkz.trans hk.symm)
    subst e
    exact ⟨fun h => (by rw [h] at hn; cases hn), fun _ => h1⟩
  · exact absurd hk (hno q hq)
  · exact absurd hk (hno q hq)
theorem put_no {L : List Ent} {y : Ent} (hu : UniqK L) (hk : ∀ z ∈ L, keyP z ≠ keyP y) :
    (10000 ≤ L.length → putL L y = (L, false, 5)) ∧
    (L.length < 10000 → (putL L y).2 = (true, 0) ∧ UniqK (putL L y).1 ∧ (putL L y).1.length = L.length + 1 ∧ ∀ x, x ∈ (putL L y).1 ↔ x = y ∨ (x ∈ L ∧ keyP x ≠ keyP y)) := by
  rcases putL_cases L y hu with ⟨z, hz, hkz, _⟩ | ⟨z, hz, hkz, _⟩ | ⟨_, h1, h2⟩ | ⟨_, h1, h2, h3⟩
  · exact absurd hkz (hk z hz)
  · exact absurd hkz (hk z hz)
  · exact ⟨fun _ => h2, fun h => by omega⟩
  · refine ⟨fun h => by omega, fun _ => ?_⟩
    rw [h2]
    refine ⟨rfl, h3, by simp, fun x => ?_⟩
    simp only [List.mem_append, List.mem_singleton]
    constructor
    · rintro (h | h)
      · exact .inr ⟨h, hk x h⟩
      · exact .inl h
    · rintro (h | h)
      · exact .inr h
      · exact .inl h.1
set_option maxHeartbeats 8000000 in
set_option maxRecDepth 100000 in
theorem shcput_any (w0 b c : Nat) (R : Nat → Prop) (L : List Ent) (cs : List Value) (B : Nat → List EV) (fl : List Value) (y : Ent) (x : Value) (w : World) (h : ChIs w0 w b c R L.length L cs B fl) (hx : Rd (intE .u32) w x y.2.1.2.2) (hy : okE y) (hn : L.length ≤ 10000) :
    Calls Try.prog 33 #[.pointer (some ⟨c, 0, none⟩), .agg (ecl y x).toArray] w fun e w' => e = .returned (.tuple #[.bool (putL L y).2.1, .int .i64 (putL L y).2.2]) ∧ (∃ cs' B' fl', ChIs w0 w' b c R (putL L y).1.length (putL L y).1 cs' B' fl') ∧ Turned (fun j => j = b ∨ w0 ≤ j) w w' := by
  obtain ⟨L2, rb, re, hRES⟩ : ∃ (L2 : List Ent) (rb : Bool) (re : Int), (L2, rb, re) = putL L y := ⟨_, _, _, rfl⟩
  rw [← hRES]
  have HRES := Lib.hid hRES
  have HCW : Hid (c < w.heap.size) := Lib.hid h.cb.lt
  have HUL := Lib.hid h.sh.uniq
  have HOK := Lib.hid hy
  have HN := Lib.hid hn
  obtain ⟨q, xq, is, hlook, ⟨aq, nq, cq, hxq⟩, hyes, hno⟩ := look_board h.sh y.1 y.2.1.1 hy.1.1 hy.1.2.1
  have HP := Lib.hid (shplace_any y.1 y.2.1.1)
  have HKEY := Lib.hid (fun a n c => shkey_any y (.slice a n c) rfl)
  obtain ⟨p, hp⟩ : ∃ p, p = plc y.1 y.2.1.1 := ⟨_, rfl⟩
  have hp1 : p < 256 := by rw [hp]; exact plc_lt _ _
  rw [← hp] at HP hlook hyes
  have HPP : Hid (p = plE y) := Lib.hid hp
  have HK := Lib.hid hp1
  have hpi : (p : Int) < 256 := by omega
  have hpn : ¬ ((p : Int) < 0) := by omega
  subst hxq
  have HLOOK := Lib.hid hlook
  have HYES := Lib.hid hyes
  have HNO := Lib.hid hno
  clear hRES hy hn hp hp1 hlook hyes hno
  obtain ⟨ax, cx, rfl, _, _⟩ := hx.form
  obtain ⟨ya, ⟨yi, yv, yl⟩, yg⟩ := y
  have hx : Rd (intE .u32) w (.slice ax yl.length cx) yl := hx
  have HBE : Hid (Blk (w.alloc (.cells #[.int .u32 ya, .int .u64 yi, .int .u64 yv, .slice ax yl.length cx, .bool yg] 28)) w.heap.size 28 #[.int .u32 ya, .int .u64 yi, .int .u64 yv, .slice ax yl.length cx, .bool yg]) := Lib.hid (Blk.new w _ _)
  have hk0 : Below w.heap.size w (w.alloc (.cells #[.int .u32 ya, .int .u64 yi, .int .u64 yv, .slice ax yl.length cx, .bool yg] 28)) := more (Below.refl _ _) _
  have HH := Lib.hid (h.keep hk0)
  have HX := Lib.hid (hx.keep hk0)
  have HB := Lib.hid hk0
  have HW0 : Hid (w0 ≤ w.heap.size) := Lib.hid (by have := h.hc; have := h.cb.lt; omega)
  have hkey := HKEY.out ax yl.length cx
  have HKY : Hid (∀ z : World, Calls Try.prog 47 #[.agg #[.int .u32 ya, .int .u64 yi, .int .u64 yv, .slice ax yl.length cx, .bool yg]] z fun e w' => e = .returned (.agg #[.int .u32 ya, .int .u64 yi]) ∧ Below z.heap.size z w') := Lib.hid hkey
  clear h hx hk0 hkey HKEY
  show Calls Try.prog 33 #[.pointer (some ⟨c, 0, none⟩), .agg #[.int .u32 ya, .int .u64 yi, .int .u64 yv, .slice ax yl.length cx, .bool yg]] w _
  go_enter Try.func33, Try.ntmps33
  go_upto_region 1 with fail
  generalize w.alloc (.cells #[.int .u32 ya, .int .u64 yi, .int .u64 yv, .slice ax yl.length cx, .bool yg] 28) = w1 at *
  obtain ⟨g3, hg3⟩ : ∃ g, g = w.heap.size := ⟨_, rfl⟩
  have HG3 := Lib.hid hg3
  rw [← hg3] at HBE ⊢
  clear hg3
  go_upto_region 2 with (first | (refine at_load 3 rfl ?_; refine wpList_load_row rfl 28 (.tmp 3) rfl g3 rfl 28 _ (0, 0) _ HBE.out Try.underlying28 rfl ent_info' ?_) | (go_at_call 47; refine (HKY.out _).mono ?_; rintro e w2 ⟨rfl, hk2⟩))
  have hk3 : Below w1.heap.size w1 (w2.alloc (.cells #[.int .u32 ya, .int .u64 yi] 66)) := more hk2 _
  have HBK : Hid (Blk (w2.alloc (.cells #[.int .u32 ya, .int .u64 yi] 66)) w2.heap.size 66 #[.int .u32 ya, .int .u64 yi]) := Lib.hid (Blk.new _ _ _)
  have HBE3 := Lib.hid (HBE.out.keep hk3)
  have HH3 := Lib.hid (HH.out.keep hk3)
  have HX3 := Lib.hid (HX.out.keep hk3)
  have HB3 := Lib.hid (nest HB.out hk3)
  have HN6 : Hid (w1.heap.size ≤ w2.heap.size) := Lib.hid hk2.size
  have HN6' : Hid (w.heap.size ≤ w1.heap.size) := Lib.hid HB.out.size
  clear hk2 hk3 HBE HH HX HB HKY
  generalize w2.alloc (.cells #[.int .u32 ya, .int .u64 yi] 66) = w3 at *
  obtain ⟨g6, hg6⟩ : ∃ g, g = w2.heap.size := ⟨_, rfl⟩
  have HG6 : Hid (w.heap.size ≤ g6) := Lib.hid (by have := HN6.out; have := HN6'.out; omega)
  rw [← hg6] at HBK ⊢
  clear hg6 HN6 HN6'
  obtain ⟨bv, hbv⟩ : ∃ bv, bv = cs.getD p nm := ⟨_, rfl⟩
  have HIS3 : Hid (MapIs Try.prog 66 evc w3 bv (B p)) := Lib.hid (by rw [hbv]; exact HH3.out.sh.bd p HK.out)
  have C2 : Hid (w3.cell? ⟨b, p, none⟩ = some bv) := Lib.hid (by rw [hbv]; exact HH3.out.sh.board HK.out)
  clear hbv
  obtain ⟨N, hN⟩ : ∃ N, N = w3.heap.size := ⟨_, rfl⟩
  have HNN := Lib.hid hN
  clear hN
  obtain ⟨qa, ⟨qi, qv, ql⟩, qg⟩ := q
  have HLK : Hid (∀ z : World, Below N w3 z → (Instr.lookup 71 bv (.agg #[.int .u32 ya, .int .u64 yi]) true).run Try.prog z = .ok (.tuple #[.agg #[.int .u32 qa, .int .u64 qi, .int .u64 qv, .slice aq nq cq, .bool qg], .bool is]) z) := Lib.hid (fun z k => HLOOK.out z bv (HIS3.out.keep (by rw [HNN.out] at k; exact k)))
  have HKN : Hid (∀ a z : World, Below N w3 a → Below a.heap.size a z → Below N w3 z) := Lib.hid (fun a z h k => by
    rw [HNN.out] at h ⊢
    exact nest h k)
  have HMN : Hid (∀ a z : World, Below N w3 a → Below a.heap.size a z → Below N a z) := Lib.hid (fun a z h k => k.mono (by have := h.size; rw [← HNN.out] at this; exact this))
  have HKS : Hid (∀ a z : World, (a.cell? ⟨c, 0, none⟩ = some (.pointer (some ⟨b, 0, none⟩)) ∧ a.cell? ⟨b, p, none⟩ = some bv ∧ Blk a g6 66 #[.int .u32 ya, .int .u64 yi] ∧ Below N w3 a) → Below N a z →
      (z.cell? ⟨c, 0, none⟩ = some (.pointer (some ⟨b, 0, none⟩)) ∧ z.cell? ⟨b, p, none⟩ = some bv ∧ Blk z g6 66 #[.int .u32 ya, .int .u64 yi] ∧ Below N w3 z)) := Lib.hid (fun a z h k =>
    ⟨(k.cell (by have := HH3.out.cb.lt; rw [← HNN.out] at this; exact this)).trans h.1, (k.cell (by have := HH3.out.sh.blk.lt; rw [← HNN.out] at this; exact this)).trans h.2.1, h.2.2.1.below k (by have := HBK.out.lt; rw [← HNN.out] at this; exact this), h.2.2.2.trans k⟩)
  clear HLOOK HIS3
  refine Run.region_walk2 (S := fun z => z.cell? ⟨c, 0, none⟩ = some (.pointer (some ⟨b, 0, none⟩)) ∧ z.cell? ⟨b, p, none⟩ = some bv ∧ Blk z g6 66 #[.int .u32 ya, .int .u64 yi] ∧ Below N w3 z) (ls := ?ls1) (gi := ?gi1) (oi := ?oi1) (gj := ?gj1) (oj := ?oj1) (li := ?li1) (lj := ?lj1) ocput.rows2 [0, 1, 2, 3, 4, 6, 7, 10] 5 15 10 [(8, 0), (9, 0), (11, 0), (12, 0), (13, 0), (14, 0), (15, 1), (16, 1), (17, 0)] [(5, 1), (8, 0), (9, 0), (11, 0), (12, 0), (13, 0), (14, 0), (16, 1), (17, 0)] (by kernel_rfl) (by kernel_rfl) (by kernel_rfl) (by kernel_rfl) ?w01 ?wi1 ?wj1 ?w11 ?w21 ⟨HH3.out.ptr, C2.out, HBK.out, (Below.refl _ _).drew⟩ ?onward1
  case w01 =>
    simp only [Run.lsOf, Run.stepsOf, Run.stepOf, Run.guardOf, List.getElem?_toArray, List.getElem?_cons_zero, List.getElem?_cons_succ, Option.map_some, Option.map_none, Option.bind_some, Option.toList_some, List.map_cons, List.map_nil, List.cons_append, List.nil_append, List.append_eq]
    rfl
  case wi1 =>
    simp only [Run.lsOf, Run.stepsOf, Run.stepOf, Run.guardOf, List.getElem?_toArray, List.getElem?_cons_zero, List.getElem?_cons_succ, Option.map_some, Option.map_none, Option.bind_some, Option.toList_some, List.map_cons, List.map_nil, List.cons_append, List.nil_append, List.append_eq]
    rfl
  case wj1 =>
    simp only [Run.lsOf, Run.stepsOf, Run.stepOf, Run.guardOf, List.getElem?_toArray, List.getElem?_cons_zero, List.getElem?_cons_succ, Option.map_some, Option.map_none, Option.bind_some, Option.toList_some, List.map_cons, List.map_nil, List.cons_append, List.nil_append, List.append_eq]
    rfl
  case w11 =>
    simp only [Run.lsOf, Run.stepsOf, Run.stepOf, Run.guardOf, List.getElem?_toArray, List.getElem?_cons_zero, List.getElem?_cons_succ, Option.map_some, Option.map_none, Option.bind_some, Option.toList_some, List.map_cons, List.map_nil, List.cons_append, List.nil_append, List.append_eq]
    rfl
  case w21 =>
    simp only [Run.lsOf, Run.stepsOf, Run.stepOf, Run.guardOf, List.getElem?_toArray, List.getElem?_cons_zero, List.getElem?_cons_succ, Option.map_some, Option.map_none, Option.bind_some, Option.toList_some, List.map_cons, List.map_nil, List.cons_append, List.nil_append, List.append_eq]
    rfl
  repeat (refine Run.lsTakes (v := ?_) ?_ ?_; rotate_left; (· intro w' hS'; (first | (refine exec_load_blk (n := 2) (x := .tmp 6) (l := [.int .u32 ya, .int .u64 yi]) ?_ Try.underlying66 key_info ?_ ?_ hS'.2.2.1 <;> rfl) | (go_simp; (try with_reducible rfl)))); simp only [Act.put, List.setIfInBounds_toArray, List.set_cons_zero, List.set_cons_succ])
  refine Run.lsEnds (Run.two ?_ ?_)
  refine Run.callF 48 (by kernel_rfl) (fun hS => HP.out _) rfl ?_
  rintro hS e z1 ⟨rfl, hk1⟩
  have HS1 := Lib.hid (HKS.out _ _ hS (HMN.out _ _ hS.2.2.2 hk1))
  refine ⟨_, rfl, HS1.out, ?_⟩
  clear hS hk1
  try simp only [Act.put, List.setIfInBounds_toArray, List.set_cons_zero, List.set_cons_succ]
  repeat ((first
    | (refine Run.takes (v := ?_) ?_ ?_; rotate_left; (· intro w' hS'; (first | (refine exec_look (m := .tmp 21) (x := .tmp 22) (u := bv) (k := .agg #[.int .u32 ya, .int .u64 yi]) (r := .tuple #[.agg #[.int .u32 qa, .int .u64 qi, .int .u64 qv, .slice aq nq cq, .bool qg], .bool is]) ?_ ?_ ?_ (HLK.out w' hS'.2.2.2) <;> rfl) | (go_simp; (try with_reducible rfl)))))
    | (refine Run.takesG (v := ?_) ?_ ?_ ?_; rotate_left; (· simp only [List.getElem?_cons_zero, List.getElem?_cons_succ]); (· intro w' hS'; (first | (refine exec_look (m := .tmp 21) (x := .tmp 22) (u := bv) (k := .agg #[.int .u32 ya, .int .u64 yi]) (r := .tuple #[.agg #[.int .u32 qa, .int .u64 qi, .int .u64 qv, .slice aq nq cq, .bool qg], .bool is]) ?_ ?_ ?_ (HLK.out w' hS'.2.2.2) <;> rfl) | (go_simp; (try with_reducible rfl)))))
    | (refine Run.skipsT ?_ ?_; (· simp only [List.getElem?_cons_zero, List.getElem?_cons_succ]))
    | (refine Run.skipsF ?_ ?_; (· simp only [List.getElem?_cons_zero, List.getElem?_cons_succ]))
    | (refine Run.skipsU ?_ ?_; (· simp only [List.getElem?_cons_zero, List.getElem?_cons_succ]))
    | (refine Run.passT ?_ ?_; (· simp only [List.getElem?_cons_zero, List.getElem?_cons_succ]))
    | (refine Run.passF ?_ ?_; (· simp only [List.getElem?_cons_zero, List.getElem?_cons_succ]))
    | (refine Run.passU ?_ ?_; (· simp only [List.getElem?_cons_zero, List.getElem?_cons_succ]))
    | fail); simp only [Act.put, List.setIfInBounds_toArray, List.set_cons_zero, List.set_cons_succ])
  refine Run.runs (Run.one (fun hS K1 hK1 => ?_))
  go_simp
  have hX : Below z1.heap.size z1 (z1.alloc (.cells #[.int .u32 0, .int .u64 0, .int .u64 0, .slice none 0 0, .bool false] 28)) := more (Below.refl _ _) _
  have HB7 : Hid (Blk (z1.alloc (.cells #[.int .u32 0, .int .u64 0, .int .u64 0, .slice none 0 0, .bool false] 28)) z1.heap.size 28 #[.int .u32 0, .int .u64 0, .int .u64 0, .slice none 0 0, .bool false]) := Lib.hid (Blk.new _ _ _)
  have HG7 : Hid (N ≤ z1.heap.size) := Lib.hid (by have := HS1.out.2.2.2.size; rw [← HNN.out] at this; exact this)
  have HSZ := Lib.hid (HKS.out _ _ hS (HMN.out _ _ hS.2.2.2 hX))
  refine hK1.out _ _ HSZ.out ?_
  clear hK1 K1 hS hX HS1
  generalize z1.alloc (.cells #[.int .u32 0, .int .u64 0, .int .u64 0, .slice none 0 0, .bool false] 28) = Z at *
  obtain ⟨g7, hg7⟩ : ∃ g, g = z1.heap.size := ⟨_, rfl⟩
  rw [← hg7] at HB7 HG7 ⊢
  clear hg7
  try simp only [Act.put, List.setIfInBounds_toArray, List.set_cons_zero, List.set_cons_succ]
  rotate_left
  refine Run.one (fun hS K1 hK1 => ?_)
  go_simp
  have hX : Below w3.heap.size w3 (w3.alloc (.cells #[.int .u32 0, .int .u64 0, .int .u64 0, .slice none 0 0, .bool false] 28)).drew := (more (Below.refl _ _) _).drew
  have HBA : Hid (Blk (w3.alloc (.cells #[.int .u32 0, .int .u64 0, .int .u64 0, .slice none 0 0, .bool false] 28)).drew w3.heap.size 28 #[.int .u32 0, .int .u64 0, .int .u64 0, .slice none 0 0, .bool false]) := Lib.hid ((Blk.new w3 _ _).keep (Below.refl _ _).drew)
  have HG7 : Hid (N ≤ w3.heap.size) := Lib.hid (by rw [HNN.out]; exact Nat.le_refl _)
  have HSA := Lib.hid (HKS.out w3 _ ⟨hS.1, hS.2.1, hS.2.2.1, by rw [HNN.out]; exact Below.refl _ _⟩ (by rw [HNN.out]; exact hX))
  refine hK1.out _ _ HSA.out ?_
  clear hK1 K1 hS hX
  generalize (w3.alloc (.cells #[.int .u32 0, .int .u64 0, .int .u64 0, .slice none 0 0, .bool false] 28)).drew = z0 at *
  obtain ⟨g7, hg7⟩ : ∃ g, g = w3.heap.size := ⟨_, rfl⟩
  rw [← hg7] at HBA HG7 ⊢
  clear hg7
  try simp only [Act.put, List.setIfInBounds_toArray, List.set_cons_zero, List.set_cons_succ]
  refine Run.runs (Run.callF 48 (by kernel_rfl) (fun hS => HP.out _) rfl ?_)
  rintro hS e Z ⟨rfl, hk1⟩
  have HSZ := Lib.hid (HKS.out _ _ hS (HMN.out _ _ hS.2.2.2 hk1))
  have HB7 := Lib.hid (HBA.out.keep hk1)
  refine ⟨_, rfl, HSZ.out, ?_⟩
  clear hS hk1 HSA HBA
  try simp only [Act.put, List.setIfInBounds_toArray, List.set_cons_zero, List.set_cons_succ]
  repeat ((first
    | (refine Run.takes (v := ?_) ?_ ?_; rotate_left; (· intro w' hS'; (first | (refine exec_look (m := .tmp 21) (x := .tmp 22) (u := bv) (k := .agg #[.int .u32 ya, .int .u64 yi]) (r := .tuple #[.agg #[.int .u32 qa, .int .u64 qi, .int .u64 qv, .slice aq nq cq, .bool qg], .bool is]) ?_ ?_ ?_ (HLK.out w' hS'.2.2.2) <;> rfl) | (go_simp; (try with_reducible rfl)))))
    | (refine Run.takesG (v := ?_) ?_ ?_ ?_; rotate_left; (· simp only [List.getElem?_cons_zero, List.getElem?_cons_succ]); (· intro w' hS'; (first | (refine exec_look (m := .tmp 21) (x := .tmp 22) (u := bv) (k := .agg #[.int .u32 ya, .int .u64 yi]) (r := .tuple #[.agg #[.int .u32 qa, .int .u64 qi, .int .u64 qv, .slice aq nq cq, .bool qg], .bool is]) ?_ ?_ ?_ (HLK.out w' hS'.2.2.2) <;> rfl) | (go_simp; (try with_reducible rfl)))))
    | (refine Run.skipsT ?_ ?_; (· simp only [List.getElem?_cons_zero, List.getElem?_cons_succ]))
    | (refine Run.skipsF ?_ ?_; (· simp only [List.getElem?_cons_zero, List.getElem?_cons_succ]))
    | (refine Run.skipsU ?_ ?_; (· simp only [List.getElem?_cons_zero, List.getElem?_cons_succ]))
    | (refine Run.passT ?_ ?_; (· simp only [List.getElem?_cons_zero, List.getElem?_cons_succ]))
    | (refine Run.passF ?_ ?_; (· simp only [List.getElem?_cons_zero, List.getElem?_cons_succ]))
    | (refine Run.passU ?_ ?_; (· simp only [List.getElem?_cons_zero, List.getElem?_cons_succ]))
    | fail); simp only [Act.put, List.setIfInBounds_toArray, List.set_cons_zero, List.set_cons_succ])
  all_goals
    refine Run.runs (Run.one (fun hS K1 hK1 => ?_))
    refine wp_store_row 28 (.tmp 7) (.tmp 24) rfl g7 #[.int .u32 qa, .int .u64 qi, .int .u64 qv, .slice aq nq cq, .bool qg] rfl rfl 28 _ HB7.out ent_info' rfl (by simp [Value.oneCell']) ?_
    have hos : Only g7 Z (Z.setRow g7 #[.int .u32 qa, .int .u64 qi, .int .u64 qv, .slice aq nq cq, .bool qg]) := Only.rowS Z _
    have HB72 := Lib.hid (Blk.rowS (t := 28) HB7.out #[.int .u32 qa, .int .u64 qi, .int .u64 qv, .slice aq nq cq, .bool qg])
    have hbn : Below N Z (Z.setRow g7 #[.int .u32 qa, .int .u64 qi, .int .u64 qv, .slice aq nq cq, .bool qg]) := hos.below HG7.out (Nat.le_trans HG7.out (Nat.le_of_lt HB7.out.lt))
    have HSZ2 := Lib.hid (HKS.out _ _ HSZ.out hbn)
    refine hK1.out _ _ HSZ2.out ?_
    clear hK1 K1 hS hbn hos HSZ HB7
    generalize Z.setRow g7 #[.int .u32 qa, .int .u64 qi, .int .u64 qv, .slice aq nq cq, .bool qg] = Z2 at *
    try simp only [Act.put, List.setIfInBounds_toArray, List.set_cons_zero, List.set_cons_succ]
    repeat ((first
      | (refine Run.takes (v := ?_) ?_ ?_; rotate_left; (· intro w' hS'; go_simp; (try with_reducible rfl)))
      | (refine Run.takesG (v := ?_) ?_ ?_ ?_; rotate_left; (· simp only [List.getElem?_cons_zero, List.getElem?_cons_succ]); (· intro w' hS'; go_simp; (try with_reducible rfl)))
      | (refine Run.skipsT ?_ ?_; (· simp only [List.getElem?_cons_zero, List.getElem?_cons_succ]))
      | (refine Run.skipsF ?_ ?_; (· simp only [List.getElem?_cons_zero, List.getElem?_cons_succ]))
      | (refine Run.skipsU ?_ ?_; (· simp only [List.getElem?_cons_zero, List.getElem?_cons_succ]))
      | (refine Run.passT ?_ ?_; (· simp only [List.getElem?_cons_zero, List.getElem?_cons_succ]))
      | (refine Run.passF ?_ ?_; (· simp only [List.getElem?_cons_zero, List.getElem?_cons_succ]))
      | (refine Run.passU ?_ ?_; (· simp only [List.getElem?_cons_zero, List.getElem?_cons_succ]))
      | fail); simp only [Act.put, List.setIfInBounds_toArray, List.set_cons_zero, List.set_cons_succ])
    refine Run.ends (fun _ => ?_)
    have hz : Below w3.heap.size w3 Z2 := by have := HSZ2.out.2.2.2; rw [HNN.out] at this; exact this
    have HH4 := Lib.hid (HH3.out.keep hz)
    have HX4 := Lib.hid (HX3.out.keep hz)
    have HBE4 := Lib.hid (HBE3.out.keep hz)
    have HBK4 := Lib.hid (HBK.out.keep hz)
    have HB4 := Lib.hid (nest HB3.out hz)
    clear hz
    cases is
    case true =>
      have hy := HYES.out rfl
      have HQ := Lib.hid hy
      clear hy
      have HQV : Hid (0 ≤ yv ∧ 0 ≤ qv) := Lib.hid ⟨HOK.out.1.2.2.1.1, (HH4.out.sh.ev p _ HK.out HQ.out.1).1.1.1.2.2.1.1⟩
      go_upto_region 3 with fail
      obtain ⟨nw, hnw⟩ : ∃ nw, nw = newerV yv yg qv qg := ⟨_, rfl⟩
      have HNW := Lib.hid hnw
      have HNA : Hid (∀ z : World, Calls Try.prog 49 #[.agg #[.int .u32 ya, .int .u64 yi, .int .u64 yv, .slice ax yl.length cx, .bool yg], .agg #[.int .u32 qa, .int .u64 qi, .int .u64 qv, .slice aq nq cq, .bool qg]] z fun e w' => e = .returned (.bool nw) ∧ Below z.heap.size z w') := Lib.hid (fun z => by
        rw [hnw]
        exact newer_any ya yi yv qa qi qv yg qg HQV.out.1 HQV.out.2 ax aq yl.length cx nq cq z)
      clear hnw
      refine Run.region_seq (S := fun z => Blk z g3 28 #[.int .u32 ya, .int .u64 yi, .int .u64 yv, .slice ax yl.length cx, .bool yg] ∧ Blk z g7 28 #[.int .u32 qa, .int .u64 qi, .int .u64 qv, .slice aq nq cq, .bool qg] ∧ Below N w3 z)
        [0, 0, 0, 0, 1, 0, 0] (l := ?_) ?_ ⟨HBE4.out, HB72.out, HSZ2.out.2.2.2⟩ ?_
      rotate_left
      (· simp only [Run.seqOf, List.toList_toArray, Run.stepsOf, Run.stepOf, Run.guardOf, List.getElem?_toArray, List.getElem?_cons_zero, List.getElem?_cons_succ, Option.map_some, Option.map_none, Option.bind_some, Option.toList_some, List.map_cons, List.map_nil, List.cons_append, List.nil_append, List.append_eq]
         rfl)
      repeat ((first
        | (refine Run.takes (v := ?_) ?_ ?_; rotate_left; (· intro w' hS'; (first | (refine exec_load_blk (n := 5) (x := .tmp 3) (l := [.int .u32 ya, .int .u64 yi, .int .u64 yv, .slice ax yl.length cx, .bool yg]) ?_ Try.underlying28 ent_info' ?_ ?_ hS'.1 <;> rfl) | (refine exec_load_blk (n := 5) (x := .tmp 7) (l := [.int .u32 qa, .int .u64 qi, .int .u64 qv, .slice aq nq cq, .bool qg]) ?_ Try.underlying28 ent_info' ?_ ?_ hS'.2.1 <;> rfl) | (go_simp; (try with_reducible rfl)))))
        | (refine Run.takesG (v := ?_) ?_ ?_ ?_; rotate_left; (· simp only [List.getElem?_cons_zero, List.getElem?_cons_succ]); (· intro w' hS'; (first | (refine exec_load_blk (n := 5) (x := .tmp 3) (l := [.int .u32 ya, .int .u64 yi, .int .u64 yv, .slice ax yl.length cx, .bool yg]) ?_ Try.underlying28 ent_info' ?_ ?_ hS'.1 <;> rfl) | (refine exec_load_blk (n := 5) (x := .tmp 7) (l := [.int .u32 qa, .int .u64 qi, .int .u64 qv, .slice aq nq cq, .bool qg]) ?_ Try.underlying28 ent_info' ?_ ?_ hS'.2.1 <;> rfl) | (go_simp; (try with_reducible rfl)))))
        | (refine Run.skipsT ?_ ?_; (· simp only [List.getElem?_cons_zero, List.getElem?_cons_succ]))
        | (refine Run.skipsF ?_ ?_; (· simp only [List.getElem?_cons_zero, List.getElem?_cons_succ]))
        | (refine Run.skipsU ?_ ?_; (· simp only [List.getElem?_cons_zero, List.getElem?_cons_succ]))
        | (refine Run.passT ?_ ?_; (· simp only [List.getElem?_cons_zero, List.getElem?_cons_succ]))
        | (refine Run.passF ?_ ?_; (· simp only [List.getElem?_cons_zero, List.getElem?_cons_succ]))
        | (refine Run.passU ?_ ?_; (· simp only [List.getElem?_cons_zero, List.getElem?_cons_succ]))
        | (refine Run.runs ?_
           (first
           | (refine Run.callF 49 (by kernel_rfl) (fun hS => HNA.out _) rfl ?_)
           | (refine Run.callG 49 (by kernel_rfl) ?_ (fun hS => HNA.out _) rfl ?_; (· simp only [List.getElem?_cons_zero, List.getElem?_cons_succ]))
           | fail)
           (first
           | (rintro hS e w' ⟨rfl, rfl⟩; refine ⟨_, rfl, hS, ?_⟩)
           | (rintro hS e w' ⟨rfl, hb⟩; refine ⟨_, rfl, ⟨hS.1.keep hb, hS.2.1.keep hb, HKN.out _ _ hS.2.2 hb⟩, ?_⟩)
           | fail))
        | fail); simp only [Act.put, List.setIfInBounds_toArray, List.set_cons_zero, List.set_cons_succ])
      refine Run.ends (fun hS5 => ?_)
      obtain ⟨w5, hw5⟩ : ∃ z, z = w' := ⟨_, rfl⟩
      have hb5 := hb
      clear hb hS
      rw [← hw5] at hS5 hb5 ⊢
      clear hw5
      have HH6 := Lib.hid (HH4.out.keep hb5)
      have HX6 := Lib.hid (HX4.out.keep hb5)
      have HBE6 := Lib.hid hS5.1
      have HBK6 := Lib.hid (HBK4.out.keep hb5)
      have HB6 := Lib.hid (nest HB4.out hb5)
      clear hS5 hb5
      cases nw
      case false =>
        have HR : Hid ((L2, rb, re) = (L, false, 0)) := Lib.hid (by rw [HRES.out]; exact (put_yes (y := (ya, (yi, yv, yl), yg)) HUL.out (HH4.out.sh.mem_board HK.out HQ.out.1) HQ.out.2).2 HNW.out.symm)
        go_wp2_with fail
        go_ret2
        obtain ⟨rfl, rfl, rfl⟩ : L2 = L ∧ rb = false ∧ re = 0 := by have := HR.out; simpa using this
        exact ⟨rfl, ⟨cs, B, fl, HH6.out⟩, Turned.of_below HB6.out⟩
      have HT6 : Hid (Turned (fun j => j = b ∨ w0 ≤ j) w w5) := Lib.hid (Turned.of_below HB6.out)
      have hpy := (put_yes (y := (ya, (yi, yv, yl), yg)) HUL.out (HH4.out.sh.mem_board HK.out HQ.out.1) HQ.out.2).1 HNW.out.symm
      rw [← HRES.out] at hpy
      have HRB : Hid (rb = true ∧ re = 0) := Lib.hid (by simpa using hpy.1)
      have HF : Hid (UniqK L2 ∧ ((L2.length : Nat) : Int) = L.length ∧ ∀ x, x ∈ L2 ↔ x = (ya, (yi, yv, yl), yg) ∨ (x ∈ L ∧ keyP x ≠ keyP (ya, (yi, yv, yl), yg))) := Lib.hid ⟨hpy.2.1, by have := hpy.2.2.1; simp only [] at this; omega, hpy.2.2.2⟩
      clear hpy
      go_upto_region 9 with fail
      refine Run.region_walk (S := fun z => Blk z g6 66 #[.int .u32 ya, .int .u64 yi] ∧ Blk z g3 28 #[.int .u32 ya, .int .u64 yi, .int .u64 yv, .slice ax yl.length cx, .bool yg])
        ocput.rows9 ocput.plan9 (l := ?_) (by kernel_rfl) (by kernel_rfl) (by kernel_rfl) (by kernel_rfl) ?_ ⟨HBK6.out, HBE6.out⟩ ?_
      rotate_left
      (· simp only [ocput.plan9, Run.stepsOf, Run.stepOf, Run.guardOf, List.getElem?_toArray, List.getElem?_cons_zero, List.getElem?_cons_succ, Option.map_some, Option.map_none, Option.bind_some, Option.toList_some, List.map_cons, List.map_nil, List.cons_append, List.nil_append, List.append_eq]
         rfl)
      repeat ((first
        | (refine Run.takes (v := ?_) ?_ ?_; rotate_left; (· intro w' hS'; (first | (refine exec_load_blk (n := 2) (x := .tmp 6) (l := [.int .u32 ya, .int .u64 yi]) ?_ Try.underlying66 key_info ?_ ?_ hS'.1 <;> rfl) | (refine exec_load_blk (n := 5) (x := .tmp 3) (l := [.int .u32 ya, .int .u64 yi, .int .u64 yv, .slice ax yl.length cx, .bool yg]) ?_ Try.underlying28 ent_info' ?_ ?_ hS'.2 <;> rfl) | (go_simp; (try with_reducible rfl)))))
        | (refine Run.takesG (v := ?_) ?_ ?_ ?_; rotate_left; (· simp only [List.getElem?_cons_zero, List.getElem?_cons_succ]); (· intro w' hS'; (first | (refine exec_load_blk (n := 2) (x := .tmp 6) (l := [.int .u32 ya, .int .u64 yi]) ?_ Try.underlying66 key_info ?_ ?_ hS'.1 <;> rfl) | (refine exec_load_blk (n := 5) (x := .tmp 3) (l := [.int .u32 ya, .int .u64 yi, .int .u64 yv, .slice ax yl.length cx, .bool yg]) ?_ Try.underlying28 ent_info' ?_ ?_ hS'.2 <;> rfl) | (go_simp; (try with_reducible rfl)))))
        | (refine Run.skipsT ?_ ?_; (· simp only [List.getElem?_cons_zero, List.getElem?_cons_succ]))
        | (refine Run.skipsF ?_ ?_; (· simp only [List.getElem?_cons_zero, List.getElem?_cons_succ]))
        | (refine Run.skipsU ?_ ?_; (· simp only [List.getElem?_cons_zero, List.getElem?_cons_succ]))
        | (refine Run.passT ?_ ?_; (· simp only [List.getElem?_cons_zero, List.getElem?_cons_succ]))
        | (refine Run.passF ?_ ?_; (· simp only [List.getElem?_cons_zero, List.getElem?_cons_succ]))
        | (refine Run.passU ?_ ?_; (· simp only [List.getElem?_cons_zero, List.getElem?_cons_succ]))
        | fail); simp only [Act.put, List.setIfInBounds_toArray, List.set_cons_zero, List.set_cons_succ])
      refine Run.runs (Run.callF 51 (by kernel_rfl) (fun hS => shopen_any w0 b c R L.length L cs B fl ya yi _ (HH6.out.keep (Below.refl _ _).drew) (by have := HN.out; omega)) rfl ?_)
      rintro hS e z1 ⟨g, cs1, B1, fl1, rfl, hch, hcg, hwg, ht⟩
      have HG6b : Hid (g6 ≠ b ∧ g6 ≠ c) := Lib.hid (by have := HG6.out; have := HW0.out; have := HH6.out.hb; have := HCW.out; omega)
      have HG3b : Hid (g3 ≠ b ∧ g3 ≠ c) := Lib.hid (by have := HG3.out; have := HW0.out; have := HH6.out.hb; have := HCW.out; omega)
      have hBK1 := hS.1.turned ht (fun e => by rcases e with e | e; exact HG6b.out.1 e; exact HG6b.out.2 e)
      have hBE1 := hS.2.turned ht (fun e => by rcases e with e | e; exact HG3b.out.1 e; exact HG3b.out.2 e)
      have HX7 := Lib.hid ((HX6.out.keep (Below.refl _ _).drew).turned0 ht (fun hl j hj e => by
        rcases e with e | e
        · exact Rd.ne32 HX6.out hl HH6.out.sh.no32 (by rw [hj, e])
        · exact Rd.ne32 HX6.out hl HH6.out.no32 (by rw [hj, e])))
      have HT7 : Hid (Turned (fun j => j = b ∨ w0 ≤ j) w z1) := Lib.hid (HT6.out.drew.trans ht (fun j _ h => by rcases h with h | h; exact .inl h; exact .inr (by rw [h]; exact HH6.out.hc)))
      have HCH := Lib.hid hch
      have HCG := Lib.hid hcg
      have HWG := Lib.hid hwg
      refine ⟨_, rfl, ⟨hBK1, hBE1⟩, ?_⟩
      clear hS ht hBK1 hBE1 hch hcg hwg
      try simp only [Act.put, List.setIfInBounds_toArray, List.set_cons_zero, List.set_cons_succ]
      refine Run.runs (Run.callF 50 (by kernel_rfl) (fun hS => shown_any (ya, (yi, yv, yl), yg) (.slice ax yl.length cx) z1 HX7.out HOK.out.2) rfl ?_)
      rintro hS e z2 ⟨xq, rfl, hrow, hk2⟩
      obtain ⟨a2, c2, hxq, _, _⟩ := hrow.rd.form
      subst hxq
      have HROW := Lib.hid hrow
      have HK2 := Lib.hid hk2
      have HS2 := Lib.hid (show Blk z2 g6 66 #[.int .u32 ya, .int .u64 yi] ∧ Blk z2 g3 28 #[.int .u32 ya, .int .u64 yi, .int .u64 yv, .slice ax yl.length cx, .bool yg] from ⟨hS.1.keep hk2, hS.2.keep hk2⟩)
      refine ⟨_, rfl, HS2.out, ?_⟩
      clear hS hrow hk2
      try simp only [Act.put, List.setIfInBounds_toArray, List.set_cons_zero, List.set_cons_succ]
      have HMG : Hid (MapAt Try.prog 66 evc z2 g (B1 (plE (ya, (yi, yv, yl), yg)))) := Lib.hid (by
        have hcg := HCG.out
        rcases HCH.out.sh.bd _ (plc_lt ya yi) with ⟨e, _⟩ | ⟨g', e, hm⟩
        · rw [e] at hcg; cases hcg
        · rw [e] at hcg; cases hcg; exact hm.keep HK2.out)
      have HKL := Lib.hid (evc_of ((ya, (yi, yv, yl), yg), .slice a2 yl.length c2) HOK.out)
      obtain ⟨kl, hkl⟩ := HKL.out
      have HKL2 := Lib.hid hkl
      clear HKL hkl
      refine Run.runs (Run.one (fun hS K1 hK1 => ?_))
      refine wp_store_map rfl keyK Try.underlying71 rfl HMG.out ((ya, (yi, yv, yl), yg), .slice a2 yl.length c2) rfl rfl HKL2.out ?_
      intro z3 M3 hm3 hmem3 ho3
      have h6g : g6 ≠ g := fun e => HMG.out.ne_blk HS2.out.1 e.symm
      have h3g : g3 ≠ g := fun e => HMG.out.ne_blk HS2.out.2 e.symm
      have HS3 := Lib.hid (show Blk z3 g6 66 #[.int .u32 ya, .int .u64 yi] ∧ Blk z3 g3 28 #[.int .u32 ya, .int .u64 yi, .int .u64 yv, .slice ax yl.length cx, .bool yg] from ⟨HS2.out.1.only ho3 h6g, HS2.out.2.only ho3 h3g⟩)
      refine hK1.out _ _ HS3.out ?_
      have HEND : Hid (ChIs w0 z3 b c R L.length L2 cs1 (updB B1 (plE (ya, (yi, yv, yl), yg)) M3) fl1) := Lib.hid (ChIs.laid (HCH.out.keep HK2.out) HCG.out ho3 hm3 hmem3 ⟨HOK.out, HROW.out.rd, fun _ j hj => HCH.out.hR j (by have := (HROW.out.block j hj).1; have := HCH.out.hc; have := HCH.out.cb.lt; omega)⟩ HF.out.1 HF.out.2.2)
      have HT9 : Hid (Turned (fun j => j = b ∨ w0 ≤ j) w z3) := Lib.hid ((HT7.out.trans (Turned.of_below (S := fun j => j = b ∨ w0 ≤ j) HK2.out) (fun _ _ h => h)).trans (Turned.of_only ho3 (S := fun j => j = b ∨ w0 ≤ j) (.inr HWG.out)) (fun _ _ h => h))
      clear hK1 K1 hS h6g h3g hm3 hmem3 ho3 HS3 HS2
      try simp only [Act.put, List.setIfInBounds_toArray, List.set_cons_zero, List.set_cons_succ]
      refine Run.ends (fun _ => ?_)
      go_wp2_with fail
      go_ret2
      exact ⟨by rw [HRB.out.1, HRB.out.2]; rfl, ⟨cs1, _, fl1, by rw [HF.out.2.1]; exact HEND.out⟩, HT9.out⟩
    have HNO2 := Lib.hid (HNO.out rfl).2.2
    have HB6 := HB4
    have HP0 := Lib.hid (put_no (y := (ya, (yi, yv, yl), yg)) HUL.out HNO2.out)
    have c0 := HH4.out.ptr
    have c2 := HH4.out.sh.size
    by_cases hfull : 10000 ≤ L.length
    · have HR : Hid ((L2, rb, re) = (L, false, 5)) := Lib.hid (by rw [HRES.out]; exact HP0.out.1 hfull)
      have hf2 : (L.length : Int) ≥ 10000 := by omega
      clear hfull
      go_wp2_with fail
      go_ret2
      obtain ⟨rfl, rfl, rfl⟩ : L2 = L ∧ rb = false ∧ re = 5 := by have := HR.out; simpa using this
      exact ⟨rfl, ⟨cs, B, fl, HH4.out⟩, Turned.of_below HB4.out⟩
    have hf2 : ¬ (L.length : Int) ≥ 10000 := by omega
    have hpy := HP0.out.2 (by omega)
    rw [← HRES.out] at hpy
    have HRB : Hid (rb = true ∧ re = 0) := Lib.hid (by simpa using hpy.1)
    have HF : Hid (UniqK L2 ∧ ((L2.length : Nat) : Int) = (L.length : Int) + 1 ∧ ∀ x, x ∈ L2 ↔ x = (ya, (yi, yv, yl), yg) ∨ (x ∈ L ∧ keyP x ≠ keyP (ya, (yi, yv, yl), yg))) := Lib.hid ⟨hpy.2.1, by have := hpy.2.2.1; simp only [] at this; omega, hpy.2.2.2⟩
    have f2 := HH4.out.sh.blk.frozen 256
    have hwr : wrap64 ((L.length : Int) + 1) = (L.length : Int) + 1 := IntWalk.wrap64_in _ (by have := HN.out; omega)
    clear hpy hfull
    go_upto_region 9 with fail
    have HH6 := Lib.hid (HH4.out.count ((L.length : Int) + 1))
    have hoc : Only b Z2 (Z2.setCell ⟨b, 256, none⟩ (.int .i64 ((L.length : Int) + 1))) := Only.set _ _ _
    have HT6 : Hid (Turned (fun j => j = b ∨ w0 ≤ j) w (Z2.setCell ⟨b, 256, none⟩ (.int .i64 ((L.length : Int) + 1)))) := Lib.hid ((Turned.of_below HB4.out).trans (Turned.of_only hoc (S := fun j => j = b ∨ w0 ≤ j) (.inl rfl)) (fun _ _ h => h))
    have HX6 : Hid (Rd (intE .u32) (Z2.setCell ⟨b, 256, none⟩ (.int .i64 ((L.length : Int) + 1))) (.slice ax yl.length cx) yl) := Lib.hid (HX4.out.turned0 (Turned.of_only hoc (S := fun j => j = b) rfl) (fun hl j hj e => Rd.ne32 HX4.out hl HH4.out.sh.no32 (by rw [hj, e])))
    have HBE6 := Lib.hid (HBE4.out.only hoc (by have := HG3.out; have := HW0.out; have := HH4.out.hb; omega))
    have HBK6 := Lib.hid (HBK4.out.only hoc (by have := HG6.out; have := HW0.out; have := HH4.out.hb; omega))
    clear hoc c0 c2 f2 hf2 hwr
    generalize Z2.setCell ⟨b, 256, none⟩ (.int .i64 ((L.length : Int) + 1)) = w6 at *
    refine Run.region_walk (S := fun z => Blk z g6 66 #[.int .u32 ya, .int .u64 yi] ∧ Blk z g3 28 #[.int .u32 ya, .int .u64 yi, .int .u64 yv, .slice ax yl.length cx, .bool yg])
      ocput.rows9 ocput.plan9 (l := ?_) (by kernel_rfl) (by kernel_rfl) (by kernel_rfl) (by kernel_rfl) ?_ ⟨HBK6.out, HBE6.out⟩ ?_
    rotate_left
    (· simp only [ocput.plan9, Run.stepsOf, Run.stepOf, Run.guardOf, List.getElem?_toArray, List.getElem?_cons_zero, List.getElem?_cons_succ, Option.map_some, Option.map_none, Option.bind_some, Option.toList_some, List.map_cons, List.map_nil, List.cons_append, List.nil_append, List.append_eq]
       rfl)
    repeat ((first
      | (refine Run.takes (v := ?_) ?_ ?_; rotate_left; (· intro w' hS'; (first | (refine exec_load_blk (n := 2) (x := .tmp 6) (l := [.int .u32 ya, .int .u64 yi]) ?_ Try.underlying66 key_info ?_ ?_ hS'.1 <;> rfl) | (refine exec_load_blk (n := 5) (x := .tmp 3) (l := [.int .u32 ya, .int .u64 yi, .int .u64 yv, .slice ax yl.length cx, .bool yg]) ?_ Try.underlying28 ent_info' ?_ ?_ hS'.2 <;> rfl) | (go_simp; (try with_reducible rfl)))))
      | (refine Run.takesG (v := ?_) ?_ ?_ ?_; rotate_left; (· simp only [List.getElem?_cons_zero, List.getElem?_cons_succ]); (· intro w' hS'; (first | (refine exec_load_blk (n := 2) (x := .tmp 6) (l := [.int .u32 ya, .int .u64 yi]) ?_ Try.underlying66 key_info ?_ ?_ hS'.1 <;> rfl) | (refine exec_load_blk (n := 5) (x := .tmp 3) (l := [.int .u32 ya, .int .u64 yi, .int .u64 yv, .slice ax yl.length cx, .bool yg]) ?_ Try.underlying28 ent_info' ?_ ?_ hS'.2 <;> rfl) | (go_simp; (try with_reducible rfl)))))
      | (refine Run.skipsT ?_ ?_; (· simp only [List.getElem?_cons_zero, List.getElem?_cons_succ]))
      | (refine Run.skipsF ?_ ?_; (· simp only [List.getElem?_cons_zero, List.getElem?_cons_succ]))
      | (refine Run.skipsU ?_ ?_; (· simp only [List.getElem?_cons_zero, List.getElem?_cons_succ]))
      | (refine Run.passT ?_ ?_; (· simp only [List.getElem?_cons_zero, List.getElem?_cons_succ]))
      | (refine Run.passF ?_ ?_; (· simp only [List.getElem?_cons_zero, List.getElem?_cons_succ]))
      | (refine Run.passU ?_ ?_; (· simp only [List.getElem?_cons_zero, List.getElem?_cons_succ]))
      | fail); simp only [Act.put, List.setIfInBounds_toArray, List.set_cons_zero, List.set_cons_succ])
    refine Run.runs (Run.callF 51 (by kernel_rfl) (fun hS => shopen_any w0 b c R ((L.length : Int) + 1) L cs B fl ya yi _ (HH6.out.keep (Below.refl _ _).drew) (by have := HN.out; omega)) rfl ?_)
    rintro hS e z1 ⟨g, cs1, B1, fl1, rfl, hch, hcg, hwg, ht⟩
    have HG6b : Hid (g6 ≠ b ∧ g6 ≠ c) := Lib.hid (by have := HG6.out; have := HW0.out; have := HH6.out.hb; have := HCW.out; omega)
    have HG3b : Hid (g3 ≠ b ∧ g3 ≠ c) := Lib.hid (by have := HG3.out; have := HW0.out; have := HH6.out.hb; have := HCW.out; omega)
    have hBK1 := hS.1.turned ht (fun e => by rcases e with e | e; exact HG6b.out.1 e; exact HG6b.out.2 e)
    have hBE1 := hS.2.turned ht (fun e => by rcases e with e | e; exact HG3b.out.1 e; exact HG3b.out.2 e)
    have HX7 := Lib.hid ((HX6.out.keep (Below.refl _ _).drew).turned0 ht (fun hl j hj e => by
      rcases e with e | e
      · exact Rd.ne32 HX6.out hl HH6.out.sh.no32 (by rw [hj, e])
      · exact Rd.ne32 HX6.out hl HH6.out.no32 (by rw [hj, e])))
    have HT7 : Hid (Turned (fun j => j = b ∨ w0 ≤ j) w z1) := Lib.hid (HT6.out.drew.trans ht (fun j _ h => by rcases h with h | h; exact .inl h; exact .inr (by rw [h]; exact HH6.out.hc)))
    have HCH := Lib.hid hch
    have HCG := Lib.hid hcg
    have HWG := Lib.hid hwg
    refine ⟨_, rfl, ⟨hBK1, hBE1⟩, ?_⟩
    clear hS ht hBK1 hBE1 hch hcg hwg
    try simp only [Act.put, List.setIfInBounds_toArray, List.set_cons_zero, List.set_cons_succ]
    refine Run.runs (Run.callF 50 (by kernel_rfl) (fun hS => shown_any (ya, (yi, yv, yl), yg) (.slice ax yl.length cx) z1 HX7.out HOK.out.2) rfl ?_)
    rintro hS e z2 ⟨xq, rfl, hrow, hk2⟩
    obtain ⟨a2, c2, hxq, _, _⟩ := hrow.rd.form
    subst hxq
    have HROW := Lib.hid hrow
    have HK2 := Lib.hid hk2
    have HS2 := Lib.hid (show Blk z2 g6 66 #[.int .u32 ya, .int .u64 yi] ∧ Blk z2 g3 28 #[.int .u32 ya, .int .u64 yi, .int .u64 yv, .slice ax yl.length cx, .bool yg] from ⟨hS.1.keep hk2, hS.2.keep hk2⟩)
    refine ⟨_, rfl, HS2.out, ?_⟩
    clear hS hrow hk2
    try simp only [Act.put, List.setIfInBounds_toArray, List.set_cons_zero, List.set_cons_succ]
    have HMG : Hid (MapAt Try.prog 66 evc z2 g (B1 (plE (ya, (yi, yv, yl), yg)))) := Lib.hid (by
      have hcg := HCG.out
      rcases HCH.out.sh.bd _ (plc_lt ya yi) with ⟨e, _⟩ | ⟨g', e, hm⟩
      · rw [e] at hcg; cases hcg
      · rw [e] at hcg; cases hcg; exact hm.keep HK2.out)
    have HKL := Lib.hid (evc_of ((ya, (yi, yv, yl), yg), .slice a2 yl.length c2) HOK.out)
    obtain ⟨kl, hkl⟩ := HKL.out
    have HKL2 := Lib.hid hkl
    clear HKL hkl
    refine Run.runs (Run.one (fun hS K1 hK1 => ?_))
    refine wp_store_map rfl keyK Try.underlying71 rfl HMG.out ((ya, (yi, yv, yl), yg), .slice a2 yl.length c2) rfl rfl HKL2.out ?_
    intro z3 M3 hm3 hmem3 ho3
    have h6g : g6 ≠ g := fun e => HMG.out.ne_blk HS2.out.1 e.symm
    have h3g : g3 ≠ g := fun e => HMG.out.ne_blk HS2.out.2 e.symm
    have HS3 := Lib.hid (show Blk z3 g6 66 #[.int .u32 ya, .int .u64 yi] ∧ Blk z3 g3 28 #[.int .u32 ya, .int .u64 yi, .int .u64 yv, .slice ax yl.length cx, .bool yg] from ⟨HS2.out.1.only ho3 h6g, HS2.out.2.only ho3 h3g⟩)
    refine hK1.out _ _ HS3.out ?_
    have HEND : Hid (ChIs w0 z3 b c R ((L.length : Int) + 1) L2 cs1 (updB B1 (plE (ya, (yi, yv, yl), yg)) M3) fl1) := Lib.hid (ChIs.laid (HCH.out.keep HK2.out) HCG.out ho3 hm3 hmem3 ⟨HOK.out, HROW.out.rd, fun _ j hj => HCH.out.hR j (by have := (HROW.out.block j hj).1; have := HCH.out.hc; have := HCH.out.cb.lt; omega)⟩ HF.out.1 HF.out.2.2)
    have HT9 : Hid (Turned (fun j => j = b ∨ w0 ≤ j) w z3) := Lib.hid ((HT7.out.trans (Turned.of_below (S := fun j => j = b ∨ w0 ≤ j) HK2.out) (fun _ _ h => h)).trans (Turned.of_only ho3 (S := fun j => j = b ∨ w0 ≤ j) (.inr HWG.out)) (fun _ _ h => h))
    clear hK1 K1 hS h6g h3g hm3 hmem3 ho3 HS3 HS2
    try simp only [Act.put, List.setIfInBounds_toArray, List.set_cons_zero, List.set_cons_succ]
    refine Run.ends (fun _ => ?_)
    go_wp2_with fail
    go_ret2
    exact ⟨by rw [HRB.out.1, HRB.out.2]; rfl, ⟨cs1, _, fl1, by rw [HF.out.2.1]; exact HEND.out⟩, HT9.out⟩
end Go.Proofs.Ytihfkjodjaoocaa
