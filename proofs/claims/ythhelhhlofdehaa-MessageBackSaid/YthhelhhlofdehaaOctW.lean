/- Package octet, the writer: its state in memory; add. -/
import Derived.Test.YthhelhhlofdehaaRefOctet
import Derived.Test.YthhelhhlofdehaaOctRefPlans
import Derived.Test.YthhelhhlofdehaaRun
import Derived.Laws.BitsAllLaws
import Derived.Test.YthhelhhlofdehaaBytes
set_option maxRecDepth 4000
namespace Go.Proofs.Ythhelhhlofdehaa
open Go.RowKit Mem
set_option linter.unusedSimpArgs false
set_option linter.unusedVariables false
attribute [local irreducible] Go.Calls

/-- the cells of a writer, of a chunk -/
def wcs (c : Value) (p : List Int) (n : Int) : List Value := c :: (p.map (Value.int .u8) ++ [.int .i64 n])
def ccs (c : Value) (p : List Int) : List Value := c :: p.map (Value.int .u8)
theorem wcs_len {c : Value} {p : List Int} {n : Int} (hp : p.length = 64) : (wcs c p n).length = 66 := by simp [wcs, hp]
theorem wcs_full (c : Value) (p : List Int) (n : Int) : (wcs c p n).toArray[0]? = some c := by simp [wcs]
theorem wcs_size {c : Value} {p : List Int} {n : Int} (hp : p.length = 64) : (wcs c p n).toArray[65]? = some (.int .i64 n) := by
  simp only [wcs, List.getElem?_toArray, List.getElem?_cons_succ]
  rw [List.getElem?_append_right (by simp; omega)]
  simp [hp]
theorem wcs_part {c : Value} {p : List Int} {n : Int} {j : Nat} {u : Value} (h : (p.map (Value.int .u8))[j]? = some u) : (wcs c p n).toArray[1 + j]? = some u := by
  have hj := (List.getElem?_eq_some_iff.1 h).1
  simp only [wcs, List.getElem?_toArray, Nat.add_comm 1 j, List.getElem?_cons_succ]
  rw [List.getElem?_append_left hj, h]
theorem ccs_part {c : Value} {p : List Int} {j : Nat} {u : Value} (h : (p.map (Value.int .u8))[j]? = some u) : (ccs c p).toArray[1 + j]? = some u := by
  simp only [ccs, List.getElem?_toArray, Nat.add_comm 1 j, List.getElem?_cons_succ, h]
theorem wcs_splice {c : Value} {p : List Int} {n : Int} (hp : p.length = 64) {k : Nat} {x : List Int} (h : k + x.length ≤ 64) : splice (wcs c p n) (1 + k) (x.map (Value.int .u8)) = wcs c (splice p k x) n := by
  have e1 : 1 + k = k + 1 := by omega
  have e2 : k + 1 + x.length = k + x.length + 1 := by omega
  simp only [splice, wcs, e1, List.take_succ_cons, List.length_map, e2, List.drop_succ_cons, List.map_append, List.map_take, List.map_drop]
  rw [List.take_append_of_le_length (by simp; omega), List.drop_append_of_le_length (by simp; omega)]
  simp
theorem wcs_setn {c : Value} {p : List Int} {n m : Int} (hp : p.length = 64) : (wcs c p n).toArray.setIfInBounds 65 (.int .i64 m) = (wcs c p m).toArray := by
  simp only [wcs, List.setIfInBounds_toArray, List.set_cons_succ]
  rw [List.set_append_right _ _ (by simp; omega)]
  simp [hp]
theorem wcs_setc {c c' : Value} {p : List Int} {n : Int} : (wcs c p n).toArray.setIfInBounds 0 c' = (wcs c' p n).toArray := by
  simp [wcs]
theorem splice_len {x y : List Int} {k : Nat} (h : k + y.length ≤ x.length) : (splice x k y).length = x.length := length_splice x k y h

/-- full chunks, the last one first -/
def Chain (w : World) : Value → List (List Int) → Prop
  | v, [] => v = .pointer none
  | v, p :: ps => ∃ g c, v = .pointer (some ⟨g, 0, none⟩) ∧ Blk w g 102 (ccs c p).toArray ∧ p.length = 64 ∧ Chain w c ps
theorem Chain.keep {w w' : World} (k : Below w.heap.size w w') : ∀ {v : Value} {ps : List (List Int)}, Chain w v ps → Chain w' v ps
  | v, [], h => h
  | v, p :: ps, h => by
    obtain ⟨g, c, hv, hb, hp, hc⟩ := h
    exact ⟨g, c, hv, hb.keep k, hp, hc.keep k⟩
theorem Chain.only {b : Nat} {w w' : World} (k : Only b w w') {cs : Array Value} {t : TypeId} (hb : Blk w b t cs) (ht : t ≠ 102) : ∀ {v : Value} {ps : List (List Int)}, Chain w v ps → Chain w' v ps
  | v, [], h => h
  | v, p :: ps, h => by
    obtain ⟨g, c, hv, hg, hp, hc⟩ := h
    exact ⟨g, c, hv, hg.only k (Blk.ne hg hb (fun e => ht e.symm)), hp, Chain.only k hb ht hc⟩
theorem Chain.ptr {w : World} : ∀ {v : Value} {ps : List (List Int)}, Chain w v ps → ∃ o, v = .pointer o
  | v, [], h => ⟨_, h⟩
  | v, p :: ps, h => by obtain ⟨g, c, hv, _⟩ := h; exact ⟨_, hv⟩
/-- a writer of l, at block b -/
def WrAt (w : World) (b : Nat) (l : List Int) : Prop :=
  ∃ c ps p, Blk w b 69 (wcs c p l.length).toArray ∧ p.length = 64 ∧ Chain w c ps ∧ l = ps.reverse.flatten ++ p.take (l.length % 64) ∧ ps.length = l.length / 64
theorem WrAt.lt {w : World} {b : Nat} {l : List Int} (h : WrAt w b l) : b < w.heap.size := by
  obtain ⟨c, ps, p, hb, _⟩ := h
  exact hb.lt
theorem WrAt.keep {w w' : World} {b : Nat} {l : List Int} (h : WrAt w b l) (k : Below w.heap.size w w') : WrAt w' b l := by
  obtain ⟨c, ps, p, hb, hp, hc, h1, h2⟩ := h
  exact ⟨c, ps, p, hb.keep k, hp, hc.keep k, h1, h2⟩
/-- another block has turned -/
theorem WrAt.only {w w' : World} {b d : Nat} {l : List Int} (h : WrAt w b l) (k : Only d w w') (hne : b ≠ d) {t : TypeId} {cs : Array Value} (hd : Blk w d t cs) (ht : t ≠ 102) : WrAt w' b l := by
  obtain ⟨c, ps, p, hb, hp, hc, h1, h2⟩ := h
  exact ⟨c, ps, p, hb.only k hne, hp, hc.only k hd ht, h1, h2⟩

theorem WrAt.other {w w' : World} {b d : Nat} {l m : List Int} (h : WrAt w b l) (k : Only d w w') (hne : b ≠ d) (hd : WrAt w d m) : WrAt w' b l := by
  obtain ⟨c, ps, p, hb, _⟩ := hd
  exact h.only k hne hb (by decide)

theorem chunk_zero : (Try.prog.info? 102).map (fun i => (i.zero, i.size)) = some (some (.agg (Value.pointer none :: List.replicate 64 (Value.int .u8 0)).toArray), 65) := by kernel_rfl
theorem arr_size : (Try.prog.info? 67).map (·.size) = some 64 := by kernel_rfl
theorem run_sizeOf_of {t : TypeId} {n : Nat} (h : (Try.prog.info? t).map (·.size) = some n) (w : World) : (sizeOf t).run Try.prog w = .ok n w := by
  cases hq : Try.prog.info? t with
  | none => simp [hq] at h
  | some i => simp [hq] at h; simp [sizeOf, typeInfo, hq, h]
theorem run_zero_of {t : TypeId} {v : Value} {n : Nat} (h : (Try.prog.info? t).map (fun i => (i.zero, i.size)) = some (some v, n)) (w : World) : (zeroValue t).run Try.prog w = .ok v w := by
  cases hq : Try.prog.info? t with
  | none => simp [hq] at h
  | some i => simp [hq] at h; simp [zeroValue, typeInfo, hq, h.1]
theorem run_build_chunk (o : Option Addr) (p : List Int) (hp : p.length = 64) (w : World) :
    (Instr.build 102 #[(0, .pointer o), (1, .agg (p.map (Value.int .u8)).toArray)]).run Try.prog w = .ok (.agg (ccs (.pointer o) p).toArray) w := by
  have hz := run_zero_of chunk_zero
  have s1 : ∀ w, (sizeOf 66).run Try.prog w = .ok 1 w := run_sizeOf_of (by kernel_rfl)
  have s2 : ∀ w, (sizeOf 67).run Try.prog w = .ok 64 w := run_sizeOf_of arr_size
  have hf := fold_set (p.map (Value.int .u8)) 1 (Value.pointer o :: List.replicate 64 (Value.int .u8 0)).toArray (by simp [hp])
  have he : splice (Value.pointer o :: List.replicate 64 (Value.int .u8 0)).toArray.toList 1 (p.map (Value.int .u8)) = ccs (.pointer o) p := by
    simp [splice, ccs, hp]
  rw [he] at hf
  unfold Instr.build
  simp only [Sem.run_bind, hz, Result.andThen_ok, run_underlying Try.underlying102]
  have hm : (Array.mapM (fun f : Field => do
              let n ← sizeOf f.type
              pure (f.offset, n))
            #[({ name := "before", type := 66, offset := 0, embedded := false, tag := "", pkgPath := "petasos/octet", byteOffset := 0 } : Field),
              { name := "text", type := 67, offset := 1, embedded := false, tag := "", pkgPath := "petasos/octet", byteOffset := 8 }]).run Try.prog w = .ok #[(0, 1), (1, 64)] w := by kernel_rfl
  rw [hm]
  have hfill : Instr.fill (fun x => (#[(0, 1), (1, 64)] : Array (Nat × Nat))[x]?)
            (Value.agg (Value.pointer none :: List.replicate 64 (Value.int IntKind.u8 0)).toArray).cells
            [(0, Value.pointer o), (1, Value.agg (List.map (Value.int IntKind.u8) p).toArray)] = some (ccs (.pointer o) p).toArray := by
    simp only [Instr.fill, Value.cells]
    have e1 : (#[(0, 1), (1, 64)] : Array (Nat × Nat))[0]? = some (0, 1) := rfl
    have e2 : (#[(0, 1), (1, 64)] : Array (Nat × Nat))[1]? = some (1, 64) := rfl
    have e3 : (Array.foldl (fun cs (q : Value × Nat) => cs.setIfInBounds (0 + q.2) q.1) (Value.pointer none :: List.replicate 64 (Value.int IntKind.u8 0)).toArray (#[Value.pointer o].zipIdx)) = (Value.pointer o :: List.replicate 64 (Value.int .u8 0)).toArray := by simp
    rw [e1, e2]
    simp only []
    refine (if_neg (by simp)).trans ((if_neg (by simp [hp])).trans ?_)
    show some (Array.foldl (fun cs (q : Value × Nat) => cs.setIfInBounds (1 + q.2) q.1) (Array.foldl (fun cs (q : Value × Nat) => cs.setIfInBounds (0 + q.2) q.1) (Value.pointer none :: List.replicate 64 (Value.int IntKind.u8 0)).toArray (#[Value.pointer o].zipIdx)) (List.map (Value.int IntKind.u8) p).toArray.zipIdx) = _
    rw [e3, hf]
  simp only [Result.andThen_ok, hfill, Sem.run_pure]
theorem exec_build_chunk {o : Oper} {a : Act} {x y : Operand} (ho : o.op = .build 102 #[(0, x), (1, y)]) {oc : Option Addr} {p : List Int} (hp : p.length = 64) (hx : a.eval x = .pointer oc) (hy : a.eval y = .agg (p.map (Value.int .u8)).toArray) (w : World) :
    (execOp a.eval o).run Try.prog w = .ok (.value (.agg (ccs (.pointer oc) p).toArray)) w := by
  unfold execOp
  have := run_build_chunk oc p hp w
  simp only [ho, List.map_toArray, List.map_cons, List.map_nil, hx, hy, Sem.run_bind, this, Result.andThen_ok, Sem.run_pure]
end Go.Proofs.Ythhelhhlofdehaa
/- Package octet, the writer: add. -/
namespace Go.Proofs.Ythhelhhlofdehaa
open Go.RowKit Mem
set_option linter.unusedSimpArgs false
set_option linter.unusedVariables false
attribute [local irreducible] Go.Calls

theorem part_cut (b k : Nat) (hk : k < 64) (w : World) : (Instr.sliceAt 67 (.pointer (some ⟨b, 1, none⟩)) (some (.int .i64 k)) none none).run Try.prog w = .ok (.slice (some ⟨b, 1 + k, none⟩) (64 - k) (64 - k)) w := by
  have h1 := run_sliceAt_array_l (P := Try.prog) w 67 ⟨b, 1, none⟩ Try.underlying67 .i64 (k : Int) (by omega) (by show (k : Int) ≤ (64 : Nat); omega)
  rw [h1]
  have e : Try.prog.elem 67 = 5 := by kernel_rfl
  have e2 : Try.prog.arrayLen 67 = 64 := by kernel_rfl
  have hs : (sizeOf 5).run Try.prog w = .ok 1 w := run_sizeOf_of (by kernel_rfl) w
  rw [e, hs, e2]
  have hne : ¬ (64 = k) := by omega
  have hadd : (⟨b, 1, none⟩ : Addr).add k = ⟨b, 1 + k, none⟩ := by unfold Addr.add; split <;> simp_all
  simp only [Result.andThen_ok, slicedAt, Int.toNat_natCast, if_neg hne, Nat.mul_one, hadd]

def slen : Value → Nat | .slice _ n _ => n | _ => 0
def AddAt (x l : List Int) (b : Nat) (w : World) (v : Value) (wr : World) : Prop :=
  ∃ m, m ≤ x.length ∧ Rd (intE .u8) wr v (x.drop m) ∧ v.ownBlock ≠ some b ∧ WrAt wr b (l ++ x.take m) ∧ Only b w wr
theorem add_step {x l y : List Int} {m : Nat} (hy : y = x.drop m) (n : Nat) : (l ++ x.take m) ++ y.take n = l ++ x.take (m + n) := by
  subst hy
  rw [List.append_assoc, List.take_add]
/-- some more, that does not fill the chunk -/
theorem wr_more {l y p : List Int} {ps : List (List Int)} (hp : p.length = 64) (hl : l = ps.reverse.flatten ++ p.take (l.length % 64)) (hps : ps.length = l.length / 64) (hn : l.length % 64 + y.length < 64) :
    l ++ y = ps.reverse.flatten ++ (splice p (l.length % 64) y).take ((l ++ y).length % 64) ∧ ps.length = (l ++ y).length / 64 := by
  have e1 : (l ++ y).length % 64 = l.length % 64 + y.length := by rw [List.length_append]; omega
  have e2 : (l ++ y).length / 64 = l.length / 64 := by rw [List.length_append]; omega
  rw [e1, e2]
  refine ⟨?_, hps⟩
  have e3 : (splice p (l.length % 64) y).take (l.length % 64 + y.length) = p.take (l.length % 64) ++ y := by
    unfold splice
    rw [← List.append_assoc, List.take_append_of_le_length (by simp; omega), List.take_of_length_le (by simp; omega)]
  rw [e3, ← List.append_assoc, ← hl]
/-- .. that fills it -/
theorem wr_full {l y p : List Int} {ps : List (List Int)} (hp : p.length = 64) (hl : l = ps.reverse.flatten ++ p.take (l.length % 64)) (hps : ps.length = l.length / 64) (hn : l.length % 64 + y.length = 64) (q : List Int) :
    l ++ y = (splice p (l.length % 64) y :: ps).reverse.flatten ++ q.take ((l ++ y).length % 64) ∧ (splice p (l.length % 64) y :: ps).length = (l ++ y).length / 64 := by
  have e1 : (l ++ y).length % 64 = 0 := by rw [List.length_append]; omega
  have e2 : (l ++ y).length / 64 = l.length / 64 + 1 := by rw [List.length_append]; omega
  rw [e1, e2]
  refine ⟨?_, by simp [hps]⟩
  have e3 : splice p (l.length % 64) y = p.take (l.length % 64) ++ y := by
    unfold splice
    rw [hn, List.drop_of_length_le (by omega), List.append_nil]
  rw [e3, List.take_zero, List.append_nil, List.reverse_cons, List.flatten_append]
  simp only [List.flatten_cons, List.flatten_nil, List.append_nil]
  rw [← List.append_assoc, ← hl]

def AddPost (b : Nat) (l : List Int) (w : World) (e : Ending) (w' : World) : Prop := (∃ u, e = .returned u) ∧ WrAt w' b l ∧ Only b w w'
theorem oadd_nil (v : Value) (w : World) : Calls Try.prog 53 #[.pointer none, v] w fun e w' => (∃ u, e = .returned u) ∧ Below w.heap.size w w' := by
  go_enter Try.func53, Try.ntmps53
  go_wp2_with fail
  (try simp only [Exit.inBlock, Exit.then])
  refine bodyPost_ret (results_none rfl _ _ _) rfl ?_
  exact ⟨⟨_, rfl⟩, Below.refl _ _⟩
set_option maxHeartbeats 1000000 in
theorem oadd_any (b : Nat) (l x : List Int) (v : Value) (w : World) (h : WrAt w b l) (hr : Rd (intE .u8) w v x) (hne : v.ownBlock ≠ some b) (hl : l.length ≤ 1000000) (hx : x.length ≤ 1000000) :
    Calls Try.prog 53 #[.pointer (some ⟨b, 0, none⟩), v] w (AddPost b (l ++ x) w) := by
  go_enter Try.func53, Try.ntmps53
  go_wp2_with fail
  go_loopw [1] (fun v wr => AddAt x l b w v wr) (fun v _ => slen v)
  case atStart => exact ⟨0, Nat.zero_le _, by simpa using hr, hne, by simpa using h, Only.refl _ _⟩
  case round =>
    obtain ⟨m, hm, hrd, hnb, hw, ho⟩ := hrel
    obtain ⟨a, c, rfl, h1, h2⟩ := hrd.form
    obtain ⟨y, hy⟩ : ∃ y, y = x.drop m := ⟨_, rfl⟩
    rw [← hy] at hrd h1 hnb ⊢
    have hyl : y.length = x.length - m := by rw [hy]; simp
    by_cases h0 : 0 < y.length
    · have HS := Lib.hid (add_step (l := l) hy)
      have HY := Lib.hid hy
      have HM := Lib.hid hyl
      clear hy
      have hq : (l ++ x.take m).length = l.length + m := by simp; omega
      generalize l ++ x.take m = q at *
      obtain ⟨cp, ps, p, hb, hp, hc, e1, e2⟩ := hw
      obtain ⟨oc, rfl⟩ := hc.ptr
      have d65 : wr.cell? ⟨b, 65, none⟩ = some (.int .i64 q.length) := (hb.cell 65).trans (wcs_size hp)
      have hql : q.length ≤ 3000000 := by omega
      have hyl2 : y.length ≤ 1000000 := by omega
      have HB := Lib.hid hb
      have HE1 := Lib.hid e1
      have HE2 := Lib.hid e2
      have HC := Lib.hid hc
      have HP := Lib.hid hp
      have HO := Lib.hid ho
      have HQ := Lib.hid hq
      have HR := Lib.hid hrd
      clear hb e1 e2 hc hp ho hq hrd hyl h hr hne
      generalize hL : q.length = L at *
      have HL := Lib.hid hL
      clear hL
      obtain ⟨k, hk⟩ : ∃ k, k = L % 64 := ⟨_, rfl⟩
      have hk64 : k < 64 := by omega
      have hrem : ((L : Nat) : Int).tmod 64 = (k : Int) := by rw [Int.tmod_eq_emod_of_nonneg (by omega)]; omega
      have hrem2 : ((L : Nat) : Int) % 64 = (k : Int) := by omega
      have hpc := part_cut b k hk64
      have hlen : decide ((y.length : Int) > 0) = true := decide_eq_true (by omega)
      have HK := Lib.hid hk
      clear hk
      go_wp2_with fail
      refine Run.region_walk (S := fun z => z.cell? ⟨b, 65, none⟩ = some (.int .i64 L))
        oadd.rows2 oadd.plan2 (l := ?steps1) (by kernel_rfl) (by kernel_rfl) (by kernel_rfl) (by kernel_rfl) ?written1 d65 ?onward1
      case written1 =>
        simp only [oadd.plan2, Run.stepsOf, Run.stepOf, Run.guardOf, List.getElem?_toArray, List.getElem?_cons_zero, List.getElem?_cons_succ, Option.map_some, Option.map_none, Option.bind_some, Option.toList_some, List.map_cons, List.map_nil, List.cons_append, List.nil_append]
        rfl
      repeat ((first
        | (refine Run.takes (v := ?_) ?_ ?_; rotate_left; (· intro w' hS'; go_simp; (try with_reducible rfl)))
        | (refine Run.takesG (v := ?_) ?_ ?_ ?_; rotate_left; (· simp only [List.getElem?_cons_zero, List.getElem?_cons_succ]); (· intro w' hS'; go_simp; (try with_reducible rfl)))
        | (refine Run.skipsT ?_ ?_; (· simp only [List.getElem?_cons_zero, List.getElem?_cons_succ]))
        | (refine Run.skipsF ?_ ?_; (· simp only [List.getElem?_cons_zero, List.getElem?_cons_succ]))
        | (refine Run.skipsU ?_ ?_; (· simp only [List.getElem?_cons_zero, List.getElem?_cons_succ]))
        | (refine Run.passT ?_ ?_; (· simp only [List.getElem?_cons_zero, List.getElem?_cons_succ]))
        | (refine Run.passF ?_ ?_; (· simp only [List.getElem?_cons_zero, List.getElem?_cons_succ]))
        | (refine Run.passU ?_ ?_; (· simp only [List.getElem?_cons_zero, List.getElem?_cons_succ]))
        | fail); simp only [Act.put, List.setIfInBounds_toArray, List.set_cons_zero, List.set_cons_succ])
      have hmn : min y.length (64 - k) ≤ y.length := Nat.min_le_left _ _
      have hml : (y.take (64 - k)).length = min y.length (64 - k) := by rw [List.length_take, Nat.min_comm]
      have hms := Nat.min_le_right y.length (64 - k)
      refine Run.runs (Run.one (fun hS K hK => ?_))
      refine wp_copy byteElem (.tmp 18) (.tmp 19) rfl rfl rfl (HB.out.keep (Below.refl _ _).drew) (HR.out.keep (Below.refl _ _).drew) (fun _ => ⟨rfl, by rw [wcs_len HP.out]; omega⟩) ?_
      rw [wcs_splice HP.out (by omega)]
      intro w2 hb2 ho2
      have hp2 : (splice p k (y.take (64 - k))).length = 64 := by rw [splice_len (by rw [hml, HP.out]; omega), HP.out]
      have hk2 := HK.out
      have e65 : w2.cell? ⟨b, 65, none⟩ = some (.int .i64 L) := (hb2.cell 65).trans (wcs_size hp2)
      refine hK.out _ _ e65 ?_
      clear hK K hS
      obtain ⟨n, hn⟩ : ∃ n, n = min y.length (64 - k) := ⟨_, rfl⟩
      rw [← hn] at hml hmn hms ⊢
      have HML := Lib.hid hml
      have HN := Lib.hid hn
      have HK2 := Lib.hid hk2
      have HO2 := Lib.hid (HO.out.drew.trans ho2)
      have HC2 := Lib.hid ((HC.out.keep (Below.refl _ _).drew).only ho2 (HB.out.keep (Below.refl _ _).drew) (by decide))
      have HR2 := Lib.hid ((HR.out.keep (Below.refl _ _).drew).only ho2 hnb)
      have HP2 := Lib.hid hp2
      clear hml hn hk2 ho2 HR HO HC hmn hms
      have hyt : y.take (64 - k) = y.take n := by
        have := HN.out
        rcases Nat.le_total (64 - k) y.length with h | h
        · rw [this, Nat.min_eq_right h]
        · rw [this, Nat.min_eq_left h, List.take_of_length_le h, List.take_length]
      rw [hyt] at hb2 HP2 HML
      have hmn : n ≤ y.length := by have := HN.out; omega
      have hms : n ≤ 64 - k := by have := HN.out; omega
      have hn1 : 1 ≤ n := by have := HN.out; omega
      obtain ⟨p2, hpe⟩ : ∃ p2, p2 = splice p k (y.take n) := ⟨_, rfl⟩
      rw [← hpe] at hb2 HP2
      have HPE := Lib.hid hpe
      clear hpe hyt hp2
      repeat ((first
        | (refine Run.takes (v := ?_) ?_ ?_; rotate_left; (· intro w' hS'; go_simp; (try with_reducible rfl)))
        | (refine Run.takesG (v := ?_) ?_ ?_ ?_; rotate_left; (· simp only [List.getElem?_cons_zero, List.getElem?_cons_succ]); (· intro w' hS'; go_simp; (try with_reducible rfl)))
        | (refine Run.skipsT ?_ ?_; (· simp only [List.getElem?_cons_zero, List.getElem?_cons_succ]))
        | (refine Run.skipsF ?_ ?_; (· simp only [List.getElem?_cons_zero, List.getElem?_cons_succ]))
        | (refine Run.skipsU ?_ ?_; (· simp only [List.getElem?_cons_zero, List.getElem?_cons_succ]))
        | (refine Run.passT ?_ ?_; (· simp only [List.getElem?_cons_zero, List.getElem?_cons_succ]))
        | (refine Run.passF ?_ ?_; (· simp only [List.getElem?_cons_zero, List.getElem?_cons_succ]))
        | (refine Run.passU ?_ ?_; (· simp only [List.getElem?_cons_zero, List.getElem?_cons_succ]))
        | fail); simp only [Act.put, List.setIfInBounds_toArray, List.set_cons_zero, List.set_cons_succ])
      refine Run.ends (fun _ => ?_)
      have hfz : w2.frozen? ⟨b, 65, none⟩ = false := hb2.frozen 65
      have hb3 : Blk (w2.setCell ⟨b, 65, none⟩ (.int .i64 ((L : Int) + n))) b 69 (wcs (.pointer oc) p2 ((L : Int) + n)).toArray := by
        have := hb2.set_ 65 (.int .i64 ((L : Int) + n))
        rwa [wcs_setn HP2.out] at this
      have f65 : (w2.setCell ⟨b, 65, none⟩ (.int .i64 ((L : Int) + n))).cell? ⟨b, 65, none⟩ = some (.int .i64 ((L : Int) + n)) := (hb3.cell 65).trans (wcs_size HP2.out)
      have hcut := run_cut_from (P := Try.prog) byteElem a y.length c n hmn h1
      have HB3 := Lib.hid hb3
      have HB2 := Lib.hid hb2
      have HSET := Lib.hid (Only.set (b := b) w2 65 (.int .i64 ((L : Int) + n)))
      have hn64 : n ≤ 64 := by omega
      clear hb3 hb2 hrem hrem2 d65 hpc hlen
      by_cases hfull : k + n = 64
      · have hr1 : ((L : Int) + n).tmod 64 = 0 := by rw [Int.tmod_eq_emod_of_nonneg (by omega)]; have := HK2.out; omega
        have hr2 : ((L : Int) + n) % 64 = 0 := by have := HK2.out; omega
        have HF := Lib.hid hfull
        clear hfull
        go_wp2_with fail
        generalize w2.setCell ⟨b, 65, none⟩ (.int .i64 ((L : Int) + n)) = W at *
        have g0 : W.cell? ⟨b, 0, none⟩ = some (.pointer oc) := (HB3.out.cell 0).trans (wcs_full _ _ _)
        have HC3 := Lib.hid (HC2.out.only HSET.out HB2.out (by decide))
        refine Run.region_walkZ (S := fun z => z.cell? ⟨b, 0, none⟩ = some (.pointer oc) ∧ Blk z b 69 (wcs (.pointer oc) p2 ((L : Int) + n)).toArray)
          oadd.rows6 oadd.plan6z 13 _ (l := ?steps3) (by kernel_rfl) (by kernel_rfl) (by kernel_rfl) (by kernel_rfl) rfl rfl ?written3 ⟨g0, HB3.out.keep (Below.refl _ _).drew⟩ ?onward3
        case written3 =>
          simp only [oadd.plan6z, Run.stepsOf, Run.stepOf, Run.guardOf, List.getElem?_toArray, List.getElem?_cons_zero, List.getElem?_cons_succ, Option.map_some, Option.map_none, Option.bind_some, Option.toList_some, List.map_cons, List.map_nil, List.cons_append, List.nil_append]
          rfl
        repeat ((first
          | (refine Run.takes (v := ?_) ?_ ?_; rotate_left; (· intro w' hS'; (first | (refine exec_load_part (x := .tmp 45) (l := p2.map (Value.int .u8)) (g := b) (off := 1) (n := 64) (e := 5) (ty := 67) ?_ Try.underlying67 arr_size (by rw [List.length_map]; exact HP2.out) ?_ (fun j u hu => (hS'.2.cell (1 + j)).trans (wcs_part hu)) <;> rfl) | (refine exec_build_chunk (oc := oc) (x := .tmp 42) (y := .tmp 46) ?_ HP2.out ?_ ?_ _ <;> rfl) | (go_simp; (try with_reducible rfl)))))
          | (refine Run.takesG (v := ?_) ?_ ?_ ?_; rotate_left; (· simp only [List.getElem?_cons_zero, List.getElem?_cons_succ]); (· intro w' hS'; (first | (refine exec_load_part (x := .tmp 45) (l := p2.map (Value.int .u8)) (g := b) (off := 1) (n := 64) (e := 5) (ty := 67) ?_ Try.underlying67 arr_size (by rw [List.length_map]; exact HP2.out) ?_ (fun j u hu => (hS'.2.cell (1 + j)).trans (wcs_part hu)) <;> rfl) | (refine exec_build_chunk (oc := oc) (x := .tmp 42) (y := .tmp 46) ?_ HP2.out ?_ ?_ _ <;> rfl) | (go_simp; (try with_reducible rfl)))))
          | (refine Run.skipsT ?_ ?_; (· simp only [List.getElem?_cons_zero, List.getElem?_cons_succ]))
          | (refine Run.skipsF ?_ ?_; (· simp only [List.getElem?_cons_zero, List.getElem?_cons_succ]))
          | (refine Run.skipsU ?_ ?_; (· simp only [List.getElem?_cons_zero, List.getElem?_cons_succ]))
          | (refine Run.passT ?_ ?_; (· simp only [List.getElem?_cons_zero, List.getElem?_cons_succ]))
          | (refine Run.passF ?_ ?_; (· simp only [List.getElem?_cons_zero, List.getElem?_cons_succ]))
          | (refine Run.passU ?_ ?_; (· simp only [List.getElem?_cons_zero, List.getElem?_cons_succ]))
          | fail); simp only [Act.put, List.setIfInBounds_toArray, List.set_cons_zero, List.set_cons_succ])
        refine Run.runs (Run.one (fun hS K hK => ?_))
        go_simp
        have hY : Below W.heap.size W (W.alloc (Obj.cells (ccs (.pointer oc) p2).toArray 102)).drew := (more (Below.refl _ _) _).drew
        have hbg : Blk (W.alloc (Obj.cells (ccs (.pointer oc) p2).toArray 102)).drew W.heap.size 102 (ccs (.pointer oc) p2).toArray := Blk.new W _ _
        have hbY := HB3.out.keep hY
        refine hK.out _ _ ⟨(hbY.cell 0).trans (wcs_full _ _ _), hbY⟩ ?_
        clear hK K hS
        have HBG := Lib.hid hbg
        have HBY := Lib.hid hbY
        have HY2 := Lib.hid (Only.of_below (b := b) hY)
        have HC4 := Lib.hid (HC3.out.keep hY)
        clear hbg hbY hY
        generalize (W.alloc (Obj.cells (ccs (.pointer oc) p2).toArray 102)).drew = Y at *
        generalize W.heap.size = g at *
        repeat ((first
          | (refine Run.takes (v := ?_) ?_ ?_; rotate_left; (· intro w' hS'; go_simp; (try with_reducible rfl)))
          | (refine Run.takesG (v := ?_) ?_ ?_ ?_; rotate_left; (· simp only [List.getElem?_cons_zero, List.getElem?_cons_succ]); (· intro w' hS'; go_simp; (try with_reducible rfl)))
          | (refine Run.skipsT ?_ ?_; (· simp only [List.getElem?_cons_zero, List.getElem?_cons_succ]))
          | (refine Run.skipsF ?_ ?_; (· simp only [List.getElem?_cons_zero, List.getElem?_cons_succ]))
          | (refine Run.skipsU ?_ ?_; (· simp only [List.getElem?_cons_zero, List.getElem?_cons_succ]))
          | (refine Run.passT ?_ ?_; (· simp only [List.getElem?_cons_zero, List.getElem?_cons_succ]))
          | (refine Run.passF ?_ ?_; (· simp only [List.getElem?_cons_zero, List.getElem?_cons_succ]))
          | (refine Run.passU ?_ ?_; (· simp only [List.getElem?_cons_zero, List.getElem?_cons_succ]))
          | fail); simp only [Act.put, List.setIfInBounds_toArray, List.set_cons_zero, List.set_cons_succ])
        have fz0 : Y.frozen? ⟨b, 0, none⟩ = false := HBY.out.frozen 0
        have y0 : Y.cell? ⟨b, 0, none⟩ = some (.pointer oc) := (HBY.out.cell 0).trans (wcs_full _ _ _)
        refine Run.endsZ (fun hS K hK => ?_)
        go_simp
        refine hK.out _ _ (NoPanic.normal ?_)
        clear hK K hS
        have hbz := HBY.out.set_ 0 (.pointer (some ⟨g, 0, none⟩))
        rw [wcs_setc] at hbz
        have hoz : Only b Y (Y.setCell ⟨b, 0, none⟩ (.pointer (some ⟨g, 0, none⟩))) := Only.set Y 0 _
        have HZ := Lib.hid hbz
        have HOZ := Lib.hid hoz
        clear hbz hoz y0 fz0
        generalize Y.setCell ⟨b, 0, none⟩ (.pointer (some ⟨g, 0, none⟩)) = Z at *
        go_wp2_with fail
        refine ⟨?_, by simp [slen]; omega⟩
        have hL := HL.out
        have hyn : (y.take n).length = n := by rw [List.length_take]; omega
        have hf := wr_full (y := y.take n) HP.out (by rw [hL]; exact HE1.out) (by rw [hL]; exact HE2.out) (by rw [hL, hyn, ← HK2.out]; exact HF.out) p2
        rw [hL, ← HK2.out, ← HPE.out] at hf
        refine ⟨m + n, by have := HM.out; omega, ?_, cut_ne hnb, ?_, ((HO2.out.trans HSET.out).trans HY2.out).trans HOZ.out⟩
        · have hr := HR2.out.cutA hmn (Nat.le_refl _)
          rw [List.take_length, HY.out, List.drop_drop, ← HY.out] at hr
          exact ((hr.only HSET.out (cut_ne hnb)).only HY2.out (cut_ne hnb)).only HOZ.out (cut_ne hnb)
        · rw [← HS.out n]
          have hlq : (q ++ y.take n).length = L + n := by rw [List.length_append, hL, hyn]
          refine ⟨.pointer (some ⟨g, 0, none⟩), p2 :: ps, p2, ?_, HP2.out, ⟨g, .pointer oc, rfl, HBG.out.only HOZ.out (Blk.ne HBG.out HBY.out (by decide)), HP2.out, HC4.out.only HOZ.out HBY.out (by decide)⟩, hf.1, hf.2⟩
          rw [hlq]
          exact HZ.out
      · have hyn : n = y.length := by have := HN.out; omega
        have hr1 : ((L : Int) + n).tmod 64 = ((k + n : Nat) : Int) := by rw [Int.tmod_eq_emod_of_nonneg (by omega)]; have := HK2.out; omega
        have hr2 : ((L : Int) + n) % 64 = ((k + n : Nat) : Int) := by have := HK2.out; omega
        have hlt : k + n < 64 := by omega
        have HYN := Lib.hid hyn
        have HLT := Lib.hid hlt
        obtain ⟨r, hr⟩ : ∃ r, r = k + n := ⟨_, rfl⟩
        rw [← hr] at hr1 hr2
        have hz1 : ((r : Int) == 0) = false := by
          have : ¬ ((r : Int) = 0) := by omega
          simpa using this
        clear hfull hyn hlt hr
        go_wp2_with fail
        refine ⟨?_, by simp [slen]; omega⟩
        generalize w2.setCell ⟨b, 65, none⟩ (.int .i64 ((L : Int) + n)) = W at *
        have hL := HL.out
        have hyn : (y.take n).length = n := by rw [List.length_take]; omega
        have hf := wr_more (y := y.take n) HP.out (by rw [hL]; exact HE1.out) (by rw [hL]; exact HE2.out) (by rw [hL, hyn, ← HK2.out]; exact HLT.out)
        rw [hL, ← HK2.out, ← HPE.out] at hf
        refine ⟨m + n, by have := HM.out; omega, ?_, cut_ne hnb, ?_, HO2.out.trans HSET.out⟩
        · have hr := HR2.out.cutA hmn (Nat.le_refl _)
          rw [List.take_length, HY.out, List.drop_drop, ← HY.out] at hr
          exact hr.only HSET.out (cut_ne hnb)
        · rw [← HS.out n]
          have hlq : (q ++ y.take n).length = L + n := by rw [List.length_append, hL, hyn]
          refine ⟨.pointer oc, ps, p2, ?_, HP2.out, HC2.out.only HSET.out HB2.out (by decide), hf.1, hf.2⟩
          rw [hlq]
          exact HB3.out
    · have hmx : m = x.length := by omega
      have he : decide ((y.length : Int) > 0) = false := decide_eq_false (by omega)
      rw [hmx, List.take_length] at hw
      have hz : y.length = 0 := by omega
      clear hy hyl hmx
      go_wp2_with fail
      go_end0
      exact ⟨⟨_, rfl⟩, hw, ho⟩
theorem oadd_none (b : Nat) (l : List Int) (a : Option Addr) (c : Nat) (w : World) (h : WrAt w b l) :
    Calls Try.prog 53 #[.pointer (some ⟨b, 0, none⟩), .slice a 0 c] w (AddPost b l w) := by
  have H := Lib.hid h
  clear h
  go_enter Try.func53, Try.ntmps53
  go_wp2_with fail
  go_loopw [1] (fun v wr => v = .slice a 0 c ∧ wr = w) (fun v _ => 0)
  case atStart => exact ⟨rfl, rfl⟩
  case round =>
    obtain ⟨rfl, rfl⟩ := hrel
    go_wp2_with fail
    go_end0
    exact ⟨⟨_, rfl⟩, H.out, Only.refl _ _⟩
theorem oadd_more (b : Nat) (l x : List Int) (v : Value) (w : World) (h : WrAt w b l) (hr : Rd (intE .u8) w v x) (hne : 0 < x.length → v.ownBlock ≠ some b) (hl : l.length ≤ 1000000) (hx : x.length ≤ 1000000) :
    Calls Try.prog 53 #[.pointer (some ⟨b, 0, none⟩), v] w (AddPost b (l ++ x) w) := by
  rcases Nat.eq_zero_or_pos x.length with h0 | h0
  · obtain ⟨a, c, rfl, _⟩ := hr.form
    rw [List.eq_nil_of_length_eq_zero h0, List.append_nil]
    exact oadd_none b l a c w h
  · exact oadd_any b l x v w h hr (hne h0) hl hx
end Go.Proofs.Ythhelhhlofdehaa
/- Package octet, the writer: width, Put, Text. -/
namespace Go.Proofs.Ythhelhhlofdehaa
open Go.RowKit Mem
set_option linter.unusedSimpArgs false
set_option linter.unusedVariables false
attribute [local irreducible] Go.Calls

theorem width_any (n : Int) (w : World) : Calls Try.prog 54 #[.int .i64 n] w fun e w' => e = .returned (.int .i64 (szN n)) ∧ Below w.heap.size w w' := by
  have h1 : n < 1 ∨ n = 1 ∨ (1 < n ∧ n < 8) ∨ n = 8 ∨ 8 < n := by omega
  rcases h1 with h | rfl | ⟨h, h2⟩ | rfl | h
  · have hz : ((szN n : Nat) : Int) = 1 := by unfold szN; split <;> (try split) <;> omega
    rw [hz]
    go_enter Try.func54, Try.ntmps54
    go_wp2_with fail
    go_ret
    exact ⟨rfl, Below.refl _ _⟩
  · go_enter Try.func54, Try.ntmps54
    go_wp2_with fail
    go_ret
    exact ⟨rfl, Below.refl _ _⟩
  · have hz : ((szN n : Nat) : Int) = n := by unfold szN; split <;> (try split) <;> omega
    rw [hz]
    go_enter Try.func54, Try.ntmps54
    go_wp2_with fail
    go_ret
    exact ⟨rfl, Below.refl _ _⟩
  · go_enter Try.func54, Try.ntmps54
    go_wp2_with fail
    go_ret
    exact ⟨rfl, Below.refl _ _⟩
  · have hz : ((szN n : Nat) : Int) = 8 := by unfold szN; split <;> (try split) <;> omega
    rw [hz]
    go_enter Try.func54, Try.ntmps54
    go_wp2_with fail
    go_ret
    exact ⟨rfl, Below.refl _ _⟩

theorem eight_cut (b k : Nat) (hk : k < 8) (w : World) : (Instr.sliceAt 97 (.pointer (some ⟨b, 0, none⟩)) (some (.int .i64 k)) none none).run Try.prog w = .ok (.slice (some ⟨b, k, none⟩) (8 - k) (8 - k)) w := by
  have h1 := run_sliceAt_array_l (P := Try.prog) w 97 ⟨b, 0, none⟩ Try.underlying97 .i64 (k : Int) (by omega) (by show (k : Int) ≤ (8 : Nat); omega)
  rw [h1]
  have e : Try.prog.elem 97 = 5 := by kernel_rfl
  have e2 : Try.prog.arrayLen 97 = 8 := by kernel_rfl
  have hs : (sizeOf 5).run Try.prog w = .ok 1 w := run_sizeOf_of (by kernel_rfl) w
  rw [e, hs, e2]
  have hne : ¬ (8 = k) := by omega
  have hadd : (⟨b, 0, none⟩ : Addr).add k = ⟨b, k, none⟩ := by unfold Addr.add; split <;> simp_all
  simp only [Result.andThen_ok, slicedAt, Int.toNat_natCast, if_neg hne, Nat.mul_one, hadd]
/-- the cells of the eight bytes, j of which are laid -/
def eights (x : Int) (j : Nat) : List Value := ((be 8 x).take j ++ List.replicate (8 - j) 0).map (Value.int .u8)
theorem eights_set (x : Int) {j t : Nat} (h : j + t = 7) : (eights x j).toArray.setIfInBounds j (.int .u8 (x / 2 ^ (8 * t) % 256)) = (eights x (j + 1)).toArray := by
  have ht := be_take x 8 t (by omega)
  rw [show 8 - t = j + 1 by omega, show 8 - (t + 1) = j by omega] at ht
  unfold eights
  rw [ht, List.setIfInBounds_toArray]
  have hl : ((be 8 x).take j).length = j := by rw [List.length_take, be_len]; omega
  rw [List.map_append, List.set_append_right _ _ (by rw [List.length_map, hl]; exact Nat.le_refl _)]
  simp only [List.length_map, hl, Nat.sub_self]
  rw [show 8 - j = (8 - (j + 1)) + 1 by omega, List.replicate_succ]
  simp
theorem eights_cell (x : Int) (g : Nat) {w : World} {t : TypeId} (h : Blk w g t (eights x 8).toArray) (k : Nat) (hk : k < 8) : Rd (intE .u8) w (.slice (some ⟨g, k, none⟩) (8 - k) (8 - k)) ((be 8 x).drop k) := by
  refine ⟨_, 8 - k, by rw [List.length_drop, be_len], by rw [List.length_drop, be_len]; exact Nat.le_refl _, by unfold maxLen; omega, fun _ => ⟨g, k, rfl, fun j u hu => ?_⟩⟩
  rw [h.cell (k + j)]
  have hfl : ∀ l : List Int, (intE .u8).flat l = l.map (Value.int .u8) := by
    intro l
    induction l with
    | nil => rfl
    | cons x l ih => rw [Enc.flat_cons, ih]; rfl
  rw [hfl, List.getElem?_map, List.getElem?_drop] at hu
  have he : eights x 8 = (be 8 x).map (Value.int .u8) := by unfold eights; rw [List.take_of_length_le (by rw [be_len]; omega)]; simp
  rw [he, List.getElem?_toArray, List.getElem?_map]
  exact hu
theorem be_drop (x : Int) : ∀ (k s : Nat), s ≤ k → (be k x).drop (k - s) = be s x := by
  intro k
  induction k with
  | zero => intro s h; have : s = 0 := by omega
            subst this; rfl
  | succ k ih =>
    intro s h
    rcases Nat.eq_or_lt_of_le h with rfl | h
    · rw [Nat.sub_self]; rfl
    · rw [show k + 1 - s = (k - s) + 1 by omega]
      simp only [be, List.drop_succ_cons]
      exact ih s (by omega)
def PutAll (R : World → Prop) (e : Ending) (w' : World) : Prop := (∃ u, e = .returned u) ∧ R w'
set_option maxHeartbeats 1000000 in
theorem oput_of (o : Option Addr) (x n : Int) (bx : 0 ≤ x ∧ x ≤ 18446744073709551615) (w : World) (R : World → Prop)
    (H : ∀ z v, Below w.heap.size w z → Rd (intE .u8) z v (be (szN n) x) → (∀ k, v.ownBlock = some k → w.heap.size ≤ k) → Calls Try.prog 53 #[.pointer o, v] z (PutAll R)) :
    Calls Try.prog 28 #[.pointer o, .int .u64 x, .int .i64 n] w (PutAll R) := by
  have HH := Lib.hid H
  clear H
  have hs := szN_bd n
  have hz : ∀ w, (zeroValue 97).run Try.prog w = .ok (.agg (eights x 0).toArray) w := fun w => run_zero_of (n := 8) (by kernel_rfl) w
  go_enter Try.func28, Try.ntmps28
  go_wp2_with fail
  go_loopw [8] (fun i wr => ∃ j : Nat, j ≤ 8 ∧ i = .int .i64 j ∧ Blk wr w.heap.size 97 (eights x j).toArray ∧ Below w.heap.size w wr) (fun i _ => 8 - (intOf i).toNat)
  case atStart => exact ⟨0, by omega, rfl, Blk.new w _ _, (Below.refl _ _).alloc (Nat.le_refl _) _⟩
  case round =>
    obtain ⟨j, hj, rfl, hb, hk⟩ := hrel
    by_cases hlt : j < 8
    · obtain ⟨t, ht⟩ : ∃ t, j + t = 7 := ⟨7 - j, by omega⟩
      have e1 : (7 : Int) - j = t := by omega
      have es := eights_set x ht
      have hset := hb.set_ j (.int .u8 (x / 2 ^ (8 * t) % 256))
      rw [es] at hset
      have hfz := hb.frozen j
      have hk2 : Below w.heap.size w (wr.setCell ⟨w.heap.size, j, none⟩ (.int .u8 (x / 2 ^ (8 * t) % 256))) := hk.setCell (Nat.le_refl _) _
      have hcell : ∃ u, wr.cell? ⟨w.heap.size, j, none⟩ = some u := by
        refine ⟨(eights x j)[j]'(by simp [eights, be_len]; omega), ?_⟩
        rw [hb.cell j, List.getElem?_toArray]
        exact List.getElem?_eq_getElem _
      obtain ⟨u, hu⟩ := hcell
      have ht7 : t ≤ 7 := by omega
      have H1 := Lib.hid hset
      have H2 := Lib.hid hk2
      have HT := Lib.hid ht
      clear hset hk2 es ht hb hk
      generalize hg : w.heap.size = g at *
      have HG := Lib.hid hg
      clear hg
      go_wp2_with fail
      exact ⟨⟨j + 1, by omega, by go_num, H1.out, H2.out⟩, by simp [intOf]; omega⟩
    · have hj8 : j = 8 := by omega
      have hnl : ¬ (j : Int) < 8 := by omega
      rw [hj8] at hb
      clear hz hj8 hlt
      have HB := Lib.hid hb
      have HK := Lib.hid hk
      clear hb hk
      go_wp2_with fail
      refine (width_any n wr).mono ?_
      rintro e y ⟨rfl, hy⟩
      obtain ⟨k, hk⟩ : ∃ k, k + szN n = 8 := ⟨8 - szN n, by omega⟩
      have e2 : (8 : Int) - ((szN n : Nat) : Int) = (k : Int) := by omega
      have hd := be_drop x 8 (szN n) hs.2
      rw [show 8 - szN n = k by omega] at hd
      have hr := eights_cell x w.heap.size (HB.out.keep hy) k (by omega)
      rw [hd] at hr
      have hcut := eight_cut w.heap.size k (by omega)
      have hc := HH.out y _ (HK.out.trans (hy.mono HK.out.size)) hr (fun j hj => by have e : some w.heap.size = some j := hj; injection e with e; omega)
      have HC := Lib.hid hc
      clear hc hr hd hk hs hy HB HK HH
      generalize szN n = s at *
      go_wp2_with fail
      refine HC.out.mono ?_
      rintro e z ⟨⟨u, rfl⟩, hR⟩
      go_wp2_with fail
      go_end0
      exact ⟨⟨_, rfl⟩, hR⟩
theorem PutAll.mono {R R' : World → Prop} {e : Ending} {w : World} (h : PutAll R e w) (k : R w → R' w) : PutAll R' e w := ⟨h.1, k h.2⟩
/-- what a writer's call leaves: a writer of l; nothing else has turned -/
theorem oput_any (b : Nat) (l : List Int) (x n : Int) (bx : 0 ≤ x ∧ x ≤ 18446744073709551615) (w : World) (h : WrAt w b l) (hl : l.length ≤ 900000) :
    Calls Try.prog 28 #[.pointer (some ⟨b, 0, none⟩), .int .u64 x, .int .i64 n] w (AddPost b (l ++ be (szN n) x) w) := by
  have hs := szN_bd n
  refine (oput_of (some ⟨b, 0, none⟩) x n bx w (fun z => WrAt z b (l ++ be (szN n) x) ∧ Only b w z) fun z v hz hr hv => ?_).mono fun e z h => ⟨h.1, h.2.1, h.2.2⟩
  refine (oadd_any b l _ v z (h.keep hz) hr (fun e => by have := hv b e; have := h.lt; omega) (by omega) (by rw [be_len]; omega)).mono fun e y h => ⟨h.1, h.2.1, (Only.of_below hz).trans h.2.2⟩
theorem oput_nil (x n : Int) (bx : 0 ≤ x ∧ x ≤ 18446744073709551615) (w : World) :
    Calls Try.prog 28 #[.pointer none, .int .u64 x, .int .i64 n] w fun e w' => (∃ u, e = .returned u) ∧ Below w.heap.size w w' := by
  refine (oput_of none x n bx w (fun z => Below w.heap.size w z) fun z v hz hr hv => ?_).mono fun e z h => ⟨h.1, h.2⟩
  exact (oadd_nil v z).mono fun e y h => ⟨h.1, nest hz h.2⟩
end Go.Proofs.Ythhelhhlofdehaa
/- Package octet, the writer: Bytes. -/
namespace Go.Proofs.Ythhelhhlofdehaa
open Go.RowKit Mem
set_option linter.unusedSimpArgs false
set_option linter.unusedVariables false
attribute [local irreducible] Go.Calls

theorem part_to (b k : Nat) (hk : k ≤ 64) (w : World) : (Instr.sliceAt 67 (.pointer (some ⟨b, 1, none⟩)) none (some (.int .i64 k)) none).run Try.prog w = .ok (.slice (some ⟨b, 1, none⟩) k 64) w := by
  have h1 := run_sliceAt_array_h (P := Try.prog) w 67 ⟨b, 1, none⟩ Try.underlying67 .i64 (k : Int) (by omega) (by show (k : Int) ≤ (64 : Nat); omega)
  rw [h1]
  have e : Try.prog.elem 67 = 5 := by kernel_rfl
  have e2 : Try.prog.arrayLen 67 = 64 := by kernel_rfl
  have hs : (sizeOf 5).run Try.prog w = .ok 1 w := run_sizeOf_of (by kernel_rfl) w
  rw [e, hs, e2]
  simp [Result.andThen_ok, slicedAt, Addr.add]
theorem part_all (b : Nat) (w : World) : (Instr.sliceAt 67 (.pointer (some ⟨b, 1, none⟩)) none none none).run Try.prog w = .ok (.slice (some ⟨b, 1, none⟩) 64 64) w := by
  have h1 := run_sliceAt_array_all (P := Try.prog) w 67 ⟨b, 1, none⟩ Try.underlying67
  rw [h1]
  have e : Try.prog.elem 67 = 5 := by kernel_rfl
  have e2 : Try.prog.arrayLen 67 = 64 := by kernel_rfl
  have hs : (sizeOf 5).run Try.prog w = .ok 1 w := run_sizeOf_of (by kernel_rfl) w
  rw [e, hs, e2]
  simp [Result.andThen_ok, slicedAt, Addr.add]
theorem flat_u8 (l : List Int) : (intE .u8).flat l = l.map (Value.int .u8) := by
  induction l with
  | nil => rfl
  | cons x l ih => rw [Enc.flat_cons, ih]; rfl
/-- the first bytes of an array that lies in a block -/
theorem rd_part {w : World} {g : Nat} {t : TypeId} {cs : Array Value} {p : List Int} (h : Blk w g t cs) (hc : ∀ j u, (p.map (Value.int .u8))[j]? = some u → cs[1 + j]? = some u) (hp : p.length = 64) {m : Nat} (hm : m ≤ 64) : Rd (intE .u8) w (.slice (some ⟨g, 1, none⟩) m 64) (p.take m) := by
  have hl : (p.take m).length = m := by rw [List.length_take]; omega
  refine ⟨_, 64, by rw [hl], by rw [hl]; exact hm, by unfold maxLen; omega, fun _ => ⟨g, 1, rfl, fun j u hu => ?_⟩⟩
  rw [h.cell (1 + j)]
  apply hc
  rw [flat_u8, List.map_take, List.getElem?_take] at hu
  split at hu
  · exact hu
  · cases hu
theorem splice_map (x y : List Int) (k : Nat) : splice (x.map (Value.int .u8)) k (y.map (Value.int .u8)) = (splice x k y).map (Value.int .u8) := by
  simp [splice, List.map_take, List.map_drop]
theorem row_whole {w : World} {g B : Nat} {l : List Int} (h : Blk w g 5 (l.map (Value.int .u8)).toArray) (hB : B ≤ g) (hm : l.length ≤ maxLen) : Row (intE .u8) 5 B w (.slice (some ⟨g, 0, none⟩) l.length l.length) l := by
  refine ⟨by rw [flat_u8]; simp [intE], .inr ⟨g, l.length, _, rfl, hB, h, Nat.le_refl _, hm, by simp [intE], ?_⟩⟩
  rw [flat_u8]
  exact List.take_of_length_le (by simp [intE])
def BytesAt (W : World) (g : Nat) (l : List Int) (e c : Value) (w : World) : Prop :=
  ∃ qs rest Z, Chain W c qs ∧ e = .int .i64 ((64 * qs.length : Nat) : Int) ∧ Z.length = 64 * qs.length ∧ l = qs.reverse.flatten ++ rest ∧ Z.length + rest.length = l.length ∧ Blk w g 5 ((Z ++ rest).map (Value.int .u8)).toArray ∧ Below W.heap.size W w
theorem made_list (n : Nat) : madeCells #[Value.int .u8 0] n = ((List.replicate n (0 : Int)).map (Value.int .u8)).toArray := by
  rw [List.map_replicate]
  apply Array.ext'
  simp only [madeCells, Array.toList_map, Array.toList_range]
  rw [List.eq_replicate_iff]
  refine ⟨by simp, fun x hx => ?_⟩
  obtain ⟨i, _, rfl⟩ := List.mem_map.1 hx
  simp [Nat.mod_one]
theorem obytes_nil (w : World) : Calls Try.prog 30 #[.pointer none] w (PutPost w []) := by
  go_enter Try.func30, Try.ntmps30
  go_wp2_with fail
  go_ret
  exact ⟨_, rfl, Row.nil, Below.refl _ _⟩
set_option maxHeartbeats 1000000 in
theorem obytes_any (b : Nat) (l : List Int) (w : World) (h : WrAt w b l) (hl : l.length ≤ 1000000) :
    Calls Try.prog 30 #[.pointer (some ⟨b, 0, none⟩)] w (PutPost w l) := by
  obtain ⟨c, ps, p, hb, hp, hc, e1, e2⟩ := h
  have d65 : w.cell? ⟨b, 65, none⟩ = some (.int .i64 l.length) := (hb.cell 65).trans (wcs_size hp)
  have hlt := hb.lt
  have hmk := run_make_row' (P := Try.prog) 35 5 (.int .u8 0) 1 Try.underlying35 (by kernel_rfl) rfl .i64 .i64 l.length (by omega) (by omega) w
  have HB := Lib.hid hb
  have HE1 := Lib.hid e1
  have HC := Lib.hid hc
  have HP := Lib.hid hp
  have hL : ∃ L, l.length = L := ⟨_, rfl⟩
  obtain ⟨L, hL⟩ := hL
  rw [hL] at d65 hmk hl e2
  have HL := Lib.hid hL
  have HE2 := Lib.hid e2
  clear hb e1 e2 hc hp hL
  obtain ⟨k, hk⟩ : ∃ k, k = L % 64 := ⟨_, rfl⟩
  obtain ⟨E, hE⟩ : ∃ E, E + k = L := ⟨L - k, by omega⟩
  have hrem : ((L : Nat) : Int).tmod 64 = (k : Int) := by rw [Int.tmod_eq_emod_of_nonneg (by omega)]; omega
  have hsub : IntKind.i64.wrap ((L : Int) - k) = (E : Int) := by rw [IntWalk.i64_in _ (by omega)]; omega
  have hsub2 : IntKind.i64.wrap ((L : Int) - E) = (k : Int) := by rw [IntWalk.i64_in _ (by omega)]; omega
  have hk64 : k < 64 := by omega
  obtain ⟨g, hg⟩ : ∃ g, w.heap.size = g := ⟨_, rfl⟩
  have hblk : Blk (w.alloc (.cells (madeCells #[Value.int .u8 0] L) 5)) g 5 (madeCells #[Value.int .u8 0] L) := hg ▸ Blk.new w _ _
  rw [hg] at hmk
  have hbw : Below w.heap.size w (w.alloc (.cells (madeCells #[Value.int .u8 0] L) 5)) := (Below.refl _ _).alloc (Nat.le_refl _) _
  generalize w.alloc (.cells (madeCells #[Value.int .u8 0] L) 5) = w1 at *
  have f65 := kc hbw d65
  have HK := Lib.hid hk
  have HEE := Lib.hid hE
  have HG := Lib.hid hg
  have HBLK := Lib.hid hblk
  have HBW := Lib.hid hbw
  clear hk hE hg hblk hbw
  go_enter Try.func30, Try.ntmps30
  go_wp2_with fail
  refine Run.region_walk (S := fun z => z.cell? ⟨b, 65, none⟩ = some (.int .i64 L))
    obytes.rows4 obytes.plan4 (l := ?steps5) (by kernel_rfl) (by kernel_rfl) (by kernel_rfl) (by kernel_rfl) ?written5 f65 ?onward5
  case written5 =>
    simp only [obytes.plan4, Run.stepsOf, Run.stepOf, Run.guardOf, List.getElem?_toArray, List.getElem?_cons_zero, List.getElem?_cons_succ, Option.map_some, Option.map_none, Option.bind_some, Option.toList_some, List.map_cons, List.map_nil, List.cons_append, List.nil_append]
    rfl
  repeat ((first
    | (refine Run.takes (v := ?_) ?_ ?_; rotate_left; (· intro w' hS'; go_simp; (try with_reducible rfl)))
    | (refine Run.takesG (v := ?_) ?_ ?_ ?_; rotate_left; (· simp only [List.getElem?_cons_zero, List.getElem?_cons_succ]); (· intro w' hS'; go_simp; (try with_reducible rfl)))
    | (refine Run.skipsT ?_ ?_; (· simp only [List.getElem?_cons_zero, List.getElem?_cons_succ]))
    | (refine Run.skipsF ?_ ?_; (· simp only [List.getElem?_cons_zero, List.getElem?_cons_succ]))
    | (refine Run.skipsU ?_ ?_; (· simp only [List.getElem?_cons_zero, List.getElem?_cons_succ]))
    | (refine Run.passT ?_ ?_; (· simp only [List.getElem?_cons_zero, List.getElem?_cons_succ]))
    | (refine Run.passF ?_ ?_; (· simp only [List.getElem?_cons_zero, List.getElem?_cons_succ]))
    | (refine Run.passU ?_ ?_; (· simp only [List.getElem?_cons_zero, List.getElem?_cons_succ]))
    | fail); simp only [Act.put, List.setIfInBounds_toArray, List.set_cons_zero, List.set_cons_succ])
  refine Run.ends (fun _ => ?_)
  go_wp2_with fail
  have hw2 : Below w.heap.size w w1.drew := HBW.out.drew
  have hblk2 := HBLK.out.keep (Below.refl _ _).drew
  rw [made_list] at hblk2
  have g65 := kc hw2 d65
  have hELe : E ≤ L := by have := HEE.out; omega
  have hcut := run_cut_from (P := Try.prog) byteElem (some ⟨g, 0, none⟩) L L E hELe (Nat.le_refl _)
  have hpt := part_to b k (by omega)
  have HW2 := Lib.hid hw2
  have HBLK2 := Lib.hid hblk2
  clear hw2 hblk2 hrem hsub HBLK HBW hmk f65
  generalize w1.drew = w2 at *
  refine Run.region_walk (S := fun z => z.cell? ⟨b, 65, none⟩ = some (.int .i64 L))
    obytes.rows5 obytes.plan5 (l := ?steps6) (by kernel_rfl) (by kernel_rfl) (by kernel_rfl) (by kernel_rfl) ?written6 g65 ?onward6
  case written6 =>
    simp only [obytes.plan5, Run.stepsOf, Run.stepOf, Run.guardOf, List.getElem?_toArray, List.getElem?_cons_zero, List.getElem?_cons_succ, Option.map_some, Option.map_none, Option.bind_some, Option.toList_some, List.map_cons, List.map_nil, List.cons_append, List.nil_append]
    rfl
  repeat ((first
    | (refine Run.takes (v := ?_) ?_ ?_; rotate_left; (· intro w' hS'; go_simp; (try with_reducible rfl)))
    | (refine Run.takesG (v := ?_) ?_ ?_ ?_; rotate_left; (· simp only [List.getElem?_cons_zero, List.getElem?_cons_succ]); (· intro w' hS'; go_simp; (try with_reducible rfl)))
    | (refine Run.skipsT ?_ ?_; (· simp only [List.getElem?_cons_zero, List.getElem?_cons_succ]))
    | (refine Run.skipsF ?_ ?_; (· simp only [List.getElem?_cons_zero, List.getElem?_cons_succ]))
    | (refine Run.skipsU ?_ ?_; (· simp only [List.getElem?_cons_zero, List.getElem?_cons_succ]))
    | (refine Run.passT ?_ ?_; (· simp only [List.getElem?_cons_zero, List.getElem?_cons_succ]))
    | (refine Run.passF ?_ ?_; (· simp only [List.getElem?_cons_zero, List.getElem?_cons_succ]))
    | (refine Run.passU ?_ ?_; (· simp only [List.getElem?_cons_zero, List.getElem?_cons_succ]))
    | fail); simp only [Act.put, List.setIfInBounds_toArray, List.set_cons_zero, List.set_cons_succ])
  have hELe : E ≤ L := by have := HEE.out; omega
  have hb2 := HB.out.keep (HW2.out.drew.mono (Nat.le_refl _))
  refine Run.runs (Run.one (fun hS K hK => ?_))
  refine wp_copy (g := g) (off := E) (cs := (List.replicate L (0 : Int)).map (Value.int .u8)) (t := 5) (l := p.take k) byteElem (.tmp 25) (.tmp 35) rfl rfl rfl (HBLK2.out.keep (Below.refl _ _).drew) (rd_part hb2 (fun j u hu => wcs_part hu) HP.out (by omega)) (fun h => ⟨?_, ?_⟩) ?_
  · have hk0 : ¬ (L = E) := by
      intro e
      rw [e] at h
      simp at h
    show cutA _ _ _ _ = _
    unfold cutA
    rw [if_neg hk0]
    simp only [Option.map_some, Addr.add, Nat.mul_one, Nat.zero_add]
    split
    · rename_i h0; rw [h0]
    · rfl
  · simp; omega
  rw [List.take_of_length_le (show (p.take k).length ≤ L - E by have := HEE.out; rw [List.length_take]; omega), splice_map]
  intro w3 hb3 ho3
  refine hK.out _ _ (((HB.out.keep HW2.out.drew).only ho3 (by have := HG.out; omega)).cell 65 |>.trans (by rw [HL.out]; exact wcs_size HP.out)) ?_
  clear hK K hS
  have hw3 : Below w.heap.size w w3 := HW2.out.drew.trans (ho3.below (by rw [HG.out]; exact Nat.le_refl _) HW2.out.drew.size)
  have d0 : w.cell? ⟨b, 0, none⟩ = some c := (HB.out.cell 0).trans (wcs_full _ _ _)
  have f0 := kc hw3 d0
  have HB3 := Lib.hid hb3
  have HW3 := Lib.hid hw3
  clear hb3 ho3 hw3 hb2 g65 hsub2 hcut hpt d65 d0
  repeat ((first
    | (refine Run.takes (v := ?_) ?_ ?_; rotate_left; (· intro w' hS'; go_simp; (try with_reducible rfl)))
    | (refine Run.takesG (v := ?_) ?_ ?_ ?_; rotate_left; (· simp only [List.getElem?_cons_zero, List.getElem?_cons_succ]); (· intro w' hS'; go_simp; (try with_reducible rfl)))
    | (refine Run.skipsT ?_ ?_; (· simp only [List.getElem?_cons_zero, List.getElem?_cons_succ]))
    | (refine Run.skipsF ?_ ?_; (· simp only [List.getElem?_cons_zero, List.getElem?_cons_succ]))
    | (refine Run.skipsU ?_ ?_; (· simp only [List.getElem?_cons_zero, List.getElem?_cons_succ]))
    | (refine Run.passT ?_ ?_; (· simp only [List.getElem?_cons_zero, List.getElem?_cons_succ]))
    | (refine Run.passF ?_ ?_; (· simp only [List.getElem?_cons_zero, List.getElem?_cons_succ]))
    | (refine Run.passU ?_ ?_; (· simp only [List.getElem?_cons_zero, List.getElem?_cons_succ]))
    | fail); simp only [Act.put, List.setIfInBounds_toArray, List.set_cons_zero, List.set_cons_succ])
  refine Run.ends (fun _ => ?_)
  go_wp2_with fail
  have hst : BytesAt w g l (.int .i64 E) c w3 := by
    have h1 := HEE.out
    have h2 := HE2.out
    have h3 := HK.out
    have hE : E = 64 * ps.length := by omega
    have hlk : l.length % 64 = k := by rw [HL.out, h3]
    refine ⟨ps, p.take k, List.replicate E 0, HC.out, by rw [hE], by rw [List.length_replicate, hE], ?_, ?_, ?_, HW3.out⟩
    · rw [← hlk]; exact HE1.out
    · rw [List.length_replicate, List.length_take, HP.out, HL.out]; omega
    · have hsp : splice (List.replicate L (0 : Int)) E (p.take k) = List.replicate E 0 ++ p.take k := by
        unfold splice
        have hkl : (p.take k).length = k := by rw [List.length_take, HP.out]; omega
        rw [hkl, List.take_replicate, List.drop_replicate, h1, Nat.sub_self, List.replicate_zero, List.append_nil, Nat.min_eq_left hELe]
      rw [← hsp]
      exact HB3.out
  have HST := Lib.hid hst
  clear hst f0 HB3 HW3 HBLK2 HW2 HE2 HE1 HB HP HC HK HEE hELe
  go_loopw [4, 5] (fun e c wr => BytesAt w g l e c wr) (fun e _ _ => (intOf e).toNat)
  case atStart => exact HST.out
  case round =>
    clear HST
    obtain ⟨qs, rest, Z, hc, rfl, hz, hll, hlen, hb, hk⟩ := hrel
    cases qs with
    | nil =>
      obtain rfl := hc
      have hZ : Z = [] := List.eq_nil_of_length_eq_zero (by simpa using hz)
      subst hZ
      rw [List.nil_append] at hb
      have hlr : l = rest := by simpa using hll
      rw [← hlr] at hb
      have hrow := row_whole (B := w.heap.size) hb (by rw [HG.out]; exact Nat.le_refl _) (by unfold maxLen; have := HL.out; omega)
      rw [HL.out] at hrow
      clear hll hlr hb hz hlen
      go_wp2_with fail
      go_ret
      exact ⟨_, rfl, hrow, hk⟩
    | cons q qs =>
      obtain ⟨g', c', rfl, hbq, hq, hc⟩ := hc
      obtain ⟨E2, hE2⟩ : ∃ E2, E2 = 64 * qs.length := ⟨_, rfl⟩
      obtain ⟨E1, hE1⟩ : ∃ E1, E1 = E2 + 64 := ⟨_, rfl⟩
      have hee : 64 * (q :: qs).length = E1 := by rw [List.length_cons]; omega
      rw [hee] at hz ⊢
      rw [HL.out] at hlen
      have hd0 := (hbq.cell 0).trans (show (ccs c' q).toArray[0]? = some c' by simp [ccs])
      have f0 := kc hk hd0
      have hrdq := rd_part (hbq.keep hk) (fun j u hu => ccs_part hu) hq (Nat.le_refl 64)
      have hcut := run_cut_from (P := Try.prog) byteElem (some ⟨g, 0, none⟩) L L E2 (by omega) (Nat.le_refl _)
      have hpa := part_all g'
      have he1 : (E1 : Int) - 64 = (E2 : Int) := by omega
      have hle1 : E1 ≤ 1000000 := by omega
      have hle2 : E2 ≤ 1000000 := by omega
      have hgg : g' ≠ g := by have := hbq.lt; have := HG.out; omega
      have H1 := Lib.hid hc
      have H2 := Lib.hid hll
      have H3 := Lib.hid hb
      have H4 := Lib.hid hk
      have H5 := Lib.hid hrdq
      have H6 := Lib.hid hq
      have H7 := Lib.hid hE1
      have H8 := Lib.hid hE2
      have H9 := Lib.hid hlen
      have HZ := Lib.hid hz
      have HBQ := Lib.hid hbq
      clear hc hll hb hk hrdq hq hE1 hE2 hlen hz hee hbq hd0
      go_wp2_with fail
      refine Run.region_walk (S := fun z => z.cell? ⟨g', 0, none⟩ = some c')
        obytes.rows9 obytes.plan9 (l := ?steps8) (by kernel_rfl) (by kernel_rfl) (by kernel_rfl) (by kernel_rfl) ?written8 f0 ?onward8
      case written8 =>
        simp only [obytes.plan9, Run.stepsOf, Run.stepOf, Run.guardOf, List.getElem?_toArray, List.getElem?_cons_zero, List.getElem?_cons_succ, Option.map_some, Option.map_none, Option.bind_some, Option.toList_some, List.map_cons, List.map_nil, List.cons_append, List.nil_append]
        rfl
      repeat ((first
        | (refine Run.takes (v := ?_) ?_ ?_; rotate_left; (· intro w' hS'; go_simp; (try with_reducible rfl)))
        | (refine Run.takesG (v := ?_) ?_ ?_ ?_; rotate_left; (· simp only [List.getElem?_cons_zero, List.getElem?_cons_succ]); (· intro w' hS'; go_simp; (try with_reducible rfl)))
        | (refine Run.skipsT ?_ ?_; (· simp only [List.getElem?_cons_zero, List.getElem?_cons_succ]))
        | (refine Run.skipsF ?_ ?_; (· simp only [List.getElem?_cons_zero, List.getElem?_cons_succ]))
        | (refine Run.skipsU ?_ ?_; (· simp only [List.getElem?_cons_zero, List.getElem?_cons_succ]))
        | (refine Run.passT ?_ ?_; (· simp only [List.getElem?_cons_zero, List.getElem?_cons_succ]))
        | (refine Run.passF ?_ ?_; (· simp only [List.getElem?_cons_zero, List.getElem?_cons_succ]))
        | (refine Run.passU ?_ ?_; (· simp only [List.getElem?_cons_zero, List.getElem?_cons_succ]))
        | fail); simp only [Act.put, List.setIfInBounds_toArray, List.set_cons_zero, List.set_cons_succ])
      refine Run.runs (Run.one (fun hS K hK => ?_))
      refine wp_copy (g := g) (off := E2) (cs := (Z ++ rest).map (Value.int .u8)) (t := 5) (l := q.take 64) byteElem (.tmp 51) (.tmp 55) rfl rfl rfl (H3.out.keep (Below.refl _ _).drew) (H5.out.keep (Below.refl _ _).drew) (fun h => ⟨?_, ?_⟩) ?_
      · have hk0 : ¬ (L = E2) := by have := H7.out; have := H9.out; have := HZ.out; omega
        show cutA _ _ _ _ = _
        unfold cutA
        rw [if_neg hk0]
        simp only [Option.map_some, Addr.add, Nat.mul_one, Nat.zero_add]
        split
        · rename_i h0; rw [h0]
        · rfl
      · have := H7.out; have := H9.out; have := HZ.out; have := H6.out; simp; omega
      have hq64 : q.take 64 = q := List.take_of_length_le (by rw [H6.out]; exact Nat.le_refl _)
      rw [hq64, List.take_of_length_le (show q.length ≤ L - E2 by have := H7.out; have := H9.out; have := HZ.out; have := H6.out; omega), splice_map]
      intro w4 hb4 ho4
      have f4 : w4.cell? ⟨g', 0, none⟩ = some c' := (((HBQ.out.keep H4.out).keep (Below.refl _ _).drew).only ho4 hgg).cell 0 |>.trans (by simp [ccs])
      have hk4 : Below w.heap.size w w4 := H4.out.drew.trans (ho4.below (by rw [HG.out]; exact Nat.le_refl _) H4.out.drew.size)
      have HB4 := Lib.hid hb4
      have HK4 := Lib.hid hk4
      refine hK.out _ _ f4 ?_
      clear hK K hS hb4 hk4 ho4 f0 hcut hpa he1
      repeat ((first
        | (refine Run.takes (v := ?_) ?_ ?_; rotate_left; (· intro w' hS'; go_simp; (try with_reducible rfl)))
        | (refine Run.takesG (v := ?_) ?_ ?_ ?_; rotate_left; (· simp only [List.getElem?_cons_zero, List.getElem?_cons_succ]); (· intro w' hS'; go_simp; (try with_reducible rfl)))
        | (refine Run.skipsT ?_ ?_; (· simp only [List.getElem?_cons_zero, List.getElem?_cons_succ]))
        | (refine Run.skipsF ?_ ?_; (· simp only [List.getElem?_cons_zero, List.getElem?_cons_succ]))
        | (refine Run.skipsU ?_ ?_; (· simp only [List.getElem?_cons_zero, List.getElem?_cons_succ]))
        | (refine Run.passT ?_ ?_; (· simp only [List.getElem?_cons_zero, List.getElem?_cons_succ]))
        | (refine Run.passF ?_ ?_; (· simp only [List.getElem?_cons_zero, List.getElem?_cons_succ]))
        | (refine Run.passU ?_ ?_; (· simp only [List.getElem?_cons_zero, List.getElem?_cons_succ]))
        | fail); simp only [Act.put, List.setIfInBounds_toArray, List.set_cons_zero, List.set_cons_succ])
      refine Run.ends (fun _ => ?_)
      go_wp2_with fail
      refine ⟨⟨qs, q ++ rest, Z.take E2, H1.out, by rw [H8.out], ?_, ?_, ?_, ?_, HK4.out⟩, ?_⟩
      · rw [List.length_take, HZ.out, H7.out, ← H8.out]; omega
      · rw [H2.out, List.reverse_cons, List.flatten_append]; simp
      · have := H7.out; have := H9.out; have := HZ.out; have := H6.out; rw [HL.out, List.length_take, List.length_append]; omega
      · have h7 := H7.out
        have hz := HZ.out
        have hsp : splice (Z ++ rest) E2 q = Z.take E2 ++ (q ++ rest) := by
          unfold splice
          rw [H6.out, List.take_append_of_le_length (by omega), List.drop_append_of_le_length (by omega), List.drop_of_length_le (by omega), List.nil_append]
        rw [← hsp]
        exact HB4.out
      · have := H7.out; simp [intOf]; omega
end Go.Proofs.Ythhelhhlofdehaa
/- A new writer of package octet. -/
namespace Go.Proofs.Ythhelhhlofdehaa
open Go.RowKit Mem
attribute [local irreducible] Go.Calls

/-- the cells of a new writer -/
def wnew : List Value := wcs (.pointer none) (List.replicate 64 0) 0
theorem wnew_info : (Try.prog.info? 69).map (fun i => (i.zero, i.size)) = some (some (.agg wnew.toArray), 66) := by kernel_rfl
theorem wr_new (w : World) : WrAt (w.alloc (.cells wnew.toArray 69)) w.heap.size [] :=
  ⟨.pointer none, [], List.replicate 64 0, Blk.new w _ _, by simp, rfl, by simp, by simp⟩
theorem WrAt.below {w w' : World} {b : Nat} {l : List Int} (h : WrAt w b l) (k : Below w.heap.size w w') : WrAt w' b l := h.keep k
end Go.Proofs.Ythhelhhlofdehaa
