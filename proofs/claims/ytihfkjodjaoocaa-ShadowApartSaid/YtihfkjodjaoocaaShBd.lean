/- The landed shelf in memory: its boards are maps by keys; what a board, the shelf, and a change of it are. -/
import Derived.Test.YtihfkjodjaoocaaMaps
import Derived.Test.YtihfkjodjaoocaaShMath
import Derived.KernelRfl
set_option maxRecDepth 4000
namespace Go.Proofs.Ytihfkjodjaoocaa
open Go.RowKit Mem
open Go.Maps (Keyed)
set_option linter.unusedSimpArgs false
set_option linter.unusedVariables false
attribute [local irreducible] Go.Calls

theorem keyRow : (66 : TypeId) < Try.prog.types.size := of_decide_eq_true (by kernel_rfl)
theorem keyWide : (match Try.prog.underlying 66 with | some (.array _ _) | some (.struct _) => true | _ => false) = true := by rw [Try.underlying66]
theorem keyK : Keyed Try.prog 66 := Keyed.of_law (deep_law_laid laidOut (m := 2) (by omega) keyRow (by kernel_rfl) keyWide)
def kv (v i : Int) : Value := .agg #[.int .u32 v, .int .u64 i]
theorem keyKT : Try.prog.keyType 66 = true := by kernel_rfl
theorem keyCells : Try.prog.cellsOf 66 = 2 := by kernel_rfl
theorem u32Cells : Try.prog.cellsOf 22 = 1 := by kernel_rfl
theorem u64Cells : Try.prog.cellsOf 23 = 1 := by kernel_rfl
theorem key_of {v i : Int} (hv : 0 ≤ v ∧ v ≤ 4294967295) (hi : 0 ≤ i ∧ i ≤ 18446744073709551615) : ∃ l, keyOf Try.prog 66 (kv v i) = some l := by
  obtain ⟨n, hn⟩ : ∃ n, Try.prog.types.size = n + 1 := ⟨Try.prog.types.size - 1, (Nat.sub_add_cancel (Nat.lt_of_le_of_lt (Nat.zero_le _) keyRow)).symm⟩
  have hf : (kv v i).formed Try.prog 66 = true := by simp [kv, Value.formed, Try.underlying66, keyCells]
  unfold keyOf
  rw [Try.underlying66]
  simp only [keyKT, hf, Bool.and_self, if_true, hn]
  simp [Program.keyLits, Try.underlying66, Try.underlying22, Try.underlying23, kv, Value.cells, keyCells, u32Cells, u64Cells, wf32 hv, wf64u hi]

theorem kv_inj {v i v' i' : Int} : kv v i = kv v' i' ↔ (v, i) = (v', i') := by
  simp [kv]

/-! ### boards -/
/-- an entry, with the slice that bears its values -/
abbrev EV := Ent × Value
def evc (p : EV) : Value × Value := (kv p.1.1 p.1.2.1.1, .agg (ecl p.1 p.2).toArray)
theorem evc_key {p q : EV} : (evc p).1 = (evc q).1 ↔ keyP p.1 = keyP q.1 := by
  simp [evc, kv_inj, keyP]
/-- on which board the entry of a key stands -/
def plc (v i : Int) : Nat := (((i * 13787848793156543929 % 18446744073709551616 + v) % 18446744073709551616 * 11400714819323198485 % 18446744073709551616) / 72057594037927936).toNat
theorem plc_lt (v i : Int) : plc v i < 256 := by unfold plc; omega
abbrev plE (y : Ent) : Nat := plc y.1 y.2.1.1
theorem plE_key {y z : Ent} (h : keyP y = keyP z) : plE y = plE z := by
  simp [keyP] at h
  unfold plE
  rw [h.1, h.2]
/-- it is right, and its values read so; they lie in blocks of R -/
def EvIn (R : Nat → Prop) (w : World) (p : EV) : Prop := okE p.1 ∧ Rd (intE .u32) w p.2 p.1.2.1.2.2 ∧ (0 < p.1.2.1.2.2.length → ∀ g, p.2.ownBlock = some g → R g)
theorem EvIn.turned {R S : Nat → Prop} {w w' : World} {p : EV} (h : EvIn R w p) (t : Turned S w w') (hs : 0 < p.1.2.1.2.2.length → ∀ g, p.2.ownBlock = some g → ¬ S g) : EvIn R w' p := ⟨h.1, h.2.1.turned0 t hs, h.2.2⟩
theorem EvIn.mono {R R' : Nat → Prop} {w : World} {p : EV} (h : EvIn R w p) (hR : ∀ j, j < w.heap.size → R j → R' j) : EvIn R' w p := ⟨h.1, h.2.1, fun hl g hg => hR g (h.2.1.oldE (by decide) hl hg) (h.2.2 hl g hg)⟩
/-- numbers lie in no block that holds none -/
theorem Rd.ne32 {w : World} {v : Value} {l : List Int} (h : Rd (intE .u32) w v l) (hl : 0 < l.length) {g : Nat} (hg : ∀ o u, w.cell? ⟨g, o, none⟩ = some u → ∀ x, u ≠ .int .u32 x) : v.ownBlock ≠ some g := by
  obtain ⟨a, c, hv, h1, h2, h3⟩ := h
  obtain ⟨g', off, ha, hc⟩ := h3 hl
  intro e
  rw [hv, ha] at e
  have e : some g' = some g := e
  injection e with e
  subst e
  have hlen : 0 < ((intE .u32).flat l).length := by rw [Enc.flat_len]; exact Nat.mul_pos hl (by decide)
  have hcell := hc 0 _ (List.getElem?_eq_getElem hlen)
  obtain ⟨x, hx⟩ : ∃ x, ((intE .u32).flat l)[0] = .int .u32 x := by
    cases l with
    | nil => exact absurd hl (by simp)
    | cons x l => exact ⟨x, rfl⟩
  exact hg _ _ hcell x hx
theorem cell_map {w : World} {g : Nat} {es : Array MapEntry} {clock : Nat} (h : w.heap[g]? = some (.map es clock)) (o : Nat) : w.cell? ⟨g, o, none⟩ = none := by
  simp [World.cell?, h]
theorem Rd.ne_map {w : World} {v : Value} {l : List Int} (h : Rd (intE .u32) w v l) (hl : 0 < l.length) {g : Nat} {α : Type} {f : α → Value × Value} {P : Program} {k : TypeId} {M : List α} (hg : MapAt P k f w g M) : v.ownBlock ≠ some g := by
  obtain ⟨es, clock, hb, _⟩ := hg
  exact Rd.ne32 h hl (fun o u hu => by rw [cell_map hb] at hu; cases hu)
abbrev nm : Value := .map none
/-- the cells of a shelf -/
def scs (cs : List Value) (n : Int) : List Value := cs ++ [.int .i64 n]
/-- a shelf at block b: its boards' cells, what they hold; it holds L in all -/
structure ShIs (w : World) (b : Nat) (R : Nat → Prop) (n : Int) (L : List Ent) (cs : List Value) (B : Nat → List EV) : Prop where
  len : cs.length = 256
  blk : Blk w b 74 (scs cs n).toArray
  bd : ∀ i, i < 256 → MapIs Try.prog 66 evc w (cs.getD i nm) (B i)
  inR : ∀ i g, i < 256 → cs.getD i nm = .map (some g) → R g
  inj : ∀ i j g, i < 256 → j < 256 → cs.getD i nm = .map (some g) → cs.getD j nm = .map (some g) → i = j
  ev : ∀ i p, i < 256 → p ∈ B i → EvIn R w p ∧ plE p.1 = i
  uniq : UniqK L
  mem : ∀ y, y ∈ L ↔ ∃ x, (y, x) ∈ B (plE y)
section
variable {w w' : World} {b : Nat} {R : Nat → Prop} {n : Int} {L : List Ent} {cs : List Value} {B : Nat → List EV}
theorem ShIs.no32 (h : ShIs w b R n L cs B) (o : Nat) (u : Value) (hu : w.cell? ⟨b, o, none⟩ = some u) (x : Int) : u ≠ .int .u32 x := by
  rw [h.blk.cell] at hu
  have hu : (scs cs n)[o]? = some u := by simpa using hu
  unfold scs at hu
  by_cases ho : o < 256
  · rw [List.getElem?_append_left (by rw [h.len]; exact ho)] at hu
    have hg : cs.getD o nm = u := by simp [List.getD, hu]
    rcases h.bd o ho with ⟨e, _⟩ | ⟨g, e, _⟩ <;> rw [← hg, e] <;> intro h <;> cases h
  · rw [List.getElem?_append_right (by rw [h.len]; omega)] at hu
    have := (List.getElem?_eq_some_iff.1 hu)
    obtain ⟨h1, h2⟩ := this
    simp at h1
    have e : o - cs.length = 0 := by omega
    simp only [e, List.getElem_cons_zero] at h2
    rw [← h2]
    intro h
    cases h
theorem ShIs.ne_b (h : ShIs w b R n L cs B) {i g : Nat} (hi : i < 256) (hg : cs.getD i nm = .map (some g)) : g ≠ b := by
  rcases h.bd i hi with ⟨e, _⟩ | ⟨g', e, hm⟩
  · rw [e] at hg; cases hg
  · rw [e] at hg; cases hg
    exact hm.ne_blk h.blk
theorem ShIs.turned {S : Nat → Prop} (h : ShIs w b R n L cs B) (t : Turned S w w') (hb : ¬ S b) (hs : ∀ j, j < w.heap.size → R j → ¬ S j) : ShIs w' b R n L cs B where
  len := h.len
  blk := h.blk.turned t hb
  bd i hi := (h.bd i hi).turned t (fun g hg => hs g (by
    rcases h.bd i hi with ⟨e, _⟩ | ⟨g', e, hm⟩
    · rw [e] at hg; cases hg
    · rw [e] at hg; cases hg; exact hm.lt) (h.inR i g hi hg))
  inR := h.inR
  inj := h.inj
  ev i p hi hp := ⟨(h.ev i p hi hp).1.turned t (fun hl g hg => hs g ((h.ev i p hi hp).1.2.1.oldE (by decide) hl hg) ((h.ev i p hi hp).1.2.2 hl g hg)), (h.ev i p hi hp).2⟩
  uniq := h.uniq
  mem := h.mem
theorem ShIs.keep (h : ShIs w b R n L cs B) (t : Below w.heap.size w w') : ShIs w' b R n L cs B := h.turned (S := fun _ => False) (Turned.of_below t) (fun h => h) (fun _ _ _ h => h)
theorem ShIs.mono {R' : Nat → Prop} (h : ShIs w b R n L cs B) (hR : ∀ j, j < w.heap.size → R j → R' j) : ShIs w b R' n L cs B where
  len := h.len
  blk := h.blk
  bd := h.bd
  inR i g hi hg := hR g (by
    rcases h.bd i hi with ⟨e, _⟩ | ⟨g', e, hm⟩
    · rw [e] at hg; cases hg
    · rw [e] at hg; cases hg; exact hm.lt) (h.inR i g hi hg)
  inj := h.inj
  ev i p hi hp := ⟨(h.ev i p hi hp).1.mono hR, (h.ev i p hi hp).2⟩
  uniq := h.uniq
  mem := h.mem
theorem ShIs.ok (h : ShIs w b R n L cs B) {y : Ent} (hy : y ∈ L) : okE y := by
  obtain ⟨x, hx⟩ := (h.mem y).1 hy
  exact (h.ev _ _ (plc_lt _ _) hx).1.1
/-- a board's entries: each key once -/
theorem ShIs.bkeys (h : ShIs w b R n L cs B) {i : Nat} (hi : i < 256) : ((B i).map fun p => keyP p.1).Nodup := by
  have := (h.bd i hi).keys
  rw [List.Nodup, List.pairwise_map] at this ⊢
  exact this.imp (fun hne e => hne (evc_key.2 e))
theorem ShIs.mem_board (h : ShIs w b R n L cs B) {i : Nat} (hi : i < 256) {p : EV} (hp : p ∈ B i) : p.1 ∈ L := (h.mem p.1).2 ⟨p.2, by rw [(h.ev i p hi hp).2]; exact hp⟩
/-- all boards together hold L -/
def allB (B : Nat → List EV) (k : Nat) : List EV := (List.range k).flatMap B
theorem allB_succ (B : Nat → List EV) (k : Nat) : allB B (k + 1) = allB B k ++ B k := by simp [allB, List.range_succ]
theorem ShIs.all (h : ShIs w b R n L cs B) : ((allB B 256).map (·.1)).Perm L := by
  have hnd : ((allB B 256).map (·.1)).Nodup := by
    have : ((allB B 256).map fun p => keyP p.1).Nodup := by
      unfold allB
      rw [List.map_flatMap, List.Nodup, List.pairwise_flatMap]
      refine ⟨fun i hi => h.bkeys (List.mem_range.1 hi), ?_⟩
      have : (List.range 256).Pairwise fun i j => i ∈ List.range 256 ∧ j ∈ List.range 256 ∧ i ≠ j := List.Pairwise.imp_of_mem (R := fun i j => i ≠ j) (fun ha hb h => ⟨ha, hb, h⟩) List.nodup_range
      refine this.imp ?_
      rintro i j ⟨hi, hj, hne⟩ a ha c hc e
      obtain ⟨p, hp, rfl⟩ := List.mem_map.1 ha
      obtain ⟨q, hq, rfl⟩ := List.mem_map.1 hc
      have h1 := (h.ev i p (List.mem_range.1 hi) hp).2
      have h2 := (h.ev j q (List.mem_range.1 hj) hq).2
      exact hne (by rw [← h1, ← h2]; exact plE_key e)
    rw [List.Nodup, List.pairwise_map] at this ⊢
    exact this.imp (fun hne e => hne (by rw [e]))
  refine (List.perm_ext_iff_of_nodup hnd h.uniq.nodup).2 (fun y => ?_)
  rw [h.mem y, List.mem_map]
  constructor
  · rintro ⟨p, hp, rfl⟩
    obtain ⟨i, hi, hp⟩ := List.mem_flatMap.1 hp
    have hi := List.mem_range.1 hi
    exact ⟨p.2, by rw [(h.ev i p hi hp).2]; exact hp⟩
  · rintro ⟨x, hx⟩
    exact ⟨(y, x), List.mem_flatMap.2 ⟨_, List.mem_range.2 (plc_lt _ _), hx⟩, rfl⟩
theorem allB_le (B : Nat → List EV) {i : Nat} : ∀ k, i < k → (B i).length ≤ (allB B k).length
  | 0, h => absurd h (Nat.not_lt_zero _)
  | k + 1, h => by
    rw [allB_succ, List.length_append]
    by_cases e : i = k
    · subst e; omega
    · have := allB_le (i := i) B k (by omega); omega
theorem ShIs.board_le (h : ShIs w b R n L cs B) {i : Nat} (hi : i < 256) : (B i).length ≤ L.length := by
  have := h.all.length_eq
  rw [List.length_map] at this
  rw [← this]
  exact allB_le B 256 hi
end
/-! ### a shelf, a change of it -/
/-- a shelf at block b that holds L: it writes block b alone, and reads blocks of R alone -/
def ShAt (w : World) (b : Nat) (W R : Nat → Prop) (L : List Ent) : Prop :=
  L.length ≤ 10000 ∧ (∀ j, W j ↔ j = b) ∧ R b ∧ (∀ j, R j → j < w.heap.size) ∧ ∃ cs B, ShIs w b R L.length L cs B
theorem ShAt.turned {w w' : World} {b : Nat} {W R S : Nat → Prop} {L : List Ent} (h : ShAt w b W R L) (k : Turned S w w') (hs : ∀ j, R j → ¬ S j) : ShAt w' b W R L := by
  obtain ⟨h1, h2, h3, h4, cs, B, h5⟩ := h
  exact ⟨h1, h2, h3, fun j hj => Nat.lt_of_lt_of_le (h4 j hj) k.size, cs, B, h5.turned k (hs b h3) (fun j _ hj => hs j hj)⟩
theorem ShAt.lt {w : World} {b : Nat} {W R : Nat → Prop} {L : List Ent} (h : ShAt w b W R L) {j : Nat} (hj : R j) : j < w.heap.size := h.2.2.2.1 j hj
theorem ShAt.sub {w : World} {b : Nat} {W R : Nat → Prop} {L : List Ent} (h : ShAt w b W R L) {j : Nat} (hj : W j) : R j := by
  rw [(h.2.1 j).1 hj]
  exact h.2.2.1
theorem ShAt.len {w : World} {b : Nat} {W R : Nat → Prop} {L : List Ent} (h : ShAt w b W R L) : L.length ≤ 10000 := h.1
theorem ShAt.uniq {w : World} {b : Nat} {W R : Nat → Prop} {L : List Ent} (h : ShAt w b W R L) : UniqK L := by
  obtain ⟨_, _, _, _, cs, B, h5⟩ := h
  exact h5.uniq
theorem ShAt.ok {w : World} {b : Nat} {W R : Nat → Prop} {L : List Ent} (h : ShAt w b W R L) : ∀ y ∈ L, okE y := by
  obtain ⟨_, _, _, _, cs, B, h5⟩ := h
  exact fun y hy => h5.ok hy
/-- what a call leaves -/
def SStep (W R : Nat → Prop) (w w' : World) (b : Nat) (L : List Ent) : Prop := ∃ W' R', ShAt w' b W' R' L ∧ Turned W w w' ∧ (∀ j, W' j → W j ∨ w.heap.size ≤ j) ∧ (∀ j, R' j → R j ∨ w.heap.size ≤ j)
/-- what a call leaves that tells entries -/
def STold (W R : Nat → Prop) (w w' : World) (b : Nat) (L : List Ent) (v : Value) (M : List Ent) : Prop := ∃ W' R', ShAt w' b W' R' L ∧ Turned W w w' ∧ (∀ j, W' j → W j ∨ w.heap.size ≤ j) ∧ (∀ j, R' j → R j ∨ w.heap.size ≤ j) ∧ EntsIn (fun j => ¬ W' j ∧ (R j ∨ w.heap.size ≤ j)) w' v M
abbrev fb : Value := .bool false
/-- a change, at block c, of the shelf at b, in a call that began when there were w0 blocks: R: what the shelf may read by then -/
structure ChIs (w0 : Nat) (w : World) (b c : Nat) (R : Nat → Prop) (n : Int) (L : List Ent) (cs : List Value) (B : Nat → List EV) (fl : List Value) : Prop where
  sh : ShIs w b R n L cs B
  cb : Blk w c 77 (.pointer (some ⟨b, 0, none⟩) :: fl).toArray
  flen : fl.length = 256
  fl : ∀ i, i < 256 → fl.getD i fb = .bool false ∨ (fl.getD i fb = .bool true ∧ ∃ g, cs.getD i nm = .map (some g) ∧ w0 ≤ g)
  hb : b < w0
  hc : w0 ≤ c
  hR : ∀ j, w0 ≤ j → R j
section
variable {w0 : Nat} {w w' : World} {b c : Nat} {R : Nat → Prop} {n : Int} {L : List Ent} {cs : List Value} {B : Nat → List EV} {fl : List Value}
theorem ChIs.no32 (h : ChIs w0 w b c R n L cs B fl) (o : Nat) (u : Value) (hu : w.cell? ⟨c, o, none⟩ = some u) (x : Int) : u ≠ .int .u32 x := by
  rw [h.cb.cell] at hu
  have hu : (Value.pointer (some ⟨b, 0, none⟩) :: fl)[o]? = some u := by simpa using hu
  cases o with
  | zero =>
    simp at hu
    rw [← hu]
    intro h
    cases h
  | succ i =>
    simp at hu
    have hg : fl.getD i fb = u := by simp [List.getD, hu]
    obtain ⟨hi, hu⟩ := List.getElem?_eq_some_iff.1 hu
    have hi : i < 256 := by rw [← h.flen]; exact hi
    rcases h.fl i hi with e | ⟨e, _⟩ <;> rw [← hg, e] <;> intro h <;> cases h
/-- others may turn what is none of the shelf's -/
theorem ChIs.turned {S : Nat → Prop} (h : ChIs w0 w b c R n L cs B fl) (t : Turned S w w') (hb : ¬ S b) (hc : ¬ S c) (hs : ∀ j, j < w.heap.size → R j → j ≠ c → ¬ S j) : ChIs w0 w' b c R n L cs B fl where
  sh := h.sh.turned t hb (fun j hj hR hS => hs j hj hR (fun e => hc (e ▸ hS)) hS)
  cb := h.cb.turned t hc
  flen := h.flen
  fl := h.fl
  hb := h.hb
  hc := h.hc
  hR := h.hR
theorem ChIs.keep (h : ChIs w0 w b c R n L cs B fl) (t : Below w.heap.size w w') : ChIs w0 w' b c R n L cs B fl := h.turned (S := fun _ => False) (Turned.of_below t) (fun h => h) (fun h => h) (fun _ _ _ _ h => h)
theorem map_ne_blk {g : Nat} {i : Nat} (h : ShIs w b R n L cs B) (hi : i < 256) (hg : cs.getD i nm = .map (some g)) {j : Nat} {t : TypeId} {cc : Array Value} (hb : Blk w j t cc) : g ≠ j := by
  rcases h.bd i hi with ⟨e, _⟩ | ⟨g', e, hm⟩
  · rw [e] at hg; cases hg
  · rw [e] at hg; cases hg
    exact hm.ne_blk hb
/-- one board is another list -/
def updB (B : Nat → List EV) (i : Nat) (M : List EV) : Nat → List EV := fun j => if j = i then M else B j
theorem updB_same (B : Nat → List EV) (i : Nat) (M : List EV) : updB B i M i = M := if_pos rfl
theorem updB_other (B : Nat → List EV) {i j : Nat} (M : List EV) (h : j ≠ i) : updB B i M j = B j := if_neg h
/-- a board's map was written -/
theorem ChIs.wrote {p g : Nat} {M' : List EV} {L' : List Ent} (h : ChIs w0 w b c R n L cs B fl) (hp : p < 256) (hg : cs.getD p nm = .map (some g)) (o : Only g w w') (hm : MapAt Try.prog 66 evc w' g M')
    (hev : ∀ q ∈ M', EvIn R w q ∧ plE q.1 = p) (hu : UniqK L') (hL : ∀ y, y ∈ L' ↔ ∃ x, (y, x) ∈ updB B p M' (plE y)) : ChIs w0 w' b c R n L' cs (updB B p M') fl := by
  have hmg : ∃ M, MapAt Try.prog 66 evc w g M := by
    rcases h.sh.bd p hp with ⟨e, _⟩ | ⟨g', e, hm⟩
    · rw [e] at hg; cases hg
    · rw [e] at hg; cases hg; exact ⟨_, hm⟩
  obtain ⟨M, hmg⟩ := hmg
  have hgb := h.sh.ne_b hp hg
  have hgc := hmg.ne_blk h.cb
  have t : Turned (fun j => j = g) w w' := Turned.of_only o rfl
  have hkeep : ∀ q, EvIn R w q → EvIn R w' q := fun q hq => hq.turned t (fun hl j hj e => Rd.ne_map hq.2.1 hl hmg (by rw [hj, e]))
  refine ⟨⟨h.sh.len, h.sh.blk.turned t (fun e => hgb e.symm), fun i hi => ?_, h.sh.inR, h.sh.inj, fun i q hi hq => ?_, hu, hL⟩, h.cb.turned t (fun e => hgc e.symm), h.flen, h.fl, h.hb, h.hc, h.hR⟩
  · by_cases e : i = p
    · subst e
      rw [updB_same]
      exact .inr ⟨g, hg, hm⟩
    · rw [updB_other _ _ e]
      exact (h.sh.bd i hi).turned t (fun g' hg' e' => by
        subst e'
        exact e (h.sh.inj i p g' hi hp hg' hg))
  · by_cases e : i = p
    · subst e
      rw [updB_same] at hq
      exact ⟨hkeep q (hev q hq).1, (hev q hq).2⟩
    · rw [updB_other _ _ e] at hq
      exact ⟨hkeep q (h.sh.ev i q hi hq).1, (h.sh.ev i q hi hq).2⟩
/-- an entry was laid on its board -/
theorem ChIs.laid {g : Nat} {M' : List EV} {L' : List Ent} {y : Ent} {x : Value} (h : ChIs w0 w b c R n L cs B fl) (hg : cs.getD (plE y) nm = .map (some g)) (o : Only g w w') (hm : MapAt Try.prog 66 evc w' g M')
    (hM : ∀ q, q ∈ M' ↔ q = (y, x) ∨ (q ∈ B (plE y) ∧ (evc q).1 ≠ (evc (y, x)).1)) (he : EvIn R w (y, x)) (hu : UniqK L') (hL : ∀ z, z ∈ L' ↔ z = y ∨ (z ∈ L ∧ keyP z ≠ keyP y)) : ChIs w0 w' b c R n L' cs (updB B (plE y) M') fl := by
  refine h.wrote (plc_lt _ _) hg o hm (fun q hq => ?_) hu (fun z => ?_)
  · rcases (hM q).1 hq with rfl | ⟨hq, _⟩
    · exact ⟨he, rfl⟩
    · exact h.sh.ev _ q (plc_lt _ _) hq
  · rw [hL z]
    by_cases e : plE z = plE y
    · rw [e, updB_same]
      constructor
      · rintro (rfl | ⟨hz, hk⟩)
        · exact ⟨x, (hM _).2 (.inl rfl)⟩
        · obtain ⟨u, hu⟩ := (h.sh.mem z).1 hz
          rw [e] at hu
          exact ⟨u, (hM _).2 (.inr ⟨hu, fun e => hk (evc_key.1 e)⟩)⟩
      · rintro ⟨u, hu⟩
        rcases (hM _).1 hu with e1 | ⟨hq, hk⟩
        · cases e1; exact .inl rfl
        · exact .inr ⟨(h.sh.mem z).2 ⟨u, by rw [e]; exact hq⟩, fun e => hk (evc_key.2 e)⟩
    · rw [updB_other _ _ e, ← h.sh.mem z]
      constructor
      · rintro (rfl | ⟨hz, hk⟩)
        · exact absurd rfl e
        · exact hz
      · exact fun hz => .inr ⟨hz, fun hk => e (plE_key hk)⟩
/-- an entry was taken from its board -/
theorem ChIs.took {g : Nat} {M' : List EV} {L' : List Ent} {y : Ent} (h : ChIs w0 w b c R n L cs B fl) (hg : cs.getD (plE y) nm = .map (some g)) (o : Only g w w') (hm : MapAt Try.prog 66 evc w' g M')
    (hM : ∀ q, q ∈ M' ↔ (q ∈ B (plE y) ∧ (evc q).1 ≠ kv y.1 y.2.1.1)) (hu : UniqK L') (hL : ∀ z, z ∈ L' ↔ (z ∈ L ∧ keyP z ≠ keyP y)) : ChIs w0 w' b c R n L' cs (updB B (plE y) M') fl := by
  have hk : ∀ q : EV, (evc q).1 = kv y.1 y.2.1.1 ↔ keyP q.1 = keyP y := fun q => by rw [show kv y.1 y.2.1.1 = (evc (y, nm)).1 from rfl, evc_key]
  refine h.wrote (plc_lt _ _) hg o hm (fun q hq => h.sh.ev _ q (plc_lt _ _) ((hM q).1 hq).1) hu (fun z => ?_)
  rw [hL z]
  by_cases e : plE z = plE y
  · rw [e, updB_same, h.sh.mem z, e]
    constructor
    · rintro ⟨⟨u, hu⟩, hk'⟩
      exact ⟨u, (hM _).2 ⟨hu, fun e => hk' ((hk _).1 e)⟩⟩
    · rintro ⟨u, hu⟩
      exact ⟨⟨u, ((hM _).1 hu).1⟩, fun e => ((hM _).1 hu).2 ((hk _).2 e)⟩
  · rw [updB_other _ _ e, ← h.sh.mem z]
    exact ⟨fun hz => hz.1, fun hz => ⟨hz, fun hk => e (plE_key hk)⟩⟩
/-- how many there are was written anew -/
theorem ShIs.count (h : ShIs w b R n L cs B) (n' : Int) : ShIs (w.setCell ⟨b, 256, none⟩ (.int .i64 n')) b R n' L cs B := by
  have o : Only b w (w.setCell ⟨b, 256, none⟩ (.int .i64 n')) := Only.set _ _ _
  have t : Turned (fun j => j = b) w _ := Turned.of_only o rfl
  have hb2 := h.blk.set_ 256 (.int .i64 n')
  refine ⟨h.len, ?_, fun i hi => (h.bd i hi).turned t (fun g hg e => h.ne_b hi hg e), h.inR, h.inj, fun i p hi hp => ⟨(h.ev i p hi hp).1.turned t (fun hl g hg e => Rd.ne32 (h.ev i p hi hp).1.2.1 hl h.no32 (by rw [hg, e])), (h.ev i p hi hp).2⟩, h.uniq, h.mem⟩
  have e : (scs cs n).toArray.setIfInBounds 256 (.int .i64 n') = (scs cs n').toArray := by
    unfold scs
    rw [List.setIfInBounds_toArray, List.set_append, if_neg (by rw [h.len]; omega), h.len]
    rfl
  rw [e] at hb2
  exact hb2
theorem ChIs.count (h : ChIs w0 w b c R n L cs B fl) (n' : Int) : ChIs w0 (w.setCell ⟨b, 256, none⟩ (.int .i64 n')) b c R n' L cs B fl := by
  have := h.hb
  have := h.hc
  exact ⟨h.sh.count n', h.cb.only (Only.set _ _ _) (by omega), h.flen, h.fl, h.hb, h.hc, h.hR⟩
/-- a board was made anew -/
theorem ChIs.opened {p g : Nat} {M' : List EV} (h : ChIs w0 w b c R n L cs B fl) (hp : p < 256) (hm : MapAt Try.prog 66 evc w g M') (hM : ∀ q, q ∈ M' ↔ q ∈ B p) (hg : w0 ≤ g) (hnew : ∀ i, i < 256 → cs.getD i nm ≠ .map (some g)) :
    ChIs w0 ((w.setCell ⟨b, p, none⟩ (.map (some g))).setCell ⟨c, p + 1, none⟩ (.bool true)) b c R n L (cs.set p (.map (some g))) (updB B p M') (fl.set p (.bool true)) := by
  have hbc : b ≠ c := by have := h.hb; have := h.hc; omega
  have o1 : Only b w (w.setCell ⟨b, p, none⟩ (.map (some g))) := Only.set _ _ _
  have o2 : Only c (w.setCell ⟨b, p, none⟩ (.map (some g))) ((w.setCell ⟨b, p, none⟩ (.map (some g))).setCell ⟨c, p + 1, none⟩ (.bool true)) := Only.set _ _ _
  have t : Turned (fun j => j = b ∨ j = c) w ((w.setCell ⟨b, p, none⟩ (.map (some g))).setCell ⟨c, p + 1, none⟩ (.bool true)) := (Turned.of_only o1 (.inl rfl)).trans (Turned.of_only o2 (S := fun j => j = b ∨ j = c) (.inr rfl)) (fun _ _ h => h)
  have hgb := hm.ne_blk h.sh.blk
  have hgc := hm.ne_blk h.cb
  have hlen := h.sh.len
  have hfl := h.flen
  have hcs : ∀ i, (cs.set p (.map (some g))).getD i nm = if i = p then .map (some g) else cs.getD i nm := fun i => by
    rw [List.getD_eq_getElem?_getD, List.getElem?_set]
    by_cases e : p = i
    · subst e; simp [hlen, hp]
    · rw [if_neg e, if_neg (fun e' => e e'.symm), List.getD_eq_getElem?_getD]
  have hfs : ∀ i, (fl.set p (.bool true)).getD i fb = if i = p then .bool true else fl.getD i fb := fun i => by
    rw [List.getD_eq_getElem?_getD, List.getElem?_set]
    by_cases e : p = i
    · subst e; simp [hfl, hp]
    · rw [if_neg e, if_neg (fun e' => e e'.symm), List.getD_eq_getElem?_getD]
  have hevk : ∀ q, EvIn R w q → EvIn R ((w.setCell ⟨b, p, none⟩ (.map (some g))).setCell ⟨c, p + 1, none⟩ (.bool true)) q := fun q hq => hq.turned t (fun hl j hj e => by
    rcases e with e | e
    · exact Rd.ne32 hq.2.1 hl h.sh.no32 (by rw [hj, e])
    · exact Rd.ne32 hq.2.1 hl h.no32 (by rw [hj, e]))
  refine ⟨⟨by simp [hlen], ?_, fun i hi => ?_, fun i g' hi hg' => ?_, fun i j g' hi hj hgi hgj => ?_, fun i q hi hq => ?_, h.sh.uniq, fun y => ?_⟩, ?_, by simp [hfl], fun i hi => ?_, h.hb, h.hc, h.hR⟩
  · have h1 := (h.sh.blk.set_ p (.map (some g))).only o2 hbc
    have e : (scs cs n).toArray.setIfInBounds p (.map (some g)) = (scs (cs.set p (.map (some g))) n).toArray := by
      unfold scs
      rw [List.setIfInBounds_toArray, List.set_append, if_pos (by rw [hlen]; exact hp)]
    rw [e] at h1
    exact h1
  · by_cases e : i = p
    · subst e
      rw [hcs, if_pos rfl, updB_same]
      exact .inr ⟨g, rfl, hm.turned t (fun e => by rcases e with e | e; exact hgb e; exact hgc e)⟩
    · rw [hcs, if_neg e, updB_other _ _ e]
      exact (h.sh.bd i hi).turned t (fun g' hg' e' => by
        rcases e' with e' | e'
        · exact h.sh.ne_b hi hg' e'
        · exact map_ne_blk h.sh hi hg' h.cb e')
  · rw [hcs] at hg'
    split at hg'
    · cases hg'
      exact h.hR _ hg
    · exact h.sh.inR i g' hi hg'
  · rw [hcs] at hgi hgj
    split at hgi
    · rename_i e
      split at hgj
      · rename_i e'; rw [e, e']
      · rw [← hgi] at hgj
        exact absurd hgj (hnew j hj)
    · split at hgj
      · rw [← hgj] at hgi
        exact absurd hgi (hnew i hi)
      · exact h.sh.inj i j g' hi hj hgi hgj
  · by_cases e : i = p
    · subst e
      rw [updB_same] at hq
      have := h.sh.ev i q hi ((hM q).1 hq)
      exact ⟨hevk q this.1, this.2⟩
    · rw [updB_other _ _ e] at hq
      have := h.sh.ev i q hi hq
      exact ⟨hevk q this.1, this.2⟩
  · rw [h.sh.mem y]
    by_cases e : plE y = p
    · rw [e, updB_same]
      exact ⟨fun ⟨x, hx⟩ => ⟨x, (hM _).2 hx⟩, fun ⟨x, hx⟩ => ⟨x, (hM _).1 hx⟩⟩
    · rw [updB_other _ _ e]
  · have h1 := (h.cb.only o1 (fun e => hbc e.symm)).set_ (p + 1) (.bool true)
    have e : (Value.pointer (some ⟨b, 0, none⟩) :: fl).toArray.setIfInBounds (p + 1) (.bool true) = (Value.pointer (some ⟨b, 0, none⟩) :: fl.set p (.bool true)).toArray := by
      rw [List.setIfInBounds_toArray]
      rfl
    rw [e] at h1
    exact h1
  · rw [hfs, hcs]
    by_cases e : i = p
    · rw [if_pos e, if_pos e]
      exact .inr ⟨rfl, g, rfl, hg⟩
    · rw [if_neg e, if_neg e]
      exact h.fl i hi
end
end Go.Proofs.Ytihfkjodjaoocaa
