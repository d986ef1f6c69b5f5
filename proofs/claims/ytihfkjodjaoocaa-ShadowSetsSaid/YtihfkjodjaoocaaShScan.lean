/- The document's answers for package shelf (petasosref09): Scan (written by genshscan.py). -/
import Derived.Test.YtihfkjodjaoocaaShPut
import Derived.Test.YtihfkjodjaoocaaRef
set_option maxRecDepth 4000
namespace Go.Proofs.Ytihfkjodjaoocaa
open Go.RowKit Mem
set_option linter.unusedSimpArgs false
set_option linter.unusedVariables false
attribute [local irreducible] Go.Calls

/-- two lists, each element to its fellow -/
def PW {α β : Type} (P : α → β → Prop) (hs : List α) (M : List β) : Prop := hs.length = M.length ∧ ∀ (i : Nat) (x : α) (y : β), hs[i]? = some x → M[i]? = some y → P x y
theorem PW.take {α β : Type} {P : α → β → Prop} {hs : List α} {M : List β} (h : PW P hs M) (k : Nat) : PW P (hs.take k) (M.take k) := by
  refine ⟨by rw [List.length_take, List.length_take, h.1], fun i x y hx hy => ?_⟩
  rw [List.getElem?_take] at hx hy
  split at hx
  · rename_i hik
    rw [if_pos hik] at hy
    exact h.2 i x y hx hy
  · cases hx
theorem PW.drop {α β : Type} {P : α → β → Prop} {hs : List α} {M : List β} (h : PW P hs M) (k : Nat) : PW P (hs.drop k) (M.drop k) := by
  refine ⟨by rw [List.length_drop, List.length_drop, h.1], fun i x y hx hy => ?_⟩
  rw [List.getElem?_drop] at hx hy
  exact h.2 (k + i) x y hx hy
theorem PW.append {α β : Type} {P : α → β → Prop} {hs hs' : List α} {M M' : List β} (h : PW P hs M) (h' : PW P hs' M') : PW P (hs ++ hs') (M ++ M') := by
  refine ⟨by rw [List.length_append, List.length_append, h.1, h'.1], fun i x y hx hy => ?_⟩
  by_cases hi : i < hs.length
  · rw [List.getElem?_append_left hi] at hx
    rw [List.getElem?_append_left (by rw [← h.1]; exact hi)] at hy
    exact h.2 i x y hx hy
  · rw [List.getElem?_append_right (by omega)] at hx
    rw [List.getElem?_append_right (by rw [← h.1]; omega), ← h.1] at hy
    exact h'.2 _ x y hx hy
theorem PW.one {α β : Type} {P : α → β → Prop} {x : α} {y : β} (h : P x y) : PW P [x] [y] := by
  refine ⟨rfl, fun i a b ha hb => ?_⟩
  cases i with
  | zero => simp at ha hb; subst ha hb; exact h
  | succ i => simp at ha
theorem PW.imp {α β : Type} {P P' : α → β → Prop} {hs : List α} {M : List β} (h : PW P hs M) (hp : ∀ x y, P x y → P' x y) : PW P' hs M := ⟨h.1, fun i x y hx hy => hp x y (h.2 i x y hx hy)⟩
/-- what is in a span -/
def hasV (f t v : Int) : Bool := decide (Cir.beh f v ≤ Cir.beh f t)
/-- where it is put -/
def insK (f : Int) (y : Ent) (M : List Ent) : Nat → Nat
  | 0 => 0
  | k + 1 => if aheadE f y (M.getD k e0) = true then insK f y M k else k + 1
theorem insK_le (f : Int) (y : Ent) (M : List Ent) : ∀ k, insK f y M k ≤ k
  | 0 => Nat.le_refl _
  | k + 1 => by
    unfold insK
    have := insK_le f y M k
    split <;> omega
def insE (f : Int) (y : Ent) (M : List Ent) : List Ent := M.take (insK f y M M.length) ++ ([y] ++ M.drop (insK f y M M.length))
def scanL (f t : Int) (L : List Ent) : List Ent := L.foldl (fun M y => if hasV f t y.1 = true then insE f y M else M) []
theorem scanL_step (f t : Int) {L : List Ent} {k : Nat} (hk : k < L.length) : scanL f t (L.take (k + 1)) = if hasV f t (L.getD k e0).1 = true then insE f (L.getD k e0) (scanL f t (L.take k)) else scanL f t (L.take k) := by
  unfold scanL
  rw [List.take_add_one, List.getElem?_eq_getElem hk, Option.toList_some, List.foldl_append, show L.getD k e0 = L[k] by simp [List.getD, hk]]
  rfl
theorem insE_len (f : Int) (y : Ent) (M : List Ent) : (insE f y M).length = M.length + 1 := by
  have := insK_le f y M M.length
  unfold insE
  simp
  omega
theorem scanL_len (f t : Int) (L : List Ent) : ∀ k, k ≤ L.length → (scanL f t (L.take k)).length ≤ k := by
  intro k
  induction k with
  | zero => intro _; simp [scanL]
  | succ k ih =>
    intro hk
    have := ih (by omega)
    rw [scanL_step f t (by omega)]
    split
    · rw [insE_len]; omega
    · omega
/-- a list that is told: all of it is new -/
def OutAt (B : Nat) (w : World) (v : Value) (M : List Ent) : Prop := ∃ hs : List (Raw 5), Row (rawE 5) 28 B w v hs ∧ PW (fun x y => EntIn (fun j => B ≤ j) w x y) hs M
theorem OutAt.keep {B : Nat} {w w' : World} {v : Value} {M : List Ent} (h : OutAt B w v M) (k : Below w.heap.size w w') : OutAt B w' v M := by
  obtain ⟨hs, h1, h2⟩ := h
  exact ⟨hs, h1.keep k, h2.imp fun x y h => h.turned (S := fun _ => False) (Turned.of_below k) (fun _ _ h => h)⟩
theorem OutAt.ents {B : Nat} {w : World} {v : Value} {M : List Ent} (h : OutAt B w v M) : EntsIn (fun j => B ≤ j) w v M := by
  obtain ⟨hs, h1, h2, h3⟩ := h
  exact ⟨hs, h2, h1.rd, fun _ g hg => (h1.block g hg).1, h3⟩
theorem span_info9 : (Try.prog.info? 61).map (·.size) = some 2 := by kernel_rfl
theorem Row.apart {α β : Type} {E : Enc α} {E' : Enc β} {T T' : TypeId} {B B' : Nat} {w : World} {v v' : Value} {l : List α} {l' : List β} (h : Row E T B w v l) (h' : Row E' T' B' w v' l') (hne : T ≠ T') : v.ownBlock = none ∨ v.ownBlock ≠ v'.ownBlock := by
  rcases h'.2 with ⟨rfl, _⟩ | ⟨g, cap, cur, rfl, _, hblk, _⟩
  · cases hv : v.ownBlock with
    | none => exact .inl rfl
    | some k => exact .inr (by intro e; cases e)
  · exact .inr (h.ne_blk hblk hne)
set_option maxRecDepth 100000 in
set_option maxHeartbeats 4000000 in
theorem rshscan_any (b : Nat) (W R : Nat → Prop) (L : List Ent) (f t : Int) (bf : 0 ≤ f ∧ f ≤ 4294967295) (bt : 0 ≤ t ∧ t ≤ 4294967295) (w : World) (h : RfAt w b W R L) (hLb : ∀ y ∈ L, entB y) (hLl : ∀ y ∈ L, y.2.1.2.2.length ≤ 35184372087808) (hLn : L.length ≤ 1000000) :
    Calls Try.prog 32 #[.pointer (some ⟨b, 0, none⟩), .agg #[.int .u32 f, .int .u32 t]] w fun e w' => ∃ v, e = .returned v ∧ OutAt w.heap.size w' v (scanL f t L) ∧ Below w.heap.size w w' := by
  have hk0 : Below w.heap.size w (w.alloc (.cells #[.int .u32 f, .int .u32 t] 61)) := more (Below.refl _ _) _
  have HB3 := Lib.hid (Blk.new w 61 #[.int .u32 f, .int .u32 t])
  obtain ⟨a, g, off, c, hc0, hc1, hc2, hc3, hc4⟩ := (h.keep hk0).at
  have HK := Lib.hid hk0
  have HC0 := Lib.hid hc0
  have HC3 := Lib.hid hc3
  have HC4 := Lib.hid hc4
  have hc2' : c ≤ 9223372036854775807 := hc2
  have HLB := Lib.hid hLb
  have HLL := Lib.hid hLl
  have HBF := Lib.hid bf
  have HBT := Lib.hid bt
  obtain ⟨B0, hB0⟩ : ∃ B, B = w.heap.size := ⟨_, rfl⟩
  have HB0 := Lib.hid hB0
  rw [← hB0]
  clear h hk0 hc0 hc3 hc4 hc2 hLb hLl bf bt hB0
  go_enter Try.func32, Try.ntmps32
  go_upto_block 99 with fail
  generalize w.alloc (.cells #[.int .u32 f, .int .u32 t] 61) = w1 at *
  obtain ⟨g3, hg3⟩ : ∃ g, g = w.heap.size := ⟨_, rfl⟩
  rw [← hg3] at HB3 ⊢
  clear hg3
  have HBW : Hid (B0 ≤ w1.heap.size) := Lib.hid (by rw [HB0.out]; exact HK.out.size)
  go_loopw [5, 6] (fun ov n wr => ∃ j : Nat, j ≤ L.length ∧ n = .int .i64 j ∧ OutAt B0 wr ov (scanL f t (L.take j)) ∧ Below w1.heap.size w1 wr) (fun _ n _ => L.length - (intOf n).toNat)
  case atStart => exact ⟨0, Nat.zero_le _, rfl, ⟨[], Row.nil, rfl, fun i x y hx _ => by simp at hx⟩, Below.refl _ _⟩
  case round =>
    obtain ⟨j, hj, rfl, hout, hb⟩ := hrel
    obtain ⟨wo, hwo⟩ : ∃ z, z = wr := ⟨_, rfl⟩
    subst hwo
    have HKW := Lib.hid hb
    have c0 : wo.cell? ⟨b, 0, none⟩ = some (.slice a L.length c) := kc hb HC0.out
    by_cases hlt : j < L.length
    case neg =>
      have hjl : j = L.length := by omega
      subst hjl
      rw [List.take_length] at hout
      have HOUT := Lib.hid hout
      clear hout hb
      go_wp2_with fail
      go_ret
      exact ⟨_, rfl, HOUT.out, by rw [HB0.out]; exact nest HK.out HKW.out⟩
    have hml := scanL_len f t L j hj
    have HSTEP := Lib.hid (scanL_step f t hlt)
    obtain ⟨M, hM⟩ : ∃ M, M = scanL f t (L.take j) := ⟨_, rfl⟩
    rw [← hM] at hout hml HSTEP
    obtain ⟨rfl, hg1, hg2⟩ := HC3.out (by omega)
    obtain ⟨x, t0, t1, t2, t3, t4, trx, trq⟩ := HC4.out j hlt
    clear trq
    have hm : L.getD j e0 ∈ L := by rw [show L.getD j e0 = L[j] by simp [List.getD, hlt]]; exact List.getElem_mem hlt
    have hyb := HLB.out _ hm
    have hyl := HLL.out _ hm
    obtain ⟨y, hy⟩ : ∃ y, y = L.getD j e0 := ⟨_, rfl⟩
    rw [← hy] at t0 t1 t2 t4 trx hyb hyl HSTEP
    obtain ⟨ax, cx, rfl, _, _⟩ := trx.form
    obtain ⟨ya, ⟨yi, yv, yl⟩, yg⟩ := y
    have hrx : Rd (intE .u32) wo (.slice ax yl.length cx) yl := trx.keep hb
    have d0 : wo.cell? ⟨g, off + j * 5, none⟩ = some (.int .u32 ya) := kc hb t0
    have d1 : wo.cell? ⟨g, off + j * 5 + 1, none⟩ = some (.int .u64 yi) := kc hb t1
    have d2 : wo.cell? ⟨g, off + j * 5 + 2, none⟩ = some (.int .u64 yv) := kc hb t2
    have d3 : wo.cell? ⟨g, off + j * 5 + 3, none⟩ = some (.slice ax yl.length cx) := kc hb t3
    have d4 : wo.cell? ⟨g, off + j * 5 + 4, none⟩ = some (.bool yg) := kc hb t4
    clear t0 t1 t2 t3 t4 trx
    have HRX : Hid (Rd (intE .u32) wo (.slice ax yl.length cx) yl) := Lib.hid hrx
    have HYL : Hid (yl.length ≤ 35184372087808) := Lib.hid hyl
    have hya : 0 ≤ ya ∧ ya ≤ 4294967295 := hyb.1
    have HST2 : Hid (scanL f t (L.take (j + 1)) = if hasV f t ya = true then insE f (ya, (yi, yv, yl), yg) M else M) := Lib.hid HSTEP.out
    obtain ⟨hb2, hhb⟩ : ∃ q, q = hasV f t ya := ⟨_, rfl⟩
    have HHAS : Hid (∀ z, Calls Try.prog 45 #[.agg #[.int .u32 f, .int .u32 t], .int .u32 ya] z fun e w' => e = .returned (.bool hb2) ∧ Below z.heap.size z w') := Lib.hid (fun z => by rw [hhb]; exact rhas_any f t ya HBF.out HBT.out hya z)
    rw [← hhb] at HST2
    obtain ⟨hs, hrow, hpw⟩ := hout
    obtain ⟨ao, co, rfl, hco1, hco2⟩ := hrow.rd.form
    have hsl := hpw.1
    rw [hsl] at hrow hco1 ⊢
    have hco2' : co ≤ 9223372036854775807 := hco2
    have HROW := Lib.hid hrow
    have HPW := Lib.hid hpw
    have HSL := Lib.hid hsl
    clear hM hm hyb hyl hy hrx hhb hya HSTEP hrow hpw hg1 hg2 hb hsl
    go_upto_region 6 with (refine at_store 7 rfl ?_; refine wpList_store_row rfl 28 (.tmp 7) (.tmp 24) rfl wo.heap.size #[.int .u32 ya, .int .u64 yi, .int .u64 yv, .slice ax yl.length cx, .bool yg] rfl rfl 28 _ (heap_alloc_new wo _) ent_info' rfl (by simp [Value.oneCell']) ?_)
    (try rw [World.setRow_alloc_new])
    have hX : Below wo.heap.size wo (wo.alloc (.cells #[.int .u32 ya, .int .u64 yi, .int .u64 yv, .slice ax yl.length cx, .bool yg] 28)) := more (Below.refl _ _) _
    have HB7 := Lib.hid (Blk.new wo 28 #[.int .u32 ya, .int .u64 yi, .int .u64 yv, .slice ax yl.length cx, .bool yg])
    have HX := Lib.hid hX
    have HB31 := Lib.hid ((HB3.out.keep HKW.out).keep hX)
    clear hX d0 d1 d2 d3 d4 c0
    generalize wo.alloc (.cells #[.int .u32 ya, .int .u64 yi, .int .u64 yv, .slice ax yl.length cx, .bool yg] 28) = z1 at *
    obtain ⟨g7, hg7⟩ : ∃ g, g = wo.heap.size := ⟨_, rfl⟩
    rw [← hg7] at HB7 ⊢
    clear hg7
    have c70 : z1.cell? ⟨g7, 0, none⟩ = some (.int .u32 ya) := HB7.out.cell 0
    cases hb2 with
    | false =>
      have HNX : Hid (scanL f t (L.take (j + 1)) = M) := Lib.hid (by rw [HST2.out, if_neg (by decide)])
      go_wp2_with (first | (refine at_load 3 rfl ?_; refine wpList_load_row rfl 61 (.tmp 3) rfl g3 rfl 61 _ (0, 0) _ HB31.out Try.underlying61 rfl span_info9 ?_) | (go_at_call 45; refine (HHAS.out _).mono ?_; rintro e z2 ⟨rfl, hk⟩))
      exact ⟨⟨j + 1, by omega, by go_num, by rw [HNX.out]; exact OutAt.keep ⟨hs, HROW.out, HPW.out⟩ (nest HX.out hk), nest (nest HKW.out HX.out) hk⟩, by simp [intOf]; omega⟩
    | true =>
      have HNX : Hid (scanL f t (L.take (j + 1)) = insE f (ya, (yi, yv, yl), yg) M) := Lib.hid (by rw [HST2.out, if_pos rfl])
      go_upto_region 7 with (first | (refine at_load 3 rfl ?_; refine wpList_load_row rfl 61 (.tmp 3) rfl g3 rfl 61 _ (0, 0) _ HB31.out Try.underlying61 rfl span_info9 ?_) | (go_at_call 45; refine (HHAS.out _).mono ?_; rintro e z2 ⟨rfl, hk⟩))
      have HX2 := Lib.hid (nest HX.out hk)
      have HB72 := Lib.hid (HB7.out.keep hk)
      have HB32 := Lib.hid (HB31.out.keep hk)
      clear hk c70 HB7 HB31 HX
      go_upto_block 99 with fail
      go_loopw [8] (fun kv wq => ∃ kk : Nat, kk ≤ M.length ∧ kv = .int .i64 kk ∧ insK f (ya, (yi, yv, yl), yg) M kk = insK f (ya, (yi, yv, yl), yg) M M.length ∧ Below wo.heap.size wo wq ∧ Blk wq g7 28 #[.int .u32 ya, .int .u64 yi, .int .u64 yv, .slice ax yl.length cx, .bool yg] ∧ Blk wq g3 61 #[.int .u32 f, .int .u32 t]) (fun kv _ => (intOf kv).toNat)
      case atStart => exact ⟨M.length, Nat.le_refl _, rfl, rfl, HX2.out, HB72.out, HB32.out⟩
      case round =>
        obtain ⟨kk, hkk, rfl, hins, hkq, hb7, hb3⟩ := hrel
        have HKQ := Lib.hid hkq
        have HB7Q := Lib.hid hb7
        have HB3Q := Lib.hid hb3
        have HINS := Lib.hid hins
        clear hkq hb7 hb3 hins HX2 HB72 HB32
        rcases Nat.eq_zero_or_pos kk with h0 | h0
        · skip
          as_aux_lemma =>
            have HKI : Hid (insK f (ya, (yi, yv, yl), yg) M M.length = kk) := Lib.hid (by rw [← HINS.out, h0]; rfl)
            have d0 : decide ((kk : Int) > 0) = false := decide_eq_false (by omega)
            go_upto_region 8 with fail
            refine Run.region_walk (S := fun z => Blk z g7 28 #[.int .u32 ya, .int .u64 yi, .int .u64 yv, .slice ax yl.length cx, .bool yg] ∧ Below wo.heap.size wo z)
              rshscan.rows7 rshscan.plan7 (l := ?steps1) (by kernel_rfl) (by kernel_rfl) (by kernel_rfl) (by kernel_rfl) ?written1 ⟨HB7Q.out.keep (Below.refl _ _).drew, HKQ.out.drew⟩ ?onward1
            case written1 =>
              simp only [rshscan.plan7, Run.stepsOf, Run.stepOf, Run.guardOf, List.getElem?_toArray, List.getElem?_cons_zero, List.getElem?_cons_succ, Option.map_some, Option.map_none, Option.bind_some, Option.toList_some, List.map_cons, List.map_nil, List.cons_append, List.nil_append, List.append_eq]
              rfl
            repeat ((first
              | (refine Run.takes (v := ?_) ?_ ?_; rotate_left; (· intro w' hS'; (first | (refine exec_load_blk (n := 5) (x := .tmp 7) (l := [.int .u32 ya, .int .u64 yi, .int .u64 yv, .slice ax yl.length cx, .bool yg]) ?_ Try.underlying28 ent_info' ?_ ?_ hS'.1 <;> rfl) | (go_simp; (try with_reducible rfl)))))
              | (refine Run.takesG (v := ?_) ?_ ?_ ?_; rotate_left; (· simp only [List.getElem?_cons_zero, List.getElem?_cons_succ]); (· intro w' hS'; (first | (refine exec_load_blk (n := 5) (x := .tmp 7) (l := [.int .u32 ya, .int .u64 yi, .int .u64 yv, .slice ax yl.length cx, .bool yg]) ?_ Try.underlying28 ent_info' ?_ ?_ hS'.1 <;> rfl) | (go_simp; (try with_reducible rfl)))))
              | (refine Run.skipsT ?_ ?_; (· simp only [List.getElem?_cons_zero, List.getElem?_cons_succ]))
              | (refine Run.skipsF ?_ ?_; (· simp only [List.getElem?_cons_zero, List.getElem?_cons_succ]))
              | (refine Run.skipsU ?_ ?_; (· simp only [List.getElem?_cons_zero, List.getElem?_cons_succ]))
              | (refine Run.passT ?_ ?_; (· simp only [List.getElem?_cons_zero, List.getElem?_cons_succ]))
              | (refine Run.passF ?_ ?_; (· simp only [List.getElem?_cons_zero, List.getElem?_cons_succ]))
              | (refine Run.passU ?_ ?_; (· simp only [List.getElem?_cons_zero, List.getElem?_cons_succ]))
              | fail); simp only [Act.put, List.setIfInBounds_toArray, List.set_cons_zero, List.set_cons_succ])
            refine Run.ends (fun hS => ?_)
            have HBX := Lib.hid hS.1
            have HKX := Lib.hid hS.2
            clear hS d0 h0
            generalize wr.drew = zs at *
            have hkM : kk ≤ M.length := by omega
            have hcut1 := run_cut_to (P := Try.prog) entElem ao M.length co (kk) (by omega)
            rw [cutA_zero] at hcut1
            have hcut2 := run_cut_from (P := Try.prog) entElem ao M.length co (kk) (by omega) (by omega)
            have hrd := HROW.out.rd
            have hr1 := hrd.cutA (lo := 0) (hi := kk) (Nat.zero_le _) (by rw [HSL.out]; omega)
            rw [cutA_zero, List.drop_zero, Nat.sub_zero, Nat.sub_zero] at hr1
            have hr2 := hrd.cutA (lo := kk) (hi := hs.length) (by rw [HSL.out]; omega) (Nat.le_refl _)
            rw [List.take_length, HSL.out] at hr2
            have e5 : (rawE 5).size = 5 := rfl
            rw [e5] at hr2
            generalize cutA ao co (kk) 5 = ac at *
            have HR1 := Lib.hid hr1
            have HR2 := Lib.hid hr2
            have HT1 : Hid ((hs.take (kk)).length = kk) := Lib.hid (by rw [List.length_take, HSL.out]; omega)
            have HT2 : Hid ((hs.drop (kk)).length = M.length - (kk)) := Lib.hid (by rw [List.length_drop, HSL.out])
            have HP1 := Lib.hid (HPW.out.take (kk))
            have HP2 := Lib.hid (HPW.out.drop (kk))
            obtain ⟨L1, hL1⟩ : ∃ X, hs.take (kk) = X := ⟨_, rfl⟩
            obtain ⟨L2, hL2⟩ : ∃ X, hs.drop (kk) = X := ⟨_, rfl⟩
            rw [hL1] at HR1 HT1 HP1
            rw [hL2] at HR2 HT2 HP2
            have HML : Hid (M.length ≤ 1000000) := Lib.hid (by omega)
            have HKM := Lib.hid hkM
            clear hrd hr1 hr2 hL1 hL2 e5 hkM
            go_upto_region 10 with fail
            refine Run.region_walk (S := fun z => Blk z g7 28 #[.int .u32 ya, .int .u64 yi, .int .u64 yv, .slice ax yl.length cx, .bool yg] ∧ Below zs.heap.size zs z)
              rshscan.rows9 rshscan.plan9 (l := ?steps2) (by kernel_rfl) (by kernel_rfl) (by kernel_rfl) (by kernel_rfl) ?written2 ⟨HBX.out.keep (Below.refl _ _).drew, (Below.refl _ _).drew⟩ ?onward2
            case written2 =>
              simp only [rshscan.plan9, Run.stepsOf, Run.stepOf, Run.guardOf, List.getElem?_toArray, List.getElem?_cons_zero, List.getElem?_cons_succ, Option.map_some, Option.map_none, Option.bind_some, Option.toList_some, List.map_cons, List.map_nil, List.cons_append, List.nil_append, List.append_eq]
              rfl
            repeat ((first
              | (refine Run.takes (v := ?_) ?_ ?_; rotate_left; (· intro w' hS'; (first | (refine exec_load_blk (n := 5) (x := .tmp 7) (l := [.int .u32 ya, .int .u64 yi, .int .u64 yv, .slice ax yl.length cx, .bool yg]) ?_ Try.underlying28 ent_info' ?_ ?_ hS'.1 <;> rfl) | (go_simp; (try with_reducible rfl)))))
              | (refine Run.takesG (v := ?_) ?_ ?_ ?_; rotate_left; (· simp only [List.getElem?_cons_zero, List.getElem?_cons_succ]); (· intro w' hS'; (first | (refine exec_load_blk (n := 5) (x := .tmp 7) (l := [.int .u32 ya, .int .u64 yi, .int .u64 yv, .slice ax yl.length cx, .bool yg]) ?_ Try.underlying28 ent_info' ?_ ?_ hS'.1 <;> rfl) | (go_simp; (try with_reducible rfl)))))
              | (refine Run.skipsT ?_ ?_; (· simp only [List.getElem?_cons_zero, List.getElem?_cons_succ]))
              | (refine Run.skipsF ?_ ?_; (· simp only [List.getElem?_cons_zero, List.getElem?_cons_succ]))
              | (refine Run.skipsU ?_ ?_; (· simp only [List.getElem?_cons_zero, List.getElem?_cons_succ]))
              | (refine Run.passT ?_ ?_; (· simp only [List.getElem?_cons_zero, List.getElem?_cons_succ]))
              | (refine Run.passF ?_ ?_; (· simp only [List.getElem?_cons_zero, List.getElem?_cons_succ]))
              | (refine Run.passU ?_ ?_; (· simp only [List.getElem?_cons_zero, List.getElem?_cons_succ]))
              | fail); simp only [Act.put, List.setIfInBounds_toArray, List.set_cons_zero, List.set_cons_succ])
            clear hcut1 hcut2
            refine Run.runsS (Run.one (fun hS K1 hK1 => ?_))
            refine wp_append (E := rawE 5) (B := zs.heap.size) (v := .slice none 0 0) (l := []) (m := L1) (bytes := 56) entElem (Nat.zero_lt_succ 4) (.const (.slice none 0 0)) (.tmp 49) rfl rfl Row.nil rfl ((HR1.out.keep HKX.out).keep hS.2) (by rw [HT1.out]; have := HML.out; have := HKM.out; simp only [List.length_nil, List.length_cons, maxLen]; omega) (by rw [HT1.out]; have := HML.out; have := HKM.out; simp only [List.length_nil, List.length_cons]; omega) hS.2.size ?_
            intro v1 x1 hrA hkA hgA hoA
            clear hgA hoA
            rw [List.nil_append] at hrA
            obtain ⟨aA, cA, rfl, _, _⟩ := hrA.rd.form
            have HRA := Lib.hid hrA
            have hkz := hS.2.trans hkA
            have HKZ := Lib.hid hkz
            refine hK1.out _ _ ⟨HBX.out.keep HKZ.out, HKZ.out⟩ (fun _ => ⟨fun z => Blk z g7 28 #[.int .u32 ya, .int .u64 yi, .int .u64 yv, .slice ax yl.length cx, .bool yg] ∧ Below zs.heap.size zs z, fun z h => h, ⟨HBX.out.keep HKZ.out, HKZ.out⟩, ?_⟩)
            clear hS K1 hK1 hrA hkA hkz
            try simp only [Act.put, List.setIfInBounds_toArray, List.set_cons_zero, List.set_cons_succ]
            repeat ((first
              | (refine Run.takes (v := ?_) ?_ ?_; rotate_left; (· intro w' hS'; go_simp; (try with_reducible rfl)))
              | (refine Run.takesG (v := ?_) ?_ ?_ ?_; rotate_left; (· simp only [List.getElem?_cons_zero, List.getElem?_cons_succ]); (· intro w' hS'; go_simp; (try with_reducible rfl)))
              | (refine Run.skipsT ?_ ?_; (· simp only [List.getElem?_cons_zero, List.getElem?_cons_succ]))
              | (refine Run.skipsF ?_ ?_; (· simp only [List.getElem?_cons_zero, List.getElem?_cons_succ]))
              | (refine Run.skipsU ?_ ?_; (· simp only [List.getElem?_cons_zero, List.getElem?_cons_succ]))
              | (refine Run.passT ?_ ?_; (· simp only [List.getElem?_cons_zero, List.getElem?_cons_succ]))
              | (refine Run.passF ?_ ?_; (· simp only [List.getElem?_cons_zero, List.getElem?_cons_succ]))
              | (refine Run.passU ?_ ?_; (· simp only [List.getElem?_cons_zero, List.getElem?_cons_succ]))
              | fail); simp only [Act.put, List.setIfInBounds_toArray, List.set_cons_zero, List.set_cons_succ])
            refine Run.runsS (Run.callF 29 (by kernel_rfl) (fun hS => copyent_any (ya, (yi, yv, yl), yg) (.slice ax yl.length cx) _ (HRX.out.keep (nest HKX.out hS.2)) HYL.out) rfl ?_)
            rintro hS e x2 ⟨xq, rfl, hrq, hkq⟩
            have HKZ2 := Lib.hid (nest HKZ.out hkq)
            have HRQ2 : Hid (Row (intE .u32) 22 zs.heap.size x2 xq yl) := Lib.hid (hrq.mono HKZ.out.size)
            have HRA2 := Lib.hid (HRA.out.keep hkq)
            obtain ⟨aq, cq, rfl, _, _⟩ := hrq.rd.form
            refine ⟨_, rfl, ⟨HBX.out.keep HKZ2.out, HKZ2.out⟩, fun _ => ⟨fun z => Blk z g7 28 #[.int .u32 ya, .int .u64 yi, .int .u64 yv, .slice ax yl.length cx, .bool yg] ∧ Below zs.heap.size zs z, fun z h => h, ⟨HBX.out.keep HKZ2.out, HKZ2.out⟩, ?_⟩⟩
            clear hS hrq hkq HKZ HRA
            try simp only [Act.put, List.setIfInBounds_toArray, List.set_cons_zero, List.set_cons_succ]
            repeat ((first
              | (refine Run.takes (v := ?_) ?_ ?_; rotate_left; (· intro w' hS'; go_simp; (try with_reducible rfl)))
              | (refine Run.takesG (v := ?_) ?_ ?_ ?_; rotate_left; (· simp only [List.getElem?_cons_zero, List.getElem?_cons_succ]); (· intro w' hS'; go_simp; (try with_reducible rfl)))
              | (refine Run.skipsT ?_ ?_; (· simp only [List.getElem?_cons_zero, List.getElem?_cons_succ]))
              | (refine Run.skipsF ?_ ?_; (· simp only [List.getElem?_cons_zero, List.getElem?_cons_succ]))
              | (refine Run.skipsU ?_ ?_; (· simp only [List.getElem?_cons_zero, List.getElem?_cons_succ]))
              | (refine Run.passT ?_ ?_; (· simp only [List.getElem?_cons_zero, List.getElem?_cons_succ]))
              | (refine Run.passF ?_ ?_; (· simp only [List.getElem?_cons_zero, List.getElem?_cons_succ]))
              | (refine Run.passU ?_ ?_; (· simp only [List.getElem?_cons_zero, List.getElem?_cons_succ]))
              | fail); simp only [Act.put, List.setIfInBounds_toArray, List.set_cons_zero, List.set_cons_succ])
            refine Run.runsS (Run.one (fun hS K1 hK1 => ?_))
            have hecl : ecl (ya, (yi, yv, yl), yg) (.slice aq yl.length cq) = [.int .u32 ya, .int .u64 yi, .int .u64 yv, .slice aq yl.length cq, .bool yg] := rfl
            rw [hecl]
            clear hecl
            refine wp_build_one (size := 5) (bytes := 56) entElem (by decide) (by decide) _ rfl (C := #[.int .u32 ya, .int .u64 yi, .int .u64 yv, .slice aq yl.length cq, .bool yg]) rfl rfl ?_
            have hX : Below x2.heap.size x2 (x2.alloc (.cells #[.int .u32 ya, .int .u64 yi, .int .u64 yv, .slice aq yl.length cq, .bool yg] 28)) := more (Below.refl _ _) _
            have HX3 := Lib.hid (Row.lit (E := rawE 5) x2.heap.size x2 #[.int .u32 ya, .int .u64 yi, .int .u64 yv, .slice aq yl.length cq, .bool yg] [rawEnt (ya, (yi, yv, yl), yg) (.slice aq yl.length cq) rfl] 1 x2.heap.size rfl rfl rfl (Nat.le_refl _) (by simp [maxLen]) : Row (rawE 5) 28 x2.heap.size (x2.alloc (.cells #[.int .u32 ya, .int .u64 yi, .int .u64 yv, .slice aq yl.length cq, .bool yg] 28)) (.slice (some ⟨x2.heap.size, 0, none⟩) 1 1) [rawEnt (ya, (yi, yv, yl), yg) (.slice aq yl.length cq) rfl])
            have HKZ3 := Lib.hid (nest HKZ2.out hX)
            have HRQ3 := Lib.hid (HRQ2.out.keep hX)
            have HRA3 := Lib.hid (HRA2.out.keep hX)
            refine hK1.out _ _ ⟨HBX.out.keep HKZ3.out, HKZ3.out⟩ (fun _ => ⟨fun z => Blk z g7 28 #[.int .u32 ya, .int .u64 yi, .int .u64 yv, .slice ax yl.length cx, .bool yg] ∧ Below zs.heap.size zs z, fun z h => h, ⟨HBX.out.keep HKZ3.out, HKZ3.out⟩, ?_⟩)
            clear hS K1 hK1 hX HKZ2 HRQ2 HRA2
            generalize x2.alloc (.cells #[.int .u32 ya, .int .u64 yi, .int .u64 yv, .slice aq yl.length cq, .bool yg] 28) = x3 at *
            try simp only [Act.put, List.setIfInBounds_toArray, List.set_cons_zero, List.set_cons_succ]
            repeat ((first
              | (refine Run.takes (v := ?_) ?_ ?_; rotate_left; (· intro w' hS'; go_simp; (try with_reducible rfl)))
              | (refine Run.takesG (v := ?_) ?_ ?_ ?_; rotate_left; (· simp only [List.getElem?_cons_zero, List.getElem?_cons_succ]); (· intro w' hS'; go_simp; (try with_reducible rfl)))
              | (refine Run.skipsT ?_ ?_; (· simp only [List.getElem?_cons_zero, List.getElem?_cons_succ]))
              | (refine Run.skipsF ?_ ?_; (· simp only [List.getElem?_cons_zero, List.getElem?_cons_succ]))
              | (refine Run.skipsU ?_ ?_; (· simp only [List.getElem?_cons_zero, List.getElem?_cons_succ]))
              | (refine Run.passT ?_ ?_; (· simp only [List.getElem?_cons_zero, List.getElem?_cons_succ]))
              | (refine Run.passF ?_ ?_; (· simp only [List.getElem?_cons_zero, List.getElem?_cons_succ]))
              | (refine Run.passU ?_ ?_; (· simp only [List.getElem?_cons_zero, List.getElem?_cons_succ]))
              | fail); simp only [Act.put, List.setIfInBounds_toArray, List.set_cons_zero, List.set_cons_succ])
            refine Run.runsS (Run.one (fun hS K1 hK1 => ?_))
            refine wp_append (E := rawE 5) (B := zs.heap.size) (l := L1) (m := [rawEnt (ya, (yi, yv, yl), yg) (.slice aq yl.length cq) rfl]) (bytes := 56) entElem (Nat.zero_lt_succ 4) (.tmp 50) (.tmp 53) rfl rfl HRA3.out rfl HX3.out.rd (by rw [HT1.out]; have := HML.out; have := HKM.out; simp only [List.length_nil, List.length_cons, maxLen]; omega) (by rw [HT1.out]; have := HML.out; have := HKM.out; simp only [List.length_nil, List.length_cons]; omega) HKZ3.out.size ?_
            intro v2 x4 hrB hkB hgB hoB
            clear hoB
            obtain ⟨nB, hnB⟩ : ∃ n, n = (L1 ++ [rawEnt (ya, (yi, yv, yl), yg) (.slice aq yl.length cq) rfl]).length := ⟨_, rfl⟩
            obtain ⟨aB, cB, rfl, _, _⟩ := hrB.rd.form
            rw [← hnB] at hrB ⊢
            clear hnB
            have HRB := Lib.hid hrB
            have HKZ4 := Lib.hid (HKZ3.out.trans hkB)
            have HRQ4 := Lib.hid (HRQ3.out.kept hgB (Row.apart HRQ3.out HRA3.out (by decide)))
            refine hK1.out _ _ ⟨HBX.out.keep HKZ4.out, HKZ4.out⟩ (fun _ => ⟨fun z => Blk z g7 28 #[.int .u32 ya, .int .u64 yi, .int .u64 yv, .slice ax yl.length cx, .bool yg] ∧ Below zs.heap.size zs z, fun z h => h, ⟨HBX.out.keep HKZ4.out, HKZ4.out⟩, ?_⟩)
            clear hS K1 hK1 hrB hkB hgB HKZ3 HRQ3 HRA3 HX3
            try simp only [Act.put, List.setIfInBounds_toArray, List.set_cons_zero, List.set_cons_succ]
            repeat ((first
              | (refine Run.takes (v := ?_) ?_ ?_; rotate_left; (· intro w' hS'; go_simp; (try with_reducible rfl)))
              | (refine Run.takesG (v := ?_) ?_ ?_ ?_; rotate_left; (· simp only [List.getElem?_cons_zero, List.getElem?_cons_succ]); (· intro w' hS'; go_simp; (try with_reducible rfl)))
              | (refine Run.skipsT ?_ ?_; (· simp only [List.getElem?_cons_zero, List.getElem?_cons_succ]))
              | (refine Run.skipsF ?_ ?_; (· simp only [List.getElem?_cons_zero, List.getElem?_cons_succ]))
              | (refine Run.skipsU ?_ ?_; (· simp only [List.getElem?_cons_zero, List.getElem?_cons_succ]))
              | (refine Run.passT ?_ ?_; (· simp only [List.getElem?_cons_zero, List.getElem?_cons_succ]))
              | (refine Run.passF ?_ ?_; (· simp only [List.getElem?_cons_zero, List.getElem?_cons_succ]))
              | (refine Run.passU ?_ ?_; (· simp only [List.getElem?_cons_zero, List.getElem?_cons_succ]))
              | fail); simp only [Act.put, List.setIfInBounds_toArray, List.set_cons_zero, List.set_cons_succ])
            refine Run.runsS (Run.one (fun hS K1 hK1 => ?_))
            have HLB1 : Hid ((L1 ++ [rawEnt (ya, (yi, yv, yl), yg) (.slice aq yl.length cq) rfl]).length = (kk) + 1) := Lib.hid (by rw [List.length_append, HT1.out]; rfl)
            refine wp_append (E := rawE 5) (B := zs.heap.size) (l := L1 ++ [rawEnt (ya, (yi, yv, yl), yg) (.slice aq yl.length cq) rfl]) (m := L2) (bytes := 56) entElem (Nat.zero_lt_succ 4) (.tmp 54) (.tmp 57) rfl rfl HRB.out rfl ((HR2.out.keep HKX.out).keep HKZ4.out) (by rw [HLB1.out, HT2.out]; have := HML.out; have := HKM.out; simp only [maxLen]; omega) (by rw [HLB1.out, HT2.out]; have := HML.out; have := HKM.out; omega) HKZ4.out.size ?_
            intro v3 x5 hrC hkC hgC hoC
            clear hoC
            have HKZ5 := Lib.hid (HKZ4.out.trans hkC)
            have HRQ5 := Lib.hid (HRQ4.out.kept hgC (Row.apart HRQ4.out HRB.out (by decide)))
            have HWO5 : Hid (Below wo.heap.size wo x5) := Lib.hid (nest HKX.out HKZ5.out)
            have HBZ : Hid (B0 ≤ zs.heap.size) := Lib.hid (Nat.le_trans HBW.out (Nat.le_trans HKW.out.size HKX.out.size))
            have HOUT : Hid (OutAt B0 x5 v3 (insE f (ya, (yi, yv, yl), yg) M)) := Lib.hid ⟨(L1 ++ [rawEnt (ya, (yi, yv, yl), yg) (.slice aq yl.length cq) rfl]) ++ L2, hrC.mono HBZ.out, by
              unfold insE
              rw [HKI.out, ← List.append_assoc]
              exact ((HP1.out.imp fun x y h => h.turned (S := fun _ => False) (Turned.of_below HWO5.out) (fun _ _ h => h)).append (PW.one ⟨_, rfl, HRQ5.out.rd, fun _ g hg => Nat.le_trans HBZ.out (HRQ5.out.block g hg).1⟩)).append (HP2.out.imp fun x y h => h.turned (S := fun _ => False) (Turned.of_below HWO5.out) (fun _ _ h => h))⟩
            obtain ⟨n5, hn5⟩ : ∃ n5, n5 = ((L1 ++ [rawEnt (ya, (yi, yv, yl), yg) (.slice aq yl.length cq) rfl]) ++ L2).length := ⟨_, rfl⟩
            obtain ⟨a5, c5, rfl, _, _⟩ := hrC.rd.form
            rw [← hn5] at HOUT ⊢
            refine hK1.out _ _ ⟨HBX.out.keep HKZ5.out, HKZ5.out⟩ (fun _ => ⟨fun z => Blk z g7 28 #[.int .u32 ya, .int .u64 yi, .int .u64 yv, .slice ax yl.length cx, .bool yg] ∧ Below zs.heap.size zs z, fun z h => h, ⟨HBX.out.keep HKZ5.out, HKZ5.out⟩, ?_⟩)
            clear hS K1 hK1 hrC hkC hgC HKZ4 HRQ4 HRB HLB1 hn5
            try simp only [Act.put, List.setIfInBounds_toArray, List.set_cons_zero, List.set_cons_succ]
            repeat ((first
              | (refine Run.takes (v := ?_) ?_ ?_; rotate_left; (· intro w' hS'; go_simp; (try with_reducible rfl)))
              | (refine Run.takesG (v := ?_) ?_ ?_ ?_; rotate_left; (· simp only [List.getElem?_cons_zero, List.getElem?_cons_succ]); (· intro w' hS'; go_simp; (try with_reducible rfl)))
              | (refine Run.skipsT ?_ ?_; (· simp only [List.getElem?_cons_zero, List.getElem?_cons_succ]))
              | (refine Run.skipsF ?_ ?_; (· simp only [List.getElem?_cons_zero, List.getElem?_cons_succ]))
              | (refine Run.skipsU ?_ ?_; (· simp only [List.getElem?_cons_zero, List.getElem?_cons_succ]))
              | (refine Run.passT ?_ ?_; (· simp only [List.getElem?_cons_zero, List.getElem?_cons_succ]))
              | (refine Run.passF ?_ ?_; (· simp only [List.getElem?_cons_zero, List.getElem?_cons_succ]))
              | (refine Run.passU ?_ ?_; (· simp only [List.getElem?_cons_zero, List.getElem?_cons_succ]))
              | fail); simp only [Act.put, List.setIfInBounds_toArray, List.set_cons_zero, List.set_cons_succ])
            refine Run.ends (fun _ => ?_)
            go_wp2_with fail
            exact ⟨⟨j + 1, by omega, by go_num, by rw [HNX.out]; exact HOUT.out, nest HKW.out HWO5.out⟩, by simp [intOf]; omega⟩
        · skip
          as_aux_lemma =>
            obtain ⟨m, hm0⟩ : ∃ m, kk = m + 1 := ⟨kk - 1, by omega⟩
            have HM0 := Lib.hid hm0
            have hmM : m < M.length := by omega
            have hwk : IntKind.i64.wrap ((kk : Int) - 1) = (m : Int) := by rw [IntWalk.i64_in _ (by omega)]; omega
            have hwk2 : wrap64 ((kk : Int) - 1) = (m : Int) := by unfold wrap64; omega
            have hgt : decide ((kk : Int) > 0) = true := decide_eq_true (by omega)
            have hgt2 : (kk : Int) > 0 := by omega
            have hgt3 : 0 < kk := h0
            clear h0 hm0
            have hout : OutAt B0 wr (.slice ao M.length co) M := OutAt.keep ⟨hs, HROW.out, HPW.out⟩ HKQ.out
            obtain ⟨a9, g9, off9, c9, hv9, _, _, h93, h94⟩ := hout.ents.at
            injection hv9 with e1 e2 e3
            subst e1 e3
            obtain ⟨rfl, _, _⟩ := h93 (by omega)
            obtain ⟨x9, t0, t1, t2, t3, t4, hr9, trq⟩ := h94 m hmM
            clear trq
            have HINK : Hid (insK f (ya, (yi, yv, yl), yg) M kk = if aheadE f (ya, (yi, yv, yl), yg) (M.getD m e0) = true then insK f (ya, (yi, yv, yl), yg) M m else kk) := Lib.hid (by rw [HM0.out]; rfl)
            obtain ⟨q, hq⟩ : ∃ q, q = M.getD m e0 := ⟨_, rfl⟩
            rw [← hq] at t0 t1 t2 t4 hr9 HINK
            obtain ⟨qx, qc, rfl, _, _⟩ := hr9.form
            obtain ⟨qa, ⟨qi, qv, ql⟩, qg⟩ := q
            have d0 : wr.cell? ⟨g9, off9 + m * 5, none⟩ = some (.int .u32 qa) := t0
            have d1 : wr.cell? ⟨g9, off9 + m * 5 + 1, none⟩ = some (.int .u64 qi) := t1
            have d2 : wr.cell? ⟨g9, off9 + m * 5 + 2, none⟩ = some (.int .u64 qv) := t2
            have d3 : wr.cell? ⟨g9, off9 + m * 5 + 3, none⟩ = some (.slice qx ql.length qc) := t3
            have d4 : wr.cell? ⟨g9, off9 + m * 5 + 4, none⟩ = some (.bool qg) := t4
            clear t0 t1 t2 t3 t4
            have s0 : wr.cell? ⟨g3, 0, none⟩ = some (.int .u32 f) := HB3Q.out.cell 0
            obtain ⟨ah, hah⟩ : ∃ ah, ah = aheadE f (ya, (yi, yv, yl), yg) (qa, (qi, qv, ql), qg) := ⟨_, rfl⟩
            have HAH : Hid (∀ z, Calls Try.prog 46 #[.int .u32 f, .agg #[.int .u32 ya, .int .u64 yi, .int .u64 yv, .slice ax yl.length cx, .bool yg], .agg #[.int .u32 qa, .int .u64 qi, .int .u64 qv, .slice qx ql.length qc, .bool qg]] z fun e w' => e = .returned (.bool ah) ∧ Below z.heap.size z w') := Lib.hid (fun z => by rw [hah]; exact rshahead_any f (ya, (yi, yv, yl), yg) (qa, (qi, qv, ql), qg) (.slice ax yl.length cx) (.slice qx ql.length qc) z)
            rw [← hah] at HINK
            clear hah hq hr9 hout h93 h94 e2
            go_upto_region 8 with fail
            refine Run.region_walk (S := fun z => z.cell? ⟨g3, 0, none⟩ = some (.int .u32 f) ∧ z.cell? ⟨g9, off9 + m * 5, none⟩ = some (.int .u32 qa) ∧ z.cell? ⟨g9, off9 + m * 5 + 1, none⟩ = some (.int .u64 qi) ∧ z.cell? ⟨g9, off9 + m * 5 + 2, none⟩ = some (.int .u64 qv) ∧ z.cell? ⟨g9, off9 + m * 5 + 3, none⟩ = some (.slice qx ql.length qc) ∧ z.cell? ⟨g9, off9 + m * 5 + 4, none⟩ = some (.bool qg) ∧ Blk z g7 28 #[.int .u32 ya, .int .u64 yi, .int .u64 yv, .slice ax yl.length cx, .bool yg] ∧ Below wr.heap.size wr z)
              rshscan.rows7 rshscan.plan7 (l := ?steps8) (by kernel_rfl) (by kernel_rfl) (by kernel_rfl) (by kernel_rfl) ?written8 ⟨s0, d0, d1, d2, d3, d4, HB7Q.out.keep (Below.refl _ _).drew, (Below.refl _ _).drew⟩ ?onward8
            case written8 =>
              simp only [rshscan.plan7, Run.stepsOf, Run.stepOf, Run.guardOf, List.getElem?_toArray, List.getElem?_cons_zero, List.getElem?_cons_succ, Option.map_some, Option.map_none, Option.bind_some, Option.toList_some, List.map_cons, List.map_nil, List.cons_append, List.nil_append, List.append_eq]
              rfl
            repeat ((first
              | (refine Run.takes (v := ?_) ?_ ?_; rotate_left; (· intro w' hS'; (first | (refine exec_load_blk (n := 5) (x := .tmp 7) (l := [.int .u32 ya, .int .u64 yi, .int .u64 yv, .slice ax yl.length cx, .bool yg]) ?_ Try.underlying28 ent_info' ?_ ?_ hS'.2.2.2.2.2.2.1 <;> rfl) | (go_simp; (try with_reducible rfl)))))
              | (refine Run.takesG (v := ?_) ?_ ?_ ?_; rotate_left; (· simp only [List.getElem?_cons_zero, List.getElem?_cons_succ]); (· intro w' hS'; (first | (refine exec_load_blk (n := 5) (x := .tmp 7) (l := [.int .u32 ya, .int .u64 yi, .int .u64 yv, .slice ax yl.length cx, .bool yg]) ?_ Try.underlying28 ent_info' ?_ ?_ hS'.2.2.2.2.2.2.1 <;> rfl) | (go_simp; (try with_reducible rfl)))))
              | (refine Run.skipsT ?_ ?_; (· simp only [List.getElem?_cons_zero, List.getElem?_cons_succ]))
              | (refine Run.skipsF ?_ ?_; (· simp only [List.getElem?_cons_zero, List.getElem?_cons_succ]))
              | (refine Run.skipsU ?_ ?_; (· simp only [List.getElem?_cons_zero, List.getElem?_cons_succ]))
              | (refine Run.passT ?_ ?_; (· simp only [List.getElem?_cons_zero, List.getElem?_cons_succ]))
              | (refine Run.passF ?_ ?_; (· simp only [List.getElem?_cons_zero, List.getElem?_cons_succ]))
              | (refine Run.passU ?_ ?_; (· simp only [List.getElem?_cons_zero, List.getElem?_cons_succ]))
              | (refine Run.runs ?_
                 (first
                 | (refine Run.callF 46 (by kernel_rfl) (fun hS => HAH.out _) rfl ?_)
                 | (refine Run.callG 46 (by kernel_rfl) ?_ (fun hS => HAH.out _) rfl ?_; (· simp only [List.getElem?_cons_zero, List.getElem?_cons_succ]))
                 | fail)
                 (first
                 | (rintro hS e w' ⟨rfl, rfl⟩; refine ⟨_, rfl, hS, ?_⟩)
                 | (rintro hS e w' ⟨rfl, hb⟩; refine ⟨_, rfl, ⟨kc hb hS.1, kc hb hS.2.1, kc hb hS.2.2.1, kc hb hS.2.2.2.1, kc hb hS.2.2.2.2.1, kc hb hS.2.2.2.2.2.1, hS.2.2.2.2.2.2.1.keep hb, nest hS.2.2.2.2.2.2.2 hb⟩, ?_⟩)
                 | fail))
              | fail); simp only [Act.put, List.setIfInBounds_toArray, List.set_cons_zero, List.set_cons_succ])
            refine Run.ends (fun hS => ?_)
            have HBX := Lib.hid hS.2.2.2.2.2.2.1
            have HKR := Lib.hid hS.2.2.2.2.2.2.2
            have HB3X := Lib.hid (HB3Q.out.keep hS.2.2.2.2.2.2.2)
            have HKX := Lib.hid (nest HKQ.out HKR.out)
            clear hS s0 d0 d1 d2 d3 d4
            cases ah with
            | true =>
              go_wp2_with fail
              exact ⟨⟨m, by omega, rfl, by rw [← HINS.out, HINK.out, if_pos rfl], HKX.out, HBX.out, HB3X.out⟩, by have := HM0.out; simp [intOf]; omega⟩
            | false =>
              have HKI : Hid (insK f (ya, (yi, yv, yl), yg) M M.length = kk) := Lib.hid (by rw [← HINS.out, HINK.out, if_neg (by decide)])
              clear hgt hgt2 hgt3 hwk hwk2 hmM
              obtain ⟨zs, hzs⟩ : ∃ z, z = w' := ⟨_, rfl⟩
              subst hzs
              have hkM : kk ≤ M.length := by omega
              have hcut1 := run_cut_to (P := Try.prog) entElem (some ⟨g9, off9, none⟩) M.length co (kk) (by omega)
              rw [cutA_zero] at hcut1
              have hcut2 := run_cut_from (P := Try.prog) entElem (some ⟨g9, off9, none⟩) M.length co (kk) (by omega) (by omega)
              have hrd := HROW.out.rd
              have hr1 := hrd.cutA (lo := 0) (hi := kk) (Nat.zero_le _) (by rw [HSL.out]; omega)
              rw [cutA_zero, List.drop_zero, Nat.sub_zero, Nat.sub_zero] at hr1
              have hr2 := hrd.cutA (lo := kk) (hi := hs.length) (by rw [HSL.out]; omega) (Nat.le_refl _)
              rw [List.take_length, HSL.out] at hr2
              have e5 : (rawE 5).size = 5 := rfl
              rw [e5] at hr2
              generalize cutA (some ⟨g9, off9, none⟩) co (kk) 5 = ac at *
              have HR1 := Lib.hid hr1
              have HR2 := Lib.hid hr2
              have HT1 : Hid ((hs.take (kk)).length = kk) := Lib.hid (by rw [List.length_take, HSL.out]; omega)
              have HT2 : Hid ((hs.drop (kk)).length = M.length - (kk)) := Lib.hid (by rw [List.length_drop, HSL.out])
              have HP1 := Lib.hid (HPW.out.take (kk))
              have HP2 := Lib.hid (HPW.out.drop (kk))
              obtain ⟨L1, hL1⟩ : ∃ X, hs.take (kk) = X := ⟨_, rfl⟩
              obtain ⟨L2, hL2⟩ : ∃ X, hs.drop (kk) = X := ⟨_, rfl⟩
              rw [hL1] at HR1 HT1 HP1
              rw [hL2] at HR2 HT2 HP2
              have HML : Hid (M.length ≤ 1000000) := Lib.hid (by omega)
              have HKM := Lib.hid hkM
              clear hrd hr1 hr2 hL1 hL2 e5 hkM
              go_upto_region 10 with fail
              refine Run.region_walk (S := fun z => Blk z g7 28 #[.int .u32 ya, .int .u64 yi, .int .u64 yv, .slice ax yl.length cx, .bool yg] ∧ Below zs.heap.size zs z)
                rshscan.rows9 rshscan.plan9 (l := ?steps9) (by kernel_rfl) (by kernel_rfl) (by kernel_rfl) (by kernel_rfl) ?written9 ⟨HBX.out.keep (Below.refl _ _).drew, (Below.refl _ _).drew⟩ ?onward9
              case written9 =>
                simp only [rshscan.plan9, Run.stepsOf, Run.stepOf, Run.guardOf, List.getElem?_toArray, List.getElem?_cons_zero, List.getElem?_cons_succ, Option.map_some, Option.map_none, Option.bind_some, Option.toList_some, List.map_cons, List.map_nil, List.cons_append, List.nil_append, List.append_eq]
                rfl
              repeat ((first
                | (refine Run.takes (v := ?_) ?_ ?_; rotate_left; (· intro w' hS'; (first | (refine exec_load_blk (n := 5) (x := .tmp 7) (l := [.int .u32 ya, .int .u64 yi, .int .u64 yv, .slice ax yl.length cx, .bool yg]) ?_ Try.underlying28 ent_info' ?_ ?_ hS'.1 <;> rfl) | (go_simp; (try with_reducible rfl)))))
                | (refine Run.takesG (v := ?_) ?_ ?_ ?_; rotate_left; (· simp only [List.getElem?_cons_zero, List.getElem?_cons_succ]); (· intro w' hS'; (first | (refine exec_load_blk (n := 5) (x := .tmp 7) (l := [.int .u32 ya, .int .u64 yi, .int .u64 yv, .slice ax yl.length cx, .bool yg]) ?_ Try.underlying28 ent_info' ?_ ?_ hS'.1 <;> rfl) | (go_simp; (try with_reducible rfl)))))
                | (refine Run.skipsT ?_ ?_; (· simp only [List.getElem?_cons_zero, List.getElem?_cons_succ]))
                | (refine Run.skipsF ?_ ?_; (· simp only [List.getElem?_cons_zero, List.getElem?_cons_succ]))
                | (refine Run.skipsU ?_ ?_; (· simp only [List.getElem?_cons_zero, List.getElem?_cons_succ]))
                | (refine Run.passT ?_ ?_; (· simp only [List.getElem?_cons_zero, List.getElem?_cons_succ]))
                | (refine Run.passF ?_ ?_; (· simp only [List.getElem?_cons_zero, List.getElem?_cons_succ]))
                | (refine Run.passU ?_ ?_; (· simp only [List.getElem?_cons_zero, List.getElem?_cons_succ]))
                | fail); simp only [Act.put, List.setIfInBounds_toArray, List.set_cons_zero, List.set_cons_succ])
              clear hcut1 hcut2
              refine Run.runsS (Run.one (fun hS K1 hK1 => ?_))
              refine wp_append (E := rawE 5) (B := zs.heap.size) (v := .slice none 0 0) (l := []) (m := L1) (bytes := 56) entElem (Nat.zero_lt_succ 4) (.const (.slice none 0 0)) (.tmp 49) rfl rfl Row.nil rfl ((HR1.out.keep HKX.out).keep hS.2) (by rw [HT1.out]; have := HML.out; have := HKM.out; simp only [List.length_nil, List.length_cons, maxLen]; omega) (by rw [HT1.out]; have := HML.out; have := HKM.out; simp only [List.length_nil, List.length_cons]; omega) hS.2.size ?_
              intro v1 x1 hrA hkA hgA hoA
              clear hgA hoA
              rw [List.nil_append] at hrA
              obtain ⟨aA, cA, rfl, _, _⟩ := hrA.rd.form
              have HRA := Lib.hid hrA
              have hkz := hS.2.trans hkA
              have HKZ := Lib.hid hkz
              refine hK1.out _ _ ⟨HBX.out.keep HKZ.out, HKZ.out⟩ (fun _ => ⟨fun z => Blk z g7 28 #[.int .u32 ya, .int .u64 yi, .int .u64 yv, .slice ax yl.length cx, .bool yg] ∧ Below zs.heap.size zs z, fun z h => h, ⟨HBX.out.keep HKZ.out, HKZ.out⟩, ?_⟩)
              clear hS K1 hK1 hrA hkA hkz
              try simp only [Act.put, List.setIfInBounds_toArray, List.set_cons_zero, List.set_cons_succ]
              repeat ((first
                | (refine Run.takes (v := ?_) ?_ ?_; rotate_left; (· intro w' hS'; go_simp; (try with_reducible rfl)))
                | (refine Run.takesG (v := ?_) ?_ ?_ ?_; rotate_left; (· simp only [List.getElem?_cons_zero, List.getElem?_cons_succ]); (· intro w' hS'; go_simp; (try with_reducible rfl)))
                | (refine Run.skipsT ?_ ?_; (· simp only [List.getElem?_cons_zero, List.getElem?_cons_succ]))
                | (refine Run.skipsF ?_ ?_; (· simp only [List.getElem?_cons_zero, List.getElem?_cons_succ]))
                | (refine Run.skipsU ?_ ?_; (· simp only [List.getElem?_cons_zero, List.getElem?_cons_succ]))
                | (refine Run.passT ?_ ?_; (· simp only [List.getElem?_cons_zero, List.getElem?_cons_succ]))
                | (refine Run.passF ?_ ?_; (· simp only [List.getElem?_cons_zero, List.getElem?_cons_succ]))
                | (refine Run.passU ?_ ?_; (· simp only [List.getElem?_cons_zero, List.getElem?_cons_succ]))
                | fail); simp only [Act.put, List.setIfInBounds_toArray, List.set_cons_zero, List.set_cons_succ])
              refine Run.runsS (Run.callF 29 (by kernel_rfl) (fun hS => copyent_any (ya, (yi, yv, yl), yg) (.slice ax yl.length cx) _ (HRX.out.keep (nest HKX.out hS.2)) HYL.out) rfl ?_)
              rintro hS e x2 ⟨xq, rfl, hrq, hkq⟩
              have HKZ2 := Lib.hid (nest HKZ.out hkq)
              have HRQ2 : Hid (Row (intE .u32) 22 zs.heap.size x2 xq yl) := Lib.hid (hrq.mono HKZ.out.size)
              have HRA2 := Lib.hid (HRA.out.keep hkq)
              obtain ⟨aq, cq, rfl, _, _⟩ := hrq.rd.form
              refine ⟨_, rfl, ⟨HBX.out.keep HKZ2.out, HKZ2.out⟩, fun _ => ⟨fun z => Blk z g7 28 #[.int .u32 ya, .int .u64 yi, .int .u64 yv, .slice ax yl.length cx, .bool yg] ∧ Below zs.heap.size zs z, fun z h => h, ⟨HBX.out.keep HKZ2.out, HKZ2.out⟩, ?_⟩⟩
              clear hS hrq hkq HKZ HRA
              try simp only [Act.put, List.setIfInBounds_toArray, List.set_cons_zero, List.set_cons_succ]
              repeat ((first
                | (refine Run.takes (v := ?_) ?_ ?_; rotate_left; (· intro w' hS'; go_simp; (try with_reducible rfl)))
                | (refine Run.takesG (v := ?_) ?_ ?_ ?_; rotate_left; (· simp only [List.getElem?_cons_zero, List.getElem?_cons_succ]); (· intro w' hS'; go_simp; (try with_reducible rfl)))
                | (refine Run.skipsT ?_ ?_; (· simp only [List.getElem?_cons_zero, List.getElem?_cons_succ]))
                | (refine Run.skipsF ?_ ?_; (· simp only [List.getElem?_cons_zero, List.getElem?_cons_succ]))
                | (refine Run.skipsU ?_ ?_; (· simp only [List.getElem?_cons_zero, List.getElem?_cons_succ]))
                | (refine Run.passT ?_ ?_; (· simp only [List.getElem?_cons_zero, List.getElem?_cons_succ]))
                | (refine Run.passF ?_ ?_; (· simp only [List.getElem?_cons_zero, List.getElem?_cons_succ]))
                | (refine Run.passU ?_ ?_; (· simp only [List.getElem?_cons_zero, List.getElem?_cons_succ]))
                | fail); simp only [Act.put, List.setIfInBounds_toArray, List.set_cons_zero, List.set_cons_succ])
              refine Run.runsS (Run.one (fun hS K1 hK1 => ?_))
              have hecl : ecl (ya, (yi, yv, yl), yg) (.slice aq yl.length cq) = [.int .u32 ya, .int .u64 yi, .int .u64 yv, .slice aq yl.length cq, .bool yg] := rfl
              rw [hecl]
              clear hecl
              refine wp_build_one (size := 5) (bytes := 56) entElem (by decide) (by decide) _ rfl (C := #[.int .u32 ya, .int .u64 yi, .int .u64 yv, .slice aq yl.length cq, .bool yg]) rfl rfl ?_
              have hX : Below x2.heap.size x2 (x2.alloc (.cells #[.int .u32 ya, .int .u64 yi, .int .u64 yv, .slice aq yl.length cq, .bool yg] 28)) := more (Below.refl _ _) _
              have HX3 := Lib.hid (Row.lit (E := rawE 5) x2.heap.size x2 #[.int .u32 ya, .int .u64 yi, .int .u64 yv, .slice aq yl.length cq, .bool yg] [rawEnt (ya, (yi, yv, yl), yg) (.slice aq yl.length cq) rfl] 1 x2.heap.size rfl rfl rfl (Nat.le_refl _) (by simp [maxLen]) : Row (rawE 5) 28 x2.heap.size (x2.alloc (.cells #[.int .u32 ya, .int .u64 yi, .int .u64 yv, .slice aq yl.length cq, .bool yg] 28)) (.slice (some ⟨x2.heap.size, 0, none⟩) 1 1) [rawEnt (ya, (yi, yv, yl), yg) (.slice aq yl.length cq) rfl])
              have HKZ3 := Lib.hid (nest HKZ2.out hX)
              have HRQ3 := Lib.hid (HRQ2.out.keep hX)
              have HRA3 := Lib.hid (HRA2.out.keep hX)
              refine hK1.out _ _ ⟨HBX.out.keep HKZ3.out, HKZ3.out⟩ (fun _ => ⟨fun z => Blk z g7 28 #[.int .u32 ya, .int .u64 yi, .int .u64 yv, .slice ax yl.length cx, .bool yg] ∧ Below zs.heap.size zs z, fun z h => h, ⟨HBX.out.keep HKZ3.out, HKZ3.out⟩, ?_⟩)
              clear hS K1 hK1 hX HKZ2 HRQ2 HRA2
              generalize x2.alloc (.cells #[.int .u32 ya, .int .u64 yi, .int .u64 yv, .slice aq yl.length cq, .bool yg] 28) = x3 at *
              try simp only [Act.put, List.setIfInBounds_toArray, List.set_cons_zero, List.set_cons_succ]
              repeat ((first
                | (refine Run.takes (v := ?_) ?_ ?_; rotate_left; (· intro w' hS'; go_simp; (try with_reducible rfl)))
                | (refine Run.takesG (v := ?_) ?_ ?_ ?_; rotate_left; (· simp only [List.getElem?_cons_zero, List.getElem?_cons_succ]); (· intro w' hS'; go_simp; (try with_reducible rfl)))
                | (refine Run.skipsT ?_ ?_; (· simp only [List.getElem?_cons_zero, List.getElem?_cons_succ]))
                | (refine Run.skipsF ?_ ?_; (· simp only [List.getElem?_cons_zero, List.getElem?_cons_succ]))
                | (refine Run.skipsU ?_ ?_; (· simp only [List.getElem?_cons_zero, List.getElem?_cons_succ]))
                | (refine Run.passT ?_ ?_; (· simp only [List.getElem?_cons_zero, List.getElem?_cons_succ]))
                | (refine Run.passF ?_ ?_; (· simp only [List.getElem?_cons_zero, List.getElem?_cons_succ]))
                | (refine Run.passU ?_ ?_; (· simp only [List.getElem?_cons_zero, List.getElem?_cons_succ]))
                | fail); simp only [Act.put, List.setIfInBounds_toArray, List.set_cons_zero, List.set_cons_succ])
              refine Run.runsS (Run.one (fun hS K1 hK1 => ?_))
              refine wp_append (E := rawE 5) (B := zs.heap.size) (l := L1) (m := [rawEnt (ya, (yi, yv, yl), yg) (.slice aq yl.length cq) rfl]) (bytes := 56) entElem (Nat.zero_lt_succ 4) (.tmp 50) (.tmp 53) rfl rfl HRA3.out rfl HX3.out.rd (by rw [HT1.out]; have := HML.out; have := HKM.out; simp only [List.length_nil, List.length_cons, maxLen]; omega) (by rw [HT1.out]; have := HML.out; have := HKM.out; simp only [List.length_nil, List.length_cons]; omega) HKZ3.out.size ?_
              intro v2 x4 hrB hkB hgB hoB
              clear hoB
              obtain ⟨nB, hnB⟩ : ∃ n, n = (L1 ++ [rawEnt (ya, (yi, yv, yl), yg) (.slice aq yl.length cq) rfl]).length := ⟨_, rfl⟩
              obtain ⟨aB, cB, rfl, _, _⟩ := hrB.rd.form
              rw [← hnB] at hrB ⊢
              clear hnB
              have HRB := Lib.hid hrB
              have HKZ4 := Lib.hid (HKZ3.out.trans hkB)
              have HRQ4 := Lib.hid (HRQ3.out.kept hgB (Row.apart HRQ3.out HRA3.out (by decide)))
              refine hK1.out _ _ ⟨HBX.out.keep HKZ4.out, HKZ4.out⟩ (fun _ => ⟨fun z => Blk z g7 28 #[.int .u32 ya, .int .u64 yi, .int .u64 yv, .slice ax yl.length cx, .bool yg] ∧ Below zs.heap.size zs z, fun z h => h, ⟨HBX.out.keep HKZ4.out, HKZ4.out⟩, ?_⟩)
              clear hS K1 hK1 hrB hkB hgB HKZ3 HRQ3 HRA3 HX3
              try simp only [Act.put, List.setIfInBounds_toArray, List.set_cons_zero, List.set_cons_succ]
              repeat ((first
                | (refine Run.takes (v := ?_) ?_ ?_; rotate_left; (· intro w' hS'; go_simp; (try with_reducible rfl)))
                | (refine Run.takesG (v := ?_) ?_ ?_ ?_; rotate_left; (· simp only [List.getElem?_cons_zero, List.getElem?_cons_succ]); (· intro w' hS'; go_simp; (try with_reducible rfl)))
                | (refine Run.skipsT ?_ ?_; (· simp only [List.getElem?_cons_zero, List.getElem?_cons_succ]))
                | (refine Run.skipsF ?_ ?_; (· simp only [List.getElem?_cons_zero, List.getElem?_cons_succ]))
                | (refine Run.skipsU ?_ ?_; (· simp only [List.getElem?_cons_zero, List.getElem?_cons_succ]))
                | (refine Run.passT ?_ ?_; (· simp only [List.getElem?_cons_zero, List.getElem?_cons_succ]))
                | (refine Run.passF ?_ ?_; (· simp only [List.getElem?_cons_zero, List.getElem?_cons_succ]))
                | (refine Run.passU ?_ ?_; (· simp only [List.getElem?_cons_zero, List.getElem?_cons_succ]))
                | fail); simp only [Act.put, List.setIfInBounds_toArray, List.set_cons_zero, List.set_cons_succ])
              refine Run.runsS (Run.one (fun hS K1 hK1 => ?_))
              have HLB1 : Hid ((L1 ++ [rawEnt (ya, (yi, yv, yl), yg) (.slice aq yl.length cq) rfl]).length = (kk) + 1) := Lib.hid (by rw [List.length_append, HT1.out]; rfl)
              refine wp_append (E := rawE 5) (B := zs.heap.size) (l := L1 ++ [rawEnt (ya, (yi, yv, yl), yg) (.slice aq yl.length cq) rfl]) (m := L2) (bytes := 56) entElem (Nat.zero_lt_succ 4) (.tmp 54) (.tmp 57) rfl rfl HRB.out rfl ((HR2.out.keep HKX.out).keep HKZ4.out) (by rw [HLB1.out, HT2.out]; have := HML.out; have := HKM.out; simp only [maxLen]; omega) (by rw [HLB1.out, HT2.out]; have := HML.out; have := HKM.out; omega) HKZ4.out.size ?_
              intro v3 x5 hrC hkC hgC hoC
              clear hoC
              have HKZ5 := Lib.hid (HKZ4.out.trans hkC)
              have HRQ5 := Lib.hid (HRQ4.out.kept hgC (Row.apart HRQ4.out HRB.out (by decide)))
              have HWO5 : Hid (Below wo.heap.size wo x5) := Lib.hid (nest HKX.out HKZ5.out)
              have HBZ : Hid (B0 ≤ zs.heap.size) := Lib.hid (Nat.le_trans HBW.out (Nat.le_trans HKW.out.size HKX.out.size))
              have HOUT : Hid (OutAt B0 x5 v3 (insE f (ya, (yi, yv, yl), yg) M)) := Lib.hid ⟨(L1 ++ [rawEnt (ya, (yi, yv, yl), yg) (.slice aq yl.length cq) rfl]) ++ L2, hrC.mono HBZ.out, by
                unfold insE
                rw [HKI.out, ← List.append_assoc]
                exact ((HP1.out.imp fun x y h => h.turned (S := fun _ => False) (Turned.of_below HWO5.out) (fun _ _ h => h)).append (PW.one ⟨_, rfl, HRQ5.out.rd, fun _ g hg => Nat.le_trans HBZ.out (HRQ5.out.block g hg).1⟩)).append (HP2.out.imp fun x y h => h.turned (S := fun _ => False) (Turned.of_below HWO5.out) (fun _ _ h => h))⟩
              obtain ⟨n5, hn5⟩ : ∃ n5, n5 = ((L1 ++ [rawEnt (ya, (yi, yv, yl), yg) (.slice aq yl.length cq) rfl]) ++ L2).length := ⟨_, rfl⟩
              obtain ⟨a5, c5, rfl, _, _⟩ := hrC.rd.form
              rw [← hn5] at HOUT ⊢
              refine hK1.out _ _ ⟨HBX.out.keep HKZ5.out, HKZ5.out⟩ (fun _ => ⟨fun z => Blk z g7 28 #[.int .u32 ya, .int .u64 yi, .int .u64 yv, .slice ax yl.length cx, .bool yg] ∧ Below zs.heap.size zs z, fun z h => h, ⟨HBX.out.keep HKZ5.out, HKZ5.out⟩, ?_⟩)
              clear hS K1 hK1 hrC hkC hgC HKZ4 HRQ4 HRB HLB1 hn5
              try simp only [Act.put, List.setIfInBounds_toArray, List.set_cons_zero, List.set_cons_succ]
              repeat ((first
                | (refine Run.takes (v := ?_) ?_ ?_; rotate_left; (· intro w' hS'; go_simp; (try with_reducible rfl)))
                | (refine Run.takesG (v := ?_) ?_ ?_ ?_; rotate_left; (· simp only [List.getElem?_cons_zero, List.getElem?_cons_succ]); (· intro w' hS'; go_simp; (try with_reducible rfl)))
                | (refine Run.skipsT ?_ ?_; (· simp only [List.getElem?_cons_zero, List.getElem?_cons_succ]))
                | (refine Run.skipsF ?_ ?_; (· simp only [List.getElem?_cons_zero, List.getElem?_cons_succ]))
                | (refine Run.skipsU ?_ ?_; (· simp only [List.getElem?_cons_zero, List.getElem?_cons_succ]))
                | (refine Run.passT ?_ ?_; (· simp only [List.getElem?_cons_zero, List.getElem?_cons_succ]))
                | (refine Run.passF ?_ ?_; (· simp only [List.getElem?_cons_zero, List.getElem?_cons_succ]))
                | (refine Run.passU ?_ ?_; (· simp only [List.getElem?_cons_zero, List.getElem?_cons_succ]))
                | fail); simp only [Act.put, List.setIfInBounds_toArray, List.set_cons_zero, List.set_cons_succ])
              refine Run.ends (fun _ => ?_)
              go_wp2_with fail
              exact ⟨⟨j + 1, by omega, by go_num, by rw [HNX.out]; exact HOUT.out, nest HKW.out HWO5.out⟩, by simp [intOf]; omega⟩
end Go.Proofs.Ytihfkjodjaoocaa
