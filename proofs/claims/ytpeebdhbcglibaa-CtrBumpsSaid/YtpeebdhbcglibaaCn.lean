/- ctr: newest. -/
import Derived.Sort.CutIn
import Derived.Test.YtpeebdhbcglibaaCi
import Derived.Test.YtpeebdhbcglibaaQc
import Derived.Test.YtpeebdhbcglibaaTail
namespace Go.Proofs.Ytpeebdhbcglibaa
open Go.RowKit Go.Shelf
attribute [local go_sem] Oper.semAt_some
attribute [local go_sem ↓ high] zeroQ

theorem infoPl : (Try.prog.info? 68).map (·.size) = some 3 := by kernel_rfl
/-- What the slots that were gone through came to. -/
structure Tp where
  fnd : Bool
  sq : W32
  vl : W32
  pl : Nat
def tp0 : Tp := ⟨false, 0, 0, 0⟩
def tpA (t : Tp) : Array Value := #[.int .u32 (num t.sq), .int .u32 (num t.vl), .int .i64 (t.pl : Int)]
def stepT (x : W32) (t : Tp) (h : Nat → W32) (k : Nat) : Option Tp :=
  if isRec x h = true then
    if t.fnd = false ∨ t.sq.toNat < (h 1).toNat then some ⟨true, h 1, h 2, k⟩
    else if h 1 = t.sq ∧ h 2 ≠ t.vl then none
    else some t
  else some t
def foldT (x : W32) (ws : List W32) (id : Nat) (l : List (Fin 2)) : Option Tp := l.foldlM (fun t k => stepT x t (slotF ws id k.1) k.1) tp0
theorem foldT_snoc (x : W32) (ws : List W32) (id : Nat) (l : List (Fin 2)) (k : Fin 2) {t : Tp} (h : foldT x ws id l = some t) : foldT x ws id (l ++ [k]) = stepT x t (slotF ws id k.1) k.1 := by
  unfold foldT at h ⊢
  rw [List.foldlM_append, h]
  simp
def tpO (x : W32) (f g : Nat → W32) : Tp := match top2 x f g with
  | none => tp0
  | some b => ⟨true, (cond b g f) 1, (cond b g f) 2, cond b 1 0⟩
theorem fold_one (x : W32) (ws : List W32) (id : Nat) : foldT x ws id (ns2 1) = stepT x tp0 (slotF ws id 0) 0 := by
  unfold foldT ns2
  simp only [List.foldlM_cons, List.foldlM_nil, bind_pure]
  rfl
theorem fold_two (x : W32) (ws : List W32) (id : Nat) : foldT x ws id (ns2 2) = (stepT x tp0 (slotF ws id 0) 0).bind fun t => stepT x t (slotF ws id 1) 1 := by
  unfold foldT ns2
  simp only [List.foldlM_cons, List.foldlM_nil, bind_pure]
  rfl
theorem step_is (x : W32) (f g : Nat → W32) : (∀ t, ((stepT x tp0 f 0).bind fun t => stepT x t g 1) = some t → t = tpO x f g) ∧ (((stepT x tp0 f 0).bind fun t => stepT x t g 1) = none → tpO x f g = tp0) ∧ stepT x tp0 f 0 ≠ none := by
  unfold stepT tpO top2
  by_cases hf : isRec x f = true
  · simp only [if_pos hf]
    rw [if_pos (Or.inl rfl : tp0.fnd = false ∨ _), Option.bind_some]
    by_cases hg : isRec x g = true
    · simp only [if_pos hg]
      by_cases h1 : (f 1).toNat < (g 1).toNat
      · rw [if_pos (Or.inr h1), if_pos h1]
        exact ⟨fun t h => (by cases h; rfl), fun h => (by cases h), fun h => (by cases h)⟩
      · rw [if_neg (by rintro (h | h); cases h; exact h1 h), if_neg h1]
        by_cases h2 : f 1 = g 1 ∧ f 2 ≠ g 2
        · rw [if_pos ⟨h2.1.symm, fun e => h2.2 e.symm⟩, if_pos h2]
          exact ⟨fun t h => (by cases h), fun _ => rfl, fun h => (by cases h)⟩
        · rw [if_neg fun h => h2 ⟨h.1.symm, fun e => h.2 e.symm⟩, if_neg h2]
          exact ⟨fun t h => (by cases h; rfl), fun h => (by cases h), fun h => (by cases h)⟩
    · simp only [if_neg hg]
      exact ⟨fun t h => (by cases h; rfl), fun h => (by cases h), fun h => (by cases h)⟩
  · simp only [if_neg hf, Option.bind_some]
    by_cases hg : isRec x g = true
    · simp only [if_pos hg]
      rw [if_pos (Or.inl rfl : tp0.fnd = false ∨ _)]
      exact ⟨fun t h => (by cases h; rfl), fun h => (by cases h), fun h => (by cases h)⟩
    · simp only [if_neg hg]
      exact ⟨fun t h => (by cases h; rfl), fun h => (by cases h), fun h => (by cases h)⟩
theorem fold_all {x : W32} {ws : List W32} {id : Nat} {t : Tp} (h : foldT x ws id (ns2 2) = some t) : t = tpO x (slotF ws id 0) (slotF ws id 1) := (step_is x _ _).1 t ((fold_two x ws id).symm.trans h)
theorem fold_stop {x : W32} {ws : List W32} {id k : Nat} (hk : k < 2) (h : foldT x ws id (ns2 (k + 1)) = none) : tpO x (slotF ws id 0) (slotF ws id 1) = tp0 := by
  match k, hk with
  | 0, _ => exact absurd ((fold_one x ws id).symm.trans h) (step_is x _ (slotF ws id 1)).2.2
  | 1, _ => exact (step_is x _ _).2.1 ((fold_two x ws id).symm.trans h)
theorem Turn.own_from {B : Nat} {V w w' : World} {H : Nat → Prop} {row : Option Nat} (h : Turn H V w) (hB : V.heap.size ≤ B) (hg : w.grownBy w' row) (hr : ∀ r, row = some r → B ≤ r) : Turn H V w' :=
  ⟨hg.os.trans h.os, hg.tape.trans h.tape, hg.output.trans h.output, Nat.le_trans h.size hg.size, fun k hk hn => (hg.block k (Nat.lt_of_lt_of_le hk h.size) fun e => by have := hr k e.symm; omega).trans (h.block k hk hn)⟩
theorem Blk.own_from {w w' : World} {B g : Nat} {t : TypeId} {cs : Array Value} {row : Option Nat} (h : Blk w g t cs) (hg : w.grownBy w' row) (hr : ∀ r, row = some r → B ≤ r ∧ ∃ o : Obj, w.heap[r]? = some o ∧ o.isCells = false) : Blk w' g t cs := h.grown hg fun e => by
  obtain ⟨_, o, ho, hc⟩ := hr g e.symm
  rw [show w.heap[g]? = _ from h] at ho
  cases ho
  cases hc
theorem Arr.own_from {w w' : World} {B g n : Nat} {t : TypeId} {f : Nat → Value} {row : Option Nat} (h : Arr w g t n f) (hg : w.grownBy w' row) (hr : ∀ r, row = some r → B ≤ r ∧ ∃ o : Obj, w.heap[r]? = some o ∧ o.isCells = false) : Arr w' g t n f := h.grown hg fun e => by
  obtain ⟨_, o, ho, hc⟩ := hr g e.symm
  rw [show w.heap[g]? = _ from h] at ho
  cases ho
  cases hc
theorem Turn.keepsF {B : Nat} {H : Nat → Prop} {W W' : World} (h : Turn H W W') (hH : ∀ k, H k → k < B) : KeepsFrom B W W' :=
  ⟨h.size, fun k o hB ho _ => (h.block k (Array.getElem?_eq_some_iff.1 ho).1 fun hk => by have := hH k hk; omega).trans ho⟩
/-- What a round keeps. -/
def NwI (w U : World) (x : W32) (ws : List W32) (id : Nat) (pre : List (Fin 2)) (W : World) : Prop := ∃ t, foldT x ws id pre = some t ∧ Blk W (w.heap.size + 1 + 1 + 1) 68 (tpA t) ∧ Blk W (w.heap.size + 1 + 1 + 1 + 1) 4 #[.bool t.fnd] ∧ Turn (fun k => k = w.heap.size + 1 + 1 + 1 ∨ k = w.heap.size + 1 + 1 + 1 + 1) U W
/-- How a round leaves the loop. -/
def NwX (w U : World) (x : W32) (ws : List W32) (id : Nat) (cd : Code) (pre : List (Fin 2)) (W : World) : Prop := cd = .ret ∧ foldT x ws id pre = none ∧ Blk W (w.heap.size + 1) 68 (tpA tp0) ∧ Blk W (w.heap.size + 1 + 1) 4 #[.bool false] ∧ Turn (fun k => k = w.heap.size + 1 ∨ k = w.heap.size + 1 + 1 ∨ k = w.heap.size + 1 + 1 + 1 ∨ k = w.heap.size + 1 + 1 + 1 + 1) U W
theorem nwi_own (w U : World) (x : W32) (ws : List W32) (id : Nat) : OwnFrom U.heap.size (NwI w U x ws id) := fun _ _ _ _ ⟨t, h1, h2, h3, h4⟩ hg hr => ⟨t, h1, h2.own_from hg hr, h3.own_from hg hr, h4.own_from (Nat.le_refl _) hg fun r e => (hr r e).1⟩
theorem nwx_own (w U : World) (x : W32) (ws : List W32) (id : Nat) (cd : Code) : OwnFrom U.heap.size (NwX w U x ws id cd) := fun _ _ _ _ ⟨h0, h1, h2, h3, h4⟩ hg hr => ⟨h0, h1, h2.own_from hg hr, h3.own_from hg hr, h4.own_from (Nat.le_refl _) hg fun r e => (hr r e).1⟩
theorem loadVar_bool {w : World} {g : Nat} {t ty : TypeId} {b : Bool} (h : Blk w g t #[.bool b]) (hu : Try.prog.underlying ty = some .bool) : (loadVar ty ⟨g, 0, none⟩).run Try.prog w = .ok (.bool b) w := by
  have hc := h.cellAt 0 (v := .bool b) rfl
  simp [loadVar, isAgg, run_underlying hu, run_load, hc]
theorem results_cc {fn : Func} {p q : Tmp} {ty ty2 : TypeId} {P : Program} {w : World} (h : fn.results = #[.cell p ty, .cell q ty2]) (tmps : Array Value) (g k : Nat) (v u : Value)
    (ha : tmps.getD p undef = .pointer (some ⟨g, 0, none⟩)) (hb : tmps.getD q undef = .pointer (some ⟨k, 0, none⟩)) (hl : (loadVar ty ⟨g, 0, none⟩).run P w = .ok v w) (hm : (loadVar ty2 ⟨k, 0, none⟩).run P w = .ok u w) : (results fn tmps).run P w = .ok (.tuple #[v, u]) w := by
  have hp' : tmps[p]?.getD undef = .pointer (some ⟨g, 0, none⟩) := by simpa using ha
  have hq' : tmps[q]?.getD undef = .pointer (some ⟨k, 0, none⟩) := by simpa using hb
  simp [results, h, hp', hq', asAddr, hl, hm]
set_option maxRecDepth 100000 in
set_option maxHeartbeats 1000000 in
theorem newest_any {w : World} {G : Nat → Prop} {p c : Nat} {s : St} {v : Value} {A : Option Addr} (h : NC w G p s v A c) (hl : s.ws.length ≤ 100000) (id : Nat) (hi : id < s.ws.length / 8) (T : Tp) (hT : T = tpO (idW id) (slotF s.ws id 0) (slotF s.ws id 1)) :
    Calls Try.prog 41 #[.agg #[.pointer (some ⟨p, 0, none⟩), .int .i64 (id : Int)]] w fun e w' => e = .returned (.tuple #[.agg (tpA T), .bool T.fnd]) ∧ Below w.heap.size w w' := by
  obtain ⟨U, hU⟩ : ∃ U, U = (((((w.alloc (.cells #[.pointer (some ⟨p, 0, none⟩), .int .i64 (id : Int)] 71)).alloc (.cells #[.int .u32 0, .int .u32 0, .int .i64 0] 68)).alloc (.cells #[.bool false] 4)).alloc (.cells #[.int .u32 0, .int .u32 0, .int .i64 0] 68)).alloc (.cells #[.bool false] 4)).alloc (.cells #[.pointer (some ⟨p, 0, none⟩), .int .i64 (id : Int)] 71) := ⟨_, rfl⟩
  have hsz : U.heap.size = w.heap.size + 6 := by rw [hU]; simp
  have hBU : Below w.heap.size w U := by rw [hU]; exact (((((((Below.refl _ _).alloc (Nat.le_refl _) _).alloc (by simp) _).alloc (by simp; omega) _).alloc (by simp; omega) _).alloc (by simp; omega) _).alloc (by simp; omega) _)
  have hB0 : Blk U (w.heap.size) 71 #[.pointer (some ⟨p, 0, none⟩), .int .i64 (id : Int)] := by rw [hU]; exact (((((Blk.new _ _ _ rfl).alloc _).alloc _).alloc _).alloc _).alloc _
  have hB1 : Blk U (w.heap.size + 1) 68 (tpA tp0) := by rw [hU]; exact ((((Blk.new _ _ _ (by simp)).alloc _).alloc _).alloc _).alloc _
  have hB2 : Blk U (w.heap.size + 1 + 1) 4 #[.bool false] := by rw [hU]; exact (((Blk.new _ _ _ (by simp)).alloc _).alloc _).alloc _
  have hB3 : Blk U (w.heap.size + 1 + 1 + 1) 68 (tpA tp0) := by rw [hU]; exact ((Blk.new _ _ _ (by simp)).alloc _).alloc _
  have hB4 : Blk U (w.heap.size + 1 + 1 + 1 + 1) 4 #[.bool false] := by rw [hU]; exact (Blk.new _ _ _ (by simp)).alloc _
  have hB5 : Blk U (w.heap.size + 1 + 1 + 1 + 1 + 1) 71 #[.pointer (some ⟨p, 0, none⟩), .int .i64 (id : Int)] := by rw [hU]; exact Blk.new _ _ _ (by simp)
  have HPU := Lib.hid (h.under hBU)
  have HKL : Hid (∀ k, KSl (w.heap.size + 1 + 1 + 1 + 1 + 1) G A s k → k = w.heap.size + 1 + 1 + 1 + 1 + 1 ∨ k < w.heap.size) := Lib.hid fun k hk => by
    rcases hk with rfl | hk
    · exact .inl rfl
    · exact .inr (h.ksl_lt (Bs := 0) (Nat.lt_of_le_of_lt (Nat.zero_le _) h.blk.lt) (.inr hk))
  obtain ⟨x, hx⟩ : ∃ x, x = idW id := ⟨_, rfl⟩
  have hwx : IntKind.u32.wrap (id : Int) = num x := by rw [hx]; exact wrap_idW id
  have HX := Lib.hid hwx
  rw [← hx] at hT
  have HTT := Lib.hid hT
  have HL := Lib.hid (And.intro hl hi)
  have HBU := Lib.hid (And.intro hBU hsz)
  have HBS := Lib.hid (And.intro hB0 (And.intro hB1 (And.intro hB2 (And.intro hB3 (And.intro hB4 hB5)))))
  have HU := Lib.hid hU
  clear h hT hl hi hBU hsz hB0 hB1 hB2 hB3 hB4 hB5 hU hx hwx
  refine (callsIn_wide (n := 10)).1 ?_
  refine callsIn_of_wp_marks Try.func41 rfl trivial ?_ rfl
  simp only [Try.ntmps41, List.size_toArray, List.length_cons, List.length_nil, Nat.reduceAdd, Nat.reduceSub, Array.replicate_succ, Array.replicate_zero, List.push_toArray, List.append_toArray, List.nil_append, List.cons_append]
  gi_wp2_with (refine ⟨trivial, ?_⟩; gi_at_call 48; refine (callsIn_wide.2 (slots_any p id _)).mono ?_; rintro e w1 ⟨rfl, hw1⟩; obtain rfl : w1 = U := (by rw [HU.out]; exact hw1); clear hw1)
  refine wpIn_rangeFunc_ownH rfl (by omega) (gf := 59) (lb := #[.pointer (some ⟨w.heap.size + 1 + 1 + 1 + 1 + 1, 0, none⟩)]) rfl trivial (by intro args W; rfl) (slots_stops _ (by omega) (w.heap.size + 1 + 1 + 1 + 1 + 1) id HBS.out.2.2.2.2.2 HPU.out HL.out.1 HL.out.2)
    KG.trans (fun W l o o' hl _ _ _ => KG.putObj _ fun k hk e => by
      have := HBU.out.2
      rcases HKL.out k hk with h | h <;> omega) (Below.refl _ _) (fun _ => rfl)
    (NwI w w1 x s.ws id) (NwX w w1 x s.ws id) (nwi_own w w1 x s.ws id) (nwx_own w w1 x s.ws id)
    ⟨tp0, rfl, HBS.out.2.2.2.1, HBS.out.2.2.2.2.1, Turn.refl _ _⟩
    (fun k a' W => ∃ g, w1.heap.size ≤ g ∧ a' = { tmps := #[.agg #[.pointer (some ⟨p, 0, none⟩), .int .i64 (id : Int)], .pointer (some ⟨w.heap.size, 0, none⟩), .pointer (some ⟨w.heap.size + 1, 0, none⟩), .pointer (some ⟨w.heap.size + 1 + 1, 0, none⟩), .pointer (some ⟨w.heap.size + 1 + 1 + 1, 0, none⟩), .pointer (some ⟨w.heap.size + 1 + 1 + 1 + 1, 0, none⟩),
      .int .i64 (k.1 : Int), .pointer (some ⟨g, 0, none⟩), undef, undef, .agg #[.pointer (some ⟨p, 0, none⟩), .int .i64 (id : Int)], .func (.func 59) #[] #[.pointer (some ⟨w.heap.size + 1 + 1 + 1 + 1 + 1, 0, none⟩)], .int .i64 (k.1 : Int), .agg (vec 4 (wds (slotF s.ws id k.1))), undef, undef, undef, undef, undef, undef, undef, undef, undef, undef, undef, undef, undef, undef, undef, undef, undef, undef, undef, undef, undef, undef, undef, undef, undef, undef, undef, undef, undef, undef, undef, undef, undef, undef, undef, undef, undef, undef, undef, undef, undef, undef], defers := [] } ∧
      Arr W g 73 4 (wds (slotF s.ws id k.1)))
    (fun k a' _ X Y row hs hg hr => by obtain ⟨g, h1, h2, h3⟩ := hs; exact ⟨g, h1, h2, h3.own_from hg hr⟩)
    ?assign ?body ?done ?stop
  case assign =>
    rintro lq pre k W K hI hK
    unfold encSl
    obtain ⟨q, hq⟩ : ∃ q, q = vec 4 (wds (slotF s.ws id k.1)) := ⟨_, rfl⟩
    simp only [← hq] at hK ⊢
    have HQ := Lib.hid hq
    clear hq
    obtain ⟨t, hI1, hI2, hI3, hI4⟩ := hI
    have HII := Lib.hid (And.intro hI1 (And.intro hI2 (And.intro hI3 hI4)))
    have hle : w1.heap.size ≤ W.heap.size := hI4.size
    clear hI1 hI2 hI3 hI4
    gi_wp2_with ((with_reducible show wpListIn _ _ _ _ _ (Oper.mk _ (.store 73 _ _) _ _ _ _ :: _) _ _); refine wli_store rfl 73 _ _ rfl _ rfl _ rfl (by rw [HQ.out]; exact run_store_arr (Arr.new W 73 4 (wds zw)) (wds (slotF s.ws id k.1)) infoQ (wds_one _ _)) ?_)
    have hd : Below W.heap.size W ((W.alloc (.cells (vec 4 (wds zw)) 73)).setRow W.heap.size (vec 4 (wds (slotF s.ws id k.1)))) := below_row ((Below.refl _ _).alloc (Nat.le_refl _) _) (Nat.le_refl _) _
    exact hK _ _ ((Turn.of_below hd : Turn (fun _ => False) _ _).keepsF fun _ h => h.elim) (KG.of_below (B := W.heap.size) hd fun k hk => by
      have := HBU.out.2
      rcases HKL.out k hk with h | h <;> omega) ⟨t, HII.out.1, HII.out.2.1.under hd, HII.out.2.2.1.under hd, HII.out.2.2.2.andThen (Turn.of_below hd)⟩ ⟨W.heap.size, hle, rfl, (Arr.new _ _ _ _).row _⟩
  case body =>
    rintro lq pre k a' W hl ⟨r, hr⟩ ⟨t, hI1, hI2, hI3, hI4⟩ ⟨g, hg, rfl, hga⟩ hlt
    obtain ⟨h, hh⟩ : ∃ h, h = slotF s.ws id k.1 := ⟨_, rfl⟩
    have hfold := fun y => foldT_snoc x s.ws id y k (t := t)
    rw [← hh] at hfold hga ⊢
    obtain ⟨kk, hkk⟩ : ∃ kk, kk = k.1 := ⟨_, rfl⟩
    rw [← hkk] at hfold ⊢
    have hsU := HBU.out.2
    have hsW := hI4.size
    have hk1 := HBS.out.1.turn hI4 (by omega)
    have c1 := hk1.cellAt 1 rfl
    have HGA := Lib.hid hga
    have HOF := Lib.hid (fun X => of_any (id : Int) x HX.out h X)
    have HT := Lib.hid (And.intro hI2 hI3)
    have HZ := Lib.hid (And.intro (HBS.out.2.1.turn hI4 (by omega)) (HBS.out.2.2.1.turn hI4 (by omega)))
    -- nothing turns
    have HSAME : Hid (stepT x t h kk = some t → ∀ W', Below W.heap.size W W' → KeepsFrom w1.heap.size W W' ∧ KG (KSl (w.heap.size + 1 + 1 + 1 + 1 + 1) G A s) W W' ∧ NwI w w1 x s.ws id (pre ++ [k]) W') := Lib.hid fun he W' hd =>
      ⟨(Turn.of_below hd : Turn (fun _ => False) _ _).keepsF fun _ h => h.elim, KG.of_below hd fun k hk => by rcases HKL.out k hk with h | h <;> omega, t, (hfold pre hI1).trans he, hI2.under hd, hI3.under hd, hI4.andThen (Turn.of_below hd)⟩
    have HSTEP := Lib.hid (fun z (he : stepT x t h kk = z) => (hfold pre hI1).trans he)
    have HI4 := Lib.hid (And.intro hI4 (And.intro hsW hsU))
    -- the top is new
    have HNEW : Hid (stepT x t h kk = some ⟨true, h 1, h 2, kk⟩ → ∀ w2 o, Below W.heap.size W w2 → KeepsFrom w1.heap.size W (((w2.alloc o).setRow (w.heap.size + 1 + 1 + 1) (tpA ⟨true, h 1, h 2, kk⟩)).setCell ⟨w.heap.size + 1 + 1 + 1 + 1, 0, none⟩ (.bool true)) ∧
        KG (KSl (w.heap.size + 1 + 1 + 1 + 1 + 1) G A s) W (((w2.alloc o).setRow (w.heap.size + 1 + 1 + 1) (tpA ⟨true, h 1, h 2, kk⟩)).setCell ⟨w.heap.size + 1 + 1 + 1 + 1, 0, none⟩ (.bool true)) ∧ NwI w w1 x s.ws id (pre ++ [k]) (((w2.alloc o).setRow (w.heap.size + 1 + 1 + 1) (tpA ⟨true, h 1, h 2, kk⟩)).setCell ⟨w.heap.size + 1 + 1 + 1 + 1, 0, none⟩ (.bool true))) := Lib.hid fun he w2 o hd => by
      have hd2 : Below W.heap.size W (w2.alloc o) := hd.alloc hd.size _
      have ht : Turn (fun k => k = w.heap.size + 1 + 1 + 1 ∨ k = w.heap.size + 1 + 1 + 1 + 1) W (((w2.alloc o).setRow (w.heap.size + 1 + 1 + 1) (tpA ⟨true, h 1, h 2, kk⟩)).setCell ⟨w.heap.size + 1 + 1 + 1 + 1, 0, none⟩ (.bool true)) := ((Turn.of_below hd2).setRow (.inl (.inl rfl)) _).setCell (.inl (.inr rfl)) _
      refine ⟨ht.keepsF fun k hk => by omega, ⟨ht.size, fun k hk => ?_⟩, _, (hfold pre hI1).trans he, (((hI2.under hd2).row _).far (q := ⟨w.heap.size + 1 + 1 + 1 + 1, 0, none⟩) (by simp) _), (((hI3.under hd2).rowFar (by omega) _).set 0 (.bool true)), hI4.andThen ht⟩
      rcases HKL.out k hk with h | h
      · exact ht.block k (by omega) (by omega)
      · exact ht.block k (by omega) (by omega)
    have HSTOP : Hid (stepT x t h kk = none → ∀ w2 o, Below W.heap.size W w2 → KeepsFrom w1.heap.size W (((w2.alloc o).setRow (w.heap.size + 1) (tpA tp0)).setCell ⟨w.heap.size + 1 + 1, 0, none⟩ (.bool false)) ∧
        NwX w w1 x s.ws id .ret (pre ++ [k]) (((w2.alloc o).setRow (w.heap.size + 1) (tpA tp0)).setCell ⟨w.heap.size + 1 + 1, 0, none⟩ (.bool false))) := Lib.hid fun he w2 o hd => by
      have hd2 : Below W.heap.size W (w2.alloc o) := hd.alloc hd.size _
      have ht : Turn (fun k => k = w.heap.size + 1 ∨ k = w.heap.size + 1 + 1 ∨ k = w.heap.size + 1 + 1 + 1 ∨ k = w.heap.size + 1 + 1 + 1 + 1) W (((w2.alloc o).setRow (w.heap.size + 1) (tpA tp0)).setCell ⟨w.heap.size + 1 + 1, 0, none⟩ (.bool false)) := ((Turn.of_below hd2).setRow (.inl (.inl rfl)) _).setCell (.inl (.inr (.inl rfl))) _
      exact ⟨ht.keepsF fun k hk => by omega, rfl, (hfold pre hI1).trans he, (((HZ.out.1.under hd2).row _).far (q := ⟨w.heap.size + 1 + 1, 0, none⟩) (by simp) _), (((HZ.out.2.under hd2).rowFar (by omega) _).set 0 (.bool false)), (hI4.mono fun k hk => by omega).andThen ht⟩
    obtain ⟨fd, hfd⟩ : ∃ fd, fd = t.fnd := ⟨_, rfl⟩
    rw [← hfd] at HT
    clear hh hkk hfold hga hI1 hI2 hI3 hI4 hk1 hlt hl hr
    cases hrec : isRec x h with
    | false =>
      have he : stepT x t h kk = some t := by unfold stepT; rw [if_neg (by rw [hrec]; decide)]
      have HD0 := Lib.hid (HSAME.out he)
      rw [hrec] at HOF
      clear he hrec hfd hsU hsW hg
      gi_wp2_with (first
        | ((with_reducible show wpListIn _ _ _ _ _ (Oper.mk _ (.load 73 _) _ _ _ _ :: _) _ _); refine wli_load rfl 73 _ rfl _ rfl _ (run_load_arr HGA.out Try.underlying73 rfl infoQ) ?_)
        | ((with_reducible show wpListIn _ _ _ _ _ (Oper.mk _ (.load 35 _) _ _ _ _ :: _) _ _); refine wli_load rfl 35 _ rfl _ rfl _ ((Blk.new _ _ _ rfl).load Try.underlying35 rfl infoR) ?_)
        | (refine ⟨trivial, ?_⟩; gi_at_call 49; refine (CallsIn.inRound lq (callsIn_wide.2 (HOF.out W))).mono ?_; rintro e w2 ⟨rfl, hd⟩; have HD := Lib.hid hd; have ht := HT.out.1.under hd; have hf := HT.out.2.under hd; have z0 := fun o => (ht.alloc o).cellAt 0 rfl; have z1 := fun o => (ht.alloc o).cellAt 1 rfl; have z3 := fun o => (hf.alloc o).cellAt 0 rfl; clear hd ht hf))
      exact HD0.out _ (HD.out.alloc HD.out.size _)
    | true =>
      have e1 : ofS x h = h 1 := by unfold ofS; rw [if_pos hrec]
      have e2 : ofV x h = h 2 := by unfold ofV; rw [if_pos hrec]
      rw [hrec, e1, e2] at HOF
      clear e1 e2
      obtain ⟨a, ha⟩ : ∃ a, a = t.sq := ⟨_, rfl⟩
      obtain ⟨b, hb⟩ : ∃ b, b = t.vl := ⟨_, rfl⟩
      obtain ⟨h1, hh1⟩ : ∃ h1, h1 = h 1 := ⟨_, rfl⟩
      obtain ⟨h2, hh2⟩ : ∃ h2, h2 = h 2 := ⟨_, rfl⟩
      have hst : stepT x t h kk = if fd = false ∨ a.toNat < h1.toNat then some ⟨true, h1, h2, kk⟩ else if h1 = a ∧ h2 ≠ b then none else some t := by
        unfold stepT; rw [if_pos hrec, hfd, ha, hb, hh1, hh2]
      rw [← hh1, ← hh2] at HNEW HOF
      have HT : Hid (Blk W (w.heap.size + 1 + 1 + 1) 68 #[.int .u32 (num a), .int .u32 (num b), .int .i64 (t.pl : Int)] ∧ Blk W (w.heap.size + 1 + 1 + 1 + 1) 4 #[.bool fd]) := Lib.hid ⟨by rw [ha, hb]; exact HT.out.1, HT.out.2⟩
      clear hrec hfd ha hb hh1 hh2 hg
      cases fd with
      | false =>
        have HD0 := Lib.hid (HNEW.out (by rw [hst, if_pos (.inl rfl)]))
        clear hst
        gi_wp2_with (first
          | ((with_reducible show wpListIn _ _ _ _ _ (Oper.mk _ (.load 73 _) _ _ _ _ :: _) _ _); refine wli_load rfl 73 _ rfl _ rfl _ (run_load_arr HGA.out Try.underlying73 rfl infoQ) ?_)
          | ((with_reducible show wpListIn _ _ _ _ _ (Oper.mk _ (.load 35 _) _ _ _ _ :: _) _ _); refine wli_load rfl 35 _ rfl _ rfl _ ((Blk.new _ _ _ rfl).load Try.underlying35 rfl infoR) ?_)
          | (refine ⟨trivial, ?_⟩; gi_at_call 49; refine (CallsIn.inRound lq (callsIn_wide.2 (HOF.out W))).mono ?_; rintro e w2 ⟨rfl, hd⟩; have HD := Lib.hid hd; have ht := HT.out.1.under hd; have hf := HT.out.2.under hd; have z0 := fun o => (ht.alloc o).cellAt 0 rfl; have z1 := fun o => (ht.alloc o).cellAt 1 rfl; have z3 := fun o => (hf.alloc o).cellAt 0 rfl; have z4 := fun o cs => ((hf.alloc o).rowFar (g' := w.heap.size + 1 + 1 + 1) (by omega) cs).cellAt 0 rfl; have z5 := fun o cs => ((hf.alloc o).rowFar (g' := w.heap.size + 1 + 1 + 1) (by omega) cs).froz 0; clear hd ht hf)
          | ((with_reducible show wpListIn _ _ _ _ _ (Oper.mk _ (.store 68 _ _) _ _ _ _ :: _) _ _); refine wli_store rfl 68 _ _ rfl _ rfl _ rfl (((HT.out.1.under HD.out).alloc _).store (tpA ⟨true, h1, h2, kk⟩) rfl infoPl rfl) ?_))
        exact HD0.out _ _ HD.out
      | true =>
      by_cases hlt2 : a.toNat < h1.toNat
      · have HD0 := Lib.hid (HNEW.out (by rw [hst, if_pos (.inr hlt2)]))
        have q1 : num a < num h1 := by unfold num; omega
        have q2 : decide (num a < num h1) = true := decide_eq_true q1
        clear hst hlt2
        gi_wp2_with (first
          | ((with_reducible show wpListIn _ _ _ _ _ (Oper.mk _ (.load 73 _) _ _ _ _ :: _) _ _); refine wli_load rfl 73 _ rfl _ rfl _ (run_load_arr HGA.out Try.underlying73 rfl infoQ) ?_)
          | ((with_reducible show wpListIn _ _ _ _ _ (Oper.mk _ (.load 35 _) _ _ _ _ :: _) _ _); refine wli_load rfl 35 _ rfl _ rfl _ ((Blk.new _ _ _ rfl).load Try.underlying35 rfl infoR) ?_)
          | (refine ⟨trivial, ?_⟩; gi_at_call 49; refine (CallsIn.inRound lq (callsIn_wide.2 (HOF.out W))).mono ?_; rintro e w2 ⟨rfl, hd⟩; have HD := Lib.hid hd; have ht := HT.out.1.under hd; have hf := HT.out.2.under hd; have z0 := fun o => (ht.alloc o).cellAt 0 rfl; have z1 := fun o => (ht.alloc o).cellAt 1 rfl; have z3 := fun o => (hf.alloc o).cellAt 0 rfl; have z4 := fun o cs => ((hf.alloc o).rowFar (g' := w.heap.size + 1 + 1 + 1) (by omega) cs).cellAt 0 rfl; have z5 := fun o cs => ((hf.alloc o).rowFar (g' := w.heap.size + 1 + 1 + 1) (by omega) cs).froz 0; clear hd ht hf)
          | ((with_reducible show wpListIn _ _ _ _ _ (Oper.mk _ (.store 68 _ _) _ _ _ _ :: _) _ _); refine wli_store rfl 68 _ _ rfl _ rfl _ rfl (((HT.out.1.under HD.out).alloc _).store (tpA ⟨true, h1, h2, kk⟩) rfl infoPl rfl) ?_))
        exact HD0.out _ _ HD.out
      have q1 : ¬ num a < num h1 := by unfold num; omega
      have q2 : decide (num a < num h1) = false := decide_eq_false q1
      rw [if_neg (by rintro (h | h); cases h; exact hlt2 h)] at hst
      clear hlt2
      by_cases heq : h1 = a
      · subst heq
        by_cases hv : h2 = b
        · subst hv
          have HD0 := Lib.hid (HSAME.out (by rw [hst, if_neg fun h => h.2 rfl]))
          clear hst
          gi_wp2_with (first
            | ((with_reducible show wpListIn _ _ _ _ _ (Oper.mk _ (.load 73 _) _ _ _ _ :: _) _ _); refine wli_load rfl 73 _ rfl _ rfl _ (run_load_arr HGA.out Try.underlying73 rfl infoQ) ?_)
            | ((with_reducible show wpListIn _ _ _ _ _ (Oper.mk _ (.load 35 _) _ _ _ _ :: _) _ _); refine wli_load rfl 35 _ rfl _ rfl _ ((Blk.new _ _ _ rfl).load Try.underlying35 rfl infoR) ?_)
            | (refine ⟨trivial, ?_⟩; gi_at_call 49; refine (CallsIn.inRound lq (callsIn_wide.2 (HOF.out W))).mono ?_; rintro e w2 ⟨rfl, hd⟩; have HD := Lib.hid hd; have ht := HT.out.1.under hd; have hf := HT.out.2.under hd; have z0 := fun o => (ht.alloc o).cellAt 0 rfl; have z1 := fun o => (ht.alloc o).cellAt 1 rfl; have z3 := fun o => (hf.alloc o).cellAt 0 rfl; clear hd ht hf))
          exact HD0.out _ (HD.out.alloc HD.out.size _)
        · have HD0 := Lib.hid (HSTOP.out (by rw [hst, if_pos ⟨rfl, hv⟩]))
          have r1 : ¬ num h2 = num b := fun e => hv (num_inj e)
          have r2 : (num h2 != num b) = true := by simp [r1]
          have r3 : (num h2 == num b) = false := by simp [r1]
          clear hst hv
          gi_wp2_with (first
            | ((with_reducible show wpListIn _ _ _ _ _ (Oper.mk _ (.load 73 _) _ _ _ _ :: _) _ _); refine wli_load rfl 73 _ rfl _ rfl _ (run_load_arr HGA.out Try.underlying73 rfl infoQ) ?_)
            | ((with_reducible show wpListIn _ _ _ _ _ (Oper.mk _ (.load 35 _) _ _ _ _ :: _) _ _); refine wli_load rfl 35 _ rfl _ rfl _ ((Blk.new _ _ _ rfl).load Try.underlying35 rfl infoR) ?_)
            | (refine ⟨trivial, ?_⟩; gi_at_call 49; refine (CallsIn.inRound lq (callsIn_wide.2 (HOF.out W))).mono ?_; rintro e w2 ⟨rfl, hd⟩; have HD := Lib.hid hd; have ht := HT.out.1.under hd; have hf := HT.out.2.under hd; have z0 := fun o => (ht.alloc o).cellAt 0 rfl; have z1 := fun o => (ht.alloc o).cellAt 1 rfl; have z3 := fun o => (hf.alloc o).cellAt 0 rfl; have hz := HZ.out.2.under hd; have z4 := fun o cs => ((hz.alloc o).rowFar (g' := w.heap.size + 1) (by omega) cs).cellAt 0 rfl; have z5 := fun o cs => ((hz.alloc o).rowFar (g' := w.heap.size + 1) (by omega) cs).froz 0; clear hz; clear hd ht hf)
            | ((with_reducible show wpListIn _ _ _ _ _ (Oper.mk _ (.store 68 _ _) _ _ _ _ :: _) _ _); refine wli_store rfl 68 _ _ rfl _ rfl _ rfl (((HZ.out.1.under HD.out).alloc _).store (tpA tp0) rfl infoPl rfl) ?_))
          exact HD0.out _ _ HD.out
      · have HD0 := Lib.hid (HSAME.out (by rw [hst, if_neg fun h => heq h.1]))
        have r1 : ¬ num h1 = num a := fun e => heq (num_inj e)
        have r3 : (num h1 == num a) = false := by simp [r1]
        clear hst heq
        gi_wp2_with (first
          | ((with_reducible show wpListIn _ _ _ _ _ (Oper.mk _ (.load 73 _) _ _ _ _ :: _) _ _); refine wli_load rfl 73 _ rfl _ rfl _ (run_load_arr HGA.out Try.underlying73 rfl infoQ) ?_)
          | ((with_reducible show wpListIn _ _ _ _ _ (Oper.mk _ (.load 35 _) _ _ _ _ :: _) _ _); refine wli_load rfl 35 _ rfl _ rfl _ ((Blk.new _ _ _ rfl).load Try.underlying35 rfl infoR) ?_)
          | (refine ⟨trivial, ?_⟩; gi_at_call 49; refine (CallsIn.inRound lq (callsIn_wide.2 (HOF.out W))).mono ?_; rintro e w2 ⟨rfl, hd⟩; have HD := Lib.hid hd; have ht := HT.out.1.under hd; have hf := HT.out.2.under hd; have z0 := fun o => (ht.alloc o).cellAt 0 rfl; have z1 := fun o => (ht.alloc o).cellAt 1 rfl; have z3 := fun o => (hf.alloc o).cellAt 0 rfl; clear hd ht hf))
        exact HD0.out _ (HD.out.alloc HD.out.size _)
  case done =>
    rintro Dd ys W hD rfl ⟨t, hI1, hI2, hI3, hI4⟩ hK
    obtain rfl : t = T := (fold_all hI1).trans HTT.out.symm
    have hsU := HBU.out.2
    have hz1 := HBS.out.2.1.turn hI4 (by omega)
    have hz2 := HBS.out.2.2.1.turn hI4 (by omega)
    have HW : Hid (Below w.heap.size w W) := Lib.hid (HBU.out.1.trans (hI4.below (fun k hk => by omega) HBU.out.1.size))
    have HZ := Lib.hid (And.intro hz1 (And.intro hz2 (And.intro hI2 hI3)))
    have HKK := Lib.hid hK
    have hDn : w.heap.size + 6 ≤ Dd := by omega
    clear hI1 hI2 hI3 hI4 hz1 hz2 hK
    gi_upto_region 12 with fail
    refine wpIn_then_false ?_
    refine wpIn_region_held_wide (S := fun Y => Turn (fun k => k = w.heap.size + 1 ∨ k = w.heap.size + 1 + 1) W Y) (by kernel_rfl) (by rintro ⟨_, _, h⟩; exact h) (Turn.refl _ _).drew (fun Wd hWd hS => ?_)
    have HZd : Hid (Blk Wd (w.heap.size + 1) 68 (tpA tp0) ∧ (Wd.setRow (w.heap.size + 1) (tpA t)).cell? ⟨w.heap.size + 1 + 1, 0, none⟩ = some (.bool false) ∧ (Wd.setRow (w.heap.size + 1) (tpA t)).frozen? ⟨w.heap.size + 1 + 1, 0, none⟩ = false) := Lib.hid (by
      have b1 : Blk Wd (w.heap.size + 1) 68 (tpA tp0) := by rw [hWd]; exact HZ.out.1
      have b2 : Blk Wd (w.heap.size + 1 + 1) 4 #[.bool false] := by rw [hWd]; exact HZ.out.2.1
      have b3 := b2.rowFar (g' := w.heap.size + 1) (by omega) (tpA t)
      exact ⟨b1, b3.cellAt 0 rfl, b3.froz 0⟩)
    have HWd : Hid (Wd = W.drew) := Lib.hid hWd
    clear hWd
    (refine held_take (i := 0) (oi := ?ot1) (v := .agg (tpA t)) ?at1 (by kernel_rfl) (by kernel_rfl) (by kernel_rfl) ?bt1 ?ct1 ?dt1 (by assumption) ?rt1; (case at1 => (simp only [List.getElem?_toArray, List.getElem?_cons_zero]; rfl)); (case bt1 => exact fun _ _ _ h => h); (case ct1 => kernel_rfl); (case dt1 => (intro W9 hW; exact exec_load _ _ rfl _ rfl _ ((HZ.out.2.2.1.turn hW (by omega)).load Try.underlying68 rfl infoPl))); (case' rt1 => simp only [Act.put, List.setIfInBounds_toArray, List.set_cons_zero, List.set_cons_succ]))
    (refine held_take (i := 1) (oi := ?ot2) (v := .bool t.fnd) ?at2 (by kernel_rfl) (by kernel_rfl) (by kernel_rfl) ?bt2 ?ct2 ?dt2 (by assumption) ?rt2; (case at2 => (simp only [List.getElem?_toArray, List.getElem?_cons_zero, List.getElem?_cons_succ]; rfl)); (case bt2 => exact fun _ _ _ h => h); (case ct2 => kernel_rfl); (case dt2 => (intro W9 hW; have c0 := (HZ.out.2.2.2.turn hW (by omega)).cellAt 0 rfl; clear hW; go_simp; (try with_reducible rfl))); (case' rt2 => simp only [Act.put, List.setIfInBounds_toArray, List.set_cons_zero, List.set_cons_succ]))
    refine held_one (i := 2) (oi := ?ot3) (by kernel_rfl) ?at3 ?ct3 (fun K2 hK2 => ?_)
    (case at3 => (simp only [List.getElem?_toArray, List.getElem?_cons_zero, List.getElem?_cons_succ]; rfl))
    (case ct3 => kernel_rfl)
    refine ow_store 68 _ _ rfl _ rfl _ rfl (HZd.out.1.store (tpA t) rfl infoPl rfl) ?_
    refine hK2 _ _ (hS.setRow (.inl (.inl rfl)) _) (fun hS2 => ?_)
    clear hS hK2 K2
    refine held_one (i := 3) (oi := ?ot4) (by kernel_rfl) ?at4 ?ct4 (fun K3 hK3 => ?_)
    (case at4 => (simp only [List.getElem?_toArray, List.getElem?_cons_zero, List.getElem?_cons_succ]; rfl))
    (case ct4 => kernel_rfl)
    have hSb := hS2
    obtain ⟨d0, d1⟩ := HZd.out.2
    go_simp
    refine hK3 _ _ (hSb.setCell (.inl (.inr rfl)) _) (fun hS3 => ?_)
    clear hS2 hSb d0 d1 hK3 K3
    refine wpAnyH_done (by kernel_rfl) ?_ _
    have HX2 : Hid (Blk ((Wd.setRow (w.heap.size + 1) (tpA t)).setCell ⟨w.heap.size + 1 + 1, 0, none⟩ (.bool t.fnd)) (w.heap.size + 1) 68 (tpA t) ∧ Blk ((Wd.setRow (w.heap.size + 1) (tpA t)).setCell ⟨w.heap.size + 1 + 1, 0, none⟩ (.bool t.fnd)) (w.heap.size + 1 + 1) 4 #[.bool t.fnd] ∧ Turn (fun k => k = w.heap.size + 1 ∨ k = w.heap.size + 1 + 1) W ((Wd.setRow (w.heap.size + 1) (tpA t)).setCell ⟨w.heap.size + 1 + 1, 0, none⟩ (.bool t.fnd))) := Lib.hid (by
      rw [HWd.out]
      exact ⟨(HZ.out.1.row (tpA t)).far (q := ⟨w.heap.size + 1 + 1, 0, none⟩) (by simp) _, (HZ.out.2.1.rowFar (g' := w.heap.size + 1) (by omega) (tpA t)).set 0 (.bool t.fnd), ((Turn.refl (fun k => k = w.heap.size + 1 ∨ k = w.heap.size + 1 + 1) W).drew.setRow (.inl (.inl rfl)) _).setCell (.inl (.inr rfl)) _⟩)
    clear hS3
    gi_wp2
    generalize hX : (Wd.setRow (w.heap.size + 1) (tpA t)).setCell ⟨w.heap.size + 1 + 1, 0, none⟩ (.bool t.fnd) = X at HX2 ⊢
    have hK2 : X.heap[Dd]? = some (.deferred (some [])) := (HX2.out.2.2.block Dd (Array.getElem?_eq_some_iff.1 HKK.out).1 (by omega)).trans HKK.out
    have hput : X.grownBy (X.putObj Dd (.deferred none)) (some Dd) := grownBy_putObj' X Dd (.deferred none)
    have hrow : ∀ r, some Dd = some r → Dd ≤ r ∧ ∃ o : Obj, X.heap[r]? = some o ∧ o.isCells = false := fun r e => by
      obtain rfl := Option.some.inj e
      exact ⟨Nat.le_refl _, _, hK2, rfl⟩
    refine ⟨by simp, .inl ⟨_, _, rfl, run_takeDeferred hK2, ?_⟩⟩
    refine ⟨_, results_cc rfl _ _ _ _ _ rfl rfl ((HX2.out.1.own_from hput hrow).load Try.underlying68 rfl infoPl) (loadVar_bool (HX2.out.2.1.own_from hput hrow) Try.underlying4), ?_⟩
    exact ⟨rfl, (HW.out.trans (HX2.out.2.2.below (fun k hk => by omega) HW.out.size)).trans (belowK_b (w := w) (Nat.le_refl _) X Dd _ _ (by omega) hK2 rfl rfl)⟩
  case stop =>
    rintro Dd c' pre W hD ⟨k, hk, rfl⟩ hX hK
    obtain rfl := hX.1
    have hX2 := (nwx_own w w1 x s.ws id .ret).putObj (.deferred none) hX hD hK rfl
    obtain ⟨_, e1, e2, e3, e4⟩ := hX2
    have e0 := fold_stop hk e1
    have HE := Lib.hid (And.intro e0 (And.intro e2 (And.intro e3 e4)))
    clear hX e0 e1 e2 e3 e4
    gi_wp2
    refine ⟨by simp, .inl ⟨_, _, rfl, run_takeDeferred hK, ?_⟩⟩
    refine ⟨_, results_cc rfl _ _ _ _ _ rfl rfl (HE.out.2.1.load Try.underlying68 rfl infoPl) (loadVar_bool HE.out.2.2.1 Try.underlying4), ?_⟩
    rw [HTT.out, HE.out.1]
    exact ⟨rfl, HBU.out.1.trans (HE.out.2.2.2.below (fun k hk => by omega) HBU.out.1.size)⟩
end Go.Proofs.Ytpeebdhbcglibaa
