/- Steps, of both. -/
import Derived.Great.BuildSlice
import Derived.Test.YtpeebdhbcglibaaQc
import Derived.Test.YtpeebdhbcglibaaQr
namespace Go.Proofs.Ytpeebdhbcglibaa
open Go.RowKit

/-- append, as a word of its own: a walk takes it by an equation. -/
def appS (ts : Array TypeId) (ty : TypeId) (vs : Array Value) : Sem Value := Builtin.append_ ts ty vs
set_option maxRecDepth 100000 in
theorem builtin_appS (ats : Array TypeId) (ty : TypeId) (cs : Array Bool) (args : Array Value) : builtin .append ats ty cs args = (do pure (.value (← appS ats ty args))) := rfl
set_option maxRecDepth 100000 in
theorem infoPut : (Try.prog.info? 84).map (fun i => (i.zero, i.size, i.bytes)) = some (some (.agg #[.int .i64 0, .int .u32 0]), 2, 16) := by kernel_rfl
set_option maxRecDepth 100000 in
theorem cellsC_append : ∀ l m : List Ct, cellsC (l ++ m) = cellsC l ++ cellsC m
  | [], _ => rfl
  | x :: xs, m => by simp [cellsC, cellsC_append xs m]
/-- A row of writes that is the call's own. -/
def OwnP (w : World) (base : Nat) (v : Value) (l : List Ct) : Prop := w.ownsRow base 84 2 v l.length (cellsC l)
set_option maxRecDepth 100000 in
theorem OwnP.nil (w : World) (base : Nat) : OwnP w base (.slice none 0 0) [] := World.ownsRow_nil _ _ _ _
set_option maxRecDepth 100000 in
theorem OwnP.under {w w' : World} {base : Nat} {v : Value} {l : List Ct} (h : OwnP w base v l) (hb : Below w.heap.size w w') : OwnP w' base v l := by
  refine ⟨h.1, ?_⟩
  rcases h.2 with h2 | ⟨g, cap, cur, hv, hg, hh, r⟩
  · exact Or.inl h2
  · have hlt : g < w.heap.size := (Array.getElem?_eq_some_iff.1 hh).1
    exact Or.inr ⟨g, cap, cur, hv, hg, (hb.block g hlt).trans hh, r⟩
set_option maxRecDepth 100000 in
theorem OwnP.form {w : World} {base : Nat} {v : Value} {l : List Ct} (h : OwnP w base v l) : ∃ A c, v = .slice A l.length c ∧ l.length ≤ c ∧ Lies w w.heap.size 2 A l.length (cellsC l) ∧ v.ownBlock = A.map (·.block) ∧ ∀ k, v.ownBlock = some k → base ≤ k ∧ k < w.heap.size := by
  rcases h.2 with ⟨rfl, h0⟩ | ⟨g, cap, cur, rfl, hg, hh, hle, _⟩
  · obtain rfl : l = [] := List.eq_nil_of_length_eq_zero h0
    exact ⟨none, 0, rfl, Nat.le_refl _, Lies.of_owns h, rfl, fun k hk => by simp [Value.ownBlock] at hk⟩
  · exact ⟨_, cap, rfl, hle, Lies.of_owns h, rfl, fun k hk => by
      simp [Value.ownBlock] at hk
      subst hk
      exact ⟨hg, (Array.getElem?_eq_some_iff.1 hh).1⟩⟩
set_option maxRecDepth 100000 in
theorem app_put (w : World) (base : Nat) (v : Value) (l m : List Ct) (hown : OwnP w base v l) (hb : base ≤ w.heap.size) (hk : l.length + m.length ≤ 1000000) (ty : TypeId) (cs : Array Value) (hcs : cs.toList = cellsC m) :
    ∃ v' w', (appS #[81, 81] ty #[v, .slice (some ⟨w.heap.size, 0, none⟩) m.length m.length]).run Try.prog (w.alloc (.cells cs 84)) = .ok v' w' ∧
      OwnP w' base v' (l ++ m) ∧ (w.alloc (.cells cs 84)).grownBy w' v.ownBlock ∧ (v'.ownBlock = v.ownBlock ∨ v'.ownBlock = some (w.heap.size + 1)) := by
  obtain ⟨i0, hi, hz0, hz1, hz2⟩ := info_parts infoPut
  have hnews : ∀ j u, (cellsC m)[j]? = some u → (w.alloc (.cells cs 84)).cell? ((⟨w.heap.size, 0, none⟩ : Addr).add j) = some u := by
    intro j u hu
    have e : ((⟨w.heap.size, 0, none⟩ : Addr).add j) = ⟨w.heap.size, j, none⟩ := by unfold Addr.add; by_cases h0 : j = 0 <;> simp [h0]
    rw [e, cell_of_row _ w.heap.size j cs 84 (0, 0) (heap_alloc_new w _)]
    rw [← hcs, Array.getElem?_toList] at hu
    exact hu
  obtain ⟨v', w', h1, h2, h3, _, h5⟩ := run_append_own_at (P := Try.prog) (w.alloc (.cells cs 84)) base 81 ty 84 i0 (.agg #[.int .i64 0, .int .u32 0]) 2 16 Try.underlying81 hi hz0 hz1 hz2 rfl (by decide) v l.length (cellsC l) (hown.under ((Below.refl _ _).alloc (Nat.le_refl _) _))
    ⟨w.heap.size, 0, none⟩ m.length m.length (cellsC m) (cellsC_length m) hnews (cellsC_one m) (by unfold maxLen; omega) (by omega) (by simp; omega)
  exact ⟨v', w', h1, by unfold OwnP; rw [cellsC_append, List.length_append]; exact h2, h3, h5.imp id fun h => by rw [h]; simp⟩
set_option maxRecDepth 100000 in
theorem build_put (a m : Int) (w : World) : (Instr.buildSlice 81 1 #[(0, .agg #[.int .i64 a, .int .u32 m])]).run Try.prog w = .ok (.slice (some ⟨w.heap.size, 0, none⟩) 1 1) (w.alloc (.cells #[.int .i64 a, .int .u32 m] 84)) := by
  obtain ⟨i0, hi, hz0, hz1, hz2⟩ := info_parts infoPut
  refine run_buildSlice (P := Try.prog) w 81 84 1 _ _ i0 (.agg #[.int .i64 0, .int .u32 0]) Try.underlying81 hi hz0 (by rw [hz1]; decide) (by rw [hz1]; decide) ?_
  rw [hz1]
  kernel_rfl
set_option maxRecDepth 100000 in
theorem build_put4 (a1 m1 a2 m2 a3 m3 a4 m4 : Int) (w : World) : (Instr.buildSlice 81 4 #[(0, .agg #[.int .i64 a1, .int .u32 m1]), (1, .agg #[.int .i64 a2, .int .u32 m2]), (2, .agg #[.int .i64 a3, .int .u32 m3]), (3, .agg #[.int .i64 a4, .int .u32 m4])]).run Try.prog w =
    .ok (.slice (some ⟨w.heap.size, 0, none⟩) 4 4) (w.alloc (.cells #[.int .i64 a1, .int .u32 m1, .int .i64 a2, .int .u32 m2, .int .i64 a3, .int .u32 m3, .int .i64 a4, .int .u32 m4] 84)) := by
  obtain ⟨i0, hi, hz0, hz1, hz2⟩ := info_parts infoPut
  refine run_buildSlice (P := Try.prog) w 81 84 4 _ _ i0 (.agg #[.int .i64 0, .int .u32 0]) Try.underlying81 hi hz0 (by rw [hz1]; decide) (by rw [hz1]; decide) ?_
  rw [hz1]
  kernel_rfl
set_option maxRecDepth 100000 in
theorem wl_index {P : Program} {w : World} {ops : Array Oper} {rest : List Oper} {o : Oper} {a : Act} {Q : Exit → Act → World → Prop} (hgd : o.guard = none) (ty : TypeId) (x y : Operand) (ho : o.op = .index ty x y) (cs : Array Value) (hx : a.eval x = .agg cs) (z : Int) (hy : a.eval y = .int .i64 z) (v : Value)
    (hr : (Instr.index ty (.agg cs) (.int .i64 z)).run P w = .ok v w) (h : wpList P ops Q rest (a.put o.dst v) w) : wpList P ops Q (o :: rest) a w :=
  wpList_plain hgd fun K hK => by
    unfold Oper.wp execOp
    simp only [ho, hx, hy, Sem.run_bind, hr, Result.andThen_ok, Sem.run_pure]
    exact hK _ _ h
attribute [local go_sem ↓ high] zeroQ builtin_appS
attribute [local go_sem] num_or num_and num_andn
/-- The writes so far, and the words that they come to. -/
structure StepsAt (w W : World) (g : Nat) (h : Nat → W32) (v : Value) (l : List Ct) : Prop where
  own : OwnP W w.heap.size v l
  arr : Arr W g 73 4 (wds h)
  far : v.ownBlock ≠ some g
  be : Below w.heap.size w W
set_option maxRecDepth 100000 in
theorem StepsAt.app {w W w' : World} {g : Nat} {h : Nat → W32} {v v' : Value} {l l' : List Ct} {o : Obj} (H : StepsAt w W g h v l) (hown : OwnP w' w.heap.size v' l') (hgr : (W.alloc o).grownBy w' v.ownBlock) (hb : v'.ownBlock = v.ownBlock ∨ v'.ownBlock = some (W.heap.size + 1)) :
    StepsAt w w' g h v' l' := by
  obtain ⟨A, c, _, _, _, _, hk⟩ := H.own.form
  have hg := H.arr.lt
  refine ⟨hown, (H.arr.alloc _).grown hgr (fun e => H.far e.symm), ?_, (H.be.alloc H.be.size _).grown hgr (by have := H.be.size; simp; omega) fun k hk2 => (hk k hk2).1⟩
  rcases hb with hb | hb
  · rw [hb]; exact H.far
  · rw [hb]; intro e; have := Option.some.inj e; omega
set_option maxRecDepth 100000 in
set_option maxHeartbeats 4000000 in
theorem steps_any (id : Int) (x : W32) (hx : IntKind.u32.wrap id = num x) (f : Nat → W32) (s v : W32) (w : World) :
    Calls Try.prog 42 #[.int .i64 id, .agg (vec 4 (wds f)), .agg #[.int .u32 (num s), .int .u32 (num v)]] w fun e w' => ∃ A c, e = .returned (.slice A (stepsL x f s v).length c) ∧ (stepsL x f s v).length ≤ c ∧ Lies w' w'.heap.size 2 A (stepsL x f s v).length (cellsC (stepsL x f s v)) ∧ (∀ a, A = some a → w.heap.size ≤ a.block) ∧ Below w.heap.size w w' := by
  have HC := Lib.hid (fun W => words_any id x hx s v W)
  clear hx
  obtain ⟨V, hV⟩ : ∃ V, V = (w.alloc (.cells (vec 4 (wds f)) 73)).alloc (.cells #[.int .u32 (num s), .int .u32 (num v)] 35) := ⟨_, rfl⟩
  have hF : Arr V w.heap.size 73 4 (wds f) := by rw [hV]; exact (Arr.new _ _ _ _).alloc _
  have hR : Blk V (w.heap.size + 1) 35 #[.int .u32 (num s), .int .u32 (num v)] := by rw [hV]; exact Blk.new _ _ _ (by simp)
  have hB : Below w.heap.size w V := by rw [hV]; exact ((Below.refl _ _).alloc (Nat.le_refl _) _).alloc (by simp) _
  have cf : V.cell? ⟨w.heap.size, 0, none⟩ = some (.int .u32 (num (f 0))) := hF.cell (i := 0) (by decide)
  have c0 := hR.cellAt 0 rfl
  have c1 := hR.cellAt 1 rfl
  have HX := Lib.hid (And.intro hR hB)
  have HV := Lib.hid hV
  clear hF hR hB hV
  by_cases h0 : f 0 = mark
  · have g0 : ((num (f 0) : Int) == 3282393660) = true := by
      rw [show (3282393660 : Int) = num mark from rfl, num_beq]; simp [h0]
    have g1 : num (f 0) = 3282393660 := by
      rw [show (3282393660 : Int) = num mark from rfl]; rw [h0]
    have hl : stepsL x f s v = [⟨0, 0⟩] ++ body4 x s v := by unfold stepsL; rw [if_pos h0]
    have HLL := Lib.hid hl
    clear hl h0
    obtain ⟨v', w', hrun, hown, hgr, hob⟩ := app_put V w.heap.size (.slice none 0 0) [] [⟨0, 0⟩] (OwnP.nil _ _) HX.out.2.size (by simp) 81 #[.int .i64 0, .int .u32 0] rfl
    have hbs := build_put 0 0 V
    simp only [List.length_cons, List.length_nil, Nat.zero_add] at hrun
    have HO : Hid (OwnP w' w.heap.size v' [⟨0, 0⟩] ∧ Below w.heap.size w w') := Lib.hid ⟨hown, (HX.out.2.alloc HX.out.2.size _).grown hgr (by have := HX.out.2.size; simp; omega) (fun k hk => by simp [Value.ownBlock] at hk)⟩
    have hR2 : Blk w' (w.heap.size + 1) 35 #[.int .u32 (num s), .int .u32 (num v)] := (HX.out.1.alloc _).grown hgr (by simp [Value.ownBlock])
    obtain ⟨A0, c0', rfl, _⟩ := hown.form
    obtain ⟨c0, hcc⟩ : ∃ c0, c0 = c0' := ⟨_, rfl⟩
    subst hcc
    have d0 := hR2.cellAt 0 rfl
    have d1 := hR2.cellAt 1 rfl
    clear hown hgr hob hR2
    go_enter Try.func42, Try.ntmps42
    go_upto_region 2 with fail
    rw [← HV.out]
    clear HV
    go_upto_region 5 with (first
      | (go_at_call 38; refine (HC.out _).mono ?_; rintro e w1 ⟨rfl, hd⟩; have HD := Lib.hid hd; clear hd)
      | ((with_reducible show wpList _ _ _ (Oper.mk _ (.store 73 _ _) _ _ _ _ :: _) _ _); refine wl_store rfl 73 _ _ rfl _ rfl _ rfl (run_store_arr (Arr.new _ _ _ _) (wds (recW x s v)) infoQ (wds_one _ _)) ?_))
    obtain ⟨G, hG⟩ : ∃ G, G = w1.heap.size := ⟨_, rfl⟩
    obtain ⟨W0, hW0⟩ : ∃ W0, W0 = (w1.alloc (.cells (vec 4 (wds zw)) 73)).setRow w1.heap.size (vec 4 (wds (recW x s v))) := ⟨_, rfl⟩
    have HI0 : Hid (StepsAt w W0 G (recW x s v) (.slice A0 1 c0) [⟨0, 0⟩]) := Lib.hid (by
      have h1 := HO.out.1.under HD.out
      obtain ⟨_, _, _, _, _, _, hk⟩ := h1.form
      have hbe := HO.out.2.trans (HD.out.mono HO.out.2.size)
      rw [hW0]
      refine ⟨h1.under (below_row ((Below.refl _ _).alloc (Nat.le_refl _) _) (Nat.le_refl _) _), by rw [hG]; exact (Arr.new _ _ _ _).row _, fun e => ?_, below_row (hbe.alloc hbe.size _) hbe.size _⟩
      have := (hk _ e).2
      omega)
    rw [← hW0, ← hG]
    clear hW0 hG HD HO
    go_wp2_with fail
    go_loopw [7, 22] (fun vo vi W => ∃ (k c' : Nat) (A' : Option Addr), k ≤ 4 ∧ vi = .int .i64 k ∧ vo = .slice A' (1 + k) c' ∧ Hid (StepsAt w W G (recW x s v) (.slice A' (1 + k) c') ([⟨0, 0⟩] ++ (body4 x s v).take k))) (fun _ i _ => 4 - (intOf i).toNat)
    case atStart => exact ⟨0, c0, A0, by decide, rfl, rfl, HI0⟩
    case round =>
      obtain ⟨k, c', A', hk, rfl, rfl, HI⟩ := hrel
      clear HI0
      match k, hk with
      | 0, _ =>
        obtain ⟨W, hWr⟩ : ∃ W : World, W = wr := ⟨_, rfl⟩
        subst hWr
        have hc : W.cell? ⟨G, 1, none⟩ = some (.int .u32 (num s)) := HI.out.arr.cell (i := 1) (by decide)
        obtain ⟨v', w', hrun, hown, hgr, hob⟩ := app_put W w.heap.size (.slice A' (1 + 0) c') ([⟨0, 0⟩] ++ (body4 x s v).take 0) [⟨1, s⟩] HI.out.own HI.out.be.size (by simp [body4]) 81 #[.int .i64 1, .int .u32 (num s)] rfl
        have hbs := build_put 1 (num s) W
        have e1 : 1 + 0 = 1 := rfl
        rw [e1] at hrun HI ⊢
        simp only [List.length_cons, List.length_nil, Nat.zero_add] at hrun
        have HR := Lib.hid (HI.out.app hown hgr hob)
        obtain ⟨A2, c2, rfl, _⟩ := hown.form
        clear hown hgr hob e1
        go_wp2_with ((with_reducible show wpList _ _ _ (Oper.mk _ (.index _ _ _) _ _ _ _ :: _) _ _); refine wl_index rfl 96 _ _ rfl _ rfl _ rfl (.int .i64 1) (by kernel_rfl) ?_)
        go_roundw
        case rel => exact ⟨1, c2, A2, by decide, by go_num, rfl, HR⟩
        case measure => simp [intOf]
      | 1, _ =>
        obtain ⟨W, hWr⟩ : ∃ W : World, W = wr := ⟨_, rfl⟩
        subst hWr
        have hc : W.cell? ⟨G, 2, none⟩ = some (.int .u32 (num v)) := HI.out.arr.cell (i := 2) (by decide)
        obtain ⟨v', w', hrun, hown, hgr, hob⟩ := app_put W w.heap.size (.slice A' (1 + 1) c') ([⟨0, 0⟩] ++ (body4 x s v).take 1) [⟨2, v⟩] HI.out.own HI.out.be.size (by simp [body4]) 81 #[.int .i64 2, .int .u32 (num v)] rfl
        have hbs := build_put 2 (num v) W
        have e1 : 1 + 1 = 2 := rfl
        rw [e1] at hrun HI ⊢
        simp only [List.length_cons, List.length_nil, Nat.zero_add] at hrun
        have HR := Lib.hid (HI.out.app hown hgr hob)
        obtain ⟨A2, c2, rfl, _⟩ := hown.form
        clear hown hgr hob e1
        go_wp2_with ((with_reducible show wpList _ _ _ (Oper.mk _ (.index _ _ _) _ _ _ _ :: _) _ _); refine wl_index rfl 96 _ _ rfl _ rfl _ rfl (.int .i64 2) (by kernel_rfl) ?_)
        go_roundw
        case rel => exact ⟨2, c2, A2, by decide, by go_num, rfl, HR⟩
        case measure => simp [intOf]
      | 2, _ =>
        obtain ⟨W, hWr⟩ : ∃ W : World, W = wr := ⟨_, rfl⟩
        subst hWr
        have hc : W.cell? ⟨G, 3, none⟩ = some (.int .u32 (num (sumW x s v))) := HI.out.arr.cell (i := 3) (by decide)
        obtain ⟨v', w', hrun, hown, hgr, hob⟩ := app_put W w.heap.size (.slice A' (1 + 2) c') ([⟨0, 0⟩] ++ (body4 x s v).take 2) [⟨3, (sumW x s v)⟩] HI.out.own HI.out.be.size (by simp [body4]) 81 #[.int .i64 3, .int .u32 (num (sumW x s v))] rfl
        have hbs := build_put 3 (num (sumW x s v)) W
        have e1 : 1 + 2 = 3 := rfl
        rw [e1] at hrun HI ⊢
        simp only [List.length_cons, List.length_nil, Nat.zero_add] at hrun
        have HR := Lib.hid (HI.out.app hown hgr hob)
        obtain ⟨A2, c2, rfl, _⟩ := hown.form
        clear hown hgr hob e1
        go_wp2_with ((with_reducible show wpList _ _ _ (Oper.mk _ (.index _ _ _) _ _ _ _ :: _) _ _); refine wl_index rfl 96 _ _ rfl _ rfl _ rfl (.int .i64 3) (by kernel_rfl) ?_)
        go_roundw
        case rel => exact ⟨3, c2, A2, by decide, by go_num, rfl, HR⟩
        case measure => simp [intOf]
      | 3, _ =>
        obtain ⟨W, hWr⟩ : ∃ W : World, W = wr := ⟨_, rfl⟩
        subst hWr
        have hc : W.cell? ⟨G, 0, none⟩ = some (.int .u32 (num mark)) := HI.out.arr.cell (i := 0) (by decide)
        obtain ⟨v', w', hrun, hown, hgr, hob⟩ := app_put W w.heap.size (.slice A' (1 + 3) c') ([⟨0, 0⟩] ++ (body4 x s v).take 3) [⟨0, mark⟩] HI.out.own HI.out.be.size (by simp [body4]) 81 #[.int .i64 0, .int .u32 (num mark)] rfl
        have hbs := build_put 0 (num mark) W
        have e1 : 1 + 3 = 4 := rfl
        rw [e1] at hrun HI ⊢
        simp only [List.length_cons, List.length_nil, Nat.zero_add] at hrun
        have HR := Lib.hid (HI.out.app hown hgr hob)
        obtain ⟨A2, c2, rfl, _⟩ := hown.form
        clear hown hgr hob e1
        go_wp2_with ((with_reducible show wpList _ _ _ (Oper.mk _ (.index _ _ _) _ _ _ _ :: _) _ _); refine wl_index rfl 96 _ _ rfl _ rfl _ rfl (.int .i64 0) (by kernel_rfl) ?_)
        go_roundw
        case rel => exact ⟨4, c2, A2, by decide, by go_num, rfl, HR⟩
        case measure => simp [intOf]
      | 4, _ =>
        go_wp2_with fail
        go_ret
        obtain ⟨_, _, e, hc4, hlie, hob, hko⟩ := HI.out.own.form
        injection e with e1 e2 e3
        subst e1 e3
        rw [HLL.out]
        exact ⟨A', c', rfl, hc4, hlie, fun a ha => (hko a.block (by rw [hob, ha]; rfl)).1, HI.out.be⟩
      | k + 5, hk => omega
  · have g0 : ((num (f 0) : Int) == 3282393660) = false := by
      rw [show (3282393660 : Int) = num mark from rfl, num_beq]; simp [h0]
    have g1 : ¬ num (f 0) = 3282393660 := by
      rw [show (3282393660 : Int) = num mark from rfl]; exact fun e => h0 (num_inj e)
    have hl : stepsL x f s v = [] ++ body4 x s v := by unfold stepsL; rw [if_neg h0]
    have HLL := Lib.hid hl
    clear hl h0
    obtain ⟨A0, hA0⟩ : ∃ A0 : Option Addr, A0 = none := ⟨_, rfl⟩
    obtain ⟨cz, hcz⟩ : ∃ cz : Nat, cz = 0 := ⟨_, rfl⟩
    have HO : Hid (OwnP V w.heap.size (.slice A0 0 cz) [] ∧ Below w.heap.size w V) := Lib.hid ⟨by rw [hA0, hcz]; exact OwnP.nil _ _, HX.out.2⟩
    go_enter Try.func42, Try.ntmps42
    go_upto_region 2 with fail
    rw [← HV.out]
    clear HV
    go_upto_region 5 with (first
      | (go_at_call 38; refine (HC.out _).mono ?_; rintro e w1 ⟨rfl, hd⟩; have HD := Lib.hid hd; clear hd)
      | ((with_reducible show wpList _ _ _ (Oper.mk _ (.store 73 _ _) _ _ _ _ :: _) _ _); refine wl_store rfl 73 _ _ rfl _ rfl _ rfl (run_store_arr (Arr.new _ _ _ _) (wds (recW x s v)) infoQ (wds_one _ _)) ?_))
    obtain ⟨G, hG⟩ : ∃ G, G = w1.heap.size := ⟨_, rfl⟩
    obtain ⟨W0, hW0⟩ : ∃ W0, W0 = (w1.alloc (.cells (vec 4 (wds zw)) 73)).setRow w1.heap.size (vec 4 (wds (recW x s v))) := ⟨_, rfl⟩
    have HI0 : Hid (StepsAt w W0 G (recW x s v) (.slice A0 0 cz) []) := Lib.hid (by
      have h1 := HO.out.1.under HD.out
      obtain ⟨_, _, _, _, _, _, hk⟩ := h1.form
      have hbe := HO.out.2.trans (HD.out.mono HO.out.2.size)
      rw [hW0]
      refine ⟨h1.under (below_row ((Below.refl _ _).alloc (Nat.le_refl _) _) (Nat.le_refl _) _), by rw [hG]; exact (Arr.new _ _ _ _).row _, fun e => ?_, below_row (hbe.alloc hbe.size _) hbe.size _⟩
      have := (hk _ e).2
      omega)
    rw [← hW0, ← hG]
    clear hW0 hG HD HO
    go_wp2_with fail
    go_loopw [7, 22] (fun vo vi W => ∃ (k c' : Nat) (A' : Option Addr), k ≤ 4 ∧ vi = .int .i64 k ∧ vo = .slice A' (0 + k) c' ∧ Hid (StepsAt w W G (recW x s v) (.slice A' (0 + k) c') ([] ++ (body4 x s v).take k))) (fun _ i _ => 4 - (intOf i).toNat)
    case atStart => exact ⟨0, cz, A0, by decide, rfl, by rw [hA0, hcz], HI0⟩
    case round =>
      obtain ⟨k, c', A', hk, rfl, rfl, HI⟩ := hrel
      clear HI0
      match k, hk with
      | 0, _ =>
        obtain ⟨W, hWr⟩ : ∃ W : World, W = wr := ⟨_, rfl⟩
        subst hWr
        have hc : W.cell? ⟨G, 1, none⟩ = some (.int .u32 (num s)) := HI.out.arr.cell (i := 1) (by decide)
        obtain ⟨v', w', hrun, hown, hgr, hob⟩ := app_put W w.heap.size (.slice A' (0 + 0) c') ([] ++ (body4 x s v).take 0) [⟨1, s⟩] HI.out.own HI.out.be.size (by simp [body4]) 81 #[.int .i64 1, .int .u32 (num s)] rfl
        have hbs := build_put 1 (num s) W
        have e1 : 0 + 0 = 0 := rfl
        rw [e1] at hrun HI ⊢
        simp only [List.length_cons, List.length_nil, Nat.zero_add] at hrun
        have HR := Lib.hid (HI.out.app hown hgr hob)
        obtain ⟨A2, c2, rfl, _⟩ := hown.form
        clear hown hgr hob e1
        go_wp2_with ((with_reducible show wpList _ _ _ (Oper.mk _ (.index _ _ _) _ _ _ _ :: _) _ _); refine wl_index rfl 96 _ _ rfl _ rfl _ rfl (.int .i64 1) (by kernel_rfl) ?_)
        go_roundw
        case rel => exact ⟨1, c2, A2, by decide, by go_num, rfl, HR⟩
        case measure => simp [intOf]
      | 1, _ =>
        obtain ⟨W, hWr⟩ : ∃ W : World, W = wr := ⟨_, rfl⟩
        subst hWr
        have hc : W.cell? ⟨G, 2, none⟩ = some (.int .u32 (num v)) := HI.out.arr.cell (i := 2) (by decide)
        obtain ⟨v', w', hrun, hown, hgr, hob⟩ := app_put W w.heap.size (.slice A' (0 + 1) c') ([] ++ (body4 x s v).take 1) [⟨2, v⟩] HI.out.own HI.out.be.size (by simp [body4]) 81 #[.int .i64 2, .int .u32 (num v)] rfl
        have hbs := build_put 2 (num v) W
        have e1 : 0 + 1 = 1 := rfl
        rw [e1] at hrun HI ⊢
        simp only [List.length_cons, List.length_nil, Nat.zero_add] at hrun
        have HR := Lib.hid (HI.out.app hown hgr hob)
        obtain ⟨A2, c2, rfl, _⟩ := hown.form
        clear hown hgr hob e1
        go_wp2_with ((with_reducible show wpList _ _ _ (Oper.mk _ (.index _ _ _) _ _ _ _ :: _) _ _); refine wl_index rfl 96 _ _ rfl _ rfl _ rfl (.int .i64 2) (by kernel_rfl) ?_)
        go_roundw
        case rel => exact ⟨2, c2, A2, by decide, by go_num, rfl, HR⟩
        case measure => simp [intOf]
      | 2, _ =>
        obtain ⟨W, hWr⟩ : ∃ W : World, W = wr := ⟨_, rfl⟩
        subst hWr
        have hc : W.cell? ⟨G, 3, none⟩ = some (.int .u32 (num (sumW x s v))) := HI.out.arr.cell (i := 3) (by decide)
        obtain ⟨v', w', hrun, hown, hgr, hob⟩ := app_put W w.heap.size (.slice A' (0 + 2) c') ([] ++ (body4 x s v).take 2) [⟨3, (sumW x s v)⟩] HI.out.own HI.out.be.size (by simp [body4]) 81 #[.int .i64 3, .int .u32 (num (sumW x s v))] rfl
        have hbs := build_put 3 (num (sumW x s v)) W
        have e1 : 0 + 2 = 2 := rfl
        rw [e1] at hrun HI ⊢
        simp only [List.length_cons, List.length_nil, Nat.zero_add] at hrun
        have HR := Lib.hid (HI.out.app hown hgr hob)
        obtain ⟨A2, c2, rfl, _⟩ := hown.form
        clear hown hgr hob e1
        go_wp2_with ((with_reducible show wpList _ _ _ (Oper.mk _ (.index _ _ _) _ _ _ _ :: _) _ _); refine wl_index rfl 96 _ _ rfl _ rfl _ rfl (.int .i64 3) (by kernel_rfl) ?_)
        go_roundw
        case rel => exact ⟨3, c2, A2, by decide, by go_num, rfl, HR⟩
        case measure => simp [intOf]
      | 3, _ =>
        obtain ⟨W, hWr⟩ : ∃ W : World, W = wr := ⟨_, rfl⟩
        subst hWr
        have hc : W.cell? ⟨G, 0, none⟩ = some (.int .u32 (num mark)) := HI.out.arr.cell (i := 0) (by decide)
        obtain ⟨v', w', hrun, hown, hgr, hob⟩ := app_put W w.heap.size (.slice A' (0 + 3) c') ([] ++ (body4 x s v).take 3) [⟨0, mark⟩] HI.out.own HI.out.be.size (by simp [body4]) 81 #[.int .i64 0, .int .u32 (num mark)] rfl
        have hbs := build_put 0 (num mark) W
        have e1 : 0 + 3 = 3 := rfl
        rw [e1] at hrun HI ⊢
        simp only [List.length_cons, List.length_nil, Nat.zero_add] at hrun
        have HR := Lib.hid (HI.out.app hown hgr hob)
        obtain ⟨A2, c2, rfl, _⟩ := hown.form
        clear hown hgr hob e1
        go_wp2_with ((with_reducible show wpList _ _ _ (Oper.mk _ (.index _ _ _) _ _ _ _ :: _) _ _); refine wl_index rfl 96 _ _ rfl _ rfl _ rfl (.int .i64 0) (by kernel_rfl) ?_)
        go_roundw
        case rel => exact ⟨4, c2, A2, by decide, by go_num, rfl, HR⟩
        case measure => simp [intOf]
      | 4, _ =>
        go_wp2_with fail
        go_ret
        obtain ⟨_, _, e, hc4, hlie, hob, hko⟩ := HI.out.own.form
        injection e with e1 e2 e3
        subst e1 e3
        rw [HLL.out]
        exact ⟨A', c', rfl, hc4, hlie, fun a ha => (hko a.block (by rw [hob, ha]; rfl)).1, HI.out.be⟩
      | k + 5, hk => omega
end Go.Proofs.Ytpeebdhbcglibaa
