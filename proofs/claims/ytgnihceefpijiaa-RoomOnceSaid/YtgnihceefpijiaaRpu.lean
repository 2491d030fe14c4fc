/- The reference's put: a part among parts, by IPA. -/
import Derived.Test.YtgnihceefpijiaaRpa
import Derived.BigQuiet
namespace Go.Proofs.Ytgnihceefpijiaa
open Go.RowKit
attribute [local go_sem ↓ high] zeroMp

theorem ins_at {l : List Mp} {x : Mp} {k : Nat} (hk : k ≤ l.length) (h1 : ∀ j (hj : j < l.length), j < k → l[j].ipa ≤ x.ipa) (h2 : ∀ (hj : k < l.length), ¬ l[k].ipa ≤ x.ipa) : insP l x = l.take k ++ x :: l.drop k := by
  unfold insP
  have hT : ∀ y ∈ l.take k, (fun y : Mp => decide (y.ipa ≤ x.ipa)) y = true := fun y hy => by
    obtain ⟨j, hj, rfl⟩ := List.mem_iff_getElem.1 hy
    rw [List.length_take] at hj
    rw [List.getElem_take]
    exact decide_eq_true (h1 j (by omega) (by omega))
  have hD : (l.drop k).takeWhile (fun y : Mp => decide (y.ipa ≤ x.ipa)) = [] ∧ (l.drop k).dropWhile (fun y : Mp => decide (y.ipa ≤ x.ipa)) = l.drop k := by
    by_cases hlt : k < l.length
    · rw [List.drop_eq_getElem_cons hlt, List.takeWhile_cons, List.dropWhile_cons]
      have : decide (l[k].ipa ≤ x.ipa) = false := decide_eq_false (h2 hlt)
      rw [this]
      exact ⟨rfl, rfl⟩
    · rw [List.drop_eq_nil_of_le (by omega)]; exact ⟨rfl, rfl⟩
  have e := List.take_append_drop k l
  have e1 : l.takeWhile (fun y : Mp => decide (y.ipa ≤ x.ipa)) = l.take k := by
    conv => lhs; rw [← e]
    rw [List.takeWhile_append_of_pos hT, hD.1, List.append_nil]
  have e2 : l.dropWhile (fun y : Mp => decide (y.ipa ≤ x.ipa)) = l.drop k := by
    conv => lhs; rw [← e]
    rw [List.dropWhile_append_of_pos hT, hD.2]
  rw [e1, e2]
theorem RowE.take {w : World} {B : Nat} {a : Addr} {l : List Mp} (h : RowE 5 mpE w B (some a) l) (k : Nat) : RowE 5 mpE w B (some a) (l.take k) := fun hne => by
  have hl : l ≠ [] := fun e => hne (by rw [e]; exact List.take_nil)
  obtain ⟨a', e, hb, hc⟩ := h hl
  refine ⟨a', e, hb, fun j hj i hi => ?_⟩
  rw [List.length_take] at hj
  rw [List.getElem_take]
  exact hc j (by omega) i hi
def cut5 (a : Addr) (c k : Nat) : Addr := if c = k then a else a.add (k * 5)
theorem RowE.drop {w : World} {B : Nat} {a : Addr} {l : List Mp} {c k : Nat} (h : RowE 5 mpE w B (some a) l) (hc : l.length ≤ c) : RowE 5 mpE w B (some (cut5 a c k)) (l.drop k) := fun hne => by
  have hkl : k < l.length := by
    by_cases hh : k < l.length
    · exact hh
    · exact absurd (List.drop_eq_nil_of_le (by omega)) hne
  obtain ⟨a', e, hb, hcc⟩ := h (fun e => by rw [e] at hkl; cases hkl)
  injection e with e
  subst e
  unfold cut5
  rw [if_neg (by omega)]
  refine ⟨_, rfl, by rw [addr_add_block]; exact hb, fun j hj i hi => ?_⟩
  rw [List.length_drop] at hj
  rw [addr_add_add, List.getElem_drop]
  have := hcc (k + j) (by omega) i hi
  rw [show k * 5 + (j * 5 + i) = (k + j) * 5 + i by omega]
  exact this
theorem mp_elem : Try.prog.underlying 29 = some (.slice (Try.prog.elem 29)) := by kernel_rfl
theorem mp_size (W : World) : (sizeOf (Try.prog.elem 29)).run Try.prog W = .ok 5 W := by kernel_rfl
set_option maxRecDepth 100000 in
theorem slice5_lo (a : Addr) (N c k : Nat) (hk : k ≤ N) (W : World) : (Instr.sliceAt 29 (.slice (some a) N c) (some (.int .i64 (k : Int))) none none).run Try.prog W = .ok (.slice (some (cut5 a c k)) (N - k) (c - k)) W := by
  rw [run_sliceAt_slice W _ _ _ _ _ mp_elem, run_slice_l W _ _ _ _ mp_elem .i64 (k : Int) (by omega) (by omega), mp_size]
  simp only [Result.andThen_ok, sliced, Int.toNat_natCast]
  unfold cut5
  by_cases h : c = k
  · rw [if_pos h, if_pos h]
  · rw [if_neg h, if_neg h]; rfl
set_option maxRecDepth 100000 in
theorem slice5_hm (a : Addr) (N c k : Nat) (hk : k ≤ N) (hc : N ≤ c) (W : World) : (Instr.sliceAt 29 (.slice (some a) N c) none (some (.int .i64 (k : Int))) (some (.int .i64 (k : Int)))).run Try.prog W = .ok (.slice (some a) k k) W := by
  rw [run_sliceAt_slice W _ _ _ _ _ mp_elem, run_slice_hm W _ _ _ _ mp_elem .i64 .i64 (k : Int) (k : Int) (by omega) (by omega) (by omega), mp_size]
  simp [Result.andThen_ok, sliced, Addr.add]
theorem exec_sl {P : Program} {w : World} {o : Oper} {a : Act} (t : TypeId) (x lo : Operand) (ho : o.op = .slice t x (some lo) none none) (vx vl : Value) (hx : a.eval x = vx) (hl : a.eval lo = vl) {v : Value} (hr : (Instr.sliceAt t vx (some vl) none none).run P w = .ok v w) :
    (execOp a.eval o).run P w = .ok (.value v) w := by
  unfold execOp
  simp only [ho, Option.map_none, Option.map_some, hx, hl, Sem.run_bind, hr, Result.andThen_ok, Sem.run_pure]
theorem exec_shm {P : Program} {w : World} {o : Oper} {a : Act} (t : TypeId) (x hi mx : Operand) (ho : o.op = .slice t x none (some hi) (some mx)) (vx vh vm : Value) (hx : a.eval x = vx) (hh : a.eval hi = vh) (hm : a.eval mx = vm) {v : Value} (hr : (Instr.sliceAt t vx none (some vh) (some vm)).run P w = .ok v w) :
    (execOp a.eval o).run P w = .ok (.value v) w := by
  unfold execOp
  simp only [ho, Option.map_none, Option.map_some, hx, hh, hm, Sem.run_bind, hr, Result.andThen_ok, Sem.run_pure]
/-- What put does behind its loop, in a world X where parts lie at a: three worlds, the last one with the new row. -/
theorem put_worlds {l : List Mp} {a : Addr} {c k : Nat} (x : Mp) (X : World) (hr : RowE 5 mpE X X.heap.size (some a) l) (hc : l.length ≤ c) (hl : l.length ≤ 1000) (hk : k ≤ l.length) (ty ty2 : TypeId) : ∃ a2 c2 w2 v3 w3,
    (Builtin.append_ #[29, 29] ty #[.slice (some ⟨X.heap.size, 0, none⟩) 1 1, .slice (some (cut5 a c k)) (l.length - k) (c - k)]).run Try.prog (X.alloc (.cells (vec 5 (mpE x)) 39)) = .ok (.slice (some a2) (1 + (l.length - k)) c2) w2 ∧
    (Builtin.append_ #[29, 29] ty2 #[.slice (some a) k k, .slice (some a2) (1 + (l.length - k)) c2]).run Try.prog w2 = .ok v3 w3 ∧
    Below X.heap.size X (X.alloc (.cells (vec 5 (mpE x)) 39)) ∧ Below X.heap.size X w2 ∧ Below X.heap.size X w3 ∧ OwnM w3 X.heap.size v3 (l.take k ++ x :: l.drop k) := by
  have b1 : Below X.heap.size X (X.alloc (.cells (vec 5 (mpE x)) 39)) := (Below.refl _ _).alloc (Nat.le_refl _) _
  have hd := (hr.below b1).drop (c := c) (k := k) hc
  obtain ⟨v2, w2, hrun2, ho2, hb2⟩ := app_maps (own_map x X) b1.size (by simp) (by rw [List.length_drop]; omega) hd (c := c - k) ty
  rw [List.length_drop] at hrun2
  obtain ⟨A2, c2, e2, -, hr2, -⟩ := ho2.form
  obtain ⟨a2, ea2, -, -⟩ := hr2 (by simp)
  subst ea2
  have el : ([x] ++ l.drop k).length = 1 + (l.length - k) := by rw [List.length_append, List.length_drop]; rfl
  rw [el] at e2
  subst e2
  have b2 : Below X.heap.size X w2 := b1.trans hb2
  obtain ⟨v3, w3, hrun3, ho3, hb3⟩ := app_full (l := l.take k) (k := [x] ++ l.drop k) (b := a) (a := a2) (c := c2) (by rw [List.length_take]; omega) (by rw [el]; omega) (by simp) ((hr.below b2).take k) hr2 ty2
  rw [List.length_take, Nat.min_eq_left hk, el] at hrun3
  exact ⟨a2, c2, w2, v3, w3, hrun2, hrun3, b1, b2, b2.trans (hb3.mono b2.size), by have := ho3.low b2.size; exact this⟩
def PutM (l : List Mp) (w : World) (e : Ending) (w' : World) : Prop := ∃ v, e = .returned v ∧ OwnM w' w.heap.size v l ∧ Below w.heap.size w w'
set_option maxHeartbeats 2000000 in
set_option maxRecDepth 100000 in
theorem rputM_some (l : List Mp) (a : Addr) (c : Nat) (x : Mp) (hc : l.length ≤ c) (hlen : l.length ≤ 1000) (w : World) (hr : RowE 5 mpE w w.heap.size (some a) l) : Calls Try.prog 26 #[.slice (some a) l.length c, .agg (vec 5 (mpE x))] w (PutM (insP l x) w) := by
  obtain ⟨g0, hg0⟩ : ∃ g, g = w.heap.size := ⟨_, rfl⟩
  obtain ⟨V, hV⟩ : ∃ V, V = w.alloc (.cells (vec 5 (mpE x)) 39) := ⟨_, rfl⟩
  have k0 : Arr V g0 39 5 (mpE x) := by rw [hV, hg0]; exact Arr.new w _ _ _
  have hB : Below w.heap.size w V := by rw [hV]; exact (Below.refl _ _).alloc (Nat.le_refl _) _
  obtain ⟨N, hN⟩ : ∃ n, n = l.length := ⟨_, rfl⟩
  have HNL := Lib.hid hN
  have HR := Lib.hid (hr.up hB)
  have HK := Lib.hid (And.intro k0 hB)
  have HW := Lib.hid hV
  have HG := Lib.hid hg0
  have HNB : Hid (N ≤ 1000 ∧ N ≤ c) := Lib.hid (by omega)
  have hN1 : N ≤ 1000 := by omega
  have hNc : N ≤ c := by omega
  have HINS : Hid (∀ k, k ≤ N → (∀ j (hj : j < l.length), j < k → l[j].ipa ≤ x.ipa) → (∀ (hj : k < l.length), ¬ l[k].ipa ≤ x.ipa) → insP l x = l.take k ++ x :: l.drop k) := Lib.hid (fun k hk h1 h2 => ins_at (by omega) h1 h2)
  have HEND : Hid (∀ v W k, insP l x = l.take k ++ x :: l.drop k → OwnM W V.heap.size v (l.take k ++ x :: l.drop k) → Below V.heap.size V W → PutM (insP l x) w (.returned v) W) := Lib.hid (fun v W k h1 h2 h3 => ⟨v, rfl, by rw [h1]; exact h2.low hB.size, hB.trans (h3.mono hB.size)⟩)
  rw [← hN]
  obtain ⟨Q, hQ⟩ : ∃ Q, Q = PutM (insP l x) w := ⟨_, rfl⟩
  rw [← hQ] at HEND ⊢
  clear hV k0 hB hr hg0 hN hQ hc hlen
  go_enter Try.func26, Try.ntmps26
  go_upto_region 1 with fail
  rw [← HW.out, ← HG.out]
  clear HW
  go_wp2_with fail
  go_loopw [5] (fun v W => ∃ k : Nat, k ≤ N ∧ v = .int .i64 k ∧ Hid (∀ j (hj : j < l.length), j < k → l[j].ipa ≤ x.ipa) ∧ Hid (Below V.heap.size V W)) (fun i _ => N - (intOf i).toNat)
  case atStart => exact ⟨0, Nat.zero_le _, rfl, Lib.hid (fun j _ hj => absurd hj (Nat.not_lt_zero _)), Lib.hid (Below.refl _ _)⟩
  case round =>
    obtain ⟨k, hk, rfl, HP0, HB⟩ := hrel
    obtain ⟨W, hW⟩ : ∃ W : World, W = wr := ⟨_, rfl⟩
    subst hW
    have c0 : W.cell? ⟨g0, 0, none⟩ = some (.int .u64 x.ipa) := (HK.out.1.under HB.out).cell (i := 0) (by decide)
    by_cases hlt0 : k < N
    · have hlt : k < l.length := by have := HNL.out; omega
      obtain ⟨a', q, ea, hq, -, hcp⟩ := (HR.out.up HB.out).at hlt
      injection ea with ea
      subst ea
      obtain ⟨y, hy⟩ : ∃ y, y = l[k] := ⟨_, rfl⟩
      rw [← hy] at hcp
      have cy : W.cell? q = some (.int .u64 y.ipa) := by
        have h := hcp 0 (by decide)
        have e0 : q.add 0 = q := by simp [Addr.add]
        rw [e0] at h; exact h
      have HNEXT : Hid (y.ipa ≤ x.ipa → ∀ j (hj : j < l.length), j < k + 1 → l[j].ipa ≤ x.ipa) := Lib.hid (fun h j hj hjk => by
        by_cases e : j = k
        · subst e; rw [← hy]; exact h
        · exact HP0.out j hj (by omega))
      have HSTOP : Hid (¬ y.ipa ≤ x.ipa → insP l x = l.take k ++ x :: l.drop k) := Lib.hid (fun h => HINS.out k hk HP0.out (fun hj => by rw [← hy]; omega))
      have hki : (k : Int) < (N : Int) := by omega
      clear hcp hlt hy
      by_cases hle : y.ipa ≤ x.ipa
      · have HS := Lib.hid (HNEXT.out hle)
        clear HNEXT HSTOP
        go_upto_region 2 with fail
        go_quiet (fail)
        go_wp2_with fail
        go_roundw
        case rel => exact ⟨k + 1, by omega, by go_num, HS, Lib.hid (below_drewN HB.out _)⟩
        case measure => simp [intOf]; omega
      · have HI := Lib.hid (HSTOP.out hle)
        clear HNEXT HSTOP
        go_upto_region 2 with fail
        go_quiet (fail)
        go_upto_region 4 with fail
        clear hle hki cy c0 hq
        obtain ⟨X, hX⟩ : ∃ X : World, X = W.drewN nq := ⟨_, rfl⟩
        have hVX : Below V.heap.size V X := by rw [hX]; exact below_drewN HB.out _
        rw [← hX]
        have hkl : k ≤ l.length := by have := HNL.out; omega
        obtain ⟨a2, c2, w2, v3, w3, hr2, hr3, b1, b2, b3, ho3⟩ := put_worlds (c := c) (k := k) x X.drew ((HR.out.up (hVX.trans ((show Below X.heap.size X X.drew from VS.begin X).mono hVX.size)))) (by have := HNL.out; have := HNB.out.2; omega) (by have := HNL.out; have := HNB.out.1; omega) hkl 29 29
        rw [← HNL.out] at hr2 hr3
        have hbs := build_map x X.drew
        have HX := Lib.hid (And.intro hVX (HK.out.1.under hVX))
        have HRUN := Lib.hid (And.intro hbs (And.intro hr2 hr3))
        have HBB := Lib.hid (And.intro b1 (And.intro b2 b3))
        have HO3 := Lib.hid ho3
        have HS8 := Lib.hid (fun W => slice5_lo a N c k hk W)
        have HS3 := Lib.hid (fun W => slice5_hm a N c k hk hNc W)
        clear hX hVX hkl hr2 hr3 hbs b1 b2 b3 ho3
        refine wp_region_held_drew (S := fun Y => Arr Y g0 39 5 (mpE x)) (by kernel_rfl) (HX.out.2.drewN 1) (fun hS => ?_)
        (refine held_take (i := 0) (oi := ?ot13) (v := ?vt13) ?at13 (by kernel_rfl) (by kernel_rfl) (by kernel_rfl) ?bt13 ?ct13 ?dt13 (by assumption) ?rt13; (case at13 => (simp only [List.getElem?_toArray, List.getElem?_cons_zero]; rfl)); (case bt13 => exact fun _ _ _ h => h); (case ct13 => kernel_rfl); (case dt13 => (intro W hW; (try dsimp only at hW); go_split_ands; go_simp; (try with_reducible rfl))); (case' rt13 => simp only [Act.put, List.setIfInBounds_toArray, List.set_cons_zero, List.set_cons_succ]))
        (refine held_take (i := 1) (oi := ?ot14) (v := ?vt14) ?at14 (by kernel_rfl) (by kernel_rfl) (by kernel_rfl) ?bt14 ?ct14 ?dt14 (by assumption) ?rt14; (case at14 => (simp only [List.getElem?_toArray, List.getElem?_cons_zero, List.getElem?_cons_succ]; rfl)); (case bt14 => exact fun _ _ _ h => h); (case ct14 => kernel_rfl); (case dt14 => (intro W hW; (try dsimp only at hW); go_split_ands; go_simp; (try with_reducible rfl))); (case' rt14 => simp only [Act.put, List.setIfInBounds_toArray, List.set_cons_zero, List.set_cons_succ]))
        (refine held_take (i := 2) (oi := ?ot15) (v := ?vt15) ?at15 (by kernel_rfl) (by kernel_rfl) (by kernel_rfl) ?bt15 ?ct15 ?dt15 (by assumption) ?rt15; (case at15 => (simp only [List.getElem?_toArray, List.getElem?_cons_zero, List.getElem?_cons_succ]; rfl)); (case bt15 => exact fun _ _ _ h => h); (case ct15 => kernel_rfl); (case dt15 => (intro W hW; (try dsimp only at hW); go_split_ands; go_simp; (try with_reducible rfl))); (case' rt15 => simp only [Act.put, List.setIfInBounds_toArray, List.set_cons_zero, List.set_cons_succ]))
        (refine held_take (i := 3) (oi := ?ot16) (v := .slice (some a) k k) ?at16 (by kernel_rfl) (by kernel_rfl) (by kernel_rfl) ?bt16 ?ct16 ?dt16 (by assumption) ?rt16; (case at16 => (simp only [List.getElem?_toArray, List.getElem?_cons_zero, List.getElem?_cons_succ]; rfl)); (case bt16 => exact fun _ _ _ h => h); (case ct16 => kernel_rfl); (case dt16 => (intro W hW; exact exec_shm 29 _ _ _ rfl (.slice (some a) N c) (.int .i64 (k : Int)) (.int .i64 (k : Int)) rfl rfl rfl (HS3.out W))); (case' rt16 => simp only [Act.put, List.setIfInBounds_toArray, List.set_cons_zero, List.set_cons_succ]))
        (refine held_take (i := 4) (oi := ?ot17) (v := .agg (vec 5 (mpE x))) ?at17 (by kernel_rfl) (by kernel_rfl) (by kernel_rfl) ?bt17 ?ct17 ?dt17 (by assumption) ?rt17; (case at17 => (simp only [List.getElem?_toArray, List.getElem?_cons_zero, List.getElem?_cons_succ]; rfl)); (case bt17 => exact fun _ _ _ h => h); (case ct17 => kernel_rfl); (case dt17 => (intro W hW; exact exec_load_at 39 _ rfl _ _ rfl _ (run_load_arr hW Try.underlying39 rfl infoMp))); (case' rt17 => simp only [Act.put, List.setIfInBounds_toArray, List.set_cons_zero, List.set_cons_succ]))
        (refine held_take (i := 6) (oi := ?ot18) (v := ?vt18) ?at18 (by kernel_rfl) (by kernel_rfl) (by kernel_rfl) ?bt18 ?ct18 ?dt18 (by assumption) ?rt18; (case at18 => (simp only [List.getElem?_toArray, List.getElem?_cons_zero, List.getElem?_cons_succ]; rfl)); (case bt18 => exact fun _ _ _ h => h); (case ct18 => kernel_rfl); (case dt18 => (intro W hW; (try dsimp only at hW); go_split_ands; go_simp; (try with_reducible rfl))); (case' rt18 => simp only [Act.put, List.setIfInBounds_toArray, List.set_cons_zero, List.set_cons_succ]))
        (refine held_take (i := 7) (oi := ?ot19) (v := ?vt19) ?at19 (by kernel_rfl) (by kernel_rfl) (by kernel_rfl) ?bt19 ?ct19 ?dt19 (by assumption) ?rt19; (case at19 => (simp only [List.getElem?_toArray, List.getElem?_cons_zero, List.getElem?_cons_succ]; rfl)); (case bt19 => exact fun _ _ _ h => h); (case ct19 => kernel_rfl); (case dt19 => (intro W hW; (try dsimp only at hW); go_split_ands; go_simp; (try with_reducible rfl))); (case' rt19 => simp only [Act.put, List.setIfInBounds_toArray, List.set_cons_zero, List.set_cons_succ]))
        (refine held_take (i := 8) (oi := ?ot20) (v := .slice (some (cut5 a c k)) (N - k) (c - k)) ?at20 (by kernel_rfl) (by kernel_rfl) (by kernel_rfl) ?bt20 ?ct20 ?dt20 (by assumption) ?rt20; (case at20 => (simp only [List.getElem?_toArray, List.getElem?_cons_zero, List.getElem?_cons_succ]; rfl)); (case bt20 => exact fun _ _ _ h => h); (case ct20 => kernel_rfl); (case dt20 => (intro W hW; exact exec_sl 29 _ _ rfl (.slice (some a) N c) (.int .i64 (k : Int)) rfl rfl (HS8.out W))); (case' rt20 => simp only [Act.put, List.setIfInBounds_toArray, List.set_cons_zero, List.set_cons_succ]))
        refine held_one (i := 5) (oi := ?ot21) (by kernel_rfl) ?at21 ?ct21 (fun K5 hK5 => ?_)
        (case at21 => (simp only [List.getElem?_toArray, List.getElem?_cons_zero, List.getElem?_cons_succ]; rfl))
        (case ct21 => kernel_rfl)
        refine ow_bsM _ _ rfl (.agg (vec 5 (mpE x))) rfl HRUN.out.1 ?_
        refine hK5 _ _ ((HX.out.2.drewN 1).under HBB.out.1) (fun hS5 => ?_)
        clear hS hK5 K5
        refine held_one (i := 9) (oi := ?ot22) (by kernel_rfl) ?at22 ?ct22 (fun K9 hK9 => ?_)
        (case at22 => (simp only [List.getElem?_toArray, List.getElem?_cons_zero, List.getElem?_cons_succ]; rfl))
        (case ct22 => kernel_rfl)
        refine ow_app _ _ 29 rfl _ _ rfl rfl HRUN.out.2.1 ?_
        refine hK9 _ _ ((HX.out.2.drewN 1).under HBB.out.2.1) (fun hS9 => ?_)
        clear hS5 hK9 K9
        refine held_one (i := 10) (oi := ?ot23) (by kernel_rfl) ?at23 ?ct23 (fun K10 hK10 => ?_)
        (case at23 => (simp only [List.getElem?_toArray, List.getElem?_cons_zero, List.getElem?_cons_succ]; rfl))
        (case ct23 => kernel_rfl)
        refine ow_app _ _ 29 rfl _ _ rfl rfl HRUN.out.2.2 ?_
        refine hK10 _ _ ((HX.out.2.drewN 1).under HBB.out.2.2) (fun hS10 => ?_)
        clear hS9 hK10 K10
        (refine held_take (i := 11) (oi := ?ot24) (v := ?vt24) ?at24 (by kernel_rfl) (by kernel_rfl) (by kernel_rfl) ?bt24 ?ct24 ?dt24 (by assumption) ?rt24; (case at24 => (simp only [List.getElem?_toArray, List.getElem?_cons_zero, List.getElem?_cons_succ]; rfl)); (case bt24 => exact fun _ _ _ h => h); (case ct24 => kernel_rfl); (case dt24 => (intro W hW; (try dsimp only at hW); go_split_ands; go_simp; (try with_reducible rfl))); (case' rt24 => simp only [Act.put, List.setIfInBounds_toArray, List.set_cons_zero, List.set_cons_succ]))
        refine wpAnyH_done (by kernel_rfl) ?_ _
        go_wp2
        exact HEND.out _ _ k HI.out (HO3.out.low HX.out.1.size) (HX.out.1.trans (((show Below X.heap.size X X.drew from VS.begin X).trans HBB.out.2.2).mono HX.out.1.size))
    · have HI := Lib.hid (HINS.out k hk HP0.out (fun hj => by have := HNL.out; omega))
      have hki : ¬ (k : Int) < (N : Int) := by omega
      go_upto_region 2 with fail
      go_quiet (fail)
      go_upto_region 4 with fail
      clear hki c0
      obtain ⟨X, hX⟩ : ∃ X : World, X = W.drewN nq := ⟨_, rfl⟩
      have hVX : Below V.heap.size V X := by rw [hX]; exact below_drewN HB.out _
      rw [← hX]
      have hkl : k ≤ l.length := by have := HNL.out; omega
      obtain ⟨a2, c2, w2, v3, w3, hr2, hr3, b1, b2, b3, ho3⟩ := put_worlds (c := c) (k := k) x X.drew ((HR.out.up (hVX.trans ((show Below X.heap.size X X.drew from VS.begin X).mono hVX.size)))) (by have := HNL.out; have := HNB.out.2; omega) (by have := HNL.out; have := HNB.out.1; omega) hkl 29 29
      rw [← HNL.out] at hr2 hr3
      have hbs := build_map x X.drew
      have HX := Lib.hid (And.intro hVX (HK.out.1.under hVX))
      have HRUN := Lib.hid (And.intro hbs (And.intro hr2 hr3))
      have HBB := Lib.hid (And.intro b1 (And.intro b2 b3))
      have HO3 := Lib.hid ho3
      have HS8 := Lib.hid (fun W => slice5_lo a N c k hk W)
      have HS3 := Lib.hid (fun W => slice5_hm a N c k hk hNc W)
      clear hX hVX hkl hr2 hr3 hbs b1 b2 b3 ho3
      refine wp_region_held_drew (S := fun Y => Arr Y g0 39 5 (mpE x)) (by kernel_rfl) (HX.out.2.drewN 1) (fun hS => ?_)
      (refine held_take (i := 0) (oi := ?ot25) (v := ?vt25) ?at25 (by kernel_rfl) (by kernel_rfl) (by kernel_rfl) ?bt25 ?ct25 ?dt25 (by assumption) ?rt25; (case at25 => (simp only [List.getElem?_toArray, List.getElem?_cons_zero]; rfl)); (case bt25 => exact fun _ _ _ h => h); (case ct25 => kernel_rfl); (case dt25 => (intro W hW; (try dsimp only at hW); go_split_ands; go_simp; (try with_reducible rfl))); (case' rt25 => simp only [Act.put, List.setIfInBounds_toArray, List.set_cons_zero, List.set_cons_succ]))
      (refine held_take (i := 1) (oi := ?ot26) (v := ?vt26) ?at26 (by kernel_rfl) (by kernel_rfl) (by kernel_rfl) ?bt26 ?ct26 ?dt26 (by assumption) ?rt26; (case at26 => (simp only [List.getElem?_toArray, List.getElem?_cons_zero, List.getElem?_cons_succ]; rfl)); (case bt26 => exact fun _ _ _ h => h); (case ct26 => kernel_rfl); (case dt26 => (intro W hW; (try dsimp only at hW); go_split_ands; go_simp; (try with_reducible rfl))); (case' rt26 => simp only [Act.put, List.setIfInBounds_toArray, List.set_cons_zero, List.set_cons_succ]))
      (refine held_take (i := 2) (oi := ?ot27) (v := ?vt27) ?at27 (by kernel_rfl) (by kernel_rfl) (by kernel_rfl) ?bt27 ?ct27 ?dt27 (by assumption) ?rt27; (case at27 => (simp only [List.getElem?_toArray, List.getElem?_cons_zero, List.getElem?_cons_succ]; rfl)); (case bt27 => exact fun _ _ _ h => h); (case ct27 => kernel_rfl); (case dt27 => (intro W hW; (try dsimp only at hW); go_split_ands; go_simp; (try with_reducible rfl))); (case' rt27 => simp only [Act.put, List.setIfInBounds_toArray, List.set_cons_zero, List.set_cons_succ]))
      (refine held_take (i := 3) (oi := ?ot28) (v := .slice (some a) k k) ?at28 (by kernel_rfl) (by kernel_rfl) (by kernel_rfl) ?bt28 ?ct28 ?dt28 (by assumption) ?rt28; (case at28 => (simp only [List.getElem?_toArray, List.getElem?_cons_zero, List.getElem?_cons_succ]; rfl)); (case bt28 => exact fun _ _ _ h => h); (case ct28 => kernel_rfl); (case dt28 => (intro W hW; exact exec_shm 29 _ _ _ rfl (.slice (some a) N c) (.int .i64 (k : Int)) (.int .i64 (k : Int)) rfl rfl rfl (HS3.out W))); (case' rt28 => simp only [Act.put, List.setIfInBounds_toArray, List.set_cons_zero, List.set_cons_succ]))
      (refine held_take (i := 4) (oi := ?ot29) (v := .agg (vec 5 (mpE x))) ?at29 (by kernel_rfl) (by kernel_rfl) (by kernel_rfl) ?bt29 ?ct29 ?dt29 (by assumption) ?rt29; (case at29 => (simp only [List.getElem?_toArray, List.getElem?_cons_zero, List.getElem?_cons_succ]; rfl)); (case bt29 => exact fun _ _ _ h => h); (case ct29 => kernel_rfl); (case dt29 => (intro W hW; exact exec_load_at 39 _ rfl _ _ rfl _ (run_load_arr hW Try.underlying39 rfl infoMp))); (case' rt29 => simp only [Act.put, List.setIfInBounds_toArray, List.set_cons_zero, List.set_cons_succ]))
      (refine held_take (i := 6) (oi := ?ot30) (v := ?vt30) ?at30 (by kernel_rfl) (by kernel_rfl) (by kernel_rfl) ?bt30 ?ct30 ?dt30 (by assumption) ?rt30; (case at30 => (simp only [List.getElem?_toArray, List.getElem?_cons_zero, List.getElem?_cons_succ]; rfl)); (case bt30 => exact fun _ _ _ h => h); (case ct30 => kernel_rfl); (case dt30 => (intro W hW; (try dsimp only at hW); go_split_ands; go_simp; (try with_reducible rfl))); (case' rt30 => simp only [Act.put, List.setIfInBounds_toArray, List.set_cons_zero, List.set_cons_succ]))
      (refine held_take (i := 7) (oi := ?ot31) (v := ?vt31) ?at31 (by kernel_rfl) (by kernel_rfl) (by kernel_rfl) ?bt31 ?ct31 ?dt31 (by assumption) ?rt31; (case at31 => (simp only [List.getElem?_toArray, List.getElem?_cons_zero, List.getElem?_cons_succ]; rfl)); (case bt31 => exact fun _ _ _ h => h); (case ct31 => kernel_rfl); (case dt31 => (intro W hW; (try dsimp only at hW); go_split_ands; go_simp; (try with_reducible rfl))); (case' rt31 => simp only [Act.put, List.setIfInBounds_toArray, List.set_cons_zero, List.set_cons_succ]))
      (refine held_take (i := 8) (oi := ?ot32) (v := .slice (some (cut5 a c k)) (N - k) (c - k)) ?at32 (by kernel_rfl) (by kernel_rfl) (by kernel_rfl) ?bt32 ?ct32 ?dt32 (by assumption) ?rt32; (case at32 => (simp only [List.getElem?_toArray, List.getElem?_cons_zero, List.getElem?_cons_succ]; rfl)); (case bt32 => exact fun _ _ _ h => h); (case ct32 => kernel_rfl); (case dt32 => (intro W hW; exact exec_sl 29 _ _ rfl (.slice (some a) N c) (.int .i64 (k : Int)) rfl rfl (HS8.out W))); (case' rt32 => simp only [Act.put, List.setIfInBounds_toArray, List.set_cons_zero, List.set_cons_succ]))
      refine held_one (i := 5) (oi := ?ot33) (by kernel_rfl) ?at33 ?ct33 (fun K5 hK5 => ?_)
      (case at33 => (simp only [List.getElem?_toArray, List.getElem?_cons_zero, List.getElem?_cons_succ]; rfl))
      (case ct33 => kernel_rfl)
      refine ow_bsM _ _ rfl (.agg (vec 5 (mpE x))) rfl HRUN.out.1 ?_
      refine hK5 _ _ ((HX.out.2.drewN 1).under HBB.out.1) (fun hS5 => ?_)
      clear hS hK5 K5
      refine held_one (i := 9) (oi := ?ot34) (by kernel_rfl) ?at34 ?ct34 (fun K9 hK9 => ?_)
      (case at34 => (simp only [List.getElem?_toArray, List.getElem?_cons_zero, List.getElem?_cons_succ]; rfl))
      (case ct34 => kernel_rfl)
      refine ow_app _ _ 29 rfl _ _ rfl rfl HRUN.out.2.1 ?_
      refine hK9 _ _ ((HX.out.2.drewN 1).under HBB.out.2.1) (fun hS9 => ?_)
      clear hS5 hK9 K9
      refine held_one (i := 10) (oi := ?ot35) (by kernel_rfl) ?at35 ?ct35 (fun K10 hK10 => ?_)
      (case at35 => (simp only [List.getElem?_toArray, List.getElem?_cons_zero, List.getElem?_cons_succ]; rfl))
      (case ct35 => kernel_rfl)
      refine ow_app _ _ 29 rfl _ _ rfl rfl HRUN.out.2.2 ?_
      refine hK10 _ _ ((HX.out.2.drewN 1).under HBB.out.2.2) (fun hS10 => ?_)
      clear hS9 hK10 K10
      (refine held_take (i := 11) (oi := ?ot36) (v := ?vt36) ?at36 (by kernel_rfl) (by kernel_rfl) (by kernel_rfl) ?bt36 ?ct36 ?dt36 (by assumption) ?rt36; (case at36 => (simp only [List.getElem?_toArray, List.getElem?_cons_zero, List.getElem?_cons_succ]; rfl)); (case bt36 => exact fun _ _ _ h => h); (case ct36 => kernel_rfl); (case dt36 => (intro W hW; (try dsimp only at hW); go_split_ands; go_simp; (try with_reducible rfl))); (case' rt36 => simp only [Act.put, List.setIfInBounds_toArray, List.set_cons_zero, List.set_cons_succ]))
      refine wpAnyH_done (by kernel_rfl) ?_ _
      go_wp2
      exact HEND.out _ _ k HI.out (HO3.out.low HX.out.1.size) (HX.out.1.trans (((show Below X.heap.size X X.drew from VS.begin X).trans HBB.out.2.2).mono HX.out.1.size))

theorem slice0_lo (W : World) : (Instr.sliceAt 29 (.slice none 0 0) (some (.int .i64 0)) none none).run Try.prog W = .ok (.slice none 0 0) W := by
  rw [run_sliceAt_slice W _ _ _ _ _ mp_elem, run_slice_l W _ _ _ _ mp_elem .i64 (0 : Int) (by omega) (by omega), mp_size]
  simp [Result.andThen_ok, sliced]
theorem slice0_hm (W : World) : (Instr.sliceAt 29 (.slice none 0 0) none (some (.int .i64 0)) (some (.int .i64 0))).run Try.prog W = .ok (.slice none 0 0) W := by
  rw [run_sliceAt_slice W _ _ _ _ _ mp_elem, run_slice_hm W _ _ _ _ mp_elem .i64 .i64 (0 : Int) (0 : Int) (by omega) (by omega) (by omega), mp_size]
  simp [Result.andThen_ok, sliced]
theorem put_worlds0 (x : Mp) (X : World) (ty ty2 : TypeId) : ∃ v3 w3,
    (Builtin.append_ #[29, 29] ty #[.slice (some ⟨X.heap.size, 0, none⟩) 1 1, .slice none 0 0]).run Try.prog (X.alloc (.cells (vec 5 (mpE x)) 39)) = .ok (.slice (some ⟨X.heap.size, 0, none⟩) 1 1) (X.alloc (.cells (vec 5 (mpE x)) 39)) ∧
    (Builtin.append_ #[29, 29] ty2 #[.slice none 0 0, .slice (some ⟨X.heap.size, 0, none⟩) 1 1]).run Try.prog (X.alloc (.cells (vec 5 (mpE x)) 39)) = .ok v3 w3 ∧
    Below X.heap.size X (X.alloc (.cells (vec 5 (mpE x)) 39)) ∧ Below X.heap.size X w3 ∧ OwnM w3 X.heap.size v3 [x] := by
  have b1 : Below X.heap.size X (X.alloc (.cells (vec 5 (mpE x)) 39)) := (Below.refl _ _).alloc (Nat.le_refl _) _
  obtain ⟨i0, hi, -, -, -⟩ := info_parts info_map
  obtain ⟨A2, c2, e2, -, hr2, -⟩ := (own_map x X).form
  obtain ⟨a2, ea2, -, -⟩ := hr2 (by simp)
  subst ea2
  obtain ⟨v3, w3, h3, ho3, hb3⟩ := app_maps (l := []) (OwnE.nil (X.alloc (.cells (vec 5 (mpE x)) 39)) X.heap.size) b1.size (by simp) (by simp) hr2 (c := c2) ty2
  injection e2 with e2 e3 e4
  rw [← e2, show ([x] : List Mp).length = 1 from rfl, ← e4] at h3
  refine ⟨v3, w3, ?_, h3, b1, b1.trans hb3, ho3⟩
  simp [Builtin.append_, Builtin.lenOf, Builtin.firstCells, run_underlying Try.underlying29, sizeOf, typeInfo, hi, storeCells]
set_option maxHeartbeats 2000000 in
set_option maxRecDepth 100000 in
theorem rputM_none (x : Mp) (w : World) : Calls Try.prog 26 #[.slice none 0 0, .agg (vec 5 (mpE x))] w (PutM [x] w) := by
  obtain ⟨g0, hg0⟩ : ∃ g, g = w.heap.size := ⟨_, rfl⟩
  obtain ⟨V, hV⟩ : ∃ V, V = w.alloc (.cells (vec 5 (mpE x)) 39) := ⟨_, rfl⟩
  have k0 : Arr V g0 39 5 (mpE x) := by rw [hV, hg0]; exact Arr.new w _ _ _
  have hB : Below w.heap.size w V := by rw [hV]; exact (Below.refl _ _).alloc (Nat.le_refl _) _
  have HK := Lib.hid (And.intro k0 hB)
  have HW := Lib.hid hV
  have HG := Lib.hid hg0
  have HEND : Hid (∀ v W, OwnM W V.heap.size v [x] → Below V.heap.size V W → PutM [x] w (.returned v) W) := Lib.hid (fun v W h2 h3 => ⟨v, rfl, h2.low hB.size, hB.trans (h3.mono hB.size)⟩)
  obtain ⟨Q, hQ⟩ : ∃ Q, Q = PutM [x] w := ⟨_, rfl⟩
  rw [← hQ] at HEND ⊢
  clear hV k0 hB hg0 hQ
  go_enter Try.func26, Try.ntmps26
  go_upto_region 1 with fail
  rw [← HW.out, ← HG.out]
  clear HW
  go_wp2_with fail
  go_loopw [5] (fun v W => v = .int .i64 0 ∧ Hid (Below V.heap.size V W)) (fun _ _ => 0)
  case atStart => exact ⟨rfl, Lib.hid (Below.refl _ _)⟩
  case round =>
    obtain ⟨rfl, HB⟩ := hrel
    obtain ⟨W, hW⟩ : ∃ W : World, W = wr := ⟨_, rfl⟩
    subst hW
    go_upto_region 2 with fail
    go_quiet (fail)
    go_upto_region 4 with fail
    obtain ⟨X, hX⟩ : ∃ X : World, X = W.drewN nq := ⟨_, rfl⟩
    have hVX : Below V.heap.size V X := by rw [hX]; exact below_drewN HB.out _
    rw [← hX]
    obtain ⟨v3, w3, hr2, hr3, b1, b3, ho3⟩ := put_worlds0 x X.drew 29 29
    have hbs := build_map x X.drew
    have HX := Lib.hid (And.intro hVX (HK.out.1.under hVX))
    have HRUN := Lib.hid (And.intro hbs (And.intro hr2 hr3))
    have HBB := Lib.hid (And.intro b1 b3)
    have HO3 := Lib.hid ho3
    clear hX hVX hr2 hr3 hbs b1 b3 ho3
    refine wp_region_held_drew (S := fun Y => Arr Y g0 39 5 (mpE x)) (by kernel_rfl) (HX.out.2.drewN 1) (fun hS => ?_)
    (refine held_take (i := 0) (oi := ?ot1) (v := ?vt1) ?at1 (by kernel_rfl) (by kernel_rfl) (by kernel_rfl) ?bt1 ?ct1 ?dt1 (by assumption) ?rt1; (case at1 => (simp only [List.getElem?_toArray, List.getElem?_cons_zero]; rfl)); (case bt1 => exact fun _ _ _ h => h); (case ct1 => kernel_rfl); (case dt1 => (intro W hW; (try dsimp only at hW); go_split_ands; go_simp; (try with_reducible rfl))); (case' rt1 => simp only [Act.put, List.setIfInBounds_toArray, List.set_cons_zero, List.set_cons_succ]))
    (refine held_take (i := 1) (oi := ?ot2) (v := ?vt2) ?at2 (by kernel_rfl) (by kernel_rfl) (by kernel_rfl) ?bt2 ?ct2 ?dt2 (by assumption) ?rt2; (case at2 => (simp only [List.getElem?_toArray, List.getElem?_cons_zero, List.getElem?_cons_succ]; rfl)); (case bt2 => exact fun _ _ _ h => h); (case ct2 => kernel_rfl); (case dt2 => (intro W hW; (try dsimp only at hW); go_split_ands; go_simp; (try with_reducible rfl))); (case' rt2 => simp only [Act.put, List.setIfInBounds_toArray, List.set_cons_zero, List.set_cons_succ]))
    (refine held_take (i := 2) (oi := ?ot3) (v := ?vt3) ?at3 (by kernel_rfl) (by kernel_rfl) (by kernel_rfl) ?bt3 ?ct3 ?dt3 (by assumption) ?rt3; (case at3 => (simp only [List.getElem?_toArray, List.getElem?_cons_zero, List.getElem?_cons_succ]; rfl)); (case bt3 => exact fun _ _ _ h => h); (case ct3 => kernel_rfl); (case dt3 => (intro W hW; (try dsimp only at hW); go_split_ands; go_simp; (try with_reducible rfl))); (case' rt3 => simp only [Act.put, List.setIfInBounds_toArray, List.set_cons_zero, List.set_cons_succ]))
    (refine held_take (i := 3) (oi := ?ot4) (v := .slice none 0 0) ?at4 (by kernel_rfl) (by kernel_rfl) (by kernel_rfl) ?bt4 ?ct4 ?dt4 (by assumption) ?rt4; (case at4 => (simp only [List.getElem?_toArray, List.getElem?_cons_zero, List.getElem?_cons_succ]; rfl)); (case bt4 => exact fun _ _ _ h => h); (case ct4 => kernel_rfl); (case dt4 => (intro W hW; exact exec_shm 29 _ _ _ rfl (.slice none 0 0) (.int .i64 0) (.int .i64 0) rfl rfl rfl (slice0_hm W))); (case' rt4 => simp only [Act.put, List.setIfInBounds_toArray, List.set_cons_zero, List.set_cons_succ]))
    (refine held_take (i := 4) (oi := ?ot5) (v := .agg (vec 5 (mpE x))) ?at5 (by kernel_rfl) (by kernel_rfl) (by kernel_rfl) ?bt5 ?ct5 ?dt5 (by assumption) ?rt5; (case at5 => (simp only [List.getElem?_toArray, List.getElem?_cons_zero, List.getElem?_cons_succ]; rfl)); (case bt5 => exact fun _ _ _ h => h); (case ct5 => kernel_rfl); (case dt5 => (intro W hW; exact exec_load_at 39 _ rfl _ _ rfl _ (run_load_arr hW Try.underlying39 rfl infoMp))); (case' rt5 => simp only [Act.put, List.setIfInBounds_toArray, List.set_cons_zero, List.set_cons_succ]))
    (refine held_take (i := 6) (oi := ?ot6) (v := ?vt6) ?at6 (by kernel_rfl) (by kernel_rfl) (by kernel_rfl) ?bt6 ?ct6 ?dt6 (by assumption) ?rt6; (case at6 => (simp only [List.getElem?_toArray, List.getElem?_cons_zero, List.getElem?_cons_succ]; rfl)); (case bt6 => exact fun _ _ _ h => h); (case ct6 => kernel_rfl); (case dt6 => (intro W hW; (try dsimp only at hW); go_split_ands; go_simp; (try with_reducible rfl))); (case' rt6 => simp only [Act.put, List.setIfInBounds_toArray, List.set_cons_zero, List.set_cons_succ]))
    (refine held_take (i := 7) (oi := ?ot7) (v := ?vt7) ?at7 (by kernel_rfl) (by kernel_rfl) (by kernel_rfl) ?bt7 ?ct7 ?dt7 (by assumption) ?rt7; (case at7 => (simp only [List.getElem?_toArray, List.getElem?_cons_zero, List.getElem?_cons_succ]; rfl)); (case bt7 => exact fun _ _ _ h => h); (case ct7 => kernel_rfl); (case dt7 => (intro W hW; (try dsimp only at hW); go_split_ands; go_simp; (try with_reducible rfl))); (case' rt7 => simp only [Act.put, List.setIfInBounds_toArray, List.set_cons_zero, List.set_cons_succ]))
    (refine held_take (i := 8) (oi := ?ot8) (v := .slice none 0 0) ?at8 (by kernel_rfl) (by kernel_rfl) (by kernel_rfl) ?bt8 ?ct8 ?dt8 (by assumption) ?rt8; (case at8 => (simp only [List.getElem?_toArray, List.getElem?_cons_zero, List.getElem?_cons_succ]; rfl)); (case bt8 => exact fun _ _ _ h => h); (case ct8 => kernel_rfl); (case dt8 => (intro W hW; exact exec_sl 29 _ _ rfl (.slice none 0 0) (.int .i64 0) rfl rfl (slice0_lo W))); (case' rt8 => simp only [Act.put, List.setIfInBounds_toArray, List.set_cons_zero, List.set_cons_succ]))
    refine held_one (i := 5) (oi := ?ot9) (by kernel_rfl) ?at9 ?ct9 (fun K5 hK5 => ?_)
    (case at9 => (simp only [List.getElem?_toArray, List.getElem?_cons_zero, List.getElem?_cons_succ]; rfl))
    (case ct9 => kernel_rfl)
    refine ow_bsM _ _ rfl (.agg (vec 5 (mpE x))) rfl HRUN.out.1 ?_
    refine hK5 _ _ ((HX.out.2.drewN 1).under HBB.out.1) (fun hS5 => ?_)
    clear hS hK5 K5
    refine held_one (i := 9) (oi := ?ot10) (by kernel_rfl) ?at10 ?ct10 (fun K9 hK9 => ?_)
    (case at10 => (simp only [List.getElem?_toArray, List.getElem?_cons_zero, List.getElem?_cons_succ]; rfl))
    (case ct10 => kernel_rfl)
    refine ow_app _ _ 29 rfl _ _ rfl rfl HRUN.out.2.1 ?_
    refine hK9 _ _ ((HX.out.2.drewN 1).under HBB.out.1) (fun hS9 => ?_)
    clear hS5 hK9 K9
    refine held_one (i := 10) (oi := ?ot11) (by kernel_rfl) ?at11 ?ct11 (fun K10 hK10 => ?_)
    (case at11 => (simp only [List.getElem?_toArray, List.getElem?_cons_zero, List.getElem?_cons_succ]; rfl))
    (case ct11 => kernel_rfl)
    refine ow_app _ _ 29 rfl _ _ rfl rfl HRUN.out.2.2 ?_
    refine hK10 _ _ ((HX.out.2.drewN 1).under HBB.out.2) (fun hS10 => ?_)
    clear hS9 hK10 K10
    (refine held_take (i := 11) (oi := ?ot12) (v := ?vt12) ?at12 (by kernel_rfl) (by kernel_rfl) (by kernel_rfl) ?bt12 ?ct12 ?dt12 (by assumption) ?rt12; (case at12 => (simp only [List.getElem?_toArray, List.getElem?_cons_zero, List.getElem?_cons_succ]; rfl)); (case bt12 => exact fun _ _ _ h => h); (case ct12 => kernel_rfl); (case dt12 => (intro W hW; (try dsimp only at hW); go_split_ands; go_simp; (try with_reducible rfl))); (case' rt12 => simp only [Act.put, List.setIfInBounds_toArray, List.set_cons_zero, List.set_cons_succ]))
    refine wpAnyH_done (by kernel_rfl) ?_ _
    go_wp2
    exact HEND.out _ _ (HO3.out.low HX.out.1.size) (HX.out.1.trans (((show Below X.heap.size X X.drew from VS.begin X).trans HBB.out.2).mono HX.out.1.size))
/-- put at any own row. -/
theorem rput16_any {w : World} {base : Nat} {v : Value} {l : List Mp} (x : Mp) (hown : OwnM w base v l) (hl : l.length ≤ 1000) : Calls Try.prog 26 #[v, .agg (vec 5 (mpE x))] w (PutM (insP l x) w) := by
  obtain ⟨A, c, e, hc, hr, hq⟩ := hown.form
  rcases A with _ | a
  · rcases hown.2 with ⟨e2, h2⟩ | ⟨g, cap, cur, e2, _⟩
    · have hn : l = [] := by
        by_cases h : l = []
        · exact h
        · obtain ⟨a', ea, -, -⟩ := hr h
          cases ea
      subst hn
      rw [e2]
      exact rputM_none x w
    · rw [e] at e2; cases e2
  · subst e
    refine rputM_some l a c x hc hl w (fun hne => ?_)
    obtain ⟨a', ea, hb, hcc⟩ := hr hne
    refine ⟨a', ea, ?_, hcc⟩
    trivial
end Go.Proofs.Ytgnihceefpijiaa
