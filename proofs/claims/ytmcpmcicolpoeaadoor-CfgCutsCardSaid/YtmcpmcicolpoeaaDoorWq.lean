/- The reference's Put. -/
import Derived.Test.YtmcpmcicolpoeaaDoorWg
import Derived.BigQuiet
namespace Go.Proofs.YtmcpmcicolpoeaaDoor
open Go.RowKit
attribute [local go_sem ↓ high] zeroGu zeroCh zeroEn

/-- What the reference's Put answers. -/
def RPutP (x : Cf) (w : World) (e : Ending) (w' : World) : Prop := (if errP x = 0 then ∃ v, e = .returned (.tuple #[v, .int .i64 0]) ∧ w'.ownsRow w.heap.size 5 1 v (layC x).length (u8s (layC x)) else e = .returned (.tuple #[.slice none 0 0, .int .i64 (errP x : Int)])) ∧ Below w.heap.size w w'
set_option maxRecDepth 100000 in
theorem RPutP.no {x : Cf} {w w' : World} {n : Nat} (h : errP x = n) (hn : n ≠ 0) (hb : Below w.heap.size w w') : RPutP x w (.returned (.tuple #[.slice none 0 0, .int .i64 (n : Int)])) w' := ⟨by rw [if_neg (by omega), h], hb⟩
theorem RPutP.yes {x : Cf} {w w' : World} {v : Value} (h : errP x = 0) (hv : w'.ownsRow w.heap.size 5 1 v (layC x).length (u8s (layC x))) (hb : Below w.heap.size w w') : RPutP x w (.returned (.tuple #[v, .int .i64 0])) w' := ⟨by rw [if_pos h]; exact ⟨v, rfl, hv⟩, hb⟩
set_option maxRecDepth 100000 in
theorem errL_g : ∀ ys : List GV, errL errG (ys.map GV.g) = errL (fun y => errG y.g) ys
  | [] => rfl
  | y :: ys => by
    show (if errG y.g = 0 then errL errG (ys.map GV.g) else errG y.g) = if errG y.g = 0 then errL (fun y => errG y.g) ys else errG y.g
    rw [errL_g ys]
set_option maxRecDepth 100000 in
theorem wl_index {P : Program} {w : World} {ops : Array Oper} {rest : List Oper} {o : Oper} {a : Act} {Q : Exit → Act → World → Prop} (hgd : o.guard = none) (ty : TypeId) (x y : Operand) (ho : o.op = .index ty x y) (cs : Array Value) (hx : a.eval x = .agg cs) (z : Int) (hy : a.eval y = .int .i64 z) (v : Value)
    (hr : (Instr.index ty (.agg cs) (.int .i64 z)).run P w = .ok v w) (h : wpList P ops Q rest (a.put o.dst v) w) : wpList P ops Q (o :: rest) a w :=
  wpList_plain hgd fun K hK => by
    unfold Oper.wp execOp
    simp only [ho, hx, hy, Sem.run_bind, hr, Result.andThen_ok, Sem.run_pure]
    exact hK _ _ h
set_option maxRecDepth 100000 in
theorem index_a (a b : En) (w : World) : (Instr.index 69 (.agg (vec 6 (twoE a b))) (.int .i64 0)).run Tryd.prog w = .ok (.agg (vec 3 (endE a))) w := by kernel_rfl
theorem index_b (a b : En) (w : World) : (Instr.index 69 (.agg (vec 6 (twoE a b))) (.int .i64 1)).run Tryd.prog w = .ok (.agg (vec 3 (endE b))) w := by kernel_rfl
set_option maxRecDepth 100000 in
theorem info_two : (Tryd.prog.info? 69).map (·.size) = some 6 := by kernel_rfl
theorem info_wr : (Tryd.prog.info? 77).map (·.size) = some 2 := by kernel_rfl
set_option maxRecDepth 100000 in
theorem WS.row {V W : World} {g : Nat} {l : By} {m : Nat} (h : WS V none g l m 0 W) : ∃ (A : Option Addr) (c : Nat), W.cell? ⟨g, 0, none⟩ = some (.slice A l.length c) ∧ OwnB W (g + 1) (.slice A l.length c) l ∧ l.length ≤ m := by
  obtain ⟨A, c, L, -, h2, h3, -, h5, h6, -, -⟩ := h.open
  have := h5 rfl
  subst this
  exact ⟨A, c, h2, h3, h6⟩
set_option maxHeartbeats 16000000 in
set_option maxRecDepth 100000 in
theorem rput14_any (x : Cf) (a c : Value) (w : World) (hx : CfR w w.heap.size x a c) (hb : CfB x) (hnk : ∀ g ∈ x.gs, g.name.length ≤ 1000000) : Calls Tryd.prog 13 #[cfVal x a c] w (RPutP x w) := by
  obtain ⟨V, hV⟩ : ∃ V, V = w.alloc (.cells (vec 3 (cfE x.ver a c)) 28) := ⟨_, rfl⟩
  have k1 : Arr V w.heap.size 28 3 (cfE x.ver a c) := by rw [hV]; exact Arr.new w _ _ _
  have hB : Below w.heap.size w V := by rw [hV]; exact (Below.refl _ _).alloc (Nat.le_refl _) _
  obtain ⟨⟨A, d, ys, rfl, hm, hr, hl⟩, ⟨A2, d2, rfl, hr2, hl2⟩⟩ := hx.up hB
  have hW0 : w.heap.size < V.heap.size := k1.lt
  obtain ⟨vn, hvn⟩ : ∃ v, v = x.ver := ⟨_, rfl⟩
  have hlen : ys.length = x.gs.length := by rw [← hm, List.length_map]
  have hyb : ∀ y ∈ ys, GsB y.g ∧ y.g.name.length ≤ 1000000 := fun y hy => by
    have hmem : y.g ∈ x.gs := by rw [← hm]; exact List.mem_map_of_mem hy
    exact ⟨hb.gs _ hmem, hnk _ hmem⟩
  obtain ⟨N, hN⟩ : ∃ N, N = x.gs.length := ⟨_, rfl⟩
  obtain ⟨M, hM⟩ : ∃ M, M = x.chs.length := ⟨_, rfl⟩
  obtain ⟨chs, hchs⟩ : ∃ l, l = x.chs := ⟨_, rfl⟩
  have HERR : Hid (errC x = if (decide (1 ≤ N) && decide (N ≤ 16) && decide (M ≤ 32)) = false then 142 else seqE (errL (fun y => errG y.g) ys) (errL (fun z => e144 (badCh z)) chs)) := Lib.hid (by
    unfold errC
    rw [show (inB (x.gs.length : Int) 1 16 && inB (x.chs.length : Int) 0 32) = (decide (1 ≤ N) && decide (N ≤ 16) && decide (M ≤ 32)) by
      rw [hN, hM]; unfold inB; rw [Bool.eq_iff_iff]; simp only [Bool.and_eq_true, decide_eq_true_eq]; omega]
    rw [show errL errG x.gs = errL (fun y => errG y.g) ys by rw [← hm]; exact errL_g ys]
    rw [errL_all (e := fun z => e144 (badCh z)) (b := badCh) (n := 144) (fun _ => rfl) (by decide), hchs]
    rfl)
  have HLAY : Hid (layC x = be 4 1111705159 ++ (be 2 1 ++ (be 2 N ++ (be 2 M ++ (be 2 0 ++ be 4 vn.toNat)))) ++ (ys.flatMap (fun y => layG y.g) ++ chs.flatMap layCh)) := Lib.hid (by
    rw [hN, hM, hvn, hchs, show ys.flatMap (fun y => layG y.g) = x.gs.flatMap layG by rw [← hm, List.flatMap_map]]
    rfl)
  have HEP : Hid (errP x = seqE (errC x) (if (layC x).length ≤ 65536 then 0 else 2)) := Lib.hid rfl
  have HYES : Hid (∀ (v : Value) (W : World), errP x = 0 → W.ownsRow w.heap.size 5 1 v (layC x).length (u8s (layC x)) → Below w.heap.size w W → RPutP x w (.returned (.tuple #[v, .int .i64 0])) W) := Lib.hid (fun v W h1 h2 h3 => RPutP.yes h1 h2 h3)
  have HNO : Hid (∀ (n : Nat) (W : World), errP x = n → n ≠ 0 → Below w.heap.size w W → RPutP x w (.returned (.tuple #[.slice none 0 0, .int .i64 (n : Int)])) W) := Lib.hid (fun n W h1 h2 h3 => RPutP.no h1 h2 h3)
  obtain ⟨Q, hQ⟩ : ∃ Q, Q = RPutP x w := ⟨_, rfl⟩
  rw [← hQ] at HYES HNO ⊢
  obtain ⟨LZ, hLZ⟩ : ∃ l, l = layC x := ⟨_, rfl⟩
  obtain ⟨EP, hEP⟩ : ∃ n, n = errP x := ⟨_, rfl⟩
  obtain ⟨EC, hEC⟩ : ∃ n, n = errC x := ⟨_, rfl⟩
  rw [← hEC] at HERR HEP
  rw [← hLZ] at HLAY HEP HYES
  rw [← hEP] at HEP HYES HNO
  have hchb : ∀ z ∈ chs, ChB z := by rw [hchs]; exact hb.chs
  have hver : u32B vn := by rw [hvn]; exact hb.ver
  rw [← hN] at hl k1 hlen hV
  rw [← hM] at hl2 k1 hV
  rw [← hvn] at k1 hV
  unfold cfVal
  rw [← hN, ← hM, ← hvn]
  have hMC : M = chs.length := by rw [hM, hchs]
  rw [← hchs] at hr2
  obtain ⟨q, hq⟩ : ∃ q, q = w.heap.size := ⟨_, rfl⟩
  rw [← hq] at k1 hW0
  obtain ⟨x0, x1, x2⟩ := cf_cells (x := ⟨vn, x.gs, x.chs⟩) k1
  have HB0 := Lib.hid hB
  have HQ0 := Lib.hid hq
  have HW := Lib.hid hV
  have HLEN := Lib.hid (And.intro hlen hMC)
  have HBW := Lib.hid (And.intro hyb hchb)
  have hwn : IntKind.u64.wrap (N : Int) = (N : Int) := by rw [IntKind.wrap_u64]; omega
  have hwm : IntKind.u64.wrap (M : Int) = (M : Int) := by rw [IntKind.wrap_u64]; omega
  have hwv : IntKind.u64.wrap vn = vn := by rw [IntKind.wrap_u64]; unfold u32B at hver; omega
  have HWR := Lib.hid (And.intro hwn (And.intro hwm hwv))
  have HVER := Lib.hid hver.1
  -- the writer
  obtain ⟨g, hg⟩ : ∃ g, g = V.heap.size := ⟨_, rfl⟩
  obtain ⟨V2, hV2⟩ : ∃ V2, V2 = V.alloc (.cells #[.slice none 0 0, .int .i64 0] 77) := ⟨_, rfl⟩
  have hB2 : Below V.heap.size V V2 := by rw [hV2]; exact (Below.refl _ _).alloc (Nat.le_refl _) _
  have hA2 : Arr V2 g 77 2 (wrF (.slice none 0 0) 0) := by rw [hV2]; rw [hg]; exact Arr.new' V 77 2 (wrF (.slice none 0 0) 0) #[.slice none 0 0, .int .i64 0] rfl
  have hS : WS V2 none g [] 0 0 V2 := (WW.begin ⟨none, 0, [], hA2, OwnE.nil _ _, rfl, fun _ => rfl, Nat.le_refl _⟩)
  have hqg : q < g := by rw [hg]; exact hW0
  have HK : Hid (∀ (l' : By) (m' e' : Nat) (Y : World), WS V2 none g l' m' e' Y → Y.cell? ⟨q, 0, none⟩ = some (.int .u32 vn) ∧ Y.cell? ⟨q, 1, none⟩ = some (.slice A N d) ∧ Y.cell? ⟨q, 2, none⟩ = some (.slice A2 M d2)) := Lib.hid (fun l' m' e' Y hs => by
    have h1 := (k1.under hB2).below hs.below hqg
    exact ⟨h1.cell (i := 0) (by decide), h1.cell (i := 1) (by decide), h1.cell (i := 2) (by decide)⟩)
  have HR : Hid (∀ (l' : By) (m' e' : Nat) (Y : World), WS V2 none g l' m' e' Y → GsR Y g A ys ∧ RowE 8 chE Y g A2 chs) := Lib.hid (fun l' m' e' Y hs => by
    have h1 := (hr.below hB2)
    have h2 := (hr2.below hB2)
    rw [← hg] at h1 h2
    exact ⟨h1.below hs.below, h2.below hs.below⟩)
  have HBEL : Hid (∀ (l' : By) (m' e' : Nat) (Y : World), WS V2 none g l' m' e' Y → Below w.heap.size w Y) := Lib.hid (fun l' m' e' Y hs => (HB0.out.trans (hB2.mono HB0.out.size)).trans (hs.below.mono (by rw [hg]; exact HB0.out.size)))
  have HG := Lib.hid hg
  have HV2 := Lib.hid hV2
  have HS : Hid (WS V2 none g [] 0 0 V2) := Lib.hid hS
  have HOW : Hid (∀ (l' : By) (m' : Nat) (Y : World), WS V2 none g l' m' 0 Y → l' = LZ → ∃ (A : Option Addr) (c : Nat), Y.cell? ⟨g, 0, none⟩ = some (.slice A l'.length c) ∧ Y.ownsRow w.heap.size 5 1 (.slice A l'.length c) LZ.length (u8s LZ)) := Lib.hid (fun l' m' Y hs he => by
    subst he
    obtain ⟨A, c, h1, h2, _⟩ := hs.row
    exact ⟨A, c, h1, own_to (h2.low (by rw [hg]; exact Nat.le_succ_of_le HB0.out.size))⟩)
  clear hV k1 hB hx hb hnk hm hr hl hr2 hl2 hvn hlen hyb hN hM hchs hQ hLZ hEP hEC hchb hver hMC hq hW0 hwn hwm hwv hg hV2 hB2 hA2 hS hqg
  go_enter Tryd.func13, Tryd.ntmps13
  go_upto_region 1 with fail
  rw [← HW.out, ← HQ0.out]
  clear HW
  by_cases t0 : N < 1
  · have z0 : decide ((N : Int) < 1) = true := by simp; omega
    have HE : Hid (EP = 142) := Lib.hid (by
      have h := HERR.out
      rw [if_pos (by simp; omega)] at h
      rw [HEP.out, h]; rfl)
    clear t0
    go_wp2_with fail
    exact HNO.out 142 _ HE.out (by decide) HB0.out
  by_cases t1 : 16 < N
  · have z0 : decide ((N : Int) < 1) = false := by simp; omega
    have z1 : decide ((16 : Int) < (N : Int)) = true := by simp; omega
    have HE : Hid (EP = 142) := Lib.hid (by
      have h := HERR.out
      rw [if_pos (by simp; omega)] at h
      rw [HEP.out, h]; rfl)
    clear t0 t1
    go_wp2_with fail
    exact HNO.out 142 _ HE.out (by decide) HB0.out
  by_cases t2 : 32 < M
  · have z0 : decide ((N : Int) < 1) = false := by simp; omega
    have z1 : decide ((16 : Int) < (N : Int)) = false := by simp; omega
    have z2 : decide ((32 : Int) < (M : Int)) = true := by simp; omega
    have HE : Hid (EP = 142) := Lib.hid (by
      have h := HERR.out
      rw [if_pos (by simp; omega)] at h
      rw [HEP.out, h]; rfl)
    clear t0 t1 t2
    go_wp2_with fail
    exact HNO.out 142 _ HE.out (by decide) HB0.out
  have HCNT : Hid ((1 ≤ N ∧ N ≤ 16) ∧ M ≤ 32) := Lib.hid (by omega)
  have z0 : decide ((N : Int) < 1) = false := by simp; omega
  have z1 : decide ((16 : Int) < (N : Int)) = false := by simp; omega
  have z2 : decide ((32 : Int) < (M : Int)) = false := by simp; omega
  have HE2 : Hid (EC = seqE (errL (fun y => errG y.g) ys) (errL (fun z => e144 (badCh z)) chs)) := Lib.hid (by
    have h := HERR.out
    rw [if_neg (by simp; omega)] at h
    exact h)
  clear t0 t1 t2 HERR
  go_upto_region 4 with fail
  rw [← HV2.out, ← HG.out]
  clear HV2 HG z0 z1 z2 x0 x1 x2
  go_upto_region 5 with (go_at_call 28; refine (wput_any 1111705159 (by decide) 4 (by decide) (by decide) _ HS.out).mono ?_; rintro y w1 ⟨rfl, hs⟩; replace HS := Lib.hid hs; clear hs)
  go_upto_region 6 with (go_at_call 28; refine (wput_any 1 (by decide) 2 (by decide) (by decide) _ HS.out).mono ?_; rintro y w1 ⟨rfl, hs⟩; replace HS := Lib.hid hs; clear hs)
  have cx := (HK.out _ _ _ _ HS.out).2.1
  have hw := HWR.out.1
  go_upto_region 7 with (go_at_call 28; refine (wput_any (N : Int) (by omega) 2 (by decide) (by decide) _ HS.out).mono ?_; rintro y w1 ⟨rfl, hs⟩; replace HS := Lib.hid hs; clear hs)
  clear cx hw
  have cx := (HK.out _ _ _ _ HS.out).2.2
  have hw := HWR.out.2.1
  go_upto_region 8 with (go_at_call 28; refine (wput_any (M : Int) (by omega) 2 (by decide) (by decide) _ HS.out).mono ?_; rintro y w1 ⟨rfl, hs⟩; replace HS := Lib.hid hs; clear hs)
  clear cx hw
  go_upto_region 9 with (go_at_call 28; refine (wput_any 0 (by decide) 2 (by decide) (by decide) _ HS.out).mono ?_; rintro y w1 ⟨rfl, hs⟩; replace HS := Lib.hid hs; clear hs)
  have cx := (HK.out _ _ _ _ HS.out).1
  have hw := HWR.out.2.2
  go_upto_region 10 with (go_at_call 28; refine (wput_any vn HVER.out 4 (by decide) (by decide) _ HS.out).mono ?_; rintro y w1 ⟨rfl, hs⟩; replace HS := Lib.hid hs; clear hs)
  clear cx hw
  obtain ⟨LA, hLA⟩ : ∃ L, L = [] ++ be 4 (1111705159 : Int).toNat ++ be 2 (1 : Int).toNat ++ be 2 (N : Int).toNat ++ be 2 (M : Int).toNat ++ be 2 (0 : Int).toNat ++ be 4 vn.toNat := ⟨_, rfl⟩
  replace HS : Hid (WS V2 none g LA 16 0 w1) := Lib.hid (by rw [hLA]; exact HS.out)
  have HLA : Hid (LA = be 4 1111705159 ++ (be 2 1 ++ (be 2 N ++ (be 2 M ++ (be 2 0 ++ be 4 vn.toNat))))) := Lib.hid (by rw [hLA]; simp)
  clear hLA
  have cx := (HK.out _ _ _ _ HS.out).2.1
  go_wp2_with fail
  clear cx
  go_loopw [6, 55] (fun _ j W => ∃ k : Nat, k ≤ N ∧ j = .int .i64 k ∧ Hid (WS V2 none g (LA ++ (ys.take k).flatMap (fun y => layG y.g)) (16 + 3000 * k) 0 W) ∧ Hid (errL (fun y => errG y.g) (ys.take k) = 0)) (fun _ j _ => N - (intOf j).toNat)
  case atStart => exact ⟨0, Nat.zero_le _, rfl, Lib.hid (HS.out.any (fun _ => by simp) (by omega)), Lib.hid rfl⟩
  case round =>
    obtain ⟨k, hk, rfl, HSk, HE0⟩ := hrel
    obtain ⟨W, hW⟩ : ∃ W : World, W = wr := ⟨_, rfl⟩
    subst hW
    clear HS
    by_cases hlt : k < N
    · have hki : (k : Int) < (N : Int) := by omega
      have hlt2 : k < ys.length := by have := HLEN.out.1; omega
      obtain ⟨a, p, ra, hp, hpb, hcp⟩ := (HR.out _ _ _ _ HSk.out).1.row.at hlt2
      subst ra
      obtain ⟨y, hy⟩ : ∃ y, y = ys[k] := ⟨_, rfl⟩
      have hgr : GRow W g y := by rw [hy]; exact (HR.out _ _ _ _ HSk.out).1.all _ (List.getElem_mem _)
      have hyb := HBW.out.1 y (by rw [hy]; exact List.getElem_mem _)
      rw [← hy] at hcp
      have HYL : Hid ((ys.take (k + 1)).flatMap (fun y => layG y.g) = (ys.take k).flatMap (fun y => layG y.g) ++ layG y.g) := Lib.hid (by rw [take_flat _ ys k hlt2, ← hy])
      have HYE : Hid (errL (fun y => errG y.g) (ys.take (k + 1)) = errG y.g) := Lib.hid (by rw [take_err _ ys k hlt2, ← hy, HE0.out]; rfl)
      obtain ⟨X, hX⟩ : ∃ X, X = (W.alloc (.cells (vec 79 (guestE zGV)) 64)).setRow W.heap.size (vec 79 (guestE y)) := ⟨_, rfl⟩
      have bX : Below W.heap.size W X := by rw [hX]; exact below_row ((Below.refl _ _).alloc (Nat.le_refl _) _) (Nat.le_refl _) _
      have aX : Arr X W.heap.size 64 79 (guestE y) := by rw [hX]; exact (Arr.new W _ _ _).row _
      have HT : Hid (WS V2 none g (LA ++ (ys.take k).flatMap (fun y => layG y.g)) (16 + 3000 * k) 0 X) := Lib.hid (HSk.out.on bX)
      have HCP := Lib.hid hcp
      have HGR := Lib.hid (hgr.below (bX.mono (Nat.le_of_lt HSk.out.ltW)))
      have H1 := Lib.hid hgr.one
      have HX := Lib.hid hX
      have HAX := Lib.hid aX
      have HYB := Lib.hid hyb
      have hk16 : k ≤ 15 := by have := HCNT.out; omega
      have HKN : Hid (k + 1 ≤ N ∧ N ≤ 16) := Lib.hid (by have := HCNT.out; omega)
      have HSTP : Hid (errG y.g ≠ 0 → errL (fun y => errG y.g) ys = errG y.g) := Lib.hid (fun h => by
        have := seqE_stop (fun y : GV => errG y.g) 0 ys (k + 1) (by rw [HYE.out]; exact h)
        rw [HYE.out] at this
        exact this)
      clear hlt hlt2 hpb hcp hy hgr hyb hX bX aX HSk HE0
      go_upto_region 13 with (first
        | ((with_reducible show wpList _ _ _ (Oper.mk _ (.load 64 _) _ _ _ _ :: _) _ _); refine wl_load_q rfl 64 _ rfl p rfl _ (run_load_q HCP.out Tryd.underlying64 rfl infoGu) ?_)
        | ((with_reducible show wpList _ _ _ (Oper.mk _ (.store _ _ _) _ _ _ _ :: _) _ _); refine wl_store rfl 64 _ _ rfl _ rfl _ rfl (run_store_arr (Arr.new W _ _ _) (guestE y) infoGu (guestE_one _ H1.out _)) ?_))
      rw [← HX.out]
      clear HX
      go_upto_region 14 with (first
        | ((with_reducible show wpList _ _ _ (Oper.mk _ (.load 64 _) _ _ _ _ :: _) _ _); refine wl_load rfl 64 _ rfl _ rfl _ (run_load_arr HAX.out Tryd.underlying64 rfl infoGu) ?_)
        | (go_at_call 29; refine (wguest_any y X HT.out HGR.out HYB.out.1 HYB.out.2 (by have := HKN.out; omega)).mono ?_; rintro z w2 ⟨rfl, hs⟩; replace HT := Lib.hid hs; clear hs))
      clear HCP HGR H1 HAX
      obtain ⟨E, hE⟩ : ∃ E, E = errG y.g := ⟨_, rfl⟩
      rw [← hE, zero_seqE] at HT
      rw [← hE] at HYE HSTP
      clear hE
      obtain ⟨fe, ff⟩ := HT.out.err
      by_cases h0 : E = 0
      · subst h0
        have z1 : (((0 : Nat) : Int) != 0) = false := rfl
        go_wp2_with fail
        go_roundw
        case rel => exact ⟨k + 1, HKN.out.1, by go_num, Lib.hid (HT.out.any (fun _ => by rw [HYL.out]; simp) (by omega)), HYE⟩
        case measure => have := HKN.out.1; simp [intOf]; omega
      · have z1 : ((E : Int) != 0) = true := bne_iff_ne.2 (by omega)
        have z2 : ¬ (E : Int) = 0 := by omega
        have HEE : Hid (EP = E ∧ E ≠ 0) := Lib.hid ⟨by rw [HEP.out, HE2.out, HSTP.out h0, seqE_of h0, seqE_of h0], h0⟩
        have HBY := Lib.hid (HBEL.out _ _ _ _ HT.out)
        clear h0
        go_upto_region 15 with fail
        go_quiet (fail)
        go_wp2_with fail
        exact HNO.out E _ HEE.out.1 HEE.out.2 (below_drewN HBY.out _)
    · obtain rfl : k = N := by omega
      have hki : ¬ (k : Int) < (k : Int) := by omega
      have hty : ys.take k = ys := by rw [List.take_of_length_le (by have := HLEN.out.1; omega)]
      rw [hty] at HSk HE0
      obtain ⟨LB, hLB⟩ : ∃ L, L = LA ++ ys.flatMap (fun y => layG y.g) := ⟨_, rfl⟩
      rw [← hLB] at HSk
      have HLB := Lib.hid hLB
      have HSB : Hid (WS V2 none g LB 50000 0 W) := Lib.hid (HSk.out.any (fun _ => rfl) (by have := HCNT.out; omega))
      have HE3 : Hid (EC = errL (fun z => e144 (badCh z)) chs) := Lib.hid (by rw [HE2.out, HE0.out, zero_seqE])
      have HMC := Lib.hid HCNT.out.2
      clear hty hLB hlt HSk HE0 HE2 hk
      go_upto_region 17 with fail
      have cx := (HK.out _ _ _ _ HSB.out).2.2
      go_wp2_with fail
      clear cx
      go_loopw [8, 75] (fun _ j W => ∃ k : Nat, k ≤ M ∧ j = .int .i64 k ∧ Hid (WS V2 none g (LB ++ (chs.take k).flatMap layCh) (50000 + 40 * k) (errL (fun z => e144 (badCh z)) (chs.take k)) W)) (fun _ j _ => M - (intOf j).toNat)
      case atStart => exact ⟨0, Nat.zero_le _, rfl, Lib.hid (HSB.out.any (fun _ => by simp) (by omega))⟩
      case round =>
        obtain ⟨k, hk, rfl, HSk⟩ := hrel
        obtain ⟨W, hW⟩ : ∃ W : World, W = wr := ⟨_, rfl⟩
        subst hW
        clear HSB
        by_cases hlt : k < M
        · have hki : (k : Int) < (M : Int) := by omega
          have hlt2 : k < chs.length := by have := HLEN.out.2; omega
          obtain ⟨a, p, ra, hp, hpb, hcp⟩ := (HR.out _ _ _ _ HSk.out).2.at hlt2
          subst ra
          obtain ⟨y, hy⟩ : ∃ y, y = chs[k] := ⟨_, rfl⟩
          have hyb := HBW.out.2 y (by rw [hy]; exact List.getElem_mem _)
          rw [← hy] at hcp
          have HYL : Hid ((chs.take (k + 1)).flatMap layCh = (chs.take k).flatMap layCh ++ (be 8 y.pa.toNat ++ (be 8 y.size.toNat ++ [y.a, y.b].flatMap layEn))) := Lib.hid (by rw [take_flat _ chs k hlt2, ← hy]; unfold layCh; simp)
          have HYE : Hid (errL (fun z => e144 (badCh z)) (chs.take (k + 1)) = seqE (errL (fun z => e144 (badCh z)) (chs.take k)) (errL (fun z => e144 (badEn z)) [y.a, y.b])) := Lib.hid (by
            rw [take_err _ chs k hlt2, ← hy]
            refine congrArg _ ?_
            unfold badCh e144 errL errL
            cases badEn y.a <;> cases badEn y.b <;> rfl)
          obtain ⟨X, hX⟩ : ∃ X, X = (W.alloc (.cells (vec 8 (chE zCh)) 71)).setRow W.heap.size (vec 8 (chE y)) := ⟨_, rfl⟩
          have bX : Below W.heap.size W X := by rw [hX]; exact below_row ((Below.refl _ _).alloc (Nat.le_refl _) _) (Nat.le_refl _) _
          have aX : Arr X W.heap.size 71 8 (chE y) := by rw [hX]; exact (Arr.new W _ _ _).row _
          obtain ⟨b3, hS3, hoff3, hback3⟩ := HSk.out.box bX
          obtain ⟨u, hu⟩ : ∃ u, u = W.heap.size := ⟨_, rfl⟩
          rw [← hu] at aX hoff3
          have HF : Hid (∀ (l' : By) (m' e' : Nat) (Y : World), WS X b3 g l' m' e' Y → Arr Y u 71 8 (chE y)) := Lib.hid (fun l' m' e' Y hs => hs.arr aX (hoff3 u (Nat.le_refl _)).1 (hoff3 u (Nat.le_refl _)).2)
          obtain ⟨E, hE⟩ : ∃ E, E = errL (fun z => e144 (badCh z)) (chs.take k) := ⟨_, rfl⟩
          rw [← hE] at hS3 HYE
          have HT : Hid (WS X b3 g (LB ++ (chs.take k).flatMap layCh) (50000 + 40 * k) E X) := Lib.hid hS3
          have HBK := Lib.hid hback3
          have HCP := Lib.hid hcp
          have HX := Lib.hid hX
          have HU := Lib.hid hu
          have HYB := Lib.hid hyb
          have hk32 : k ≤ 31 := by have := HMC.out; omega
          have HKM : Hid (k + 1 ≤ M ∧ M ≤ 32) := Lib.hid (by have := HMC.out; omega)
          clear hlt hlt2 hpb hcp hy hyb hX bX aX HSk hS3 hback3 hoff3 hu hE
          go_upto_region 20 with (first
            | ((with_reducible show wpList _ _ _ (Oper.mk _ (.load 71 _) _ _ _ _ :: _) _ _); refine wl_load_q rfl 71 _ rfl p rfl _ (run_load_q HCP.out Tryd.underlying71 rfl infoCh) ?_)
            | ((with_reducible show wpList _ _ _ (Oper.mk _ (.store _ _ _) _ _ _ _ :: _) _ _); refine wl_store rfl 71 _ _ rfl _ rfl _ rfl (run_store_arr (Arr.new W _ _ _) (chE y) infoCh (chE_one _ _)) ?_))
          rw [← HX.out, ← HU.out]
          clear HX HU HCP
          have cx : X.cell? ⟨u, 0, none⟩ = some (.int .u64 y.pa) := (HF.out _ _ _ _ HT.out).cell (i := 0) (by decide)
          go_upto_region 21 with (go_at_call 28; refine (wput_any y.pa HYB.out.1.1 8 (by decide) (by have := HKM.out; omega) _ HT.out).mono ?_; rintro z w2 ⟨rfl, hs⟩; replace HT := Lib.hid hs; clear hs)
          clear cx
          have cx : w2.cell? ⟨u, 1, none⟩ = some (.int .u64 y.size) := (HF.out _ _ _ _ HT.out).cell (i := 1) (by decide)
          go_upto_region 22 with (go_at_call 28; refine (wput_any y.size HYB.out.2.1.1 8 (by decide) (by have := HKM.out; omega) _ HT.out).mono ?_; rintro z w2 ⟨rfl, hs⟩; replace HT := Lib.hid hs; clear hs)
          clear cx
          have HTW : Hid (∀ i, i < 6 → w2.cell? ((⟨u, 2, none⟩ : Addr).add i) = some (twoE y.a y.b i)) := Lib.hid (fun i hi => by
            rw [add_at, (HF.out _ _ _ _ HT.out).cell (by omega), Nat.add_comm 2 i]
            rfl)
          obtain ⟨LC, hLC⟩ : ∃ L, L = LB ++ (chs.take k).flatMap layCh ++ be 8 y.pa.toNat ++ be 8 y.size.toNat := ⟨_, rfl⟩
          replace HT : Hid (WS X b3 g LC (50000 + 40 * k + 16) E w2) := Lib.hid (by rw [hLC]; exact HT.out)
          have HLC := Lib.hid hLC
          clear hLC
          go_wp2_with ((with_reducible show wpList _ _ _ (Oper.mk _ (.load _ _) _ _ _ _ :: _) _ _); refine wl_load_q rfl 69 _ rfl ⟨u, 2, none⟩ rfl _ (run_load_q HTW.out Tryd.underlying69 rfl info_two) ?_)
          clear HTW
          go_loopw [10, 89] (fun _ j W => ∃ i : Nat, i ≤ 2 ∧ j = .int .i64 i ∧ Hid (WS X b3 g (LC ++ ([y.a, y.b].take i).flatMap layEn) (50000 + 40 * k + 16 + 12 * i) (seqE E (errL (fun z => e144 (badEn z)) ([y.a, y.b].take i))) W)) (fun _ j _ => 2 - (intOf j).toNat)
          case atStart => exact ⟨0, Nat.zero_le _, rfl, Lib.hid (by rw [show errL (fun z => e144 (badEn z)) ([y.a, y.b].take 0) = 0 from rfl, seqE_zero]; exact HT.out.any (fun _ => by simp) (by omega))⟩
          case round =>
            obtain ⟨i, hi, rfl, HTi⟩ := hrel
            obtain ⟨W2, hW2⟩ : ∃ W : World, W = wr := ⟨_, rfl⟩
            subst hW2
            clear HT
            rcases (by omega : i = 0 ∨ i = 1 ∨ i = 2) with rfl | rfl | rfl
            · obtain ⟨z, hz⟩ : ∃ z, z = y.a := ⟨_, rfl⟩
              have HIX : Hid (∀ W : World, (Instr.index 69 (.agg (vec 6 (twoE y.a y.b))) (.int .i64 0)).run Tryd.prog W = .ok (.agg (vec 3 (endE z))) W) := Lib.hid (fun W => by rw [hz]; exact index_a y.a y.b W)
              have hzb : EnB z := by rw [hz]; exact HYB.out.2.2.1
              have HZL : Hid (([y.a, y.b].take 1).flatMap layEn = ([y.a, y.b].take 0).flatMap layEn ++ (be 2 z.guest.toNat ++ (be 2 z.perm.toNat ++ be 8 z.ipa.toNat))) := Lib.hid (by rw [hz]; simp [layEn])
              have HZE : Hid (seqE E (errL (fun z => e144 (badEn z)) ([y.a, y.b].take 1)) = seqE (seqE (seqE E (errL (fun z => e144 (badEn z)) ([y.a, y.b].take 0))) (if inB z.guest 0 65535 = true then 0 else 144)) (if inB z.perm 0 7 = true then 0 else 144)) := Lib.hid (by
                rw [take_err _ [y.a, y.b] 0 (by simp), show [y.a, y.b][0] = z from hz.symm, ← seqE_seqE, seqE_seqE _ (if inB z.guest 0 65535 = true then 0 else 144)]
                refine congrArg _ ?_
                unfold badEn e144
                cases inB z.guest 0 65535 <;> cases inB z.perm 0 7 <;> rfl)
              obtain ⟨LE, hLE⟩ : ∃ L, L = LC ++ ([y.a, y.b].take 0).flatMap layEn := ⟨_, rfl⟩
              obtain ⟨E2, hE2⟩ : ∃ e, e = seqE E (errL (fun z => e144 (badEn z)) ([y.a, y.b].take 0)) := ⟨_, rfl⟩
              rw [← hLE, ← hE2] at HTi
              rw [← hE2] at HZE
              have HLE := Lib.hid hLE
              obtain ⟨X3, hX3⟩ : ∃ X, X = (W2.alloc (.cells (vec 3 (endE zEn)) 68)).setRow W2.heap.size (vec 3 (endE z)) := ⟨_, rfl⟩
              have bX3 : Below W2.heap.size W2 X3 := by rw [hX3]; exact below_row ((Below.refl _ _).alloc (Nat.le_refl _) _) (Nat.le_refl _) _
              have aX3 : Arr X3 W2.heap.size 68 3 (endE z) := by rw [hX3]; exact (Arr.new W2 _ _ _).row _
              obtain ⟨b4, hS4, hoff4, hback4⟩ := HTi.out.box bX3
              obtain ⟨u2, hu2⟩ : ∃ u, u = W2.heap.size := ⟨_, rfl⟩
              rw [← hu2] at aX3 hoff4
              have HF2 : Hid (∀ (l' : By) (m' e' : Nat) (Y : World), WS X3 b4 g l' m' e' Y → Arr Y u2 68 3 (endE z)) := Lib.hid (fun l' m' e' Y hs => hs.arr aX3 (hoff4 u2 (Nat.le_refl _)).1 (hoff4 u2 (Nat.le_refl _)).2)
              have HT : Hid (WS X3 b4 g LE (50000 + 40 * k + 16 + 12 * 0) E2 X3) := Lib.hid hS4
              have HBK4 := Lib.hid hback4
              have HX3 := Lib.hid hX3
              have HU2 := Lib.hid hu2
              have HZB := Lib.hid hzb
              clear hz hzb hLE hE2 hX3 bX3 aX3 HTi hS4 hoff4 hback4 hu2
              have hix := HIX.out W2
              go_upto_region 25 with ((with_reducible show wpList _ _ _ (Oper.mk _ (.store _ _ _) _ _ _ _ :: _) _ _); refine wl_store rfl 68 _ _ rfl _ rfl _ rfl (run_store_arr (Arr.new W2 _ _ _) (endE z) infoEn (endE_one _ _)) ?_)
              rw [← HX3.out, ← HU2.out]
              clear HX3 HU2 HIX hix
              have cx : X3.cell? ⟨u2, 0, none⟩ = some (.int .i64 z.guest) := (HF2.out _ _ _ _ HT.out).cell (i := 0) (by decide)
              go_upto_region 26 with (go_at_call 30; refine (wsmall_any z.guest HZB.out.1 65535 2 (by decide) (by have := HKM.out; omega) _ HT.out).mono ?_; rintro t w3 ⟨rfl, hs⟩; replace HT := Lib.hid hs; clear hs)
              clear cx
              have cx : w3.cell? ⟨u2, 1, none⟩ = some (.int .i64 z.perm) := (HF2.out _ _ _ _ HT.out).cell (i := 1) (by decide)
              go_upto_region 27 with (go_at_call 30; refine (wsmall_any z.perm HZB.out.2.1 7 2 (by decide) (by have := HKM.out; omega) _ HT.out).mono ?_; rintro t w3 ⟨rfl, hs⟩; replace HT := Lib.hid hs; clear hs)
              clear cx
              have cx : w3.cell? ⟨u2, 2, none⟩ = some (.int .u64 z.ipa) := (HF2.out _ _ _ _ HT.out).cell (i := 2) (by decide)
              go_wp2_with (go_at_call 28; refine (wput_any z.ipa HZB.out.2.2.1 8 (by decide) (by have := HKM.out; omega) _ HT.out).mono ?_; rintro t w3 ⟨rfl, hs⟩; replace HT := Lib.hid hs; clear hs)
              go_roundw
              case rel => exact ⟨1, by decide, by go_num, Lib.hid (by
                rw [HZE.out]
                exact (HBK4.out _ _ _ _ HT.out).any (fun _ => by rw [HZL.out, HLE.out]; simp) (by omega))⟩
              case measure => simp [intOf]
            · obtain ⟨z, hz⟩ : ∃ z, z = y.b := ⟨_, rfl⟩
              have HIX : Hid (∀ W : World, (Instr.index 69 (.agg (vec 6 (twoE y.a y.b))) (.int .i64 1)).run Tryd.prog W = .ok (.agg (vec 3 (endE z))) W) := Lib.hid (fun W => by rw [hz]; exact index_b y.a y.b W)
              have hzb : EnB z := by rw [hz]; exact HYB.out.2.2.2
              have HZL : Hid (([y.a, y.b].take 2).flatMap layEn = ([y.a, y.b].take 1).flatMap layEn ++ (be 2 z.guest.toNat ++ (be 2 z.perm.toNat ++ be 8 z.ipa.toNat))) := Lib.hid (by rw [hz]; simp [layEn])
              have HZE : Hid (seqE E (errL (fun z => e144 (badEn z)) ([y.a, y.b].take 2)) = seqE (seqE (seqE E (errL (fun z => e144 (badEn z)) ([y.a, y.b].take 1))) (if inB z.guest 0 65535 = true then 0 else 144)) (if inB z.perm 0 7 = true then 0 else 144)) := Lib.hid (by
                rw [take_err _ [y.a, y.b] 1 (by simp), show [y.a, y.b][1] = z from hz.symm, ← seqE_seqE, seqE_seqE _ (if inB z.guest 0 65535 = true then 0 else 144)]
                refine congrArg _ ?_
                unfold badEn e144
                cases inB z.guest 0 65535 <;> cases inB z.perm 0 7 <;> rfl)
              obtain ⟨LE, hLE⟩ : ∃ L, L = LC ++ ([y.a, y.b].take 1).flatMap layEn := ⟨_, rfl⟩
              obtain ⟨E2, hE2⟩ : ∃ e, e = seqE E (errL (fun z => e144 (badEn z)) ([y.a, y.b].take 1)) := ⟨_, rfl⟩
              rw [← hLE, ← hE2] at HTi
              rw [← hE2] at HZE
              have HLE := Lib.hid hLE
              obtain ⟨X3, hX3⟩ : ∃ X, X = (W2.alloc (.cells (vec 3 (endE zEn)) 68)).setRow W2.heap.size (vec 3 (endE z)) := ⟨_, rfl⟩
              have bX3 : Below W2.heap.size W2 X3 := by rw [hX3]; exact below_row ((Below.refl _ _).alloc (Nat.le_refl _) _) (Nat.le_refl _) _
              have aX3 : Arr X3 W2.heap.size 68 3 (endE z) := by rw [hX3]; exact (Arr.new W2 _ _ _).row _
              obtain ⟨b4, hS4, hoff4, hback4⟩ := HTi.out.box bX3
              obtain ⟨u2, hu2⟩ : ∃ u, u = W2.heap.size := ⟨_, rfl⟩
              rw [← hu2] at aX3 hoff4
              have HF2 : Hid (∀ (l' : By) (m' e' : Nat) (Y : World), WS X3 b4 g l' m' e' Y → Arr Y u2 68 3 (endE z)) := Lib.hid (fun l' m' e' Y hs => hs.arr aX3 (hoff4 u2 (Nat.le_refl _)).1 (hoff4 u2 (Nat.le_refl _)).2)
              have HT : Hid (WS X3 b4 g LE (50000 + 40 * k + 16 + 12 * 1) E2 X3) := Lib.hid hS4
              have HBK4 := Lib.hid hback4
              have HX3 := Lib.hid hX3
              have HU2 := Lib.hid hu2
              have HZB := Lib.hid hzb
              clear hz hzb hLE hE2 hX3 bX3 aX3 HTi hS4 hoff4 hback4 hu2
              have hix := HIX.out W2
              go_upto_region 25 with ((with_reducible show wpList _ _ _ (Oper.mk _ (.store _ _ _) _ _ _ _ :: _) _ _); refine wl_store rfl 68 _ _ rfl _ rfl _ rfl (run_store_arr (Arr.new W2 _ _ _) (endE z) infoEn (endE_one _ _)) ?_)
              rw [← HX3.out, ← HU2.out]
              clear HX3 HU2 HIX hix
              have cx : X3.cell? ⟨u2, 0, none⟩ = some (.int .i64 z.guest) := (HF2.out _ _ _ _ HT.out).cell (i := 0) (by decide)
              go_upto_region 26 with (go_at_call 30; refine (wsmall_any z.guest HZB.out.1 65535 2 (by decide) (by have := HKM.out; omega) _ HT.out).mono ?_; rintro t w3 ⟨rfl, hs⟩; replace HT := Lib.hid hs; clear hs)
              clear cx
              have cx : w3.cell? ⟨u2, 1, none⟩ = some (.int .i64 z.perm) := (HF2.out _ _ _ _ HT.out).cell (i := 1) (by decide)
              go_upto_region 27 with (go_at_call 30; refine (wsmall_any z.perm HZB.out.2.1 7 2 (by decide) (by have := HKM.out; omega) _ HT.out).mono ?_; rintro t w3 ⟨rfl, hs⟩; replace HT := Lib.hid hs; clear hs)
              clear cx
              have cx : w3.cell? ⟨u2, 2, none⟩ = some (.int .u64 z.ipa) := (HF2.out _ _ _ _ HT.out).cell (i := 2) (by decide)
              go_wp2_with (go_at_call 28; refine (wput_any z.ipa HZB.out.2.2.1 8 (by decide) (by have := HKM.out; omega) _ HT.out).mono ?_; rintro t w3 ⟨rfl, hs⟩; replace HT := Lib.hid hs; clear hs)
              go_roundw
              case rel => exact ⟨2, by decide, by go_num, Lib.hid (by
                rw [HZE.out]
                exact (HBK4.out _ _ _ _ HT.out).any (fun _ => by rw [HZL.out, HLE.out]; simp) (by omega))⟩
              case measure => simp [intOf]
            · go_wp2_with fail
              go_roundw
              case rel => exact ⟨k + 1, HKM.out.1, by go_num, Lib.hid (by
                rw [HYE.out]
                refine (HBK.out _ _ _ _ HTi.out).any (fun _ => ?_) (by omega)
                rw [HYL.out, HLC.out]
                simp)⟩
              case measure => have := HKM.out.1; simp [intOf]; omega
        · obtain rfl : k = M := by omega
          have hki : ¬ (k : Int) < (k : Int) := by omega
          have hty : chs.take k = chs := by rw [List.take_of_length_le (by have := HLEN.out.2; omega)]
          rw [hty, ← HE3.out] at HSk
          obtain ⟨LD, hLD⟩ : ∃ L, L = LB ++ chs.flatMap layCh := ⟨_, rfl⟩
          rw [← hLD] at HSk
          have HLD : Hid (LD = LZ) := Lib.hid (by rw [hLD, HLB.out, HLA.out, HLAY.out]; simp)
          have HT : Hid (WS V2 none g LD 60000 EC W) := Lib.hid (HSk.out.any (fun _ => rfl) (by have := HMC.out; omega))
          clear hty hLD hlt HSk HE3 hk HLB HLA HLAY HR HK HBW HLEN
          obtain ⟨AR, cR, LR, -, c0, -, -, hl0, hl1, -, -⟩ := HT.out.open
          obtain ⟨NR, hNR⟩ : ∃ n, n = LR.length := ⟨_, rfl⟩
          rw [← hNR] at c0
          have HNR : Hid (EC = 0 → LZ.length = NR) := Lib.hid (fun h => by rw [hNR, hl0 h, HLD.out])
          clear hl0 hl1 hNR
          obtain ⟨r, hr⟩ : ∃ r, r = decide (NR ≤ 65536) := ⟨_, rfl⟩
          have hr2 : decide ((NR : Int) ≤ 65536) = r := by rw [hr]; rw [Bool.eq_iff_iff]; simp; omega
          have HR1 : Hid (EP = seqE EC (if r = true then 0 else 2)) := Lib.hid (by
            rw [HEP.out]
            by_cases h0 : EC = 0
            · rw [HNR.out h0, hr]
              simp
            · rw [seqE_of h0, seqE_of h0])
          clear hr
          go_upto_region 31 with (go_at_call 31; refine (wmust_any r 2 (by decide) _ HT.out).mono ?_; rintro z w2 ⟨rfl, hs⟩; replace HT := Lib.hid hs; clear hs)
          clear hr2 c0
          rw [← HR1.out] at HT
          obtain ⟨fe, ff⟩ := HT.out.err
          have HBY := Lib.hid (HBEL.out _ _ _ _ HT.out)
          by_cases h0 : EP = 0
          · subst h0
            obtain ⟨A3, c3, k0, ko⟩ := HOW.out _ _ _ HT.out HLD.out
            have HKO := Lib.hid ko
            have z1 : (((0 : Nat) : Int) != 0) = false := rfl
            clear ko
            go_wp2_with fail
            exact HYES.out _ _ (by first | rfl | trivial) HKO.out HBY.out
          · have z1 : ((EP : Int) != 0) = true := bne_iff_ne.2 (by omega)
            have z2 : ¬ (EP : Int) = 0 := by omega
            have HEE := Lib.hid h0
            clear h0
            go_upto_region 32 with fail
            go_quiet (fail)
            go_wp2_with fail
            exact HNO.out EP _ rfl HEE.out (below_drewN HBY.out _)
set_option maxRecDepth 100000 in
theorem rput_yes {x : Cf} {a c : Value} {w : World} (hx : CfR w w.heap.size x a c) (hb : CfB x) (hn : ∀ g ∈ x.gs, g.name.length ≤ 1000000) (he : errP x = 0) : Calls Tryd.prog 13 #[.agg (vec 3 (cfE x.ver a c))] w fun e w' => ∃ A d, e = .returned (.tuple #[.slice A (layC x).length d, .int .i64 0]) ∧ (layC x).length ≤ d ∧ Lies w' w'.heap.size 1 A (layC x).length (u8s (layC x)) ∧ Below w.heap.size w w' := by
  refine (rput14_any x a c w hx hb hn).mono ?_
  rintro e w' ⟨h, hd⟩
  rw [if_pos he] at h
  obtain ⟨v, rfl, hv⟩ := h
  obtain ⟨A, d, rfl, hc, hl⟩ := (own_of hv).lies
  exact ⟨A, d, rfl, hc, hl, hd⟩
set_option maxRecDepth 100000 in
theorem rput_no {x : Cf} {a c : Value} {w : World} (hx : CfR w w.heap.size x a c) (hb : CfB x) (hn : ∀ g ∈ x.gs, g.name.length ≤ 1000000) (he : errP x ≠ 0) : Calls Tryd.prog 13 #[.agg (vec 3 (cfE x.ver a c))] w fun e w' => e = .returned (.tuple #[.slice none 0 0, .int .i64 (errP x : Int)]) ∧ Below w.heap.size w w' := by
  refine (rput14_any x a c w hx hb hn).mono ?_
  rintro e w' ⟨h, hd⟩
  rw [if_neg he] at h
  exact ⟨h, hd⟩
end Go.Proofs.YtmcpmcicolpoeaaDoor
