import Derived.Test.YtkaipknkjocfiaaGreatZa13
import Derived.Test.YtkaipknkjocfiaaGreatZa14
namespace Go.Proofs.YtkaipknkjocfiaaGreat
open Go.RowKit Go.Maps
attribute [local go_sem ↓ high] zeroSp zeroWi
theorem kwithinE (x y : Sp) (hx : fit x) (hy : fit y) (w : World) : Calls Tryz.prog 69 #[.agg (vec 2 (spE x)), .agg (vec 2 (spE y))] w (EqV (within x y) w) := within_any x.1 x.2 y.1 y.2 hx hy w
theorem koverlapE (x y : Sp) (hx : fit x) (hy : fit y) (w : World) : Calls Tryz.prog 83 #[.agg (vec 2 (spE x)), .agg (vec 2 (spE y))] w (EqV (overlap x y) w) := overlap_any x.1 x.2 y.1 y.2 hx hy w
theorem row_of {w : World} {B : Nat} {A : Option Addr} {l : List Sp} (h : RowE 2 spE w B A l) : Row w B A l := fun hn => by
 obtain ⟨a, e, hb, hc⟩ := h hn
 exact ⟨a, e, hb, fun j hj => ⟨by have := hc j hj 0 (by decide); rw [Nat.add_zero] at this; exact this, hc j hj 1 (by decide)⟩⟩
theorem kpagesE (A : Option Addr) (c : Nat) (l : List Sp) (hl : l.length ≤ 1000000) (hf : ∀ x ∈ l, fit x) (w : World) (hR : RowE 2 spE w w.heap.size A l) : Calls Tryz.prog 68 #[.slice A l.length c] w (EqV (l.all paged) w) := pages_any A c l hl hf w (row_of hR)
theorem wiB_fit {y : Wi} (hy : WiB y) : fit (ipaW y) ∧ fit (spW y) := ⟨⟨(u64Z_nat (u64BZ hy.1)).2, (u64Z_nat (u64BZ hy.2.2.1)).2⟩, (u64Z_nat (u64BZ hy.2.1)).2, (u64Z_nat (u64BZ hy.2.2.1)).2⟩
theorem deB_fit {y : De} (hy : DeB y) : fit (ipaD y) ∧ fit (spD y) := ⟨⟨(u64Z_nat (u64BZ hy.1)).2, (u64Z_nat (u64BZ hy.2.2)).2⟩, (u64Z_nat (u64BZ hy.2.1)).2, (u64Z_nat (u64BZ hy.2.2)).2⟩
set_option maxRecDepth 100000 in
theorem kseen_n (b p s : Nat) (q : Int) (w : World) : Calls Tryz.prog 79 #[.agg (vec 4 (winE ⟨(b : Int), (p : Int), (s : Int), q⟩))] w fun e w' => e = .returned (.agg (vec 2 (spE (b, s)))) ∧ Below w.heap.size w w' := by
 obtain ⟨g, hg⟩ : ∃ g, g = w.heap.size := ⟨_, rfl⟩
 obtain ⟨h, hh⟩ : ∃ h, h = w.heap.size + 1 := ⟨_, rfl⟩
 obtain ⟨m, hm⟩ : ∃ m : Wi, m = ⟨(b : Int), (p : Int), (s : Int), q⟩ := ⟨_, rfl⟩
 obtain ⟨V, hV⟩ : ∃ V, V = (w.alloc (.cells (vec 4 (winE m)) 67)).alloc (.cells (vec 2 (spE (0, 0))) 24) := ⟨_, rfl⟩
 have k1 : Arr V g 67 4 (winE m) := by rw [hV, hg]; exact (Arr.new w _ _ _).alloc _
 have k2 : Arr V h 24 2 (spE (0, 0)) := by rw [hV, hh]; exact Arr.newAt _ _ _ _ (by simp)
 have hB : Below w.heap.size w V := by rw [hV]; exact ((Below.refl _ _).alloc (Nat.le_refl _) _).alloc (by simp) _
 have x0 : V.cell? ⟨g, 0, none⟩ = some (.int .u64 (b : Int)) := by have := k1.cell (i := 0) (by decide); rw [hm] at this; exact this
 have x2 : V.cell? ⟨g, 2, none⟩ = some (.int .u64 (s : Int)) := by have := k1.cell (i := 2) (by decide); rw [hm] at this; exact this
 have HV := Lib.hid hV
 have HG := Lib.hid (And.intro hg hh)
 have HB := Lib.hid hB
 have HK := Lib.hid k2
 have HH : Hid (w.heap.size ≤ h) := Lib.hid (by omega)
 rw [← hm]
 clear hV hg hh k1 k2 hB hm
 go_enter Tryz.func79, Tryz.ntmps79
 go_upto_region 1 with fail
 rw [← HV.out, ← HG.out.2, ← HG.out.1]
 clear HV HG
 go_wp2_with (first
  | ((with_reducible show wpList _ _ _ (Oper.mk _ (.build _ _) _ _ _ _ :: _) _ _); refine wl_build rfl 24 _ rfl (vec 2 (spE (b, s))) (by kernel_rfl) ?_)
  | ((with_reducible show wpList _ _ _ (Oper.mk _ (.store _ _ _) _ _ _ _ :: _) _ _); refine wl_store rfl 24 _ _ rfl h rfl _ rfl (run_store_arr HK.out (spE (b, s)) infoSp (spE_one _ _)) ?_))
 refine bodyPost_ret (results_cell1 rfl _ _ _ rfl (run_load_arr (HK.out.row _) Tryz.underlying24 rfl infoSp)) rfl ?_
 exact ⟨rfl, below_row HB.out HH.out _⟩
theorem kseen_any (y : Wi) (hy : WiB y) (w : World) : Calls Tryz.prog 79 #[.agg (vec 4 (winE y))] w fun e w' => e = .returned (.agg (vec 2 (spE (ipaW y)))) ∧ Below w.heap.size w w' := by
 obtain ⟨mi, mp, ms, mq⟩ := y
 obtain ⟨b, rfl⟩ := Int.eq_ofNat_of_zero_le hy.1.1
 obtain ⟨p, rfl⟩ := Int.eq_ofNat_of_zero_le hy.2.1.1
 obtain ⟨s, rfl⟩ := Int.eq_ofNat_of_zero_le hy.2.2.1.1
 exact kseen_n b p s mq w
theorem kE_board {b : Bd} {wh : Int} {m1 m2 m3 m4 : Nat} {mv : Value} {w : World} {p : Nat} {t : TypeId} (h : Arr w p t 13 (kE b wh m1 m2 m3 m4 mv)) {i : Nat} (hi : i < 7) : w.cell? ⟨p, i, none⟩ = some (bdE b i) := by
 rw [h.cell (by omega)]
 show some (if i < 7 then bdE b i else _) = _
 rw [if_pos hi]
def KB (w : World) (p : Nat) (b : Bd) : Prop := p < w.heap.size ∧ ∀ i, i < 7 → w.cell? ⟨p, i, none⟩ = some (bdE b i)
theorem KB.of {b : Bd} {wh : Int} {m1 m2 m3 m4 : Nat} {mv : Value} {w : World} {p : Nat} {t : TypeId} (h : Arr w p t 13 (kE b wh m1 m2 m3 m4 mv)) : KB w p b := ⟨h.lt, fun _ hi => kE_board h hi⟩
theorem KB.under {w w' : World} {p : Nat} {b : Bd} (h : KB w p b) (hb : Below w.heap.size w w') : KB w' p b := ⟨Nat.lt_of_lt_of_le h.1 hb.size, fun i hi => (hb.cell h.1).trans (h.2 i hi)⟩
theorem KB.ram {w : World} {p : Nat} {b : Bd} (h : KB w p b) : ∀ i, i < 2 → w.cell? ((⟨p, 0, none⟩ : Addr).add i) = some (spE b.r i) := fun i hi => by
 rw [add_atM, h.2 _ (by omega)]
 rcases (by omega : i = 0 ∨ i = 1) with rfl | rfl <;> rfl
theorem KB.load {w : World} {p : Nat} {b : Bd} (h : KB w p b) : ∀ i, i < 2 → w.cell? ((⟨p, 2, none⟩ : Addr).add i) = some (spE b.l i) := fun i hi => by
 rw [add_atM, h.2 _ (by omega)]
 rcases (by omega : i = 0 ∨ i = 1) with rfl | rfl <;> rfl
set_option maxHeartbeats 2000000 in
set_option maxRecDepth 100000 in
theorem kours_any (p : Nat) (b : Bd) (s : Sp) (hs : fit s) (hr : fit b.r) (hl : fit b.l) (w : World) (h : KB w p b) : Calls Tryz.prog 80 #[.pointer (some ⟨p, 0, none⟩), .agg (vec 2 (spE s))] w (EqV (oursB b s) w) := by
 obtain ⟨z1, hz1⟩ : ∃ z, z = within s b.r := ⟨_, rfl⟩
 obtain ⟨z2, hz2⟩ : ∃ z, z = overlap s b.l := ⟨_, rfl⟩
 have e : oursB b s = (z1 && !z2) := by unfold oursB; rw [← hz1, ← hz2]
 rw [e]
 have HP1 : Hid (∀ W, Calls Tryz.prog 69 #[.agg (vec 2 (spE s)), .agg (vec 2 (spE b.r))] W (EqV z1 W)) := Lib.hid (by rw [hz1]; exact fun W => kwithinE s b.r hs hr W)
 have HP2 : Hid (∀ W, Calls Tryz.prog 83 #[.agg (vec 2 (spE s)), .agg (vec 2 (spE b.l))] W (EqV z2 W)) := Lib.hid (by rw [hz2]; exact fun W => koverlapE s b.l hs hl W)
 unfold EqV at HP1 HP2 ⊢
 obtain ⟨r3, hr3⟩ : ∃ r, r = w.heap.size := ⟨_, rfl⟩
 obtain ⟨V, hV⟩ : ∃ V, V = w.alloc (.cells (vec 2 (spE s)) 24) := ⟨_, rfl⟩
 have hb : Below w.heap.size w V := by rw [hV]; exact Below.alloc_own w _
 have HA : Hid (Arr V r3 24 2 (spE s)) := Lib.hid (by rw [hV, hr3]; exact Arr.new _ _ _ _)
 have HK := Lib.hid (h.under hb)
 have HB := Lib.hid hb
 have HV := Lib.hid hV
 have HR := Lib.hid hr3
 clear hz1 hz2 e hs hr hl h hb hV hr3
 go_enter Tryz.func80, Tryz.ntmps80
 go_upto_region 1 with fail
 rw [← HV.out, ← HR.out]
 clear HV HR
 cases z1
 case false =>
  refine wp_region_held_drew (S := fun Y => Below V.heap.size V Y) (by kernel_rfl) (show Below V.heap.size V V.drew from below_drewN (Below.refl _ _) 1) (fun hS => ?_)
  refine tP 0 (v := .agg (vec 2 (spE s))) (hy := by (intro W hW; exact exec_load 24 _ rfl r3 rfl _ (run_load_arr (HA.out.under hW) Tryz.underlying24 rfl infoSp))) (h := ?_)
  refine tP 1 (h := ?_)
  refine tP 2 (h := ?_)
  refine tP 3 (h := ?_)
  refine tP 4 (h := ?_)
  refine tP 5 (v := .agg (vec 2 (spE b.r))) (hy := by (intro W hW; exact exec_load_q 24 _ rfl ⟨p, 0, none⟩ (by first | rfl | (simp; done)) _ (run_load_q ((HK.out.under hW).ram) Tryz.underlying24 rfl infoSp))) (h := ?_)
  refine oQ 6 (h := fun K6 hK6 => ?_)
  go_simp
  refine (HP1.out _).mono ?_
  rintro e y6 ⟨rfl, hd⟩
  refine hK6 _ _ (Below.trans hS (hd.mono (Below.size hS))) (fun hS6 => ?_)
  clear hS hd hK6 K6
  refine tP 7 (h := ?_)
  refine sQ 8 (h := ?_)
  refine sQ 9 (h := ?_)
  refine sQ 10 (h := ?_)
  refine sQ 11 (h := ?_)
  refine sQ 12 (h := ?_)
  refine sQ 13 (h := ?_)
  refine sQ 14 (h := ?_)
  refine sQ 15 (h := ?_)
  refine tP 16 (h := ?_)
  refine tP 17 (h := ?_)
  refine wpAnyH_done (by kernel_rfl) ?_ _
  go_wp2_with fail
  go_ret
  exact ⟨rfl, HB.out.trans (hS6.mono HB.out.size)⟩
 case true =>
  refine wp_region_held_drew (S := fun Y => Below V.heap.size V Y) (by kernel_rfl) (show Below V.heap.size V V.drew from below_drewN (Below.refl _ _) 1) (fun hS => ?_)
  refine tP 0 (v := .agg (vec 2 (spE s))) (hy := by (intro W hW; exact exec_load 24 _ rfl r3 rfl _ (run_load_arr (HA.out.under hW) Tryz.underlying24 rfl infoSp))) (h := ?_)
  refine tP 1 (h := ?_)
  refine tP 2 (h := ?_)
  refine tP 3 (h := ?_)
  refine tP 4 (h := ?_)
  refine tP 5 (v := .agg (vec 2 (spE b.r))) (hy := by (intro W hW; exact exec_load_q 24 _ rfl ⟨p, 0, none⟩ (by first | rfl | (simp; done)) _ (run_load_q ((HK.out.under hW).ram) Tryz.underlying24 rfl infoSp))) (h := ?_)
  refine oQ 6 (h := fun K6 hK6 => ?_)
  go_simp
  refine (HP1.out _).mono ?_
  rintro e y6 ⟨rfl, hd⟩
  refine hK6 _ _ (Below.trans hS (hd.mono (Below.size hS))) (fun hS6 => ?_)
  clear hS hd hK6 K6
  refine tP 7 (h := ?_)
  refine tP 8 (v := .agg (vec 2 (spE s))) (hy := by (intro W hW; exact exec_load 24 _ rfl r3 rfl _ (run_load_arr (HA.out.under hW) Tryz.underlying24 rfl infoSp))) (h := ?_)
  refine tP 9 (h := ?_)
  refine tP 10 (h := ?_)
  refine tP 11 (h := ?_)
  refine tP 12 (h := ?_)
  refine tP 13 (v := .agg (vec 2 (spE b.l))) (hy := by (intro W hW; exact exec_load_q 24 _ rfl ⟨p, 2, none⟩ (by first | rfl | (simp; done)) _ (run_load_q ((HK.out.under hW).load) Tryz.underlying24 rfl infoSp))) (h := ?_)
  refine oQ 14 (h := fun K14 hK14 => ?_)
  go_simp
  refine (HP2.out _).mono ?_
  rintro e y14 ⟨rfl, hd⟩
  refine hK14 _ _ (Below.trans hS6 (hd.mono (Below.size hS6))) (fun hS14 => ?_)
  clear hS6 hd hK14 K14
  refine tP 15 (h := ?_)
  refine tP 16 (h := ?_)
  refine tP 17 (h := ?_)
  refine wpAnyH_done (by kernel_rfl) ?_ _
  go_wp2_with fail
  go_ret
  exact ⟨rfl, HB.out.trans (hS14.mono HB.out.size)⟩
set_option maxHeartbeats 1000000 in
set_option maxRecDepth 100000 in
theorem low1_any (y s : Sp) (hy : fit y) (hs : fit s) (g : Nat) (w : World) (hg : Arr w g 24 2 (spE s)) : Calls Tryz.prog 121 #[.agg (vec 2 (spE y)), .pointer (some ⟨g, 0, none⟩)] w (EqV (within y s) w) := by
 obtain ⟨z1, hz1⟩ : ∃ z, z = within y s := ⟨_, rfl⟩
 have HP1 : Hid (∀ W, Calls Tryz.prog 69 #[.agg (vec 2 (spE y)), .agg (vec 2 (spE s))] W (EqV z1 W)) := Lib.hid (by rw [hz1]; exact fun W => kwithinE y s hy hs W)
 rw [← hz1]
 unfold EqV at HP1 ⊢
 obtain ⟨r3, hr3⟩ : ∃ r, r = w.heap.size := ⟨_, rfl⟩
 obtain ⟨V, hV⟩ : ∃ V, V = w.alloc (.cells (vec 2 (spE y)) 24) := ⟨_, rfl⟩
 have hb : Below w.heap.size w V := by rw [hV]; exact Below.alloc_own w _
 have HA : Hid (Arr V r3 24 2 (spE y)) := Lib.hid (by rw [hV, hr3]; exact Arr.new _ _ _ _)
 have HK := Lib.hid (hg.under hb)
 have HB := Lib.hid hb
 have HV := Lib.hid hV
 have HR := Lib.hid hr3
 clear hz1 hy hs hg hb hV hr3
 go_enter Tryz.func121, Tryz.ntmps121
 go_upto_region 1 with fail
 rw [← HV.out, ← HR.out]
 clear HV HR
 go_wp2_with (first
  | ((with_reducible show wpList _ _ _ (Oper.mk (some 4) (.load 24 _) _ _ _ _ :: _) _ _); refine wl_load rfl 24 _ rfl r3 rfl _ (run_load_arr HA.out Tryz.underlying24 rfl infoSp) ?_)
  | ((with_reducible show wpList _ _ _ (Oper.mk (some 5) (.load 24 _) _ _ _ _ :: _) _ _); refine wl_load rfl 24 _ rfl g rfl _ (run_load_arr HK.out Tryz.underlying24 rfl infoSp) ?_)
  | (go_at_call 69; refine (HP1.out _).mono ?_; rintro e w1 ⟨rfl, hd⟩; have HD := Lib.hid hd; clear hd))
 go_ret
 exact ⟨rfl, HB.out.trans (HD.out.mono HB.out.size)⟩
theorem all_of {α : Type} {l : List α} {f : α → Bool} (h : ∀ i (hi : i < l.length), f l[i] = true) : l.all f = true := List.all_eq_true.2 fun x hx => by
 obtain ⟨i, hi, rfl⟩ := List.getElem_of_mem hx
 exact h i hi
theorem all_miss {α : Type} {l : List α} {f : α → Bool} {i : Nat} (hi : i < l.length) (h : f l[i] = false) : l.all f = false := by
 rw [← Bool.not_eq_true, List.all_eq_true]
 intro hh
 rw [hh _ (List.getElem_mem hi)] at h
 cases h
theorem Asks.pure {α : Type} {l : List α} {val : α → Value} {f : FuncId} {fs lb : Array Value} {q : α → Bool} {n0 : Nat} {Rw : World → Prop} {V : World} (stop : Bool)
  (hrow : ∀ W, Below V.heap.size V W → Rw W) (he : ∀ args w, (callFunc f args).run Tryz.prog w = .ok (.enter f args) w)
  (hc : ∀ i (hi : i < l.length) W, Below V.heap.size V W → Calls Tryz.prog f (fs ++ #[val l[i]] ++ lb) W (EqV (q l[i]) W)) :
  Asks l val f fs lb stop n0 Rw (fun i W => Below V.heap.size V W ∧ ∀ j (hj : j < l.length), j < i → q l[j] = !stop) (fun i W => Below V.heap.size V W ∧ ∃ hi : i < l.length, q l[i] = stop) where
 row := fun i W h => hrow W h.1
 keep := fun i W W' h hb => ⟨h.1.trans (hb.mono h.1.size), h.2⟩
 keepJ := fun i W W' h hb => ⟨h.1.trans (hb.mono h.1.size), h.2⟩
 enters := he
 call := fun i hi W h => (hc i hi W h.1).mono fun e W' hh => ⟨q l[i], hh.1, .of_below hh.2, fun e => ⟨h.1.trans (hh.2.mono h.1.size), hi, e⟩, fun e => ⟨h.1.trans (hh.2.mono h.1.size), fun j hj hlt => by
  rcases Nat.lt_or_ge j i with h1 | h1
  · exact h.2 j hj h1
  · obtain rfl : j = i := by omega
    exact e⟩⟩
theorem low_fit : fit lowS := by unfold fit lowS; decide
set_option maxHeartbeats 1000000 in
set_option maxRecDepth 100000 in
theorem klow_any (A : Option Addr) (c : Nat) (l : List Sp) (hl : l.length ≤ 1000000) (hf : ∀ x ∈ l, fit x) (w : World) (hR : RowE 2 spE w w.heap.size A l) : Calls Tryz.prog 78 #[.slice A l.length c] w (EqV (lowL l) w) := by
 obtain ⟨z1, hz1⟩ : ∃ z, z = l.all paged := ⟨_, rfl⟩
 obtain ⟨z2, hz2⟩ : ∃ z, z = l.all (fun s => within s lowS) := ⟨_, rfl⟩
 have e : lowL l = (z1 && z2) := by unfold lowL; rw [← hz1, ← hz2]
 rw [e]
 obtain ⟨g, hg⟩ : ∃ g, g = w.heap.size := ⟨_, rfl⟩
 obtain ⟨V, hV⟩ : ∃ V, V = (w.alloc (.cells (vec 2 (spE (0, 0))) 24)).setRow w.heap.size (vec 2 (spE lowS)) := ⟨_, rfl⟩
 have hb : Below w.heap.size w V := by rw [hV]; exact below_row ((Below.refl _ _).alloc (Nat.le_refl _) _) (Nat.le_refl _) _
 have ha : Arr V g 24 2 (spE lowS) := by rw [hV, hg]; exact (Arr.new w _ _ _).row _
 have HP : Hid (∀ W, Below V.heap.size V W → Calls Tryz.prog 68 #[.slice A l.length c] W (EqV z1 W)) := Lib.hid (by rw [hz1]; exact fun W hW => kpagesE A c l hl hf W (((hR.below hb).below (hW.mono hb.size)).wide (Nat.le_trans hb.size hW.size)))
 have eL : ∀ args w, (callFunc 121 args).run Tryz.prog w = .ok (.enter 121 args) w := enters_of Tryz.func121 (by kernel_rfl) rfl
 have HE : Hid (∀ W, Below V.heap.size V W → Calls Tryz.prog 120 #[.slice A l.length c, .func (.func 121) #[] #[.pointer (some ⟨g, 0, none⟩)]] W (EqV z2 W)) := Lib.hid fun W hW => by
  have hq := each_Sp A W.heap.size c l hl 121 #[] #[.pointer (some ⟨g, 0, none⟩)] W.heap.size _ _ (Asks.pure (V := W) (q := fun y => within y lowS) (n0 := W.heap.size) (Rw := fun Y => RowE 2 spE Y W.heap.size A l) false
   (fun Y hY => (((hR.below hb).below (hW.mono hb.size)).wide (Nat.le_trans hb.size hW.size)).below hY) eL
   (fun i hi Y hY => low1_any l[i] lowS (hf _ (List.getElem_mem hi)) low_fit g Y ((ha.under hW).under hY))) W (Nat.le_refl _) ⟨Below.refl _ _, fun j _ hj => by omega⟩
  refine hq.mono ?_
  rintro e w' ⟨r, rfl, -, h1, h2⟩
  cases r with
  | true => exact ⟨by rw [hz2, all_of fun i hi => (h1 rfl).2 i hi hi], (h1 rfl).1⟩
  | false =>
   obtain ⟨i, hi, hB, hi2, hq⟩ := h2 rfl
   exact ⟨by rw [hz2, all_miss (f := fun s => within s lowS) hi hq], hB⟩
 obtain ⟨n, hn⟩ : ∃ n, n = l.length := ⟨_, rfl⟩
 rw [← hn] at HP HE ⊢
 unfold EqV at HP HE ⊢
 have hmf : ∀ (fn : Fn) (first cap : Array Value) (w : World), (Instr.makeFunc fn first cap).run Tryz.prog w = .ok (.func fn first cap) w := fun _ _ _ _ => rfl
 have HB := Lib.hid hb
 have HV := Lib.hid hV
 have HG := Lib.hid hg
 clear hz1 hz2 e hl hf hR hb hV hg ha eL hn
 go_enter Tryz.func78, Tryz.ntmps78
 go_upto_region 2 with (first
  | ((with_reducible show wpList _ _ _ (Oper.mk _ (.build _ _) _ _ _ _ :: _) _ _); refine wl_build rfl 24 _ rfl (vec 2 (spE lowS)) (by kernel_rfl) ?_)
  | ((with_reducible show wpList _ _ _ (Oper.mk _ (.store _ _ _) _ _ _ _ :: _) _ _); refine wl_store rfl 24 _ _ rfl _ rfl _ rfl (run_store_arr (Arr.new w _ _ _) (spE lowS) infoSp (spE_one _ _)) ?_))
 rw [← HV.out, ← HG.out]
 clear HV HG
 cases z1
 case false =>
  go_wp2_with (go_at_call 68; refine (HP.out _ (Below.refl _ _)).mono ?_; rintro e w1 ⟨rfl, hd⟩; have HD := Lib.hid hd; clear hd)
  go_ret
  exact ⟨rfl, HB.out.trans (HD.out.mono HB.out.size)⟩
 case true =>
  go_wp2_with (first
   | (go_at_call 68; refine (HP.out _ (Below.refl _ _)).mono ?_; rintro e w1 ⟨rfl, hd⟩; have HD := Lib.hid hd; clear hd)
   | (go_at_call 120; refine (HE.out _ HD.out).mono ?_; rintro e w2 ⟨rfl, hd⟩; have HD2 := Lib.hid (HD.out.trans (hd.mono HD.out.size)); clear hd))
  go_ret
  exact ⟨rfl, HB.out.trans (HD2.out.mono HB.out.size)⟩
end Go.Proofs.YtkaipknkjocfiaaGreat
