import Derived.Test.YtkaipknkjocfiaaGreatZa28
namespace Go.Proofs.YtkaipknkjocfiaaGreat
open Go.RowKit Go.Maps
attribute [local go_sem ↓ high] zeroSp zeroGu zeroWi zeroIr zeroKeyB
def wiS (pa : Nat) : Wi := ⟨0, (pa : Int), 1048576, 7⟩
def irS (cpu : Nat) : Ir := ⟨32 + (cpu : Int), (cpu : Int), false⟩
def gsS (nm : By) (cpu pa : Nat) (key : By) : Gs := ⟨nm, false, 0, 0, 2 ^ cpu, 4096, 0, key, [wiS pa], [], [irS cpu], [(cpu : Int)]⟩
def gvS (nm : By) (cpu pa : Nat) (key : By) (g1 g3 g4 : Nat) : GV := ⟨gsS nm cpu pa key, .slice (some ⟨g1, 0, none⟩) 1 1, .slice none 0 0, .slice (some ⟨g3, 0, none⟩) 1 1, .slice (some ⟨g4, 0, none⟩) 1 1⟩
structure GMade (B : Nat) (Y : World) (cpu pa g1 g3 g4 : Nat) : Prop where
 lo : B ≤ g1 ∧ B ≤ g3 ∧ B ≤ g4
 w : Arr Y g1 67 4 (winE (wiS pa))
 i : Arr Y g3 65 3 (irqE (irS cpu))
 s : Arr Y g4 27 1 (numE (cpu : Int))
theorem GMade.under {B : Nat} {Y Y' : World} {cpu pa g1 g3 g4 : Nat} (h : GMade B Y cpu pa g1 g3 g4) (hb : Below Y.heap.size Y Y') : GMade B Y' cpu pa g1 g3 g4 := ⟨h.lo, h.w.under hb, h.i.under hb, h.s.under hb⟩
def GuestC (nm : By) (cpu pa : Nat) (key : By) (w : World) (e : Ending) (w' : World) : Prop := ∃ g1 g3 g4, e = .returned (.agg (vec 79 (guestE (gvS nm cpu pa key g1 g3 g4)))) ∧ GMade w.heap.size w' cpu pa g1 g3 g4 ∧ Below w.heap.size w w'
theorem arr_ne {Y : World} {g g' n n' : Nat} {t t' : TypeId} {f f' : Nat → Value} (h : Arr Y g t n f) (h' : Arr Y g' t' n' f') (ht : t ≠ t') : g ≠ g' := fun e => by
 subst e
 unfold Arr at h h'
 rw [h] at h'
 injection h' with h'
 injection h' with _ h' _
 exact ht h'
set_option maxHeartbeats 16000000 in
set_option maxRecDepth 100000 in
theorem guestK_0 (nm : By) (pa : Nat) (key : By) (w : World) : Calls Tryz.prog 35 #[.string (strOf nm), .int .i64 0, .int .u64 (pa : Int), .agg (vec 68 (bys (kF key)))] w (GuestC nm 0 pa key w) := by
 obtain ⟨r7, hr7⟩ : ∃ r, r = w.heap.size := ⟨_, rfl⟩
 obtain ⟨r8, hr8⟩ : ∃ r, r = w.heap.size + 1 := ⟨_, rfl⟩
 obtain ⟨V, hV⟩ : ∃ V, V = (w.alloc (.cells (vec 68 (bys (kF key))) 52)).alloc (.cells (vec 79 (guestE zGV)) 63) := ⟨_, rfl⟩
 have bV : Below w.heap.size w V := by rw [hV]; exact (Below.alloc_own w _).alloc (by simp) _
 have HA7 : Hid (Arr V r7 52 68 (bys (kF key))) := Lib.hid (by rw [hV, hr7]; exact (Arr.new w _ _ _).alloc _)
 have HA8 : Hid (Arr V r8 63 79 (guestE zGV)) := Lib.hid (by rw [hV, hr8]; exact Arr.newAt _ _ _ _ (by simp))
 have HNE : Hid (r7 ≠ r8 ∧ w.heap.size ≤ r8 ∧ w.heap.size ≤ V.heap.size ∧ V.heap.size = w.heap.size + 2 ∧ r8 = w.heap.size + 1) := Lib.hid (by rw [hr7, hr8, hV]; simp; omega)
 have HB := Lib.hid bV
 have HV := Lib.hid hV
 have HR := Lib.hid (And.intro hr7 hr8)
 obtain ⟨S, hS⟩ : ∃ S, S = strOf nm := ⟨_, rfl⟩
 have HS := Lib.hid hS
 have HP : Hid (∀ g6 g11 g14 Y, GMade w.heap.size Y 0 pa g6 g11 g14 → Below w.heap.size w Y → GuestC nm 0 pa key w (.returned (.agg (vec 79 (guestE (gvS nm 0 pa key g6 g11 g14))))) Y) := Lib.hid fun g6 g11 g14 Y h1 h2 => ⟨g6, g11, g14, rfl, h1, h2⟩
 obtain ⟨Q, hQ⟩ : ∃ Q, Q = GuestC nm 0 pa key w := ⟨_, rfl⟩
 rw [← hQ] at HP ⊢
 rw [← hS]
 have hwc : IntKind.u32.wrap 0 = 0 := by decide
 clear hr7 hr8 hV bV hS hQ
 go_enter Tryz.func35, Tryz.ntmps35
 go_upto_region 1 with fail
 rw [← HV.out, ← HR.out.2, ← HR.out.1]
 clear HV HR
 refine wp_region_held_drew (S := fun Y => Save r8 V Y) (by kernel_rfl) (show Save r8 V V.drew from (Save.refl r8 V).drewN 1) (fun hS => ?_)
 obtain ⟨Y0, hY0⟩ : ∃ Y, Y = V.drew := ⟨_, rfl⟩
 rw [← hY0] at hS ⊢
 have HR8 : Hid (Arr Y0 r8 63 79 (guestE zGV)) := Lib.hid (by rw [hY0]; exact HA8.out.drewN 1)
 clear hY0
 refine tP 0 (h := ?_)
 refine tP 1 (h := ?_)
 refine tP 2 (h := ?_)
 refine tP 3 (v := .agg (vec 68 (bys (kF key)))) (hy := by (intro W hW; exact exec_load 52 _ rfl r7 rfl _ (run_load_arr (HA7.out.save hW HNE.out.1) Tryz.underlying52 rfl info_key))) (h := ?_)
 refine tP 4 (h := ?_)
 refine tP 5 (v := .agg (vec 4 (winE (wiS pa)))) (hy := by (intro W hW; exact exec_build 67 _ rfl (vec 4 (winE (wiS pa))) (by kernel_rfl) W)) (h := ?_)
 refine tP 7 (h := ?_)
 refine tP 8 (h := ?_)
 refine tP 9 (h := ?_)
 refine tP 10 (v := .agg (vec 3 (irqE (irS 0)))) (hy := by (intro W hW; exact exec_build 65 _ rfl (vec 3 (irqE (irS 0))) (by kernel_rfl) W)) (h := ?_)
 refine tP 12 (h := ?_)
 refine tP 13 (h := ?_)
 refine held_three (i := 6) (j := 11) (k := 14) (oi := ?oit34) (oj := ?ojt34) (ok := ?okt34) (by kernel_rfl) ?ait34 ?ajt34 ?akt34 ?cit34 ?cjt34 ?ckt34 (fun K6 hK6 => ?hit34) (fun K11 hK11 => ?hjt34) (fun K14 hK14 => ?hkt34)
 (case ait34 => (simp only [List.getElem?_toArray, List.getElem?_cons_zero, List.getElem?_cons_succ]; rfl))
 (case ajt34 => (simp only [List.getElem?_toArray, List.getElem?_cons_zero, List.getElem?_cons_succ]; rfl))
 (case akt34 => (simp only [List.getElem?_toArray, List.getElem?_cons_zero, List.getElem?_cons_succ]; rfl))
 (case cit34 => kernel_rfl)
 (case cjt34 => kernel_rfl)
 (case ckt34 => kernel_rfl)
 case hit34 =>
  refine kow_bs1 58 _ rfl (.agg (vec 4 (winE (wiS pa)))) rfl (build_window (wiS pa) Y0) ?_
  obtain ⟨y6, hy6⟩ : ∃ Y, Y = Y0.alloc (.cells (vec 4 (winE (wiS pa))) 67) := ⟨_, rfl⟩
  obtain ⟨g6, hg6⟩ : ∃ g, g = Y0.heap.size := ⟨_, rfl⟩
  have hd : Below Y0.heap.size Y0 y6 := by rw [hy6]; exact Below.alloc_own _ _
  have HG6 : Hid (w.heap.size ≤ g6 ∧ Arr y6 g6 67 4 (winE (wiS pa))) := Lib.hid ⟨by have := HNE.out; have := (hS).size; omega, by rw [hy6, hg6]; exact Arr.new _ _ _ _⟩
  have HR8 := Lib.hid (HR8.out.under hd)
  rw [← hy6, ← hg6]
  refine hK6 _ _ (Save.trans hS (Save.of_below hd)) (fun hS6 => ?_)
  clear hS hd hy6 hg6 hK6 K6
  refine wQ 11 14 (h1 := fun K11 hK11 => ?hit19) (h2 := fun K14 hK14 => ?hjt19)
  case hit19 =>
   refine kow_bs1 60 _ rfl (.agg (vec 3 (irqE (irS 0)))) rfl (build_irq (irS 0) y6) ?_
   obtain ⟨y11, hy11⟩ : ∃ Y, Y = y6.alloc (.cells (vec 3 (irqE (irS 0))) 65) := ⟨_, rfl⟩
   obtain ⟨g11, hg11⟩ : ∃ g, g = y6.heap.size := ⟨_, rfl⟩
   have hd : Below y6.heap.size y6 y11 := by rw [hy11]; exact Below.alloc_own _ _
   have HG6 := Lib.hid (And.intro HG6.out.1 (HG6.out.2.under hd))
   have HG11 : Hid (w.heap.size ≤ g11 ∧ Arr y11 g11 65 3 (irqE (irS 0))) := Lib.hid ⟨by have := HNE.out; have := (hS6).size; omega, by rw [hy11, hg11]; exact Arr.new _ _ _ _⟩
   have HR8 := Lib.hid (HR8.out.under hd)
   rw [← hy11, ← hg11]
   refine hK11 _ _ (Save.trans hS6 (Save.of_below hd)) (fun hS11 => ?_)
   clear hS6 hd hy11 hg11 hK11 K11
   refine oQ 14 (h := fun K14 hK14 => ?_)
   refine kow_bs1 61 _ rfl (.int .u32 0) rfl (build_num 0 y11) ?_
   obtain ⟨y14, hy14⟩ : ∃ Y, Y = y11.alloc (.cells (vec 1 (numE 0)) 27) := ⟨_, rfl⟩
   obtain ⟨g14, hg14⟩ : ∃ g, g = y11.heap.size := ⟨_, rfl⟩
   have hd : Below y11.heap.size y11 y14 := by rw [hy14]; exact Below.alloc_own _ _
   have HG6 := Lib.hid (And.intro HG6.out.1 (HG6.out.2.under hd))
   have HG11 := Lib.hid (And.intro HG11.out.1 (HG11.out.2.under hd))
   have HG14 : Hid (w.heap.size ≤ g14 ∧ Arr y14 g14 27 1 (numE 0)) := Lib.hid ⟨by have := HNE.out; have := (hS11).size; omega, by rw [hy14, hg14]; exact Arr.new _ _ _ _⟩
   have HR8 := Lib.hid (HR8.out.under hd)
   rw [← hy14, ← hg14]
   refine hK14 _ _ (Save.trans hS11 (Save.of_below hd)) (fun hS14 => ?_)
   clear hS11 hd hy14 hg14 hK14 K14
   refine tP 15 (v := .agg (vec 79 (guestE (gvS nm 0 pa key g6 g11 g14)))) (hy := by (intro W hW; rw [HS.out]; exact exec_build 63 _ rfl (vec 79 (guestE (gvS nm 0 pa key g6 g11 g14))) (by kernel_rfl) W)) (h := ?_)
   refine oQ 16 (h := fun K16 hK16 => ?_)
   refine ow_store 63 _ _ rfl _ rfl (.agg (vec 79 (guestE (gvS nm 0 pa key g6 g11 g14)))) rfl (run_store_arr (show Arr y14 r8 63 79 (guestE zGV) from HR8.out) (guestE (gvS nm 0 pa key g6 g11 g14)) infoGu (guestE_one _ ⟨rfl, rfl, rfl, rfl⟩ _)) ?_
   obtain ⟨y16, hy16⟩ : ∃ Y, Y = y14.setRow r8 (vec 79 (guestE (gvS nm 0 pa key g6 g11 g14))) := ⟨_, rfl⟩
   have hsv : Save r8 y14 y16 := by rw [hy16]; exact (Save.refl _ _).setRow _
   have HR16 : Hid (Arr y16 r8 63 79 (guestE (gvS nm 0 pa key g6 g11 g14))) := Lib.hid (by rw [hy16]; exact HR8.out.row _)
   have HM : Hid (GMade w.heap.size y16 0 pa g6 g11 g14 ∧ Below w.heap.size w y16) := Lib.hid ⟨⟨⟨HG6.out.1, HG11.out.1, HG14.out.1⟩, HG6.out.2.save hsv (arr_ne HG6.out.2 HR8.out (by decide)), HG11.out.2.save hsv (arr_ne HG11.out.2 HR8.out (by decide)), HG14.out.2.save hsv (arr_ne HG14.out.2 HR8.out (by decide))⟩, HB.out.trans ((Save.trans hS14 hsv).below HNE.out.2.1 HNE.out.2.2.1)⟩
   rw [← hy16]
   refine hK16 _ _ (Save.trans hS14 hsv) (fun hS16 => ?_)
   clear hS14 hsv hy16 hK16 K16
   refine wpAnyH_done (by kernel_rfl) ?_ _
   clear hS16
   go_wp2_with fail
   refine bodyPost_ret (results_cell1 rfl _ _ _ rfl (run_load_arr HR16.out Tryz.underlying63 rfl infoGu)) rfl ?_
   exact HP.out _ _ _ _ HM.out.1 HM.out.2
  case hjt19 =>
   refine kow_bs1 61 _ rfl (.int .u32 0) rfl (build_num 0 y6) ?_
   obtain ⟨y14, hy14⟩ : ∃ Y, Y = y6.alloc (.cells (vec 1 (numE 0)) 27) := ⟨_, rfl⟩
   obtain ⟨g14, hg14⟩ : ∃ g, g = y6.heap.size := ⟨_, rfl⟩
   have hd : Below y6.heap.size y6 y14 := by rw [hy14]; exact Below.alloc_own _ _
   have HG6 := Lib.hid (And.intro HG6.out.1 (HG6.out.2.under hd))
   have HG14 : Hid (w.heap.size ≤ g14 ∧ Arr y14 g14 27 1 (numE 0)) := Lib.hid ⟨by have := HNE.out; have := (hS6).size; omega, by rw [hy14, hg14]; exact Arr.new _ _ _ _⟩
   have HR8 := Lib.hid (HR8.out.under hd)
   rw [← hy14, ← hg14]
   refine hK14 _ _ (Save.trans hS6 (Save.of_below hd)) (fun hS14 => ?_)
   clear hS6 hd hy14 hg14 hK14 K14
   refine oQ 11 (h := fun K11 hK11 => ?_)
   refine kow_bs1 60 _ rfl (.agg (vec 3 (irqE (irS 0)))) rfl (build_irq (irS 0) y14) ?_
   obtain ⟨y11, hy11⟩ : ∃ Y, Y = y14.alloc (.cells (vec 3 (irqE (irS 0))) 65) := ⟨_, rfl⟩
   obtain ⟨g11, hg11⟩ : ∃ g, g = y14.heap.size := ⟨_, rfl⟩
   have hd : Below y14.heap.size y14 y11 := by rw [hy11]; exact Below.alloc_own _ _
   have HG6 := Lib.hid (And.intro HG6.out.1 (HG6.out.2.under hd))
   have HG14 := Lib.hid (And.intro HG14.out.1 (HG14.out.2.under hd))
   have HG11 : Hid (w.heap.size ≤ g11 ∧ Arr y11 g11 65 3 (irqE (irS 0))) := Lib.hid ⟨by have := HNE.out; have := (hS14).size; omega, by rw [hy11, hg11]; exact Arr.new _ _ _ _⟩
   have HR8 := Lib.hid (HR8.out.under hd)
   rw [← hy11, ← hg11]
   refine hK11 _ _ (Save.trans hS14 (Save.of_below hd)) (fun hS11 => ?_)
   clear hS14 hd hy11 hg11 hK11 K11
   refine tP 15 (v := .agg (vec 79 (guestE (gvS nm 0 pa key g6 g11 g14)))) (hy := by (intro W hW; rw [HS.out]; exact exec_build 63 _ rfl (vec 79 (guestE (gvS nm 0 pa key g6 g11 g14))) (by kernel_rfl) W)) (h := ?_)
   refine oQ 16 (h := fun K16 hK16 => ?_)
   refine ow_store 63 _ _ rfl _ rfl (.agg (vec 79 (guestE (gvS nm 0 pa key g6 g11 g14)))) rfl (run_store_arr (show Arr y11 r8 63 79 (guestE zGV) from HR8.out) (guestE (gvS nm 0 pa key g6 g11 g14)) infoGu (guestE_one _ ⟨rfl, rfl, rfl, rfl⟩ _)) ?_
   obtain ⟨y16, hy16⟩ : ∃ Y, Y = y11.setRow r8 (vec 79 (guestE (gvS nm 0 pa key g6 g11 g14))) := ⟨_, rfl⟩
   have hsv : Save r8 y11 y16 := by rw [hy16]; exact (Save.refl _ _).setRow _
   have HR16 : Hid (Arr y16 r8 63 79 (guestE (gvS nm 0 pa key g6 g11 g14))) := Lib.hid (by rw [hy16]; exact HR8.out.row _)
   have HM : Hid (GMade w.heap.size y16 0 pa g6 g11 g14 ∧ Below w.heap.size w y16) := Lib.hid ⟨⟨⟨HG6.out.1, HG11.out.1, HG14.out.1⟩, HG6.out.2.save hsv (arr_ne HG6.out.2 HR8.out (by decide)), HG11.out.2.save hsv (arr_ne HG11.out.2 HR8.out (by decide)), HG14.out.2.save hsv (arr_ne HG14.out.2 HR8.out (by decide))⟩, HB.out.trans ((Save.trans hS11 hsv).below HNE.out.2.1 HNE.out.2.2.1)⟩
   rw [← hy16]
   refine hK16 _ _ (Save.trans hS11 hsv) (fun hS16 => ?_)
   clear hS11 hsv hy16 hK16 K16
   refine wpAnyH_done (by kernel_rfl) ?_ _
   clear hS16
   go_wp2_with fail
   refine bodyPost_ret (results_cell1 rfl _ _ _ rfl (run_load_arr HR16.out Tryz.underlying63 rfl infoGu)) rfl ?_
   exact HP.out _ _ _ _ HM.out.1 HM.out.2
 case hjt34 =>
  refine kow_bs1 60 _ rfl (.agg (vec 3 (irqE (irS 0)))) rfl (build_irq (irS 0) Y0) ?_
  obtain ⟨y11, hy11⟩ : ∃ Y, Y = Y0.alloc (.cells (vec 3 (irqE (irS 0))) 65) := ⟨_, rfl⟩
  obtain ⟨g11, hg11⟩ : ∃ g, g = Y0.heap.size := ⟨_, rfl⟩
  have hd : Below Y0.heap.size Y0 y11 := by rw [hy11]; exact Below.alloc_own _ _
  have HG11 : Hid (w.heap.size ≤ g11 ∧ Arr y11 g11 65 3 (irqE (irS 0))) := Lib.hid ⟨by have := HNE.out; have := (hS).size; omega, by rw [hy11, hg11]; exact Arr.new _ _ _ _⟩
  have HR8 := Lib.hid (HR8.out.under hd)
  rw [← hy11, ← hg11]
  refine hK11 _ _ (Save.trans hS (Save.of_below hd)) (fun hS11 => ?_)
  clear hS hd hy11 hg11 hK11 K11
  refine wQ 6 14 (h1 := fun K6 hK6 => ?hit26) (h2 := fun K14 hK14 => ?hjt26)
  case hit26 =>
   refine kow_bs1 58 _ rfl (.agg (vec 4 (winE (wiS pa)))) rfl (build_window (wiS pa) y11) ?_
   obtain ⟨y6, hy6⟩ : ∃ Y, Y = y11.alloc (.cells (vec 4 (winE (wiS pa))) 67) := ⟨_, rfl⟩
   obtain ⟨g6, hg6⟩ : ∃ g, g = y11.heap.size := ⟨_, rfl⟩
   have hd : Below y11.heap.size y11 y6 := by rw [hy6]; exact Below.alloc_own _ _
   have HG11 := Lib.hid (And.intro HG11.out.1 (HG11.out.2.under hd))
   have HG6 : Hid (w.heap.size ≤ g6 ∧ Arr y6 g6 67 4 (winE (wiS pa))) := Lib.hid ⟨by have := HNE.out; have := (hS11).size; omega, by rw [hy6, hg6]; exact Arr.new _ _ _ _⟩
   have HR8 := Lib.hid (HR8.out.under hd)
   rw [← hy6, ← hg6]
   refine hK6 _ _ (Save.trans hS11 (Save.of_below hd)) (fun hS6 => ?_)
   clear hS11 hd hy6 hg6 hK6 K6
   refine oQ 14 (h := fun K14 hK14 => ?_)
   refine kow_bs1 61 _ rfl (.int .u32 0) rfl (build_num 0 y6) ?_
   obtain ⟨y14, hy14⟩ : ∃ Y, Y = y6.alloc (.cells (vec 1 (numE 0)) 27) := ⟨_, rfl⟩
   obtain ⟨g14, hg14⟩ : ∃ g, g = y6.heap.size := ⟨_, rfl⟩
   have hd : Below y6.heap.size y6 y14 := by rw [hy14]; exact Below.alloc_own _ _
   have HG11 := Lib.hid (And.intro HG11.out.1 (HG11.out.2.under hd))
   have HG6 := Lib.hid (And.intro HG6.out.1 (HG6.out.2.under hd))
   have HG14 : Hid (w.heap.size ≤ g14 ∧ Arr y14 g14 27 1 (numE 0)) := Lib.hid ⟨by have := HNE.out; have := (hS6).size; omega, by rw [hy14, hg14]; exact Arr.new _ _ _ _⟩
   have HR8 := Lib.hid (HR8.out.under hd)
   rw [← hy14, ← hg14]
   refine hK14 _ _ (Save.trans hS6 (Save.of_below hd)) (fun hS14 => ?_)
   clear hS6 hd hy14 hg14 hK14 K14
   refine tP 15 (v := .agg (vec 79 (guestE (gvS nm 0 pa key g6 g11 g14)))) (hy := by (intro W hW; rw [HS.out]; exact exec_build 63 _ rfl (vec 79 (guestE (gvS nm 0 pa key g6 g11 g14))) (by kernel_rfl) W)) (h := ?_)
   refine oQ 16 (h := fun K16 hK16 => ?_)
   refine ow_store 63 _ _ rfl _ rfl (.agg (vec 79 (guestE (gvS nm 0 pa key g6 g11 g14)))) rfl (run_store_arr (show Arr y14 r8 63 79 (guestE zGV) from HR8.out) (guestE (gvS nm 0 pa key g6 g11 g14)) infoGu (guestE_one _ ⟨rfl, rfl, rfl, rfl⟩ _)) ?_
   obtain ⟨y16, hy16⟩ : ∃ Y, Y = y14.setRow r8 (vec 79 (guestE (gvS nm 0 pa key g6 g11 g14))) := ⟨_, rfl⟩
   have hsv : Save r8 y14 y16 := by rw [hy16]; exact (Save.refl _ _).setRow _
   have HR16 : Hid (Arr y16 r8 63 79 (guestE (gvS nm 0 pa key g6 g11 g14))) := Lib.hid (by rw [hy16]; exact HR8.out.row _)
   have HM : Hid (GMade w.heap.size y16 0 pa g6 g11 g14 ∧ Below w.heap.size w y16) := Lib.hid ⟨⟨⟨HG6.out.1, HG11.out.1, HG14.out.1⟩, HG6.out.2.save hsv (arr_ne HG6.out.2 HR8.out (by decide)), HG11.out.2.save hsv (arr_ne HG11.out.2 HR8.out (by decide)), HG14.out.2.save hsv (arr_ne HG14.out.2 HR8.out (by decide))⟩, HB.out.trans ((Save.trans hS14 hsv).below HNE.out.2.1 HNE.out.2.2.1)⟩
   rw [← hy16]
   refine hK16 _ _ (Save.trans hS14 hsv) (fun hS16 => ?_)
   clear hS14 hsv hy16 hK16 K16
   refine wpAnyH_done (by kernel_rfl) ?_ _
   clear hS16
   go_wp2_with fail
   refine bodyPost_ret (results_cell1 rfl _ _ _ rfl (run_load_arr HR16.out Tryz.underlying63 rfl infoGu)) rfl ?_
   exact HP.out _ _ _ _ HM.out.1 HM.out.2
  case hjt26 =>
   refine kow_bs1 61 _ rfl (.int .u32 0) rfl (build_num 0 y11) ?_
   obtain ⟨y14, hy14⟩ : ∃ Y, Y = y11.alloc (.cells (vec 1 (numE 0)) 27) := ⟨_, rfl⟩
   obtain ⟨g14, hg14⟩ : ∃ g, g = y11.heap.size := ⟨_, rfl⟩
   have hd : Below y11.heap.size y11 y14 := by rw [hy14]; exact Below.alloc_own _ _
   have HG11 := Lib.hid (And.intro HG11.out.1 (HG11.out.2.under hd))
   have HG14 : Hid (w.heap.size ≤ g14 ∧ Arr y14 g14 27 1 (numE 0)) := Lib.hid ⟨by have := HNE.out; have := (hS11).size; omega, by rw [hy14, hg14]; exact Arr.new _ _ _ _⟩
   have HR8 := Lib.hid (HR8.out.under hd)
   rw [← hy14, ← hg14]
   refine hK14 _ _ (Save.trans hS11 (Save.of_below hd)) (fun hS14 => ?_)
   clear hS11 hd hy14 hg14 hK14 K14
   refine oQ 6 (h := fun K6 hK6 => ?_)
   refine kow_bs1 58 _ rfl (.agg (vec 4 (winE (wiS pa)))) rfl (build_window (wiS pa) y14) ?_
   obtain ⟨y6, hy6⟩ : ∃ Y, Y = y14.alloc (.cells (vec 4 (winE (wiS pa))) 67) := ⟨_, rfl⟩
   obtain ⟨g6, hg6⟩ : ∃ g, g = y14.heap.size := ⟨_, rfl⟩
   have hd : Below y14.heap.size y14 y6 := by rw [hy6]; exact Below.alloc_own _ _
   have HG11 := Lib.hid (And.intro HG11.out.1 (HG11.out.2.under hd))
   have HG14 := Lib.hid (And.intro HG14.out.1 (HG14.out.2.under hd))
   have HG6 : Hid (w.heap.size ≤ g6 ∧ Arr y6 g6 67 4 (winE (wiS pa))) := Lib.hid ⟨by have := HNE.out; have := (hS14).size; omega, by rw [hy6, hg6]; exact Arr.new _ _ _ _⟩
   have HR8 := Lib.hid (HR8.out.under hd)
   rw [← hy6, ← hg6]
   refine hK6 _ _ (Save.trans hS14 (Save.of_below hd)) (fun hS6 => ?_)
   clear hS14 hd hy6 hg6 hK6 K6
   refine tP 15 (v := .agg (vec 79 (guestE (gvS nm 0 pa key g6 g11 g14)))) (hy := by (intro W hW; rw [HS.out]; exact exec_build 63 _ rfl (vec 79 (guestE (gvS nm 0 pa key g6 g11 g14))) (by kernel_rfl) W)) (h := ?_)
   refine oQ 16 (h := fun K16 hK16 => ?_)
   refine ow_store 63 _ _ rfl _ rfl (.agg (vec 79 (guestE (gvS nm 0 pa key g6 g11 g14)))) rfl (run_store_arr (show Arr y6 r8 63 79 (guestE zGV) from HR8.out) (guestE (gvS nm 0 pa key g6 g11 g14)) infoGu (guestE_one _ ⟨rfl, rfl, rfl, rfl⟩ _)) ?_
   obtain ⟨y16, hy16⟩ : ∃ Y, Y = y6.setRow r8 (vec 79 (guestE (gvS nm 0 pa key g6 g11 g14))) := ⟨_, rfl⟩
   have hsv : Save r8 y6 y16 := by rw [hy16]; exact (Save.refl _ _).setRow _
   have HR16 : Hid (Arr y16 r8 63 79 (guestE (gvS nm 0 pa key g6 g11 g14))) := Lib.hid (by rw [hy16]; exact HR8.out.row _)
   have HM : Hid (GMade w.heap.size y16 0 pa g6 g11 g14 ∧ Below w.heap.size w y16) := Lib.hid ⟨⟨⟨HG6.out.1, HG11.out.1, HG14.out.1⟩, HG6.out.2.save hsv (arr_ne HG6.out.2 HR8.out (by decide)), HG11.out.2.save hsv (arr_ne HG11.out.2 HR8.out (by decide)), HG14.out.2.save hsv (arr_ne HG14.out.2 HR8.out (by decide))⟩, HB.out.trans ((Save.trans hS6 hsv).below HNE.out.2.1 HNE.out.2.2.1)⟩
   rw [← hy16]
   refine hK16 _ _ (Save.trans hS6 hsv) (fun hS16 => ?_)
   clear hS6 hsv hy16 hK16 K16
   refine wpAnyH_done (by kernel_rfl) ?_ _
   clear hS16
   go_wp2_with fail
   refine bodyPost_ret (results_cell1 rfl _ _ _ rfl (run_load_arr HR16.out Tryz.underlying63 rfl infoGu)) rfl ?_
   exact HP.out _ _ _ _ HM.out.1 HM.out.2
 case hkt34 =>
  refine kow_bs1 61 _ rfl (.int .u32 0) rfl (build_num 0 Y0) ?_
  obtain ⟨y14, hy14⟩ : ∃ Y, Y = Y0.alloc (.cells (vec 1 (numE 0)) 27) := ⟨_, rfl⟩
  obtain ⟨g14, hg14⟩ : ∃ g, g = Y0.heap.size := ⟨_, rfl⟩
  have hd : Below Y0.heap.size Y0 y14 := by rw [hy14]; exact Below.alloc_own _ _
  have HG14 : Hid (w.heap.size ≤ g14 ∧ Arr y14 g14 27 1 (numE 0)) := Lib.hid ⟨by have := HNE.out; have := (hS).size; omega, by rw [hy14, hg14]; exact Arr.new _ _ _ _⟩
  have HR8 := Lib.hid (HR8.out.under hd)
  rw [← hy14, ← hg14]
  refine hK14 _ _ (Save.trans hS (Save.of_below hd)) (fun hS14 => ?_)
  clear hS hd hy14 hg14 hK14 K14
  refine wQ 6 11 (h1 := fun K6 hK6 => ?hit33) (h2 := fun K11 hK11 => ?hjt33)
  case hit33 =>
   refine kow_bs1 58 _ rfl (.agg (vec 4 (winE (wiS pa)))) rfl (build_window (wiS pa) y14) ?_
   obtain ⟨y6, hy6⟩ : ∃ Y, Y = y14.alloc (.cells (vec 4 (winE (wiS pa))) 67) := ⟨_, rfl⟩
   obtain ⟨g6, hg6⟩ : ∃ g, g = y14.heap.size := ⟨_, rfl⟩
   have hd : Below y14.heap.size y14 y6 := by rw [hy6]; exact Below.alloc_own _ _
   have HG14 := Lib.hid (And.intro HG14.out.1 (HG14.out.2.under hd))
   have HG6 : Hid (w.heap.size ≤ g6 ∧ Arr y6 g6 67 4 (winE (wiS pa))) := Lib.hid ⟨by have := HNE.out; have := (hS14).size; omega, by rw [hy6, hg6]; exact Arr.new _ _ _ _⟩
   have HR8 := Lib.hid (HR8.out.under hd)
   rw [← hy6, ← hg6]
   refine hK6 _ _ (Save.trans hS14 (Save.of_below hd)) (fun hS6 => ?_)
   clear hS14 hd hy6 hg6 hK6 K6
   refine oQ 11 (h := fun K11 hK11 => ?_)
   refine kow_bs1 60 _ rfl (.agg (vec 3 (irqE (irS 0)))) rfl (build_irq (irS 0) y6) ?_
   obtain ⟨y11, hy11⟩ : ∃ Y, Y = y6.alloc (.cells (vec 3 (irqE (irS 0))) 65) := ⟨_, rfl⟩
   obtain ⟨g11, hg11⟩ : ∃ g, g = y6.heap.size := ⟨_, rfl⟩
   have hd : Below y6.heap.size y6 y11 := by rw [hy11]; exact Below.alloc_own _ _
   have HG14 := Lib.hid (And.intro HG14.out.1 (HG14.out.2.under hd))
   have HG6 := Lib.hid (And.intro HG6.out.1 (HG6.out.2.under hd))
   have HG11 : Hid (w.heap.size ≤ g11 ∧ Arr y11 g11 65 3 (irqE (irS 0))) := Lib.hid ⟨by have := HNE.out; have := (hS6).size; omega, by rw [hy11, hg11]; exact Arr.new _ _ _ _⟩
   have HR8 := Lib.hid (HR8.out.under hd)
   rw [← hy11, ← hg11]
   refine hK11 _ _ (Save.trans hS6 (Save.of_below hd)) (fun hS11 => ?_)
   clear hS6 hd hy11 hg11 hK11 K11
   refine tP 15 (v := .agg (vec 79 (guestE (gvS nm 0 pa key g6 g11 g14)))) (hy := by (intro W hW; rw [HS.out]; exact exec_build 63 _ rfl (vec 79 (guestE (gvS nm 0 pa key g6 g11 g14))) (by kernel_rfl) W)) (h := ?_)
   refine oQ 16 (h := fun K16 hK16 => ?_)
   refine ow_store 63 _ _ rfl _ rfl (.agg (vec 79 (guestE (gvS nm 0 pa key g6 g11 g14)))) rfl (run_store_arr (show Arr y11 r8 63 79 (guestE zGV) from HR8.out) (guestE (gvS nm 0 pa key g6 g11 g14)) infoGu (guestE_one _ ⟨rfl, rfl, rfl, rfl⟩ _)) ?_
   obtain ⟨y16, hy16⟩ : ∃ Y, Y = y11.setRow r8 (vec 79 (guestE (gvS nm 0 pa key g6 g11 g14))) := ⟨_, rfl⟩
   have hsv : Save r8 y11 y16 := by rw [hy16]; exact (Save.refl _ _).setRow _
   have HR16 : Hid (Arr y16 r8 63 79 (guestE (gvS nm 0 pa key g6 g11 g14))) := Lib.hid (by rw [hy16]; exact HR8.out.row _)
   have HM : Hid (GMade w.heap.size y16 0 pa g6 g11 g14 ∧ Below w.heap.size w y16) := Lib.hid ⟨⟨⟨HG6.out.1, HG11.out.1, HG14.out.1⟩, HG6.out.2.save hsv (arr_ne HG6.out.2 HR8.out (by decide)), HG11.out.2.save hsv (arr_ne HG11.out.2 HR8.out (by decide)), HG14.out.2.save hsv (arr_ne HG14.out.2 HR8.out (by decide))⟩, HB.out.trans ((Save.trans hS11 hsv).below HNE.out.2.1 HNE.out.2.2.1)⟩
   rw [← hy16]
   refine hK16 _ _ (Save.trans hS11 hsv) (fun hS16 => ?_)
   clear hS11 hsv hy16 hK16 K16
   refine wpAnyH_done (by kernel_rfl) ?_ _
   clear hS16
   go_wp2_with fail
   refine bodyPost_ret (results_cell1 rfl _ _ _ rfl (run_load_arr HR16.out Tryz.underlying63 rfl infoGu)) rfl ?_
   exact HP.out _ _ _ _ HM.out.1 HM.out.2
  case hjt33 =>
   refine kow_bs1 60 _ rfl (.agg (vec 3 (irqE (irS 0)))) rfl (build_irq (irS 0) y14) ?_
   obtain ⟨y11, hy11⟩ : ∃ Y, Y = y14.alloc (.cells (vec 3 (irqE (irS 0))) 65) := ⟨_, rfl⟩
   obtain ⟨g11, hg11⟩ : ∃ g, g = y14.heap.size := ⟨_, rfl⟩
   have hd : Below y14.heap.size y14 y11 := by rw [hy11]; exact Below.alloc_own _ _
   have HG14 := Lib.hid (And.intro HG14.out.1 (HG14.out.2.under hd))
   have HG11 : Hid (w.heap.size ≤ g11 ∧ Arr y11 g11 65 3 (irqE (irS 0))) := Lib.hid ⟨by have := HNE.out; have := (hS14).size; omega, by rw [hy11, hg11]; exact Arr.new _ _ _ _⟩
   have HR8 := Lib.hid (HR8.out.under hd)
   rw [← hy11, ← hg11]
   refine hK11 _ _ (Save.trans hS14 (Save.of_below hd)) (fun hS11 => ?_)
   clear hS14 hd hy11 hg11 hK11 K11
   refine oQ 6 (h := fun K6 hK6 => ?_)
   refine kow_bs1 58 _ rfl (.agg (vec 4 (winE (wiS pa)))) rfl (build_window (wiS pa) y11) ?_
   obtain ⟨y6, hy6⟩ : ∃ Y, Y = y11.alloc (.cells (vec 4 (winE (wiS pa))) 67) := ⟨_, rfl⟩
   obtain ⟨g6, hg6⟩ : ∃ g, g = y11.heap.size := ⟨_, rfl⟩
   have hd : Below y11.heap.size y11 y6 := by rw [hy6]; exact Below.alloc_own _ _
   have HG14 := Lib.hid (And.intro HG14.out.1 (HG14.out.2.under hd))
   have HG11 := Lib.hid (And.intro HG11.out.1 (HG11.out.2.under hd))
   have HG6 : Hid (w.heap.size ≤ g6 ∧ Arr y6 g6 67 4 (winE (wiS pa))) := Lib.hid ⟨by have := HNE.out; have := (hS11).size; omega, by rw [hy6, hg6]; exact Arr.new _ _ _ _⟩
   have HR8 := Lib.hid (HR8.out.under hd)
   rw [← hy6, ← hg6]
   refine hK6 _ _ (Save.trans hS11 (Save.of_below hd)) (fun hS6 => ?_)
   clear hS11 hd hy6 hg6 hK6 K6
   refine tP 15 (v := .agg (vec 79 (guestE (gvS nm 0 pa key g6 g11 g14)))) (hy := by (intro W hW; rw [HS.out]; exact exec_build 63 _ rfl (vec 79 (guestE (gvS nm 0 pa key g6 g11 g14))) (by kernel_rfl) W)) (h := ?_)
   refine oQ 16 (h := fun K16 hK16 => ?_)
   refine ow_store 63 _ _ rfl _ rfl (.agg (vec 79 (guestE (gvS nm 0 pa key g6 g11 g14)))) rfl (run_store_arr (show Arr y6 r8 63 79 (guestE zGV) from HR8.out) (guestE (gvS nm 0 pa key g6 g11 g14)) infoGu (guestE_one _ ⟨rfl, rfl, rfl, rfl⟩ _)) ?_
   obtain ⟨y16, hy16⟩ : ∃ Y, Y = y6.setRow r8 (vec 79 (guestE (gvS nm 0 pa key g6 g11 g14))) := ⟨_, rfl⟩
   have hsv : Save r8 y6 y16 := by rw [hy16]; exact (Save.refl _ _).setRow _
   have HR16 : Hid (Arr y16 r8 63 79 (guestE (gvS nm 0 pa key g6 g11 g14))) := Lib.hid (by rw [hy16]; exact HR8.out.row _)
   have HM : Hid (GMade w.heap.size y16 0 pa g6 g11 g14 ∧ Below w.heap.size w y16) := Lib.hid ⟨⟨⟨HG6.out.1, HG11.out.1, HG14.out.1⟩, HG6.out.2.save hsv (arr_ne HG6.out.2 HR8.out (by decide)), HG11.out.2.save hsv (arr_ne HG11.out.2 HR8.out (by decide)), HG14.out.2.save hsv (arr_ne HG14.out.2 HR8.out (by decide))⟩, HB.out.trans ((Save.trans hS6 hsv).below HNE.out.2.1 HNE.out.2.2.1)⟩
   rw [← hy16]
   refine hK16 _ _ (Save.trans hS6 hsv) (fun hS16 => ?_)
   clear hS6 hsv hy16 hK16 K16
   refine wpAnyH_done (by kernel_rfl) ?_ _
   clear hS16
   go_wp2_with fail
   refine bodyPost_ret (results_cell1 rfl _ _ _ rfl (run_load_arr HR16.out Tryz.underlying63 rfl infoGu)) rfl ?_
   exact HP.out _ _ _ _ HM.out.1 HM.out.2
set_option maxHeartbeats 16000000 in
set_option maxRecDepth 100000 in
theorem guestK_1 (nm : By) (pa : Nat) (key : By) (w : World) : Calls Tryz.prog 35 #[.string (strOf nm), .int .i64 1, .int .u64 (pa : Int), .agg (vec 68 (bys (kF key)))] w (GuestC nm 1 pa key w) := by
 obtain ⟨r7, hr7⟩ : ∃ r, r = w.heap.size := ⟨_, rfl⟩
 obtain ⟨r8, hr8⟩ : ∃ r, r = w.heap.size + 1 := ⟨_, rfl⟩
 obtain ⟨V, hV⟩ : ∃ V, V = (w.alloc (.cells (vec 68 (bys (kF key))) 52)).alloc (.cells (vec 79 (guestE zGV)) 63) := ⟨_, rfl⟩
 have bV : Below w.heap.size w V := by rw [hV]; exact (Below.alloc_own w _).alloc (by simp) _
 have HA7 : Hid (Arr V r7 52 68 (bys (kF key))) := Lib.hid (by rw [hV, hr7]; exact (Arr.new w _ _ _).alloc _)
 have HA8 : Hid (Arr V r8 63 79 (guestE zGV)) := Lib.hid (by rw [hV, hr8]; exact Arr.newAt _ _ _ _ (by simp))
 have HNE : Hid (r7 ≠ r8 ∧ w.heap.size ≤ r8 ∧ w.heap.size ≤ V.heap.size ∧ V.heap.size = w.heap.size + 2 ∧ r8 = w.heap.size + 1) := Lib.hid (by rw [hr7, hr8, hV]; simp; omega)
 have HB := Lib.hid bV
 have HV := Lib.hid hV
 have HR := Lib.hid (And.intro hr7 hr8)
 obtain ⟨S, hS⟩ : ∃ S, S = strOf nm := ⟨_, rfl⟩
 have HS := Lib.hid hS
 have HP : Hid (∀ g6 g11 g14 Y, GMade w.heap.size Y 1 pa g6 g11 g14 → Below w.heap.size w Y → GuestC nm 1 pa key w (.returned (.agg (vec 79 (guestE (gvS nm 1 pa key g6 g11 g14))))) Y) := Lib.hid fun g6 g11 g14 Y h1 h2 => ⟨g6, g11, g14, rfl, h1, h2⟩
 obtain ⟨Q, hQ⟩ : ∃ Q, Q = GuestC nm 1 pa key w := ⟨_, rfl⟩
 rw [← hQ] at HP ⊢
 rw [← hS]
 have hwc : IntKind.u32.wrap 1 = 1 := by decide
 clear hr7 hr8 hV bV hS hQ
 go_enter Tryz.func35, Tryz.ntmps35
 go_upto_region 1 with fail
 rw [← HV.out, ← HR.out.2, ← HR.out.1]
 clear HV HR
 refine wp_region_held_drew (S := fun Y => Save r8 V Y) (by kernel_rfl) (show Save r8 V V.drew from (Save.refl r8 V).drewN 1) (fun hS => ?_)
 obtain ⟨Y0, hY0⟩ : ∃ Y, Y = V.drew := ⟨_, rfl⟩
 rw [← hY0] at hS ⊢
 have HR8 : Hid (Arr Y0 r8 63 79 (guestE zGV)) := Lib.hid (by rw [hY0]; exact HA8.out.drewN 1)
 clear hY0
 refine tP 0 (h := ?_)
 refine tP 1 (h := ?_)
 refine tP 2 (h := ?_)
 refine tP 3 (v := .agg (vec 68 (bys (kF key)))) (hy := by (intro W hW; exact exec_load 52 _ rfl r7 rfl _ (run_load_arr (HA7.out.save hW HNE.out.1) Tryz.underlying52 rfl info_key))) (h := ?_)
 refine tP 4 (h := ?_)
 refine tP 5 (v := .agg (vec 4 (winE (wiS pa)))) (hy := by (intro W hW; exact exec_build 67 _ rfl (vec 4 (winE (wiS pa))) (by kernel_rfl) W)) (h := ?_)
 refine tP 7 (h := ?_)
 refine tP 8 (h := ?_)
 refine tP 9 (h := ?_)
 refine tP 10 (v := .agg (vec 3 (irqE (irS 1)))) (hy := by (intro W hW; exact exec_build 65 _ rfl (vec 3 (irqE (irS 1))) (by kernel_rfl) W)) (h := ?_)
 refine tP 12 (h := ?_)
 refine tP 13 (h := ?_)
 refine held_three (i := 6) (j := 11) (k := 14) (oi := ?oit68) (oj := ?ojt68) (ok := ?okt68) (by kernel_rfl) ?ait68 ?ajt68 ?akt68 ?cit68 ?cjt68 ?ckt68 (fun K6 hK6 => ?hit68) (fun K11 hK11 => ?hjt68) (fun K14 hK14 => ?hkt68)
 (case ait68 => (simp only [List.getElem?_toArray, List.getElem?_cons_zero, List.getElem?_cons_succ]; rfl))
 (case ajt68 => (simp only [List.getElem?_toArray, List.getElem?_cons_zero, List.getElem?_cons_succ]; rfl))
 (case akt68 => (simp only [List.getElem?_toArray, List.getElem?_cons_zero, List.getElem?_cons_succ]; rfl))
 (case cit68 => kernel_rfl)
 (case cjt68 => kernel_rfl)
 (case ckt68 => kernel_rfl)
 case hit68 =>
  refine kow_bs1 58 _ rfl (.agg (vec 4 (winE (wiS pa)))) rfl (build_window (wiS pa) Y0) ?_
  obtain ⟨y6, hy6⟩ : ∃ Y, Y = Y0.alloc (.cells (vec 4 (winE (wiS pa))) 67) := ⟨_, rfl⟩
  obtain ⟨g6, hg6⟩ : ∃ g, g = Y0.heap.size := ⟨_, rfl⟩
  have hd : Below Y0.heap.size Y0 y6 := by rw [hy6]; exact Below.alloc_own _ _
  have HG6 : Hid (w.heap.size ≤ g6 ∧ Arr y6 g6 67 4 (winE (wiS pa))) := Lib.hid ⟨by have := HNE.out; have := (hS).size; omega, by rw [hy6, hg6]; exact Arr.new _ _ _ _⟩
  have HR8 := Lib.hid (HR8.out.under hd)
  rw [← hy6, ← hg6]
  refine hK6 _ _ (Save.trans hS (Save.of_below hd)) (fun hS6 => ?_)
  clear hS hd hy6 hg6 hK6 K6
  refine wQ 11 14 (h1 := fun K11 hK11 => ?hit53) (h2 := fun K14 hK14 => ?hjt53)
  case hit53 =>
   refine kow_bs1 60 _ rfl (.agg (vec 3 (irqE (irS 1)))) rfl (build_irq (irS 1) y6) ?_
   obtain ⟨y11, hy11⟩ : ∃ Y, Y = y6.alloc (.cells (vec 3 (irqE (irS 1))) 65) := ⟨_, rfl⟩
   obtain ⟨g11, hg11⟩ : ∃ g, g = y6.heap.size := ⟨_, rfl⟩
   have hd : Below y6.heap.size y6 y11 := by rw [hy11]; exact Below.alloc_own _ _
   have HG6 := Lib.hid (And.intro HG6.out.1 (HG6.out.2.under hd))
   have HG11 : Hid (w.heap.size ≤ g11 ∧ Arr y11 g11 65 3 (irqE (irS 1))) := Lib.hid ⟨by have := HNE.out; have := (hS6).size; omega, by rw [hy11, hg11]; exact Arr.new _ _ _ _⟩
   have HR8 := Lib.hid (HR8.out.under hd)
   rw [← hy11, ← hg11]
   refine hK11 _ _ (Save.trans hS6 (Save.of_below hd)) (fun hS11 => ?_)
   clear hS6 hd hy11 hg11 hK11 K11
   refine oQ 14 (h := fun K14 hK14 => ?_)
   refine kow_bs1 61 _ rfl (.int .u32 1) rfl (build_num 1 y11) ?_
   obtain ⟨y14, hy14⟩ : ∃ Y, Y = y11.alloc (.cells (vec 1 (numE 1)) 27) := ⟨_, rfl⟩
   obtain ⟨g14, hg14⟩ : ∃ g, g = y11.heap.size := ⟨_, rfl⟩
   have hd : Below y11.heap.size y11 y14 := by rw [hy14]; exact Below.alloc_own _ _
   have HG6 := Lib.hid (And.intro HG6.out.1 (HG6.out.2.under hd))
   have HG11 := Lib.hid (And.intro HG11.out.1 (HG11.out.2.under hd))
   have HG14 : Hid (w.heap.size ≤ g14 ∧ Arr y14 g14 27 1 (numE 1)) := Lib.hid ⟨by have := HNE.out; have := (hS11).size; omega, by rw [hy14, hg14]; exact Arr.new _ _ _ _⟩
   have HR8 := Lib.hid (HR8.out.under hd)
   rw [← hy14, ← hg14]
   refine hK14 _ _ (Save.trans hS11 (Save.of_below hd)) (fun hS14 => ?_)
   clear hS11 hd hy14 hg14 hK14 K14
   refine tP 15 (v := .agg (vec 79 (guestE (gvS nm 1 pa key g6 g11 g14)))) (hy := by (intro W hW; rw [HS.out]; exact exec_build 63 _ rfl (vec 79 (guestE (gvS nm 1 pa key g6 g11 g14))) (by kernel_rfl) W)) (h := ?_)
   refine oQ 16 (h := fun K16 hK16 => ?_)
   refine ow_store 63 _ _ rfl _ rfl (.agg (vec 79 (guestE (gvS nm 1 pa key g6 g11 g14)))) rfl (run_store_arr (show Arr y14 r8 63 79 (guestE zGV) from HR8.out) (guestE (gvS nm 1 pa key g6 g11 g14)) infoGu (guestE_one _ ⟨rfl, rfl, rfl, rfl⟩ _)) ?_
   obtain ⟨y16, hy16⟩ : ∃ Y, Y = y14.setRow r8 (vec 79 (guestE (gvS nm 1 pa key g6 g11 g14))) := ⟨_, rfl⟩
   have hsv : Save r8 y14 y16 := by rw [hy16]; exact (Save.refl _ _).setRow _
   have HR16 : Hid (Arr y16 r8 63 79 (guestE (gvS nm 1 pa key g6 g11 g14))) := Lib.hid (by rw [hy16]; exact HR8.out.row _)
   have HM : Hid (GMade w.heap.size y16 1 pa g6 g11 g14 ∧ Below w.heap.size w y16) := Lib.hid ⟨⟨⟨HG6.out.1, HG11.out.1, HG14.out.1⟩, HG6.out.2.save hsv (arr_ne HG6.out.2 HR8.out (by decide)), HG11.out.2.save hsv (arr_ne HG11.out.2 HR8.out (by decide)), HG14.out.2.save hsv (arr_ne HG14.out.2 HR8.out (by decide))⟩, HB.out.trans ((Save.trans hS14 hsv).below HNE.out.2.1 HNE.out.2.2.1)⟩
   rw [← hy16]
   refine hK16 _ _ (Save.trans hS14 hsv) (fun hS16 => ?_)
   clear hS14 hsv hy16 hK16 K16
   refine wpAnyH_done (by kernel_rfl) ?_ _
   clear hS16
   go_wp2_with fail
   refine bodyPost_ret (results_cell1 rfl _ _ _ rfl (run_load_arr HR16.out Tryz.underlying63 rfl infoGu)) rfl ?_
   exact HP.out _ _ _ _ HM.out.1 HM.out.2
  case hjt53 =>
   refine kow_bs1 61 _ rfl (.int .u32 1) rfl (build_num 1 y6) ?_
   obtain ⟨y14, hy14⟩ : ∃ Y, Y = y6.alloc (.cells (vec 1 (numE 1)) 27) := ⟨_, rfl⟩
   obtain ⟨g14, hg14⟩ : ∃ g, g = y6.heap.size := ⟨_, rfl⟩
   have hd : Below y6.heap.size y6 y14 := by rw [hy14]; exact Below.alloc_own _ _
   have HG6 := Lib.hid (And.intro HG6.out.1 (HG6.out.2.under hd))
   have HG14 : Hid (w.heap.size ≤ g14 ∧ Arr y14 g14 27 1 (numE 1)) := Lib.hid ⟨by have := HNE.out; have := (hS6).size; omega, by rw [hy14, hg14]; exact Arr.new _ _ _ _⟩
   have HR8 := Lib.hid (HR8.out.under hd)
   rw [← hy14, ← hg14]
   refine hK14 _ _ (Save.trans hS6 (Save.of_below hd)) (fun hS14 => ?_)
   clear hS6 hd hy14 hg14 hK14 K14
   refine oQ 11 (h := fun K11 hK11 => ?_)
   refine kow_bs1 60 _ rfl (.agg (vec 3 (irqE (irS 1)))) rfl (build_irq (irS 1) y14) ?_
   obtain ⟨y11, hy11⟩ : ∃ Y, Y = y14.alloc (.cells (vec 3 (irqE (irS 1))) 65) := ⟨_, rfl⟩
   obtain ⟨g11, hg11⟩ : ∃ g, g = y14.heap.size := ⟨_, rfl⟩
   have hd : Below y14.heap.size y14 y11 := by rw [hy11]; exact Below.alloc_own _ _
   have HG6 := Lib.hid (And.intro HG6.out.1 (HG6.out.2.under hd))
   have HG14 := Lib.hid (And.intro HG14.out.1 (HG14.out.2.under hd))
   have HG11 : Hid (w.heap.size ≤ g11 ∧ Arr y11 g11 65 3 (irqE (irS 1))) := Lib.hid ⟨by have := HNE.out; have := (hS14).size; omega, by rw [hy11, hg11]; exact Arr.new _ _ _ _⟩
   have HR8 := Lib.hid (HR8.out.under hd)
   rw [← hy11, ← hg11]
   refine hK11 _ _ (Save.trans hS14 (Save.of_below hd)) (fun hS11 => ?_)
   clear hS14 hd hy11 hg11 hK11 K11
   refine tP 15 (v := .agg (vec 79 (guestE (gvS nm 1 pa key g6 g11 g14)))) (hy := by (intro W hW; rw [HS.out]; exact exec_build 63 _ rfl (vec 79 (guestE (gvS nm 1 pa key g6 g11 g14))) (by kernel_rfl) W)) (h := ?_)
   refine oQ 16 (h := fun K16 hK16 => ?_)
   refine ow_store 63 _ _ rfl _ rfl (.agg (vec 79 (guestE (gvS nm 1 pa key g6 g11 g14)))) rfl (run_store_arr (show Arr y11 r8 63 79 (guestE zGV) from HR8.out) (guestE (gvS nm 1 pa key g6 g11 g14)) infoGu (guestE_one _ ⟨rfl, rfl, rfl, rfl⟩ _)) ?_
   obtain ⟨y16, hy16⟩ : ∃ Y, Y = y11.setRow r8 (vec 79 (guestE (gvS nm 1 pa key g6 g11 g14))) := ⟨_, rfl⟩
   have hsv : Save r8 y11 y16 := by rw [hy16]; exact (Save.refl _ _).setRow _
   have HR16 : Hid (Arr y16 r8 63 79 (guestE (gvS nm 1 pa key g6 g11 g14))) := Lib.hid (by rw [hy16]; exact HR8.out.row _)
   have HM : Hid (GMade w.heap.size y16 1 pa g6 g11 g14 ∧ Below w.heap.size w y16) := Lib.hid ⟨⟨⟨HG6.out.1, HG11.out.1, HG14.out.1⟩, HG6.out.2.save hsv (arr_ne HG6.out.2 HR8.out (by decide)), HG11.out.2.save hsv (arr_ne HG11.out.2 HR8.out (by decide)), HG14.out.2.save hsv (arr_ne HG14.out.2 HR8.out (by decide))⟩, HB.out.trans ((Save.trans hS11 hsv).below HNE.out.2.1 HNE.out.2.2.1)⟩
   rw [← hy16]
   refine hK16 _ _ (Save.trans hS11 hsv) (fun hS16 => ?_)
   clear hS11 hsv hy16 hK16 K16
   refine wpAnyH_done (by kernel_rfl) ?_ _
   clear hS16
   go_wp2_with fail
   refine bodyPost_ret (results_cell1 rfl _ _ _ rfl (run_load_arr HR16.out Tryz.underlying63 rfl infoGu)) rfl ?_
   exact HP.out _ _ _ _ HM.out.1 HM.out.2
 case hjt68 =>
  refine kow_bs1 60 _ rfl (.agg (vec 3 (irqE (irS 1)))) rfl (build_irq (irS 1) Y0) ?_
  obtain ⟨y11, hy11⟩ : ∃ Y, Y = Y0.alloc (.cells (vec 3 (irqE (irS 1))) 65) := ⟨_, rfl⟩
  obtain ⟨g11, hg11⟩ : ∃ g, g = Y0.heap.size := ⟨_, rfl⟩
  have hd : Below Y0.heap.size Y0 y11 := by rw [hy11]; exact Below.alloc_own _ _
  have HG11 : Hid (w.heap.size ≤ g11 ∧ Arr y11 g11 65 3 (irqE (irS 1))) := Lib.hid ⟨by have := HNE.out; have := (hS).size; omega, by rw [hy11, hg11]; exact Arr.new _ _ _ _⟩
  have HR8 := Lib.hid (HR8.out.under hd)
  rw [← hy11, ← hg11]
  refine hK11 _ _ (Save.trans hS (Save.of_below hd)) (fun hS11 => ?_)
  clear hS hd hy11 hg11 hK11 K11
  refine wQ 6 14 (h1 := fun K6 hK6 => ?hit60) (h2 := fun K14 hK14 => ?hjt60)
  case hit60 =>
   refine kow_bs1 58 _ rfl (.agg (vec 4 (winE (wiS pa)))) rfl (build_window (wiS pa) y11) ?_
   obtain ⟨y6, hy6⟩ : ∃ Y, Y = y11.alloc (.cells (vec 4 (winE (wiS pa))) 67) := ⟨_, rfl⟩
   obtain ⟨g6, hg6⟩ : ∃ g, g = y11.heap.size := ⟨_, rfl⟩
   have hd : Below y11.heap.size y11 y6 := by rw [hy6]; exact Below.alloc_own _ _
   have HG11 := Lib.hid (And.intro HG11.out.1 (HG11.out.2.under hd))
   have HG6 : Hid (w.heap.size ≤ g6 ∧ Arr y6 g6 67 4 (winE (wiS pa))) := Lib.hid ⟨by have := HNE.out; have := (hS11).size; omega, by rw [hy6, hg6]; exact Arr.new _ _ _ _⟩
   have HR8 := Lib.hid (HR8.out.under hd)
   rw [← hy6, ← hg6]
   refine hK6 _ _ (Save.trans hS11 (Save.of_below hd)) (fun hS6 => ?_)
   clear hS11 hd hy6 hg6 hK6 K6
   refine oQ 14 (h := fun K14 hK14 => ?_)
   refine kow_bs1 61 _ rfl (.int .u32 1) rfl (build_num 1 y6) ?_
   obtain ⟨y14, hy14⟩ : ∃ Y, Y = y6.alloc (.cells (vec 1 (numE 1)) 27) := ⟨_, rfl⟩
   obtain ⟨g14, hg14⟩ : ∃ g, g = y6.heap.size := ⟨_, rfl⟩
   have hd : Below y6.heap.size y6 y14 := by rw [hy14]; exact Below.alloc_own _ _
   have HG11 := Lib.hid (And.intro HG11.out.1 (HG11.out.2.under hd))
   have HG6 := Lib.hid (And.intro HG6.out.1 (HG6.out.2.under hd))
   have HG14 : Hid (w.heap.size ≤ g14 ∧ Arr y14 g14 27 1 (numE 1)) := Lib.hid ⟨by have := HNE.out; have := (hS6).size; omega, by rw [hy14, hg14]; exact Arr.new _ _ _ _⟩
   have HR8 := Lib.hid (HR8.out.under hd)
   rw [← hy14, ← hg14]
   refine hK14 _ _ (Save.trans hS6 (Save.of_below hd)) (fun hS14 => ?_)
   clear hS6 hd hy14 hg14 hK14 K14
   refine tP 15 (v := .agg (vec 79 (guestE (gvS nm 1 pa key g6 g11 g14)))) (hy := by (intro W hW; rw [HS.out]; exact exec_build 63 _ rfl (vec 79 (guestE (gvS nm 1 pa key g6 g11 g14))) (by kernel_rfl) W)) (h := ?_)
   refine oQ 16 (h := fun K16 hK16 => ?_)
   refine ow_store 63 _ _ rfl _ rfl (.agg (vec 79 (guestE (gvS nm 1 pa key g6 g11 g14)))) rfl (run_store_arr (show Arr y14 r8 63 79 (guestE zGV) from HR8.out) (guestE (gvS nm 1 pa key g6 g11 g14)) infoGu (guestE_one _ ⟨rfl, rfl, rfl, rfl⟩ _)) ?_
   obtain ⟨y16, hy16⟩ : ∃ Y, Y = y14.setRow r8 (vec 79 (guestE (gvS nm 1 pa key g6 g11 g14))) := ⟨_, rfl⟩
   have hsv : Save r8 y14 y16 := by rw [hy16]; exact (Save.refl _ _).setRow _
   have HR16 : Hid (Arr y16 r8 63 79 (guestE (gvS nm 1 pa key g6 g11 g14))) := Lib.hid (by rw [hy16]; exact HR8.out.row _)
   have HM : Hid (GMade w.heap.size y16 1 pa g6 g11 g14 ∧ Below w.heap.size w y16) := Lib.hid ⟨⟨⟨HG6.out.1, HG11.out.1, HG14.out.1⟩, HG6.out.2.save hsv (arr_ne HG6.out.2 HR8.out (by decide)), HG11.out.2.save hsv (arr_ne HG11.out.2 HR8.out (by decide)), HG14.out.2.save hsv (arr_ne HG14.out.2 HR8.out (by decide))⟩, HB.out.trans ((Save.trans hS14 hsv).below HNE.out.2.1 HNE.out.2.2.1)⟩
   rw [← hy16]
   refine hK16 _ _ (Save.trans hS14 hsv) (fun hS16 => ?_)
   clear hS14 hsv hy16 hK16 K16
   refine wpAnyH_done (by kernel_rfl) ?_ _
   clear hS16
   go_wp2_with fail
   refine bodyPost_ret (results_cell1 rfl _ _ _ rfl (run_load_arr HR16.out Tryz.underlying63 rfl infoGu)) rfl ?_
   exact HP.out _ _ _ _ HM.out.1 HM.out.2
  case hjt60 =>
   refine kow_bs1 61 _ rfl (.int .u32 1) rfl (build_num 1 y11) ?_
   obtain ⟨y14, hy14⟩ : ∃ Y, Y = y11.alloc (.cells (vec 1 (numE 1)) 27) := ⟨_, rfl⟩
   obtain ⟨g14, hg14⟩ : ∃ g, g = y11.heap.size := ⟨_, rfl⟩
   have hd : Below y11.heap.size y11 y14 := by rw [hy14]; exact Below.alloc_own _ _
   have HG11 := Lib.hid (And.intro HG11.out.1 (HG11.out.2.under hd))
   have HG14 : Hid (w.heap.size ≤ g14 ∧ Arr y14 g14 27 1 (numE 1)) := Lib.hid ⟨by have := HNE.out; have := (hS11).size; omega, by rw [hy14, hg14]; exact Arr.new _ _ _ _⟩
   have HR8 := Lib.hid (HR8.out.under hd)
   rw [← hy14, ← hg14]
   refine hK14 _ _ (Save.trans hS11 (Save.of_below hd)) (fun hS14 => ?_)
   clear hS11 hd hy14 hg14 hK14 K14
   refine oQ 6 (h := fun K6 hK6 => ?_)
   refine kow_bs1 58 _ rfl (.agg (vec 4 (winE (wiS pa)))) rfl (build_window (wiS pa) y14) ?_
   obtain ⟨y6, hy6⟩ : ∃ Y, Y = y14.alloc (.cells (vec 4 (winE (wiS pa))) 67) := ⟨_, rfl⟩
   obtain ⟨g6, hg6⟩ : ∃ g, g = y14.heap.size := ⟨_, rfl⟩
   have hd : Below y14.heap.size y14 y6 := by rw [hy6]; exact Below.alloc_own _ _
   have HG11 := Lib.hid (And.intro HG11.out.1 (HG11.out.2.under hd))
   have HG14 := Lib.hid (And.intro HG14.out.1 (HG14.out.2.under hd))
   have HG6 : Hid (w.heap.size ≤ g6 ∧ Arr y6 g6 67 4 (winE (wiS pa))) := Lib.hid ⟨by have := HNE.out; have := (hS14).size; omega, by rw [hy6, hg6]; exact Arr.new _ _ _ _⟩
   have HR8 := Lib.hid (HR8.out.under hd)
   rw [← hy6, ← hg6]
   refine hK6 _ _ (Save.trans hS14 (Save.of_below hd)) (fun hS6 => ?_)
   clear hS14 hd hy6 hg6 hK6 K6
   refine tP 15 (v := .agg (vec 79 (guestE (gvS nm 1 pa key g6 g11 g14)))) (hy := by (intro W hW; rw [HS.out]; exact exec_build 63 _ rfl (vec 79 (guestE (gvS nm 1 pa key g6 g11 g14))) (by kernel_rfl) W)) (h := ?_)
   refine oQ 16 (h := fun K16 hK16 => ?_)
   refine ow_store 63 _ _ rfl _ rfl (.agg (vec 79 (guestE (gvS nm 1 pa key g6 g11 g14)))) rfl (run_store_arr (show Arr y6 r8 63 79 (guestE zGV) from HR8.out) (guestE (gvS nm 1 pa key g6 g11 g14)) infoGu (guestE_one _ ⟨rfl, rfl, rfl, rfl⟩ _)) ?_
   obtain ⟨y16, hy16⟩ : ∃ Y, Y = y6.setRow r8 (vec 79 (guestE (gvS nm 1 pa key g6 g11 g14))) := ⟨_, rfl⟩
   have hsv : Save r8 y6 y16 := by rw [hy16]; exact (Save.refl _ _).setRow _
   have HR16 : Hid (Arr y16 r8 63 79 (guestE (gvS nm 1 pa key g6 g11 g14))) := Lib.hid (by rw [hy16]; exact HR8.out.row _)
   have HM : Hid (GMade w.heap.size y16 1 pa g6 g11 g14 ∧ Below w.heap.size w y16) := Lib.hid ⟨⟨⟨HG6.out.1, HG11.out.1, HG14.out.1⟩, HG6.out.2.save hsv (arr_ne HG6.out.2 HR8.out (by decide)), HG11.out.2.save hsv (arr_ne HG11.out.2 HR8.out (by decide)), HG14.out.2.save hsv (arr_ne HG14.out.2 HR8.out (by decide))⟩, HB.out.trans ((Save.trans hS6 hsv).below HNE.out.2.1 HNE.out.2.2.1)⟩
   rw [← hy16]
   refine hK16 _ _ (Save.trans hS6 hsv) (fun hS16 => ?_)
   clear hS6 hsv hy16 hK16 K16
   refine wpAnyH_done (by kernel_rfl) ?_ _
   clear hS16
   go_wp2_with fail
   refine bodyPost_ret (results_cell1 rfl _ _ _ rfl (run_load_arr HR16.out Tryz.underlying63 rfl infoGu)) rfl ?_
   exact HP.out _ _ _ _ HM.out.1 HM.out.2
 case hkt68 =>
  refine kow_bs1 61 _ rfl (.int .u32 1) rfl (build_num 1 Y0) ?_
  obtain ⟨y14, hy14⟩ : ∃ Y, Y = Y0.alloc (.cells (vec 1 (numE 1)) 27) := ⟨_, rfl⟩
  obtain ⟨g14, hg14⟩ : ∃ g, g = Y0.heap.size := ⟨_, rfl⟩
  have hd : Below Y0.heap.size Y0 y14 := by rw [hy14]; exact Below.alloc_own _ _
  have HG14 : Hid (w.heap.size ≤ g14 ∧ Arr y14 g14 27 1 (numE 1)) := Lib.hid ⟨by have := HNE.out; have := (hS).size; omega, by rw [hy14, hg14]; exact Arr.new _ _ _ _⟩
  have HR8 := Lib.hid (HR8.out.under hd)
  rw [← hy14, ← hg14]
  refine hK14 _ _ (Save.trans hS (Save.of_below hd)) (fun hS14 => ?_)
  clear hS hd hy14 hg14 hK14 K14
  refine wQ 6 11 (h1 := fun K6 hK6 => ?hit67) (h2 := fun K11 hK11 => ?hjt67)
  case hit67 =>
   refine kow_bs1 58 _ rfl (.agg (vec 4 (winE (wiS pa)))) rfl (build_window (wiS pa) y14) ?_
   obtain ⟨y6, hy6⟩ : ∃ Y, Y = y14.alloc (.cells (vec 4 (winE (wiS pa))) 67) := ⟨_, rfl⟩
   obtain ⟨g6, hg6⟩ : ∃ g, g = y14.heap.size := ⟨_, rfl⟩
   have hd : Below y14.heap.size y14 y6 := by rw [hy6]; exact Below.alloc_own _ _
   have HG14 := Lib.hid (And.intro HG14.out.1 (HG14.out.2.under hd))
   have HG6 : Hid (w.heap.size ≤ g6 ∧ Arr y6 g6 67 4 (winE (wiS pa))) := Lib.hid ⟨by have := HNE.out; have := (hS14).size; omega, by rw [hy6, hg6]; exact Arr.new _ _ _ _⟩
   have HR8 := Lib.hid (HR8.out.under hd)
   rw [← hy6, ← hg6]
   refine hK6 _ _ (Save.trans hS14 (Save.of_below hd)) (fun hS6 => ?_)
   clear hS14 hd hy6 hg6 hK6 K6
   refine oQ 11 (h := fun K11 hK11 => ?_)
   refine kow_bs1 60 _ rfl (.agg (vec 3 (irqE (irS 1)))) rfl (build_irq (irS 1) y6) ?_
   obtain ⟨y11, hy11⟩ : ∃ Y, Y = y6.alloc (.cells (vec 3 (irqE (irS 1))) 65) := ⟨_, rfl⟩
   obtain ⟨g11, hg11⟩ : ∃ g, g = y6.heap.size := ⟨_, rfl⟩
   have hd : Below y6.heap.size y6 y11 := by rw [hy11]; exact Below.alloc_own _ _
   have HG14 := Lib.hid (And.intro HG14.out.1 (HG14.out.2.under hd))
   have HG6 := Lib.hid (And.intro HG6.out.1 (HG6.out.2.under hd))
   have HG11 : Hid (w.heap.size ≤ g11 ∧ Arr y11 g11 65 3 (irqE (irS 1))) := Lib.hid ⟨by have := HNE.out; have := (hS6).size; omega, by rw [hy11, hg11]; exact Arr.new _ _ _ _⟩
   have HR8 := Lib.hid (HR8.out.under hd)
   rw [← hy11, ← hg11]
   refine hK11 _ _ (Save.trans hS6 (Save.of_below hd)) (fun hS11 => ?_)
   clear hS6 hd hy11 hg11 hK11 K11
   refine tP 15 (v := .agg (vec 79 (guestE (gvS nm 1 pa key g6 g11 g14)))) (hy := by (intro W hW; rw [HS.out]; exact exec_build 63 _ rfl (vec 79 (guestE (gvS nm 1 pa key g6 g11 g14))) (by kernel_rfl) W)) (h := ?_)
   refine oQ 16 (h := fun K16 hK16 => ?_)
   refine ow_store 63 _ _ rfl _ rfl (.agg (vec 79 (guestE (gvS nm 1 pa key g6 g11 g14)))) rfl (run_store_arr (show Arr y11 r8 63 79 (guestE zGV) from HR8.out) (guestE (gvS nm 1 pa key g6 g11 g14)) infoGu (guestE_one _ ⟨rfl, rfl, rfl, rfl⟩ _)) ?_
   obtain ⟨y16, hy16⟩ : ∃ Y, Y = y11.setRow r8 (vec 79 (guestE (gvS nm 1 pa key g6 g11 g14))) := ⟨_, rfl⟩
   have hsv : Save r8 y11 y16 := by rw [hy16]; exact (Save.refl _ _).setRow _
   have HR16 : Hid (Arr y16 r8 63 79 (guestE (gvS nm 1 pa key g6 g11 g14))) := Lib.hid (by rw [hy16]; exact HR8.out.row _)
   have HM : Hid (GMade w.heap.size y16 1 pa g6 g11 g14 ∧ Below w.heap.size w y16) := Lib.hid ⟨⟨⟨HG6.out.1, HG11.out.1, HG14.out.1⟩, HG6.out.2.save hsv (arr_ne HG6.out.2 HR8.out (by decide)), HG11.out.2.save hsv (arr_ne HG11.out.2 HR8.out (by decide)), HG14.out.2.save hsv (arr_ne HG14.out.2 HR8.out (by decide))⟩, HB.out.trans ((Save.trans hS11 hsv).below HNE.out.2.1 HNE.out.2.2.1)⟩
   rw [← hy16]
   refine hK16 _ _ (Save.trans hS11 hsv) (fun hS16 => ?_)
   clear hS11 hsv hy16 hK16 K16
   refine wpAnyH_done (by kernel_rfl) ?_ _
   clear hS16
   go_wp2_with fail
   refine bodyPost_ret (results_cell1 rfl _ _ _ rfl (run_load_arr HR16.out Tryz.underlying63 rfl infoGu)) rfl ?_
   exact HP.out _ _ _ _ HM.out.1 HM.out.2
  case hjt67 =>
   refine kow_bs1 60 _ rfl (.agg (vec 3 (irqE (irS 1)))) rfl (build_irq (irS 1) y14) ?_
   obtain ⟨y11, hy11⟩ : ∃ Y, Y = y14.alloc (.cells (vec 3 (irqE (irS 1))) 65) := ⟨_, rfl⟩
   obtain ⟨g11, hg11⟩ : ∃ g, g = y14.heap.size := ⟨_, rfl⟩
   have hd : Below y14.heap.size y14 y11 := by rw [hy11]; exact Below.alloc_own _ _
   have HG14 := Lib.hid (And.intro HG14.out.1 (HG14.out.2.under hd))
   have HG11 : Hid (w.heap.size ≤ g11 ∧ Arr y11 g11 65 3 (irqE (irS 1))) := Lib.hid ⟨by have := HNE.out; have := (hS14).size; omega, by rw [hy11, hg11]; exact Arr.new _ _ _ _⟩
   have HR8 := Lib.hid (HR8.out.under hd)
   rw [← hy11, ← hg11]
   refine hK11 _ _ (Save.trans hS14 (Save.of_below hd)) (fun hS11 => ?_)
   clear hS14 hd hy11 hg11 hK11 K11
   refine oQ 6 (h := fun K6 hK6 => ?_)
   refine kow_bs1 58 _ rfl (.agg (vec 4 (winE (wiS pa)))) rfl (build_window (wiS pa) y11) ?_
   obtain ⟨y6, hy6⟩ : ∃ Y, Y = y11.alloc (.cells (vec 4 (winE (wiS pa))) 67) := ⟨_, rfl⟩
   obtain ⟨g6, hg6⟩ : ∃ g, g = y11.heap.size := ⟨_, rfl⟩
   have hd : Below y11.heap.size y11 y6 := by rw [hy6]; exact Below.alloc_own _ _
   have HG14 := Lib.hid (And.intro HG14.out.1 (HG14.out.2.under hd))
   have HG11 := Lib.hid (And.intro HG11.out.1 (HG11.out.2.under hd))
   have HG6 : Hid (w.heap.size ≤ g6 ∧ Arr y6 g6 67 4 (winE (wiS pa))) := Lib.hid ⟨by have := HNE.out; have := (hS11).size; omega, by rw [hy6, hg6]; exact Arr.new _ _ _ _⟩
   have HR8 := Lib.hid (HR8.out.under hd)
   rw [← hy6, ← hg6]
   refine hK6 _ _ (Save.trans hS11 (Save.of_below hd)) (fun hS6 => ?_)
   clear hS11 hd hy6 hg6 hK6 K6
   refine tP 15 (v := .agg (vec 79 (guestE (gvS nm 1 pa key g6 g11 g14)))) (hy := by (intro W hW; rw [HS.out]; exact exec_build 63 _ rfl (vec 79 (guestE (gvS nm 1 pa key g6 g11 g14))) (by kernel_rfl) W)) (h := ?_)
   refine oQ 16 (h := fun K16 hK16 => ?_)
   refine ow_store 63 _ _ rfl _ rfl (.agg (vec 79 (guestE (gvS nm 1 pa key g6 g11 g14)))) rfl (run_store_arr (show Arr y6 r8 63 79 (guestE zGV) from HR8.out) (guestE (gvS nm 1 pa key g6 g11 g14)) infoGu (guestE_one _ ⟨rfl, rfl, rfl, rfl⟩ _)) ?_
   obtain ⟨y16, hy16⟩ : ∃ Y, Y = y6.setRow r8 (vec 79 (guestE (gvS nm 1 pa key g6 g11 g14))) := ⟨_, rfl⟩
   have hsv : Save r8 y6 y16 := by rw [hy16]; exact (Save.refl _ _).setRow _
   have HR16 : Hid (Arr y16 r8 63 79 (guestE (gvS nm 1 pa key g6 g11 g14))) := Lib.hid (by rw [hy16]; exact HR8.out.row _)
   have HM : Hid (GMade w.heap.size y16 1 pa g6 g11 g14 ∧ Below w.heap.size w y16) := Lib.hid ⟨⟨⟨HG6.out.1, HG11.out.1, HG14.out.1⟩, HG6.out.2.save hsv (arr_ne HG6.out.2 HR8.out (by decide)), HG11.out.2.save hsv (arr_ne HG11.out.2 HR8.out (by decide)), HG14.out.2.save hsv (arr_ne HG14.out.2 HR8.out (by decide))⟩, HB.out.trans ((Save.trans hS6 hsv).below HNE.out.2.1 HNE.out.2.2.1)⟩
   rw [← hy16]
   refine hK16 _ _ (Save.trans hS6 hsv) (fun hS16 => ?_)
   clear hS6 hsv hy16 hK16 K16
   refine wpAnyH_done (by kernel_rfl) ?_ _
   clear hS16
   go_wp2_with fail
   refine bodyPost_ret (results_cell1 rfl _ _ _ rfl (run_load_arr HR16.out Tryz.underlying63 rfl infoGu)) rfl ?_
   exact HP.out _ _ _ _ HM.out.1 HM.out.2
end Go.Proofs.YtkaipknkjocfiaaGreat
