import Derived.Test.YtkaipknkjocfiaaGreatZa29
namespace Go.Proofs.YtkaipknkjocfiaaGreat
open Go.RowKit Go.Maps
def bS : Bd := ⟨(1073741824, 134217728), (1073741824, 1048576), 64, 8, 4⟩
def zBd : Bd := ⟨(0, 0), (0, 0), 0, 0, 0⟩
def nm0 : By := [111, 110, 101]
def nm1 : By := [116, 119, 111]
def chS (pages : Nat) : Ch := ⟨1107296256, (pages : Int) * 4096, ⟨0, 3, 268435456⟩, ⟨1, 1, 536870912⟩⟩
def xS (pages : Nat) (key : By) : Cf := ⟨1, [gsS nm0 0 1074790400 key, gsS nm1 1 1075838976 key], [chS pages]⟩
theorem zeroBd (w : World) : (zeroValue 26).run Tryz.prog w = .ok (.agg (vec 7 (bdE zBd))) w :=
 (zero_of_info (P := Tryz.prog) (t := 26) (v := .agg (vec 7 (bdE zBd))) (n := 7) (by kernel_rfl)).1 w
attribute [local go_sem ↓ high] zeroSp zeroGu zeroWi zeroIr zeroKeyB zeroCf zeroCh zeroBd
theorem bdE_one (b : Bd) (n : Nat) : ∀ i, i < n → (bdE b i).oneCell' = true := fun i _ => by
 match i with
 | 0 => rfl
 | 1 => rfl
 | 2 => rfl
 | 3 => rfl
 | 4 => rfl
 | 5 => rfl
 | _ + 6 => rfl
theorem GMade.save {B m : Nat} {Y Y' : World} {cpu pa g1 g3 g4 : Nat} (h : GMade B Y cpu pa g1 g3 g4) (hs : Save m Y Y') (hm : m < B) : GMade B Y' cpu pa g1 g3 g4 := by
 have := h.lo
 exact ⟨h.lo, h.w.save hs (by omega), h.i.save hs (by omega), h.s.save hs (by omega)⟩
theorem GMade.low {B B' : Nat} {Y : World} {cpu pa g1 g3 g4 : Nat} (h : GMade B Y cpu pa g1 g3 g4) (hb : B' ≤ B) : GMade B' Y cpu pa g1 g3 g4 := by
 have := h.lo
 exact ⟨by omega, h.w, h.i, h.s⟩
set_option maxRecDepth 100000 in
theorem build_guests2 (x y : GV) (w : World) : (Instr.buildSlice 28 2 #[(0, .agg (vec 79 (guestE x))), (1, .agg (vec 79 (guestE y)))]).run Tryz.prog w = .ok (.slice (some ⟨w.heap.size, 0, none⟩) 2 2) (w.alloc (.cells (cellsE 79 guestE [x, y]).toArray 63)) := by
 obtain ⟨i0, hi, hz0, hz1, hz2⟩ := info_parts info_guest
 refine run_buildSlice (P := Tryz.prog) w 28 63 2 _ _ i0 _ Tryz.underlying28 hi hz0 (by rw [hz1]; decide) (by rw [hz1]; decide) ?_
 rw [hz1]
 kernel_rfl
theorem now_bs2 {o : Oper} {a : Act} {w w' : World} {K : Act → World → Prop} {Q : Exit → Act → World → Prop} (t : TypeId) (x y : Operand) (ho : o.op = .buildSlice t 2 #[(0, x), (1, y)]) (v0 v1 : Value) (hx : a.eval x = v0) (hy : a.eval y = v1) {v : Value}
 (hr : (Instr.buildSlice t 2 #[(0, v0), (1, v1)]).run Tryz.prog w = .ok v w') (h : K (a.put o.dst v) w') : Oper.wp Tryz.prog o a w K Q := kow_bs2 t x y ho v0 v1 hx hy hr h
structure SmallAt (B : Nat) (Y : World) (pages : Nat) (key : By) (gG gC g1 g3 g4 h1 h3 h4 : Nat) : Prop where
 lo : B ≤ gG ∧ B ≤ gC ∧ g1 ≠ h1
 gs : Y.heap[gG]? = some (.cells (cellsE 79 guestE [gvS nm0 0 1074790400 key g1 g3 g4, gvS nm1 1 1075838976 key h1 h3 h4]).toArray 63 (0, 0))
 ch : Arr Y gC 47 8 (chE (chS pages))
 m0 : GMade B Y 0 1074790400 g1 g3 g4
 m1 : GMade B Y 1 1075838976 h1 h3 h4
def SmallC (pages : Nat) (key : By) (w : World) (e : Ending) (w' : World) : Prop := ∃ gG gC g1 g3 g4 h1 h3 h4, e = .returned (.tuple #[.agg (vec 7 (bdE bS)), .agg (vec 3 (cfE 1 (.slice (some ⟨gG, 0, none⟩) 2 2) (.slice (some ⟨gC, 0, none⟩) 1 1)))]) ∧ SmallAt w.heap.size w' pages key gG gC g1 g3 g4 h1 h3 h4 ∧ Below w.heap.size w w'
theorem results_c2 {fn : Func} {p q : Tmp} {ty t1 : TypeId} {P : Program} {w : World} (h : fn.results = #[.cell p ty, .cell q t1]) (tmps : Array Value) (g0 g1 : Nat) (v x : Value)
  (h0 : tmps.getD p undef = .pointer (some ⟨g0, 0, none⟩)) (h1 : tmps.getD q undef = .pointer (some ⟨g1, 0, none⟩))
  (l0 : (loadVar ty ⟨g0, 0, none⟩).run P w = .ok v w) (l1 : (loadVar t1 ⟨g1, 0, none⟩).run P w = .ok x w) : (results fn tmps).run P w = .ok (.tuple #[v, x]) w := by
 have k0 : tmps[p]?.getD undef = .pointer (some ⟨g0, 0, none⟩) := by simpa using h0
 have k1 : tmps[q]?.getD undef = .pointer (some ⟨g1, 0, none⟩) := by simpa using h1
 simp [results, h, k0, k1, asAddr, l0, l1]
set_option maxHeartbeats 16000000 in
set_option maxRecDepth 100000 in
theorem small_any (pages : Nat) (hp : pages ≤ 64) (key : By) (w : World) : Calls Tryz.prog 16 #[.int .u64 (pages : Int), .agg (vec 68 (bys (kF key)))] w (SmallC pages key w) := by
 obtain ⟨r3, hr3⟩ : ∃ r, r = w.heap.size := ⟨_, rfl⟩
 obtain ⟨r4, hr4⟩ : ∃ r, r = w.heap.size + 1 := ⟨_, rfl⟩
 obtain ⟨r5, hr5⟩ : ∃ r, r = w.heap.size + 1 + 1 := ⟨_, rfl⟩
 obtain ⟨r6, hr6⟩ : ∃ r, r = w.heap.size + 3 := ⟨_, rfl⟩
 obtain ⟨r7, hr7⟩ : ∃ r, r = w.heap.size + 4 := ⟨_, rfl⟩
 obtain ⟨V0, hV0⟩ : ∃ V, V = ((w.alloc (.cells (vec 68 (bys (kF key))) 52)).alloc (.cells (vec 7 (bdE zBd)) 26)).alloc (.cells (vec 3 (cfE 0 nilV nilV)) 31) := ⟨_, rfl⟩
 have z0 : V0.heap.size = r6 := by rw [hV0, hr6]; simp
 have b0 : Below w.heap.size w V0 := by rw [hV0]; exact Laid.below ⟨[_, _, _], rfl⟩
 have a3 : Arr V0 r3 52 68 (bys (kF key)) := by rw [hV0, hr3]; exact ((Arr.new w _ _ _).alloc _).alloc _
 have a4 : Arr V0 r4 26 7 (bdE zBd) := by rw [hV0, hr4]; exact (Arr.newAt _ _ _ _ (by simp)).alloc _
 have a5 : Arr V0 r5 31 3 (cfE 0 nilV nilV) := by rw [hV0, hr5]; exact Arr.newAt _ _ _ _ (by simp)
 obtain ⟨V1, hV1⟩ : ∃ V, V = (V0.alloc (.cells (vec 7 (bdE zBd)) 26)).setRow V0.heap.size (vec 7 (bdE bS)) := ⟨_, rfl⟩
 have b1 : Below V0.heap.size V0 V1 := by rw [hV1]; exact below_row ((Below.refl _ _).alloc (Nat.le_refl _) _) (Nat.le_refl _) _
 have a6 : Arr V1 r6 26 7 (bdE bS) := by rw [hV1, ← z0]; exact (Arr.new V0 _ _ _).row _
 have z1 : V1.heap.size = r7 := by rw [hV1]; simp [World.setRow, z0, hr6, hr7]
 obtain ⟨V, hV⟩ : ∃ V, V = (V1.alloc (.cells (vec 8 (chE zCh)) 47)).setRow V1.heap.size (vec 8 (chE (chS pages))) := ⟨_, rfl⟩
 have b2 : Below V1.heap.size V1 V := by rw [hV]; exact below_row ((Below.refl _ _).alloc (Nat.le_refl _) _) (Nat.le_refl _) _
 have a7 : Arr V r7 47 8 (chE (chS pages)) := by rw [hV, ← z1]; exact (Arr.new V1 _ _ _).row _
 have zV : r7 < V.heap.size := a7.lt
 have HSV : Hid (Arr V r3 52 68 (bys (kF key)) ∧ Arr V r6 26 7 (bdE bS) ∧ Arr V r7 47 8 (chE (chS pages))) := Lib.hid ⟨(a3.under b1).under b2, a6.under b2, a7⟩
 have H45 : Hid (Arr V r4 26 7 (bdE zBd) ∧ Arr V r5 31 3 (cfE 0 nilV nilV) ∧ Below w.heap.size w V) := Lib.hid ⟨(a4.under b1).under b2, (a5.under b1).under b2, (b0.trans (b1.mono b0.size)).trans (b2.mono (Nat.le_trans b0.size b1.size))⟩
 have HN : Hid (w.heap.size ≤ r4 ∧ w.heap.size ≤ r5 ∧ r4 < V.heap.size ∧ r5 < V.heap.size ∧ r3 ≠ r4 ∧ r3 ≠ r5 ∧ r6 ≠ r4 ∧ r6 ≠ r5 ∧ r7 ≠ r4 ∧ r7 ≠ r5 ∧ r4 ≠ r5 ∧ w.heap.size ≤ V.heap.size) := Lib.hid (by omega)
 have H0 := Lib.hid (And.intro hV0 (And.intro hr3 (And.intro hr4 hr5)))
 have H1 := Lib.hid (And.intro hV1 z0)
 have H2 := Lib.hid (And.intro hV z1)
 have hwr : IntKind.u64.wrap ((pages : Int) * 4096) = (pages : Int) * 4096 := by simp [IntKind.wrap, IntKind.bits, IntKind.signed]; omega
 have HP : Hid (∀ gG gC g1 g3 g4 h1 h3 h4 Y, SmallAt w.heap.size Y pages key gG gC g1 g3 g4 h1 h3 h4 → Below w.heap.size w Y → SmallC pages key w (.returned (.tuple #[.agg (vec 7 (bdE bS)), .agg (vec 3 (cfE 1 (.slice (some ⟨gG, 0, none⟩) 2 2) (.slice (some ⟨gC, 0, none⟩) 1 1)))])) Y) := Lib.hid fun gG gC g1 g3 g4 h1 h3 h4 Y k1 k2 => ⟨gG, gC, g1, g3, g4, h1, h3, h4, rfl, k1, k2⟩
 have HG0 : Hid (∀ Y, Calls Tryz.prog 35 #[.string (strOf nm0), .int .i64 0, .int .u64 ((1074790400 : Nat) : Int), .agg (vec 68 (bys (kF key)))] Y (GuestC nm0 0 1074790400 key Y)) := Lib.hid fun Y => guestK_0 nm0 1074790400 key Y
 have HG1 : Hid (∀ Y, Calls Tryz.prog 35 #[.string (strOf nm1), .int .i64 1, .int .u64 ((1075838976 : Nat) : Int), .agg (vec 68 (bys (kF key)))] Y (GuestC nm1 1 1075838976 key Y)) := Lib.hid fun Y => guestK_1 nm1 1075838976 key Y
 obtain ⟨Q, hQ⟩ : ∃ Q, Q = SmallC pages key w := ⟨_, rfl⟩
 rw [← hQ] at HP ⊢
 clear hr3 hr4 hr5 hr6 hr7 hV0 z0 b0 a3 a4 a5 hV1 b1 a6 z1 hV b2 a7 zV hp hQ
 go_enter Tryz.func16, Tryz.ntmps16
 go_upto_region 1 with fail
 rw [← H0.out.1, ← H0.out.2.2.2, ← H0.out.2.2.1, ← H0.out.2.1]
 clear H0
 go_upto_region 2 with (first
  | ((with_reducible show wpList _ _ _ (Oper.mk _ (.build 26 _) _ _ _ _ :: _) _ _); refine wl_build rfl 26 _ rfl (vec 7 (bdE bS)) (by kernel_rfl) ?_)
  | ((with_reducible show wpList _ _ _ (Oper.mk _ (.store 26 _ _) _ _ _ _ :: _) _ _); refine wl_store rfl 26 _ _ rfl _ rfl _ rfl (run_store_arr (Arr.new V0 _ _ _) (bdE bS) infoBd (bdE_one _ _)) ?_))
 rw [← H1.out.1, H1.out.2]
 clear H1
 go_upto_region 3 with (first
  | ((with_reducible show wpList _ _ _ (Oper.mk _ (.build 47 _) _ _ _ _ :: _) _ _); refine wl_build rfl 47 _ rfl (vec 8 (chE (chS pages))) (by kernel_rfl) ?_)
  | ((with_reducible show wpList _ _ _ (Oper.mk _ (.store 47 _ _) _ _ _ _ :: _) _ _); refine wl_store rfl 47 _ _ rfl _ rfl _ rfl (run_store_arr (Arr.new V1 _ _ _) (chE (chS pages)) infoCh (chE_one _ _)) ?_))
 rw [← H2.out.1, H2.out.2]
 clear H2 hwr
 refine wp_region_held_drew (S := fun Y => Arr Y r3 52 68 (bys (kF key)) ∧ Arr Y r6 26 7 (bdE bS) ∧ Arr Y r7 47 8 (chE (chS pages))) (by kernel_rfl) (show _ ∧ _ ∧ _ from ⟨HSV.out.1.drewN 1, HSV.out.2.1.drewN 1, HSV.out.2.2.drewN 1⟩) (fun hS => ?_)
 obtain ⟨Y0, hY0⟩ : ∃ Y, Y = V.drew := ⟨_, rfl⟩
 rw [← hY0] at hS ⊢
 have H45 : Hid (Arr Y0 r4 26 7 (bdE zBd) ∧ Arr Y0 r5 31 3 (cfE 0 nilV nilV) ∧ Below w.heap.size w Y0) := Lib.hid (by rw [hY0]; exact ⟨H45.out.1.drewN 1, H45.out.2.1.drewN 1, below_drewN H45.out.2.2 1⟩)
 have HSIZE : Hid (V.heap.size ≤ Y0.heap.size) := Lib.hid (by rw [hY0]; exact Nat.le_refl _)
 clear hY0
 refine tP 0 (v := .agg (vec 7 (bdE bS))) (hy := by (intro W hW; exact exec_load 26 _ rfl r6 rfl _ (run_load_arr (hW.2.1) Tryz.underlying26 rfl infoBd))) (h := ?_)
 refine tP 1 (v := .agg (vec 68 (bys (kF key)))) (hy := by (intro W hW; exact exec_load 52 _ rfl r3 rfl _ (run_load_arr hW.1 Tryz.underlying52 rfl info_key))) (h := ?_)
 refine tP 3 (v := .agg (vec 68 (bys (kF key)))) (hy := by (intro W hW; exact exec_load 52 _ rfl r3 rfl _ (run_load_arr hW.1 Tryz.underlying52 rfl info_key))) (h := ?_)
 refine tP 6 (v := .agg (vec 8 (chE (chS pages)))) (hy := by (intro W hW; exact exec_load 47 _ rfl r7 rfl _ (run_load_arr (hW.2.2) Tryz.underlying47 rfl infoCh))) (h := ?_)
 refine wQ 2 7 (h1 := fun K2 hK2 => ?hit45) (h2 := fun K7 hK7 => ?hjt45)
 case hit45 =>
  go_simp
  refine (HG0.out _).mono ?_
  rintro e y2 ⟨g1, g3, g4, rfl, hgm, hd⟩
  have hsz : V.heap.size ≤ Y0.heap.size := HSIZE.out
  have H45 := Lib.hid (show _ ∧ _ ∧ _ from ⟨H45.out.1.under hd, H45.out.2.1.under hd, H45.out.2.2.trans (hd.mono H45.out.2.2.size)⟩)
  have HM0 := Lib.hid (show GMade V.heap.size y2 0 1074790400 g1 g3 g4 from hgm.low hsz)
  have HSIZE : Hid (V.heap.size ≤ y2.heap.size) := Lib.hid (Nat.le_trans HSIZE.out hd.size)
  refine hK2 _ _ (show _ ∧ _ ∧ _ from ⟨hS.1.under hd, hS.2.1.under hd, hS.2.2.under hd⟩) (fun hS2 => ?_)
  clear hS hd hgm hsz hK2 K2
  refine wQ 4 7 (h1 := fun K4 hK4 => ?hit35) (h2 := fun K7 hK7 => ?hjt35)
  case hit35 =>
   have HMPRE := Lib.hid HM0.out
   go_simp
   refine (HG1.out _).mono ?_
   rintro e y4 ⟨h1, h3, h4, rfl, hgm, hd⟩
   have hsz : V.heap.size ≤ y2.heap.size := HSIZE.out
   have HM0 := Lib.hid (show _ from HM0.out.under hd)
   have H45 := Lib.hid (show _ ∧ _ ∧ _ from ⟨H45.out.1.under hd, H45.out.2.1.under hd, H45.out.2.2.trans (hd.mono H45.out.2.2.size)⟩)
   have HM1 := Lib.hid (show GMade V.heap.size y4 1 1075838976 h1 h3 h4 ∧ g1 ≠ h1 from ⟨hgm.low hsz, by have := hgm.lo.1; have := (GMade.w HMPRE.out).lt; omega⟩)
   have HSIZE : Hid (V.heap.size ≤ y4.heap.size) := Lib.hid (Nat.le_trans HSIZE.out hd.size)
   refine hK4 _ _ (show _ ∧ _ ∧ _ from ⟨hS2.1.under hd, hS2.2.1.under hd, hS2.2.2.under hd⟩) (fun hS4 => ?_)
   clear hS2 hd hgm hsz hK4 K4
   clear HMPRE
   refine held_three (i := 5) (j := 7) (k := 9) (oi := ?oit26) (oj := ?ojt26) (ok := ?okt26) (by kernel_rfl) ?ait26 ?ajt26 ?akt26 ?cit26 ?cjt26 ?ckt26 (fun K5 hK5 => ?hit26) (fun K7 hK7 => ?hjt26) (fun K9 hK9 => ?hkt26)
   (case ait26 => (simp only [List.getElem?_toArray, List.getElem?_cons_zero, List.getElem?_cons_succ]; rfl))
   (case ajt26 => (simp only [List.getElem?_toArray, List.getElem?_cons_zero, List.getElem?_cons_succ]; rfl))
   (case akt26 => (simp only [List.getElem?_toArray, List.getElem?_cons_zero, List.getElem?_cons_succ]; rfl))
   (case cit26 => kernel_rfl)
   (case cjt26 => kernel_rfl)
   (case ckt26 => kernel_rfl)
   case hit26 =>
    refine now_bs2 28 _ _ rfl (.agg (vec 79 (guestE (gvS nm0 0 1074790400 key g1 g3 g4)))) (.agg (vec 79 (guestE (gvS nm1 1 1075838976 key h1 h3 h4)))) rfl rfl (build_guests2 (gvS nm0 0 1074790400 key g1 g3 g4) (gvS nm1 1 1075838976 key h1 h3 h4) y4) ?_
    obtain ⟨y5, hy5⟩ : ∃ Y, Y = y4.alloc (.cells (cellsE 79 guestE [(gvS nm0 0 1074790400 key g1 g3 g4), (gvS nm1 1 1075838976 key h1 h3 h4)]).toArray 63) := ⟨_, rfl⟩
    obtain ⟨gG, hg5⟩ : ∃ g, g = y4.heap.size := ⟨_, rfl⟩
    have hd : Below y4.heap.size y4 y5 := by rw [hy5]; exact Below.alloc_own _ _
    have hsz : V.heap.size ≤ y4.heap.size := HSIZE.out
    have HM0 := Lib.hid (show _ from HM0.out.under hd)
    have HM1 := Lib.hid (show _ from (show _ ∧ _ from ⟨HM1.out.1.under hd, HM1.out.2⟩))
    have H45 := Lib.hid (show _ ∧ _ ∧ _ from ⟨H45.out.1.under hd, H45.out.2.1.under hd, H45.out.2.2.trans (hd.mono H45.out.2.2.size)⟩)
    have HGG : Hid (V.heap.size ≤ gG ∧ y5.heap[gG]? = some (.cells (cellsE 79 guestE [(gvS nm0 0 1074790400 key g1 g3 g4), (gvS nm1 1 1075838976 key h1 h3 h4)]).toArray 63 (0, 0))) := Lib.hid ⟨by omega, by rw [hy5, hg5]; exact heap_alloc_new _ _⟩
    have HSIZE : Hid (V.heap.size ≤ y5.heap.size) := Lib.hid (Nat.le_trans HSIZE.out hd.size)
    rw [← hy5, ← hg5]
    refine hK5 _ _ (show _ ∧ _ ∧ _ from ⟨hS4.1.under hd, hS4.2.1.under hd, hS4.2.2.under hd⟩) (fun hS5 => ?_)
    clear hS4 hd hsz hy5 hg5 hK5 K5
    refine wQ 7 9 (h1 := fun K7 hK7 => ?hit11) (h2 := fun K9 hK9 => ?hjt11)
    case hit11 =>
     refine kow_bs1 29 _ rfl (.agg (vec 8 (chE (chS pages)))) rfl (build_channel (chS pages) y5) ?_
     obtain ⟨y7, hy7⟩ : ∃ Y, Y = y5.alloc (.cells (vec 8 (chE (chS pages))) 47) := ⟨_, rfl⟩
     obtain ⟨gC, hg7⟩ : ∃ g, g = y5.heap.size := ⟨_, rfl⟩
     have hd : Below y5.heap.size y5 y7 := by rw [hy7]; exact Below.alloc_own _ _
     have hsz : V.heap.size ≤ y5.heap.size := HSIZE.out
     have HM0 := Lib.hid (show _ from HM0.out.under hd)
     have HM1 := Lib.hid (show _ from (show _ ∧ _ from ⟨HM1.out.1.under hd, HM1.out.2⟩))
     have HGG := Lib.hid (show _ from (show _ ∧ _ from ⟨HGG.out.1, (hd.block _ (lt_of_heap HGG.out.2)).trans HGG.out.2⟩))
     have H45 := Lib.hid (show _ ∧ _ ∧ _ from ⟨H45.out.1.under hd, H45.out.2.1.under hd, H45.out.2.2.trans (hd.mono H45.out.2.2.size)⟩)
     have HGC : Hid (V.heap.size ≤ gC ∧ Arr y7 gC 47 8 (chE (chS pages))) := Lib.hid ⟨by omega, by rw [hy7, hg7]; exact Arr.new _ _ _ _⟩
     have HSIZE : Hid (V.heap.size ≤ y7.heap.size) := Lib.hid (Nat.le_trans HSIZE.out hd.size)
     rw [← hy7, ← hg7]
     refine hK7 _ _ (show _ ∧ _ ∧ _ from ⟨hS5.1.under hd, hS5.2.1.under hd, hS5.2.2.under hd⟩) (fun hS7 => ?_)
     clear hS5 hd hsz hy7 hg7 hK7 K7
     refine tP 8 (v := .agg (vec 3 (cfE 1 (.slice (some ⟨gG, 0, none⟩) 2 2) (.slice (some ⟨gC, 0, none⟩) 1 1)))) (hy := by (intro W hW; exact exec_build 31 _ rfl (vec 3 (cfE 1 (.slice (some ⟨gG, 0, none⟩) 2 2) (.slice (some ⟨gC, 0, none⟩) 1 1))) (by kernel_rfl) W)) (h := ?_)
     refine oQ 9 (h := fun K9 hK9 => ?_)
     refine ow_store 26 _ _ rfl _ rfl (.agg (vec 7 (bdE bS))) rfl (run_store_arr H45.out.1 (bdE bS) infoBd (bdE_one _ _)) ?_
     obtain ⟨y9, hy9⟩ : ∃ Y, Y = y7.setRow r4 (vec 7 (bdE bS)) := ⟨_, rfl⟩
     have hsv : Save r4 y7 y9 := by rw [hy9]; exact (Save.refl _ _).setRow _
     have HM0 := Lib.hid (show _ from HM0.out.save hsv HN.out.2.2.1)
     have HM1 := Lib.hid (show _ from (show _ ∧ _ from ⟨HM1.out.1.save hsv HN.out.2.2.1, HM1.out.2⟩))
     have HGG := Lib.hid (show _ from (show _ ∧ _ from ⟨HGG.out.1, (hsv.block _ (lt_of_heap HGG.out.2) (by have := HGG.out.1; have := HN.out.2.2.1; omega)).trans HGG.out.2⟩))
     have HGC := Lib.hid (show _ from (show _ ∧ _ from ⟨HGC.out.1, HGC.out.2.save hsv (by have := HGC.out.1; have := HN.out.2.2.1; omega)⟩))
     have H45 : Hid (Arr y9 r4 26 7 (bdE bS) ∧ Arr y9 r5 31 3 (cfE 0 nilV nilV) ∧ Below w.heap.size w y9) := Lib.hid ⟨by rw [hy9]; exact H45.out.1.row _, H45.out.2.1.save hsv HN.out.2.2.2.2.2.2.2.2.2.2.1.symm, H45.out.2.2.trans (hsv.below HN.out.1 (H45.out.2.2.size))⟩
     have HSIZE : Hid (V.heap.size ≤ y9.heap.size) := Lib.hid (Nat.le_trans HSIZE.out hsv.size)
     rw [← hy9]
     refine hK9 _ _ (show _ ∧ _ ∧ _ from ⟨hS7.1.save hsv HN.out.2.2.2.2.1, hS7.2.1.save hsv HN.out.2.2.2.2.2.2.1, hS7.2.2.save hsv HN.out.2.2.2.2.2.2.2.2.1⟩) (fun hS9 => ?_)
     clear hS7 hsv hy9 hK9 K9
     refine oQ 10 (h := fun K10 hK10 => ?_)
     refine ow_store 31 _ _ rfl _ rfl (.agg (vec 3 (cfE 1 (.slice (some ⟨gG, 0, none⟩) 2 2) (.slice (some ⟨gC, 0, none⟩) 1 1)))) rfl (run_store_arr H45.out.2.1 (cfE 1 (.slice (some ⟨gG, 0, none⟩) 2 2) (.slice (some ⟨gC, 0, none⟩) 1 1)) infoCf (cfE_one _ _ _ rfl rfl _)) ?_
     obtain ⟨y10, hy10⟩ : ∃ Y, Y = y9.setRow r5 (vec 3 (cfE 1 (.slice (some ⟨gG, 0, none⟩) 2 2) (.slice (some ⟨gC, 0, none⟩) 1 1))) := ⟨_, rfl⟩
     have hsv : Save r5 y9 y10 := by rw [hy10]; exact (Save.refl _ _).setRow _
     have HM0 := Lib.hid (show _ from HM0.out.save hsv HN.out.2.2.2.1)
     have HM1 := Lib.hid (show _ from (show _ ∧ _ from ⟨HM1.out.1.save hsv HN.out.2.2.2.1, HM1.out.2⟩))
     have HGG := Lib.hid (show _ from (show _ ∧ _ from ⟨HGG.out.1, (hsv.block _ (lt_of_heap HGG.out.2) (by have := HGG.out.1; have := HN.out.2.2.2.1; omega)).trans HGG.out.2⟩))
     have HGC := Lib.hid (show _ from (show _ ∧ _ from ⟨HGC.out.1, HGC.out.2.save hsv (by have := HGC.out.1; have := HN.out.2.2.2.1; omega)⟩))
     have H45 : Hid (Arr y10 r4 26 7 (bdE bS) ∧ Arr y10 r5 31 3 (cfE 1 (.slice (some ⟨gG, 0, none⟩) 2 2) (.slice (some ⟨gC, 0, none⟩) 1 1)) ∧ Below w.heap.size w y10) := Lib.hid ⟨H45.out.1.save hsv HN.out.2.2.2.2.2.2.2.2.2.2.1, by rw [hy10]; exact H45.out.2.1.row _, H45.out.2.2.trans (hsv.below HN.out.2.1 (H45.out.2.2.size))⟩
     have HSIZE : Hid (V.heap.size ≤ y10.heap.size) := Lib.hid (Nat.le_trans HSIZE.out hsv.size)
     rw [← hy10]
     refine hK10 _ _ (show _ ∧ _ ∧ _ from ⟨hS9.1.save hsv HN.out.2.2.2.2.2.1, hS9.2.1.save hsv HN.out.2.2.2.2.2.2.2.1, hS9.2.2.save hsv HN.out.2.2.2.2.2.2.2.2.2.1⟩) (fun hS10 => ?_)
     clear hS9 hsv hy10 hK10 K10
     refine wpAnyH_done (by kernel_rfl) ?_ _
     clear hS10
     go_wp2_with fail
     refine bodyPost_ret (results_c2 rfl _ _ _ _ _ rfl rfl (run_load_arr H45.out.1 Tryz.underlying26 rfl infoBd) (run_load_arr H45.out.2.1 Tryz.underlying31 rfl infoCf)) rfl ?_
     exact HP.out gG gC g1 g3 g4 h1 h3 h4 _ ⟨⟨Nat.le_trans HN.out.2.2.2.2.2.2.2.2.2.2.2 HGG.out.1, Nat.le_trans HN.out.2.2.2.2.2.2.2.2.2.2.2 HGC.out.1, HM1.out.2⟩, HGG.out.2, HGC.out.2, HM0.out.low HN.out.2.2.2.2.2.2.2.2.2.2.2, HM1.out.1.low HN.out.2.2.2.2.2.2.2.2.2.2.2⟩ H45.out.2.2
    case hjt11 =>
     refine ow_store 26 _ _ rfl _ rfl (.agg (vec 7 (bdE bS))) rfl (run_store_arr H45.out.1 (bdE bS) infoBd (bdE_one _ _)) ?_
     obtain ⟨y9, hy9⟩ : ∃ Y, Y = y5.setRow r4 (vec 7 (bdE bS)) := ⟨_, rfl⟩
     have hsv : Save r4 y5 y9 := by rw [hy9]; exact (Save.refl _ _).setRow _
     have HM0 := Lib.hid (show _ from HM0.out.save hsv HN.out.2.2.1)
     have HM1 := Lib.hid (show _ from (show _ ∧ _ from ⟨HM1.out.1.save hsv HN.out.2.2.1, HM1.out.2⟩))
     have HGG := Lib.hid (show _ from (show _ ∧ _ from ⟨HGG.out.1, (hsv.block _ (lt_of_heap HGG.out.2) (by have := HGG.out.1; have := HN.out.2.2.1; omega)).trans HGG.out.2⟩))
     have H45 : Hid (Arr y9 r4 26 7 (bdE bS) ∧ Arr y9 r5 31 3 (cfE 0 nilV nilV) ∧ Below w.heap.size w y9) := Lib.hid ⟨by rw [hy9]; exact H45.out.1.row _, H45.out.2.1.save hsv HN.out.2.2.2.2.2.2.2.2.2.2.1.symm, H45.out.2.2.trans (hsv.below HN.out.1 (H45.out.2.2.size))⟩
     have HSIZE : Hid (V.heap.size ≤ y9.heap.size) := Lib.hid (Nat.le_trans HSIZE.out hsv.size)
     rw [← hy9]
     refine hK9 _ _ (show _ ∧ _ ∧ _ from ⟨hS5.1.save hsv HN.out.2.2.2.2.1, hS5.2.1.save hsv HN.out.2.2.2.2.2.2.1, hS5.2.2.save hsv HN.out.2.2.2.2.2.2.2.2.1⟩) (fun hS9 => ?_)
     clear hS5 hsv hy9 hK9 K9
     refine oQ 7 (h := fun K7 hK7 => ?_)
     refine kow_bs1 29 _ rfl (.agg (vec 8 (chE (chS pages)))) rfl (build_channel (chS pages) y9) ?_
     obtain ⟨y7, hy7⟩ : ∃ Y, Y = y9.alloc (.cells (vec 8 (chE (chS pages))) 47) := ⟨_, rfl⟩
     obtain ⟨gC, hg7⟩ : ∃ g, g = y9.heap.size := ⟨_, rfl⟩
     have hd : Below y9.heap.size y9 y7 := by rw [hy7]; exact Below.alloc_own _ _
     have hsz : V.heap.size ≤ y9.heap.size := HSIZE.out
     have HM0 := Lib.hid (show _ from HM0.out.under hd)
     have HM1 := Lib.hid (show _ from (show _ ∧ _ from ⟨HM1.out.1.under hd, HM1.out.2⟩))
     have HGG := Lib.hid (show _ from (show _ ∧ _ from ⟨HGG.out.1, (hd.block _ (lt_of_heap HGG.out.2)).trans HGG.out.2⟩))
     have H45 := Lib.hid (show _ ∧ _ ∧ _ from ⟨H45.out.1.under hd, H45.out.2.1.under hd, H45.out.2.2.trans (hd.mono H45.out.2.2.size)⟩)
     have HGC : Hid (V.heap.size ≤ gC ∧ Arr y7 gC 47 8 (chE (chS pages))) := Lib.hid ⟨by omega, by rw [hy7, hg7]; exact Arr.new _ _ _ _⟩
     have HSIZE : Hid (V.heap.size ≤ y7.heap.size) := Lib.hid (Nat.le_trans HSIZE.out hd.size)
     rw [← hy7, ← hg7]
     refine hK7 _ _ (show _ ∧ _ ∧ _ from ⟨hS9.1.under hd, hS9.2.1.under hd, hS9.2.2.under hd⟩) (fun hS7 => ?_)
     clear hS9 hd hsz hy7 hg7 hK7 K7
     refine tP 8 (v := .agg (vec 3 (cfE 1 (.slice (some ⟨gG, 0, none⟩) 2 2) (.slice (some ⟨gC, 0, none⟩) 1 1)))) (hy := by (intro W hW; exact exec_build 31 _ rfl (vec 3 (cfE 1 (.slice (some ⟨gG, 0, none⟩) 2 2) (.slice (some ⟨gC, 0, none⟩) 1 1))) (by kernel_rfl) W)) (h := ?_)
     refine oQ 10 (h := fun K10 hK10 => ?_)
     refine ow_store 31 _ _ rfl _ rfl (.agg (vec 3 (cfE 1 (.slice (some ⟨gG, 0, none⟩) 2 2) (.slice (some ⟨gC, 0, none⟩) 1 1)))) rfl (run_store_arr H45.out.2.1 (cfE 1 (.slice (some ⟨gG, 0, none⟩) 2 2) (.slice (some ⟨gC, 0, none⟩) 1 1)) infoCf (cfE_one _ _ _ rfl rfl _)) ?_
     obtain ⟨y10, hy10⟩ : ∃ Y, Y = y7.setRow r5 (vec 3 (cfE 1 (.slice (some ⟨gG, 0, none⟩) 2 2) (.slice (some ⟨gC, 0, none⟩) 1 1))) := ⟨_, rfl⟩
     have hsv : Save r5 y7 y10 := by rw [hy10]; exact (Save.refl _ _).setRow _
     have HM0 := Lib.hid (show _ from HM0.out.save hsv HN.out.2.2.2.1)
     have HM1 := Lib.hid (show _ from (show _ ∧ _ from ⟨HM1.out.1.save hsv HN.out.2.2.2.1, HM1.out.2⟩))
     have HGG := Lib.hid (show _ from (show _ ∧ _ from ⟨HGG.out.1, (hsv.block _ (lt_of_heap HGG.out.2) (by have := HGG.out.1; have := HN.out.2.2.2.1; omega)).trans HGG.out.2⟩))
     have HGC := Lib.hid (show _ from (show _ ∧ _ from ⟨HGC.out.1, HGC.out.2.save hsv (by have := HGC.out.1; have := HN.out.2.2.2.1; omega)⟩))
     have H45 : Hid (Arr y10 r4 26 7 (bdE bS) ∧ Arr y10 r5 31 3 (cfE 1 (.slice (some ⟨gG, 0, none⟩) 2 2) (.slice (some ⟨gC, 0, none⟩) 1 1)) ∧ Below w.heap.size w y10) := Lib.hid ⟨H45.out.1.save hsv HN.out.2.2.2.2.2.2.2.2.2.2.1, by rw [hy10]; exact H45.out.2.1.row _, H45.out.2.2.trans (hsv.below HN.out.2.1 (H45.out.2.2.size))⟩
     have HSIZE : Hid (V.heap.size ≤ y10.heap.size) := Lib.hid (Nat.le_trans HSIZE.out hsv.size)
     rw [← hy10]
     refine hK10 _ _ (show _ ∧ _ ∧ _ from ⟨hS7.1.save hsv HN.out.2.2.2.2.2.1, hS7.2.1.save hsv HN.out.2.2.2.2.2.2.2.1, hS7.2.2.save hsv HN.out.2.2.2.2.2.2.2.2.2.1⟩) (fun hS10 => ?_)
     clear hS7 hsv hy10 hK10 K10
     refine wpAnyH_done (by kernel_rfl) ?_ _
     clear hS10
     go_wp2_with fail
     refine bodyPost_ret (results_c2 rfl _ _ _ _ _ rfl rfl (run_load_arr H45.out.1 Tryz.underlying26 rfl infoBd) (run_load_arr H45.out.2.1 Tryz.underlying31 rfl infoCf)) rfl ?_
     exact HP.out gG gC g1 g3 g4 h1 h3 h4 _ ⟨⟨Nat.le_trans HN.out.2.2.2.2.2.2.2.2.2.2.2 HGG.out.1, Nat.le_trans HN.out.2.2.2.2.2.2.2.2.2.2.2 HGC.out.1, HM1.out.2⟩, HGG.out.2, HGC.out.2, HM0.out.low HN.out.2.2.2.2.2.2.2.2.2.2.2, HM1.out.1.low HN.out.2.2.2.2.2.2.2.2.2.2.2⟩ H45.out.2.2
   case hjt26 =>
    refine kow_bs1 29 _ rfl (.agg (vec 8 (chE (chS pages)))) rfl (build_channel (chS pages) y4) ?_
    obtain ⟨y7, hy7⟩ : ∃ Y, Y = y4.alloc (.cells (vec 8 (chE (chS pages))) 47) := ⟨_, rfl⟩
    obtain ⟨gC, hg7⟩ : ∃ g, g = y4.heap.size := ⟨_, rfl⟩
    have hd : Below y4.heap.size y4 y7 := by rw [hy7]; exact Below.alloc_own _ _
    have hsz : V.heap.size ≤ y4.heap.size := HSIZE.out
    have HM0 := Lib.hid (show _ from HM0.out.under hd)
    have HM1 := Lib.hid (show _ from (show _ ∧ _ from ⟨HM1.out.1.under hd, HM1.out.2⟩))
    have H45 := Lib.hid (show _ ∧ _ ∧ _ from ⟨H45.out.1.under hd, H45.out.2.1.under hd, H45.out.2.2.trans (hd.mono H45.out.2.2.size)⟩)
    have HGC : Hid (V.heap.size ≤ gC ∧ Arr y7 gC 47 8 (chE (chS pages))) := Lib.hid ⟨by omega, by rw [hy7, hg7]; exact Arr.new _ _ _ _⟩
    have HSIZE : Hid (V.heap.size ≤ y7.heap.size) := Lib.hid (Nat.le_trans HSIZE.out hd.size)
    rw [← hy7, ← hg7]
    refine hK7 _ _ (show _ ∧ _ ∧ _ from ⟨hS4.1.under hd, hS4.2.1.under hd, hS4.2.2.under hd⟩) (fun hS7 => ?_)
    clear hS4 hd hsz hy7 hg7 hK7 K7
    refine wQ 5 9 (h1 := fun K5 hK5 => ?hit18) (h2 := fun K9 hK9 => ?hjt18)
    case hit18 =>
     refine now_bs2 28 _ _ rfl (.agg (vec 79 (guestE (gvS nm0 0 1074790400 key g1 g3 g4)))) (.agg (vec 79 (guestE (gvS nm1 1 1075838976 key h1 h3 h4)))) rfl rfl (build_guests2 (gvS nm0 0 1074790400 key g1 g3 g4) (gvS nm1 1 1075838976 key h1 h3 h4) y7) ?_
     obtain ⟨y5, hy5⟩ : ∃ Y, Y = y7.alloc (.cells (cellsE 79 guestE [(gvS nm0 0 1074790400 key g1 g3 g4), (gvS nm1 1 1075838976 key h1 h3 h4)]).toArray 63) := ⟨_, rfl⟩
     obtain ⟨gG, hg5⟩ : ∃ g, g = y7.heap.size := ⟨_, rfl⟩
     have hd : Below y7.heap.size y7 y5 := by rw [hy5]; exact Below.alloc_own _ _
     have hsz : V.heap.size ≤ y7.heap.size := HSIZE.out
     have HM0 := Lib.hid (show _ from HM0.out.under hd)
     have HM1 := Lib.hid (show _ from (show _ ∧ _ from ⟨HM1.out.1.under hd, HM1.out.2⟩))
     have HGC := Lib.hid (show _ from (show _ ∧ _ from ⟨HGC.out.1, HGC.out.2.under hd⟩))
     have H45 := Lib.hid (show _ ∧ _ ∧ _ from ⟨H45.out.1.under hd, H45.out.2.1.under hd, H45.out.2.2.trans (hd.mono H45.out.2.2.size)⟩)
     have HGG : Hid (V.heap.size ≤ gG ∧ y5.heap[gG]? = some (.cells (cellsE 79 guestE [(gvS nm0 0 1074790400 key g1 g3 g4), (gvS nm1 1 1075838976 key h1 h3 h4)]).toArray 63 (0, 0))) := Lib.hid ⟨by omega, by rw [hy5, hg5]; exact heap_alloc_new _ _⟩
     have HSIZE : Hid (V.heap.size ≤ y5.heap.size) := Lib.hid (Nat.le_trans HSIZE.out hd.size)
     rw [← hy5, ← hg5]
     refine hK5 _ _ (show _ ∧ _ ∧ _ from ⟨hS7.1.under hd, hS7.2.1.under hd, hS7.2.2.under hd⟩) (fun hS5 => ?_)
     clear hS7 hd hsz hy5 hg5 hK5 K5
     refine tP 8 (v := .agg (vec 3 (cfE 1 (.slice (some ⟨gG, 0, none⟩) 2 2) (.slice (some ⟨gC, 0, none⟩) 1 1)))) (hy := by (intro W hW; exact exec_build 31 _ rfl (vec 3 (cfE 1 (.slice (some ⟨gG, 0, none⟩) 2 2) (.slice (some ⟨gC, 0, none⟩) 1 1))) (by kernel_rfl) W)) (h := ?_)
     refine oQ 9 (h := fun K9 hK9 => ?_)
     refine ow_store 26 _ _ rfl _ rfl (.agg (vec 7 (bdE bS))) rfl (run_store_arr H45.out.1 (bdE bS) infoBd (bdE_one _ _)) ?_
     obtain ⟨y9, hy9⟩ : ∃ Y, Y = y5.setRow r4 (vec 7 (bdE bS)) := ⟨_, rfl⟩
     have hsv : Save r4 y5 y9 := by rw [hy9]; exact (Save.refl _ _).setRow _
     have HM0 := Lib.hid (show _ from HM0.out.save hsv HN.out.2.2.1)
     have HM1 := Lib.hid (show _ from (show _ ∧ _ from ⟨HM1.out.1.save hsv HN.out.2.2.1, HM1.out.2⟩))
     have HGC := Lib.hid (show _ from (show _ ∧ _ from ⟨HGC.out.1, HGC.out.2.save hsv (by have := HGC.out.1; have := HN.out.2.2.1; omega)⟩))
     have HGG := Lib.hid (show _ from (show _ ∧ _ from ⟨HGG.out.1, (hsv.block _ (lt_of_heap HGG.out.2) (by have := HGG.out.1; have := HN.out.2.2.1; omega)).trans HGG.out.2⟩))
     have H45 : Hid (Arr y9 r4 26 7 (bdE bS) ∧ Arr y9 r5 31 3 (cfE 0 nilV nilV) ∧ Below w.heap.size w y9) := Lib.hid ⟨by rw [hy9]; exact H45.out.1.row _, H45.out.2.1.save hsv HN.out.2.2.2.2.2.2.2.2.2.2.1.symm, H45.out.2.2.trans (hsv.below HN.out.1 (H45.out.2.2.size))⟩
     have HSIZE : Hid (V.heap.size ≤ y9.heap.size) := Lib.hid (Nat.le_trans HSIZE.out hsv.size)
     rw [← hy9]
     refine hK9 _ _ (show _ ∧ _ ∧ _ from ⟨hS5.1.save hsv HN.out.2.2.2.2.1, hS5.2.1.save hsv HN.out.2.2.2.2.2.2.1, hS5.2.2.save hsv HN.out.2.2.2.2.2.2.2.2.1⟩) (fun hS9 => ?_)
     clear hS5 hsv hy9 hK9 K9
     refine oQ 10 (h := fun K10 hK10 => ?_)
     refine ow_store 31 _ _ rfl _ rfl (.agg (vec 3 (cfE 1 (.slice (some ⟨gG, 0, none⟩) 2 2) (.slice (some ⟨gC, 0, none⟩) 1 1)))) rfl (run_store_arr H45.out.2.1 (cfE 1 (.slice (some ⟨gG, 0, none⟩) 2 2) (.slice (some ⟨gC, 0, none⟩) 1 1)) infoCf (cfE_one _ _ _ rfl rfl _)) ?_
     obtain ⟨y10, hy10⟩ : ∃ Y, Y = y9.setRow r5 (vec 3 (cfE 1 (.slice (some ⟨gG, 0, none⟩) 2 2) (.slice (some ⟨gC, 0, none⟩) 1 1))) := ⟨_, rfl⟩
     have hsv : Save r5 y9 y10 := by rw [hy10]; exact (Save.refl _ _).setRow _
     have HM0 := Lib.hid (show _ from HM0.out.save hsv HN.out.2.2.2.1)
     have HM1 := Lib.hid (show _ from (show _ ∧ _ from ⟨HM1.out.1.save hsv HN.out.2.2.2.1, HM1.out.2⟩))
     have HGC := Lib.hid (show _ from (show _ ∧ _ from ⟨HGC.out.1, HGC.out.2.save hsv (by have := HGC.out.1; have := HN.out.2.2.2.1; omega)⟩))
     have HGG := Lib.hid (show _ from (show _ ∧ _ from ⟨HGG.out.1, (hsv.block _ (lt_of_heap HGG.out.2) (by have := HGG.out.1; have := HN.out.2.2.2.1; omega)).trans HGG.out.2⟩))
     have H45 : Hid (Arr y10 r4 26 7 (bdE bS) ∧ Arr y10 r5 31 3 (cfE 1 (.slice (some ⟨gG, 0, none⟩) 2 2) (.slice (some ⟨gC, 0, none⟩) 1 1)) ∧ Below w.heap.size w y10) := Lib.hid ⟨H45.out.1.save hsv HN.out.2.2.2.2.2.2.2.2.2.2.1, by rw [hy10]; exact H45.out.2.1.row _, H45.out.2.2.trans (hsv.below HN.out.2.1 (H45.out.2.2.size))⟩
     have HSIZE : Hid (V.heap.size ≤ y10.heap.size) := Lib.hid (Nat.le_trans HSIZE.out hsv.size)
     rw [← hy10]
     refine hK10 _ _ (show _ ∧ _ ∧ _ from ⟨hS9.1.save hsv HN.out.2.2.2.2.2.1, hS9.2.1.save hsv HN.out.2.2.2.2.2.2.2.1, hS9.2.2.save hsv HN.out.2.2.2.2.2.2.2.2.2.1⟩) (fun hS10 => ?_)
     clear hS9 hsv hy10 hK10 K10
     refine wpAnyH_done (by kernel_rfl) ?_ _
     clear hS10
     go_wp2_with fail
     refine bodyPost_ret (results_c2 rfl _ _ _ _ _ rfl rfl (run_load_arr H45.out.1 Tryz.underlying26 rfl infoBd) (run_load_arr H45.out.2.1 Tryz.underlying31 rfl infoCf)) rfl ?_
     exact HP.out gG gC g1 g3 g4 h1 h3 h4 _ ⟨⟨Nat.le_trans HN.out.2.2.2.2.2.2.2.2.2.2.2 HGG.out.1, Nat.le_trans HN.out.2.2.2.2.2.2.2.2.2.2.2 HGC.out.1, HM1.out.2⟩, HGG.out.2, HGC.out.2, HM0.out.low HN.out.2.2.2.2.2.2.2.2.2.2.2, HM1.out.1.low HN.out.2.2.2.2.2.2.2.2.2.2.2⟩ H45.out.2.2
    case hjt18 =>
     refine ow_store 26 _ _ rfl _ rfl (.agg (vec 7 (bdE bS))) rfl (run_store_arr H45.out.1 (bdE bS) infoBd (bdE_one _ _)) ?_
     obtain ⟨y9, hy9⟩ : ∃ Y, Y = y7.setRow r4 (vec 7 (bdE bS)) := ⟨_, rfl⟩
     have hsv : Save r4 y7 y9 := by rw [hy9]; exact (Save.refl _ _).setRow _
     have HM0 := Lib.hid (show _ from HM0.out.save hsv HN.out.2.2.1)
     have HM1 := Lib.hid (show _ from (show _ ∧ _ from ⟨HM1.out.1.save hsv HN.out.2.2.1, HM1.out.2⟩))
     have HGC := Lib.hid (show _ from (show _ ∧ _ from ⟨HGC.out.1, HGC.out.2.save hsv (by have := HGC.out.1; have := HN.out.2.2.1; omega)⟩))
     have H45 : Hid (Arr y9 r4 26 7 (bdE bS) ∧ Arr y9 r5 31 3 (cfE 0 nilV nilV) ∧ Below w.heap.size w y9) := Lib.hid ⟨by rw [hy9]; exact H45.out.1.row _, H45.out.2.1.save hsv HN.out.2.2.2.2.2.2.2.2.2.2.1.symm, H45.out.2.2.trans (hsv.below HN.out.1 (H45.out.2.2.size))⟩
     have HSIZE : Hid (V.heap.size ≤ y9.heap.size) := Lib.hid (Nat.le_trans HSIZE.out hsv.size)
     rw [← hy9]
     refine hK9 _ _ (show _ ∧ _ ∧ _ from ⟨hS7.1.save hsv HN.out.2.2.2.2.1, hS7.2.1.save hsv HN.out.2.2.2.2.2.2.1, hS7.2.2.save hsv HN.out.2.2.2.2.2.2.2.2.1⟩) (fun hS9 => ?_)
     clear hS7 hsv hy9 hK9 K9
     refine oQ 5 (h := fun K5 hK5 => ?_)
     refine now_bs2 28 _ _ rfl (.agg (vec 79 (guestE (gvS nm0 0 1074790400 key g1 g3 g4)))) (.agg (vec 79 (guestE (gvS nm1 1 1075838976 key h1 h3 h4)))) rfl rfl (build_guests2 (gvS nm0 0 1074790400 key g1 g3 g4) (gvS nm1 1 1075838976 key h1 h3 h4) y9) ?_
     obtain ⟨y5, hy5⟩ : ∃ Y, Y = y9.alloc (.cells (cellsE 79 guestE [(gvS nm0 0 1074790400 key g1 g3 g4), (gvS nm1 1 1075838976 key h1 h3 h4)]).toArray 63) := ⟨_, rfl⟩
     obtain ⟨gG, hg5⟩ : ∃ g, g = y9.heap.size := ⟨_, rfl⟩
     have hd : Below y9.heap.size y9 y5 := by rw [hy5]; exact Below.alloc_own _ _
     have hsz : V.heap.size ≤ y9.heap.size := HSIZE.out
     have HM0 := Lib.hid (show _ from HM0.out.under hd)
     have HM1 := Lib.hid (show _ from (show _ ∧ _ from ⟨HM1.out.1.under hd, HM1.out.2⟩))
     have HGC := Lib.hid (show _ from (show _ ∧ _ from ⟨HGC.out.1, HGC.out.2.under hd⟩))
     have H45 := Lib.hid (show _ ∧ _ ∧ _ from ⟨H45.out.1.under hd, H45.out.2.1.under hd, H45.out.2.2.trans (hd.mono H45.out.2.2.size)⟩)
     have HGG : Hid (V.heap.size ≤ gG ∧ y5.heap[gG]? = some (.cells (cellsE 79 guestE [(gvS nm0 0 1074790400 key g1 g3 g4), (gvS nm1 1 1075838976 key h1 h3 h4)]).toArray 63 (0, 0))) := Lib.hid ⟨by omega, by rw [hy5, hg5]; exact heap_alloc_new _ _⟩
     have HSIZE : Hid (V.heap.size ≤ y5.heap.size) := Lib.hid (Nat.le_trans HSIZE.out hd.size)
     rw [← hy5, ← hg5]
     refine hK5 _ _ (show _ ∧ _ ∧ _ from ⟨hS9.1.under hd, hS9.2.1.under hd, hS9.2.2.under hd⟩) (fun hS5 => ?_)
     clear hS9 hd hsz hy5 hg5 hK5 K5
     refine tP 8 (v := .agg (vec 3 (cfE 1 (.slice (some ⟨gG, 0, none⟩) 2 2) (.slice (some ⟨gC, 0, none⟩) 1 1)))) (hy := by (intro W hW; exact exec_build 31 _ rfl (vec 3 (cfE 1 (.slice (some ⟨gG, 0, none⟩) 2 2) (.slice (some ⟨gC, 0, none⟩) 1 1))) (by kernel_rfl) W)) (h := ?_)
     refine oQ 10 (h := fun K10 hK10 => ?_)
     refine ow_store 31 _ _ rfl _ rfl (.agg (vec 3 (cfE 1 (.slice (some ⟨gG, 0, none⟩) 2 2) (.slice (some ⟨gC, 0, none⟩) 1 1)))) rfl (run_store_arr H45.out.2.1 (cfE 1 (.slice (some ⟨gG, 0, none⟩) 2 2) (.slice (some ⟨gC, 0, none⟩) 1 1)) infoCf (cfE_one _ _ _ rfl rfl _)) ?_
     obtain ⟨y10, hy10⟩ : ∃ Y, Y = y5.setRow r5 (vec 3 (cfE 1 (.slice (some ⟨gG, 0, none⟩) 2 2) (.slice (some ⟨gC, 0, none⟩) 1 1))) := ⟨_, rfl⟩
     have hsv : Save r5 y5 y10 := by rw [hy10]; exact (Save.refl _ _).setRow _
     have HM0 := Lib.hid (show _ from HM0.out.save hsv HN.out.2.2.2.1)
     have HM1 := Lib.hid (show _ from (show _ ∧ _ from ⟨HM1.out.1.save hsv HN.out.2.2.2.1, HM1.out.2⟩))
     have HGC := Lib.hid (show _ from (show _ ∧ _ from ⟨HGC.out.1, HGC.out.2.save hsv (by have := HGC.out.1; have := HN.out.2.2.2.1; omega)⟩))
     have HGG := Lib.hid (show _ from (show _ ∧ _ from ⟨HGG.out.1, (hsv.block _ (lt_of_heap HGG.out.2) (by have := HGG.out.1; have := HN.out.2.2.2.1; omega)).trans HGG.out.2⟩))
     have H45 : Hid (Arr y10 r4 26 7 (bdE bS) ∧ Arr y10 r5 31 3 (cfE 1 (.slice (some ⟨gG, 0, none⟩) 2 2) (.slice (some ⟨gC, 0, none⟩) 1 1)) ∧ Below w.heap.size w y10) := Lib.hid ⟨H45.out.1.save hsv HN.out.2.2.2.2.2.2.2.2.2.2.1, by rw [hy10]; exact H45.out.2.1.row _, H45.out.2.2.trans (hsv.below HN.out.2.1 (H45.out.2.2.size))⟩
     have HSIZE : Hid (V.heap.size ≤ y10.heap.size) := Lib.hid (Nat.le_trans HSIZE.out hsv.size)
     rw [← hy10]
     refine hK10 _ _ (show _ ∧ _ ∧ _ from ⟨hS5.1.save hsv HN.out.2.2.2.2.2.1, hS5.2.1.save hsv HN.out.2.2.2.2.2.2.2.1, hS5.2.2.save hsv HN.out.2.2.2.2.2.2.2.2.2.1⟩) (fun hS10 => ?_)
     clear hS5 hsv hy10 hK10 K10
     refine wpAnyH_done (by kernel_rfl) ?_ _
     clear hS10
     go_wp2_with fail
     refine bodyPost_ret (results_c2 rfl _ _ _ _ _ rfl rfl (run_load_arr H45.out.1 Tryz.underlying26 rfl infoBd) (run_load_arr H45.out.2.1 Tryz.underlying31 rfl infoCf)) rfl ?_
     exact HP.out gG gC g1 g3 g4 h1 h3 h4 _ ⟨⟨Nat.le_trans HN.out.2.2.2.2.2.2.2.2.2.2.2 HGG.out.1, Nat.le_trans HN.out.2.2.2.2.2.2.2.2.2.2.2 HGC.out.1, HM1.out.2⟩, HGG.out.2, HGC.out.2, HM0.out.low HN.out.2.2.2.2.2.2.2.2.2.2.2, HM1.out.1.low HN.out.2.2.2.2.2.2.2.2.2.2.2⟩ H45.out.2.2
   case hkt26 =>
    refine ow_store 26 _ _ rfl _ rfl (.agg (vec 7 (bdE bS))) rfl (run_store_arr H45.out.1 (bdE bS) infoBd (bdE_one _ _)) ?_
    obtain ⟨y9, hy9⟩ : ∃ Y, Y = y4.setRow r4 (vec 7 (bdE bS)) := ⟨_, rfl⟩
    have hsv : Save r4 y4 y9 := by rw [hy9]; exact (Save.refl _ _).setRow _
    have HM0 := Lib.hid (show _ from HM0.out.save hsv HN.out.2.2.1)
    have HM1 := Lib.hid (show _ from (show _ ∧ _ from ⟨HM1.out.1.save hsv HN.out.2.2.1, HM1.out.2⟩))
    have H45 : Hid (Arr y9 r4 26 7 (bdE bS) ∧ Arr y9 r5 31 3 (cfE 0 nilV nilV) ∧ Below w.heap.size w y9) := Lib.hid ⟨by rw [hy9]; exact H45.out.1.row _, H45.out.2.1.save hsv HN.out.2.2.2.2.2.2.2.2.2.2.1.symm, H45.out.2.2.trans (hsv.below HN.out.1 (H45.out.2.2.size))⟩
    have HSIZE : Hid (V.heap.size ≤ y9.heap.size) := Lib.hid (Nat.le_trans HSIZE.out hsv.size)
    rw [← hy9]
    refine hK9 _ _ (show _ ∧ _ ∧ _ from ⟨hS4.1.save hsv HN.out.2.2.2.2.1, hS4.2.1.save hsv HN.out.2.2.2.2.2.2.1, hS4.2.2.save hsv HN.out.2.2.2.2.2.2.2.2.1⟩) (fun hS9 => ?_)
    clear hS4 hsv hy9 hK9 K9
    refine wQ 5 7 (h1 := fun K5 hK5 => ?hit25) (h2 := fun K7 hK7 => ?hjt25)
    case hit25 =>
     refine now_bs2 28 _ _ rfl (.agg (vec 79 (guestE (gvS nm0 0 1074790400 key g1 g3 g4)))) (.agg (vec 79 (guestE (gvS nm1 1 1075838976 key h1 h3 h4)))) rfl rfl (build_guests2 (gvS nm0 0 1074790400 key g1 g3 g4) (gvS nm1 1 1075838976 key h1 h3 h4) y9) ?_
     obtain ⟨y5, hy5⟩ : ∃ Y, Y = y9.alloc (.cells (cellsE 79 guestE [(gvS nm0 0 1074790400 key g1 g3 g4), (gvS nm1 1 1075838976 key h1 h3 h4)]).toArray 63) := ⟨_, rfl⟩
     obtain ⟨gG, hg5⟩ : ∃ g, g = y9.heap.size := ⟨_, rfl⟩
     have hd : Below y9.heap.size y9 y5 := by rw [hy5]; exact Below.alloc_own _ _
     have hsz : V.heap.size ≤ y9.heap.size := HSIZE.out
     have HM0 := Lib.hid (show _ from HM0.out.under hd)
     have HM1 := Lib.hid (show _ from (show _ ∧ _ from ⟨HM1.out.1.under hd, HM1.out.2⟩))
     have H45 := Lib.hid (show _ ∧ _ ∧ _ from ⟨H45.out.1.under hd, H45.out.2.1.under hd, H45.out.2.2.trans (hd.mono H45.out.2.2.size)⟩)
     have HGG : Hid (V.heap.size ≤ gG ∧ y5.heap[gG]? = some (.cells (cellsE 79 guestE [(gvS nm0 0 1074790400 key g1 g3 g4), (gvS nm1 1 1075838976 key h1 h3 h4)]).toArray 63 (0, 0))) := Lib.hid ⟨by omega, by rw [hy5, hg5]; exact heap_alloc_new _ _⟩
     have HSIZE : Hid (V.heap.size ≤ y5.heap.size) := Lib.hid (Nat.le_trans HSIZE.out hd.size)
     rw [← hy5, ← hg5]
     refine hK5 _ _ (show _ ∧ _ ∧ _ from ⟨hS9.1.under hd, hS9.2.1.under hd, hS9.2.2.under hd⟩) (fun hS5 => ?_)
     clear hS9 hd hsz hy5 hg5 hK5 K5
     refine oQ 7 (h := fun K7 hK7 => ?_)
     refine kow_bs1 29 _ rfl (.agg (vec 8 (chE (chS pages)))) rfl (build_channel (chS pages) y5) ?_
     obtain ⟨y7, hy7⟩ : ∃ Y, Y = y5.alloc (.cells (vec 8 (chE (chS pages))) 47) := ⟨_, rfl⟩
     obtain ⟨gC, hg7⟩ : ∃ g, g = y5.heap.size := ⟨_, rfl⟩
     have hd : Below y5.heap.size y5 y7 := by rw [hy7]; exact Below.alloc_own _ _
     have hsz : V.heap.size ≤ y5.heap.size := HSIZE.out
     have HM0 := Lib.hid (show _ from HM0.out.under hd)
     have HM1 := Lib.hid (show _ from (show _ ∧ _ from ⟨HM1.out.1.under hd, HM1.out.2⟩))
     have HGG := Lib.hid (show _ from (show _ ∧ _ from ⟨HGG.out.1, (hd.block _ (lt_of_heap HGG.out.2)).trans HGG.out.2⟩))
     have H45 := Lib.hid (show _ ∧ _ ∧ _ from ⟨H45.out.1.under hd, H45.out.2.1.under hd, H45.out.2.2.trans (hd.mono H45.out.2.2.size)⟩)
     have HGC : Hid (V.heap.size ≤ gC ∧ Arr y7 gC 47 8 (chE (chS pages))) := Lib.hid ⟨by omega, by rw [hy7, hg7]; exact Arr.new _ _ _ _⟩
     have HSIZE : Hid (V.heap.size ≤ y7.heap.size) := Lib.hid (Nat.le_trans HSIZE.out hd.size)
     rw [← hy7, ← hg7]
     refine hK7 _ _ (show _ ∧ _ ∧ _ from ⟨hS5.1.under hd, hS5.2.1.under hd, hS5.2.2.under hd⟩) (fun hS7 => ?_)
     clear hS5 hd hsz hy7 hg7 hK7 K7
     refine tP 8 (v := .agg (vec 3 (cfE 1 (.slice (some ⟨gG, 0, none⟩) 2 2) (.slice (some ⟨gC, 0, none⟩) 1 1)))) (hy := by (intro W hW; exact exec_build 31 _ rfl (vec 3 (cfE 1 (.slice (some ⟨gG, 0, none⟩) 2 2) (.slice (some ⟨gC, 0, none⟩) 1 1))) (by kernel_rfl) W)) (h := ?_)
     refine oQ 10 (h := fun K10 hK10 => ?_)
     refine ow_store 31 _ _ rfl _ rfl (.agg (vec 3 (cfE 1 (.slice (some ⟨gG, 0, none⟩) 2 2) (.slice (some ⟨gC, 0, none⟩) 1 1)))) rfl (run_store_arr H45.out.2.1 (cfE 1 (.slice (some ⟨gG, 0, none⟩) 2 2) (.slice (some ⟨gC, 0, none⟩) 1 1)) infoCf (cfE_one _ _ _ rfl rfl _)) ?_
     obtain ⟨y10, hy10⟩ : ∃ Y, Y = y7.setRow r5 (vec 3 (cfE 1 (.slice (some ⟨gG, 0, none⟩) 2 2) (.slice (some ⟨gC, 0, none⟩) 1 1))) := ⟨_, rfl⟩
     have hsv : Save r5 y7 y10 := by rw [hy10]; exact (Save.refl _ _).setRow _
     have HM0 := Lib.hid (show _ from HM0.out.save hsv HN.out.2.2.2.1)
     have HM1 := Lib.hid (show _ from (show _ ∧ _ from ⟨HM1.out.1.save hsv HN.out.2.2.2.1, HM1.out.2⟩))
     have HGG := Lib.hid (show _ from (show _ ∧ _ from ⟨HGG.out.1, (hsv.block _ (lt_of_heap HGG.out.2) (by have := HGG.out.1; have := HN.out.2.2.2.1; omega)).trans HGG.out.2⟩))
     have HGC := Lib.hid (show _ from (show _ ∧ _ from ⟨HGC.out.1, HGC.out.2.save hsv (by have := HGC.out.1; have := HN.out.2.2.2.1; omega)⟩))
     have H45 : Hid (Arr y10 r4 26 7 (bdE bS) ∧ Arr y10 r5 31 3 (cfE 1 (.slice (some ⟨gG, 0, none⟩) 2 2) (.slice (some ⟨gC, 0, none⟩) 1 1)) ∧ Below w.heap.size w y10) := Lib.hid ⟨H45.out.1.save hsv HN.out.2.2.2.2.2.2.2.2.2.2.1, by rw [hy10]; exact H45.out.2.1.row _, H45.out.2.2.trans (hsv.below HN.out.2.1 (H45.out.2.2.size))⟩
     have HSIZE : Hid (V.heap.size ≤ y10.heap.size) := Lib.hid (Nat.le_trans HSIZE.out hsv.size)
     rw [← hy10]
     refine hK10 _ _ (show _ ∧ _ ∧ _ from ⟨hS7.1.save hsv HN.out.2.2.2.2.2.1, hS7.2.1.save hsv HN.out.2.2.2.2.2.2.2.1, hS7.2.2.save hsv HN.out.2.2.2.2.2.2.2.2.2.1⟩) (fun hS10 => ?_)
     clear hS7 hsv hy10 hK10 K10
     refine wpAnyH_done (by kernel_rfl) ?_ _
     clear hS10
     go_wp2_with fail
     refine bodyPost_ret (results_c2 rfl _ _ _ _ _ rfl rfl (run_load_arr H45.out.1 Tryz.underlying26 rfl infoBd) (run_load_arr H45.out.2.1 Tryz.underlying31 rfl infoCf)) rfl ?_
     exact HP.out gG gC g1 g3 g4 h1 h3 h4 _ ⟨⟨Nat.le_trans HN.out.2.2.2.2.2.2.2.2.2.2.2 HGG.out.1, Nat.le_trans HN.out.2.2.2.2.2.2.2.2.2.2.2 HGC.out.1, HM1.out.2⟩, HGG.out.2, HGC.out.2, HM0.out.low HN.out.2.2.2.2.2.2.2.2.2.2.2, HM1.out.1.low HN.out.2.2.2.2.2.2.2.2.2.2.2⟩ H45.out.2.2
    case hjt25 =>
     refine kow_bs1 29 _ rfl (.agg (vec 8 (chE (chS pages)))) rfl (build_channel (chS pages) y9) ?_
     obtain ⟨y7, hy7⟩ : ∃ Y, Y = y9.alloc (.cells (vec 8 (chE (chS pages))) 47) := ⟨_, rfl⟩
     obtain ⟨gC, hg7⟩ : ∃ g, g = y9.heap.size := ⟨_, rfl⟩
     have hd : Below y9.heap.size y9 y7 := by rw [hy7]; exact Below.alloc_own _ _
     have hsz : V.heap.size ≤ y9.heap.size := HSIZE.out
     have HM0 := Lib.hid (show _ from HM0.out.under hd)
     have HM1 := Lib.hid (show _ from (show _ ∧ _ from ⟨HM1.out.1.under hd, HM1.out.2⟩))
     have H45 := Lib.hid (show _ ∧ _ ∧ _ from ⟨H45.out.1.under hd, H45.out.2.1.under hd, H45.out.2.2.trans (hd.mono H45.out.2.2.size)⟩)
     have HGC : Hid (V.heap.size ≤ gC ∧ Arr y7 gC 47 8 (chE (chS pages))) := Lib.hid ⟨by omega, by rw [hy7, hg7]; exact Arr.new _ _ _ _⟩
     have HSIZE : Hid (V.heap.size ≤ y7.heap.size) := Lib.hid (Nat.le_trans HSIZE.out hd.size)
     rw [← hy7, ← hg7]
     refine hK7 _ _ (show _ ∧ _ ∧ _ from ⟨hS9.1.under hd, hS9.2.1.under hd, hS9.2.2.under hd⟩) (fun hS7 => ?_)
     clear hS9 hd hsz hy7 hg7 hK7 K7
     refine oQ 5 (h := fun K5 hK5 => ?_)
     refine now_bs2 28 _ _ rfl (.agg (vec 79 (guestE (gvS nm0 0 1074790400 key g1 g3 g4)))) (.agg (vec 79 (guestE (gvS nm1 1 1075838976 key h1 h3 h4)))) rfl rfl (build_guests2 (gvS nm0 0 1074790400 key g1 g3 g4) (gvS nm1 1 1075838976 key h1 h3 h4) y7) ?_
     obtain ⟨y5, hy5⟩ : ∃ Y, Y = y7.alloc (.cells (cellsE 79 guestE [(gvS nm0 0 1074790400 key g1 g3 g4), (gvS nm1 1 1075838976 key h1 h3 h4)]).toArray 63) := ⟨_, rfl⟩
     obtain ⟨gG, hg5⟩ : ∃ g, g = y7.heap.size := ⟨_, rfl⟩
     have hd : Below y7.heap.size y7 y5 := by rw [hy5]; exact Below.alloc_own _ _
     have hsz : V.heap.size ≤ y7.heap.size := HSIZE.out
     have HM0 := Lib.hid (show _ from HM0.out.under hd)
     have HM1 := Lib.hid (show _ from (show _ ∧ _ from ⟨HM1.out.1.under hd, HM1.out.2⟩))
     have HGC := Lib.hid (show _ from (show _ ∧ _ from ⟨HGC.out.1, HGC.out.2.under hd⟩))
     have H45 := Lib.hid (show _ ∧ _ ∧ _ from ⟨H45.out.1.under hd, H45.out.2.1.under hd, H45.out.2.2.trans (hd.mono H45.out.2.2.size)⟩)
     have HGG : Hid (V.heap.size ≤ gG ∧ y5.heap[gG]? = some (.cells (cellsE 79 guestE [(gvS nm0 0 1074790400 key g1 g3 g4), (gvS nm1 1 1075838976 key h1 h3 h4)]).toArray 63 (0, 0))) := Lib.hid ⟨by omega, by rw [hy5, hg5]; exact heap_alloc_new _ _⟩
     have HSIZE : Hid (V.heap.size ≤ y5.heap.size) := Lib.hid (Nat.le_trans HSIZE.out hd.size)
     rw [← hy5, ← hg5]
     refine hK5 _ _ (show _ ∧ _ ∧ _ from ⟨hS7.1.under hd, hS7.2.1.under hd, hS7.2.2.under hd⟩) (fun hS5 => ?_)
     clear hS7 hd hsz hy5 hg5 hK5 K5
     refine tP 8 (v := .agg (vec 3 (cfE 1 (.slice (some ⟨gG, 0, none⟩) 2 2) (.slice (some ⟨gC, 0, none⟩) 1 1)))) (hy := by (intro W hW; exact exec_build 31 _ rfl (vec 3 (cfE 1 (.slice (some ⟨gG, 0, none⟩) 2 2) (.slice (some ⟨gC, 0, none⟩) 1 1))) (by kernel_rfl) W)) (h := ?_)
     refine oQ 10 (h := fun K10 hK10 => ?_)
     refine ow_store 31 _ _ rfl _ rfl (.agg (vec 3 (cfE 1 (.slice (some ⟨gG, 0, none⟩) 2 2) (.slice (some ⟨gC, 0, none⟩) 1 1)))) rfl (run_store_arr H45.out.2.1 (cfE 1 (.slice (some ⟨gG, 0, none⟩) 2 2) (.slice (some ⟨gC, 0, none⟩) 1 1)) infoCf (cfE_one _ _ _ rfl rfl _)) ?_
     obtain ⟨y10, hy10⟩ : ∃ Y, Y = y5.setRow r5 (vec 3 (cfE 1 (.slice (some ⟨gG, 0, none⟩) 2 2) (.slice (some ⟨gC, 0, none⟩) 1 1))) := ⟨_, rfl⟩
     have hsv : Save r5 y5 y10 := by rw [hy10]; exact (Save.refl _ _).setRow _
     have HM0 := Lib.hid (show _ from HM0.out.save hsv HN.out.2.2.2.1)
     have HM1 := Lib.hid (show _ from (show _ ∧ _ from ⟨HM1.out.1.save hsv HN.out.2.2.2.1, HM1.out.2⟩))
     have HGC := Lib.hid (show _ from (show _ ∧ _ from ⟨HGC.out.1, HGC.out.2.save hsv (by have := HGC.out.1; have := HN.out.2.2.2.1; omega)⟩))
     have HGG := Lib.hid (show _ from (show _ ∧ _ from ⟨HGG.out.1, (hsv.block _ (lt_of_heap HGG.out.2) (by have := HGG.out.1; have := HN.out.2.2.2.1; omega)).trans HGG.out.2⟩))
     have H45 : Hid (Arr y10 r4 26 7 (bdE bS) ∧ Arr y10 r5 31 3 (cfE 1 (.slice (some ⟨gG, 0, none⟩) 2 2) (.slice (some ⟨gC, 0, none⟩) 1 1)) ∧ Below w.heap.size w y10) := Lib.hid ⟨H45.out.1.save hsv HN.out.2.2.2.2.2.2.2.2.2.2.1, by rw [hy10]; exact H45.out.2.1.row _, H45.out.2.2.trans (hsv.below HN.out.2.1 (H45.out.2.2.size))⟩
     have HSIZE : Hid (V.heap.size ≤ y10.heap.size) := Lib.hid (Nat.le_trans HSIZE.out hsv.size)
     rw [← hy10]
     refine hK10 _ _ (show _ ∧ _ ∧ _ from ⟨hS5.1.save hsv HN.out.2.2.2.2.2.1, hS5.2.1.save hsv HN.out.2.2.2.2.2.2.2.1, hS5.2.2.save hsv HN.out.2.2.2.2.2.2.2.2.2.1⟩) (fun hS10 => ?_)
     clear hS5 hsv hy10 hK10 K10
     refine wpAnyH_done (by kernel_rfl) ?_ _
     clear hS10
     go_wp2_with fail
     refine bodyPost_ret (results_c2 rfl _ _ _ _ _ rfl rfl (run_load_arr H45.out.1 Tryz.underlying26 rfl infoBd) (run_load_arr H45.out.2.1 Tryz.underlying31 rfl infoCf)) rfl ?_
     exact HP.out gG gC g1 g3 g4 h1 h3 h4 _ ⟨⟨Nat.le_trans HN.out.2.2.2.2.2.2.2.2.2.2.2 HGG.out.1, Nat.le_trans HN.out.2.2.2.2.2.2.2.2.2.2.2 HGC.out.1, HM1.out.2⟩, HGG.out.2, HGC.out.2, HM0.out.low HN.out.2.2.2.2.2.2.2.2.2.2.2, HM1.out.1.low HN.out.2.2.2.2.2.2.2.2.2.2.2⟩ H45.out.2.2
  case hjt35 =>
   refine kow_bs1 29 _ rfl (.agg (vec 8 (chE (chS pages)))) rfl (build_channel (chS pages) y2) ?_
   obtain ⟨y7, hy7⟩ : ∃ Y, Y = y2.alloc (.cells (vec 8 (chE (chS pages))) 47) := ⟨_, rfl⟩
   obtain ⟨gC, hg7⟩ : ∃ g, g = y2.heap.size := ⟨_, rfl⟩
   have hd : Below y2.heap.size y2 y7 := by rw [hy7]; exact Below.alloc_own _ _
   have hsz : V.heap.size ≤ y2.heap.size := HSIZE.out
   have HM0 := Lib.hid (show _ from HM0.out.under hd)
   have H45 := Lib.hid (show _ ∧ _ ∧ _ from ⟨H45.out.1.under hd, H45.out.2.1.under hd, H45.out.2.2.trans (hd.mono H45.out.2.2.size)⟩)
   have HGC : Hid (V.heap.size ≤ gC ∧ Arr y7 gC 47 8 (chE (chS pages))) := Lib.hid ⟨by omega, by rw [hy7, hg7]; exact Arr.new _ _ _ _⟩
   have HSIZE : Hid (V.heap.size ≤ y7.heap.size) := Lib.hid (Nat.le_trans HSIZE.out hd.size)
   rw [← hy7, ← hg7]
   refine hK7 _ _ (show _ ∧ _ ∧ _ from ⟨hS2.1.under hd, hS2.2.1.under hd, hS2.2.2.under hd⟩) (fun hS7 => ?_)
   clear hS2 hd hsz hy7 hg7 hK7 K7
   refine oQ 4 (h := fun K4 hK4 => ?_)
   have HMPRE := Lib.hid HM0.out
   go_simp
   refine (HG1.out _).mono ?_
   rintro e y4 ⟨h1, h3, h4, rfl, hgm, hd⟩
   have hsz : V.heap.size ≤ y7.heap.size := HSIZE.out
   have HM0 := Lib.hid (show _ from HM0.out.under hd)
   have HGC := Lib.hid (show _ from (show _ ∧ _ from ⟨HGC.out.1, HGC.out.2.under hd⟩))
   have H45 := Lib.hid (show _ ∧ _ ∧ _ from ⟨H45.out.1.under hd, H45.out.2.1.under hd, H45.out.2.2.trans (hd.mono H45.out.2.2.size)⟩)
   have HM1 := Lib.hid (show GMade V.heap.size y4 1 1075838976 h1 h3 h4 ∧ g1 ≠ h1 from ⟨hgm.low hsz, by have := hgm.lo.1; have := (GMade.w HMPRE.out).lt; omega⟩)
   have HSIZE : Hid (V.heap.size ≤ y4.heap.size) := Lib.hid (Nat.le_trans HSIZE.out hd.size)
   refine hK4 _ _ (show _ ∧ _ ∧ _ from ⟨hS7.1.under hd, hS7.2.1.under hd, hS7.2.2.under hd⟩) (fun hS4 => ?_)
   clear hS7 hd hgm hsz hK4 K4
   clear HMPRE
   refine wQ 5 9 (h1 := fun K5 hK5 => ?hit34) (h2 := fun K9 hK9 => ?hjt34)
   case hit34 =>
    refine now_bs2 28 _ _ rfl (.agg (vec 79 (guestE (gvS nm0 0 1074790400 key g1 g3 g4)))) (.agg (vec 79 (guestE (gvS nm1 1 1075838976 key h1 h3 h4)))) rfl rfl (build_guests2 (gvS nm0 0 1074790400 key g1 g3 g4) (gvS nm1 1 1075838976 key h1 h3 h4) y4) ?_
    obtain ⟨y5, hy5⟩ : ∃ Y, Y = y4.alloc (.cells (cellsE 79 guestE [(gvS nm0 0 1074790400 key g1 g3 g4), (gvS nm1 1 1075838976 key h1 h3 h4)]).toArray 63) := ⟨_, rfl⟩
    obtain ⟨gG, hg5⟩ : ∃ g, g = y4.heap.size := ⟨_, rfl⟩
    have hd : Below y4.heap.size y4 y5 := by rw [hy5]; exact Below.alloc_own _ _
    have hsz : V.heap.size ≤ y4.heap.size := HSIZE.out
    have HM0 := Lib.hid (show _ from HM0.out.under hd)
    have HGC := Lib.hid (show _ from (show _ ∧ _ from ⟨HGC.out.1, HGC.out.2.under hd⟩))
    have HM1 := Lib.hid (show _ from (show _ ∧ _ from ⟨HM1.out.1.under hd, HM1.out.2⟩))
    have H45 := Lib.hid (show _ ∧ _ ∧ _ from ⟨H45.out.1.under hd, H45.out.2.1.under hd, H45.out.2.2.trans (hd.mono H45.out.2.2.size)⟩)
    have HGG : Hid (V.heap.size ≤ gG ∧ y5.heap[gG]? = some (.cells (cellsE 79 guestE [(gvS nm0 0 1074790400 key g1 g3 g4), (gvS nm1 1 1075838976 key h1 h3 h4)]).toArray 63 (0, 0))) := Lib.hid ⟨by omega, by rw [hy5, hg5]; exact heap_alloc_new _ _⟩
    have HSIZE : Hid (V.heap.size ≤ y5.heap.size) := Lib.hid (Nat.le_trans HSIZE.out hd.size)
    rw [← hy5, ← hg5]
    refine hK5 _ _ (show _ ∧ _ ∧ _ from ⟨hS4.1.under hd, hS4.2.1.under hd, hS4.2.2.under hd⟩) (fun hS5 => ?_)
    clear hS4 hd hsz hy5 hg5 hK5 K5
    refine tP 8 (v := .agg (vec 3 (cfE 1 (.slice (some ⟨gG, 0, none⟩) 2 2) (.slice (some ⟨gC, 0, none⟩) 1 1)))) (hy := by (intro W hW; exact exec_build 31 _ rfl (vec 3 (cfE 1 (.slice (some ⟨gG, 0, none⟩) 2 2) (.slice (some ⟨gC, 0, none⟩) 1 1))) (by kernel_rfl) W)) (h := ?_)
    refine oQ 9 (h := fun K9 hK9 => ?_)
    refine ow_store 26 _ _ rfl _ rfl (.agg (vec 7 (bdE bS))) rfl (run_store_arr H45.out.1 (bdE bS) infoBd (bdE_one _ _)) ?_
    obtain ⟨y9, hy9⟩ : ∃ Y, Y = y5.setRow r4 (vec 7 (bdE bS)) := ⟨_, rfl⟩
    have hsv : Save r4 y5 y9 := by rw [hy9]; exact (Save.refl _ _).setRow _
    have HM0 := Lib.hid (show _ from HM0.out.save hsv HN.out.2.2.1)
    have HGC := Lib.hid (show _ from (show _ ∧ _ from ⟨HGC.out.1, HGC.out.2.save hsv (by have := HGC.out.1; have := HN.out.2.2.1; omega)⟩))
    have HM1 := Lib.hid (show _ from (show _ ∧ _ from ⟨HM1.out.1.save hsv HN.out.2.2.1, HM1.out.2⟩))
    have HGG := Lib.hid (show _ from (show _ ∧ _ from ⟨HGG.out.1, (hsv.block _ (lt_of_heap HGG.out.2) (by have := HGG.out.1; have := HN.out.2.2.1; omega)).trans HGG.out.2⟩))
    have H45 : Hid (Arr y9 r4 26 7 (bdE bS) ∧ Arr y9 r5 31 3 (cfE 0 nilV nilV) ∧ Below w.heap.size w y9) := Lib.hid ⟨by rw [hy9]; exact H45.out.1.row _, H45.out.2.1.save hsv HN.out.2.2.2.2.2.2.2.2.2.2.1.symm, H45.out.2.2.trans (hsv.below HN.out.1 (H45.out.2.2.size))⟩
    have HSIZE : Hid (V.heap.size ≤ y9.heap.size) := Lib.hid (Nat.le_trans HSIZE.out hsv.size)
    rw [← hy9]
    refine hK9 _ _ (show _ ∧ _ ∧ _ from ⟨hS5.1.save hsv HN.out.2.2.2.2.1, hS5.2.1.save hsv HN.out.2.2.2.2.2.2.1, hS5.2.2.save hsv HN.out.2.2.2.2.2.2.2.2.1⟩) (fun hS9 => ?_)
    clear hS5 hsv hy9 hK9 K9
    refine oQ 10 (h := fun K10 hK10 => ?_)
    refine ow_store 31 _ _ rfl _ rfl (.agg (vec 3 (cfE 1 (.slice (some ⟨gG, 0, none⟩) 2 2) (.slice (some ⟨gC, 0, none⟩) 1 1)))) rfl (run_store_arr H45.out.2.1 (cfE 1 (.slice (some ⟨gG, 0, none⟩) 2 2) (.slice (some ⟨gC, 0, none⟩) 1 1)) infoCf (cfE_one _ _ _ rfl rfl _)) ?_
    obtain ⟨y10, hy10⟩ : ∃ Y, Y = y9.setRow r5 (vec 3 (cfE 1 (.slice (some ⟨gG, 0, none⟩) 2 2) (.slice (some ⟨gC, 0, none⟩) 1 1))) := ⟨_, rfl⟩
    have hsv : Save r5 y9 y10 := by rw [hy10]; exact (Save.refl _ _).setRow _
    have HM0 := Lib.hid (show _ from HM0.out.save hsv HN.out.2.2.2.1)
    have HGC := Lib.hid (show _ from (show _ ∧ _ from ⟨HGC.out.1, HGC.out.2.save hsv (by have := HGC.out.1; have := HN.out.2.2.2.1; omega)⟩))
    have HM1 := Lib.hid (show _ from (show _ ∧ _ from ⟨HM1.out.1.save hsv HN.out.2.2.2.1, HM1.out.2⟩))
    have HGG := Lib.hid (show _ from (show _ ∧ _ from ⟨HGG.out.1, (hsv.block _ (lt_of_heap HGG.out.2) (by have := HGG.out.1; have := HN.out.2.2.2.1; omega)).trans HGG.out.2⟩))
    have H45 : Hid (Arr y10 r4 26 7 (bdE bS) ∧ Arr y10 r5 31 3 (cfE 1 (.slice (some ⟨gG, 0, none⟩) 2 2) (.slice (some ⟨gC, 0, none⟩) 1 1)) ∧ Below w.heap.size w y10) := Lib.hid ⟨H45.out.1.save hsv HN.out.2.2.2.2.2.2.2.2.2.2.1, by rw [hy10]; exact H45.out.2.1.row _, H45.out.2.2.trans (hsv.below HN.out.2.1 (H45.out.2.2.size))⟩
    have HSIZE : Hid (V.heap.size ≤ y10.heap.size) := Lib.hid (Nat.le_trans HSIZE.out hsv.size)
    rw [← hy10]
    refine hK10 _ _ (show _ ∧ _ ∧ _ from ⟨hS9.1.save hsv HN.out.2.2.2.2.2.1, hS9.2.1.save hsv HN.out.2.2.2.2.2.2.2.1, hS9.2.2.save hsv HN.out.2.2.2.2.2.2.2.2.2.1⟩) (fun hS10 => ?_)
    clear hS9 hsv hy10 hK10 K10
    refine wpAnyH_done (by kernel_rfl) ?_ _
    clear hS10
    go_wp2_with fail
    refine bodyPost_ret (results_c2 rfl _ _ _ _ _ rfl rfl (run_load_arr H45.out.1 Tryz.underlying26 rfl infoBd) (run_load_arr H45.out.2.1 Tryz.underlying31 rfl infoCf)) rfl ?_
    exact HP.out gG gC g1 g3 g4 h1 h3 h4 _ ⟨⟨Nat.le_trans HN.out.2.2.2.2.2.2.2.2.2.2.2 HGG.out.1, Nat.le_trans HN.out.2.2.2.2.2.2.2.2.2.2.2 HGC.out.1, HM1.out.2⟩, HGG.out.2, HGC.out.2, HM0.out.low HN.out.2.2.2.2.2.2.2.2.2.2.2, HM1.out.1.low HN.out.2.2.2.2.2.2.2.2.2.2.2⟩ H45.out.2.2
   case hjt34 =>
    refine ow_store 26 _ _ rfl _ rfl (.agg (vec 7 (bdE bS))) rfl (run_store_arr H45.out.1 (bdE bS) infoBd (bdE_one _ _)) ?_
    obtain ⟨y9, hy9⟩ : ∃ Y, Y = y4.setRow r4 (vec 7 (bdE bS)) := ⟨_, rfl⟩
    have hsv : Save r4 y4 y9 := by rw [hy9]; exact (Save.refl _ _).setRow _
    have HM0 := Lib.hid (show _ from HM0.out.save hsv HN.out.2.2.1)
    have HGC := Lib.hid (show _ from (show _ ∧ _ from ⟨HGC.out.1, HGC.out.2.save hsv (by have := HGC.out.1; have := HN.out.2.2.1; omega)⟩))
    have HM1 := Lib.hid (show _ from (show _ ∧ _ from ⟨HM1.out.1.save hsv HN.out.2.2.1, HM1.out.2⟩))
    have H45 : Hid (Arr y9 r4 26 7 (bdE bS) ∧ Arr y9 r5 31 3 (cfE 0 nilV nilV) ∧ Below w.heap.size w y9) := Lib.hid ⟨by rw [hy9]; exact H45.out.1.row _, H45.out.2.1.save hsv HN.out.2.2.2.2.2.2.2.2.2.2.1.symm, H45.out.2.2.trans (hsv.below HN.out.1 (H45.out.2.2.size))⟩
    have HSIZE : Hid (V.heap.size ≤ y9.heap.size) := Lib.hid (Nat.le_trans HSIZE.out hsv.size)
    rw [← hy9]
    refine hK9 _ _ (show _ ∧ _ ∧ _ from ⟨hS4.1.save hsv HN.out.2.2.2.2.1, hS4.2.1.save hsv HN.out.2.2.2.2.2.2.1, hS4.2.2.save hsv HN.out.2.2.2.2.2.2.2.2.1⟩) (fun hS9 => ?_)
    clear hS4 hsv hy9 hK9 K9
    refine oQ 5 (h := fun K5 hK5 => ?_)
    refine now_bs2 28 _ _ rfl (.agg (vec 79 (guestE (gvS nm0 0 1074790400 key g1 g3 g4)))) (.agg (vec 79 (guestE (gvS nm1 1 1075838976 key h1 h3 h4)))) rfl rfl (build_guests2 (gvS nm0 0 1074790400 key g1 g3 g4) (gvS nm1 1 1075838976 key h1 h3 h4) y9) ?_
    obtain ⟨y5, hy5⟩ : ∃ Y, Y = y9.alloc (.cells (cellsE 79 guestE [(gvS nm0 0 1074790400 key g1 g3 g4), (gvS nm1 1 1075838976 key h1 h3 h4)]).toArray 63) := ⟨_, rfl⟩
    obtain ⟨gG, hg5⟩ : ∃ g, g = y9.heap.size := ⟨_, rfl⟩
    have hd : Below y9.heap.size y9 y5 := by rw [hy5]; exact Below.alloc_own _ _
    have hsz : V.heap.size ≤ y9.heap.size := HSIZE.out
    have HM0 := Lib.hid (show _ from HM0.out.under hd)
    have HGC := Lib.hid (show _ from (show _ ∧ _ from ⟨HGC.out.1, HGC.out.2.under hd⟩))
    have HM1 := Lib.hid (show _ from (show _ ∧ _ from ⟨HM1.out.1.under hd, HM1.out.2⟩))
    have H45 := Lib.hid (show _ ∧ _ ∧ _ from ⟨H45.out.1.under hd, H45.out.2.1.under hd, H45.out.2.2.trans (hd.mono H45.out.2.2.size)⟩)
    have HGG : Hid (V.heap.size ≤ gG ∧ y5.heap[gG]? = some (.cells (cellsE 79 guestE [(gvS nm0 0 1074790400 key g1 g3 g4), (gvS nm1 1 1075838976 key h1 h3 h4)]).toArray 63 (0, 0))) := Lib.hid ⟨by omega, by rw [hy5, hg5]; exact heap_alloc_new _ _⟩
    have HSIZE : Hid (V.heap.size ≤ y5.heap.size) := Lib.hid (Nat.le_trans HSIZE.out hd.size)
    rw [← hy5, ← hg5]
    refine hK5 _ _ (show _ ∧ _ ∧ _ from ⟨hS9.1.under hd, hS9.2.1.under hd, hS9.2.2.under hd⟩) (fun hS5 => ?_)
    clear hS9 hd hsz hy5 hg5 hK5 K5
    refine tP 8 (v := .agg (vec 3 (cfE 1 (.slice (some ⟨gG, 0, none⟩) 2 2) (.slice (some ⟨gC, 0, none⟩) 1 1)))) (hy := by (intro W hW; exact exec_build 31 _ rfl (vec 3 (cfE 1 (.slice (some ⟨gG, 0, none⟩) 2 2) (.slice (some ⟨gC, 0, none⟩) 1 1))) (by kernel_rfl) W)) (h := ?_)
    refine oQ 10 (h := fun K10 hK10 => ?_)
    refine ow_store 31 _ _ rfl _ rfl (.agg (vec 3 (cfE 1 (.slice (some ⟨gG, 0, none⟩) 2 2) (.slice (some ⟨gC, 0, none⟩) 1 1)))) rfl (run_store_arr H45.out.2.1 (cfE 1 (.slice (some ⟨gG, 0, none⟩) 2 2) (.slice (some ⟨gC, 0, none⟩) 1 1)) infoCf (cfE_one _ _ _ rfl rfl _)) ?_
    obtain ⟨y10, hy10⟩ : ∃ Y, Y = y5.setRow r5 (vec 3 (cfE 1 (.slice (some ⟨gG, 0, none⟩) 2 2) (.slice (some ⟨gC, 0, none⟩) 1 1))) := ⟨_, rfl⟩
    have hsv : Save r5 y5 y10 := by rw [hy10]; exact (Save.refl _ _).setRow _
    have HM0 := Lib.hid (show _ from HM0.out.save hsv HN.out.2.2.2.1)
    have HGC := Lib.hid (show _ from (show _ ∧ _ from ⟨HGC.out.1, HGC.out.2.save hsv (by have := HGC.out.1; have := HN.out.2.2.2.1; omega)⟩))
    have HM1 := Lib.hid (show _ from (show _ ∧ _ from ⟨HM1.out.1.save hsv HN.out.2.2.2.1, HM1.out.2⟩))
    have HGG := Lib.hid (show _ from (show _ ∧ _ from ⟨HGG.out.1, (hsv.block _ (lt_of_heap HGG.out.2) (by have := HGG.out.1; have := HN.out.2.2.2.1; omega)).trans HGG.out.2⟩))
    have H45 : Hid (Arr y10 r4 26 7 (bdE bS) ∧ Arr y10 r5 31 3 (cfE 1 (.slice (some ⟨gG, 0, none⟩) 2 2) (.slice (some ⟨gC, 0, none⟩) 1 1)) ∧ Below w.heap.size w y10) := Lib.hid ⟨H45.out.1.save hsv HN.out.2.2.2.2.2.2.2.2.2.2.1, by rw [hy10]; exact H45.out.2.1.row _, H45.out.2.2.trans (hsv.below HN.out.2.1 (H45.out.2.2.size))⟩
    have HSIZE : Hid (V.heap.size ≤ y10.heap.size) := Lib.hid (Nat.le_trans HSIZE.out hsv.size)
    rw [← hy10]
    refine hK10 _ _ (show _ ∧ _ ∧ _ from ⟨hS5.1.save hsv HN.out.2.2.2.2.2.1, hS5.2.1.save hsv HN.out.2.2.2.2.2.2.2.1, hS5.2.2.save hsv HN.out.2.2.2.2.2.2.2.2.2.1⟩) (fun hS10 => ?_)
    clear hS5 hsv hy10 hK10 K10
    refine wpAnyH_done (by kernel_rfl) ?_ _
    clear hS10
    go_wp2_with fail
    refine bodyPost_ret (results_c2 rfl _ _ _ _ _ rfl rfl (run_load_arr H45.out.1 Tryz.underlying26 rfl infoBd) (run_load_arr H45.out.2.1 Tryz.underlying31 rfl infoCf)) rfl ?_
    exact HP.out gG gC g1 g3 g4 h1 h3 h4 _ ⟨⟨Nat.le_trans HN.out.2.2.2.2.2.2.2.2.2.2.2 HGG.out.1, Nat.le_trans HN.out.2.2.2.2.2.2.2.2.2.2.2 HGC.out.1, HM1.out.2⟩, HGG.out.2, HGC.out.2, HM0.out.low HN.out.2.2.2.2.2.2.2.2.2.2.2, HM1.out.1.low HN.out.2.2.2.2.2.2.2.2.2.2.2⟩ H45.out.2.2
 case hjt45 =>
  refine kow_bs1 29 _ rfl (.agg (vec 8 (chE (chS pages)))) rfl (build_channel (chS pages) Y0) ?_
  obtain ⟨y7, hy7⟩ : ∃ Y, Y = Y0.alloc (.cells (vec 8 (chE (chS pages))) 47) := ⟨_, rfl⟩
  obtain ⟨gC, hg7⟩ : ∃ g, g = Y0.heap.size := ⟨_, rfl⟩
  have hd : Below Y0.heap.size Y0 y7 := by rw [hy7]; exact Below.alloc_own _ _
  have hsz : V.heap.size ≤ Y0.heap.size := HSIZE.out
  have H45 := Lib.hid (show _ ∧ _ ∧ _ from ⟨H45.out.1.under hd, H45.out.2.1.under hd, H45.out.2.2.trans (hd.mono H45.out.2.2.size)⟩)
  have HGC : Hid (V.heap.size ≤ gC ∧ Arr y7 gC 47 8 (chE (chS pages))) := Lib.hid ⟨by omega, by rw [hy7, hg7]; exact Arr.new _ _ _ _⟩
  have HSIZE : Hid (V.heap.size ≤ y7.heap.size) := Lib.hid (Nat.le_trans HSIZE.out hd.size)
  rw [← hy7, ← hg7]
  refine hK7 _ _ (show _ ∧ _ ∧ _ from ⟨hS.1.under hd, hS.2.1.under hd, hS.2.2.under hd⟩) (fun hS7 => ?_)
  clear hS hd hsz hy7 hg7 hK7 K7
  refine oQ 2 (h := fun K2 hK2 => ?_)
  go_simp
  refine (HG0.out _).mono ?_
  rintro e y2 ⟨g1, g3, g4, rfl, hgm, hd⟩
  have hsz : V.heap.size ≤ y7.heap.size := HSIZE.out
  have HGC := Lib.hid (show _ from (show _ ∧ _ from ⟨HGC.out.1, HGC.out.2.under hd⟩))
  have H45 := Lib.hid (show _ ∧ _ ∧ _ from ⟨H45.out.1.under hd, H45.out.2.1.under hd, H45.out.2.2.trans (hd.mono H45.out.2.2.size)⟩)
  have HM0 := Lib.hid (show GMade V.heap.size y2 0 1074790400 g1 g3 g4 from hgm.low hsz)
  have HSIZE : Hid (V.heap.size ≤ y2.heap.size) := Lib.hid (Nat.le_trans HSIZE.out hd.size)
  refine hK2 _ _ (show _ ∧ _ ∧ _ from ⟨hS7.1.under hd, hS7.2.1.under hd, hS7.2.2.under hd⟩) (fun hS2 => ?_)
  clear hS7 hd hgm hsz hK2 K2
  refine oQ 4 (h := fun K4 hK4 => ?_)
  have HMPRE := Lib.hid HM0.out
  go_simp
  refine (HG1.out _).mono ?_
  rintro e y4 ⟨h1, h3, h4, rfl, hgm, hd⟩
  have hsz : V.heap.size ≤ y2.heap.size := HSIZE.out
  have HGC := Lib.hid (show _ from (show _ ∧ _ from ⟨HGC.out.1, HGC.out.2.under hd⟩))
  have HM0 := Lib.hid (show _ from HM0.out.under hd)
  have H45 := Lib.hid (show _ ∧ _ ∧ _ from ⟨H45.out.1.under hd, H45.out.2.1.under hd, H45.out.2.2.trans (hd.mono H45.out.2.2.size)⟩)
  have HM1 := Lib.hid (show GMade V.heap.size y4 1 1075838976 h1 h3 h4 ∧ g1 ≠ h1 from ⟨hgm.low hsz, by have := hgm.lo.1; have := (GMade.w HMPRE.out).lt; omega⟩)
  have HSIZE : Hid (V.heap.size ≤ y4.heap.size) := Lib.hid (Nat.le_trans HSIZE.out hd.size)
  refine hK4 _ _ (show _ ∧ _ ∧ _ from ⟨hS2.1.under hd, hS2.2.1.under hd, hS2.2.2.under hd⟩) (fun hS4 => ?_)
  clear hS2 hd hgm hsz hK4 K4
  clear HMPRE
  refine wQ 5 9 (h1 := fun K5 hK5 => ?hit44) (h2 := fun K9 hK9 => ?hjt44)
  case hit44 =>
   refine now_bs2 28 _ _ rfl (.agg (vec 79 (guestE (gvS nm0 0 1074790400 key g1 g3 g4)))) (.agg (vec 79 (guestE (gvS nm1 1 1075838976 key h1 h3 h4)))) rfl rfl (build_guests2 (gvS nm0 0 1074790400 key g1 g3 g4) (gvS nm1 1 1075838976 key h1 h3 h4) y4) ?_
   obtain ⟨y5, hy5⟩ : ∃ Y, Y = y4.alloc (.cells (cellsE 79 guestE [(gvS nm0 0 1074790400 key g1 g3 g4), (gvS nm1 1 1075838976 key h1 h3 h4)]).toArray 63) := ⟨_, rfl⟩
   obtain ⟨gG, hg5⟩ : ∃ g, g = y4.heap.size := ⟨_, rfl⟩
   have hd : Below y4.heap.size y4 y5 := by rw [hy5]; exact Below.alloc_own _ _
   have hsz : V.heap.size ≤ y4.heap.size := HSIZE.out
   have HGC := Lib.hid (show _ from (show _ ∧ _ from ⟨HGC.out.1, HGC.out.2.under hd⟩))
   have HM0 := Lib.hid (show _ from HM0.out.under hd)
   have HM1 := Lib.hid (show _ from (show _ ∧ _ from ⟨HM1.out.1.under hd, HM1.out.2⟩))
   have H45 := Lib.hid (show _ ∧ _ ∧ _ from ⟨H45.out.1.under hd, H45.out.2.1.under hd, H45.out.2.2.trans (hd.mono H45.out.2.2.size)⟩)
   have HGG : Hid (V.heap.size ≤ gG ∧ y5.heap[gG]? = some (.cells (cellsE 79 guestE [(gvS nm0 0 1074790400 key g1 g3 g4), (gvS nm1 1 1075838976 key h1 h3 h4)]).toArray 63 (0, 0))) := Lib.hid ⟨by omega, by rw [hy5, hg5]; exact heap_alloc_new _ _⟩
   have HSIZE : Hid (V.heap.size ≤ y5.heap.size) := Lib.hid (Nat.le_trans HSIZE.out hd.size)
   rw [← hy5, ← hg5]
   refine hK5 _ _ (show _ ∧ _ ∧ _ from ⟨hS4.1.under hd, hS4.2.1.under hd, hS4.2.2.under hd⟩) (fun hS5 => ?_)
   clear hS4 hd hsz hy5 hg5 hK5 K5
   refine tP 8 (v := .agg (vec 3 (cfE 1 (.slice (some ⟨gG, 0, none⟩) 2 2) (.slice (some ⟨gC, 0, none⟩) 1 1)))) (hy := by (intro W hW; exact exec_build 31 _ rfl (vec 3 (cfE 1 (.slice (some ⟨gG, 0, none⟩) 2 2) (.slice (some ⟨gC, 0, none⟩) 1 1))) (by kernel_rfl) W)) (h := ?_)
   refine oQ 9 (h := fun K9 hK9 => ?_)
   refine ow_store 26 _ _ rfl _ rfl (.agg (vec 7 (bdE bS))) rfl (run_store_arr H45.out.1 (bdE bS) infoBd (bdE_one _ _)) ?_
   obtain ⟨y9, hy9⟩ : ∃ Y, Y = y5.setRow r4 (vec 7 (bdE bS)) := ⟨_, rfl⟩
   have hsv : Save r4 y5 y9 := by rw [hy9]; exact (Save.refl _ _).setRow _
   have HGC := Lib.hid (show _ from (show _ ∧ _ from ⟨HGC.out.1, HGC.out.2.save hsv (by have := HGC.out.1; have := HN.out.2.2.1; omega)⟩))
   have HM0 := Lib.hid (show _ from HM0.out.save hsv HN.out.2.2.1)
   have HM1 := Lib.hid (show _ from (show _ ∧ _ from ⟨HM1.out.1.save hsv HN.out.2.2.1, HM1.out.2⟩))
   have HGG := Lib.hid (show _ from (show _ ∧ _ from ⟨HGG.out.1, (hsv.block _ (lt_of_heap HGG.out.2) (by have := HGG.out.1; have := HN.out.2.2.1; omega)).trans HGG.out.2⟩))
   have H45 : Hid (Arr y9 r4 26 7 (bdE bS) ∧ Arr y9 r5 31 3 (cfE 0 nilV nilV) ∧ Below w.heap.size w y9) := Lib.hid ⟨by rw [hy9]; exact H45.out.1.row _, H45.out.2.1.save hsv HN.out.2.2.2.2.2.2.2.2.2.2.1.symm, H45.out.2.2.trans (hsv.below HN.out.1 (H45.out.2.2.size))⟩
   have HSIZE : Hid (V.heap.size ≤ y9.heap.size) := Lib.hid (Nat.le_trans HSIZE.out hsv.size)
   rw [← hy9]
   refine hK9 _ _ (show _ ∧ _ ∧ _ from ⟨hS5.1.save hsv HN.out.2.2.2.2.1, hS5.2.1.save hsv HN.out.2.2.2.2.2.2.1, hS5.2.2.save hsv HN.out.2.2.2.2.2.2.2.2.1⟩) (fun hS9 => ?_)
   clear hS5 hsv hy9 hK9 K9
   refine oQ 10 (h := fun K10 hK10 => ?_)
   refine ow_store 31 _ _ rfl _ rfl (.agg (vec 3 (cfE 1 (.slice (some ⟨gG, 0, none⟩) 2 2) (.slice (some ⟨gC, 0, none⟩) 1 1)))) rfl (run_store_arr H45.out.2.1 (cfE 1 (.slice (some ⟨gG, 0, none⟩) 2 2) (.slice (some ⟨gC, 0, none⟩) 1 1)) infoCf (cfE_one _ _ _ rfl rfl _)) ?_
   obtain ⟨y10, hy10⟩ : ∃ Y, Y = y9.setRow r5 (vec 3 (cfE 1 (.slice (some ⟨gG, 0, none⟩) 2 2) (.slice (some ⟨gC, 0, none⟩) 1 1))) := ⟨_, rfl⟩
   have hsv : Save r5 y9 y10 := by rw [hy10]; exact (Save.refl _ _).setRow _
   have HGC := Lib.hid (show _ from (show _ ∧ _ from ⟨HGC.out.1, HGC.out.2.save hsv (by have := HGC.out.1; have := HN.out.2.2.2.1; omega)⟩))
   have HM0 := Lib.hid (show _ from HM0.out.save hsv HN.out.2.2.2.1)
   have HM1 := Lib.hid (show _ from (show _ ∧ _ from ⟨HM1.out.1.save hsv HN.out.2.2.2.1, HM1.out.2⟩))
   have HGG := Lib.hid (show _ from (show _ ∧ _ from ⟨HGG.out.1, (hsv.block _ (lt_of_heap HGG.out.2) (by have := HGG.out.1; have := HN.out.2.2.2.1; omega)).trans HGG.out.2⟩))
   have H45 : Hid (Arr y10 r4 26 7 (bdE bS) ∧ Arr y10 r5 31 3 (cfE 1 (.slice (some ⟨gG, 0, none⟩) 2 2) (.slice (some ⟨gC, 0, none⟩) 1 1)) ∧ Below w.heap.size w y10) := Lib.hid ⟨H45.out.1.save hsv HN.out.2.2.2.2.2.2.2.2.2.2.1, by rw [hy10]; exact H45.out.2.1.row _, H45.out.2.2.trans (hsv.below HN.out.2.1 (H45.out.2.2.size))⟩
   have HSIZE : Hid (V.heap.size ≤ y10.heap.size) := Lib.hid (Nat.le_trans HSIZE.out hsv.size)
   rw [← hy10]
   refine hK10 _ _ (show _ ∧ _ ∧ _ from ⟨hS9.1.save hsv HN.out.2.2.2.2.2.1, hS9.2.1.save hsv HN.out.2.2.2.2.2.2.2.1, hS9.2.2.save hsv HN.out.2.2.2.2.2.2.2.2.2.1⟩) (fun hS10 => ?_)
   clear hS9 hsv hy10 hK10 K10
   refine wpAnyH_done (by kernel_rfl) ?_ _
   clear hS10
   go_wp2_with fail
   refine bodyPost_ret (results_c2 rfl _ _ _ _ _ rfl rfl (run_load_arr H45.out.1 Tryz.underlying26 rfl infoBd) (run_load_arr H45.out.2.1 Tryz.underlying31 rfl infoCf)) rfl ?_
   exact HP.out gG gC g1 g3 g4 h1 h3 h4 _ ⟨⟨Nat.le_trans HN.out.2.2.2.2.2.2.2.2.2.2.2 HGG.out.1, Nat.le_trans HN.out.2.2.2.2.2.2.2.2.2.2.2 HGC.out.1, HM1.out.2⟩, HGG.out.2, HGC.out.2, HM0.out.low HN.out.2.2.2.2.2.2.2.2.2.2.2, HM1.out.1.low HN.out.2.2.2.2.2.2.2.2.2.2.2⟩ H45.out.2.2
  case hjt44 =>
   refine ow_store 26 _ _ rfl _ rfl (.agg (vec 7 (bdE bS))) rfl (run_store_arr H45.out.1 (bdE bS) infoBd (bdE_one _ _)) ?_
   obtain ⟨y9, hy9⟩ : ∃ Y, Y = y4.setRow r4 (vec 7 (bdE bS)) := ⟨_, rfl⟩
   have hsv : Save r4 y4 y9 := by rw [hy9]; exact (Save.refl _ _).setRow _
   have HGC := Lib.hid (show _ from (show _ ∧ _ from ⟨HGC.out.1, HGC.out.2.save hsv (by have := HGC.out.1; have := HN.out.2.2.1; omega)⟩))
   have HM0 := Lib.hid (show _ from HM0.out.save hsv HN.out.2.2.1)
   have HM1 := Lib.hid (show _ from (show _ ∧ _ from ⟨HM1.out.1.save hsv HN.out.2.2.1, HM1.out.2⟩))
   have H45 : Hid (Arr y9 r4 26 7 (bdE bS) ∧ Arr y9 r5 31 3 (cfE 0 nilV nilV) ∧ Below w.heap.size w y9) := Lib.hid ⟨by rw [hy9]; exact H45.out.1.row _, H45.out.2.1.save hsv HN.out.2.2.2.2.2.2.2.2.2.2.1.symm, H45.out.2.2.trans (hsv.below HN.out.1 (H45.out.2.2.size))⟩
   have HSIZE : Hid (V.heap.size ≤ y9.heap.size) := Lib.hid (Nat.le_trans HSIZE.out hsv.size)
   rw [← hy9]
   refine hK9 _ _ (show _ ∧ _ ∧ _ from ⟨hS4.1.save hsv HN.out.2.2.2.2.1, hS4.2.1.save hsv HN.out.2.2.2.2.2.2.1, hS4.2.2.save hsv HN.out.2.2.2.2.2.2.2.2.1⟩) (fun hS9 => ?_)
   clear hS4 hsv hy9 hK9 K9
   refine oQ 5 (h := fun K5 hK5 => ?_)
   refine now_bs2 28 _ _ rfl (.agg (vec 79 (guestE (gvS nm0 0 1074790400 key g1 g3 g4)))) (.agg (vec 79 (guestE (gvS nm1 1 1075838976 key h1 h3 h4)))) rfl rfl (build_guests2 (gvS nm0 0 1074790400 key g1 g3 g4) (gvS nm1 1 1075838976 key h1 h3 h4) y9) ?_
   obtain ⟨y5, hy5⟩ : ∃ Y, Y = y9.alloc (.cells (cellsE 79 guestE [(gvS nm0 0 1074790400 key g1 g3 g4), (gvS nm1 1 1075838976 key h1 h3 h4)]).toArray 63) := ⟨_, rfl⟩
   obtain ⟨gG, hg5⟩ : ∃ g, g = y9.heap.size := ⟨_, rfl⟩
   have hd : Below y9.heap.size y9 y5 := by rw [hy5]; exact Below.alloc_own _ _
   have hsz : V.heap.size ≤ y9.heap.size := HSIZE.out
   have HGC := Lib.hid (show _ from (show _ ∧ _ from ⟨HGC.out.1, HGC.out.2.under hd⟩))
   have HM0 := Lib.hid (show _ from HM0.out.under hd)
   have HM1 := Lib.hid (show _ from (show _ ∧ _ from ⟨HM1.out.1.under hd, HM1.out.2⟩))
   have H45 := Lib.hid (show _ ∧ _ ∧ _ from ⟨H45.out.1.under hd, H45.out.2.1.under hd, H45.out.2.2.trans (hd.mono H45.out.2.2.size)⟩)
   have HGG : Hid (V.heap.size ≤ gG ∧ y5.heap[gG]? = some (.cells (cellsE 79 guestE [(gvS nm0 0 1074790400 key g1 g3 g4), (gvS nm1 1 1075838976 key h1 h3 h4)]).toArray 63 (0, 0))) := Lib.hid ⟨by omega, by rw [hy5, hg5]; exact heap_alloc_new _ _⟩
   have HSIZE : Hid (V.heap.size ≤ y5.heap.size) := Lib.hid (Nat.le_trans HSIZE.out hd.size)
   rw [← hy5, ← hg5]
   refine hK5 _ _ (show _ ∧ _ ∧ _ from ⟨hS9.1.under hd, hS9.2.1.under hd, hS9.2.2.under hd⟩) (fun hS5 => ?_)
   clear hS9 hd hsz hy5 hg5 hK5 K5
   refine tP 8 (v := .agg (vec 3 (cfE 1 (.slice (some ⟨gG, 0, none⟩) 2 2) (.slice (some ⟨gC, 0, none⟩) 1 1)))) (hy := by (intro W hW; exact exec_build 31 _ rfl (vec 3 (cfE 1 (.slice (some ⟨gG, 0, none⟩) 2 2) (.slice (some ⟨gC, 0, none⟩) 1 1))) (by kernel_rfl) W)) (h := ?_)
   refine oQ 10 (h := fun K10 hK10 => ?_)
   refine ow_store 31 _ _ rfl _ rfl (.agg (vec 3 (cfE 1 (.slice (some ⟨gG, 0, none⟩) 2 2) (.slice (some ⟨gC, 0, none⟩) 1 1)))) rfl (run_store_arr H45.out.2.1 (cfE 1 (.slice (some ⟨gG, 0, none⟩) 2 2) (.slice (some ⟨gC, 0, none⟩) 1 1)) infoCf (cfE_one _ _ _ rfl rfl _)) ?_
   obtain ⟨y10, hy10⟩ : ∃ Y, Y = y5.setRow r5 (vec 3 (cfE 1 (.slice (some ⟨gG, 0, none⟩) 2 2) (.slice (some ⟨gC, 0, none⟩) 1 1))) := ⟨_, rfl⟩
   have hsv : Save r5 y5 y10 := by rw [hy10]; exact (Save.refl _ _).setRow _
   have HGC := Lib.hid (show _ from (show _ ∧ _ from ⟨HGC.out.1, HGC.out.2.save hsv (by have := HGC.out.1; have := HN.out.2.2.2.1; omega)⟩))
   have HM0 := Lib.hid (show _ from HM0.out.save hsv HN.out.2.2.2.1)
   have HM1 := Lib.hid (show _ from (show _ ∧ _ from ⟨HM1.out.1.save hsv HN.out.2.2.2.1, HM1.out.2⟩))
   have HGG := Lib.hid (show _ from (show _ ∧ _ from ⟨HGG.out.1, (hsv.block _ (lt_of_heap HGG.out.2) (by have := HGG.out.1; have := HN.out.2.2.2.1; omega)).trans HGG.out.2⟩))
   have H45 : Hid (Arr y10 r4 26 7 (bdE bS) ∧ Arr y10 r5 31 3 (cfE 1 (.slice (some ⟨gG, 0, none⟩) 2 2) (.slice (some ⟨gC, 0, none⟩) 1 1)) ∧ Below w.heap.size w y10) := Lib.hid ⟨H45.out.1.save hsv HN.out.2.2.2.2.2.2.2.2.2.2.1, by rw [hy10]; exact H45.out.2.1.row _, H45.out.2.2.trans (hsv.below HN.out.2.1 (H45.out.2.2.size))⟩
   have HSIZE : Hid (V.heap.size ≤ y10.heap.size) := Lib.hid (Nat.le_trans HSIZE.out hsv.size)
   rw [← hy10]
   refine hK10 _ _ (show _ ∧ _ ∧ _ from ⟨hS5.1.save hsv HN.out.2.2.2.2.2.1, hS5.2.1.save hsv HN.out.2.2.2.2.2.2.2.1, hS5.2.2.save hsv HN.out.2.2.2.2.2.2.2.2.2.1⟩) (fun hS10 => ?_)
   clear hS5 hsv hy10 hK10 K10
   refine wpAnyH_done (by kernel_rfl) ?_ _
   clear hS10
   go_wp2_with fail
   refine bodyPost_ret (results_c2 rfl _ _ _ _ _ rfl rfl (run_load_arr H45.out.1 Tryz.underlying26 rfl infoBd) (run_load_arr H45.out.2.1 Tryz.underlying31 rfl infoCf)) rfl ?_
   exact HP.out gG gC g1 g3 g4 h1 h3 h4 _ ⟨⟨Nat.le_trans HN.out.2.2.2.2.2.2.2.2.2.2.2 HGG.out.1, Nat.le_trans HN.out.2.2.2.2.2.2.2.2.2.2.2 HGC.out.1, HM1.out.2⟩, HGG.out.2, HGC.out.2, HM0.out.low HN.out.2.2.2.2.2.2.2.2.2.2.2, HM1.out.1.low HN.out.2.2.2.2.2.2.2.2.2.2.2⟩ H45.out.2.2
end Go.Proofs.YtkaipknkjocfiaaGreat
