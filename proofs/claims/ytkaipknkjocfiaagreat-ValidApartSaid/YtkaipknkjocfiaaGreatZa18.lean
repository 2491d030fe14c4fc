import Derived.Sort.LotA
import Derived.Sort.LotD2
import Derived.Test.YtkaipknkjocfiaaGreatZa17
namespace Go.Proofs.YtkaipknkjocfiaaGreat
open Go.RowKit Go.Maps
attribute [local go_sem ↓ high] zeroSp zeroWi zeroGu zeroCh zeroEn
theorem wl_bs1G {P : Program} {w w' : World} {ops : Array Oper} {rest : List Oper} {o : Oper} {a : Act} {Q : Exit → Act → World → Prop} (hw : Region.wanted o (yielded ops a.tmps) = true) {t : TypeId} {n : Nat} (y : Operand) (ho : o.op = .buildSlice t n #[(0, y)]) (v0 : Value) (hy : a.eval y = v0) {v : Value} (hr : (Instr.buildSlice t n #[(0, v0)]).run P w = .ok v w')
  (h : wpList P ops Q rest (a.put o.dst v) w') : wpList P ops Q (o :: rest) a w :=
 wpList_step fun K hK => by
  simp only [hw, if_true]
  unfold Oper.wp execOp
  subst hy
  simp only [ho, Sem.run_bind, List.map_toArray, List.map_cons, List.map_nil, hr, Result.andThen_ok, Sem.run_pure]
  exact hK _ _ h
set_option maxHeartbeats 4000000 in
set_option maxRecDepth 100000 in
theorem kend_any (n : Nat) (y : Ch) (e : En) (hy : ChB y) (he : EnB e) (gn gc : Nat) (w : World) (hn : w.cell? ⟨gn, 0, none⟩ = some (.int .i64 (n : Int))) (hc : Arr w gc 47 8 (chE y)) : Calls Tryz.prog 95 #[.agg (vec 3 (endE e)), .pointer (some ⟨gn, 0, none⟩), .pointer (some ⟨gc, 0, none⟩)] w (EqV (endK n y e) w) := by
 obtain ⟨im, him⟩ := Int.eq_ofNat_of_zero_le he.2.2.1
 obtain ⟨sn, hsn⟩ := Int.eq_ofNat_of_zero_le hy.2.1.1
 obtain ⟨G, hG⟩ : ∃ q, q = e.guest := ⟨_, rfl⟩
 obtain ⟨P, hP⟩ : ∃ q, q = e.perm := ⟨_, rfl⟩
 obtain ⟨z0, hz0⟩ : ∃ z, z = decide (G < (n : Int)) := ⟨_, rfl⟩
 obtain ⟨z1, hz1⟩ : ∃ z, z = !(P == 0) := ⟨_, rfl⟩
 obtain ⟨z2, hz2⟩ : ∃ z, z = allowB P 4 := ⟨_, rfl⟩
 obtain ⟨z3, hz3⟩ : ∃ z, z = lowL [(im, sn)] := ⟨_, rfl⟩
 have ee : endK n y e = (z0 && ((z1 && !z2) && z3)) := by unfold endK; rw [him, hsn, ← hG, ← hP, ← hz0, ← hz1, ← hz2]; show (_ && (_ && lowL [(im, sn)])) = _; rw [← hz3]
 rw [ee]
 have hfy : fit (im, sn) := ⟨by have := he.2.2.2; rw [him] at this; show im < _; omega, by have := hy.2.1.2; rw [hsn] at this; show sn < _; omega⟩
 have HLOW : Hid (∀ A W, RowE 2 spE W W.heap.size A [(im, sn)] → Calls Tryz.prog 78 #[.slice A 1 1] W (EqV z3 W)) := Lib.hid (by
  rw [hz3]
  exact fun A W hR => klow_any A 1 [(im, sn)] (by simp) (fun x hx => by rw [List.mem_singleton.1 hx]; exact hfy) W hR)
 have HALL : Hid (∀ W, Calls Tryz.prog 85 #[.int .i64 P, .int .i64 4] W (EqV z2 W)) := Lib.hid (by rw [hz2]; exact fun W => allows_any P 4 W)
 unfold EqV at HLOW HALL ⊢
 obtain ⟨r3, hr3⟩ : ∃ r, r = w.heap.size := ⟨_, rfl⟩
 obtain ⟨V, hV⟩ : ∃ V, V = w.alloc (.cells (vec 3 (endE e)) 44) := ⟨_, rfl⟩
 have hb : Below w.heap.size w V := by rw [hV]; exact Below.alloc_own w _
 have ha : Arr V r3 44 3 (endE e) := by rw [hV, hr3]; exact Arr.new _ _ _ _
 have HCL : Hid (∀ Y, Below V.heap.size V Y → (Y.cell? ⟨r3, 0, none⟩ = some (.int .i64 G) ∧ Y.cell? ⟨r3, 1, none⟩ = some (.int .i64 P) ∧ Y.cell? ⟨r3, 2, none⟩ = some (.int .u64 (im : Int))) ∧ Y.cell? ⟨gn, 0, none⟩ = some (.int .i64 (n : Int)) ∧ Y.cell? ⟨gc, 1, none⟩ = some (.int .u64 (sn : Int))) := Lib.hid fun Y hY => by
  rw [hG, hP, ← him, ← hsn]
  refine ⟨⟨(ha.under hY).cell (i := 0) (by decide), (ha.under hY).cell (i := 1) (by decide), (ha.under hY).cell (i := 2) (by decide)⟩, ?_, ((hc.under hb).under hY).cell (i := 1) (by decide)⟩
  have hgl : gn < w.heap.size := lt_of_cell hn
  exact (hY.cell (p := ⟨gn, 0, none⟩) (Nat.lt_of_lt_of_le hgl hb.size)).trans ((hb.cell (p := ⟨gn, 0, none⟩) hgl).trans hn)
 have HB := Lib.hid hb
 have HV := Lib.hid hV
 have HR3 := Lib.hid hr3
 have k0 : decide (G < (n : Int)) = z0 := hz0.symm
 have k1 : (P != 0) = z1 := by rw [hz1]; rfl
 obtain ⟨⟨c0, c1, c2⟩, c3, c4⟩ := HCL.out V (Below.refl _ _)
 clear hz0 hz1 hz2 hz3 ee him hsn hG hP hfy hy he hn hc hb ha hV hr3
 go_enter Tryz.func95, Tryz.ntmps95
 go_upto_region 1 with fail
 rw [← HV.out, ← HR3.out]
 clear HV HR3
 cases z0
 case false =>
  go_wp2_with fail
  go_ret
  exact ⟨rfl, HB.out⟩
 case true =>
  cases z1
  case false =>
   go_wp2_with fail
   go_ret
   exact ⟨rfl, HB.out⟩
  case true =>
   cases z2
   case true =>
    go_wp2_with (go_at_call 85; refine (HALL.out _).mono ?_; rintro e w1 ⟨rfl, hd⟩; have HD := Lib.hid hd; obtain ⟨⟨c0, c1, c2⟩, c3, c4⟩ := HCL.out w1 hd; clear hd)
    go_ret
    exact ⟨rfl, HB.out.trans (HD.out.mono HB.out.size)⟩
   case false =>
    go_wp2_with (first
     | (go_at_call 85; refine (HALL.out _).mono ?_; rintro e w1 ⟨rfl, hd⟩; have HD := Lib.hid hd; obtain ⟨⟨c0, c1, c2⟩, c3, c4⟩ := HCL.out w1 hd; clear hd)
     | ((with_reducible show wpList _ _ _ (Oper.mk _ (.build _ _) _ _ _ _ :: _) _ _); refine wl_execG (by kernel_rfl) (exec_build 24 _ rfl (vec 2 (spE (im, sn))) (by kernel_rfl) _) ?_)
     | ((with_reducible show wpList _ _ _ (Oper.mk _ (.buildSlice _ _ _) _ _ _ _ :: _) _ _); refine wl_bs1G (by kernel_rfl) _ rfl (.agg (vec 2 (spE (im, sn)))) rfl (build_span (im, sn) _) ?_)
     | (go_at_call 78; refine (HLOW.out _ _ (row_new1 (im, sn) _)).mono ?_; rintro e w2 ⟨rfl, hd⟩; have HD2 := Lib.hid ((HD.out.trans ((Below.alloc_own _ _).mono HD.out.size)).trans (hd.mono (Nat.le_trans HD.out.size (by simp)))); clear hd))
    go_ret
    exact ⟨rfl, HB.out.trans (HD2.out.mono HB.out.size)⟩
theorem kends_row {Y : World} {g : Nat} {t : TypeId} {y : Ch} (h : Arr Y g t 8 (chE y)) : RowE 3 endE Y Y.heap.size (some ⟨g, 2, none⟩) [y.a, y.b] := fun _ =>
 ⟨_, rfl, h.lt, fun j hj i hi => by
  rw [add_atM]
  have hj : j < 2 := hj
  rcases (by omega : j = 0 ∨ j = 1) with rfl | rfl <;> rcases (by omega : i = 0 ∨ i = 1 ∨ i = 2) with rfl | rfl | rfl
  · exact h.cell (i := 2) (by decide)
  · exact h.cell (i := 3) (by decide)
  · exact h.cell (i := 4) (by decide)
  · exact h.cell (i := 5) (by decide)
  · exact h.cell (i := 6) (by decide)
  · exact h.cell (i := 7) (by decide)⟩
theorem RowE.down {α : Type} {n : Nat} {enc : α → Nat → Value} {w : World} {B B' : Nat} {A : Option Addr} {l : List α} (h : RowE n enc w B A l) (hb : ∀ a, A = some a → a.block < B') : RowE n enc w B' A l := fun hn => by
 obtain ⟨a, e, _, hc⟩ := h hn
 exact ⟨a, e, hb a e, hc⟩
set_option maxHeartbeats 4000000 in
set_option maxRecDepth 100000 in
theorem kjoined_any (n : Nat) (y : Ch) (hy : ChB y) (w : World) : Calls Tryz.prog 55 #[.agg (vec 8 (chE y)), .int .i64 (n : Int)] w (EqV (joinK n y) w) := by
 obtain ⟨GA, hGA⟩ : ∃ q, q = y.a.guest := ⟨_, rfl⟩
 obtain ⟨GB, hGB⟩ : ∃ q, q = y.b.guest := ⟨_, rfl⟩
 obtain ⟨z0, hz0⟩ : ∃ z, z = decide (GA ≠ GB) := ⟨_, rfl⟩
 obtain ⟨z1, hz1⟩ : ∃ z, z = [y.a, y.b].all (endK n y) := ⟨_, rfl⟩
 have ee : joinK n y = (z0 && z1) := by unfold joinK; rw [hz1, ← hGA, ← hGB, ← hz0]; simp
 rw [ee]
 obtain ⟨r2, hr2⟩ : ∃ r, r = w.heap.size := ⟨_, rfl⟩
 obtain ⟨r3, hr3⟩ : ∃ r, r = w.heap.size + 1 := ⟨_, rfl⟩
 obtain ⟨V, hV⟩ : ∃ V, V = (w.alloc (.cells (vec 8 (chE y)) 47)).alloc (.cells #[.int .i64 (n : Int)] 3) := ⟨_, rfl⟩
 have hb : Below w.heap.size w V := by rw [hV]; exact (Below.alloc_own w _).alloc (by simp) _
 have ha : Arr V r2 47 8 (chE y) := by rw [hV, hr2]; exact (Arr.new w _ _ _).alloc _
 have hbn : Blk V r3 3 #[.int .i64 (n : Int)] := by rw [hV]; exact Blk.new _ _ _ (by rw [hr3]; simp)
 have eL : ∀ args w, (callFunc 95 args).run Tryz.prog w = .ok (.enter 95 args) w := enters_of Tryz.func95 (by kernel_rfl) rfl
 have HE : Hid (Calls Tryz.prog 96 #[.slice (some ⟨r2, 2, none⟩) 2 2, .func (.func 95) #[] #[.pointer (some ⟨r3, 0, none⟩), .pointer (some ⟨r2, 0, none⟩)]] V (EqV z1 V)) := Lib.hid (by
  have hq := each_En (some ⟨r2, 2, none⟩) V.heap.size 2 [y.a, y.b] (by simp) 95 #[] #[.pointer (some ⟨r3, 0, none⟩), .pointer (some ⟨r2, 0, none⟩)] V.heap.size _ _ (Asks.pure (V := V) (q := endK n y) (n0 := V.heap.size) (Rw := fun Y => RowE 3 endE Y V.heap.size (some ⟨r2, 2, none⟩) [y.a, y.b]) false
   (fun Y hY => (kends_row (ha.under hY)).down fun a e => by injection e with e; subst e; exact ha.lt) eL
   (fun i hi Y hY => kend_any n y [y.a, y.b][i] hy (by
    have hi : i < 2 := hi
    rcases (by omega : i = 0 ∨ i = 1) with rfl | rfl
    · exact hy.2.2.1
    · exact hy.2.2.2) r3 r2 Y ((hbn.under hY).cellAt 0 rfl) (ha.under hY))) V (Nat.le_refl _) ⟨Below.refl _ _, fun j _ hj => by omega⟩
  refine hq.mono ?_
  rintro e w' ⟨r, rfl, -, h1, h2⟩
  cases r with
  | true => exact ⟨by rw [hz1, all_of fun i hi => (h1 rfl).2 i hi hi], (h1 rfl).1⟩
  | false =>
   obtain ⟨i, hi, hB, hi2, hq⟩ := h2 rfl
   exact ⟨by rw [hz1, all_miss (f := endK n y) hi2 hq], hB⟩)
 unfold EqV at HE ⊢
 have c2 : V.cell? ⟨r2, 2, none⟩ = some (.int .i64 GA) := by rw [hGA]; exact ha.cell (i := 2) (by decide)
 have c5 : V.cell? ⟨r2, 5, none⟩ = some (.int .i64 GB) := by rw [hGB]; exact ha.cell (i := 5) (by decide)
 have k0 : (GA != GB) = z0 := by rw [hz0]; by_cases h : GA = GB <;> simp [h]
 have hmf : ∀ (fn : Fn) (first cap : Array Value) (w : World), (Instr.makeFunc fn first cap).run Tryz.prog w = .ok (.func fn first cap) w := fun _ _ _ _ => rfl
 have HB := Lib.hid hb
 have HV := Lib.hid hV
 have HR := Lib.hid (And.intro hr2 hr3)
 clear hz0 hz1 ee hGA hGB hy hb ha hbn hV hr2 hr3 eL
 go_enter Tryz.func55, Tryz.ntmps55
 go_upto_region 1 with fail
 rw [← HV.out, ← HR.out.2, ← HR.out.1]
 clear HV HR
 cases z0
 case false =>
  go_wp2_with fail
  go_ret
  exact ⟨rfl, HB.out⟩
 case true =>
  go_wp2_with (go_at_call 96; refine HE.out.mono ?_; rintro e w2 ⟨rfl, hd⟩; have HD := Lib.hid hd; clear hd)
  go_ret
  exact ⟨rfl, HB.out.trans (HD.out.mono HB.out.size)⟩
end Go.Proofs.YtkaipknkjocfiaaGreat
namespace Go.Proofs.YtkaipknkjocfiaaGreat
open Go.Sort
variable {α : Type} [Inhabited α] {lt : α → α → Bool}
def swrF (f : Nat → α) (a b n x : Nat) : α := if a ≤ x ∧ x < a + n then f (x - a + b) else if b ≤ x ∧ x < b + n then f (x - b + a) else f x
def rotF (f : Nat → α) (a m b x : Nat) : α := if a ≤ x ∧ x < a + (b - m) then f (x - a + m) else if a + (b - m) ≤ x ∧ x < b then f (x - (b - m)) else f x
def at_ (d : Array α) (x : Nat) : α := d[x]!
structure SwrP (d dk : Array α) (a b n i : Nat) : Prop where
 size : dk.size = d.size
 get : ∀ x, dk[x]! = swrF (at_ d) a b i x
 perm : ∀ lo hi, lo ≤ a → b + n ≤ hi → hi ≤ d.size → PermIn lo hi d dk
theorem SwrP.start (d : Array α) (a b n : Nat) : SwrP d d a b n 0 := ⟨rfl, fun x => by
 unfold swrF at_
 rw [if_neg (by omega), if_neg (by omega)], fun _ _ _ _ _ => permIn_refl _ _ _⟩
theorem SwrP.step {d dk : Array α} {a b n i : Nat} (h : SwrP d dk a b n i) (hi : i < n) (hab : a + n ≤ b) (hb : b + n ≤ d.size) : SwrP d (swp dk (a + i) (b + i)) a b n (i + 1) := by
 have hs := h.size
 refine ⟨by rw [swp_size]; exact hs, fun x => ?_, fun lo hi' h1 h2 h3 => permIn_trans _ _ _ _ _ (h.perm lo hi' h1 h2 h3) (swp_permIn dk lo hi' (a + i) (b + i) (by omega) (by omega) (by omega) (by omega) (by omega))⟩
 rw [swp_get _ (by omega) (by omega), h.get, h.get, h.get]
 unfold swrF
 repeat' split
 all_goals first | rfl | (exfalso; omega) | (congr 1; omega)
structure RotP (d dk : Array α) (a m b : Nat) : Prop where
 size : dk.size = d.size
 get : ∀ x, dk[x]! = rotF (at_ d) a m b x
 perm : PermIn a b d dk
omit [Inhabited α] in
theorem rot_same_l {f : Nat → α} {m b x : Nat} (h : m ≤ b) : rotF f m m b x = f x := by
 unfold rotF
 repeat' split
 all_goals first | rfl | (exfalso; omega) | (congr 1; omega)
omit [Inhabited α] in
theorem rot_same_r {f : Nat → α} {a m x : Nat} : rotF f a m m x = f x := by
 unfold rotF
 repeat' split
 all_goals first | rfl | (exfalso; omega) | (congr 1; omega)
theorem RotP.same_l (d : Array α) {m b : Nat} (h : m ≤ b) : RotP d d m m b := ⟨rfl, fun x => by rw [rot_same_l h]; rfl, permIn_refl _ _ _⟩
theorem RotP.same_r (d : Array α) {a m : Nat} : RotP d d a m m := ⟨rfl, fun x => by rw [rot_same_r]; rfl, permIn_refl _ _ _⟩
structure RotI (d dk : Array α) (a m b i j : Nat) : Prop where
 size : dk.size = d.size
 get : ∀ x, rotF (at_ dk) (m - i) m (m + j) x = rotF (at_ d) a m b x
 perm : PermIn a b d dk
 i0 : 0 < i
 j0 : 0 < j
 ia : i ≤ m - a
 jb : j ≤ b - m
theorem RotI.start (d : Array α) {a m b : Nat} (h1 : a < m) (h2 : m < b) : RotI d d a m b (m - a) (b - m) :=
 ⟨rfl, fun x => by rw [show m - (m - a) = a by omega, show m + (b - m) = b by omega], permIn_refl _ _ _, by omega, by omega, by omega, by omega⟩
theorem RotI.left {d dk dl : Array α} {a m b i j : Nat} (h : RotI d dk a m b i j) (hs : SwrP dk dl (m - i) m j j) (hij : j < i) (ham : a ≤ m) (hmb : m ≤ b) (hb : b ≤ d.size) : RotI d dl a m b (i - j) j := by
 obtain ⟨k1, k2, k3, k4, k5, k6, k7⟩ := h
 refine ⟨hs.size.trans k1, fun x => ?_, permIn_trans _ _ _ _ _ k3 (hs.perm a b (by omega) (by omega) (by omega)), by omega, by omega, by omega, by omega⟩
 rw [← k2]
 have hg : ∀ y, at_ dl y = swrF (at_ dk) (m - i) m j y := hs.get
 unfold rotF
 simp only [hg]
 unfold swrF
 repeat' split
 all_goals first | rfl | (exfalso; omega) | (congr 1; omega)
theorem RotI.right {d dk dl : Array α} {a m b i j : Nat} (h : RotI d dk a m b i j) (hs : SwrP dk dl (m - i) (m + j - i) i i) (hij : i < j) (ham : a ≤ m) (hmb : m ≤ b) (hb : b ≤ d.size) : RotI d dl a m b i (j - i) := by
 obtain ⟨k1, k2, k3, k4, k5, k6, k7⟩ := h
 refine ⟨hs.size.trans k1, fun x => ?_, permIn_trans _ _ _ _ _ k3 (hs.perm a b (by omega) (by omega) (by omega)), by omega, by omega, by omega, by omega⟩
 rw [← k2]
 have hg : ∀ y, at_ dl y = swrF (at_ dk) (m - i) (m + j - i) i y := hs.get
 unfold rotF
 simp only [hg]
 unfold swrF
 repeat' split
 all_goals first | rfl | (exfalso; omega) | (congr 1; omega)
theorem RotI.last {d dk dl : Array α} {a m b i : Nat} (h : RotI d dk a m b i i) (hs : SwrP dk dl (m - i) m i i) (ham : a ≤ m) (hmb : m ≤ b) (hb : b ≤ d.size) : RotP d dl a m b := by
 obtain ⟨k1, k2, k3, k4, k5, k6, k7⟩ := h
 refine ⟨hs.size.trans k1, fun x => ?_, permIn_trans _ _ _ _ _ k3 (hs.perm a b (by omega) (by omega) (by omega))⟩
 rw [← k2, hs.get]
 unfold rotF swrF
 repeat' split
 all_goals first | rfl | (exfalso; omega) | (congr 1; omega)
theorem RotP.up {d dk : Array α} {a k : Nat} (h : RotP d dk a (a + 1) (k + 1)) (hak : a ≤ k) (hk : k + 1 < d.size) : RotP d (swp dk k (k + 1)) a (a + 1) (k + 2) := by
 have hs := h.size
 refine ⟨by rw [swp_size]; exact hs, fun x => ?_, permIn_trans _ _ _ _ _ (permIn_mono _ _ _ _ _ _ (Nat.le_refl _) (by omega) (by omega) h.perm) (swp_permIn dk a (k + 2) k (k + 1) (by omega) (by omega) (by omega) (by omega) (by omega))⟩
 rw [swp_get _ (by omega) (by omega), h.get, h.get, h.get]
 unfold rotF
 repeat' split
 all_goals first | rfl | (exfalso; omega) | (congr 1; omega)
theorem RotP.down {d dk : Array α} {k m : Nat} (h : RotP d dk (k + 1) m (m + 1)) (hk : k + 1 ≤ m) (hm : m < d.size) : RotP d (swp dk (k + 1) k) k m (m + 1) := by
 have hs := h.size
 refine ⟨by rw [swp_size]; exact hs, fun x => ?_, permIn_trans _ _ _ _ _ (permIn_mono _ _ _ _ _ _ (by omega) (Nat.le_refl _) (by omega) h.perm) (swp_permIn dk k (m + 1) (k + 1) k (by omega) (by omega) (by omega) (by omega) (by omega))⟩
 rw [swp_get _ (by omega) (by omega), h.get, h.get, h.get]
 unfold rotF
 repeat' split
 all_goals first | rfl | (exfalso; omega) | (congr 1; omega)
def LeAll (lt : α → α → Bool) (d : Array α) (a c b : Nat) : Prop := ∀ x y, a ≤ x → x < c → c ≤ y → y < b → lt d[y]! d[x]! = false
theorem sorted_join {d : Array α} {a c b : Nat} (h1 : SortedIn lt a c d) (h2 : SortedIn lt c b d) (h3 : LeAll lt d a c b) : SortedIn lt a b d := fun i j hi hij hj => by
 by_cases k1 : j < c
 · exact h1 i j hi hij k1
 · by_cases k2 : i < c
   · exact h3 i j hi k2 (by omega) hj
   · exact h2 i j (by omega) hij hj
theorem sorted_le (hO : SWO lt) {d : Array α} {a b i j : Nat} (h : SortedIn lt a b d) (hi : a ≤ i) (hij : i ≤ j) (hj : j < b) : lt d[j]! d[i]! = false := by
 by_cases e : i = j
 · subst e; exact hO.irrefl _
 · exact h i j hi (by omega) hj
structure MergeP (lt : α → α → Bool) (d d' : Array α) (a b : Nat) : Prop where
 perm : PermIn a b d d'
 sorted : SortedIn lt a b d'
theorem MergeP.size {d d' : Array α} {a b : Nat} (h : MergeP lt d d' a b) : d'.size = d.size := h.perm.1
theorem merge_up (hO : SWO lt) {d d' : Array α} {a b i : Nat} (hb : b ≤ d.size) (hs : SortedIn lt (a + 1) b d) (h1 : a + 1 ≤ i) (h2 : i ≤ b)
   (hl : ∀ p, a + 1 ≤ p → p < i → lt d[p]! d[a]! = true) (hr : ∀ p, i ≤ p → p < b → lt d[p]! d[a]! = false) (h : RotP d d' a (a + 1) i) : MergeP lt d d' a b := by
 refine ⟨permIn_mono _ _ _ _ _ _ (Nat.le_refl _) h2 hb h.perm, fun p q hp hpq hq => ?_⟩
 rw [h.get, h.get]
 unfold rotF at_
 by_cases c1 : q < i - 1
 · rw [if_pos (by omega), if_pos (by omega)]
   exact hs _ _ (by omega) (by omega) (by omega)
 · rw [if_neg (by omega)]
   by_cases c2 : q < i
   · rw [if_pos (by omega), if_pos (by omega), show q - (i - (a + 1)) = a by omega]
     exact hO.asymmA (hl _ (by omega) (by omega))
   · rw [if_neg (by omega)]
     by_cases c3 : p < i - 1
     · rw [if_pos (by omega)]
       exact hs _ _ (by omega) (by omega) (by omega)
     · rw [if_neg (by omega)]
       by_cases c4 : p < i
       · rw [if_pos (by omega), show p - (i - (a + 1)) = a by omega]
         exact hr _ (by omega) (by omega)
       · rw [if_neg (by omega)]
         exact hs _ _ (by omega) (by omega) (by omega)
theorem merge_down (hO : SWO lt) {d d' : Array α} {a m i : Nat} (hb : m + 1 ≤ d.size) (hs : SortedIn lt a m d) (h1 : a ≤ i) (h2 : i ≤ m)
   (hl : ∀ p, a ≤ p → p < i → lt d[m]! d[p]! = false) (hr : ∀ p, i ≤ p → p < m → lt d[m]! d[p]! = true) (h : RotP d d' i m (m + 1)) : MergeP lt d d' a (m + 1) := by
 refine ⟨permIn_mono _ _ _ _ _ _ h1 (Nat.le_refl _) hb h.perm, fun p q hp hpq hq => ?_⟩
 rw [h.get, h.get]
 unfold rotF at_
 by_cases c1 : q < i
 · rw [if_neg (by omega), if_neg (by omega), if_neg (by omega), if_neg (by omega)]
   exact hs _ _ (by omega) (by omega) (by omega)
 · by_cases c2 : q = i
   · rw [if_pos (by omega), if_neg (by omega), if_neg (by omega), show q - i + m = m by omega]
     exact hl _ (by omega) (by omega)
   · rw [if_neg (by omega), if_pos (by omega)]
     by_cases c3 : p < i
     · rw [if_neg (by omega), if_neg (by omega)]
       exact hs _ _ (by omega) (by omega) (by omega)
     · by_cases c4 : p = i
       · rw [if_pos (by omega), show p - i + m = m by omega]
         exact hO.asymmA (hr _ (by omega) (by omega))
       · rw [if_neg (by omega), if_pos (by omega)]
         exact hs _ _ (by omega) (by omega) (by omega)
structure CutS (lt : α → α → Bool) (d : Array α) (a m b lo hi st r : Nat) : Prop where
 l1 : lo ≤ st
 l2 : st ≤ r
 l3 : r ≤ hi
 left : st = lo ∨ lt d[(a + b) / 2 + m - 1 - (st - 1)]! d[st - 1]! = false
 right : r = hi ∨ lt d[(a + b) / 2 + m - 1 - r]! d[r]! = true
theorem CutS.start {d : Array α} {a m b lo hi : Nat} (h : lo ≤ hi) : CutS lt d a m b lo hi lo hi := ⟨Nat.le_refl _, h, Nat.le_refl _, .inl rfl, .inl rfl⟩
theorem CutS.up {d : Array α} {a m b lo hi st r : Nat} (h : CutS lt d a m b lo hi st r) (hlt : st < r) (hc : lt d[(a + b) / 2 + m - 1 - (st + r) / 2]! d[(st + r) / 2]! = false) : CutS lt d a m b lo hi ((st + r) / 2 + 1) r :=
 ⟨by have := h.l1; omega, by omega, h.l3, .inr (by rw [Nat.add_sub_cancel]; exact hc), h.right⟩
theorem CutS.down {d : Array α} {a m b lo hi st r : Nat} (h : CutS lt d a m b lo hi st r) (hlt : st < r) (hc : lt d[(a + b) / 2 + m - 1 - (st + r) / 2]! d[(st + r) / 2]! = true) : CutS lt d a m b lo hi st ((st + r) / 2) :=
 ⟨h.l1, by omega, by have := h.l3; omega, h.left, .inr hc⟩
def loS (a m b : Nat) : Nat := if (a + b) / 2 < m then (a + b) / 2 + m - b else a
def hiS (a m b : Nat) : Nat := if (a + b) / 2 < m then (a + b) / 2 else m
structure CutP (lt : α → α → Bool) (d : Array α) (a m b st e : Nat) : Prop where
 s1 : a ≤ st
 s2 : st ≤ m
 e1 : m ≤ e
 e2 : e ≤ b
 m1 : st + (e - m) = (a + b) / 2
 m2 : (a + b) / 2 + (m - st) = e
 o1 : ∀ x y, a ≤ x → x < st → e ≤ y → y < b → lt d[y]! d[x]! = false
 o2 : ∀ x y, m ≤ x → x < e → st ≤ y → y < m → lt d[y]! d[x]! = false
theorem CutS.done (hO : SWO lt) {d : Array α} {a m b st : Nat} (ham : a < m) (hmb : m < b) (h1 : SortedIn lt a m d) (h2 : SortedIn lt m b d) (h : CutS lt d a m b (loS a m b) (hiS a m b) st st) : CutP lt d a m b st ((a + b) / 2 + m - st) := by
 obtain ⟨l1, -, l3, hl, hr⟩ := h
 have hlo : loS a m b = if (a + b) / 2 < m then (a + b) / 2 + m - b else a := rfl
 have hhi : hiS a m b = if (a + b) / 2 < m then (a + b) / 2 else m := rfl
 have k1 : a ≤ st := by rw [hlo] at l1; split at l1 <;> omega
 have k2 : st ≤ m := by rw [hhi] at l3; split at l3 <;> omega
 have k3 : m ≤ (a + b) / 2 + m - st := by rw [hhi] at l3; split at l3 <;> omega
 have k4 : (a + b) / 2 + m - st ≤ b := by rw [hlo] at l1; split at l1 <;> omega
 refine ⟨k1, k2, k3, k4, by omega, by omega, fun x y hx hxs hy hyb => ?_, fun x y hx hxe hy hym => ?_⟩
 · have hne : st ≠ loS a m b := by rw [hlo]; split <;> omega
   rcases hl with hl | hl
   · exact absurd hl hne
   · rw [show (a + b) / 2 + m - 1 - (st - 1) = (a + b) / 2 + m - st by omega] at hl
     have g1 := sorted_le hO h1 hx (show x ≤ st - 1 by omega) (by omega)
     have g2 := sorted_le hO h2 (show m ≤ (a + b) / 2 + m - st by omega) hy hyb
     exact hO.ntrans _ _ _ g2 (hO.ntrans _ _ _ hl g1)
 · have hne : st ≠ hiS a m b := by rw [hhi]; split <;> omega
   rcases hr with hr | hr
   · exact absurd hr hne
   · rw [show (a + b) / 2 + m - 1 - st = (a + b) / 2 + m - st - 1 by omega] at hr
     have g1 := sorted_le hO h2 hx (show x ≤ (a + b) / 2 + m - st - 1 by omega) (by omega)
     have g2 := sorted_le hO h1 k1 hy hym
     exact hO.ntrans _ _ _ g2 (hO.ntrans _ _ _ (hO.asymmA hr) g1)
structure Rotd (lt : α → α → Bool) (d1 : Array α) (a st mid e b : Nat) : Prop where
 s1 : SortedIn lt a st d1
 s2 : SortedIn lt st mid d1
 s3 : SortedIn lt mid e d1
 s4 : SortedIn lt e b d1
 le : LeAll lt d1 a mid b
theorem CutP.rotd {d d1 : Array α} {a m b st e : Nat} (h : CutP lt d a m b st e) (h1 : SortedIn lt a m d) (h2 : SortedIn lt m b d) (hr : RotP d d1 st m e) : Rotd lt d1 a st ((a + b) / 2) e b := by
 obtain ⟨k1, k2, k3, k4, k5, k6, o1, o2⟩ := h
 have g1 : ∀ x, x < st → d1[x]! = d[x]! := fun x hx => by rw [hr.get]; unfold rotF at_; rw [if_neg (by omega), if_neg (by omega)]
 have g2 : ∀ x, st ≤ x → x < (a + b) / 2 → d1[x]! = d[x - st + m]! := fun x _ hx => by rw [hr.get]; unfold rotF at_; rw [if_pos (by omega)]
 have g3 : ∀ x, (a + b) / 2 ≤ x → x < e → d1[x]! = d[x - (e - m)]! := fun x _ hx => by rw [hr.get]; unfold rotF at_; rw [if_neg (by omega), if_pos (by omega)]
 have g4 : ∀ x, e ≤ x → d1[x]! = d[x]! := fun x hx => by rw [hr.get]; unfold rotF at_; rw [if_neg (by omega), if_neg (by omega)]
 refine ⟨fun i j hi hij hj => ?_, fun i j hi hij hj => ?_, fun i j hi hij hj => ?_, fun i j hi hij hj => ?_, fun x y hx hxc hy hyb => ?_⟩
 · rw [g1 j hj, g1 i (by omega)]; exact h1 i j hi hij (by omega)
 · rw [g2 j (by omega) hj, g2 i hi (by omega)]; exact h2 _ _ (by omega) (by omega) (by omega)
 · rw [g3 j (by omega) hj, g3 i hi (by omega)]; exact h1 _ _ (by omega) (by omega) (by omega)
 · rw [g4 j (by omega), g4 i hi]; exact h2 _ _ (by omega) (by omega) (by omega)
 · by_cases c1 : x < st
   · rw [g1 x c1]
     by_cases c2 : y < e
     · rw [g3 y hy c2]; exact h1 _ _ hx (by omega) (by omega)
     · rw [g4 y (by omega)]; exact o1 x y hx c1 (by omega) hyb
   · rw [g2 x (by omega) hxc]
     by_cases c2 : y < e
     · rw [g3 y hy c2]; exact o2 _ _ (by omega) (by omega) (by omega) (by omega)
     · rw [g4 y (by omega)]; exact h2 _ _ (by omega) (by omega) (by omega)
theorem merge_none {d : Array α} {a c b : Nat} (h1 : SortedIn lt a c d) (h2 : SortedIn lt c b d) (h : ¬ (a < c ∧ c < b)) : MergeP lt d d a b := by
 refine ⟨permIn_refl _ _ _, fun i j hi hij hj => ?_⟩
 by_cases k : a < c
 · exact h1 i j hi hij (by omega)
 · exact h2 i j (by omega) hij hj
theorem merge_whole {d d1 d2 d3 : Array α} {a b st e mid : Nat} (ham : a ≤ mid) (hmb : mid ≤ b) (hb : b ≤ d.size) (hp : PermIn a b d d1) (h : Rotd lt d1 a st mid e b) (h1 : MergeP lt d1 d2 a mid) (h2 : MergeP lt d2 d3 mid b) : MergeP lt d d3 a b := by
 have z1 := hp.1
 have z2 := h1.perm.1
 refine ⟨permIn_trans _ _ _ _ _ hp (permIn_trans _ _ _ _ _ (permIn_mono _ _ _ _ _ _ (Nat.le_refl _) hmb (by omega) h1.perm) (permIn_mono _ _ _ _ _ _ ham (Nat.le_refl _) (by omega) h2.perm)), ?_⟩
 refine sorted_join (c := mid) (SortedIn.congr h1.sorted fun i hi hj => h2.perm.2.1 i (.inl hj)) h2.sorted ?_
 have l2 : LeAll lt d2 a mid b := fun x y hx hxc hy hyb => by
  rw [h1.perm.2.1 y (.inr hy)]
  exact permIn_all d1 d2 a mid (fun v => lt d1[y]! v = false) (by omega) h1.perm (fun i hi hj => h.le i y hi hj hy hyb) x hx hxc
 intro x y hx hxc hy hyb
 rw [h2.perm.2.1 x (.inl hxc)]
 exact permIn_all d2 d3 mid b (fun v => lt v d2[x]! = false) (by omega) h2.perm (fun i hi hj => l2 x i hx hxc hi hj) y hy hyb
theorem sorted_out {d d' : Array α} {a b c e : Nat} (h : SortedIn lt c e d) (hp : PermIn a b d d') (ho : e ≤ a ∨ b ≤ c) : SortedIn lt c e d' := h.congr fun i hi hj => hp.2.1 i (by omega)
def Blks (lt : α → α → Bool) (s n t : Nat) (d : Array α) : Prop := ∀ u, t ≤ u → SortedIn lt (u * s) (min (u * s + s) n) d
def Done (lt : α → α → Bool) (s t : Nat) (d : Array α) : Prop := ∀ u, u < t → SortedIn lt (u * s) (u * s + s) d
theorem mul_succ_le {u t s : Nat} (h : u < t) : u * s + s ≤ t * s := by
 have := Nat.mul_le_mul_right s (show u + 1 ≤ t from h)
 rwa [Nat.add_mul, Nat.one_mul] at this
theorem Done.step {s t : Nat} {d d' : Array α} (h : Done lt s t d) (hm : MergeP lt d d' (t * s) (t * s + s)) : Done lt s (t + 1) d' := fun u hu => by
 by_cases e : u = t
 · subst e; exact hm.sorted
 · exact sorted_out (h u (by omega)) hm.perm (.inl (mul_succ_le (by omega)))
theorem Done.whole {s t n : Nat} {d d' : Array α} (h : Done lt s t d) (h1 : t * s ≤ n) (hn : n < t * s + s) (hm : MergeP lt d d' (t * s) n) : Blks lt s n 0 d' := fun u _ => by
 by_cases e : u < t
 · have := mul_succ_le (s := s) e
   rw [Nat.min_eq_left (by omega)]
   exact sorted_out (h u e) hm.perm (.inl this)
 · by_cases e2 : u = t
   · subst e2
     rw [Nat.min_eq_right (by omega)]
     exact hm.sorted
   · have := mul_succ_le (s := s) (show t < u by omega)
     intro i j hi hij hj
     have : min (u * s + s) n ≤ n := Nat.min_le_right _ _
     omega
theorem Blks.out {s n t t' : Nat} {a b : Nat} {d d' : Array α} (h : Blks lt s n t d) (hp : PermIn a b d d') (ht : t ≤ t') (ho : b ≤ t' * s) : Blks lt s n t' d' := fun u hu =>
 sorted_out (h u (by omega)) hp (.inr (Nat.le_trans ho (Nat.mul_le_mul_right s hu)))
theorem Blks.at_ {s n t : Nat} {d : Array α} (h : Blks lt s n t d) (hn : t * s + s ≤ n) : SortedIn lt (t * s) (t * s + s) d := by
 have := h t (Nat.le_refl _)
 rwa [Nat.min_eq_left hn] at this
theorem Blks.last {s n t : Nat} {d : Array α} (h : Blks lt s n t d) (hn : n ≤ t * s + s) : SortedIn lt (t * s) n d := by
 have := h t (Nat.le_refl _)
 rwa [Nat.min_eq_right hn] at this
theorem Blks.one {s n : Nat} {d : Array α} (h : Blks lt s n 0 d) (hn : n ≤ s) : SortedIn lt 0 n d := by
 have := h.last (by omega)
 rwa [Nat.zero_mul] at this
end Go.Proofs.YtkaipknkjocfiaaGreat
