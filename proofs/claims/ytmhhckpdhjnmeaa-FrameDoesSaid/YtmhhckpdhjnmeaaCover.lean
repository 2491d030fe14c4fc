/- span.covered: a function value that tells whether an address is of a good one. The making. -/
import Derived.Test.YtmhhckpdhjnmeaaRise
import Derived.Test.YtmhhckpdhjnmeaaApp
import Derived.Laws.MakeOwn
namespace Go.Proofs.Ytmhhckpdhjnmeaa
open Go.RowKit

def u64s (l : List Nat) : List Value := l.map fun (n : Nat) => Value.int .u64 (n : Int)
theorem u64s_one (l : List Nat) : ∀ u ∈ u64s l, u.oneCell' = true := by
  intro u hu
  obtain ⟨b, _, rfl⟩ := List.mem_map.1 hu
  rfl
theorem u64_info : (Try.prog.info? 22).map (fun i => (i.zero, i.size, i.bytes)) = some (some (.int .u64 0), 1, 8) := by kernel_rfl
theorem make_u64 (n : Nat) (hn : n ≤ 1000000) : ∃ cur : Array Value, cur.size = n ∧ ∀ w : World,
    (Instr.makeSlice 31 (.int .i64 0) (.int .i64 (n : Int))).run Try.prog w = .ok (.slice (some ⟨w.heap.size, 0, none⟩) 0 n) (w.alloc (.cells cur 22)) := by
  obtain ⟨i0, hi, hz0, hz1, hz2⟩ := info_parts u64_info
  refine ⟨madeCells (Value.int .u64 0).cells (n * i0.size), by rw [size_madeCells, hz1, Nat.mul_one], fun w => ?_⟩
  have := run_make (P := Try.prog) w 31 22 i0 (.int .u64 0) Try.underlying31 hi hz0 .i64 .i64 0 (n : Int) (Int.le_refl _) (by omega) (by rw [hz2]; omega) (by omega)
  simpa using this

def reachTo (r : List Sp) (k : Nat) : Nat := (r.take k).foldl (fun f x => max f (last x)) 0
theorem reachTo_succ (r : List Sp) (k : Nat) (h : k < r.length) : reachTo r (k + 1) = max (reachTo r k) (last r[k]) := by
  unfold reachTo
  rw [List.take_succ_eq_append_getElem h, List.foldl_append]
  rfl
theorem reachTo_lt (r : List Sp) (k : Nat) : reachTo r k < 18446744073709551616 := by
  unfold reachTo
  have : ∀ (l : List Sp) (f : Nat), f < 18446744073709551616 → l.foldl (fun f x => max f (last x)) f < 18446744073709551616 := by
    intro l
    induction l with
    | nil => intro f h; exact h
    | cons x l ih => intro f h; rw [List.foldl_cons]; exact ih _ (by have := last_lt x; omega)
  exact this _ 0 (by decide)
def reachL (r : List Sp) (k : Nat) : List Nat := (List.range k).map fun i => reachTo r (i + 1)
theorem reachL_succ (r : List Sp) (k : Nat) : reachL r (k + 1) = reachL r k ++ [reachTo r (k + 1)] := by simp [reachL, List.range_succ]
theorem reachL_length (r : List Sp) (k : Nat) : (reachL r k).length = k := by simp [reachL]

/-- The two boxes that the function value captures: the spans by their bases, how far they reach. -/
def CovAt (W : World) (r : List Sp) (bB bR : Nat) : Prop := ∃ A c A2 c2, bB < W.heap.size ∧ bR < W.heap.size ∧ W.cell? ⟨bB, 0, none⟩ = some (.slice A r.length c) ∧ Row W W.heap.size A r ∧
  W.cell? ⟨bR, 0, none⟩ = some (.slice A2 r.length c2) ∧ Lies W W.heap.size 1 A2 r.length (u64s (reachL r r.length))
theorem CovAt.below {W W' : World} {r : List Sp} {bB bR : Nat} (h : CovAt W r bB bR) (hb : Below W.heap.size W W') : CovAt W' r bB bR := by
  obtain ⟨A, c, A2, c2, h1, h2, h3, h4, h5, h6⟩ := h
  exact ⟨A, c, A2, c2, Nat.lt_of_lt_of_le h1 hb.size, Nat.lt_of_lt_of_le h2 hb.size, (hb.cell (p := ⟨bB, 0, none⟩) h1).trans h3, (h4.below hb).wide hb.size, (hb.cell (p := ⟨bR, 0, none⟩) h2).trans h5, (h6.below hb).wide hb.size⟩

set_option maxHeartbeats 1000000 in
theorem rising_len {l r : List Sp} (h : Rising (l.filter good) r) : r.length ≤ l.length := by
  rw [h.1.length_eq]; exact List.length_filter_le _ _
theorem rising_fit {l r : List Sp} (hl : ∀ x ∈ l, fit x) (h : Rising (l.filter good) r) : ∀ x ∈ r, fit x := fun x hx => hl x (List.mem_filter.1 (h.1.mem_iff.1 hx)).1
set_option maxRecDepth 100000 in
set_option maxHeartbeats 1000000 in
theorem covered_any (A : Option Addr) (cap : Nat) (l : List Sp) (hl : ∀ x ∈ l, fit x) (hlen : l.length ≤ 100000) (w : World) (hR : Row w w.heap.size A l) :
    Calls Try.prog 37 #[.slice A l.length cap] w fun e w' => ∃ r bB bR, Rising (l.filter good) r ∧ e = .returned (.func (.func 48) #[] #[.pointer (some ⟨bB, 0, none⟩), .pointer (some ⟨bR, 0, none⟩)]) ∧ CovAt w' r bB bR ∧ Below w.heap.size w w' := by
  have Hr := Lib.hid (rising_any A cap l hl hlen w hR)
  have Hl := Lib.hid hl
  have Hlen := Lib.hid hlen
  clear hR hl hlen
  obtain ⟨i0, hi, hz0, hz1, hz2⟩ := info_parts u64_info
  have Hi := Lib.hid (And.intro hi (And.intro hz0 (And.intro hz1 hz2)))
  clear hi hz0 hz1 hz2
  go_enter Try.func37, Try.ntmps37
  go_wp2_with (go_at_call 47; refine Hr.out.mono ?_; rintro e w1 ⟨v, r, rfl, hri, ho, hb⟩; obtain ⟨A1, c1, rfl, hrow⟩ := ho.row; have hrl := Nat.le_trans (rising_len hri) Hlen.out; obtain ⟨cur, hcur, hmk⟩ := make_u64 r.length (by omega); have Hrl := Lib.hid hrl; have Hri := Lib.hid hri; have Hb := Lib.hid hb; have Hrow := Lib.hid hrow; have Hcur := Lib.hid hcur; clear hri hb hrow ho hcur hrl)
  clear hmk Hr
  obtain ⟨w2, hw2⟩ : ∃ w2, w2 = w1.alloc (.cells #[.slice A1 r.length c1] 46) := ⟨_, rfl⟩
  obtain ⟨W0, hW0⟩ : ∃ W0, W0 = (w2.alloc (.cells cur 22)).alloc (.cells #[.slice (some ⟨w1.heap.size + 1, 0, none⟩) 0 r.length] 31) := ⟨_, rfl⟩
  have hs2 : w2.heap.size = w1.heap.size + 1 := by rw [hw2]; simp
  have hown0 : W0.ownsRow w2.heap.size 22 1 (.slice (some ⟨w1.heap.size + 1, 0, none⟩) 0 r.length) 0 (u64s []) := by
    rw [hW0, ← hs2]
    exact (World.ownsRow_made w2 cur _ (Nat.le_refl _) (by have := Hrl.out; unfold maxLen; omega) (by rw [Hcur.out, Nat.mul_one])).alloc _
  have hbox0 : Boxed W0 (w1.heap.size + 1 + 1) 31 (.slice (some ⟨w1.heap.size + 1, 0, none⟩) 0 r.length) := by
    have := Boxed.new (w2.alloc (.cells cur 22)) 31 (.slice (some ⟨w1.heap.size + 1, 0, none⟩) 0 r.length)
    rw [World.size_alloc, hs2] at this
    rw [hW0]; exact this
  have hbel0 : Below w2.heap.size w2 W0 := by rw [hW0]; exact ((Below.refl _ w2).alloc (Nat.le_refl _) _).alloc (by simp) _
  have hby : w2.cell? ⟨w1.heap.size, 0, none⟩ = some (.slice A1 r.length c1) := by rw [hw2]; simp
  have hrow2 : Row w2 w2.heap.size A1 r := by rw [hw2]; exact (Hrow.out.alloc (Nat.le_refl _) _).wide (by simp)
  have hb2 : Below w.heap.size w w2 := by rw [hw2]; exact Hb.out.alloc Hb.out.size _
  rw [← hw2, ← hW0]
  have Hs2 := Lib.hid hs2
  have Hby := Lib.hid hby
  have Hrow2 := Lib.hid hrow2
  have Hb2 := Lib.hid hb2
  clear hw2 hW0 hs2 hby hrow2 hb2 Hb Hrow Hcur
  go_loopw [5, 15] (fun f i W => ∃ k : Nat, k ≤ r.length ∧ i = .int .i64 k ∧ f = .int .u64 (reachTo r k : Nat) ∧ (∃ v, Boxed W (w1.heap.size + 1 + 1) 31 v ∧ W.ownsRow w2.heap.size 22 1 v k (u64s (reachL r k))) ∧ Below w2.heap.size w2 W) (fun _ i _ => r.length - (intOf i).toNat)
  case atStart => exact ⟨0, Nat.zero_le _, rfl, rfl, ⟨_, hbox0, hown0⟩, hbel0⟩
  case round =>
    obtain ⟨k, hk, rfl, rfl, ⟨v, hv, hown⟩, hbel⟩ := hrel
    clear hbox0 hown0 hbel0
    by_cases hlt : k < r.length
    · obtain ⟨a, p, rfl, hp, hpb, hc1, hc2⟩ := (Hrow2.out.below hbel).at hlt
      have hfit := rising_fit Hl.out Hri.out _ (List.getElem_mem hlt)
      have hsucc := reachTo_succ r k hlt
      obtain ⟨x, hx⟩ : ∃ x, r[k] = x := ⟨_, rfl⟩
      rw [hx] at hc1 hc2 hfit hsucc
      obtain ⟨b, s⟩ := x
      obtain ⟨hi, hz0, hz1, hz2⟩ := Hi.out
      have hvc := ((hv.alloc (spo b s)).alloc (spo b s)).alloc (spo b s)
      have hcell := hvc.cell
      have Hx := Lib.hid hfit
      have HX := Lib.hid hx
      have Hbel := Lib.hid hbel
      have Hown := Lib.hid (((hown.alloc (spo b s)).alloc (spo b s)).alloc (spo b s))
      have Hv := Lib.hid hvc
      have Hk := Lib.hid hk
      have hb3 : k + 1 ≤ 1000000 := by have := Hrl.out; omega
      have Hb3 := Lib.hid hb3
      have Hsz : w2.heap.size ≤ wr.heap.size := hbel.size
      have HSZ := Lib.hid Hsz
      clear hfit hx hpb hown hv hvc hbel Hsz
      have hfin : ∀ (f : Nat) (v' : Value) (W1 : World), f = reachTo r (k + 1) → W1.ownsRow w2.heap.size 22 1 v' (k + 1) (u64s (reachL r k) ++ u64s [f]) → W1.ownsRow w2.heap.size 22 1 v' (k + 1) (u64s (reachL r (k + 1))) := by
        intro f v' W1 hf h
        rw [reachL_succ, ← hf]
        simpa [u64s] using h
      have hmax : max ((reachTo r k : Nat) : Int) ((last (b, s) : Nat) : Int) = ((reachTo r (k + 1) : Nat) : Int) := by rw [hsucc]; omega
      clear hsucc
      have hlies : Lies ((((wr.alloc (spo b s)).alloc (spo b s)).alloc (spo b s)).alloc (.cells #[.int .u64 ((reachTo r (k + 1) : Nat) : Int)] 22)) (wr.heap.size + 1 + 1 + 1 + 1) 1 (some ⟨wr.heap.size + 1 + 1 + 1, 0, none⟩) 1 (u64s [reachTo r (k + 1)]) := by
        have := lies_new (((wr.alloc (spo b s)).alloc (spo b s)).alloc (spo b s)) #[.int .u64 ((reachTo r (k + 1) : Nat) : Int)] 22 1 (u64s [reachTo r (k + 1)]) rfl rfl
        simpa using this
      have Hlies := Lib.hid hlies
      clear hlies
      go_wp2_with (first
        | (go_at_call 43; refine (last_any b s Hx.out _).mono ?_; rintro e w3 ⟨rfl, rfl⟩)
        | (at_builtin; refine wpList_app rfl (.tmp 23) (.tmp 25) 31 rfl w2.heap.size 22 i0 (.int .u64 0) 8 Try.underlying31 hi hz0 hz1 hz2 rfl _ _ _ rfl (Hown.out.alloc _) _ _ _ _ (u64s [reachTo r (k + 1)]) rfl Hlies.out (u64s_one _) (by have := Hb3.out; unfold maxLen; omega) (by have := Hb3.out; omega) (by have := HSZ.out; simp; omega) ?_; intro v' w1' h1 h2 h3; obtain ⟨g', cap', rfl⟩ := ownsRow_succ h1; obtain ⟨hv1, hv2, hr2, _, hb2⟩ := Hv.out.appended (by decide) Hown.out (by have := HSZ.out; simp; omega) (by have := Hs2.out; omega) h1 h2; have hc5 := hv1.cell; have hf5 := hv1.frozen; have Hv2 := Lib.hid hv2; have Hr2 := Lib.hid hr2; have Hb5 := Lib.hid hb2; clear hv1 hv2 hr2 hb2 h1 h2 h3))
      go_roundw
      case rel => exact ⟨k + 1, by omega, by go_num, rfl, ⟨_, Hv2.out, hfin _ _ _ rfl Hr2.out⟩, (((Hbel.out.alloc Hbel.out.size _).alloc (by have := HSZ.out; simp; omega) _).alloc (by have := HSZ.out; simp; omega) _).trans Hb5.out⟩
      case measure => simp [intOf]; omega
    · obtain rfl : k = r.length := by omega
      have Hv := Lib.hid hv
      have Hown := Lib.hid hown
      have Hbel := Lib.hid hbel
      clear hv hown hbel
      go_wp2
      go_ret
      obtain ⟨A2, c2, rfl, hl2⟩ := owns_form Hown.out
      refine ⟨r, _, _, Hri.out, rfl, ⟨A1, c1, A2, c2, ?_, Hv.out.lt, ?_, ?_, Hv.out.cell, hl2⟩, Hb2.out.trans (Hbel.out.mono Hb2.out.size)⟩
      · have := Hbel.out.size; have := Hs2.out; omega
      · exact (Hbel.out.cell (p := ⟨w1.heap.size, 0, none⟩) (by have := Hs2.out; simp; omega)).trans Hby.out
      · exact (Hrow2.out.below Hbel.out).wide Hbel.out.size

end Go.Proofs.Ytmhhckpdhjnmeaa
