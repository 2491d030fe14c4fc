/- choosePivotOrdered: some place inside, away from the ends; the row is only read. -/
import Derived.Test.YthedpjlafapfeaaPart2
import Derived.OwnWalk
import Derived.Sort.AtCall
namespace Go.Proofs.Ythedpjlafapfeaa
open Go.RowKit Go.Shelf Go.Lib Go.Sort Go.Proofs

theorem below_drewN {B : Nat} {a w : World} (h : RowKit.Below B a w) (q : Nat) : RowKit.Below B a (w.drewN q) := ⟨h.os, h.tape, h.output, h.size, h.block⟩
/-- The count of swaps has a box of its own. -/
def Box (sb : Nat) (W : World) : Prop := ∃ s : Int, W.cell? ⟨sb, 0, none⟩ = some (.int .i64 s) ∧ W.frozen? ⟨sb, 0, none⟩ = false
theorem box_set {sb : Nat} {W : World} {s : Int} (x : Int) (h : W.cell? ⟨sb, 0, none⟩ = some (.int .i64 s)) (hf : W.frozen? ⟨sb, 0, none⟩ = false) : Box sb (W.setCell ⟨sb, 0, none⟩ (.int .i64 x)) :=
  ⟨x, World.cell?_setCell_same _ _ _ h, by rw [World.frozen?_setCell]; exact hf⟩

set_option maxHeartbeats 4000000 in
set_option maxRecDepth 100000 in
theorem order2_any (blk off cap m sb a b L U : Nat) (G : Nat → Int) (w : World) (hc : ∀ t, t < m → w.cell? ⟨blk, off + t, none⟩ = some (.int .u64 (G t))) (hU : U ≤ m) (hbx : Box sb w) (h1 : L ≤ a) (h2 : a < U) (h3 : L ≤ b) (h4 : b < U) :
    Calls Try.prog 88 #[.slice (some ⟨blk, off, none⟩) m cap, .int .i64 a, .int .i64 b, .pointer (some ⟨sb, 0, none⟩)] w fun e w' =>
      ∃ x y : Nat, e = .returned (.tuple #[.int .i64 x, .int .i64 y]) ∧ (L ≤ x ∧ x < U ∧ L ≤ y ∧ y < U) ∧ Box sb w' ∧ RowKit.Below sb w w' := by
  obtain ⟨s, hs, hfs⟩ := hbx
  go_enter Try.func88, Try.ntmps88
  go_wp2_with fail
  go_big_quiet (first | (go_at_call 67; refine Calls.quiet_of_same (less_any _ _ _)))
  have hs2 : (w.drewN nq).cell? ⟨sb, 0, none⟩ = some (.int .i64 s) := hs
  have hfs2 : (w.drewN nq).frozen? ⟨sb, 0, none⟩ = false := hfs
  have HB := Lib.hid (below_drewN (RowKit.Below.refl sb w) nq)
  clear hc hs hfs
  generalize w.drewN nq = W at hs2 hfs2 HB ⊢
  go_wp2_with fail
  · go_ret2
    exact ⟨b, a, rfl, ⟨h3, h4, h1, h2⟩, box_set _ hs2 hfs2, HB.out.setCell (Nat.le_refl _) _⟩
  · go_ret2
    exact ⟨a, b, rfl, ⟨h1, h2, h3, h4⟩, ⟨s, hs2, hfs2⟩, HB.out⟩

set_option maxHeartbeats 4000000 in
set_option maxRecDepth 100000 in
theorem median_any (blk off cap m sb a b c L U : Nat) (G : Nat → Int) (w : World) (hc : ∀ t, t < m → w.cell? ⟨blk, off + t, none⟩ = some (.int .u64 (G t))) (hU : U ≤ m) (hlt : blk < sb) (hbx : Box sb w) (h1 : L ≤ a) (h2 : a < U) (h3 : L ≤ b) (h4 : b < U) (h5 : L ≤ c) (h6 : c < U) :
    Calls Try.prog 84 #[.slice (some ⟨blk, off, none⟩) m cap, .int .i64 a, .int .i64 b, .int .i64 c, .pointer (some ⟨sb, 0, none⟩)] w fun e w' =>
      ∃ x : Nat, e = .returned (.int .i64 x) ∧ (L ≤ x ∧ x < U) ∧ Box sb w' ∧ RowKit.Below sb w w' := by
  have O := Lib.hid (show ∀ (W : World) (a b : Nat), RowKit.Below sb w W → Box sb W → L ≤ a → a < U → L ≤ b → b < U → _ from fun W a b hW hB k1 k2 k3 k4 =>
    order2_any blk off cap m sb a b L U G W (fun t ht => (hW.cell hlt).trans (hc t ht)) hU hB k1 k2 k3 k4)
  have HX := Lib.hid hbx
  clear hc hbx
  go_enter Try.func84, Try.ntmps84
  go_wp2_with (first
    | (go_at_call_has 88 (Value.int .i64 (a : Int)); refine (O.out w a b (RowKit.Below.refl _ _) HX.out h1 h2 h3 h4).mono ?_; rintro e w1 ⟨x1, y1, rfl, ⟨i1, i2, i3, i4⟩, hb1, hw1⟩; have HB1 := Lib.hid hb1; have HW1 := Lib.hid hw1; clear hb1 hw1)
    | (go_at_call_has 88 (Value.int .i64 (c : Int)); refine (O.out w1 y1 c HW1.out HB1.out i3 i4 h5 h6).mono ?_; rintro e w2 ⟨x2, y2, rfl, ⟨j1, j2, j3, j4⟩, hb2, hw2⟩; have HB2 := Lib.hid hb2; have HW2 := Lib.hid (HW1.out.trans hw2); clear hb2 hw2)
    | (go_at_call_has 88 (Value.int .i64 (x2 : Int)); refine (O.out w2 x1 x2 HW2.out HB2.out i1 i2 j1 j2).mono ?_; rintro e w3 ⟨x3, y3, rfl, ⟨k1, k2, k3, k4⟩, hb3, hw3⟩; have HB3 := Lib.hid hb3; have HW3 := Lib.hid (HW2.out.trans hw3); clear hb3 hw3))
  go_ret
  exact ⟨y3, rfl, ⟨k3, k4⟩, HB3.out, HW3.out⟩

set_option maxHeartbeats 4000000 in
set_option maxRecDepth 100000 in
theorem medadj_any (blk off cap m sb : Nat) (L U : Nat) (G : Nat → Int) (w : World) (hc : ∀ t, t < m → w.cell? ⟨blk, off + t, none⟩ = some (.int .u64 (G t))) (hU : U ≤ m) (hm : m < 1000000) (hlt : blk < sb) (hbx : Box sb w) (z : Int) (a : Nat) (hz : z = (a + 1 : Nat)) (h1 : L ≤ a) (h2 : a + 2 < U) :
    Calls Try.prog 83 #[.slice (some ⟨blk, off, none⟩) m cap, .int .i64 z, .pointer (some ⟨sb, 0, none⟩)] w fun e w' =>
      ∃ x : Nat, e = .returned (.int .i64 x) ∧ (L ≤ x ∧ x < U) ∧ Box sb w' ∧ RowKit.Below sb w w' := by
  have hM := median_any blk off cap m sb a (a + 1) (a + 2) L U G w hc hU hlt hbx (by omega) (by omega) (by omega) (by omega) (by omega) (by omega)
  rw [show ((a : Nat) : Int) = z - 1 by omega, ← hz, show ((a + 2 : Nat) : Int) = z + 1 by omega] at hM
  have HM := Lib.hid hM
  have hz1 : 0 ≤ z := by omega
  have hz2 : z ≤ 1000000 := by omega
  clear hM hc hbx hz
  go_enter Try.func83, Try.ntmps83
  go_wp2_with (go_at_call 84; refine HM.out.mono ?_; rintro e w1 ⟨x, rfl, hx, hb, hw⟩)
  go_ret
  exact ⟨x, rfl, hx, hb, hw⟩

set_option maxHeartbeats 4000000 in
set_option maxRecDepth 100000 in
theorem pivot_any (blk off cap m a N : Nat) (G : Nat → Int) (w : World) (hc : ∀ t, t < m → w.cell? ⟨blk, off + t, none⟩ = some (.int .u64 (G t))) (hN : 12 < N) (hb : a + N ≤ m) (hm : m < 1000000) (hlt : blk < w.heap.size) :
    Calls Try.prog 64 #[.slice (some ⟨blk, off, none⟩) m cap, .int .i64 a, .int .i64 ((a : Int) + N)] w fun e w' =>
      ∃ (p : Nat) (h : Int), e = .returned (.tuple #[.int .i64 p, .int .i64 h]) ∧ (a + 1 ≤ p ∧ p < a + N - 1) ∧ (h = 0 ∨ h = 1 ∨ h = 2) ∧ RowKit.Below w.heap.size w w' := by
  have hs : (w.alloc (.cells #[.int .i64 0] 3)).heap.size = w.heap.size + 1 := by simp
  obtain ⟨W0, hW0⟩ : ∃ W0, W0 = w.alloc (.cells #[.int .i64 0] 3) := ⟨_, rfl⟩
  have HW0 := Lib.hid hW0
  have HX0 := Lib.hid (show Box w.heap.size W0 from ⟨0, by rw [hW0]; simp, by rw [hW0]; simp⟩)
  have HB0 := Lib.hid (show RowKit.Below w.heap.size w W0 by rw [hW0]; exact (RowKit.Below.refl _ w).alloc (Nat.le_refl _) _)
  have hc0 : ∀ (W : World), RowKit.Below w.heap.size w W → ∀ t, t < m → W.cell? ⟨blk, off + t, none⟩ = some (.int .u64 (G t)) := fun W hW t ht => (hW.cell (p := ⟨blk, off + t, none⟩) hlt).trans (hc t ht)
  have M := Lib.hid (show ∀ (W : World) (x y z : Nat), RowKit.Below w.heap.size w W → Box w.heap.size W → a + 1 ≤ x → x < a + N - 1 → a + 1 ≤ y → y < a + N - 1 → a + 1 ≤ z → z < a + N - 1 → ∀ (X Y Z : Int), X = x → Y = y → Z = z → _ from fun W x y z hW hB k1 k2 k3 k4 k5 k6 X Y Z e1 e2 e3 => by
    have := median_any blk off cap m w.heap.size x y z (a + 1) (a + N - 1) G W (hc0 W hW) (by omega) hlt hB k1 k2 k3 k4 k5 k6
    rw [← e1, ← e2, ← e3] at this
    exact this)
  have A := Lib.hid (show ∀ (W : World) (z : Int) (x : Nat), RowKit.Below w.heap.size w W → Box w.heap.size W → z = (x + 1 : Nat) → a + 1 ≤ x → x + 2 < a + N - 1 → _ from fun W z x hW hB e k1 k2 =>
    medadj_any blk off cap m w.heap.size (a + 1) (a + N - 1) G W (hc0 W hW) (by omega) hm hlt hB z x e k1 k2)
  obtain ⟨q, hq⟩ : ∃ q, q = N / 4 := ⟨_, rfl⟩
  have HQ := Lib.hid (show (N : Int) / 4 = (q : Int) ∧ 4 * q ≤ N ∧ N < 4 * q + 4 by omega)
  clear hc hc0 hW0 hs hq
  by_cases h50 : 50 ≤ N
  · have h50z : 50 ≤ (N : Int) := by omega
    have h8z : 8 ≤ (N : Int) := by omega
    go_enter Try.func64, Try.ntmps64
    go_wp2_with fail
    simp only [show (a : Int) + N - a = N from by omega]
    rw [← HW0.out]
    go_wp2_with (first
      | (go_at_call_has 83 (Value.int .i64 ((a : Int) + (N : Int) / 4)); refine (A.out W0 _ (a + q - 1) HB0.out HX0.out (by have := HQ.out; omega) (by have := HQ.out; omega) (by have := HQ.out; omega)).mono ?_; rintro e w1 ⟨x1, rfl, ⟨i1, j1⟩, hb1, hw1⟩; have HX1 := Lib.hid hb1; have HB1 := Lib.hid ((HB0.out).trans hw1); clear hb1 hw1)
      | (go_at_call_has 83 (Value.int .i64 ((a : Int) + (N : Int) / 4 * 2)); refine (A.out w1 _ (a + 2 * q - 1) HB1.out HX1.out (by have := HQ.out; omega) (by have := HQ.out; omega) (by have := HQ.out; omega)).mono ?_; rintro e w2 ⟨x2, rfl, ⟨i2, j2⟩, hb2, hw2⟩; have HX2 := Lib.hid hb2; have HB2 := Lib.hid ((HB1.out).trans hw2); clear hb2 hw2)
      | (go_at_call_has 83 (Value.int .i64 ((a : Int) + (N : Int) / 4 * 3)); refine (A.out w2 _ (a + 3 * q - 1) HB2.out HX2.out (by have := HQ.out; omega) (by have := HQ.out; omega) (by have := HQ.out; omega)).mono ?_; rintro e w3 ⟨x3, rfl, ⟨i3, j3⟩, hb3, hw3⟩; have HX3 := Lib.hid hb3; have HB3 := Lib.hid ((HB2.out).trans hw3); clear hb3 hw3)
      | (go_at_call 84; refine (M.out w3 x1 x2 x3 HB3.out HX3.out (by have := HQ.out; omega) (by have := HQ.out; omega) (by have := HQ.out; omega) (by have := HQ.out; omega) (by have := HQ.out; omega) (by have := HQ.out; omega) _ _ _ (by have := HQ.out; omega) (by have := HQ.out; omega) (by have := HQ.out; omega)).mono ?_; rintro e w4 ⟨x4, rfl, ⟨i4, j4⟩, ⟨s, hs, hfs⟩, hw4⟩; have HB4 := Lib.hid ((HB3.out).trans hw4); clear hw4))
    all_goals go_ret2
    · exact ⟨x4, 1, rfl, ⟨i4, j4⟩, by simp, HB4.out⟩
    · exact ⟨x4, 2, rfl, ⟨i4, j4⟩, by simp, HB4.out⟩
    · exact ⟨x4, 0, rfl, ⟨i4, j4⟩, by simp, HB4.out⟩
  · have h50z : ¬ (50 ≤ (N : Int)) := by omega
    have h8z : 8 ≤ (N : Int) := by omega
    go_enter Try.func64, Try.ntmps64
    go_wp2_with fail
    simp only [show (a : Int) + N - a = N from by omega]
    rw [← HW0.out]
    go_wp2_with (go_at_call 84; refine (M.out W0 (a + q) (a + 2 * q) (a + 3 * q) HB0.out HX0.out (by have := HQ.out; omega) (by have := HQ.out; omega) (by have := HQ.out; omega) (by have := HQ.out; omega) (by have := HQ.out; omega) (by have := HQ.out; omega) _ _ _ (by have := HQ.out; omega) (by have := HQ.out; omega) (by have := HQ.out; omega)).mono ?_; rintro e w4 ⟨x4, rfl, ⟨i4, j4⟩, ⟨s, hs, hfs⟩, hw4⟩; have HB4 := Lib.hid ((HB0.out).trans hw4); clear hw4)
    all_goals go_ret2
    · exact ⟨x4, 1, rfl, ⟨i4, j4⟩, by simp, HB4.out⟩
    · exact ⟨x4, 2, rfl, ⟨i4, j4⟩, by simp, HB4.out⟩
    · exact ⟨x4, 0, rfl, ⟨i4, j4⟩, by simp, HB4.out⟩
end Go.Proofs.Ythedpjlafapfeaa
