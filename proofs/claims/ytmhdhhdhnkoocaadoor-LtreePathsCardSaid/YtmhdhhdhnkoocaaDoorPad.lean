/- sha.Pad, and the reference's. -/
import Derived.Test.YtmhdhhdhnkoocaaDoorTake
import Derived.Test.YtmhdhhdhnkoocaaDoorRPut
import Derived.Test.YtmhdhhdhnkoocaaDoorPut64
import Derived.Laws.MakeOwn
namespace Go.Proofs.YtmhdhhdhnkoocaaDoor
open Go.RowKit

/-- so many bytes 0x80, 0, 0 .. -/
def mark (k : Nat) : List UInt8 := 128 :: List.replicate k 0
set_option maxRecDepth 100000 in
theorem mark_length (k : Nat) : (mark k).length = k + 1 := by simp [mark]
set_option maxRecDepth 100000 in
theorem mark_succ (k : Nat) : mark (k + 1) = mark k ++ [0] := by simp [mark, List.replicate_succ']
/-- how many bytes 0 -/
def zeros (n : Nat) : Nat := 63 - (n % 64 + 8) % 64
def padL (n : Nat) : List UInt8 := mark (zeros n) ++ numBytes 0 8 (8 * n % 18446744073709551616)
set_option maxRecDepth 100000 in
theorem padL_length (n : Nat) : (padL n).length = zeros n + 9 := by simp [padL, mark_length, numBytes_length]
set_option maxRecDepth 100000 in
theorem padL_whole (n : Nat) : (n + (padL n).length) % 64 = 0 := by rw [padL_length]; unfold zeros; omega

def bz : Nat → Value := fun _ => .int .u8 0
set_option maxRecDepth 100000 in
theorem make_u8z (n : Nat) (hn : n ≤ 140737488355328) (w : World) :
    (Instr.makeSlice 67 (.int .u64 (n : Int)) (.int .u64 (n : Int))).run Tryd.prog w = .ok (.slice (some ⟨w.heap.size, 0, none⟩) n n) (w.alloc (.cells (vec n bz) 5)) := by
  obtain ⟨i0, hi, hz0, hz1, hz2⟩ := info_parts u8_info
  have h := run_make (P := Tryd.prog) (w := w) 67 5 i0 (.int .u8 0) Tryd.underlying67 hi hz0 .u64 .u64 (n : Int) (n : Int) (by omega) (by omega) (by rw [hz2]; omega) (by omega)
  simp only [Int.toNat_natCast, hz1, Nat.mul_one] at h
  rw [h]
  congr 3
  apply Array.ext_getElem?
  intro i
  by_cases hi : i < n
  · rw [vec_at n bz i hi]
    simp [madeCells, hi, bz, Value.cells, Nat.mod_one]
  · simp [madeCells, vec, hi]
set_option maxRecDepth 100000 in
theorem upd_mark (k : Nat) : ((List.range (k + 1)).map fun i => upd bz 0 (.int .u8 128) (0 + i)) = u8s (mark k) := by
  apply List.ext_getElem?
  intro i
  by_cases hi : i < k + 1
  · rcases i with _ | i
    · simp [upd, mark, u8s]
    · simp [upd, mark, u8s, bz, hi]
  · rw [List.getElem?_eq_none (by simp; omega), List.getElem?_eq_none (by simp [u8s, mark]; omega)]

set_option maxHeartbeats 400000 in
set_option maxRecDepth 100000 in
theorem pad_any (n : Nat) (hn : n < 18446744073709551616) (w : World) :
    Calls Tryd.prog 66 #[.int .u64 (n : Int)] w (Bytes w (padL n)) := by
  obtain ⟨r, hr⟩ : ∃ r, r = n % 64 := ⟨_, rfl⟩
  obtain ⟨s, hs⟩ : ∃ s, s = (r + 8) % 64 := ⟨_, rfl⟩
  obtain ⟨k, hk⟩ : ∃ k, k = zeros n := ⟨_, rfl⟩
  have hks : k + 1 = 64 - s := by rw [hk]; unfold zeros; omega
  have e1 : (n : Int).tmod 64 = (r : Int) := by rw [Int.tmod_eq_emod_of_nonneg (by omega)]; omega
  have e2 : ((r : Int) + 8).tmod 64 = (s : Int) := by rw [Int.tmod_eq_emod_of_nonneg (by omega)]; omega
  obtain ⟨j, hj⟩ : ∃ j, j = k + 1 := ⟨_, rfl⟩
  obtain ⟨q, hq⟩ : ∃ q, q = 8 * n % 18446744073709551616 := ⟨_, rfl⟩
  have hq64 : q < 18446744073709551616 := by omega
  have e3 : (64 : Int) - (s : Int) = (j : Int) := by omega
  have hj0 : (0 : Int) < (j : Int) := by omega
  have w2 : IntKind.u64.wrap ((r : Int) + 8) = (r : Int) + 8 := by rw [IntKind.wrap_u64]; omega
  have hmk := make_u8z j (by omega) w
  have hA : Arr (w.alloc (.cells (vec j bz) 5)) w.heap.size 5 j bz := Arr.new w _ _ _
  have hc := hA.cell (i := 0) (by omega)
  have hf := hA.frozen 0
  obtain ⟨W0, hW0⟩ : ∃ W0, W0 = w.alloc (.cells (vec j bz) 5) := ⟨_, rfl⟩
  rw [← hW0] at hmk hA hc hf
  have hB : Below w.heap.size w W0 := by rw [hW0]; exact (Below.refl _ _).alloc (Nat.le_refl _) _
  obtain ⟨W1, hW1⟩ : ∃ W1, W1 = W0.setCell ⟨w.heap.size, 0, none⟩ (.int .u8 128) := ⟨_, rfl⟩
  have hA1 : Arr W1 w.heap.size 5 j (upd bz 0 (.int .u8 128)) := by rw [hW1]; exact hA.set 0 _
  have hB1 : Below w.heap.size w W1 := by rw [hW1]; exact hB.setCell (show w.heap.size ≤ w.heap.size by omega) _
  have e8 : IntKind.u64.wrap (8 * (n : Int)) = (q : Int) := by rw [IntKind.wrap_u64]; omega
  have hC : ∀ cs : Array Value, cs = #[.int .u64 (q : Int)] → Calls Tryd.prog 72 #[.slice (some ⟨w.heap.size, 0, none⟩) j j, .slice (some ⟨W1.heap.size, 0, none⟩) 1 1] (W1.alloc (.cells cs 35)) (Bytes (W1.alloc (.cells cs 35)) (mark k ++ putAll 0 8 [q])) := by
    intro cs hcs
    subst hcs
    have hli := hA1.lies hA1.lt 0 j (by omega)
    rw [hj, upd_mark, ← hj] at hli
    have hlm : (mark k).length = j := by rw [hj]; exact mark_length k
    have := putBe64_any (mark k) [q] (by intro m hm; simp at hm; subst hm; omega) (some ⟨w.heap.size, 0, none⟩) (some ⟨W1.heap.size, 0, none⟩) j 1 (W1.alloc (.cells #[.int .u64 (q : Int)] 35)).heap.size (W1.alloc (.cells #[.int .u64 (q : Int)] 35)) (Nat.le_refl _)
      (by rw [hlm]; exact (hli.alloc (Nat.le_refl _) _).wide (by simp)) (lies_one W1 _ _) (by rw [hlm]; simp; omega)
    rw [hlm] at this
    exact this
  have HC := Lib.hid hC
  have HF := Lib.hid (And.intro hB1 (And.intro hk hq))
  have HW1 := Lib.hid hW1
  clear hr hs hk hj hq hq64 hks hA hB hA1 hB1 hC hW0 hW1
  go_enter Tryd.func66, Tryd.ntmps66
  go_upto_region 3 with fail
  rw [← HW1.out]
  clear hmk hc hf e1 e2 e3 w2 hj0
  go_wp2_with (go_at_call 72; refine (HC.out _ rfl).mono ?_; rintro e w' ⟨v, rfl, hv1, hv2⟩)
  go_ret
  obtain ⟨hB1, hk, hq⟩ := HF.out
  have e : mark k ++ putAll 0 8 [q] = padL n := by rw [hk, hq]; simp [padL, putAll]
  rw [e] at hv1
  exact ⟨_, rfl, owns_mono hv1 (below_up hB1 _), (hB1.alloc hB1.size _).trans (hv2.mono (below_up hB1 _))⟩

set_option maxHeartbeats 400000 in
set_option maxRecDepth 100000 in
theorem rpad_any (n : Nat) (hn : n < 18446744073709551616) (w : World) :
    Calls Tryd.prog 49 #[.int .u64 (n : Int)] w (Bytes w (padL n)) := by
  obtain ⟨i0, hi, hz0, hz1, hz2⟩ := info_parts u8_info
  have Hi := Lib.hid (And.intro hi (And.intro hz0 (And.intro hz1 hz2)))
  obtain ⟨q, hq⟩ : ∃ q, q = 8 * n % 18446744073709551616 := ⟨_, rfl⟩
  have hq64 : q < 18446744073709551616 := by omega
  have e8 : IntKind.u64.wrap (8 * (n : Int)) = (q : Int) := by rw [IntKind.wrap_u64]; omega
  have HQ := Lib.hid (And.intro hq (And.intro hq64 e8))
  have HN := Lib.hid hn
  clear hi hz0 hz1 hz2 hq hq64 e8 hn
  have hown0 : (w.alloc (.cells #[.int .u8 128] 5)).ownsRow w.heap.size 5 1 (.slice (some ⟨w.heap.size, 0, none⟩) 1 1) 1 (u8s (mark 0)) :=
    ⟨rfl, Or.inr ⟨w.heap.size, 1, _, rfl, Nat.le_refl _, heap_alloc_new w _, Nat.le_refl _, by decide, rfl, rfl⟩⟩
  have HO := Lib.hid hown0
  clear hown0
  go_enter Tryd.func49, Tryd.ntmps49
  go_wp2
  go_loopw [3] (fun v W => ∃ j : Nat, j ≤ zeros n ∧ W.ownsRow w.heap.size 5 1 v (j + 1) (u8s (mark j)) ∧ Below w.heap.size w W) (fun v _ => 64 - (match v with | .slice _ m _ => m | _ => 0))
  case atStart => exact ⟨0, Nat.zero_le _, HO.out, (Below.refl _ _).alloc (Nat.le_refl _) _⟩
  case round =>
    obtain ⟨j, hj, hown, hbel⟩ := hrel
    obtain ⟨A, c, rfl, hli⟩ := owns_form hown
    have Hown := Lib.hid hown
    have Hbel := Lib.hid hbel
    clear hown hbel HO hli
    have hz : zeros n ≤ 63 := by unfold zeros; omega
    have hn := HN.out
    obtain ⟨x9, h9⟩ : ∃ x, x = (n + (j + 1)) % 18446744073709551616 := ⟨_, rfl⟩
    obtain ⟨x10, h10⟩ : ∃ x, x = (x9 + 8) % 18446744073709551616 := ⟨_, rfl⟩
    obtain ⟨x11, h11⟩ : ∃ x, x = x10 % 64 := ⟨_, rfl⟩
    have e7 : IntKind.u64.wrap ((j : Int) + 1) = (j : Int) + 1 := by rw [IntKind.wrap_u64]; omega
    have e9 : IntKind.u64.wrap ((n : Int) + ((j : Int) + 1)) = (x9 : Int) := by rw [IntKind.wrap_u64]; omega
    have e10 : IntKind.u64.wrap ((x9 : Int) + 8) = (x10 : Int) := by rw [IntKind.wrap_u64]; omega
    have e11 : (x10 : Int).tmod 64 = (x11 : Int) := by rw [Int.tmod_eq_emod_of_nonneg (by omega)]; omega
    have hx : x11 = (n + j + 9) % 64 := by omega
    by_cases hlt : j < zeros n
    · have ht : ((x11 : Int) != 0) = true := by
        have : x11 ≠ 0 := by rw [hx]; unfold zeros at hlt; omega
        simp; omega
      have hfin : ∀ (W1 : World) v' w', W1.heap.size = wr.heap.size + 1 → Below w.heap.size w W1 → w'.ownsRow w.heap.size 5 1 v' (j + 1 + 1) (u8s (mark j) ++ u8s [0]) → W1.grownBy w' (Value.slice A (j + 1) c).ownBlock → Below w.heap.size w w' ∧ w'.ownsRow w.heap.size 5 1 v' (j + 1 + 1) (u8s (mark (j + 1))) := by
        intro W1 v' w' hsz h0 h1 h2
        refine ⟨h0.grown h2 (by have := Hbel.out.size; omega) (fun g hg => (Hown.out.lt g hg).1), ?_⟩
        rw [mark_succ, ← u8s_append]; exact h1
      have Hsz := Lib.hid Hbel.out.size
      have HE := Lib.hid (And.intro hj (And.intro hz hlt))
      obtain ⟨hi0, hz0, hz1, hz2⟩ := Hi.out
      clear h9 h10 h11 hx hj hlt hn hz
      go_wp2_with (at_builtin; refine wpList_app rfl (.tmp 13) (.tmp 14) 67 rfl w.heap.size 5 i0 (.int .u8 0) 1 Tryd.underlying67 hi0 hz0 hz1 hz2 rfl _ _ _ rfl (Hown.out.alloc _) _ _ _ _ (u8s [0]) rfl (lies_new _ _ _ _ _ rfl rfl) (u8s_one _) (by have := HE.out; unfold maxLen; omega) (by have := HE.out; omega) (by have := Hsz.out; simp; omega) ?_; intro v' w' h1 h2 h3)
      obtain ⟨f1, f2⟩ := hfin _ v' w' (by simp) (Hbel.out.alloc Hsz.out _) h1 h2
      obtain ⟨A2, c2, rfl, _⟩ := owns_form f2
      clear hfin hi0 hz0 hz1 hz2 h1 h2 h3 e7 e9 e10 e11 ht
      go_roundw
      case rel => exact ⟨j + 1, by have := HE.out; omega, f2, f1⟩
      case measure => have := HE.out; show 64 - (j + 1 + 1) < 64 - (j + 1); omega
    · obtain rfl : j = zeros n := by omega
      have ht : ((x11 : Int) != 0) = false := by
        have : x11 = 0 := by rw [hx]; unfold zeros; omega
        simp; omega
      have hlm := mark_length (zeros n)
      have hl2 : Lies wr wr.heap.size 1 A (mark (zeros n)).length (u8s (mark (zeros n))) := by
        rw [hlm]
        obtain ⟨A3, c3, h3, h4⟩ := owns_form Hown.out
        injection h3 with h5
        rw [h5]; exact h4
      have hC := rput_any (mark (zeros n)) q 8 (by decide) A c wr.heap.size false wr (Nat.le_refl _) hl2 (by rw [hlm]; omega)
      rw [hlm] at hC
      have HC := Lib.hid hC
      have e8 := HQ.out.2.2
      clear h9 h10 h11 hx hj hlt hn hl2 hC hlm
      go_wp2_with (go_at_call 42; refine HC.out.mono ?_; rintro e w' ⟨v, rfl, hv1, hv2⟩)
      go_ret
      have e : mark (zeros n) ++ numBytes (lowO false) 8 q = padL n := by rw [HQ.out.1]; rfl
      rw [e] at hv1
      exact ⟨_, rfl, owns_mono hv1 Hbel.out.size, Hbel.out.trans (hv2.mono Hbel.out.size)⟩
end Go.Proofs.YtmhdhhdhnkoocaaDoor
