/- portreeveref01.Put. -/
import Derived.Test.YtbemphfijkcbhaaWord9
namespace Go.Proofs.Ytbemphfijkcbhaa
open Go.RowKit

def lowO (low : Bool) : Int := if low then 1 else 0
theorem firstBytes_all (o : Int) (m n : Nat) : firstBytes o m n m = numBytes o m n := rfl
theorem byte_low (n size i : Nat) : (n : Int) / 2 ^ (8 * i) % 256 = ((putByte (lowO true) size n i).toNat : Int) := by
  have e : (shAt (lowO true) (i : Int) (size : Int)).toNat = 8 * i := by show (8 * (i : Int)).toNat = _; omega
  rw [putByte, toNat_ofNat_mod, e]; simp
theorem byte_high (n size i : Nat) (hi : i < size) : (n : Int) / 2 ^ (8 * (size - 1 - i)) % 256 = ((putByte (lowO false) size n i).toNat : Int) := by
  have e : (shAt (lowO false) (i : Int) (size : Int)).toNat = 8 * (size - 1 - i) := by show (8 * ((size : Int) - 1 - i)).toNat = _; omega
  rw [putByte, toNat_ofNat_mod, e]; simp
set_option maxHeartbeats 400000 in
set_option maxRecDepth 100000 in
theorem rput_any (b : List UInt8) (n size : Nat) (hs : size ≤ 8) (A : Option Addr) (c B : Nat) (low : Bool) (w : World) (hB : B ≤ w.heap.size)
    (hb : Lies w B 1 A b.length (u8s b)) (htot : b.length ≤ 70368744177656) :
    Calls Try.prog 61 #[.slice A b.length c, .int .u64 (n : Int), .int .i64 (size : Int), .bool low] w (Bytes w (b ++ numBytes (lowO low) size n)) := by
  obtain ⟨i0, hi, hz0, hz1, hz2⟩ := info_parts u8_info
  have Hi := Lib.hid (And.intro hi (And.intro hz0 (And.intro hz1 hz2)))
  have Hb := Lib.hid (hb.wide hB)
  clear hb

  go_enter Try.func61, Try.ntmps61
  go_wp2_with (at_builtin; (refine wpList_app rfl (.const (.slice none 0 0)) (.tmp 12) 41 rfl w.heap.size 5 i0 (.int .u8 0) 1 Try.underlying41 hi hz0 hz1 hz2 rfl (.slice none 0 0) 0 [] rfl (World.ownsRow_nil _ _ _ _) _ _ _ _ _ rfl Hb.out (u8s_one _) (by unfold maxLen; omega) (by omega) (Nat.le_refl _) ?_); intro v1 w1 h1 h2 h3)
  have hown0 : w1.ownsRow w.heap.size 5 1 v1 (b.length + 0) (u8s (b ++ firstBytes (lowO low) size n 0)) := by
    simpa [firstBytes] using h1
  have hbel0 : Below w.heap.size w w1 := (Below.refl _ _).grown h2 (Nat.le_refl _) (by simp [Value.ownBlock])
  clear h1 h2 h3 hi hz0 hz1 hz2
  go_loopw [9, 10] (fun v j W => ∃ i : Nat, i ≤ size ∧ j = .int .i64 i ∧ W.ownsRow w.heap.size 5 1 v (b.length + i) (u8s (b ++ firstBytes (lowO low) size n i)) ∧ Below w.heap.size w W) (fun _ i _ => size - (intOf i).toNat)
  case atStart => exact ⟨0, Nat.zero_le _, rfl, hown0, hbel0⟩
  case round =>
    obtain ⟨i, hi, rfl, hown, hbel⟩ := hrel
    have Hown2 := Lib.hid hown
    have Hbel2 := Lib.hid hbel
    clear hown hbel hown0 hbel0
    by_cases hlt2 : i < size
    · have hfin : ∀ (W1 : World) v' w', W1.heap.size = wr.heap.size + 1 → Below w.heap.size w W1 → w'.ownsRow w.heap.size 5 1 v' (b.length + i + 1) (u8s (b ++ firstBytes (lowO low) size n i) ++ u8s [putByte (lowO low) size n i]) → W1.grownBy w' u9.ownBlock → Below w.heap.size w w' ∧ w'.ownsRow w.heap.size 5 1 v' (b.length + (i + 1)) (u8s (b ++ firstBytes (lowO low) size n (i + 1))) := by
        intro W1 v' w' hsz h0 h1 h2
        refine ⟨h0.grown h2 (by have := Hbel2.out.size; omega) (fun g hg => (Hown2.out.lt g hg).1), ?_⟩
        rw [firstBytes_succ, ← List.append_assoc, ← u8s_append]; exact h1
      have Hsz := Lib.hid Hbel2.out.size
      obtain ⟨hi0, hz0, hz1, hz2⟩ := Hi.out
      cases low
      · have hsh := byte_high n size i hlt2
        go_wp2_with (at_builtin; refine wpList_app rfl (.tmp 26) (.tmp 32) 41 rfl w.heap.size 5 i0 (.int .u8 0) 1 Try.underlying41 hi0 hz0 hz1 hz2 rfl _ _ _ rfl (Hown2.out.alloc _) _ _ _ _ (u8s [putByte (lowO false) size n i]) rfl (lies_new _ _ _ _ _ rfl rfl) (u8s_one _) (by unfold maxLen; omega) (by omega) (by have := Hsz.out; simp; omega) ?_; intro v' w' h1 h2 h3)
        obtain ⟨f1, f2⟩ := hfin _ v' w' (by simp) (Hbel2.out.alloc Hsz.out _) h1 h2
        clear hfin hi0 hz0 hz1 hz2 h1 h2 h3 hsh
        go_roundw
        case rel => exact ⟨i + 1, by omega, by go_num, f2, f1⟩
        case measure => simp [intOf]; omega
      · have hsh := byte_low n size i
        go_wp2_with (at_builtin; refine wpList_app rfl (.tmp 26) (.tmp 32) 41 rfl w.heap.size 5 i0 (.int .u8 0) 1 Try.underlying41 hi0 hz0 hz1 hz2 rfl _ _ _ rfl (Hown2.out.alloc _) _ _ _ _ (u8s [putByte (lowO true) size n i]) rfl (lies_new _ _ _ _ _ rfl rfl) (u8s_one _) (by unfold maxLen; omega) (by omega) (by have := Hsz.out; simp; omega) ?_; intro v' w' h1 h2 h3)
        obtain ⟨f1, f2⟩ := hfin _ v' w' (by simp) (Hbel2.out.alloc Hsz.out _) h1 h2
        clear hfin hi0 hz0 hz1 hz2 h1 h2 h3 hsh
        go_roundw
        case rel => exact ⟨i + 1, by omega, by go_num, f2, f1⟩
        case measure => simp [intOf]; omega
    · obtain rfl : i = size := by omega
      go_wp2
      go_ret
      have h1 := Hown2.out
      rw [firstBytes_all] at h1
      exact ⟨_, rfl, by simpa [numBytes_length] using h1, Hbel2.out⟩
end Go.Proofs.Ytbemphfijkcbhaa
