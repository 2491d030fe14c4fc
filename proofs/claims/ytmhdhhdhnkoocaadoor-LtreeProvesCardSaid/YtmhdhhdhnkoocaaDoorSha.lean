/- SHA-256 as plain functions; word.Be32 at the block's words. -/
import Derived.Test.YtmhdhhdhnkoocaaDoorTab
import Derived.Test.YtmhdhhdhnkoocaaDoorNum
namespace Go.Proofs.YtmhdhhdhnkoocaaDoor
open Go.RowKit

theorem accN_congr (o : Int) (wide m : Nat) (b c : Nat → UInt8) : ∀ k, (∀ i, i < k → b i = c i) → accN o wide m b k = accN o wide m c k
  | 0, _ => rfl
  | k + 1, h => by
    rw [accN, accN, accN_congr o wide m b c k fun i hi => h i (by omega), h k (by omega)]
/-- The j-th word of a block. -/
def mW (b : Nat → UInt8) (j : Nat) : W32 := BitVec.ofNat 32 (accN 0 4 4294967296 (fun i => b (4 * j + i)) 4)
theorem mW_num (b : Nat → UInt8) (j : Nat) : num (mW b j) = ((accN 0 4 4294967296 (fun i => b (4 * j + i)) 4 : Nat) : Int) := by
  have h := accN_lt 0 4 32 (fun i => b (4 * j + i)) 4
  unfold num mW
  rw [BitVec.toNat_ofNat, Nat.mod_eq_of_lt h]
/-- The words, i of them added. -/
def sch (m : Nat → W32) : Nat → Nat → W32
  | 0 => fun j => if j < 16 then m j else 0
  | i + 1 => upd (sch m i) (16 + i) (fs1 (sch m i (14 + i)) + sch m i (9 + i) + fs0 (sch m i (1 + i)) + sch m i i)
def one (k w : W32) (v : Nat → W32) : W32 := v 7 + fS1 (v 4) + fch (v 4) (v 5) (v 6) + k + w
def two (v : Nat → W32) : W32 := fS0 (v 0) + fmaj (v 0) (v 1) (v 2)
def rnd (k w : W32) (v : Nat → W32) : Nat → W32 := fun j => if j = 0 then one k w v + two v else if j = 4 then v 3 + one k w v else v (j - 1)
def rounds (K W v : Nat → W32) : Nat → Nat → W32
  | 0 => v
  | i + 1 => rnd (K i) (W i) (rounds K W v i)
def comp (h : Nat → W32) (b : Nat → UInt8) : Nat → W32 := fun j => h j + rounds Kt (sch (mW b) 48) h 64 j

/-- bytes of an array as a row -/
def l64 (b : Nat → UInt8) : List UInt8 := (List.range 64).map b
theorem l64_length (b : Nat → UInt8) : (l64 b).length = 64 := by simp [l64]
theorem l64_get (b : Nat → UInt8) (i : Nat) (h : i < 64) : (l64 b).getD i 0 = b i := by
  rw [List.getD_eq_getElem?_getD]; simp [l64, h]
theorem u8s_l64 (b : Nat → UInt8) : u8s (l64 b) = (List.range 64).map fun i => bys b (0 + i) := by
  simp [u8s, l64, bys]
set_option maxHeartbeats 400000 in
theorem be32_in (b : Nat → UInt8) (j : Nat) (hj : j < 16) (A : Option Addr) (c B : Nat) (w : World) (h : Lies w B 1 A 64 (u8s (l64 b))) :
    Calls Tryd.prog 79 #[.slice A 64 c, .int .i64 (4 * (j : Int))] w fun e w' => e = .returned (.tuple #[.int .u32 (num (mW b j)), .bool true]) ∧ ∃ n, w' = w.drewN n := by
  have hh := h
  have hlen := l64_length b
  have L := read32_in (l64 b) A c B (4 * j) 0 (Or.inl rfl) w (by omega) (by rw [hlen]; decide) (by rw [hlen]; exact hh)
  rw [hlen] at L
  rw [accN_congr 0 4 4294967296 (bAt (l64 b) (4 * j)) (fun i => b (4 * j + i)) 4 (fun i hi => l64_get b _ (by omega)), ← mW_num] at L
  have e : ((4 * j : Nat) : Int) = 4 * (j : Int) := by omega
  rw [e] at L
  have HL := Lib.hid L
  clear L hlen hh e h hj
  go_enter Tryd.func79, Tryd.ntmps79
  go_wp2_with (go_at_call 84; refine HL.out.mono ?_; rintro e w1 ⟨rfl, hd⟩; have HD := Lib.hid hd; clear hd)
  go_ret2
  exact ⟨rfl, HD.out⟩
end Go.Proofs.YtmhdhhdhnkoocaaDoor
