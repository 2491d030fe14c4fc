/- Words of 32 bits, without sha: numbers, rows of them. -/
import Derived.Test.YtpeebdhbcglibaaChecked
import Derived.Test.YtpeebdhbcglibaaMem
import Derived.Laws.BitsAllLaws
import Derived.WalkKit
import Derived.BigQuiet
import Derived.Deep.QuietTactic
namespace Go.Proofs.Ytpeebdhbcglibaa
open Go.RowKit

abbrev W32 := BitVec 32
def num (x : W32) : Int := (x.toNat : Int)
theorem num_lo (x : W32) : 0 ≤ num x := Int.natCast_nonneg _
theorem num_hi (x : W32) : num x < 4294967296 := by have := x.isLt; unfold num; omega
theorem num_inj {x y : W32} (h : num x = num y) : x = y := BitVec.eq_of_toNat_eq (by unfold num at h; omega)
theorem ofInt32 (x : W32) : BitVec.ofInt 32 (num x) = x := by
  unfold num
  rw [BitVec.ofInt_natCast, BitVec.ofNat_toNat]; simp
theorem wrap_num (x : W32) : IntKind.u32.wrap (x.toNat : Int) = num x := by
  have := x.isLt
  rw [IntKind.wrap_u32']; unfold num; omega
theorem num_and (x y : W32) : bits .and .u32 (num x) (num y) = num (x &&& y) := by
  show IntKind.u32.wrap ((BitVec.ofInt 32 (num x) &&& BitVec.ofInt 32 (num y)).toNat : Int) = _
  rw [ofInt32, ofInt32, wrap_num]
theorem num_or (x y : W32) : bits .or .u32 (num x) (num y) = num (x ||| y) := by
  show IntKind.u32.wrap ((BitVec.ofInt 32 (num x) ||| BitVec.ofInt 32 (num y)).toNat : Int) = _
  rw [ofInt32, ofInt32, wrap_num]
theorem num_andn (x y : W32) : bits .andNot .u32 (num x) (num y) = num (x &&& ~~~y) := by
  show IntKind.u32.wrap ((BitVec.ofInt 32 (num x) &&& ~~~ BitVec.ofInt 32 (num y)).toNat : Int) = _
  rw [ofInt32, ofInt32, wrap_num]
theorem num_of (n : Nat) (h : n < 4294967296) : num (BitVec.ofNat 32 n) = (n : Int) := by
  unfold num; rw [BitVec.toNat_ofNat]; omega
theorem num_ex {z : Int} (h0 : 0 ≤ z) (h1 : z < 4294967296) : ∃ x : W32, z = num x := by
  obtain ⟨n, rfl⟩ := Int.eq_ofNat_of_zero_le h0
  exact ⟨BitVec.ofNat 32 n, (num_of n (by omega)).symm⟩
/-- Words as cells. -/
def u32s (l : List W32) : List Value := l.map fun x => Value.int .u32 (num x)
theorem u32s_length (l : List W32) : (u32s l).length = l.length := by simp [u32s]
theorem u32s_one (l : List W32) : ∀ u ∈ u32s l, u.oneCell' = true := by
  intro u hu
  obtain ⟨b, _, rfl⟩ := List.mem_map.1 hu
  rfl
theorem u32s_at (l : List W32) (k : Nat) (h : k < l.length) : (u32s l)[k]? = some (.int .u32 (num l[k])) := by simp [u32s, h]
theorem u32s_set (l : List W32) (k : Nat) (x : W32) : (u32s l).set k (.int .u32 (num x)) = u32s (l.set k x) := by simp [u32s, List.map_set]
/-- A word that is torn: x in the bits of m, o in all others. -/
def tornW (o x m : W32) : W32 := x &&& m ||| o &&& ~~~m
/-- A cut. -/
structure Ct where
  after : Int
  mask : W32
def CtOk (c : Ct) : Prop := -9223372036854775808 ≤ c.after ∧ c.after ≤ 9223372036854775807
def cellsC : List Ct → List Value
  | [] => []
  | c :: cs => .int .i64 c.after :: .int .u32 (num c.mask) :: cellsC cs
theorem cellsC_length : ∀ cs : List Ct, (cellsC cs).length = cs.length * 2
  | [] => rfl
  | _ :: xs => by simp [cellsC, cellsC_length xs]; omega
theorem cellsC_one : ∀ cs : List Ct, ∀ u ∈ cellsC cs, u.oneCell' = true
  | [], u, h => by cases h
  | _ :: xs, u, h => by
    rcases List.mem_cons.1 h with rfl | h
    · rfl
    · rcases List.mem_cons.1 h with rfl | h
      · rfl
      · exact cellsC_one xs u h
theorem cellsC_at : ∀ (cs : List Ct) (k : Nat) (h : k < cs.length), (cellsC cs)[k * 2]? = some (.int .i64 cs[k].after) ∧ (cellsC cs)[k * 2 + 1]? = some (.int .u32 (num cs[k].mask))
  | _ :: _, 0, _ => ⟨rfl, rfl⟩
  | _ :: xs, k + 1, h => by
    have := cellsC_at xs k (by simpa using h)
    rw [show (k + 1) * 2 = k * 2 + 1 + 1 by omega]
    exact this
end Go.Proofs.Ytpeebdhbcglibaa
