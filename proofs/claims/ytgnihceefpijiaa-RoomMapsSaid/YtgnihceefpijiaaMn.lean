/- Merged: Num, Plain, Ref, Cat, Put, RPut, Str. -/
import Derived.WalkKit
import Derived.WalkSpells
import Derived.Deep.QuietTactic
import Derived.BigQuiet
import Derived.KernelRfl
import Derived.IntWalk
import Derived.Shelf.Strconv.Itoa0
import Derived.Laws.BitsAllLaws
import Derived.Laws.MakeOwn
import Derived.Laws.BytesArg
import Derived.Test.YtgnihceefpijiaaChecked
import Derived.Test.YtgnihceefpijiaaMa
/- word.read and its parts: sizes, shifts, numbers out of bytes. -/
namespace Go.Proofs.Ytgnihceefpijiaa
open Go.RowKit

def u64s (xs : List Nat) : List Value := xs.map fun (x : Nat) => Value.int .u64 (x : Int)


def shAt (o i m : Int) : Int := if o = 1 then 8 * i else 8 * (m - 1 - i)
set_option maxRecDepth 100000 in
theorem shAt_low (i m : Int) : shAt 1 i m = 8 * i := rfl
set_option maxRecDepth 100000 in
theorem shAt_high (i m : Int) : shAt 0 i m = 8 * (m - 1 - i) := rfl
/-- What stands in the number behind k rounds. -/
def accN (o : Int) (wide : Nat) (m : Nat) (b : Nat → UInt8) : Nat → Nat
  | 0 => 0
  | k + 1 => accN o wide m b k ||| ((b k).toNat * 2 ^ min (shAt o k wide).toNat (8 * wide) % m)
set_option maxRecDepth 100000 in
theorem accN_lt (o : Int) (wide n : Nat) (b : Nat → UInt8) (k : Nat) : accN o wide (2 ^ n) b k < 2 ^ n := by
  induction k with
  | zero => exact Nat.pow_pos (by decide)
  | succ k ih => exact Nat.or_lt_two_pow ih (Nat.mod_lt _ (Nat.pow_pos (by decide)))
set_option maxRecDepth 100000 in
theorem or_u32 (o : Int) (b : Nat → UInt8) (k : Nat) (x : Int) (hx : x = ((b k).toNat : Int)) :
    bits .or .u32 ((accN o 4 4294967296 b k : Nat) : Int) (x * 2 ^ min (shAt o k 4).toNat 32 % 4294967296) = ((accN o 4 4294967296 b (k + 1) : Nat) : Int) := by
  subst hx
  have h := accN_lt o 4 32 b k
  have e : ((b k).toNat : Int) * 2 ^ min (shAt o k 4).toNat 32 % 4294967296 = (((b k).toNat * 2 ^ min (shAt o k 4).toNat 32 % 4294967296 : Nat) : Int) := by simp
  rw [e, u32_or_nat _ _ h (Nat.mod_lt _ (by decide))]
  rfl
set_option maxRecDepth 100000 in
theorem or_u64 (o : Int) (b : Nat → UInt8) (k : Nat) (x : Int) (hx : x = ((b k).toNat : Int)) :
    bits .or .u64 ((accN o 8 18446744073709551616 b k : Nat) : Int) (IntKind.u64.wrap (x * 2 ^ min (shAt o k 8).toNat 64)) = ((accN o 8 18446744073709551616 b (k + 1) : Nat) : Int) := by
  subst hx
  have h := accN_lt o 8 64 b k
  have e : ((b k).toNat : Int) * 2 ^ min (shAt o k 8).toNat 64 % 18446744073709551616 = (((b k).toNat * 2 ^ min (shAt o k 8).toNat 64 % 18446744073709551616 : Nat) : Int) := by simp
  rw [IntKind.wrap_u64, e, u64_or_nat _ _ h (Nat.mod_lt _ (by decide))]
  rfl
def bAt (l : List UInt8) (at_ : Nat) : Nat → UInt8 := fun j => l.getD (at_ + j) 0
set_option maxRecDepth 100000 in
theorem bAt_eq (l : List UInt8) (at_ k : Nat) (h : at_ + k < l.length) : ((l[at_ + k].toNat : Nat) : Int) = ((bAt l at_ k).toNat : Int) := by
  unfold bAt
  rw [List.getD_eq_getElem?_getD, List.getElem?_eq_getElem h]; rfl

end Go.Proofs.Ytgnihceefpijiaa
/- Plain facts on numbers out of bytes: no program stands here. -/
namespace Go.Proofs.Ytgnihceefpijiaa

/-- Bytes, the highest ahead; the lowest ahead. -/
def accB (b : Nat → UInt8) : Nat → Nat
  | 0 => 0
  | k + 1 => accB b k * 256 + (b k).toNat
def leSum (b : Nat → UInt8) : Nat → Nat
  | 0 => 0
  | k + 1 => leSum b k + (b k).toNat * 256 ^ k
theorem accB_lt (b : Nat → UInt8) (k : Nat) : accB b k < 256 ^ k := by
  induction k with
  | zero => exact Nat.one_pos
  | succ k ih => have := (b k).toNat_lt; simp only [accB]; rw [Nat.pow_succ]; omega
theorem leSum_lt (b : Nat → UInt8) (k : Nat) : leSum b k < 256 ^ k := by
  induction k with
  | zero => exact Nat.one_pos
  | succ k ih =>
    have := (b k).toNat_lt
    simp only [leSum]
    have h2 : (b k).toNat * 256 ^ k ≤ 255 * 256 ^ k := Nat.mul_le_mul_right _ (by omega)
    rw [Nat.pow_succ]; omega
theorem pow256 (k : Nat) : (256 : Nat) ^ k = 2 ^ (8 * k) := by
  rw [show (256 : Nat) = 2 ^ 8 from rfl, ← Nat.pow_mul]
theorem accB_or (b : Nat → UInt8) (k : Nat) : accB b k * 256 ||| (b k).toNat = accB b (k + 1) := by
  have := (b k).toNat_lt
  exact nat_join 8 _ _ (by omega) (by omega)
theorem high_or (b : Nat → UInt8) (w k : Nat) (hk : k < w) :
    accB b k * 256 ^ (w - k) ||| ((b k).toNat * 2 ^ (8 * (w - 1 - k)) % 2 ^ (8 * w)) = accB b (k + 1) * 256 ^ (w - (k + 1)) := by
  have hb := (b k).toNat_lt
  have e1 : w - k = (w - (k + 1)) + 1 := by omega
  have e2 : w - 1 - k = w - (k + 1) := by omega
  have hlt : (b k).toNat * 2 ^ (8 * (w - (k + 1))) < 2 ^ (8 * (w - k)) := by
    rw [← pow256, ← pow256, e1, Nat.pow_succ, Nat.mul_comm _ 256]
    exact Nat.mul_lt_mul_of_pos_right (by omega) (Nat.pow_pos (by decide))
  have hle : 2 ^ (8 * (w - k)) ≤ 2 ^ (8 * w) := Nat.pow_le_pow_right (by decide) (by omega)
  rw [e2, Nat.mod_eq_of_lt (by omega)]
  rw [pow256 (w - k), nat_join (8 * (w - k)) _ _ (Nat.mul_mod_left _ _) hlt, ← pow256, ← pow256, e1, Nat.pow_succ]
  simp only [accB]
  rw [Nat.add_mul, Nat.mul_assoc, Nat.mul_comm 256]
theorem low_or (b : Nat → UInt8) (w k : Nat) (hk : k < w) :
    leSum b k ||| ((b k).toNat * 2 ^ (8 * k) % 2 ^ (8 * w)) = leSum b (k + 1) := by
  have hb := (b k).toNat_lt
  have hlt : (b k).toNat * 2 ^ (8 * k) < 2 ^ (8 * w) := by
    have h1 : (b k).toNat * 2 ^ (8 * k) < 2 ^ 8 * 2 ^ (8 * k) := Nat.mul_lt_mul_of_pos_right (by omega) (Nat.pow_pos (by decide))
    rw [← Nat.pow_add] at h1
    exact Nat.lt_of_lt_of_le h1 (Nat.pow_le_pow_right (by decide) (by omega))
  have hs := leSum_lt b k
  rw [pow256] at hs
  rw [Nat.mod_eq_of_lt hlt, Nat.or_comm, nat_join (8 * k) _ _ (Nat.mul_mod_left _ _) hs]
  simp only [leSum]
  rw [pow256, Nat.add_comm]
theorem accB_rev4 (b c : Nat → UInt8) (h : ∀ j, j < 4 → c j = b (3 - j)) : accB c 4 = leSum b 4 := by
  have e0 : c 0 = b 3 := h 0 (by omega)
  have e1 : c 1 = b 2 := h 1 (by omega)
  have e2 : c 2 = b 1 := h 2 (by omega)
  have e3 : c 3 = b 0 := h 3 (by omega)
  simp only [accB, leSum, e0, e1, e2, e3]
  omega
theorem accB_rev8 (b c : Nat → UInt8) (h : ∀ j, j < 8 → c j = b (7 - j)) : accB c 8 = leSum b 8 := by
  have e0 : c 0 = b 7 := h 0 (by omega)
  have e1 : c 1 = b 6 := h 1 (by omega)
  have e2 : c 2 = b 5 := h 2 (by omega)
  have e3 : c 3 = b 4 := h 3 (by omega)
  have e4 : c 4 = b 3 := h 4 (by omega)
  have e5 : c 5 = b 2 := h 5 (by omega)
  have e6 : c 6 = b 1 := h 6 (by omega)
  have e7 : c 7 = b 0 := h 7 (by omega)
  simp only [accB, leSum, e0, e1, e2, e3, e4, e5, e6, e7]
  omega
end Go.Proofs.Ytgnihceefpijiaa
/- portreeveref01.Number; that word.read answers the same. -/
namespace Go.Proofs.Ytgnihceefpijiaa
open Go.RowKit

set_option maxRecDepth 100000 in
theorem accN_high (w : Nat) (b : Nat → UInt8) (k : Nat) (hk : k ≤ w) : accN 0 w (2 ^ (8 * w)) b k = accB b k * 256 ^ (w - k) := by
  induction k with
  | zero => simp [accN, accB]
  | succ k ih =>
    have e : (shAt 0 (k : Int) (w : Int)).toNat = 8 * (w - 1 - k) := by rw [shAt_high]; omega
    rw [accN, ih (by omega), e, Nat.min_eq_left (by omega), high_or b w k (by omega)]
set_option maxRecDepth 100000 in
theorem accN_low (w : Nat) (b : Nat → UInt8) (k : Nat) (hk : k ≤ w) : accN 1 w (2 ^ (8 * w)) b k = leSum b k := by
  induction k with
  | zero => simp [accN, leSum]
  | succ k ih =>
    have e : (shAt 1 (k : Int) (w : Int)).toNat = 8 * k := by rw [shAt_low]; omega
    rw [accN, ih (by omega), e, Nat.min_eq_left (by omega), low_or b w k (by omega)]

set_option maxRecDepth 100000 in
theorem accB_step (b : Nat → UInt8) (k : Nat) (hk : k < 8) (x : Int) (hx : x = ((b k).toNat : Int)) :
    bits .or .u64 (((accB b k : Nat) : Int) * 256) x = ((accB b (k + 1) : Nat) : Int) := by
  subst hx
  have h := accB_lt b k
  have hp : 256 ^ k ≤ 256 ^ 7 := Nat.pow_le_pow_right (by decide) (by omega)
  have hb := (b k).toNat_lt
  have e : ((accB b k : Nat) : Int) * 256 = ((accB b k * 256 : Nat) : Int) := by simp
  rw [e, u64_or_nat _ _ (by omega) (by omega), accB_or]
set_option maxRecDepth 100000 in
theorem accB_small (b : Nat → UInt8) (k : Nat) (hk : k < 8) : ((accB b k : Nat) : Int) ≤ 72057594037927935 := by
  have h := accB_lt b k
  have hp : 256 ^ k ≤ 256 ^ 7 := Nat.pow_le_pow_right (by decide) (by omega)
  omega
def dnAt (l : List UInt8) (at_ size : Nat) : Nat → UInt8 := fun j => l.getD (at_ + size - 1 - j) 0
set_option maxRecDepth 100000 in
theorem dnAt_eq (l : List UInt8) (at_ size k : Nat) (h : at_ + size - 1 - k < l.length) : ((l[at_ + size - 1 - k].toNat : Nat) : Int) = ((dnAt l at_ size k).toNat : Int) := by
  unfold dnAt
  rw [List.getD_eq_getElem?_getD, List.getElem?_eq_getElem h]; rfl

/-- The document's answers, as plain functions. -/
def numHas (n : Nat) (at_ : Int) (size : Nat) : Bool := decide (0 ≤ at_ ∧ at_ + size ≤ n)
def numOf (l : List UInt8) (at_ : Int) (size : Nat) (low : Bool) : Nat :=
  if 0 ≤ at_ ∧ at_ + size ≤ l.length then (if low then accB (dnAt l at_.toNat size) size else accB (bAt l at_.toNat) size) else 0
end Go.Proofs.Ytgnihceefpijiaa
/- word.Cat: parts, one behind the other, in new memory. -/
namespace Go.Proofs.Ytgnihceefpijiaa
open Go.RowKit

/-- A part: where it lies, its room, its bytes. -/
abbrev Part := Option Addr × Nat × List UInt8
def partV (p : Part) : Value := .slice p.1 p.2.2.length p.2.1
def catAll (ps : List Part) : List UInt8 := (ps.map fun p => p.2.2).flatten
set_option maxRecDepth 100000 in
theorem cat_succ (ps : List Part) (k : Nat) (h : k < ps.length) : catAll (ps.take (k + 1)) = catAll (ps.take k) ++ ps[k].2.2 := by
  unfold catAll
  rw [List.take_succ_eq_append_getElem h, List.map_append, List.flatten_append]; simp
set_option maxRecDepth 100000 in
theorem cat_take_le (ps : List Part) (k : Nat) : (catAll (ps.take k)).length ≤ (catAll ps).length := by
  have h : catAll ps = catAll (ps.take k) ++ catAll (ps.drop k) := by
    unfold catAll
    rw [← List.flatten_append, ← List.map_append, List.take_append_drop]
  rw [h, List.length_append]; omega

/-- New bytes: a row of the call's own, all else as it was. -/
def Bytes (w : World) (l : List UInt8) (e : Ending) (w' : World) : Prop :=
  ∃ v, e = .returned v ∧ w'.ownsRow w.heap.size 5 1 v l.length (u8s l) ∧ Below w.heap.size w w'

set_option maxRecDepth 100000 in
theorem u8_info : (Try.prog.info? 5).map (fun i => (i.zero, i.size, i.bytes)) = some (some (.int .u8 0), 1, 1) := by kernel_rfl
end Go.Proofs.Ytgnihceefpijiaa
/- word.put and the four calls over it. -/
namespace Go.Proofs.Ytgnihceefpijiaa
open Go.RowKit

/-- Byte i of a number of so many bytes. -/
def putByte (o : Int) (m : Nat) (n i : Nat) : UInt8 := UInt8.ofNat (n / 2 ^ (shAt o i m).toNat % 256)
def numBytes (o : Int) (m : Nat) (n : Nat) : List UInt8 := (List.range m).map (putByte o m n)
def putAll (o : Int) (m : Nat) (ns : List Nat) : List UInt8 := (ns.map (numBytes o m)).flatten
set_option maxRecDepth 100000 in
theorem putAll_succ (o : Int) (m : Nat) (ns : List Nat) (k : Nat) (h : k < ns.length) : putAll o m (ns.take (k + 1)) = putAll o m (ns.take k) ++ numBytes o m ns[k] := by
  unfold putAll
  rw [List.take_succ_eq_append_getElem h, List.map_append, List.flatten_append]; simp
set_option maxRecDepth 100000 in
theorem numBytes_length (o : Int) (m n : Nat) : (numBytes o m n).length = m := by simp [numBytes]
set_option maxRecDepth 100000 in
theorem putAll_length (o : Int) (m : Nat) (ns : List Nat) : (putAll o m ns).length = m * ns.length := by
  induction ns with
  | nil => simp [putAll]
  | cons n ns ih =>
    have : putAll o m (n :: ns) = numBytes o m n ++ putAll o m ns := by simp [putAll]
    rw [this, List.length_append, ih, numBytes_length, List.length_cons, Nat.mul_succ, Nat.add_comm]
def firstBytes (o : Int) (m n j : Nat) : List UInt8 := (List.range j).map (putByte o m n)
set_option maxRecDepth 100000 in
theorem firstBytes_succ (o : Int) (m n j : Nat) : firstBytes o m n (j + 1) = firstBytes o m n j ++ [putByte o m n j] := by
  unfold firstBytes
  rw [List.range_succ, List.map_append]; rfl
set_option maxRecDepth 100000 in
theorem firstBytes_length (o : Int) (m n j : Nat) : (firstBytes o m n j).length = j := by simp [firstBytes]
set_option maxRecDepth 100000 in
theorem toNat_ofNat_mod (n : Nat) : ((UInt8.ofNat (n % 256)).toNat : Int) = ((n % 256 : Nat) : Int) := by
  rw [UInt8.toNat_ofNat']; omega
def u32s (xs : List Nat) : List Value := xs.map fun (x : Nat) => Value.int .u32 (x : Int)

set_option maxRecDepth 100000 in
theorem shr_byte32 (o : Int) (n i : Nat) (ho : o = 0 ∨ o = 1) (hi : i < 4) :
    IntKind.u8.wrap ((n : Int) / 2 ^ min (shAt o i 4).toNat 32) = ((putByte o 4 n i).toNat : Int) := by
  have hs : (shAt o i 4).toNat ≤ 32 := by rcases ho with rfl | rfl <;> simp only [shAt_low, shAt_high] <;> omega
  rw [Nat.min_eq_left hs, putByte, toNat_ofNat_mod, IntKind.wrap_u8]
  simp
set_option maxRecDepth 100000 in
theorem shr_byte64 (o : Int) (n i : Nat) (ho : o = 0 ∨ o = 1) (hi : i < 8) :
    IntKind.u8.wrap ((n : Int) / 2 ^ min (shAt o i 8).toNat 64) = ((putByte o 8 n i).toNat : Int) := by
  have hs : (shAt o i 8).toNat ≤ 64 := by rcases ho with rfl | rfl <;> simp only [shAt_low, shAt_high] <;> omega
  rw [Nat.min_eq_left hs, putByte, toNat_ofNat_mod, IntKind.wrap_u8]
  simp
end Go.Proofs.Ytgnihceefpijiaa
/- portreeveref01.Put. -/
namespace Go.Proofs.Ytgnihceefpijiaa
open Go.RowKit

def lowO (low : Bool) : Int := if low then 1 else 0
set_option maxRecDepth 100000 in
theorem firstBytes_all (o : Int) (m n : Nat) : firstBytes o m n m = numBytes o m n := rfl
set_option maxRecDepth 100000 in
theorem byte_low (n size i : Nat) : (n : Int) / 2 ^ (8 * i) % 256 = ((putByte (lowO true) size n i).toNat : Int) := by
  have e : (shAt (lowO true) (i : Int) (size : Int)).toNat = 8 * i := by show (8 * (i : Int)).toNat = _; omega
  rw [putByte, toNat_ofNat_mod, e]; simp
set_option maxRecDepth 100000 in
theorem byte_high (n size i : Nat) (hi : i < size) : (n : Int) / 2 ^ (8 * (size - 1 - i)) % 256 = ((putByte (lowO false) size n i).toNat : Int) := by
  have e : (shAt (lowO false) (i : Int) (size : Int)).toNat = 8 * (size - 1 - i) := by show (8 * ((size : Int) - 1 - i)).toNat = _; omega
  rw [putByte, toNat_ofNat_mod, e]; simp
end Go.Proofs.Ytgnihceefpijiaa
/- Bytes as a string. -/
namespace Go.Proofs.Ytgnihceefpijiaa
open Go.RowKit

def strOf (l : List UInt8) : ByteArray := ⟨l.toArray⟩
theorem conv_gen {P : Program} (src dst e : TypeId) (hs : P.underlying src = some (.slice e)) (he : P.underlying e = some (.int .u8)) (hd : P.underlying dst = some .string)
    (w : World) (B : Nat) (A : Option Addr) (n c : Nat) (l : List UInt8) (h : Lies w B 1 A n (u8s l)) :
    (convert src dst (.slice A n c)).run P w = .ok (.string (strOf l)) w := by
  have hlen : l.length = n := by have := h.1; rw [u8s_length] at this; omega
  rcases A with _ | a
  · obtain rfl : n = 0 := by
      rcases Nat.eq_zero_or_pos n with h0 | h0
      · exact h0
      · obtain ⟨_, h, _⟩ := h.2 (by omega)
        cases h
    obtain rfl : l = [] := List.eq_nil_of_length_eq_zero hlen
    exact run_convert_bytes_nil w src e hs he 0 c dst hd
  · have hl : (loadCells a n).run P w = .ok ((l.map fun b => (b.toNat : Int)).map (Value.int .u8)).toArray w := by
      have := run_loadCells_list (P := P) w a (u8s l) (fun j v hj => by
        obtain ⟨hj2, rfl⟩ := List.getElem?_eq_some_iff.1 hj
        obtain ⟨a', h1, _, hc⟩ := h.2 (by rw [u8s_length] at hj2; omega)
        injection h1 with h1
        subst h1
        exact hc j hj2)
      rw [u8s_length, hlen] at this
      rw [this]
      simp [u8s, Function.comp_def]
    rw [run_convert_bytes_string w src dst e _ n c hs he hd, run_bytesToString w _ n c _ hl, foldl_push_bytes]
    simp [strOf, ByteArray.empty, ByteArray.emptyWithCapacity, Function.comp_def]
    rfl
end Go.Proofs.Ytgnihceefpijiaa
