/- Merged: Cu, Cv, Cn1, Kd, Nm, Na, Tr, Gl, Pr, Ky, Ec. -/
import Derived.WalkLawsBesides
import Derived.Laws.BitsAllLaws
import Derived.Test.YtgnihceefpijiaaMa
import Derived.Test.YtgnihceefpijiaaMb
import Derived.Test.YtgnihceefpijiaaMn
/- The cursor: a place in bytes; what gives a parse up. -/
namespace Go.Proofs.Ytgnihceefpijiaa
open Go.RowKit

theorem Blk.setAt {w : World} {g : Nat} {t : TypeId} {cs : Array Value} (h : Blk w g t cs) (i : Nat) (u : Value) : Blk (w.setCell ⟨g, i, none⟩ u) g t (cs.setIfInBounds i u) := by
  unfold Blk at h ⊢
  simp [World.setCell, Array.getElem?_modify, h]
theorem Blk.free {w : World} {g : Nat} {t : TypeId} {cs : Array Value} (h : Blk w g t cs) (i : Nat) : w.frozen? ⟨g, i, none⟩ = false := by
  unfold Blk at h; simp [World.frozen?, h]
section
variable {w w' : World} {g c at_ q : Nat} {A : Option Addr} {b : By}
end
section
variable {w : World} {g at_ : Nat}
end
end Go.Proofs.Ytgnihceefpijiaa
/- The cursor's steps: field, over. -/
namespace Go.Proofs.Ytgnihceefpijiaa
open Go.RowKit
section
variable {w : World} {g c at_ q : Nat} {A : Option Addr} {b : By}
theorem u8s_drop (l : By) (n : Nat) : u8s (l.drop n) = (u8s l).drop n := by simp [u8s]
theorem u8s_take (l : By) (n : Nat) : u8s (l.take n) = (u8s l).take n := by simp [u8s]
/-- Some of the bytes. -/
theorem lies_cut {w : World} {B n : Nat} {a : Addr} {b : By} (h : Lies w B 1 (some a) n (u8s b)) (q m : Nat) (hm : q + m ≤ n) (hn : b.length = n) : Lies w B 1 (some (a.add q)) m (u8s ((b.drop q).take m)) := by
  refine ⟨by simp [u8s_length]; omega, fun h0 => ?_⟩
  obtain ⟨a', e, hb, hc⟩ := h.2 (by omega)
  injection e with e
  subst e
  refine ⟨_, rfl, by rw [addr_add_block]; exact hb, fun j hj => ?_⟩
  have hj2 : j < m := by simp [u8s_length] at hj; omega
  rw [addr_add_add]
  have hlt : q + j < (u8s b).length := by rw [u8s_length]; omega
  rw [hc (q + j) hlt]
  congr 1
  simp [u8s]
end
end Go.Proofs.Ytgnihceefpijiaa
/- Numbers that the cursor reads: long, wide, short. -/
namespace Go.Proofs.Ytgnihceefpijiaa
open Go.RowKit
/-- The number of m bytes from place q on. -/
def numAt (b : By) (q m : Nat) : Nat := val ((b.drop q).take m)
theorem numAt_lt (b : By) (q m : Nat) : numAt b q m < 256 ^ m := by
  have h := val_lt ((b.drop q).take m)
  have h2 : ((b.drop q).take m).length ≤ m := by simp; omega
  exact Nat.lt_of_lt_of_le h (Nat.pow_le_pow_right (by decide) h2)
theorem val_fold (l : By) (b : Nat → UInt8) (h : ∀ i (hi : i < l.length), b i = l[i]) : val l = accB b l.length := by
  have e : l = (List.range l.length).map b := List.ext_getElem (by simp) fun i h1 h2 => by simp [h i h1]
  have : ∀ k, val ((List.range k).map b) = accB b k := by
    intro k
    induction k with
    | zero => rfl
    | succ k ih =>
      rw [List.range_succ, List.map_append, List.map_cons, List.map_nil, val_snoc, ih]; rfl
  rw [← this, ← e]
theorem numOf_val (l : By) (m : Nat) (h : l.length = m) : numOf l 0 m false = val l := by
  unfold numOf
  rw [if_pos (by omega), if_neg (by decide), ← h]
  refine (val_fold l _ fun i hi => ?_).symm
  unfold bAt
  simp [hi]
theorem numHas_m (m : Nat) : numHas m 0 m = true := by simp [numHas]
section
variable {w : World} {g c at_ q : Nat} {A : Option Addr} {b : By}
theorem cut_len (b : By) (q m : Nat) (h : q + m ≤ b.length) : ((b.drop q).take m).length = m := by simp; omega
theorem Save.drew_of {g : Nat} {w w1 w2 : World} (h : Save g w w1) (k : ∃ n, w2 = w1.drewN n) : Save g w w2 := by obtain ⟨n, rfl⟩ := k; exact h.drewN n
theorem i64_or_nat (a b : Nat) (ha : a < 65536) (hb : b < 65536) : bits .or .i64 (a : Int) (b : Int) = ((a ||| b : Nat) : Int) := by
  have hx : a ||| b < 2 ^ 16 := Nat.or_lt_two_pow (by omega) (by omega)
  show IntKind.i64.wrap ((BitVec.ofInt 64 (a : Int) ||| BitVec.ofInt 64 (b : Int)).toNat : Int) = _
  rw [BitVec.toNat_or, ofInt_u64 a (by omega), ofInt_u64 b (by omega), IntKind.wrap_i64]
  omega
theorem shl_or (x y : UInt8) : bits .or .i64 ((x.toNat : Int) * 256) (y.toNat : Int) = ((x.toNat * 256 + y.toNat : Nat) : Int) := by
  have h1 := x.toNat_lt
  have h2 := y.toNat_lt
  have := i64_or_nat (x.toNat * 256) y.toNat (by omega) (by omega)
  rw [show ((x.toNat * 256 : Nat) : Int) = (x.toNat : Int) * 256 by simp] at this
  rw [this]
  congr 1
  rw [Nat.mul_comm, ← Nat.two_pow_add_eq_or_of_lt (i := 8) (by omega)]
theorem num2 (l : By) (h : l.length = 2) : val l = (l[0]'(by omega)).toNat * 256 + (l[1]'(by omega)).toNat := by
  match l, h with
  | [x, y], _ => simp [val]
end
end Go.Proofs.Ytgnihceefpijiaa
/- Kinds of keys; Height, of the code and of the reference; a key's bytes. -/
namespace Go.Proofs.Ytgnihceefpijiaa
open Go.RowKit

/-- The height that a kind has; 0 for none. -/
def hgtO (oid : Nat) : Nat := if oid = 1 then 10 else if oid = 2 then 16 else if oid = 3 then 20 else 0
def isO (oid : Nat) : Bool := decide (1 ≤ oid ∧ oid ≤ 3)
theorem isO_off {oid : Nat} (h : isO oid = false) : oid ≠ 1 ∧ oid ≠ 2 ∧ oid ≠ 3 := by
  unfold isO at h
  have h := of_decide_eq_false h
  omega
theorem hgtO_off {oid : Nat} (h : isO oid = false) : hgtO oid = 0 := by
  obtain ⟨h1, h2, h3⟩ := isO_off h
  simp [hgtO, h1, h2, h3]
/-- Whether 68 bytes are a key; its cells. -/
def kOk (k : By) : Bool := isO (val (k.take 4))
def kF (k : By) : Nat → UInt8 := fun i => k.getD i 0
def zb : Nat → UInt8 := fun _ => 0
theorem info_key : (Try.prog.info? 55).map (·.size) = some 68 := by kernel_rfl
theorem zeroKeyB (w : World) : (zeroValue 55).run Try.prog w = .ok (.agg (vec 68 (bys zb))) w :=
  (zero_of_info (P := Try.prog) (t := 55) (v := .agg (vec 68 (bys zb))) (n := 68) (by kernel_rfl)).1 w
theorem key_lies {w : World} {g : Nat} {t : TypeId} {k : By} (h : Arr w g t 68 (bys (kF k))) (hk : k.length = 68) : Lies w w.heap.size 1 (some ⟨g, 0, none⟩) 68 (u8s k) := by
  have hl := h.lies h.lt 0 68 (by decide)
  have e : ((List.range 68).map fun i => bys (kF k) (0 + i)) = u8s k := by
    refine List.ext_getElem (by simp [u8s, hk]) fun i h1 h2 => ?_
    have hi : i < k.length := by simp at h1; omega
    simp [bys, kF, u8s, hi]
  rw [e] at hl
  exact hl
theorem accB_congr (a b : Nat → UInt8) : ∀ k, (∀ i, i < k → a i = b i) → accB a k = accB b k
  | 0, _ => rfl
  | k + 1, h => by rw [accB, accB, accB_congr a b k (fun i hi => h i (by omega)), h k (by omega)]
theorem numHas_m68 : numHas 68 0 4 = true := by decide
theorem numOf_key (k : By) (hk : k.length = 68) : numOf k 0 4 false = val (k.take 4) := by
  have h4 : (k.take 4).length = 4 := by simp; omega
  rw [← numOf_val (k.take 4) 4 h4]
  unfold numOf
  rw [if_pos (by omega), if_neg (by decide), if_pos (by omega), if_neg (by decide)]
  refine accB_congr _ _ 4 fun i hi => ?_
  unfold bAt
  rw [show (0 : Int).toNat + i = i by simp, List.getD_eq_getElem?_getD, List.getD_eq_getElem?_getD, List.getElem?_take, if_pos hi]
end Go.Proofs.Ytgnihceefpijiaa
/- Bounds; signs; names: of the code and of the reference. -/
namespace Go.Proofs.Ytgnihceefpijiaa
open Go.RowKit

def inB (n lo hi : Int) : Bool := decide (lo ≤ n ∧ n ≤ hi)
theorem sign_of (n : Nat) (h : n < 256) : sign (UInt8.ofNat n) = (decide (97 ≤ n) && decide (n ≤ 122) || decide (48 ≤ n) && decide (n ≤ 57) || decide (n = 45)) := by
  revert n; decide +kernel
theorem sign_eq (c : UInt8) : sign c = (decide (97 ≤ c.toNat) && decide (c.toNat ≤ 122) || decide (48 ≤ c.toNat) && decide (c.toNat ≤ 57) || decide (c.toNat = 45)) := by
  have := sign_of c.toNat c.toNat_lt
  rwa [UInt8.ofNat_toNat] at this
/-- Which of the intervals a sign lies in. -/
theorem sign_cases (c : UInt8) : (97 ≤ c.toNat ∧ c.toNat ≤ 122 ∧ sign c = true) ∨ (48 ≤ c.toNat ∧ c.toNat ≤ 57 ∧ sign c = true) ∨ (c.toNat = 45 ∧ sign c = true) ∨ (122 < c.toNat ∧ sign c = false) ∨ (57 < c.toNat ∧ c.toNat < 97 ∧ sign c = false) ∨ (c.toNat < 48 ∧ c.toNat ≠ 45 ∧ sign c = false) := by
  have h := sign_eq c
  have := c.toNat_lt
  by_cases h1 : 97 ≤ c.toNat
  · by_cases h2 : c.toNat ≤ 122
    · exact .inl ⟨h1, h2, by rw [h]; simp [h1, h2]⟩
    · refine .inr (.inr (.inr (.inl ⟨by omega, ?_⟩)))
      rw [h]; simp; omega
  · by_cases h3 : 48 ≤ c.toNat
    · by_cases h4 : c.toNat ≤ 57
      · exact .inr (.inl ⟨h3, h4, by rw [h]; simp [h3, h4]⟩)
      · refine .inr (.inr (.inr (.inr (.inl ⟨by omega, by omega, ?_⟩))))
        rw [h]; simp; omega
    · by_cases h5 : c.toNat = 45
      · exact .inr (.inr (.inl ⟨h5, by rw [h]; simp [h5]⟩))
      · refine .inr (.inr (.inr (.inr (.inr ⟨by omega, h5, ?_⟩))))
        rw [h]; simp; omega
end Go.Proofs.Ytgnihceefpijiaa
/- Names: of the code and of the reference. -/
namespace Go.Proofs.Ytgnihceefpijiaa
open Go.RowKit

theorem strOf_size (s : By) : (strOf s).size = s.length := by simp [strOf, ByteArray.size]
theorem all_take_succ (s : By) (k : Nat) (hk : k < s.length) : (s.take (k + 1)).all sign = ((s.take k).all sign && sign s[k]) := by
  rw [List.take_succ_eq_append_getElem hk, List.all_append]; simp
theorem all_take_no (s : By) (k : Nat) (h : (s.take k).all sign = false) : nameOk s = false := by
  unfold nameOk
  have : s.all sign = false := by
    rw [← List.take_append_drop k s, List.all_append, h]; rfl
  rw [this]; rfl
theorem nameOk_all (s : By) (h : s.all sign = true) : nameOk s = inB (s.length : Int) 1 16 := by
  unfold nameOk inB
  rw [h, Bool.true_and, ← Bool.decide_and]
  congr 1
  simp only [eq_iff_iff]
  omega
end Go.Proofs.Ytgnihceefpijiaa
/- bytes.TrimRight at one byte 0. -/
namespace Go.Proofs.Ytgnihceefpijiaa
open Go.RowKit

/-- m bytes are left of l: behind them stands nothing but 0, the last of them isn't 0. -/
structure Trim (l : By) (m : Nat) : Prop where
  le : m ≤ l.length
  zeros : ∀ j (h : j < l.length), m ≤ j → l[j] = 0
  last : ∀ (h : 0 < m), l[m - 1]'(by omega) ≠ 0
theorem Trim.drop {l : By} {m : Nat} (h : Trim l m) : (l.drop m).all (fun c => c == 0) = true := by
  rw [List.all_eq_true]
  intro x hx
  obtain ⟨j, hj, rfl⟩ := List.getElem_of_mem hx
  have hj2 : m + j < l.length := by simp at hj; omega
  have := h.zeros (m + j) hj2 (by omega)
  simp [this]
theorem nameOk_ne {s : By} (h : nameOk s = true) : (∀ c ∈ s, c ≠ 0) ∧ 1 ≤ s.length ∧ s.length ≤ 16 := by
  simp only [nameOk, Bool.and_eq_true, decide_eq_true_eq] at h
  exact ⟨fun c hc => sign_ne (List.all_eq_true.1 h.1.1 c hc), h.1.2, h.2⟩
/-- A trimmed name. -/
theorem trim_name {l : By} {m : Nat} (hl : l.length = 16) (h : Trim l m) :
    (if nameOk (nameD l) = true ∧ (l.drop (nameD l).length).all (fun c => c == 0) = true then (Except.ok (nameD l) : Except Nat By) else .error 143) = if nameOk (l.take m) = true then .ok (l.take m) else .error 143 := by
  have hz := h.drop
  have hm : (l.take m).length = m := by rw [List.length_take, Nat.min_eq_left h.le]
  by_cases h1 : nameOk (l.take m) = true
  · have hne := (nameOk_ne h1).1
    have e : l = l.take m ++ List.replicate (l.drop m).length 0 := by
      rw [← zeros_of _ hz, List.take_append_drop]
    have e2 : nameD l = l.take m := by
      conv => lhs; rw [e]
      exact nameD_of _ _ hne
    rw [e2, hm, if_pos ⟨h1, hz⟩, if_pos h1]
  · rw [if_neg h1]
    refine if_neg fun h2 => h1 ?_
    have e := takeWhile_pre (fun c => c != 0) l
    have hn := nameOk_ne h2.1
    have hle : (nameD l).length ≤ l.length := by
      have := congrArg List.length e
      rw [List.length_append, List.length_drop] at this
      unfold nameD at *
      omega
    have hget : ∀ j (hj : j < (nameD l).length), l[j]'(by omega) = (nameD l)[j] := fun j hj => by
      have e' : (nameD l ++ l.drop (nameD l).length) = l := e
      have h3 : (nameD l ++ l.drop (nameD l).length)[j]? = l[j]? := by rw [e']
      rw [List.getElem?_append_left hj, List.getElem?_eq_getElem hj, List.getElem?_eq_getElem (by omega)] at h3
      exact (Option.some.inj h3).symm
    have hrest : ∀ j (hj : j < l.length), (nameD l).length ≤ j → l[j] = 0 := fun j hj hle => by
      have h3 := List.all_eq_true.1 h2.2 (l[j]) (by
        rw [List.mem_iff_getElem]
        exact ⟨j - (nameD l).length, by simp; omega, by simp [Nat.add_sub_cancel' hle]⟩)
      simpa using h3
    have em : m = (nameD l).length := by
      rcases Nat.lt_trichotomy m (nameD l).length with hlt | heq | hgt
      · have h3 := h.zeros m (by omega) (Nat.le_refl _)
        rw [hget m hlt] at h3
        exact absurd h3 (hn.1 _ (List.getElem_mem _))
      · exact heq
      · exact absurd (hrest (m - 1) (by have := h.le; omega) (by omega)) (h.last (by omega))
    have e' : (nameD l ++ l.drop (nameD l).length) = l := e
    have e3 : l.take m = nameD l := by
      rw [em]
      exact (congrArg (List.take (nameD l).length) e'.symm).trans List.take_left
    rw [e3]
    exact h2.1
end Go.Proofs.Ytgnihceefpijiaa
/- Numbers as bytes: what Gk's be and val are in the words of the texts that walk package word. -/
namespace Go.Proofs.Ytgnihceefpijiaa

theorem val_map (b : Nat → UInt8) : ∀ k, val ((List.range k).map b) = accB b k
  | 0 => rfl
  | k + 1 => by
    rw [List.range_succ, List.map_append, List.map_cons, List.map_nil, val_snoc, val_map b k]
    rfl
/-- So many bytes from a place on. -/
theorem val_cut (l : By) (p m : Nat) (h : p + m ≤ l.length) : val ((l.drop p).take m) = accB (fun i => l[p + i]?.getD 0) m := by
  rw [← val_map]
  refine congrArg val (List.ext_getElem (by simp; omega) fun i h1 h2 => ?_)
  have hi : i < m := by simpa using h2
  simp [List.getElem?_eq_getElem (show p + i < l.length by omega)]
/-- Byte i of m: the highest ahead. -/
theorem be_map : ∀ m n, be m n = (List.range m).map fun i => UInt8.ofNat (n / 2 ^ (8 * (m - 1 - i)) % 256)
  | 0, _ => rfl
  | m + 1, n => by
    rw [be, be_map m (n / 256), List.range_succ, List.map_append, List.map_cons, List.map_nil]
    have e0 : n / 2 ^ (8 * (m + 1 - 1 - m)) % 256 = n % 256 := by
      rw [show 8 * (m + 1 - 1 - m) = 0 by omega, Nat.pow_zero, Nat.div_one]
    rw [e0]
    congr 1
    refine List.map_congr_left fun i hi => ?_
    have hi : i < m := List.mem_range.1 hi
    rw [show 8 * (m + 1 - 1 - i) = 8 + 8 * (m - 1 - i) by omega, Nat.pow_add, ← Nat.div_div_eq_div_mul]
theorem be_byte (m n i : Nat) (hi : i < m) : (be m n)[i]? = some (UInt8.ofNat (n / 2 ^ (8 * (m - 1 - i)) % 256)) := by
  rw [be_map]
  simp [hi]
end Go.Proofs.Ytgnihceefpijiaa
/- What a reader answers; flags, permissions, counts, names. -/
namespace Go.Proofs.Ytgnihceefpijiaa
open Go.RowKit

theorem fld_get (m lo hi e : Nat) (b : By) (q : Nat) : (fld m lo hi e).get b q = if q + m ≤ b.length then (if lo ≤ numAt b q m ∧ numAt b q m ≤ hi then .ok ((numAt b q m : Int), q + m) else .error (e, q)) else .error (141, q) := by
  unfold fld raw numAt
  dsimp only
  by_cases h : q + m ≤ b.length
  · rw [if_pos h, if_pos h]
    by_cases h2 : lo ≤ val ((b.drop q).take m) ∧ val ((b.drop q).take m) ≤ hi
    · rw [if_pos h2, if_pos h2]
    · rw [if_neg h2, if_neg h2]
  · rw [if_neg h, if_neg h]
theorem bool_get (b : By) (q : Nat) : boolC.get b q = if q + 4 ≤ b.length then (if numAt b q 4 ≤ 1 then .ok (decide ((numAt b q 4 : Int) = 1), q + 4) else .error (144, q)) else .error (141, q) := by
  unfold boolC Cod.map
  dsimp only
  rw [fld_get]
  by_cases h : q + 4 ≤ b.length
  · rw [if_pos h, if_pos h]
    by_cases h2 : numAt b q 4 ≤ 1
    · rw [if_pos h2, if_pos ⟨Nat.zero_le _, h2⟩]
    · rw [if_neg h2, if_neg (fun h3 => h2 h3.2)]
  · rw [if_neg h, if_neg h]
theorem name_short (b : By) (q : Nat) (h : ¬ q + 16 ≤ b.length) : nameC.get b q = .error (141, q) := by
  unfold nameC raw
  dsimp only
  rw [if_neg h]
theorem name_get (b : By) (q m : Nat) (h : q + 16 ≤ b.length) (l : By) (hl : l = (b.drop q).take 16) (ht : Trim l m) : nameC.get b q = if nameOk (l.take m) = true then .ok (l.take m, q + 16) else .error (143, q) := by
  have hn : l.length = 16 := by rw [hl]; exact cut_len b q 16 h
  have t := trim_name hn ht
  unfold nameC raw
  dsimp only
  rw [if_pos h, ← hl]
  by_cases h1 : nameOk (nameD l) = true ∧ (l.drop (nameD l).length).all (fun c => c == 0) = true
  · rw [if_pos h1] at t ⊢
    dsimp only
    by_cases h2 : nameOk (l.take m) = true
    · rw [if_pos h2] at t ⊢
      injection t with t
      rw [t]
    · rw [if_neg h2] at t; cases t
  · rw [if_neg h1] at t ⊢
    dsimp only
    by_cases h2 : nameOk (l.take m) = true
    · rw [if_pos h2] at t; cases t
    · rw [if_neg h2]
def intV (k : IntKind) (_ : World) (x : Int) (v : Value) : Prop := v = .int k x
def boolV (_ : World) (x : Bool) (v : Value) : Prop := v = .bool x
def strV (_ : World) (x : By) (v : Value) : Prop := v = .string (strOf x)
section
variable {w : World} {g c at_ q : Nat} {A : Option Addr} {b : By}
theorem lies_take {w : World} {B n m : Nat} {A : Option Addr} {l : By} (h : Lies w B 1 A n (u8s l)) (hm : m ≤ n) (hn : l.length = n) : Lies w B 1 A m (u8s (l.take m)) := by
  refine ⟨by simp [u8s_length]; omega, fun h0 => ?_⟩
  obtain ⟨a, e, hb, hc⟩ := h.2 (by omega)
  refine ⟨a, e, hb, fun j hj => ?_⟩
  have hj2 : j < (u8s l).length := by simp [u8s_length] at hj ⊢; omega
  rw [hc j hj2]
  simp [u8s]
end
end Go.Proofs.Ytgnihceefpijiaa
/- parser.key. -/
namespace Go.Proofs.Ytgnihceefpijiaa
open Go.RowKit
attribute [local go_sem ↓ high] zeroKeyB
theorem arr_at_key (a : Addr) (c : Nat) (w : World) : (Instr.arrayAt 55 (.slice (some a) 68 c)).run Try.prog w = .ok (.pointer (some a)) w := by
  simp [Instr.arrayAt, run_underlying Try.underlying55]
def keyV (_ : World) (x : By) (v : Value) : Prop := x.length = 68 ∧ v = .agg (vec 68 (bys (kF x)))
section
variable {P : Program} {w : World} {ops : Array Oper} {rest : List Oper} {o : Oper} {a : Act} {Q : Exit → Act → World → Prop}
theorem run_load_q {n : Nat} {f : Nat → Value} {p : Addr} {ty : TypeId} {d : TypeDesc} (h : ∀ i, i < n → w.cell? (p.add i) = some (f i)) (hu : P.underlying ty = some d)
    (hd : (match d with | .struct _ | .array _ _ => true | _ => false) = true) (hi : (P.info? ty).map (·.size) = some n) :
    (loadVar ty p).run P w = .ok (.agg (vec n f)) w := by
  have hl : (loadCells p (vec n f).toList.length).run P w = .ok (vec n f).toList.toArray w :=
    run_loadCells_list (P := P) w p (vec n f).toList (fun j v hv => by
      have hj : j < n := by
        have := (List.getElem?_eq_some_iff.1 hv).1
        simpa [vec] using this
      have hv2 : (vec n f)[j]? = some v := by simpa using hv
      rw [vec_at n f j hj] at hv2
      rw [h j hj, hv2])
  cases hq : P.info? ty with
  | none => simp [hq] at hi
  | some i =>
    have hs : i.size = n := by simpa [hq] using hi
    have hagg : (isAgg ty).run P w = .ok true w := by
      unfold isAgg
      rw [Sem.run_bind, run_underlying hu w]
      cases d <;> simp_all
    have hz : (vec n f).size = n := vec_size n f
    simp only [Array.length_toList, Array.toArray_toList] at hl
    rw [hz] at hl
    simp [loadVar, Sem.run_bind, hagg, sizeOf, typeInfo, hq, hs, hl]
theorem exec_load_q (ty : TypeId) (x : Operand) (ho : o.op = .load ty x) (p : Addr) (hx : a.eval x = .pointer (some p)) (v : Value)
    (hl : (loadVar ty p).run P w = .ok v w) : (execOp a.eval o).run P w = .ok (.value v) w := by
  unfold execOp
  simp only [ho, hx, Instr.loadAt, Instr.sureAddr, Sem.run_bind, Sem.run_pure, Result.andThen_ok, hl]
theorem wl_load_q (hgd : o.guard = none) (ty : TypeId) (x : Operand) (ho : o.op = .load ty x) (p : Addr) (hx : a.eval x = .pointer (some p)) (v : Value)
    (hl : (loadVar ty p).run P w = .ok v w) (h : wpList P ops Q rest (a.put o.dst v) w) : wpList P ops Q (o :: rest) a w :=
  wpList_plain hgd fun _ hK => by
    unfold Oper.wp
    rw [exec_load_q ty x ho p hx v hl]
    exact hK _ _ h
end
theorem lies_key {w : World} {B : Nat} {A : Option Addr} {k : By} (h : Lies w B 1 A 68 (u8s k)) (hk : k.length = 68) : ∃ a, A = some a ∧ ∀ i, i < 68 → w.cell? (a.add i) = some (bys (kF k) i) := by
  obtain ⟨a, e, hb, hc⟩ := h.2 (by decide)
  refine ⟨a, e, fun i hi => ?_⟩
  rw [hc i (by rw [u8s_length, hk]; exact hi)]
  have hi2 : i < k.length := by omega
  simp [u8s, bys, kF, hi2]
theorem key_short (b : By) (q : Nat) (h : ¬ q + 68 ≤ b.length) : (keyC kOk).get b q = .error (141, q) := by
  unfold keyC raw
  dsimp only
  rw [if_neg h]
theorem key_get (b : By) (q : Nat) (h : q + 68 ≤ b.length) : (keyC kOk).get b q = if kOk ((b.drop q).take 68) = true then .ok ((b.drop q).take 68, q + 68) else .error (144, q) := by
  unfold keyC raw
  dsimp only
  rw [if_pos h]
  by_cases h2 : kOk ((b.drop q).take 68) = true
  · rw [if_pos h2, if_pos h2]
  · rw [if_neg h2, if_neg h2]
/-- A world that goes on: all below n is as it was. -/
theorem Save.on {g n : Nat} {V Y Z : World} (h : Save g V Y) (hd : Below n Y Z) (hn : V.heap.size ≤ n) : Save g V Z :=
  ⟨hd.os.trans h.os, hd.tape.trans h.tape, hd.output.trans h.output, Nat.le_trans h.size hd.size, fun k hk hkr => (hd.block k (by omega)).trans (h.block k hk hkr)⟩
theorem Save.left {g : Nat} {w V W : World} (h1 : Below w.heap.size w V) (h2 : Save g V W) : Save g w W := ⟨h2.os.trans h1.os, h2.tape.trans h1.tape, h2.output.trans h1.output, Nat.le_trans h1.size h2.size, fun k hk hg => (h2.block k (Nat.lt_of_lt_of_le hk h1.size) hg).trans (h1.block k hk)⟩
end Go.Proofs.Ytgnihceefpijiaa
/- What guests and channels are made of, as cells; zeros and sizes; reading one behind the other. -/
namespace Go.Proofs.Ytgnihceefpijiaa
open Go.RowKit

def winE (x : Wi) : Nat → Value
  | 0 => .int .u64 x.ipa
  | 1 => .int .u64 x.pa
  | 2 => .int .u64 x.size
  | _ => .int .i64 x.perm
def devE (x : De) : Nat → Value
  | 0 => .int .u64 x.ipa
  | 1 => .int .u64 x.pa
  | _ => .int .u64 x.size
def irqE (x : Ir) : Nat → Value
  | 0 => .int .i64 x.number
  | 1 => .int .i64 x.cpu
  | _ => .bool x.edge
def endE (x : En) : Nat → Value
  | 0 => .int .i64 x.guest
  | 1 => .int .i64 x.perm
  | _ => .int .u64 x.ipa
def chE (x : Ch) : Nat → Value
  | 0 => .int .u64 x.pa
  | 1 => .int .u64 x.size
  | i + 2 => if i < 3 then endE x.a i else endE x.b (i - 3)
def twoE (a b : En) : Nat → Value := fun i => if i < 3 then endE a i else endE b (i - 3)
def numE (x : Int) : Nat → Value := fun _ => .int .u32 x
theorem winE_one (x : Wi) (n : Nat) : ∀ i, i < n → (winE x i).oneCell' = true := by
  intro i _; match i with | 0 => rfl | 1 => rfl | 2 => rfl | _ + 3 => rfl
theorem devE_one (x : De) (n : Nat) : ∀ i, i < n → (devE x i).oneCell' = true := by
  intro i _; match i with | 0 => rfl | 1 => rfl | _ + 2 => rfl
theorem irqE_one (x : Ir) (n : Nat) : ∀ i, i < n → (irqE x i).oneCell' = true := by
  intro i _; match i with | 0 => rfl | 1 => rfl | _ + 2 => rfl
theorem endE_one (x : En) (n : Nat) : ∀ i, i < n → (endE x i).oneCell' = true := by
  intro i _; match i with | 0 => rfl | 1 => rfl | _ + 2 => rfl
theorem chE_one (x : Ch) (n : Nat) : ∀ i, i < n → (chE x i).oneCell' = true := by
  intro i _
  match i with
  | 0 => rfl
  | 1 => rfl
  | i + 2 =>
    show (if i < 3 then endE x.a i else endE x.b (i - 3)).oneCell' = true
    split
    · exact endE_one x.a (i + 1) i (Nat.lt_succ_self _)
    · exact endE_one x.b (i - 3 + 1) (i - 3) (Nat.lt_succ_self _)
theorem numE_one (x : Int) (n : Nat) : ∀ i, i < n → (numE x i).oneCell' = true := fun _ _ => rfl
def zWi : Wi := ⟨0, 0, 0, 0⟩
def zDe : De := ⟨0, 0, 0⟩
def zIr : Ir := ⟨0, 0, false⟩
def zEn : En := ⟨0, 0, 0⟩
def zCh : Ch := ⟨0, 0, zEn, zEn⟩
theorem infoWi : (Try.prog.info? 64).map (·.size) = some 4 := by kernel_rfl
theorem infoDe : (Try.prog.info? 72).map (·.size) = some 3 := by kernel_rfl
theorem infoIr : (Try.prog.info? 118).map (·.size) = some 3 := by kernel_rfl
theorem infoEn : (Try.prog.info? 51).map (·.size) = some 3 := by kernel_rfl
theorem infoCh : (Try.prog.info? 54).map (·.size) = some 8 := by kernel_rfl
theorem zeroWi (w : World) : (zeroValue 64).run Try.prog w = .ok (.agg (vec 4 (winE zWi))) w :=
  (zero_of_info (P := Try.prog) (t := 64) (v := .agg (vec 4 (winE zWi))) (n := 4) (by kernel_rfl)).1 w
theorem zeroDe (w : World) : (zeroValue 72).run Try.prog w = .ok (.agg (vec 3 (devE zDe))) w :=
  (zero_of_info (P := Try.prog) (t := 72) (v := .agg (vec 3 (devE zDe))) (n := 3) (by kernel_rfl)).1 w
theorem zeroIr (w : World) : (zeroValue 118).run Try.prog w = .ok (.agg (vec 3 (irqE zIr))) w :=
  (zero_of_info (P := Try.prog) (t := 118) (v := .agg (vec 3 (irqE zIr))) (n := 3) (by kernel_rfl)).1 w
theorem zeroEn (w : World) : (zeroValue 51).run Try.prog w = .ok (.agg (vec 3 (endE zEn))) w :=
  (zero_of_info (P := Try.prog) (t := 51) (v := .agg (vec 3 (endE zEn))) (n := 3) (by kernel_rfl)).1 w
theorem zeroCh (w : World) : (zeroValue 54).run Try.prog w = .ok (.agg (vec 8 (chE zCh))) w :=
  (zero_of_info (P := Try.prog) (t := 54) (v := .agg (vec 8 (chE zCh))) (n := 8) (by kernel_rfl)).1 w
def rowV {α : Type} (n : Nat) (enc : α → Nat → Value) (_ : World) (x : α) (v : Value) : Prop := v = .agg (vec n (enc x))
section
variable {α β : Type} {b : By} {p q r : Nat} {e : Nat × Nat}
theorem dep_no {c : Cod α} {d : α → Cod β} (h : c.get b p = .error e) : (c.dep d).get b p = .error e := by
  unfold Cod.dep; dsimp only; rw [h]
theorem dep_on {c : Cod α} {d : α → Cod β} {x : α} (h : c.get b p = .ok (x, q)) (h2 : (d x).get b q = .error e) : (c.dep d).get b p = .error e := by
  unfold Cod.dep; dsimp only; rw [h]; dsimp only; rw [h2]
theorem dep_ye {c : Cod α} {d : α → Cod β} {x : α} {y : β} (h : c.get b p = .ok (x, q)) (h2 : (d x).get b q = .ok (y, r)) : (c.dep d).get b p = .ok ((x, y), r) := by
  unfold Cod.dep; dsimp only; rw [h]; dsimp only; rw [h2]
theorem map_no {c : Cod α} {f : α → β} {g : β → α} (h : c.get b p = .error e) : (c.map f g).get b p = .error e := by
  unfold Cod.map; dsimp only; rw [h]
theorem map_ye {c : Cod α} {f : α → β} {g : β → α} {x : α} (h : c.get b p = .ok (x, q)) : (c.map f g).get b p = .ok (f x, q) := by
  unfold Cod.map; dsimp only; rw [h]
end
theorem fld_short (m lo hi e : Nat) (b : By) (q : Nat) (h : ¬ q + m ≤ b.length) : (fld m lo hi e).get b q = .error (141, q) := by rw [fld_get, if_neg h]
theorem fld_bad (m lo hi e : Nat) (b : By) (q n : Nat) (h : q + m ≤ b.length) (hn : n = numAt b q m) (h2 : ¬ (lo ≤ n ∧ n ≤ hi)) : (fld m lo hi e).get b q = .error (e, q) := by rw [fld_get, if_pos h, ← hn, if_neg h2]
theorem fld_good (m lo hi e : Nat) (b : By) (q n : Nat) (h : q + m ≤ b.length) (hn : n = numAt b q m) (h2 : lo ≤ n ∧ n ≤ hi) : (fld m lo hi e).get b q = .ok ((n : Int), q + m) := by rw [fld_get, if_pos h, ← hn, if_pos h2]
end Go.Proofs.Ytgnihceefpijiaa
