import Derived.WalkKit
import Derived.WalkSpells
import Derived.Deep.QuietTactic
import Derived.BigQuiet
import Derived.KernelRfl
import Derived.IntWalk
import Derived.Shelf.Strconv.Itoa0
import Derived.Laws.BitsAllLaws
import Derived.Laws.MakeOwn
import Derived.Laws.BytesArg
import Derived.Test.YtkaipknkjocfiaaGreatChecked
import Derived.Test.YtkaipknkjocfiaaGreatZa0
namespace Go.Proofs.YtkaipknkjocfiaaGreat
open Go.RowKit
def u64s (xs : List Nat) : List Value := xs.map fun (x : Nat) => Value.int .u64 (x : Int)
def ren129 : Go.Shelf.Ren := ⟨fun | 129 => 189 | n => n, fun | 53 => 22 | 3 => 3 | 4 => 4 | 46 => 199 | 5 => 5 | 9 => 9 | n => n, fun | n => n⟩
set_option maxRecDepth 100000 in
theorem lays129 : Go.Proofs.Lays.n129 Tryz.prog ren129 := {
 mixed := by kernel_rfl
 f129 := Tryz.func189.trans (congrArg some (by kernel_rfl))
 t3 := Tryz.underlying3
 a3 := Tryz.isAgg3
 z3 := Tryz.sizeOf3
 v3 := Tryz.zeroValue3
 t4 := Tryz.underlying4
 a4 := Tryz.isAgg4
 z4 := Tryz.sizeOf4
 v4 := Tryz.zeroValue4
 t5 := Tryz.underlying5
 a5 := Tryz.isAgg5
 z5 := Tryz.sizeOf5
 v5 := Tryz.zeroValue5
 t9 := Tryz.underlying9
 a9 := Tryz.isAgg9
 z9 := Tryz.sizeOf9
 v9 := Tryz.zeroValue9
 t46 := Tryz.underlying199
 a46 := Tryz.isAgg199
 z46 := Tryz.sizeOf199
 v46 := Tryz.zeroValue199
 t53 := Tryz.underlying22
 a53 := Tryz.isAgg22
 z53 := Tryz.sizeOf22
 v53 := Tryz.zeroValue22 }
set_option maxRecDepth 100000 in
theorem len64_any (x : Int) (w : World) (h0 : 0 ≤ x) (h1 : x ≤ 18446744073709551615) :
 Calls Tryz.prog 189 #[.int .u64 x] w fun e w' => e = .returned (.int .i64 (Lib.bitLen x.toNat)) ∧ w' = w := Any.bits_Len64 lays129 x w h0 h1
set_option maxRecDepth 100000 in
theorem len64_top (w : World) : Calls Tryz.prog 189 #[.int .u64 18446744073709551615] w fun e w' => e = .returned (.int .i64 64) ∧ w = w' :=
 (len64_any _ w (by decide) (by decide)).mono fun e w' ⟨h1, h2⟩ => ⟨h1.trans (congrArg (fun n : Nat => Ending.returned (.int .i64 (n : Int))) (show Lib.bitLen _ = 64 by decide +kernel)), h2.symm⟩
set_option maxRecDepth 100000 in
theorem len64_half (w : World) : Calls Tryz.prog 189 #[.int .u64 4294967295] w fun e w' => e = .returned (.int .i64 32) ∧ w = w' :=
 (len64_any _ w (by decide) (by decide)).mono fun e w' ⟨h1, h2⟩ => ⟨h1.trans (congrArg (fun n : Nat => Ending.returned (.int .i64 (n : Int))) (show Lib.bitLen _ = 32 by decide +kernel)), h2.symm⟩
set_option maxRecDepth 100000 in
theorem size32_any (w : World) : Calls Tryz.prog 178 #[] w fun e w' => e = .returned (.int .i64 4) ∧ w = w' := by
 go_enter Tryz.func178, Tryz.ntmps178
 go_wp2_with (go_at_call 189; refine (len64_half _).mono ?_; rintro e w' ⟨rfl, rfl⟩)
 go_ret
 exact ⟨rfl, rfl⟩
set_option maxRecDepth 100000 in
theorem size64_any (w : World) : Calls Tryz.prog 190 #[] w fun e w' => e = .returned (.int .i64 8) ∧ w = w' := by
 go_enter Tryz.func190, Tryz.ntmps190
 go_wp2_with (go_at_call 189; refine (len64_top _).mono ?_; rintro e w' ⟨rfl, rfl⟩)
 go_ret
 exact ⟨rfl, rfl⟩
def shAt (o i m : Int) : Int := if o = 1 then 8 * i else 8 * (m - 1 - i)
set_option maxRecDepth 100000 in
theorem shAt_low (i m : Int) : shAt 1 i m = 8 * i := rfl
set_option maxRecDepth 100000 in
theorem shAt_high (i m : Int) : shAt 0 i m = 8 * (m - 1 - i) := rfl
set_option maxRecDepth 100000 in
theorem shift_any (o i m : Int) (ho : o = 0 ∨ o = 1) (h0 : 0 ≤ i) (h1 : i < m) (h2 : m ≤ 8) (w : World) :
   Calls Tryz.prog 179 #[.int .i64 o, .int .i64 i, .int .i64 m] w fun e w' => e = .returned (.int .i64 (shAt o i m)) ∧ w = w' := by
 rcases ho with rfl | rfl
 · go_enter Tryz.func179, Tryz.ntmps179
   go_wp2
   go_ret
   exact ⟨rfl, rfl⟩
 · go_enter Tryz.func179, Tryz.ntmps179
   go_wp2
   go_ret
   exact ⟨rfl, rfl⟩
def accN (o : Int) (wide : Nat) (m : Nat) (b : Nat → UInt8) : Nat → Nat
 | 0 => 0
 | k + 1 => accN o wide m b k ||| ((b k).toNat * 2 ^ min (shAt o k wide).toNat (8 * wide) % m)
set_option maxRecDepth 100000 in
theorem accN_lt (o : Int) (wide n : Nat) (b : Nat → UInt8) (k : Nat) : accN o wide (2 ^ n) b k < 2 ^ n := by
 induction k with
 | zero => exact Nat.pow_pos (by decide)
 | succ k ih => exact Nat.or_lt_two_pow ih (Nat.mod_lt _ (Nat.pow_pos (by decide)))
set_option maxRecDepth 100000 in
theorem or_u32 (o : Int) (b : Nat → UInt8) (k : Nat) (x : Int) (hx : x = ((b k).toNat : Int)) :
  bits .or .u32 ((accN o 4 4294967296 b k : Nat) : Int) (x * 2 ^ min (shAt o k 4).toNat 32 % 4294967296) = ((accN o 4 4294967296 b (k + 1) : Nat) : Int) := by
 subst hx
 have h := accN_lt o 4 32 b k
 have e : ((b k).toNat : Int) * 2 ^ min (shAt o k 4).toNat 32 % 4294967296 = (((b k).toNat * 2 ^ min (shAt o k 4).toNat 32 % 4294967296 : Nat) : Int) := by simp
 rw [e, u32_or_nat _ _ h (Nat.mod_lt _ (by decide))]
 rfl
def bAt (l : List UInt8) (at_ : Nat) : Nat → UInt8 := fun j => l.getD (at_ + j) 0
set_option maxRecDepth 100000 in
theorem bAt_eq (l : List UInt8) (at_ k : Nat) (h : at_ + k < l.length) : ((l[at_ + k].toNat : Nat) : Int) = ((bAt l at_ k).toNat : Int) := by
 unfold bAt
 rw [List.getD_eq_getElem?_getD, List.getElem?_eq_getElem h]; rfl
set_option maxHeartbeats 400000 in
set_option maxRecDepth 100000 in
theorem read32_in (l : List UInt8) (A : Option Addr) (c B : Nat) (at_ : Nat) (o : Int) (ho : o = 0 ∨ o = 1) (w : World) (hat : at_ + 4 ≤ l.length) (hl : l.length ≤ maxLen) (h : Lies w B 1 A l.length (u8s l)) :
  Calls Tryz.prog 188 #[.slice A l.length c, .int .i64 (at_ : Int), .int .i64 o] w fun e w' => e = .returned (.tuple #[.int .u32 (accN o 4 4294967296 (bAt l at_) 4 : Nat), .bool true]) ∧ ∃ n, w' = w.drewN n := by
 unfold maxLen at hl
 have HO := Lib.hid ho
 clear ho
 have Hw := Lib.hid h
 clear h
 go_enter Tryz.func188, Tryz.ntmps188
 go_wp2_with (go_at_call 178; refine (size32_any _).mono ?_; rintro e w' ⟨rfl, rfl⟩)
 go_loopw [9, 10, 24] (fun n i24 j W => ∃ k : Nat, k ≤ 4 ∧ j = .int .i64 k ∧ n = .int .u32 (accN o 4 4294967296 (bAt l at_) k : Nat) ∧ ∃ m, W = w.drewN m) (fun _ _ i _ => 4 - (intOf i).toNat)
 case atStart => exact ⟨0, Nat.zero_le _, rfl, rfl, 0, rfl⟩
 case round =>
  obtain ⟨k, hk, rfl, rfl, m, hm⟩ := hrel
  have hw : Lies wr B 1 A l.length (u8s l) := by rw [hm]; exact Hw.out.drewN m
  have Hm := Lib.hid hm
  clear hm
  by_cases hlt : k < 4
  · obtain ⟨a, hx, rfl, hb, hc⟩ := hw.atMap (k := at_ + k) (by omega)
    have hb8 := u8_lt l[at_ + k]
    go_wp2
    have s0 := or_u32 o (bAt l at_) k _ (bAt_eq l at_ k hx)
    have s1 : IntKind.i64.wrap ((at_ : Int) + k) = at_ + k := IntWalk.i64_in _ (by omega)
    have s2 : (0 : Int) ≤ at_ + k := by omega
    have s3 : ((at_ : Int) + k).toNat = at_ + k := by omega
    have s4 : (at_ : Int) + k < l.length := by omega
    have s5 : 0 ≤ shAt o k 4 := by rcases HO.out with rfl | rfl <;> simp only [shAt_low, shAt_high] <;> omega
    go_quiet ((go_at_call 179; exact quiet_eq (shift_any _ _ _ HO.out (by omega) (by omega) (by omega) _)))
    clear s0 s1 s2 s3 s4 s5
    go_wp2
    go_roundw
    case rel => exact ⟨k + 1, by omega, by go_num, rfl, m + nq, by rw [Hm.out, World.drewN_drewN]⟩
    case measure => simp [intOf]; omega
  · obtain rfl : k = 4 := by omega
    go_wp2
    go_ret2
    exact ⟨rfl, m, Hm.out⟩
set_option maxRecDepth 100000 in
theorem read32_out (A : Option Addr) (n c : Nat) (at_ o : Int) (w : World) (hat : at_ < 0 ∨ (n : Int) - 4 < at_) (hl : n ≤ maxLen) :
   Calls Tryz.prog 188 #[.slice A n c, .int .i64 at_, .int .i64 o] w fun e w' => e = .returned (.tuple #[.int .u32 0, .bool false]) ∧ w = w' := by
 unfold maxLen at hl
 by_cases h0 : at_ < 0
 · clear hat
   go_enter Tryz.func188, Tryz.ntmps188
   go_wp2_with (go_at_call 178; refine (size32_any _).mono ?_; rintro e w' ⟨rfl, rfl⟩)
   go_ret2
   exact ⟨rfl, rfl⟩
 · have h1 : (n : Int) - 4 < at_ := by omega
   have h2 : ¬ at_ < 0 := h0
   clear hat h0
   go_enter Tryz.func188, Tryz.ntmps188
   go_wp2_with (go_at_call 178; refine (size32_any _).mono ?_; rintro e w' ⟨rfl, rfl⟩)
   go_ret2
   exact ⟨rfl, rfl⟩
end Go.Proofs.YtkaipknkjocfiaaGreat
namespace Go.Proofs.YtkaipknkjocfiaaGreat
def accB (b : Nat → UInt8) : Nat → Nat
 | 0 => 0
 | k + 1 => accB b k * 256 + (b k).toNat
def leSum (b : Nat → UInt8) : Nat → Nat
 | 0 => 0
 | k + 1 => leSum b k + (b k).toNat * 256 ^ k
theorem leSum_lt (b : Nat → UInt8) (k : Nat) : leSum b k < 256 ^ k := by
 induction k with
 | zero => exact Nat.one_pos
 | succ k ih =>
  have := (b k).toNat_lt
  simp only [leSum]
  have h2 : (b k).toNat * 256 ^ k ≤ 255 * 256 ^ k := Nat.mul_le_mul_right _ (by omega)
  rw [Nat.pow_succ]; omega
theorem pow256 (k : Nat) : (256 : Nat) ^ k = 2 ^ (8 * k) := by
 rw [show (256 : Nat) = 2 ^ 8 from rfl, ← Nat.pow_mul]
theorem high_or (b : Nat → UInt8) (w k : Nat) (hk : k < w) :
  accB b k * 256 ^ (w - k) ||| ((b k).toNat * 2 ^ (8 * (w - 1 - k)) % 2 ^ (8 * w)) = accB b (k + 1) * 256 ^ (w - (k + 1)) := by
 have hb := (b k).toNat_lt
 have e1 : w - k = (w - (k + 1)) + 1 := by omega
 have e2 : w - 1 - k = w - (k + 1) := by omega
 have hlt : (b k).toNat * 2 ^ (8 * (w - (k + 1))) < 2 ^ (8 * (w - k)) := by
  rw [← pow256, ← pow256, e1, Nat.pow_succ, Nat.mul_comm _ 256]
  exact Nat.mul_lt_mul_of_pos_right (by omega) (Nat.pow_pos (by decide))
 have hle : 2 ^ (8 * (w - k)) ≤ 2 ^ (8 * w) := Nat.pow_le_pow_right (by decide) (by omega)
 rw [e2, Nat.mod_eq_of_lt (by omega)]
 rw [pow256 (w - k), nat_join (8 * (w - k)) _ _ (Nat.mul_mod_left _ _) hlt, ← pow256, ← pow256, e1, Nat.pow_succ]
 simp only [accB]
 rw [Nat.add_mul, Nat.mul_assoc, Nat.mul_comm 256]
theorem low_or (b : Nat → UInt8) (w k : Nat) (hk : k < w) :
  leSum b k ||| ((b k).toNat * 2 ^ (8 * k) % 2 ^ (8 * w)) = leSum b (k + 1) := by
 have hb := (b k).toNat_lt
 have hlt : (b k).toNat * 2 ^ (8 * k) < 2 ^ (8 * w) := by
  have h1 : (b k).toNat * 2 ^ (8 * k) < 2 ^ 8 * 2 ^ (8 * k) := Nat.mul_lt_mul_of_pos_right (by omega) (Nat.pow_pos (by decide))
  rw [← Nat.pow_add] at h1
  exact Nat.lt_of_lt_of_le h1 (Nat.pow_le_pow_right (by decide) (by omega))
 have hs := leSum_lt b k
 rw [pow256] at hs
 rw [Nat.mod_eq_of_lt hlt, Nat.or_comm, nat_join (8 * k) _ _ (Nat.mul_mod_left _ _) hs]
 simp only [leSum]
 rw [pow256, Nat.add_comm]
theorem accB_rev4 (b c : Nat → UInt8) (h : ∀ j, j < 4 → c j = b (3 - j)) : accB c 4 = leSum b 4 := by
 have e0 : c 0 = b 3 := h 0 (by omega)
 have e1 : c 1 = b 2 := h 1 (by omega)
 have e2 : c 2 = b 1 := h 2 (by omega)
 have e3 : c 3 = b 0 := h 3 (by omega)
 simp only [accB, leSum, e0, e1, e2, e3]
 omega
end Go.Proofs.YtkaipknkjocfiaaGreat
namespace Go.Proofs.YtkaipknkjocfiaaGreat
open Go.RowKit
set_option maxRecDepth 100000 in
theorem accN_high (w : Nat) (b : Nat → UInt8) (k : Nat) (hk : k ≤ w) : accN 0 w (2 ^ (8 * w)) b k = accB b k * 256 ^ (w - k) := by
 induction k with
 | zero => simp [accN, accB]
 | succ k ih =>
  have e : (shAt 0 (k : Int) (w : Int)).toNat = 8 * (w - 1 - k) := by rw [shAt_high]; omega
  rw [accN, ih (by omega), e, Nat.min_eq_left (by omega), high_or b w k (by omega)]
set_option maxRecDepth 100000 in
theorem accN_low (w : Nat) (b : Nat → UInt8) (k : Nat) (hk : k ≤ w) : accN 1 w (2 ^ (8 * w)) b k = leSum b k := by
 induction k with
 | zero => simp [accN, leSum]
 | succ k ih =>
  have e : (shAt 1 (k : Int) (w : Int)).toNat = 8 * k := by rw [shAt_low]; omega
  rw [accN, ih (by omega), e, Nat.min_eq_left (by omega), low_or b w k (by omega)]
def dnAt (l : List UInt8) (at_ size : Nat) : Nat → UInt8 := fun j => l.getD (at_ + size - 1 - j) 0
def numHas (n : Nat) (at_ : Int) (size : Nat) : Bool := decide (0 ≤ at_ ∧ at_ + size ≤ n)
def numOf (l : List UInt8) (at_ : Int) (size : Nat) (low : Bool) : Nat :=
 if 0 ≤ at_ ∧ at_ + size ≤ l.length then (if low then accB (dnAt l at_.toNat size) size else accB (bAt l at_.toNat) size) else 0
set_option maxRecDepth 100000 in
theorem read32_any (l : List UInt8) (A : Option Addr) (c B : Nat) (at_ : Int) (low : Bool) (w : World) (hl : l.length ≤ maxLen) (h : Lies w B 1 A l.length (u8s l)) :
   Calls Tryz.prog 188 #[.slice A l.length c, .int .i64 at_, .int .i64 (if low then 1 else 0)] w fun e w' => e = .returned (.tuple #[.int .u32 (numOf l at_ 4 low : Nat), .bool (numHas l.length at_ 4)]) ∧ ∃ n, w' = w.drewN n := by
 by_cases hin : 0 ≤ at_ ∧ at_ + (4 : Nat) ≤ l.length
 · obtain ⟨k, rfl⟩ := Int.eq_ofNat_of_zero_le hin.1
   have e1 : numHas l.length (k : Int) 4 = true := by simp only [numHas, decide_eq_true_eq]; exact hin
   have e2 : numOf l (k : Int) 4 low = accN (if low then 1 else 0) 4 4294967296 (bAt l k) 4 := by
    rw [numOf, if_pos hin]
    cases low
    · have := accN_high 4 (bAt l k) 4 (Nat.le_refl _)
      rw [Nat.sub_self, Nat.pow_zero, Nat.mul_one] at this
      exact this.symm
    · have := accN_low 4 (bAt l k) 4 (Nat.le_refl _)
      refine Eq.trans ?_ this.symm
      exact accB_rev4 (bAt l k) _ (fun j hj => by unfold dnAt bAt; rw [Int.toNat_natCast, show k + 4 - 1 - j = k + (4 - 1 - j) by omega])
   rw [e1, e2]
   exact read32_in l A c B k _ (by cases low <;> simp) w (by omega) hl h
 · have e1 : numHas l.length at_ 4 = false := by simp only [numHas, decide_eq_false_iff_not]; exact hin
   have e2 : numOf l at_ 4 low = 0 := by rw [numOf, if_neg hin]
   rw [e1, e2]
   exact (read32_out A l.length c at_ _ w (by omega) hl).mono fun e w' ⟨h1, h2⟩ => ⟨h1, 0, h2.symm⟩
set_option maxRecDepth 100000 in
theorem be32_any (l : List UInt8) (A : Option Addr) (c B : Nat) (at_ : Int) (w : World) (hl : l.length ≤ maxLen) (h : Lies w B 1 A l.length (u8s l)) :
  Calls Tryz.prog 170 #[.slice A l.length c, .int .i64 at_] w fun e w' => e = .returned (.tuple #[.int .u32 (numOf l at_ 4 false : Nat), .bool (numHas l.length at_ 4)]) ∧ ∃ n, w' = w.drewN n := by
 have L := Lib.hid (fun c' W' => read32_any l A c' B at_ false W' hl)
 have Hw := Lib.hid h
 clear h hl
 go_enter Tryz.func170, Tryz.ntmps170
 go_wp2_with (go_at_call 188; refine (L.out _ _ Hw.out).mono ?_; rintro e w' ⟨rfl, hn⟩)
 go_ret2
 exact ⟨rfl, hn⟩
end Go.Proofs.YtkaipknkjocfiaaGreat
namespace Go.Proofs.YtkaipknkjocfiaaGreat
open Go.RowKit
abbrev Part := Option Addr × Nat × List UInt8
def partV (p : Part) : Value := .slice p.1 p.2.2.length p.2.1
def catAll (ps : List Part) : List UInt8 := (ps.map fun p => p.2.2).flatten
set_option maxRecDepth 100000 in
theorem cat_succ (ps : List Part) (k : Nat) (h : k < ps.length) : catAll (ps.take (k + 1)) = catAll (ps.take k) ++ ps[k].2.2 := by
 unfold catAll
 rw [List.take_succ_eq_append_getElem h, List.map_append, List.flatten_append]; simp
set_option maxRecDepth 100000 in
theorem cat_take_le (ps : List Part) (k : Nat) : (catAll (ps.take k)).length ≤ (catAll ps).length := by
 have h : catAll ps = catAll (ps.take k) ++ catAll (ps.drop k) := by
  unfold catAll
  rw [← List.flatten_append, ← List.map_append, List.take_append_drop]
 rw [h, List.length_append]; omega
def Bytes (w : World) (l : List UInt8) (e : Ending) (w' : World) : Prop :=
 ∃ v, e = .returned v ∧ w'.ownsRow w.heap.size 5 1 v l.length (u8s l) ∧ Below w.heap.size w w'
set_option maxRecDepth 100000 in
theorem u8_info : (Tryz.prog.info? 5).map (fun i => (i.zero, i.size, i.bytes)) = some (some (.int .u8 0), 1, 1) := by kernel_rfl
set_option maxRecDepth 100000 in
theorem make_u8 (n : Nat) (hn : n ≤ 140737488355328) (w : World) : ∃ cur : Array Value, cur.size = n ∧
  (Instr.makeSlice 78 (.int .i64 0) (.int .i64 (n : Int))).run Tryz.prog w = .ok (.slice (some ⟨w.heap.size, 0, none⟩) 0 n) (w.alloc (.cells cur 5)) := by
 obtain ⟨i0, hi, hz0, hz1, hz2⟩ := info_parts u8_info
 have h := run_make (P := Tryz.prog) (w := w) 78 5 i0 (.int .u8 0) Tryz.underlying78 hi hz0 .i64 .i64 0 (n : Int) (by omega) (by omega) (by rw [hz2]; omega) (by omega)
 simp only [Int.toNat_natCast, Int.toNat_zero, hz1] at h
 exact ⟨_, by simp [madeCells, Value.cells], h⟩
set_option maxHeartbeats 400000 in
set_option maxRecDepth 100000 in
theorem cat_any (ps : List Part) (A : Option Addr) (c B : Nat) (w : World) (hB : B ≤ w.heap.size) (h : Lies w B 1 A ps.length (ps.map partV))
  (hp : ∀ p ∈ ps, Lies w B 1 p.1 p.2.2.length (u8s p.2.2)) (htot : (catAll ps).length ≤ 70368744177664) (hn : ps.length ≤ maxLen) :
  Calls Tryz.prog 112 #[.slice A ps.length c] w (Bytes w (catAll ps)) := by
 unfold maxLen at hn
 obtain ⟨i0, hi, hz0, hz1, hz2⟩ := info_parts u8_info
 have Hi := Lib.hid (And.intro hi (And.intro hz0 (And.intro hz1 hz2)))
 clear hi hz0 hz1 hz2
 have Hh := Lib.hid h
 have Hp := Lib.hid hp
 clear h hp
 go_enter Tryz.func112, Tryz.ntmps112
 go_wp2
 go_loop [3, 11] (fun n j => ∃ k : Nat, k ≤ ps.length ∧ j = .int .i64 k ∧ n = .int .i64 ((catAll (ps.take k)).length : Nat)) (fun _ i => ps.length - (intOf i).toNat)
 case atStart => exact ⟨0, Nat.zero_le _, rfl, rfl⟩
 case round =>
  obtain ⟨k, hk, rfl, rfl⟩ := hrel
  have hle := cat_take_le ps k
  by_cases hlt : k < ps.length
  · obtain ⟨a, hx, rfl, hb, hc⟩ := Hh.out.atMap hlt
    have hs : (catAll (ps.take (k + 1))).length = (catAll (ps.take k)).length + ps[k].2.2.length := by rw [cat_succ ps k hlt, List.length_append]
    have hle2 := cat_take_le ps (k + 1)
    have hl2 : (catAll (ps.take k)).length + ps[k].2.2.length ≤ 70368744177664 := by omega
    have Hs := Lib.hid hs
    clear hs hle2
    unfold partV at hc
    go_wp2
    go_round
    case rel => exact ⟨k + 1, by omega, by go_num, by rw [Hs.out]; go_num⟩
    case measure => simp [intOf]; omega
  · obtain rfl : k = ps.length := by omega
    obtain ⟨cur, hcur, hmk⟩ := make_u8 (catAll ps).length (by omega) w
    have Hcur := Lib.hid hcur
    clear hcur
    rw [List.take_length] at *
    have hpo := Lib.hid hlt
    clear hlt hle
    go_wp2
    obtain ⟨W0, hW0⟩ : ∃ W0, W0 = w.alloc (.cells cur 5) := ⟨_, rfl⟩
    have hown0 : W0.ownsRow w.heap.size 5 1 (.slice (some ⟨w.heap.size, 0, none⟩) 0 (catAll ps).length) 0 (u8s []) := by
     rw [hW0]; exact World.ownsRow_made w cur _ (Nat.le_refl _) (by unfold maxLen; omega) (by rw [Hcur.out, Nat.mul_one])
    have hbel0 : Below w.heap.size w W0 := by rw [hW0]; exact (Below.refl _ _).alloc (Nat.le_refl _) _
    rw [← hW0]
    clear hW0 hmk
    go_loopw [6, 24] (fun v j W => ∃ k : Nat, k ≤ ps.length ∧ j = .int .i64 k ∧ W.ownsRow w.heap.size 5 1 v (catAll (ps.take k)).length (u8s (catAll (ps.take k))) ∧ Below w.heap.size w W) (fun _ i _ => ps.length - (intOf i).toNat)
    case atStart => exact ⟨0, Nat.zero_le _, rfl, hown0, hbel0⟩
    case round =>
     obtain ⟨k, hk, rfl, hown, hbel⟩ := hrel
     have Hown := Lib.hid hown
     have Hbel := Lib.hid hbel
     clear hown0 hbel0 hown hbel
     by_cases hlt : k < ps.length
     · obtain ⟨a, hx, rfl, hb, hc⟩ := ((Hh.out.wide hB).below Hbel.out).atMap hlt
       have hs : (catAll (ps.take (k + 1))) = (catAll (ps.take k)) ++ ps[k].2.2 := cat_succ ps k hlt
       have hle2 := cat_take_le ps (k + 1)
       have hl2 : (catAll (ps.take k)).length + ps[k].2.2.length ≤ 70368744177664 := by rw [hs, List.length_append] at hle2; omega
       have hr := ((Hp.out _ (List.getElem_mem hx)).wide hB).below Hbel.out
       have Hs := Lib.hid hs
       have Hr := Lib.hid hr
       clear hs hle2 hr
       unfold partV at hc
       obtain ⟨hi, hz0, hz1, hz2⟩ := Hi.out
       have hfin : ∀ v' w', w'.ownsRow w.heap.size 5 1 v' ((catAll (ps.take k)).length + ps[k].2.2.length) (u8s (catAll (ps.take k)) ++ u8s ps[k].2.2) → wr.grownBy w' u6.ownBlock → Below w.heap.size w w' ∧ w'.ownsRow w.heap.size 5 1 v' (catAll (ps.take (k + 1))).length (u8s (catAll (ps.take (k + 1)))) := by
        intro v' w' h1 h2
        refine ⟨Hbel.out.grown h2 Hbel.out.size (fun g hg => (Hown.out.lt g hg).1), ?_⟩
        rw [Hs.out, List.length_append, ← u8s_append]; exact h1
       go_wp2_with (at_builtin; refine wpList_app rfl (.tmp 28) (.tmp 29) 78 rfl w.heap.size 5 i0 (.int .u8 0) 1 Tryz.underlying78 hi hz0 hz1 hz2 rfl _ _ _ rfl Hown.out _ _ _ _ _ rfl Hr.out (u8s_one _) (by unfold maxLen; omega) (by omega) Hbel.out.size ?_; intro v' w' h1 h2 h3)
       obtain ⟨f1, f2⟩ := hfin v' w' h1 h2
       clear hfin hi hz0 hz1 hz2 h1 h2 h3
       go_roundw
       case rel => exact ⟨k + 1, by omega, by go_num, f2, f1⟩
       case measure => simp [intOf]; omega
     · obtain rfl : k = ps.length := by omega
       go_wp2
       go_ret
       have h1 := Hown.out
       rw [List.take_length] at h1
       exact ⟨_, rfl, h1, Hbel.out⟩
end Go.Proofs.YtkaipknkjocfiaaGreat
namespace Go.Proofs.YtkaipknkjocfiaaGreat
open Go.RowKit
def putByte (o : Int) (m : Nat) (n i : Nat) : UInt8 := UInt8.ofNat (n / 2 ^ (shAt o i m).toNat % 256)
def numBytes (o : Int) (m : Nat) (n : Nat) : List UInt8 := (List.range m).map (putByte o m n)
def putAll (o : Int) (m : Nat) (ns : List Nat) : List UInt8 := (ns.map (numBytes o m)).flatten
set_option maxRecDepth 100000 in
theorem putAll_succ (o : Int) (m : Nat) (ns : List Nat) (k : Nat) (h : k < ns.length) : putAll o m (ns.take (k + 1)) = putAll o m (ns.take k) ++ numBytes o m ns[k] := by
 unfold putAll
 rw [List.take_succ_eq_append_getElem h, List.map_append, List.flatten_append]; simp
set_option maxRecDepth 100000 in
theorem numBytes_length (o : Int) (m n : Nat) : (numBytes o m n).length = m := by simp [numBytes]
set_option maxRecDepth 100000 in
theorem putAll_length (o : Int) (m : Nat) (ns : List Nat) : (putAll o m ns).length = m * ns.length := by
 induction ns with
 | nil => simp [putAll]
 | cons n ns ih =>
  have : putAll o m (n :: ns) = numBytes o m n ++ putAll o m ns := by simp [putAll]
  rw [this, List.length_append, ih, numBytes_length, List.length_cons, Nat.mul_succ, Nat.add_comm]
def firstBytes (o : Int) (m n j : Nat) : List UInt8 := (List.range j).map (putByte o m n)
set_option maxRecDepth 100000 in
theorem firstBytes_succ (o : Int) (m n j : Nat) : firstBytes o m n (j + 1) = firstBytes o m n j ++ [putByte o m n j] := by
 unfold firstBytes
 rw [List.range_succ, List.map_append]; rfl
set_option maxRecDepth 100000 in
theorem toNat_ofNat_mod (n : Nat) : ((UInt8.ofNat (n % 256)).toNat : Int) = ((n % 256 : Nat) : Int) := by
 rw [UInt8.toNat_ofNat']; omega
def u32s (xs : List Nat) : List Value := xs.map fun (x : Nat) => Value.int .u32 (x : Int)
set_option maxRecDepth 100000 in
theorem shr_byte32 (o : Int) (n i : Nat) (ho : o = 0 ∨ o = 1) (hi : i < 4) :
  IntKind.u8.wrap ((n : Int) / 2 ^ min (shAt o i 4).toNat 32) = ((putByte o 4 n i).toNat : Int) := by
 have hs : (shAt o i 4).toNat ≤ 32 := by rcases ho with rfl | rfl <;> simp only [shAt_low, shAt_high] <;> omega
 rw [Nat.min_eq_left hs, putByte, toNat_ofNat_mod, IntKind.wrap_u8]
 simp
set_option maxHeartbeats 400000 in
set_option maxRecDepth 100000 in
theorem put32_any (b : List UInt8) (ns : List Nat) (hns : ∀ n ∈ ns, n < 4294967296) (A D : Option Addr) (c d B : Nat) (o : Int) (ho : o = 0 ∨ o = 1) (w : World) (hB : B ≤ w.heap.size)
  (hb : Lies w B 1 A b.length (u8s b)) (hl : Lies w B 1 D ns.length (u32s ns)) (htot : b.length + 4 * ns.length ≤ 70368744177664) :
  Calls Tryz.prog 149 #[.slice A b.length c, .slice D ns.length d, .int .i64 o] w (Bytes w (b ++ putAll o 4 ns)) := by
 obtain ⟨i0, hi, hz0, hz1, hz2⟩ := info_parts u8_info
 have Hi := Lib.hid (And.intro hi (And.intro hz0 (And.intro hz1 hz2)))
 have HO := Lib.hid ho
 have Hb := Lib.hid hb
 have Hl := Lib.hid hl
 have Hns := Lib.hid hns
 clear hi hz0 hz1 hz2 hb hl ho hns
 obtain ⟨cur, hcur, hmk⟩ := make_u8 (4 * ns.length) (by omega) w
 have Hcur := Lib.hid hcur
 clear hcur
 have hmul : ((4 * ns.length : Nat) : Int) = 4 * (ns.length : Int) := by omega
 rw [hmul] at hmk
 clear hmul
 go_enter Tryz.func149, Tryz.ntmps149
 go_wp2_with (go_at_call 178; refine (size32_any _).mono ?_; rintro e w' ⟨rfl, rfl⟩)
 obtain ⟨W0, hW0⟩ : ∃ W0, W0 = w.alloc (.cells cur 5) := ⟨_, rfl⟩
 have hown0 : W0.ownsRow w.heap.size 5 1 (.slice (some ⟨w.heap.size, 0, none⟩) 0 (4 * ns.length)) 0 (u8s []) := by
  rw [hW0]; exact World.ownsRow_made w cur _ (Nat.le_refl _) (by unfold maxLen; omega) (by rw [Hcur.out, Nat.mul_one])
 have hbel0 : Below w.heap.size w W0 := by rw [hW0]; exact (Below.refl _ _).alloc (Nat.le_refl _) _
 rw [← hW0]
 clear hW0 hmk
 go_loopw [8, 20] (fun v j W => ∃ k : Nat, k ≤ ns.length ∧ j = .int .i64 k ∧ W.ownsRow w.heap.size 5 1 v (4 * k) (u8s (putAll o 4 (ns.take k))) ∧ Below w.heap.size w W) (fun _ i _ => ns.length - (intOf i).toNat)
 case atStart => exact ⟨0, Nat.zero_le _, rfl, hown0, hbel0⟩
 case round =>
  obtain ⟨k, hk, rfl, hown, hbel⟩ := hrel
  have Hown := Lib.hid hown
  have Hbel := Lib.hid hbel
  clear hown0 hbel0 hown hbel
  by_cases hlt : k < ns.length
  · obtain ⟨a, hx, rfl, hab, hc⟩ := ((Hl.out.wide hB).below Hbel.out).atMap hlt
    have hnb := Hns.out _ (List.getElem_mem hx)
    go_wp2
    obtain ⟨wo, rfl⟩ : ∃ wo : World, wo = wr := ⟨_, rfl⟩
    go_loopw [8, 25] (fun v j W => ∃ i : Nat, i ≤ 4 ∧ j = .int .i64 i ∧ W.ownsRow w.heap.size 5 1 v (4 * k + i) (u8s (putAll o 4 (ns.take k) ++ firstBytes o 4 ns[k] i)) ∧ Below w.heap.size w W) (fun _ i _ => 4 - (intOf i).toNat)
    case atStart => exact ⟨0, Nat.zero_le _, rfl, by simpa [firstBytes] using Hown.out, Hbel.out⟩
    case round =>
     obtain ⟨i, hi, rfl, hown, hbel⟩ := hrel
     have Hown2 := Lib.hid hown
     have Hbel2 := Lib.hid hbel
     clear hown hbel Hown Hbel hc
     by_cases hlt2 : i < 4
     · have hsh := shr_byte32 o ns[k] i HO.out hlt2
       have s5 : 0 ≤ shAt o i 4 := by rcases HO.out with rfl | rfl <;> simp only [shAt_low, shAt_high] <;> omega
       obtain ⟨hi0, hz0, hz1, hz2⟩ := Hi.out
       have hfin : ∀ (W1 : World) v' w', W1.heap.size = wr.heap.size + 1 → Below w.heap.size w W1 → w'.ownsRow w.heap.size 5 1 v' (4 * k + i + 1) (u8s (putAll o 4 (ns.take k) ++ firstBytes o 4 ns[k] i) ++ u8s [putByte o 4 ns[k] i]) → W1.grownBy w' u8.ownBlock → Below w.heap.size w w' ∧ w'.ownsRow w.heap.size 5 1 v' (4 * k + (i + 1)) (u8s (putAll o 4 (ns.take k) ++ firstBytes o 4 ns[k] (i + 1))) := by
         intro W1 v' w' hsz h0 h1 h2
         refine ⟨h0.grown h2 (by have := Hbel2.out.size; omega) (fun g hg => (Hown2.out.lt g hg).1), ?_⟩
         rw [firstBytes_succ, ← List.append_assoc, ← u8s_append]; exact h1
       have Hsz := Lib.hid Hbel2.out.size
       go_wp2_with (first
         | (go_at_call 179; refine (shift_any _ _ _ HO.out (by omega) (by omega) (by omega) _).mono ?_; rintro e w' ⟨rfl, rfl⟩)
         | (at_builtin; refine wpList_app rfl (.tmp 28) (.tmp 36) 78 rfl w.heap.size 5 i0 (.int .u8 0) 1 Tryz.underlying78 hi0 hz0 hz1 hz2 rfl _ _ _ rfl (Hown2.out.alloc _) _ _ _ _ (u8s [putByte o 4 ns[k] i]) rfl (lies_new _ _ _ _ _ rfl rfl) (u8s_one _) (by unfold maxLen; omega) (by omega) (by have := Hsz.out; simp; omega) ?_; intro v' w' h1 h2 h3))
       obtain ⟨f1, f2⟩ := hfin _ v' w' (by simp) (Hbel2.out.alloc Hsz.out _) h1 h2
       clear hfin hi0 hz0 hz1 hz2 h1 h2 h3 hsh s5
       go_roundw
       case rel => exact ⟨i + 1, by omega, by go_num, f2, f1⟩
       case measure => simp [intOf]; omega
     · obtain rfl : i = 4 := by omega
       have hown3 : wr.ownsRow w.heap.size 5 1 u8 (4 * (k + 1)) (u8s (putAll o 4 (ns.take (k + 1)))) := by rw [putAll_succ _ _ _ _ hx]; exact Hown2.out
       have Hown3 := Lib.hid hown3
       clear hown3
       go_wp2
       go_roundw
       case rel => exact ⟨k + 1, by omega, by go_num, Hown3.out, Hbel2.out⟩
       case measure => simp [intOf]; omega
  · obtain rfl : k = ns.length := by omega
    have h1 := Hown.out
    rw [List.take_length] at h1
    obtain ⟨E, c2, rfl, hl2⟩ := owns_form h1
    have Hown2 := Lib.hid h1
    have Hl2 := Lib.hid hl2
    clear h1 hl2
    have hlen : (putAll o 4 ns).length = 4 * ns.length := putAll_length _ _ _
    have L : ∀ W1, wr.heap.size ≤ W1.heap.size → Below wr.heap.size wr W1 → ∀ P, Lies W1 (W1.heap.size) 1 P 2 ([(A, c, b), (E, c2, putAll o 4 ns)].map partV) → ∀ c3, Calls Tryz.prog 112 #[.slice P 2 c3] W1 (Bytes W1 (b ++ putAll o 4 ns)) := by
     intro W1 hs1 hb1 P hP c3
     have hc := cat_any [(A, c, b), (E, c2, putAll o 4 ns)] P c3 W1.heap.size W1 (Nat.le_refl _) hP (by
       intro p hp
       simp only [List.mem_cons, List.not_mem_nil, or_false] at hp
       rcases hp with rfl | rfl
       · exact (((Hb.out.wide hB).below Hbel.out).wide Hbel.out.size).below hb1 |>.wide hs1
       · rw [← hlen] at Hl2; exact (Hl2.out.below hb1).wide hs1) (by simp [catAll, hlen]; omega) (by simp [maxLen])
     simpa [catAll] using hc
    have P0 : ∀ W1 : World, Lies (W1.alloc (.cells #[.slice A b.length c, .slice E (4 * ns.length) c2] 78)) (W1.alloc (.cells #[.slice A b.length c, .slice E (4 * ns.length) c2] 78)).heap.size 1 (some ⟨W1.heap.size, 0, none⟩) 2 ([(A, c, b), (E, c2, putAll o 4 ns)].map partV) := by
     intro W1
     have := lies_new W1 #[.slice A b.length c, .slice E (4 * ns.length) c2] 78 2 _ rfl rfl
     simpa [partV, hlen] using this
    have HL := Lib.hid L
    have HP := Lib.hid P0
    clear L P0 hlen
    go_wp2_with (go_at_call 112; refine (HL.out _ (by simp) ((Below.refl _ _).alloc (Nat.le_refl _) _) _ (HP.out _) _).mono ?_; rintro e w' ⟨v, rfl, hv1, hv2⟩)
    go_ret
    have hsz := Hbel.out.size
    exact ⟨_, rfl, owns_mono hv1 (by simp; omega), (Hbel.out.alloc hsz _).trans (hv2.mono (by simp; omega))⟩
set_option maxRecDepth 100000 in
theorem shr_byte64 (o : Int) (n i : Nat) (ho : o = 0 ∨ o = 1) (hi : i < 8) :
  IntKind.u8.wrap ((n : Int) / 2 ^ min (shAt o i 8).toNat 64) = ((putByte o 8 n i).toNat : Int) := by
 have hs : (shAt o i 8).toNat ≤ 64 := by rcases ho with rfl | rfl <;> simp only [shAt_low, shAt_high] <;> omega
 rw [Nat.min_eq_left hs, putByte, toNat_ofNat_mod, IntKind.wrap_u8]
 simp
set_option maxHeartbeats 400000 in
set_option maxRecDepth 100000 in
theorem put64_any (b : List UInt8) (ns : List Nat) (hns : ∀ n ∈ ns, n < 18446744073709551616) (A D : Option Addr) (c d B : Nat) (o : Int) (ho : o = 0 ∨ o = 1) (w : World) (hB : B ≤ w.heap.size)
  (hb : Lies w B 1 A b.length (u8s b)) (hl : Lies w B 1 D ns.length (u64s ns)) (htot : b.length + 8 * ns.length ≤ 70368744177664) :
  Calls Tryz.prog 180 #[.slice A b.length c, .slice D ns.length d, .int .i64 o] w (Bytes w (b ++ putAll o 8 ns)) := by
 obtain ⟨i0, hi, hz0, hz1, hz2⟩ := info_parts u8_info
 have Hi := Lib.hid (And.intro hi (And.intro hz0 (And.intro hz1 hz2)))
 have HO := Lib.hid ho
 have Hb := Lib.hid hb
 have Hl := Lib.hid hl
 have Hns := Lib.hid hns
 clear hi hz0 hz1 hz2 hb hl ho hns
 obtain ⟨cur, hcur, hmk⟩ := make_u8 (8 * ns.length) (by omega) w
 have Hcur := Lib.hid hcur
 clear hcur
 have hmul : ((8 * ns.length : Nat) : Int) = 8 * (ns.length : Int) := by omega
 rw [hmul] at hmk
 clear hmul
 go_enter Tryz.func180, Tryz.ntmps180
 go_wp2_with (go_at_call 190; refine (size64_any _).mono ?_; rintro e w' ⟨rfl, rfl⟩)
 obtain ⟨W0, hW0⟩ : ∃ W0, W0 = w.alloc (.cells cur 5) := ⟨_, rfl⟩
 have hown0 : W0.ownsRow w.heap.size 5 1 (.slice (some ⟨w.heap.size, 0, none⟩) 0 (8 * ns.length)) 0 (u8s []) := by
  rw [hW0]; exact World.ownsRow_made w cur _ (Nat.le_refl _) (by unfold maxLen; omega) (by rw [Hcur.out, Nat.mul_one])
 have hbel0 : Below w.heap.size w W0 := by rw [hW0]; exact (Below.refl _ _).alloc (Nat.le_refl _) _
 rw [← hW0]
 clear hW0 hmk
 go_loopw [8, 20] (fun v j W => ∃ k : Nat, k ≤ ns.length ∧ j = .int .i64 k ∧ W.ownsRow w.heap.size 5 1 v (8 * k) (u8s (putAll o 8 (ns.take k))) ∧ Below w.heap.size w W) (fun _ i _ => ns.length - (intOf i).toNat)
 case atStart => exact ⟨0, Nat.zero_le _, rfl, hown0, hbel0⟩
 case round =>
  obtain ⟨k, hk, rfl, hown, hbel⟩ := hrel
  have Hown := Lib.hid hown
  have Hbel := Lib.hid hbel
  clear hown0 hbel0 hown hbel
  by_cases hlt : k < ns.length
  · obtain ⟨a, hx, rfl, hab, hc⟩ := ((Hl.out.wide hB).below Hbel.out).atMap hlt
    have hnb := Hns.out _ (List.getElem_mem hx)
    go_wp2
    obtain ⟨wo, rfl⟩ : ∃ wo : World, wo = wr := ⟨_, rfl⟩
    go_loopw [8, 25] (fun v j W => ∃ i : Nat, i ≤ 8 ∧ j = .int .i64 i ∧ W.ownsRow w.heap.size 5 1 v (8 * k + i) (u8s (putAll o 8 (ns.take k) ++ firstBytes o 8 ns[k] i)) ∧ Below w.heap.size w W) (fun _ i _ => 8 - (intOf i).toNat)
    case atStart => exact ⟨0, Nat.zero_le _, rfl, by simpa [firstBytes] using Hown.out, Hbel.out⟩
    case round =>
     obtain ⟨i, hi, rfl, hown, hbel⟩ := hrel
     have Hown2 := Lib.hid hown
     have Hbel2 := Lib.hid hbel
     clear hown hbel Hown Hbel hc
     by_cases hlt2 : i < 8
     · have hsh := shr_byte64 o ns[k] i HO.out hlt2
       have s5 : 0 ≤ shAt o i 8 := by rcases HO.out with rfl | rfl <;> simp only [shAt_low, shAt_high] <;> omega
       obtain ⟨hi0, hz0, hz1, hz2⟩ := Hi.out
       have hfin : ∀ (W1 : World) v' w', W1.heap.size = wr.heap.size + 1 → Below w.heap.size w W1 → w'.ownsRow w.heap.size 5 1 v' (8 * k + i + 1) (u8s (putAll o 8 (ns.take k) ++ firstBytes o 8 ns[k] i) ++ u8s [putByte o 8 ns[k] i]) → W1.grownBy w' u8.ownBlock → Below w.heap.size w w' ∧ w'.ownsRow w.heap.size 5 1 v' (8 * k + (i + 1)) (u8s (putAll o 8 (ns.take k) ++ firstBytes o 8 ns[k] (i + 1))) := by
         intro W1 v' w' hsz h0 h1 h2
         refine ⟨h0.grown h2 (by have := Hbel2.out.size; omega) (fun g hg => (Hown2.out.lt g hg).1), ?_⟩
         rw [firstBytes_succ, ← List.append_assoc, ← u8s_append]; exact h1
       have Hsz := Lib.hid Hbel2.out.size
       go_wp2_with (first
         | (go_at_call 179; refine (shift_any _ _ _ HO.out (by omega) (by omega) (by omega) _).mono ?_; rintro e w' ⟨rfl, rfl⟩)
         | (at_builtin; refine wpList_app rfl (.tmp 28) (.tmp 36) 78 rfl w.heap.size 5 i0 (.int .u8 0) 1 Tryz.underlying78 hi0 hz0 hz1 hz2 rfl _ _ _ rfl (Hown2.out.alloc _) _ _ _ _ (u8s [putByte o 8 ns[k] i]) rfl (lies_new _ _ _ _ _ rfl rfl) (u8s_one _) (by unfold maxLen; omega) (by omega) (by have := Hsz.out; simp; omega) ?_; intro v' w' h1 h2 h3))
       obtain ⟨f1, f2⟩ := hfin _ v' w' (by simp) (Hbel2.out.alloc Hsz.out _) h1 h2
       clear hfin hi0 hz0 hz1 hz2 h1 h2 h3 hsh s5
       go_roundw
       case rel => exact ⟨i + 1, by omega, by go_num, f2, f1⟩
       case measure => simp [intOf]; omega
     · obtain rfl : i = 8 := by omega
       have hown3 : wr.ownsRow w.heap.size 5 1 u8 (8 * (k + 1)) (u8s (putAll o 8 (ns.take (k + 1)))) := by rw [putAll_succ _ _ _ _ hx]; exact Hown2.out
       have Hown3 := Lib.hid hown3
       clear hown3
       go_wp2
       go_roundw
       case rel => exact ⟨k + 1, by omega, by go_num, Hown3.out, Hbel2.out⟩
       case measure => simp [intOf]; omega
  · obtain rfl : k = ns.length := by omega
    have h1 := Hown.out
    rw [List.take_length] at h1
    obtain ⟨E, c2, rfl, hl2⟩ := owns_form h1
    have Hown2 := Lib.hid h1
    have Hl2 := Lib.hid hl2
    clear h1 hl2
    have hlen : (putAll o 8 ns).length = 8 * ns.length := putAll_length _ _ _
    have L : ∀ W1, wr.heap.size ≤ W1.heap.size → Below wr.heap.size wr W1 → ∀ P, Lies W1 (W1.heap.size) 1 P 2 ([(A, c, b), (E, c2, putAll o 8 ns)].map partV) → ∀ c3, Calls Tryz.prog 112 #[.slice P 2 c3] W1 (Bytes W1 (b ++ putAll o 8 ns)) := by
     intro W1 hs1 hb1 P hP c3
     have hc := cat_any [(A, c, b), (E, c2, putAll o 8 ns)] P c3 W1.heap.size W1 (Nat.le_refl _) hP (by
       intro p hp
       simp only [List.mem_cons, List.not_mem_nil, or_false] at hp
       rcases hp with rfl | rfl
       · exact (((Hb.out.wide hB).below Hbel.out).wide Hbel.out.size).below hb1 |>.wide hs1
       · rw [← hlen] at Hl2; exact (Hl2.out.below hb1).wide hs1) (by simp [catAll, hlen]; omega) (by simp [maxLen])
     simpa [catAll] using hc
    have P0 : ∀ W1 : World, Lies (W1.alloc (.cells #[.slice A b.length c, .slice E (8 * ns.length) c2] 78)) (W1.alloc (.cells #[.slice A b.length c, .slice E (8 * ns.length) c2] 78)).heap.size 1 (some ⟨W1.heap.size, 0, none⟩) 2 ([(A, c, b), (E, c2, putAll o 8 ns)].map partV) := by
     intro W1
     have := lies_new W1 #[.slice A b.length c, .slice E (8 * ns.length) c2] 78 2 _ rfl rfl
     simpa [partV, hlen] using this
    have HL := Lib.hid L
    have HP := Lib.hid P0
    clear L P0 hlen
    go_wp2_with (go_at_call 112; refine (HL.out _ (by simp) ((Below.refl _ _).alloc (Nat.le_refl _) _) _ (HP.out _) _).mono ?_; rintro e w' ⟨v, rfl, hv1, hv2⟩)
    go_ret
    have hsz := Hbel.out.size
    exact ⟨_, rfl, owns_mono hv1 (by simp; omega), (Hbel.out.alloc hsz _).trans (hv2.mono (by simp; omega))⟩
set_option maxRecDepth 100000 in
theorem putBe32_any (b : List UInt8) (ns : List Nat) (hns : ∀ n ∈ ns, n < 4294967296) (A D : Option Addr) (c d B : Nat) (w : World) (hB : B ≤ w.heap.size)
  (hb : Lies w B 1 A b.length (u8s b)) (hl : Lies w B 1 D ns.length (u32s ns)) (htot : b.length + 4 * ns.length ≤ 70368744177664) :
  Calls Tryz.prog 113 #[.slice A b.length c, .slice D ns.length d] w (Bytes w (b ++ putAll 0 4 ns)) := by
 have L := Lib.hid (put32_any b ns hns A D c d B 0 (by simp) w hB hb hl htot)
 clear hb hl hns htot
 go_enter Tryz.func113, Tryz.ntmps113
 go_wp2_with (go_at_call 149; refine L.out.mono ?_; rintro e w' ⟨v, rfl, hv1, hv2⟩)
 go_ret
 exact ⟨_, rfl, hv1, hv2⟩
set_option maxRecDepth 100000 in
theorem putBe64_any (b : List UInt8) (ns : List Nat) (hns : ∀ n ∈ ns, n < 18446744073709551616) (A D : Option Addr) (c d B : Nat) (w : World) (hB : B ≤ w.heap.size)
  (hb : Lies w B 1 A b.length (u8s b)) (hl : Lies w B 1 D ns.length (u64s ns)) (htot : b.length + 8 * ns.length ≤ 70368744177664) :
  Calls Tryz.prog 151 #[.slice A b.length c, .slice D ns.length d] w (Bytes w (b ++ putAll 0 8 ns)) := by
 have L := Lib.hid (put64_any b ns hns A D c d B 0 (by simp) w hB hb hl htot)
 clear hb hl hns htot
 go_enter Tryz.func151, Tryz.ntmps151
 go_wp2_with (go_at_call 180; refine L.out.mono ?_; rintro e w' ⟨v, rfl, hv1, hv2⟩)
 go_ret
 exact ⟨_, rfl, hv1, hv2⟩
end Go.Proofs.YtkaipknkjocfiaaGreat
namespace Go.Proofs.YtkaipknkjocfiaaGreat
open Go.RowKit
end Go.Proofs.YtkaipknkjocfiaaGreat
namespace Go.Proofs.YtkaipknkjocfiaaGreat
open Go.RowKit
def strOf (l : List UInt8) : ByteArray := ⟨l.toArray⟩
end Go.Proofs.YtkaipknkjocfiaaGreat
