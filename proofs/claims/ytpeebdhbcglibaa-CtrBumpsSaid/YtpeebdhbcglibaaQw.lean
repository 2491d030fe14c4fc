/- Four words: a record's sum, a record's words, writes onto words. Plain. -/
import Derived.Test.YtpeebdhbcglibaaNw
import Derived.Test.YtpeebdhbcglibaaVec
namespace Go.Proofs.Ytpeebdhbcglibaa
open Go.RowKit

theorem num_xor (x y : W32) : bits .xor .u32 (num x) (num y) = num (x ^^^ y) := by
  show IntKind.u32.wrap ((BitVec.ofInt 32 (num x) ^^^ BitVec.ofInt 32 (num y)).toNat : Int) = _
  rw [ofInt32, ofInt32, wrap_num]
theorem num_add (x y : W32) : IntKind.u32.wrap (num x + num y) = num (x + y) := by
  rw [IntKind.wrap_u32']
  unfold num
  rw [BitVec.toNat_add]; omega
theorem num_mul (x y : W32) : IntKind.u32.wrap (num x * num y) = num (x * y) := by
  rw [IntKind.wrap_u32']
  unfold num
  rw [BitVec.toNat_mul]
  simp
theorem num_shr (x : W32) (k : Nat) : num x / 2 ^ k = num (x >>> k) := by
  unfold num
  rw [BitVec.toNat_ushiftRight, Nat.shiftRight_eq_div_pow]
  simp
theorem num_shl (x : W32) (k : Nat) : IntKind.u32.wrap (num x * 2 ^ k) = num (x <<< k) := by
  unfold num
  rw [IntKind.wrap_u32', BitVec.toNat_shiftLeft, Nat.shiftLeft_eq]
  simp
theorem num_ofInt (z : Int) : num (BitVec.ofInt 32 z) = IntKind.u32.wrap z := by
  rw [IntKind.wrap_u32']
  unfold num
  rw [BitVec.toNat_ofInt]
  simp
  omega
def wds (h : Nat → W32) : Nat → Value := fun i => .int .u32 (num (h i))
theorem wds_one (h : Nat → W32) (n : Nat) : ∀ i, i < n → (wds h i).oneCell' = true := fun _ _ => rfl
theorem wds_upd (h : Nat → W32) (i : Nat) (x : W32) : upd (wds h) i (.int .u32 (num x)) = wds (upd h i x) := by
  funext j; by_cases e : j = i <;> simp [upd, wds, e]
def mark : W32 := 3282393660
def fac : W32 := 2654435761
def rotW (y : W32) : W32 := y <<< 15 ||| y >>> 17
def mixW (x w : W32) : W32 := rotW ((x ^^^ w) * fac) + w
def base0 : W32 := 1853252468
def sumW (x s v : W32) : W32 := mixW (mixW (mixW base0 x) s) v
def quad (a b c d : W32) : Nat → W32 := fun i => match i with
  | 0 => a
  | 1 => b
  | 2 => c
  | _ => d
def pairW (s v : W32) : Nat → W32 := fun i => match i with
  | 0 => s
  | _ => v
def recW (x s v : W32) : Nat → W32 := quad mark s v (sumW x s v)
theorem vec4 (f : Nat → W32) : vec 4 (wds f) = #[.int .u32 (num (f 0)), .int .u32 (num (f 1)), .int .u32 (num (f 2)), .int .u32 (num (f 3))] := rfl
theorem vec2 (f : Nat → W32) : vec 2 (wds f) = #[.int .u32 (num (f 0)), .int .u32 (num (f 1))] := rfl
/-- Two quads, like or unlike. -/
def quadEq (f g : Nat → W32) : Bool := (List.range 4).all fun i => f i == g i
theorem quadEq_iff (f g : Nat → W32) : quadEq f g = true ↔ ∀ i, i < 4 → f i = g i := by simp [quadEq]
theorem quadEq_self (f : Nat → W32) : quadEq f f = true := (quadEq_iff f f).2 fun _ _ => rfl
def isRec (x : W32) (f : Nat → W32) : Bool := quadEq f (recW x (f 1) (f 2))
theorem isRec_iff (x : W32) (f : Nat → W32) : isRec x f = true ↔ f 0 = mark ∧ f 3 = sumW x (f 1) (f 2) := by
  unfold isRec
  rw [quadEq_iff]
  constructor
  · intro h
    exact ⟨h 0 (by decide), h 3 (by decide)⟩
  · rintro ⟨h0, h3⟩ i hi
    match i, hi with
    | 0, _ => exact h0
    | 1, _ => rfl
    | 2, _ => rfl
    | 3, _ => exact h3
theorem isRec_rec (x s v : W32) : isRec x (recW x s v) = true := (isRec_iff _ _).2 ⟨rfl, rfl⟩
/-- The record of words. -/
def ofS (x : W32) (f : Nat → W32) : W32 := if isRec x f then f 1 else 0
def ofV (x : W32) (f : Nat → W32) : W32 := if isRec x f then f 2 else 0
/-- A write of which the bits of m come through. -/
def put1 (f : Nat → W32) (p : Ct) (m : W32) : Nat → W32 := if 0 ≤ p.after ∧ p.after < 4 then upd f p.after.toNat (tornW (f p.after.toNat) p.mask m) else f
theorem put1_out (f : Nat → W32) (p : Ct) (m : W32) (h : ¬ (0 ≤ p.after ∧ p.after < 4)) : put1 f p m = f := if_neg h
theorem put1_in (f : Nat → W32) (p : Ct) (m : W32) (k : Nat) (h : p.after = (k : Int)) (hk : k < 4) : put1 f p m = upd f k (tornW (f k) p.mask m) := by
  unfold put1
  rw [if_pos (by omega), h, Int.toNat_natCast]
def ones : W32 := 4294967295
theorem tornW_ones (o x : W32) : tornW o x ones = x := by
  have h2 : ~~~ones = (0 : W32) := by decide
  have h1 : x &&& ones = x := BitVec.and_allOnes
  unfold tornW
  rw [h1, h2]
  simp
def aft (f : Nat → W32) (l : List Ct) : Nat → W32 := l.foldl (fun g p => put1 g p ones) f
theorem aft_take (f : Nat → W32) (l : List Ct) (k : Nat) (h : k < l.length) : aft f (l.take (k + 1)) = put1 (aft f (l.take k)) l[k] ones := by
  unfold aft
  rw [List.take_succ_eq_append_getElem h, List.foldl_append]
  rfl
/-- How many writes are done. -/
def cutN (l : List Ct) (k : Int) : Nat := min k.toNat l.length
def torn (f : Nat → W32) (l : List Ct) (n : Nat) (m : W32) : Nat → W32 := match l[n]? with
  | some p => put1 (aft f (l.take n)) p m
  | none => aft f (l.take n)
theorem torn_lt (f : Nat → W32) (l : List Ct) (n : Nat) (m : W32) (h : n < l.length) : torn f l n m = put1 (aft f (l.take n)) l[n] m := by
  unfold torn; rw [List.getElem?_eq_getElem h]
theorem torn_ge (f : Nat → W32) (l : List Ct) (n : Nat) (m : W32) (h : l.length ≤ n) : torn f l n m = aft f (l.take n) := by
  unfold torn; rw [List.getElem?_eq_none h]
/-- The writes by which words become a record's. -/
def body4 (x s v : W32) : List Ct := [⟨1, s⟩, ⟨2, v⟩, ⟨3, sumW x s v⟩, ⟨0, mark⟩]
def stepsL (x : W32) (f : Nat → W32) (s v : W32) : List Ct := (if f 0 = mark then [⟨0, 0⟩] else []) ++ body4 x s v
theorem put1_at (f : Nat → W32) (k : Nat) (y m : W32) (hk : k < 4) : put1 f ⟨(k : Int), y⟩ m = upd f k (tornW (f k) y m) := put1_in f _ m k rfl hk
theorem put1_0 (f : Nat → W32) (y m : W32) : put1 f ⟨0, y⟩ m = upd f 0 (tornW (f 0) y m) := put1_at f 0 y m (by decide)
theorem put1_1 (f : Nat → W32) (y m : W32) : put1 f ⟨1, y⟩ m = upd f 1 (tornW (f 1) y m) := put1_at f 1 y m (by decide)
theorem put1_2 (f : Nat → W32) (y m : W32) : put1 f ⟨2, y⟩ m = upd f 2 (tornW (f 2) y m) := put1_at f 2 y m (by decide)
theorem put1_3 (f : Nat → W32) (y m : W32) : put1 f ⟨3, y⟩ m = upd f 3 (tornW (f 3) y m) := put1_at f 3 y m (by decide)
theorem aft_steps (x : W32) (f : Nat → W32) (s v : W32) : ∀ i, i < 4 → aft f (stepsL x f s v) i = recW x s v i := by
  have h : ∀ g : Nat → W32, ∀ i, i < 4 → aft g (body4 x s v) i = recW x s v i := by
    intro g i hi
    match i, hi with
    | 0, _ => simp [aft, body4, put1_0, put1_1, put1_2, put1_3, tornW_ones, upd, recW, quad]
    | 1, _ => simp [aft, body4, put1_0, put1_1, put1_2, put1_3, tornW_ones, upd, recW, quad]
    | 2, _ => simp [aft, body4, put1_0, put1_1, put1_2, put1_3, tornW_ones, upd, recW, quad]
    | 3, _ => simp [aft, body4, put1_0, put1_1, put1_2, put1_3, tornW_ones, upd, recW, quad]
  intro i hi
  unfold stepsL
  by_cases h0 : f 0 = mark
  · rw [if_pos h0]
    exact h (put1 f ⟨0, 0⟩ ones) i hi
  · rw [if_neg h0]
    exact h f i hi
theorem torn_zero (m : W32) : tornW mark 0 m = mark → mark &&& ~~~m = mark := by
  intro h
  unfold tornW at h
  simpa using h
theorem mark_ne : (0 : W32) ≠ mark := by decide
/-- However many writes are done, and however the next one is torn: no record, or that one, or the one that was there. -/
theorem whole (x : W32) (f : Nat → W32) (s v : W32) (n : Nat) (m : W32) (hr : isRec x (torn f (stepsL x f s v) n m) = true) :
    (torn f (stepsL x f s v) n m 1 = s ∧ torn f (stepsL x f s v) n m 2 = v) ∨ (isRec x f = true ∧ torn f (stepsL x f s v) n m 1 = f 1 ∧ torn f (stepsL x f s v) n m 2 = f 2) := by
  obtain ⟨g, hg⟩ : ∃ g, g = torn f (stepsL x f s v) n m := ⟨_, rfl⟩
  rw [← hg] at hr ⊢
  obtain ⟨r0, r3⟩ := (isRec_iff _ _).1 hr
  by_cases h0 : f 0 = mark
  · have hl : stepsL x f s v = [⟨0, 0⟩, ⟨1, s⟩, ⟨2, v⟩, ⟨3, sumW x s v⟩, ⟨0, mark⟩] := by unfold stepsL; rw [if_pos h0]; rfl
    rw [hl] at hg
    match n with
    | 0 =>
      have e : g = upd f 0 (tornW (f 0) 0 m) := by rw [hg]; exact put1_0 f 0 m
      have e0 : g 0 = tornW (f 0) 0 m := by rw [e]; rfl
      refine Or.inr ⟨(isRec_iff _ _).2 ⟨h0, ?_⟩, by rw [e]; rfl, by rw [e]; rfl⟩
      rw [e] at r3
      exact r3
    | 1 =>
      have e0 : g 0 = 0 := by rw [hg]; simp [torn, aft, put1_0, put1_1, tornW_ones, upd]
      exact absurd (e0.symm.trans r0) mark_ne
    | 2 =>
      have e0 : g 0 = 0 := by rw [hg]; simp [torn, aft, put1_0, put1_1, put1_2, tornW_ones, upd]
      exact absurd (e0.symm.trans r0) mark_ne
    | 3 =>
      have e0 : g 0 = 0 := by rw [hg]; simp [torn, aft, put1_0, put1_1, put1_2, put1_3, tornW_ones, upd]
      exact absurd (e0.symm.trans r0) mark_ne
    | 4 => exact Or.inl (by rw [hg]; simp [torn, aft, put1_0, put1_1, put1_2, put1_3, tornW_ones, upd])
    | k + 5 => exact Or.inl (by rw [hg]; simp [torn, aft, put1_0, put1_1, put1_2, put1_3, tornW_ones, upd])
  · have hl : stepsL x f s v = [⟨1, s⟩, ⟨2, v⟩, ⟨3, sumW x s v⟩, ⟨0, mark⟩] := by unfold stepsL; rw [if_neg h0]; rfl
    rw [hl] at hg
    match n with
    | 0 =>
      have e0 : g 0 = f 0 := by rw [hg]; simp [torn, aft, put1_1, upd]
      exact absurd (e0.symm.trans r0) h0
    | 1 =>
      have e0 : g 0 = f 0 := by rw [hg]; simp [torn, aft, put1_1, put1_2, tornW_ones, upd]
      exact absurd (e0.symm.trans r0) h0
    | 2 =>
      have e0 : g 0 = f 0 := by rw [hg]; simp [torn, aft, put1_1, put1_2, put1_3, tornW_ones, upd]
      exact absurd (e0.symm.trans r0) h0
    | 3 => exact Or.inl (by rw [hg]; simp [torn, aft, put1_0, put1_1, put1_2, put1_3, tornW_ones, upd])
    | k + 4 => exact Or.inl (by rw [hg]; simp [torn, aft, put1_0, put1_1, put1_2, put1_3, tornW_ones, upd])
end Go.Proofs.Ytpeebdhbcglibaa
