/- The code's small functions of descriptors: Field, isSet, sizeBits, Size, address, permOf, memOf, kindOf. -/
import Derived.Laws.Shifts
import Derived.Test.YtblmikmmmomflaaDl
namespace Go.Proofs.Ytblmikmmmomflaa
open Go.RowKit

theorem field_math {w k h l : Nat} (hk : k + h = 63) (hl : l ≤ h) : w * 2 ^ k % 2 ^ 64 / 2 ^ (k + l) = w / 2 ^ l % 2 ^ (h + 1 - l) := by
  rw [show (2 : Nat) ^ 64 = 2 ^ k * 2 ^ (h + 1) by rw [← Nat.pow_add]; congr 1; omega, Nat.mul_comm w, Nat.mul_mod_mul_left, Nat.pow_add 2 k l, ← Nat.div_div_eq_div_mul, Nat.mul_div_cancel_left _ (Nat.pos_of_ne_zero (by simp)),
    show (2 : Nat) ^ (h + 1) = 2 ^ l * 2 ^ (h + 1 - l) by rw [← Nat.pow_add]; congr 1; omega, Nat.mod_mul_right_div_self]
theorem wrap_nat (n : Nat) : IntKind.u64.wrap (n : Int) = ((n % 2 ^ 64 : Nat) : Int) := by rw [IntKind.wrap_u64]; omega
theorem cast_shl (w k : Nat) : (w : Int) * 2 ^ k = ((w * 2 ^ k : Nat) : Int) := by push_cast; rfl
set_option maxRecDepth 100000 in
set_option maxHeartbeats 1000000 in
theorem field_any (w : Nat) (_hw : w < 2 ^ 64) (hi lo : Int) (W : World) : Calls Try.prog 10 #[.int .u64 (w : Int), .int .i64 hi, .int .i64 lo] W fun e w' => e = .returned (.int .u64 ((fieldP w hi lo : Nat) : Int)) ∧ w' = W := by
  by_cases h1 : 63 < hi
  · have d1 : decide (63 < hi) = true := decide_eq_true h1
    have hf : fieldP w hi lo = 0 := if_pos (.inl h1)
    rw [hf]
    clear hf
    go_enter Try.func10, Try.ntmps10
    go_wp2_with fail
    go_ret
    exact ⟨rfl, rfl⟩
  by_cases h2 : lo < 0
  · have d1 : decide (63 < hi) = false := decide_eq_false h1
    have d2 : decide (lo < 0) = true := decide_eq_true h2
    have hf : fieldP w hi lo = 0 := if_pos (.inr (.inl h2))
    rw [hf]
    clear hf
    go_enter Try.func10, Try.ntmps10
    go_wp2_with fail
    go_ret
    exact ⟨rfl, rfl⟩
  by_cases h3 : hi < lo
  · have d1 : decide (63 < hi) = false := decide_eq_false h1
    have d2 : decide (lo < 0) = false := decide_eq_false h2
    have d3 : decide (hi < lo) = true := decide_eq_true h3
    have hf : fieldP w hi lo = 0 := if_pos (.inr (.inr h3))
    rw [hf]
    clear hf
    go_enter Try.func10, Try.ntmps10
    go_wp2_with fail
    go_ret
    exact ⟨rfl, rfl⟩
  have d1 : decide (63 < hi) = false := decide_eq_false h1
  have d2 : decide (lo < 0) = false := decide_eq_false h2
  have d3 : decide (hi < lo) = false := decide_eq_false h3
  obtain ⟨l, hl⟩ := Int.eq_ofNat_of_zero_le (show 0 ≤ lo by omega)
  obtain ⟨h, hh⟩ := Int.eq_ofNat_of_zero_le (show 0 ≤ hi by omega)
  subst hl hh
  obtain ⟨k, hk⟩ : ∃ k : Nat, k + h = 63 := ⟨63 - h, by omega⟩
  have hlh : l ≤ h := by omega
  obtain ⟨p, hp⟩ : ∃ p : Nat, p = w * 2 ^ k % 2 ^ 64 := ⟨_, rfl⟩
  have e2 : IntKind.u64.wrap ((w : Int) * 2 ^ k) = (p : Int) := by rw [hp, cast_shl, wrap_nat]
  obtain ⟨F, hF⟩ : ∃ F, F = fieldP w (h : Int) (l : Int) := ⟨_, rfl⟩
  obtain ⟨q, hq⟩ : ∃ q, q = k + l := ⟨_, rfl⟩
  have e3 : (p : Int) / 2 ^ q = (F : Int) := by
    rw [hF, fieldP_bits ⟨hlh, by omega⟩, bitsN, ← field_math hk hlh, ← hp, hq]; norm_cast
  have e1 : (63 : Int) - (h : Int) = (k : Int) := by omega
  have e4 : (k : Int) + (l : Int) = (q : Int) := by omega
  have m1 : min k 64 = k := by omega
  have m2 : min q 64 = q := by omega
  rw [← hF]
  clear hF hp hq h1 h2 h3
  go_enter Try.func10, Try.ntmps10
  go_wp2_with fail
  go_ret
  exact ⟨rfl, rfl⟩
theorem code_field : CodeField := fun w hi lo W hw _ _ => (field_any w hw hi lo W).mono fun e w' h => ⟨h.1, by rw [h.2]; exact Below.refl _ _⟩
def bitB (w a : Nat) : Bool := bitsN w a a == 1
set_option maxRecDepth 100000 in
theorem isSet_any (w : Nat) (hw : w < 2 ^ 64) (a : Nat) (ha : a ≤ 63) (W : World) : Calls Try.prog 22 #[.int .u64 (w : Int), .int .i64 (a : Int)] W fun e w' => e = .returned (.bool (bitB w a)) ∧ w' = W := by
  have HF := Lib.hid (field_any w hw a a W)
  rw [fieldP_bits ⟨Nat.le_refl _, ha⟩] at HF
  obtain ⟨n, hn⟩ : ∃ n, n = bitsN w a a := ⟨_, rfl⟩
  have e1 : ((n : Int) == 1) = bitB w a := by unfold bitB; rw [hn]; exact Bool.eq_iff_iff.2 (by simp only [beq_iff_eq]; omega)
  rw [← hn] at HF
  obtain ⟨b, hb⟩ : ∃ b, b = bitB w a := ⟨_, rfl⟩
  rw [← hb] at e1 ⊢
  clear hn hb hw ha
  go_enter Try.func22, Try.ntmps22
  go_wp2_with (go_at_call 10; refine HF.out.mono ?_; rintro e w1 ⟨rfl, hw1⟩; rw [hw1]; clear hw1)
  go_ret
  exact ⟨rfl, rfl⟩
/-- The bits of a level's Size. -/
def szB (L : Int) : Int := 12 + 9 * (3 - L)
set_option maxRecDepth 100000 in
theorem sizeBits_any (L : Int) (hL : 1 ≤ L ∧ L ≤ 3) (W : World) : Calls Try.prog 19 #[.int .i64 L] W fun e w' => e = .returned (.int .i64 ((lowP L : Nat) : Int)) ∧ w' = W := by
  rcases (by omega : L = 1 ∨ L = 2 ∨ L = 3) with rfl | rfl | rfl
  all_goals
    go_enter Try.func19, Try.ntmps19
    go_wp2_with fail
    go_ret
    exact ⟨rfl, rfl⟩
set_option maxRecDepth 100000 in
theorem size_any (L : Int) (W : World) : Calls Try.prog 23 #[.int .i64 L] W fun e w' => e = .returned (.int .u64 ((sizeP L : Nat) : Int)) ∧ w' = W := by
  by_cases h1 : L < 1
  · have d1 : decide (L < 1) = true := decide_eq_true h1
    rw [show sizeP L = 0 by unfold sizeP; rw [if_neg (by omega), if_neg (by omega), if_neg (by omega)]]
    go_enter Try.func23, Try.ntmps23
    go_wp2_with fail
    go_ret
    exact ⟨rfl, rfl⟩
  by_cases h2 : 3 < L
  · have d1 : decide (L < 1) = false := decide_eq_false h1
    have d2 : decide (3 < L) = true := decide_eq_true h2
    rw [show sizeP L = 0 by unfold sizeP; rw [if_neg (by omega), if_neg (by omega), if_neg (by omega)]]
    go_enter Try.func23, Try.ntmps23
    go_wp2_with fail
    go_ret
    exact ⟨rfl, rfl⟩
  have HB := Lib.hid (sizeBits_any L (by omega) W)
  rcases (by omega : L = 1 ∨ L = 2 ∨ L = 3) with rfl | rfl | rfl
  · have HC : Hid (Calls Try.prog 19 #[.int .i64 1] W fun e w' => e = .returned (.int .i64 30) ∧ w' = W) := HB
    clear HB
    go_enter Try.func23, Try.ntmps23
    go_wp2_with (go_at_call 19; refine HC.out.mono ?_; rintro e w1 ⟨rfl, hw1⟩; rw [hw1]; clear hw1)
    go_ret
    exact ⟨rfl, rfl⟩
  · have HC : Hid (Calls Try.prog 19 #[.int .i64 2] W fun e w' => e = .returned (.int .i64 21) ∧ w' = W) := HB
    clear HB
    go_enter Try.func23, Try.ntmps23
    go_wp2_with (go_at_call 19; refine HC.out.mono ?_; rintro e w1 ⟨rfl, hw1⟩; rw [hw1]; clear hw1)
    go_ret
    exact ⟨rfl, rfl⟩
  · have HC : Hid (Calls Try.prog 19 #[.int .i64 3] W fun e w' => e = .returned (.int .i64 12) ∧ w' = W) := HB
    clear HB
    go_enter Try.func23, Try.ntmps23
    go_wp2_with (go_at_call 19; refine HC.out.mono ?_; rintro e w1 ⟨rfl, hw1⟩; rw [hw1]; clear hw1)
    go_ret
    exact ⟨rfl, rfl⟩
set_option maxRecDepth 100000 in
theorem address_any (w : Nat) (hw : w < 2 ^ 64) (l : Nat) (hl : l ≤ 47) (W : World) : Calls Try.prog 18 #[.int .u64 (w : Int), .int .i64 (l : Int)] W fun e w' => e = .returned (.int .u64 ((bitsN w 47 l * 2 ^ l : Nat) : Int)) ∧ w' = W := by
  have HF := Lib.hid (field_any w hw (47 : Nat) l W)
  rw [fieldP_bits ⟨hl, by decide⟩] at HF
  have HF : Hid (Calls Try.prog 10 #[.int .u64 (w : Int), .int .i64 47, .int .i64 (l : Int)] W fun e w' => e = .returned (.int .u64 ((bitsN w 47 l : Nat) : Int)) ∧ w' = W) := HF
  have hlt : bitsN w 47 l * 2 ^ l < 2 ^ 64 := by
    have h := bitsN_lt w 47 l
    have h2 : bitsN w 47 l * 2 ^ l < 2 ^ (47 + 1 - l) * 2 ^ l := Nat.mul_lt_mul_of_pos_right h (Nat.pos_of_ne_zero (by simp))
    rw [← Nat.pow_add, show 47 + 1 - l + l = 48 by omega] at h2
    exact Nat.lt_of_lt_of_le h2 (by decide)
  obtain ⟨n, hn⟩ : ∃ n, n = bitsN w 47 l := ⟨_, rfl⟩
  rw [← hn] at HF hlt ⊢
  obtain ⟨p, hp⟩ : ∃ p, p = n * 2 ^ l := ⟨_, rfl⟩
  have e1 : IntKind.u64.wrap ((n : Int) * 2 ^ l) = (p : Int) := by
    rw [hp, show ((n : Int) * 2 ^ l) = ((n * 2 ^ l : Nat) : Int) by norm_cast, IntKind.wrap_u64]
    omega
  have m1 : min l 64 = l := by omega
  rw [← hp]
  clear hn hp hw hlt
  go_enter Try.func18, Try.ntmps18
  go_wp2_with (go_at_call 10; refine HF.out.mono ?_; rintro e w1 ⟨rfl, hw1⟩; rw [hw1]; clear hw1)
  go_ret
  exact ⟨rfl, rfl⟩
def memP (w : Nat) : Int := if bitsN w 5 4 = 0 then 1 else 0
set_option maxRecDepth 100000 in
theorem memOf_any (w : Nat) (hw : w < 2 ^ 64) (W : World) : Calls Try.prog 21 #[.int .u64 (w : Int)] W fun e w' => e = .returned (.int .i64 (memP w)) ∧ w' = W := by
  have HF := Lib.hid (field_any w hw (5 : Nat) (4 : Nat) W)
  rw [fieldP_bits (by decide)] at HF
  have HF : Hid (Calls Try.prog 10 #[.int .u64 (w : Int), .int .i64 5, .int .i64 4] W fun e w' => e = .returned (.int .u64 ((bitsN w 5 4 : Nat) : Int)) ∧ w' = W) := HF
  unfold memP
  obtain ⟨n, hn⟩ : ∃ n, n = bitsN w 5 4 := ⟨_, rfl⟩
  rw [← hn] at HF ⊢
  clear hn hw
  by_cases h0 : n = 0
  · have e1 : ((n : Int) == 0) = true := by simp [h0]
    rw [if_pos h0]
    clear h0
    go_enter Try.func21, Try.ntmps21
    go_wp2_with (go_at_call 10; refine HF.out.mono ?_; rintro e w1 ⟨rfl, hw1⟩; rw [hw1]; clear hw1)
    go_ret
    exact ⟨rfl, rfl⟩
  · have e1 : ((n : Int) == 0) = false := by simp; omega
    rw [if_neg h0]
    clear h0
    go_enter Try.func21, Try.ntmps21
    go_wp2_with (go_at_call 10; refine HF.out.mono ?_; rintro e w1 ⟨rfl, hw1⟩; rw [hw1]; clear hw1)
    go_ret
    exact ⟨rfl, rfl⟩
def permP (w : Nat) : Int := ((bitsN w 7 6 + 4 * (1 - bitsN w 54 54) : Nat) : Int)
theorem permP_is (w : Nat) : permP w = (if bitB w 6 then 1 else 0) + (if bitB w 7 then 2 else 0) + (if bitB w 54 then 0 else 4) := by
  unfold permP bitB bitsN
  rw [show (2 : Nat) ^ 6 = 64 from rfl, show (2 : Nat) ^ 7 = 128 from rfl, show (2 : Nat) ^ (7 + 1 - 6) = 4 from rfl, show (2 : Nat) ^ (6 + 1 - 6) = 2 from rfl]
  obtain ⟨x, hx⟩ : ∃ x, x = w / 2 ^ 54 % 2 := ⟨_, rfl⟩
  rw [← hx]
  simp only [beq_iff_eq]
  have : x < 2 := by rw [hx]; exact Nat.mod_lt _ (by decide)
  clear hx
  split <;> split <;> split <;> omega
set_option maxRecDepth 100000 in
theorem permOf_any (w : Nat) (hw : w < 2 ^ 64) (W : World) : Calls Try.prog 20 #[.int .u64 (w : Int)] W fun e w' => e = .returned (.int .i64 (permP w)) ∧ w' = W := by
  have H6 : Hid (Calls Try.prog 22 #[.int .u64 (w : Int), .int .i64 6] W fun e w' => e = .returned (.bool (bitB w 6)) ∧ w' = W) := Lib.hid (isSet_any w hw 6 (by decide) W)
  have H7 : Hid (Calls Try.prog 22 #[.int .u64 (w : Int), .int .i64 7] W fun e w' => e = .returned (.bool (bitB w 7)) ∧ w' = W) := Lib.hid (isSet_any w hw 7 (by decide) W)
  have H54 : Hid (Calls Try.prog 22 #[.int .u64 (w : Int), .int .i64 54] W fun e w' => e = .returned (.bool (bitB w 54)) ∧ w' = W) := Lib.hid (isSet_any w hw 54 (by decide) W)
  rw [permP_is]
  obtain ⟨b6, h6⟩ : ∃ b, b = bitB w 6 := ⟨_, rfl⟩
  obtain ⟨b7, h7⟩ : ∃ b, b = bitB w 7 := ⟨_, rfl⟩
  obtain ⟨b54, h54⟩ : ∃ b, b = bitB w 54 := ⟨_, rfl⟩
  rw [← h6] at H6
  rw [← h7] at H7
  rw [← h54] at H54
  rw [← h6, ← h7, ← h54]
  clear h6 h7 h54 hw
  cases b6 <;> cases b7 <;> cases b54
  all_goals
    go_enter Try.func20, Try.ntmps20
    go_wp2_with (first
      | ((with_reducible show Calls _ _ #[_, .int .i64 6] _ _); refine H6.out.mono ?_; rintro e w1 ⟨rfl, hw1⟩; rw [hw1]; clear hw1)
      | ((with_reducible show Calls _ _ #[_, .int .i64 7] _ _); refine H7.out.mono ?_; rintro e w1 ⟨rfl, hw1⟩; rw [hw1]; clear hw1)
      | ((with_reducible show Calls _ _ #[_, .int .i64 54] _ _); refine H54.out.mono ?_; rintro e w1 ⟨rfl, hw1⟩; rw [hw1]; clear hw1))
    go_ret
    exact ⟨rfl, rfl⟩
/-- Which kind a word is. -/
def kindP (L : Int) (w : Nat) : Int := if sizeP L = 0 ∨ bitB w 0 = false then 0 else if L = 3 then (if bitB w 1 = true then 3 else 0) else if bitB w 1 = true then 1 else 2
set_option maxRecDepth 100000 in
set_option maxHeartbeats 1000000 in
theorem kindOf_any (L : Int) (w : Nat) (hw : w < 2 ^ 64) (W : World) : Calls Try.prog 17 #[.int .i64 L, .int .u64 (w : Int)] W fun e w' => e = .returned (.int .i64 (kindP L w)) ∧ w' = W := by
  have H0 : Hid (Calls Try.prog 22 #[.int .u64 (w : Int), .int .i64 0] W fun e w' => e = .returned (.bool (bitB w 0)) ∧ w' = W) := Lib.hid (isSet_any w hw 0 (by decide) W)
  have H1 : Hid (Calls Try.prog 22 #[.int .u64 (w : Int), .int .i64 1] W fun e w' => e = .returned (.bool (bitB w 1)) ∧ w' = W) := Lib.hid (isSet_any w hw 1 (by decide) W)
  have HS := Lib.hid (size_any L W)
  unfold kindP
  obtain ⟨b0, h0⟩ : ∃ b, b = bitB w 0 := ⟨_, rfl⟩
  obtain ⟨b1, h1⟩ : ∃ b, b = bitB w 1 := ⟨_, rfl⟩
  rw [← h0] at H0
  rw [← h1] at H1
  rw [← h0, ← h1]
  obtain ⟨s, hs⟩ : ∃ s, s = sizeP L := ⟨_, rfl⟩
  rw [← hs] at HS
  rw [← hs]
  clear h0 h1 hs hw
  obtain ⟨zs, hzs⟩ : ∃ z, z = ((s : Int) == 0) := ⟨_, rfl⟩
  obtain ⟨zl, hzl⟩ : ∃ z, z = (L == 3) := ⟨_, rfl⟩
  have HQ : Hid ((if s = 0 ∨ b0 = false then (0 : Int) else if L = 3 then (if b1 = true then 3 else 0) else if b1 = true then 1 else 2) = if zs || !b0 then 0 else if zl then (if b1 then 3 else 0) else if b1 then 1 else 2) := Lib.hid (by
    have k1 : (s = 0) ↔ zs = true := by rw [hzs]; simp only [beq_iff_eq]; omega
    have k2 : (L = 3) ↔ zl = true := by rw [hzl]; simp only [beq_iff_eq]
    cases zs <;> cases zl <;> cases b0 <;> cases b1 <;> simp [k1, k2])
  rw [HQ.out]
  have e1 := hzs.symm
  have e2 := hzl.symm
  clear hzs hzl HQ
  cases zs <;> cases zl <;> cases b0 <;> cases b1
  all_goals
    go_enter Try.func17, Try.ntmps17
    go_wp2_with (first
      | ((with_reducible show Calls _ _ #[_, .int .i64 0] _ _); refine H0.out.mono ?_; rintro e w1 ⟨rfl, hw1⟩; rw [hw1]; clear hw1)
      | ((with_reducible show Calls _ _ #[_, .int .i64 1] _ _); refine H1.out.mono ?_; rintro e w1 ⟨rfl, hw1⟩; rw [hw1]; clear hw1)
      | (go_at_call 23; refine HS.out.mono ?_; rintro e w1 ⟨rfl, hw1⟩; rw [hw1]; clear hw1))
    go_ret
    exact ⟨rfl, rfl⟩
end Go.Proofs.Ytblmikmmmomflaa
