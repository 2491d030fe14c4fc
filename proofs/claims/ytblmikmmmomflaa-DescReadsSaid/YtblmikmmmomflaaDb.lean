/- What a descriptor's word is, plainly, and that it is read as it was. -/
import Derived.Test.YtblmikmmmomflaaDo
namespace Go.Proofs.Ytblmikmmmomflaa
open Go.RowKit

theorem rof_any (L : Int) (w : Nat) (hw : w < 2 ^ 64) (W : World) : Calls Try.prog 9 #[.int .i64 L, .int .u64 (w : Int)] W fun e w' => e = .returned (.agg (vec 5 (descE (ofP L w)))) ∧ Below W.heap.size W w' := by
  unfold ofP
  by_cases hz : w % 2 = 0 ∨ L < 1 ∨ 3 < L ∨ (L = 3 ∧ w / 2 % 2 = 0)
  · rw [if_pos hz]
    exact rofZ L w hw hz W
  rw [if_neg hz]
  by_cases ht : w / 2 % 2 = 1 ∧ L < 3
  · rw [if_pos ht]
    exact rofT L (by omega) w hw (by omega) ht.1 W
  rw [if_neg ht]
  rcases (by omega : L = 1 ∨ L = 2 ∨ L = 3) with rfl | rfl | rfl
  · exact rofB1 w hw (by omega) (by omega) W
  · exact rofB2 w hw (by omega) (by omega) W
  · exact rofB3 w hw (by omega) (by omega) W
def sizeP (L : Int) : Nat := if L = 1 then 1073741824 else if L = 2 then 2097152 else if L = 3 then 4096 else 0
/-- A block's or page's word. -/
def wordP (L : Int) (d : Ds) : Nat := d.pa + 1 + (if L = 3 then 2 else 0) + (if d.mem = 0 then 828 else 516) + (if d.perm % 2 = 1 then 64 else 0) + (if d.perm / 2 % 2 = 1 then 128 else 0) + (if d.af then 1024 else 0) + (if d.perm / 4 % 2 = 0 then 18014398509481984 else 0)
def isTab (L : Int) (d : Ds) : Bool := !(L == 3) && (d.pa % 4096 == 0 && (d.perm == 0 && (d.mem == 0 && !d.af)))
def isBlk (L : Int) (d : Ds) : Bool := ((d.kind == 3) == (L == 3)) && (d.pa % sizeP L == 0 && (decide (0 ≤ d.perm) && (decide (d.perm ≤ 7) && (decide (0 ≤ d.mem) && decide (d.mem ≤ 1)))))
def isNone (d : Ds) : Bool := d.kind == 0 && (d.pa == 0 && (d.perm == 0 && (d.mem == 0 && !d.af)))
def inLv (L : Int) (d : Ds) : Bool := decide (1 ≤ L) && (decide (L ≤ 3) && decide (d.pa < 1099511627776))
/-- Whether a descriptor may be put. -/
def isPut (L : Int) (d : Ds) : Bool := inLv L d && (isNone d || ((d.kind == 1 && isTab L d) || ((d.kind == 2 || d.kind == 3) && isBlk L d)))
def putW (L : Int) (d : Ds) : Nat := if d.kind = 0 then 0 else if d.kind = 1 then d.pa + 3 else wordP L d
/-- The word, the error's number. -/
def putP (L : Int) (d : Ds) : Nat × Nat := if isPut L d = true then (putW L d, 0) else (0, 180)
theorem isPut_lt {L : Int} {d : Ds} (h : isPut L d = true) : putW L d < 18446744073709551616 := by
  have hp : d.pa < 1099511627776 := by
    unfold isPut inLv at h
    simp only [Bool.and_eq_true, decide_eq_true_eq] at h
    exact h.1.2.2
  unfold putW wordP
  repeat' split
  all_goals omega
theorem back_table {L : Int} {pa : Nat} (hL : L = 1 ∨ L = 2) (hp : pa < 1099511627776) (h4 : pa % 4096 = 0) : ofP L (pa + 3) = ⟨1, pa, 0, 0, false⟩ := by
  unfold ofP
  rw [if_neg (by omega), if_pos (by omega)]
  have : bitsN (pa + 3) 47 12 * 4096 = pa := by
    unfold bitsN
    rw [show (2 : Nat) ^ 12 = 4096 from rfl, show (2 : Nat) ^ (47 + 1 - 12) = 68719476736 from rfl]
    omega
  rw [this]
theorem bits_low {w s x pa low : Nat} (hlow : low = 12 ∨ low = 21 ∨ low = 30) (hp : pa < 1099511627776) (hm : pa % 2 ^ low = 0) (hs : s < 4096) (hw : w = pa + s + 18014398509481984 * x) : bitsN w 47 low * 2 ^ low = pa := by
  unfold bitsN
  rcases hlow with rfl | rfl | rfl
  · rw [show (2 : Nat) ^ 12 = 4096 from rfl, show (2 : Nat) ^ (47 + 1 - 12) = 68719476736 from rfl] at *
    omega
  · rw [show (2 : Nat) ^ 21 = 2097152 from rfl, show (2 : Nat) ^ (47 + 1 - 21) = 134217728 from rfl] at *
    omega
  · rw [show (2 : Nat) ^ 30 = 1073741824 from rfl, show (2 : Nat) ^ (47 + 1 - 30) = 262144 from rfl] at *
    omega
theorem bits_small {w s x pa : Nat} (hp : pa % 4096 = 0) (hq : pa < 1099511627776) (hs : s < 4096) (hx : x < 2) (hw : w = pa + s + 18014398509481984 * x) :
    w % 2 = s % 2 ∧ w / 2 % 2 = s / 2 % 2 ∧ bitsN w 5 4 = s / 16 % 4 ∧ bitsN w 7 6 = s / 64 % 4 ∧ bitsN w 10 10 = s / 1024 % 2 ∧ bitsN w 54 54 = x := by
  unfold bitsN
  rw [show (2 : Nat) ^ 4 = 16 from rfl, show (2 : Nat) ^ (5 + 1 - 4) = 4 from rfl, show (2 : Nat) ^ 6 = 64 from rfl, show (2 : Nat) ^ 10 = 1024 from rfl, show (2 : Nat) ^ (10 + 1 - 10) = 2 from rfl, show (2 : Nat) ^ 54 = 18014398509481984 from rfl]
  refine ⟨?_, ?_, ?_, ?_, ?_, ?_⟩ <;> omega
set_option maxHeartbeats 2000000 in
theorem back_block {L : Int} {d : Ds} (hL : L = 1 ∨ L = 2 ∨ L = 3) (hp : d.pa < 1099511627776) (hk : d.kind = if L = 3 then 3 else 2) (hm : d.pa % 2 ^ lowP L = 0) (h0 : 0 ≤ d.perm ∧ d.perm ≤ 7) (h1 : 0 ≤ d.mem ∧ d.mem ≤ 1) : ofP L (wordP L d) = d := by
  obtain ⟨kind, pa, perm, mem, af⟩ := d
  simp only at hp hk hm h0 h1
  have hlow : lowP L = 12 ∨ lowP L = 21 ∨ lowP L = 30 := by rcases hL with rfl | rfl | rfl <;> simp [lowP]
  have h4 : pa % 4096 = 0 := by
    rcases hlow with h | h | h <;> rw [h] at hm
    · exact hm
    · rw [show (2 : Nat) ^ 21 = 2097152 from rfl] at hm; omega
    · rw [show (2 : Nat) ^ 30 = 1073741824 from rfl] at hm; omega
  obtain ⟨a, ha⟩ : ∃ a : Nat, a = if L = 3 then 2 else 0 := ⟨_, rfl⟩
  obtain ⟨m, hmm⟩ : ∃ m : Nat, m = if mem = 0 then 828 else 516 := ⟨_, rfl⟩
  obtain ⟨p0, hp0⟩ : ∃ p : Nat, p = if perm % 2 = 1 then 64 else 0 := ⟨_, rfl⟩
  obtain ⟨p1, hp1⟩ : ∃ p : Nat, p = if perm / 2 % 2 = 1 then 128 else 0 := ⟨_, rfl⟩
  obtain ⟨f, hf⟩ : ∃ p : Nat, p = if af = true then 1024 else 0 := ⟨_, rfl⟩
  obtain ⟨x, hx⟩ : ∃ x : Nat, x = if perm / 4 % 2 = 0 then 1 else 0 := ⟨_, rfl⟩
  obtain ⟨w, hw⟩ : ∃ w, w = wordP L ⟨kind, pa, perm, mem, af⟩ := ⟨_, rfl⟩
  obtain ⟨s, hs⟩ : ∃ s, s = 1 + a + m + p0 + p1 + f := ⟨_, rfl⟩
  have ha2 : (L = 3 ∧ a = 2) ∨ (L ≠ 3 ∧ a = 0) := by rw [ha]; split <;> omega
  have hm2 : (mem = 0 ∧ m = 828) ∨ (mem = 1 ∧ m = 516) := by rw [hmm]; split <;> omega
  have hp2 : (perm % 2 = 1 ∧ p0 = 64) ∨ (perm % 2 ≠ 1 ∧ p0 = 0) := by rw [hp0]; split <;> omega
  have hq2 : (perm / 2 % 2 = 1 ∧ p1 = 128) ∨ (perm / 2 % 2 ≠ 1 ∧ p1 = 0) := by rw [hp1]; split <;> omega
  have hf2 : (af = true ∧ f = 1024) ∨ (af = false ∧ f = 0) := by rw [hf]; cases af <;> simp
  have hw2 : w = pa + s + 18014398509481984 * x := by
    have hwx : wordP L ⟨kind, pa, perm, mem, af⟩ = pa + 1 + a + m + p0 + p1 + f + (if perm / 4 % 2 = 0 then 18014398509481984 else 0) := by rw [ha, hmm, hp0, hp1, hf]; rfl
    rw [hw, hs, hx, hwx]
    split <;> omega
  have hs4 : s < 4096 := by omega
  have hx2 : x < 2 := by rw [hx]; split <;> omega
  obtain ⟨e0, e1, e2, e3, e4, e5⟩ := bits_small h4 hp hs4 hx2 hw2
  have e6 := bits_low hlow hp hm hs4 hw2
  rw [← hw]
  clear ha hmm hp0 hp1 hf hw
  have f0 : s % 2 = 1 := by omega
  have f1 : s / 2 % 2 = if L = 3 then 1 else 0 := by split <;> omega
  have f2 : (s / 16 % 4 = 0) ↔ mem = 1 := by omega
  have f3 : s / 64 % 4 = perm.toNat % 4 := by omega
  have f4 : (s / 1024 % 2 = 1) ↔ af = true := by
    rcases hf2 with ⟨rfl, h⟩ | ⟨rfl, h⟩
    · simp only [iff_true]; omega
    · simp only [Bool.false_eq_true, iff_false]; omega
  have f5 : x = 1 - perm.toNat / 4 := by rw [hx]; split <;> omega
  unfold ofP
  rw [if_neg (by rw [e0, e1, f0, f1]; rcases hL with rfl | rfl | rfl <;> simp), if_neg (by rw [e1, f1]; rcases hL with rfl | rfl | rfl <;> simp)]
  unfold blockP
  rw [e2, e3, e4, e5, e6, f3]
  congr 1
  · rw [hk]
  · omega
  · by_cases h : mem = 1
    · rw [if_pos (f2.2 h), h]
    · rw [if_neg (fun hh => h (f2.1 hh))]; omega
  · exact Bool.eq_iff_iff.2 (by rw [beq_iff_eq]; exact f4)
/-- What is put is read as it was. -/
theorem put_back {L : Int} {d : Ds} (h : isPut L d = true) : ofP L (putW L d) = d := by
  unfold isPut inLv at h
  simp only [Bool.and_eq_true, decide_eq_true_eq, Bool.or_eq_true] at h
  obtain ⟨⟨l1, l2, hp⟩, h⟩ := h
  rcases h with h | ⟨h0, h⟩ | ⟨h0, h⟩
  · unfold isNone at h
    obtain ⟨k, pa, perm, mem, af⟩ := d
    simp only [Bool.and_eq_true, beq_iff_eq, Bool.not_eq_true'] at h
    obtain ⟨rfl, rfl, rfl, rfl, rfl⟩ := h
    rfl
  · unfold isTab at h
    obtain ⟨k, pa, perm, mem, af⟩ := d
    simp only [Bool.and_eq_true, beq_iff_eq, Bool.not_eq_true', beq_eq_false_iff_ne] at h h0 hp
    obtain ⟨h3, h4, rfl, rfl, rfl⟩ := h
    subst h0
    exact back_table (by omega) hp h4
  · unfold isBlk at h
    simp only [Bool.and_eq_true, beq_iff_eq, decide_eq_true_eq] at h h0
    obtain ⟨hk, hm, h1, h2, h3, h4⟩ := h
    have hL : L = 1 ∨ L = 2 ∨ L = 3 := by omega
    have hk2 : d.kind = if L = 3 then 3 else 2 := by
      by_cases h5 : L = 3
      · subst h5
        rw [if_pos rfl]
        simpa using hk
      · rw [if_neg h5]
        rw [show (L == 3) = false by simpa using h5] at hk
        rcases h0 with h0 | h0
        · exact h0
        · rw [h0] at hk; simp at hk
    unfold putW
    rw [if_neg (by rw [hk2]; split <;> omega), if_neg (by rw [hk2]; split <;> omega)]
    refine back_block hL hp hk2 ?_ ⟨h1, h2⟩ ⟨h3, h4⟩
    rw [show 2 ^ lowP L = sizeP L by rcases hL with rfl | rfl | rfl <;> rfl]
    exact hm
theorem putP_back {L : Int} {d : Ds} (h : (putP L d).2 = 0) : ofP L (putP L d).1 = d := by
  unfold putP at h ⊢
  by_cases hp : isPut L d = true
  · rw [if_pos hp]; exact put_back hp
  · rw [if_neg hp] at h; cases h
theorem putP_lt (L : Int) (d : Ds) : (putP L d).1 < 18446744073709551616 ∧ ((putP L d).2 = 0 ∨ (putP L d).2 = 180) := by
  unfold putP
  by_cases hp : isPut L d = true
  · rw [if_pos hp]; exact ⟨isPut_lt hp, .inl rfl⟩
  · rw [if_neg hp]; exact ⟨by decide, .inr rfl⟩
end Go.Proofs.Ytblmikmmmomflaa
