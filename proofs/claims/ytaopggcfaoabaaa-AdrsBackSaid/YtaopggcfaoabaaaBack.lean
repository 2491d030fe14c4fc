/- Plain: words out of a node's bytes, and back. -/
import Derived.Test.YtaopggcfaoabaaaLayB
import Derived.Test.YtaopggcfaoabaaaPlain
namespace Go.Proofs.Ytaopggcfaoabaaa
open Go.RowKit

theorem accN_high4 (b : Nat → UInt8) : ∀ k, k ≤ 4 → accN 0 4 4294967296 b k = accB b k * 256 ^ (4 - k) := by
  intro k
  induction k with
  | zero => intro _; simp [accN, accB]
  | succ k ih =>
    intro hk
    have e : (shAt 0 (k : Int) (4 : Int)).toNat = 8 * (4 - 1 - k) := by rw [shAt_high]; omega
    have h := high_or b 4 k (by omega)
    rw [accN, ih (by omega), show ((4 : Nat) : Int) = 4 from rfl, e, Nat.min_eq_left (by omega)]
    exact h
theorem accB_congr {b c : Nat → UInt8} : ∀ k, (∀ i, i < k → b i = c i) → accB b k = accB c k
  | 0, _ => rfl
  | k + 1, h => by rw [accB, accB, accB_congr k (fun i hi => h i (by omega)), h k (by omega)]
/-- Word j of a node. -/
def wdN (f : Nat → UInt8) (j : Nat) : Nat := accB (fun i => f (4 * j + i)) 4
theorem wdN_lt (f : Nat → UInt8) (j : Nat) : wdN f j < 4294967296 := accB_lt _ 4
def nodeL (f : Nat → UInt8) : List UInt8 := (List.range 32).map f
theorem nodeL_length (f : Nat → UInt8) : (nodeL f).length = 32 := by simp [nodeL]
theorem nodeL_at (f : Nat → UInt8) (i : Nat) (h : i < 32) : (nodeL f).getD i 0 = f i := by
  simp [nodeL, List.getD_eq_getElem?_getD, h]
theorem accN_node (f : Nat → UInt8) (j : Nat) (hj : j < 8) : accN 0 4 4294967296 (bAt (nodeL f) (4 * j)) 4 = wdN f j := by
  rw [accN_high4 _ 4 (Nat.le_refl _), Nat.sub_self, Nat.pow_zero, Nat.mul_one]
  refine accB_congr 4 fun i hi => ?_
  rw [bAt, nodeL_at f _ (by omega)]
theorem putAll_at (ns : List Nat) : ∀ j i, j < ns.length → i < 4 → (putAll 0 4 ns).getD (4 * j + i) 0 = putByte 0 4 (ns.getD j 0) i := by
  induction ns with
  | nil => intro j i hj; simp at hj
  | cons n ns ih =>
    intro j i hj hi
    have e : putAll 0 4 (n :: ns) = numBytes 0 4 n ++ putAll 0 4 ns := by simp [putAll]
    rw [e, List.getD_eq_getElem?_getD]
    cases j with
    | zero =>
      rw [List.getElem?_append_left (by rw [numBytes_length]; omega)]
      simp [numBytes, hi]
    | succ j =>
      rw [List.getElem?_append_right (by rw [numBytes_length]; omega), numBytes_length, show 4 * (j + 1) + i - 4 = 4 * j + i by omega, ← List.getD_eq_getElem?_getD, ih j i (by simpa using hj) hi]
      simp
theorem adB_at (l t k a b c m : Nat) (j i : Nat) (hj : j < 8) (hi : i < 4) : adB l t k a b c m (4 * j + i) = putByte 0 4 ((adWs l t k a b c m).getD j 0) i := putAll_at _ j i (by simpa [adWs] using hj) hi
theorem putByte4 (n i : Nat) (hi : i < 4) : (putByte 0 4 n i).toNat = n / 2 ^ (8 * (3 - i)) % 256 := by
  have e : (shAt 0 (i : Int) ((4 : Nat) : Int)).toNat = 8 * (3 - i) := by rw [shAt_high]; omega
  have h1 := toNat_ofNat_mod (n / 2 ^ (8 * (3 - i)))
  unfold putByte
  rw [e]; omega
/-- A word that was put is read. -/
theorem wd_put (n : Nat) (hn : n < 4294967296) (b : Nat → UInt8) (h : ∀ i, i < 4 → b i = putByte 0 4 n i) : accB b 4 = n := by
  simp only [accB]
  rw [h 0 (by decide), h 1 (by decide), h 2 (by decide), h 3 (by decide), putByte4 n 0 (by decide), putByte4 n 1 (by decide), putByte4 n 2 (by decide), putByte4 n 3 (by decide)]
  omega
/-- A word that was read is put. -/
theorem put_wd (b : Nat → UInt8) (i : Nat) (hi : i < 4) : putByte 0 4 (accB b 4) i = b i := by
  apply UInt8.toNat_inj.1
  rw [putByte4 _ i hi]
  have h0 := (b 0).toNat_lt
  have h1 := (b 1).toNat_lt
  have h2 := (b 2).toNat_lt
  have h3 := (b 3).toNat_lt
  simp only [accB]
  match i, hi with
  | 0, _ => omega
  | 1, _ => omega
  | 2, _ => omega
  | 3, _ => omega
theorem wdN_adB (l t k a b c m : Nat) (hok : AdOk l t k a b c m) (j : Nat) (hj : j < 8) : wdN (adB l t k a b c m) j = (adWs l t k a b c m).getD j 0 := by
  have h1 := hok.l
  have h2 := hok.t
  have h3 := hok.k
  have h4 := hok.a
  have h5 := hok.b
  have h6 := hok.c
  have h7 := hok.m
  refine wd_put _ ?_ _ (fun i hi => adB_at l t k a b c m j i hj hi)
  match j, hj with
  | 0, _ => exact h1
  | 1, _ => show t / 4294967296 < 4294967296; omega
  | 2, _ => show t % 4294967296 < 4294967296; omega
  | 3, _ => exact h3
  | 4, _ => exact h4
  | 5, _ => exact h5
  | 6, _ => exact h6
  | 7, _ => exact h7
theorem ws_at (g : Nat → Nat) (h2 : g 2 < 4294967296) (j : Nat) (hj : j < 8) : (adWs (g 0) (g 1 * 4294967296 + g 2) (g 3) (g 4) (g 5) (g 6) (g 7)).getD j 0 = g j := by
  obtain ⟨x, hx⟩ : ∃ x, x = g 1 * 4294967296 + g 2 := ⟨_, rfl⟩
  have e1 : x / 4294967296 = g 1 := by omega
  have e2 : x % 4294967296 = g 2 := by omega
  rw [← hx]
  simp only [adWs, e1, e2]
  match j, hj with
  | 0, _ => rfl
  | 1, _ => rfl
  | 2, _ => rfl
  | 3, _ => rfl
  | 4, _ => rfl
  | 5, _ => rfl
  | 6, _ => rfl
  | 7, _ => rfl
/-- The address of a node's bytes has these bytes. -/
theorem adB_wdN (f : Nat → UInt8) : ∀ i, i < 32 → adB (wdN f 0) (wdN f 1 * 4294967296 + wdN f 2) (wdN f 3) (wdN f 4) (wdN f 5) (wdN f 6) (wdN f 7) i = f i := by
  intro i hi
  have e : i = 4 * (i / 4) + i % 4 := by omega
  have hj : i / 4 < 8 := by omega
  have hr : i % 4 < 4 := by omega
  obtain ⟨j, hjd⟩ : ∃ j, j = i / 4 := ⟨_, rfl⟩
  obtain ⟨r, hrd⟩ : ∃ r, r = i % 4 := ⟨_, rfl⟩
  rw [← hjd] at e hj
  rw [← hrd] at e hr
  subst e
  clear hjd hrd hi
  rw [adB_at _ _ _ _ _ _ _ j r hj hr]
  have hg := ws_at (wdN f) (wdN_lt f 2) j hj
  rw [hg]
  exact put_wd (fun i => f (4 * j + i)) r hr
theorem ok_wdN (f : Nat → UInt8) : AdOk (wdN f 0) (wdN f 1 * 4294967296 + wdN f 2) (wdN f 3) (wdN f 4) (wdN f 5) (wdN f 6) (wdN f 7) :=
  ⟨wdN_lt f 0, by have := wdN_lt f 1; have := wdN_lt f 2; omega, wdN_lt f 3, wdN_lt f 4, wdN_lt f 5, wdN_lt f 6, wdN_lt f 7⟩
end Go.Proofs.Ytaopggcfaoabaaa
