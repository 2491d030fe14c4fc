/- Steps of chains, keys, signatures: plain mathematics. -/
import Derived.Test.YtfeiplaiekbdkaaGreatDoorDig
import Derived.Test.YtfeiplaiekbdkaaGreatDoorPrf
import Derived.Test.YtfeiplaiekbdkaaGreatDoorXor
namespace Go.Proofs.YtfeiplaiekbdkaaGreatDoor

/-- A step of a chain. -/
def stepF (seed : Nat → UInt8) (idx chain i : Nat) (x : Nat → UInt8) : Nat → UInt8 := fF (prfF seed 0 0 0 idx chain i 0) (xorF x (prfF seed 0 0 0 idx chain i 1))
/-- Steps of a chain, from one of its places on. -/
def chF (seed : Nat → UInt8) (idx chain : Nat) (x : Nat → UInt8) (i : Nat) : Nat → (Nat → UInt8)
  | 0 => x
  | k + 1 => stepF seed idx chain (i + k) (chF seed idx chain x i k)
set_option maxRecDepth 100000 in
theorem chF_add (seed : Nat → UInt8) (idx chain : Nat) (x : Nat → UInt8) (i a b : Nat) : chF seed idx chain (chF seed idx chain x i a) (i + a) b = chF seed idx chain x i (a + b) := by
  induction b with
  | zero => rfl
  | succ b ih =>
    show stepF seed idx chain (i + a + b) (chF seed idx chain (chF seed idx chain x i a) (i + a) b) = stepF seed idx chain (i + (a + b)) (chF seed idx chain x i (a + b))
    rw [ih, Nat.add_assoc]
/-- Whether there are such steps of such a chain. -/
def steppy (i k chain : Int) : Bool := decide (0 ≤ chain ∧ chain ≤ 66 ∧ 0 ≤ i ∧ 0 ≤ k ∧ i ≤ 15 ∧ k ≤ 15 - i)
/-- The document's Chain. -/
def chainF (x : Nat → UInt8) (i k : Int) (seed : Nat → UInt8) (idx : Nat) (chain : Int) : Nat → UInt8 := if steppy i k chain then chF seed idx chain.toNat x i.toNat k.toNat else zb
set_option maxRecDepth 100000 in
theorem chainF_nat (x : Nat → UInt8) (i k : Nat) (seed : Nat → UInt8) (idx chain : Nat) (h : chain ≤ 66) (hk : i + k ≤ 15) : chainF x (i : Int) (k : Int) seed idx (chain : Int) = chF seed idx chain x i k := by
  unfold chainF
  rw [if_pos (by unfold steppy; exact decide_eq_true (by omega))]
  simp
def secretF (secret : Nat → UInt8) (idx : Nat) (chain : Int) : Nat → UInt8 := if 0 ≤ chain ∧ chain ≤ 66 then prfF secret 0 0 0 idx chain.toNat 0 0 else zb
set_option maxRecDepth 100000 in
theorem secretF_nat (secret : Nat → UInt8) (idx chain : Nat) (h : chain ≤ 66) : secretF secret idx (chain : Int) = prfF secret 0 0 0 idx chain 0 0 := by
  unfold secretF
  rw [if_pos (by omega)]
  simp
/-- The ends of all chains, so many steps each. -/
def endsF (secret seed : Nat → UInt8) (idx : Nat) (d : Nat → Nat) : List (Nat → UInt8) := (List.range 67).map fun i => chF seed idx i (prfF secret 0 0 0 idx i 0 0) 0 (d i)
/-- The key that a signature leads to. -/
def publicF (sig : List (Nat → UInt8)) (m seed : Nat → UInt8) (idx : Nat) : List (Nat → UInt8) := (List.range 67).map fun i => chF seed idx i (sig.getD i zb) (digN m i) (15 - digN m i)
set_option maxRecDepth 100000 in
theorem public_ends (secret seed m : Nat → UInt8) (idx : Nat) : publicF (endsF secret seed idx (digN m)) m seed idx = endsF secret seed idx (fun _ => 15) := by
  unfold publicF
  refine List.map_congr_left fun i hi => ?_
  have hi := List.mem_range.1 hi
  have h15 := digN_le m i
  have e : (endsF secret seed idx (digN m)).getD i zb = chF seed idx i (prfF secret 0 0 0 idx i 0 0) 0 (digN m i) := by
    unfold endsF
    rw [List.getD_eq_getElem?_getD, List.getElem?_map, List.getElem?_range hi]
    rfl
  rw [e]
  have := chF_add seed idx i (prfF secret 0 0 0 idx i 0 0) 0 (digN m i) (15 - digN m i)
  rw [Nat.zero_add, Nat.add_sub_cancel' h15] at this
  exact this
end Go.Proofs.YtfeiplaiekbdkaaGreatDoor
