/- Plain: kinds; keys and signatures as bytes. -/
import Derived.Test.YtfeiplaiekbdkaaNl
import Derived.Test.YtfeiplaiekbdkaaNodes
namespace Go.Proofs.Ytfeiplaiekbdkaa
open Go.RowKit

/-- The height that a kind has; 0 for none. -/
def hgtO (oid : Nat) : Nat := if oid = 1 then 10 else if oid = 2 then 16 else if oid = 3 then 20 else 0
def isO (oid : Nat) : Bool := decide (1 ≤ oid ∧ oid ≤ 3)
theorem isO_cases {oid : Nat} (h : isO oid = true) : (oid = 1 ∧ hgtO oid = 10) ∨ (oid = 2 ∧ hgtO oid = 16) ∨ (oid = 3 ∧ hgtO oid = 20) := by
  unfold isO at h
  have h := of_decide_eq_true h
  have : oid = 1 ∨ oid = 2 ∨ oid = 3 := by omega
  rcases this with rfl | rfl | rfl
  · exact .inl ⟨rfl, rfl⟩
  · exact .inr (.inl ⟨rfl, rfl⟩)
  · exact .inr (.inr ⟨rfl, rfl⟩)
theorem isO_off {oid : Nat} (h : isO oid = false) : oid ≠ 1 ∧ oid ≠ 2 ∧ oid ≠ 3 := by
  unfold isO at h
  have h := of_decide_eq_false h
  omega
theorem hgtO_off {oid : Nat} (h : isO oid = false) : hgtO oid = 0 := by
  obtain ⟨h1, h2, h3⟩ := isO_off h
  simp [hgtO, h1, h2, h3]
theorem hgtO_le (oid : Nat) : hgtO oid ≤ 20 := by
  unfold hgtO
  repeat' split
  all_goals decide
def nodesL (l : List Nd) : List UInt8 := l.flatMap nodeL
theorem nodesL_cons (f : Nd) (l : List Nd) : nodesL (f :: l) = nodeL f ++ nodesL l := by simp [nodesL]
theorem nodesL_append (a b : List Nd) : nodesL (a ++ b) = nodesL a ++ nodesL b := by simp [nodesL]
theorem nodesL_snoc (a : List Nd) (f : Nd) : nodesL (a ++ [f]) = nodesL a ++ nodeL f := by simp [nodesL]
theorem nodesL_length (l : List Nd) : (nodesL l).length = 32 * l.length := by
  induction l with
  | nil => rfl
  | cons x r ih => rw [nodesL_cons, List.length_append, nodeL_length, ih, List.length_cons]; omega
theorem numBytes_len (n : Nat) : (numBytes 0 4 n).length = 4 := by simp [numBytes]
/-- A key as bytes. -/
def keyL (oid : Nat) (root seed : Nd) : List UInt8 := numBytes 0 4 oid ++ (nodeL root ++ nodeL seed)
theorem keyL_length (oid : Nat) (root seed : Nd) : (keyL oid root seed).length = 68 := by
  simp only [keyL, List.length_append, numBytes_len, nodeL_length]
/-- A signature as bytes. -/
def sigL (idx : Nat) (r : Nd) (ots auth : List Nd) : List UInt8 := numBytes 0 4 idx ++ (nodeL r ++ (nodesL ots ++ nodesL auth))
theorem sigL_length (idx : Nat) (r : Nd) (ots auth : List Nd) : (sigL idx r ots auth).length = 36 + 32 * (ots.length + auth.length) := by
  simp only [sigL, List.length_append, numBytes_len, nodeL_length, nodesL_length]; omega
/-- The number that four bytes are. -/
theorem num_of (l : List UInt8) (h : l.length = 4) : ∃ n, n < 4294967296 ∧ l = numBytes 0 4 n := by
  refine ⟨accB (fun i => l.getD i 0) 4, by have := accB_lt (fun i => l.getD i 0) 4; simpa using this, ?_⟩
  apply List.ext_getElem (by rw [numBytes_len, h])
  intro i h1 h2
  simp only [numBytes, List.getElem_map, List.getElem_range]
  rw [putn_wd _ i (by omega)]
  simp [List.getD_eq_getElem?_getD, h1]
theorem node_of (l : List UInt8) (h : l.length = 32) : ∃ f : Nd, l = nodeL f := by
  refine ⟨fun i => l.getD i 0, ?_⟩
  apply List.ext_getElem (by rw [nodeL_length, h])
  intro i h1 h2
  simp [nodeL, List.getD_eq_getElem?_getD, h1]
theorem nodes_of : ∀ (k : Nat) (l : List UInt8), l.length = 32 * k → ∃ ls : List Nd, ls.length = k ∧ l = nodesL ls
  | 0, l, h => ⟨[], rfl, by have := List.eq_nil_of_length_eq_zero (by omega : l.length = 0); simp [this, nodesL]⟩
  | k + 1, l, h => by
    obtain ⟨f, hf⟩ := node_of (l.take 32) (by rw [List.length_take]; omega)
    obtain ⟨ls, h1, h2⟩ := nodes_of k (l.drop 32) (by rw [List.length_drop]; omega)
    exact ⟨f :: ls, by simp [h1], by rw [nodesL_cons, ← hf, ← h2, List.take_append_drop]⟩
theorem key_of (b : List UInt8) (h : b.length = 68) : ∃ oid root seed, oid < 4294967296 ∧ b = keyL oid root seed := by
  obtain ⟨n, hn, e1⟩ := num_of (b.take 4) (by rw [List.length_take]; omega)
  obtain ⟨f, e2⟩ := node_of ((b.drop 4).take 32) (by rw [List.length_take, List.length_drop]; omega)
  obtain ⟨g, e3⟩ := node_of ((b.drop 4).drop 32) (by rw [List.length_drop, List.length_drop]; omega)
  exact ⟨n, f, g, hn, by rw [keyL, ← e1, ← e2, ← e3, List.take_append_drop, List.take_append_drop]⟩
theorem sig_of (b : List UInt8) (k : Nat) (h : b.length = 36 + 32 * (67 + k)) : ∃ idx r ots auth, idx < 4294967296 ∧ ots.length = 67 ∧ auth.length = k ∧ b = sigL idx r ots auth := by
  obtain ⟨n, hn, e1⟩ := num_of (b.take 4) (by rw [List.length_take]; omega)
  obtain ⟨f, e2⟩ := node_of ((b.drop 4).take 32) (by rw [List.length_take, List.length_drop]; omega)
  obtain ⟨l1, h1, e3⟩ := nodes_of 67 (((b.drop 4).drop 32).take 2144) (by rw [List.length_take, List.length_drop, List.length_drop]; omega)
  obtain ⟨l2, h2, e4⟩ := nodes_of k (((b.drop 4).drop 32).drop 2144) (by rw [List.length_drop, List.length_drop, List.length_drop]; omega)
  exact ⟨n, f, l1, l2, hn, h1, h2, by rw [sigL, ← e1, ← e2, ← e3, ← e4, List.take_append_drop, List.take_append_drop, List.take_append_drop]⟩
/-- The number at the head of bytes. -/
theorem acc_num (n : Nat) (hn : n < 4294967296) (t : List UInt8) : accB (fun j => (numBytes 0 4 n ++ t).getD (0 + j) 0) 4 = n := by
  refine wdn_put n hn _ fun i hi => ?_
  rw [Nat.zero_add, List.getD_eq_getElem?_getD, List.getElem?_append_left (by rw [numBytes_len]; exact hi)]
  simp [numBytes, hi]
end Go.Proofs.Ytfeiplaiekbdkaa
