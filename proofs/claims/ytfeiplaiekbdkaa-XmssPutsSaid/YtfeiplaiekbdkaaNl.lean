/- A node's bytes; append of a node onto a row of the call's own; numbers of four bytes, there and back. -/
import Derived.Test.YtfeiplaiekbdkaaVec
import Derived.Test.YtfeiplaiekbdkaaNode
import Derived.Test.YtfeiplaiekbdkaaPut
import Derived.Test.YtfeiplaiekbdkaaPlain
import Derived.Lib.AppendZeros
namespace Go.Proofs.Ytfeiplaiekbdkaa
open Go.RowKit

/-- A node's bytes. -/
def nodeL (f : Nat → UInt8) : List UInt8 := (List.range 32).map f
set_option maxRecDepth 100000 in
theorem nodeL_length (f : Nat → UInt8) : (nodeL f).length = 32 := by simp [nodeL]
set_option maxRecDepth 100000 in
theorem u8s_nodeL (f : Nat → UInt8) : u8s (nodeL f) = (List.range 32).map fun i => bys f (0 + i) := by simp [u8s, nodeL, bys]
set_option maxRecDepth 100000 in
theorem node_lies {w : World} {g B : Nat} {t : TypeId} {f : Nat → UInt8} (h : Arr w g t 32 (bys f)) (hB : g < B) : Lies w B 1 (some ⟨g, 0, none⟩) (nodeL f).length (u8s (nodeL f)) := by
  rw [u8s_nodeL, nodeL_length]; exact h.lies hB 0 32 (by decide)
set_option maxRecDepth 100000 in
/-- Cells that a new block begins with. -/
theorem lies_pre (w : World) (cs : Array Value) (t : TypeId) (n : Nat) (xs : List Value) (h : ∀ j (hj : j < xs.length), cs[j]? = some xs[j]) (hn : xs.length = n) :
    Lies (w.alloc (.cells cs t)) (w.heap.size + 1) 1 (some ⟨w.heap.size, 0, none⟩) n xs := by
  refine ⟨by omega, fun _ => ⟨_, rfl, Nat.lt_succ_self _, fun j hj => ?_⟩⟩
  have e : ((⟨w.heap.size, 0, none⟩ : Addr).add j) = ⟨w.heap.size, j, none⟩ := by
    unfold Addr.add; by_cases h0 : j = 0 <;> simp [h0]
  rw [e, cell_of_row _ w.heap.size j cs t (0, 0) (heap_alloc_new w _)]
  exact h j hj
set_option maxRecDepth 100000 in
theorem node_src {w : World} {g : Nat} {t : TypeId} {f : Nat → UInt8} (h : Arr w g t 32 (bys f)) : ∀ j u, (u8s (nodeL f))[j]? = some u → w.cell? ((⟨g, 0, none⟩ : Addr).add j) = some u := by
  intro j u hu
  obtain ⟨hj, rfl⟩ := List.getElem?_eq_some_iff.1 hu
  obtain ⟨a, e, _, hc⟩ := (node_lies h h.lt).2 (by rw [nodeL_length]; decide)
  injection e with e
  subst e
  exact hc j hj
set_option maxRecDepth 100000 in
theorem node_len (f : Nat → UInt8) : (u8s (nodeL f)).length = 32 * 1 := by rw [u8s_length, nodeL_length]
set_option maxRecDepth 100000 in
/-- append(own, b[:]...) -/
theorem app_node {w : World} {base : Nat} {v : Value} {n : Nat} {xs : List UInt8} {g : Nat} {t : TypeId} {f : Nat → UInt8} (hown : w.ownsRow base 5 1 v n (u8s xs)) (h : Arr w g t 32 (bys f)) (hn : n ≤ 1000000000) (hb : base ≤ w.heap.size) (ty : TypeId) :
    ∃ v' w', (Builtin.append_ #[27, 27] ty #[v, .slice (some ⟨g, 0, none⟩) 32 32]).run Try.prog w = .ok v' w' ∧ w'.ownsRow base 5 1 v' (n + 32) (u8s (xs ++ nodeL f)) ∧ Below base w w' := by
  obtain ⟨i0, hi, hz0, hz1, hz2⟩ := info_parts u8_info
  have hli := node_lies h h.lt
  rw [nodeL_length] at hli
  obtain ⟨v', w', hr, h2, h3, _⟩ := run_app (P := Try.prog) base 27 ty 5 i0 (.int .u8 0) 1 Try.underlying27 hi hz0 hz1 hz2 rfl v n (u8s xs) hown w.heap.size (some ⟨g, 0, none⟩) 32 32 (u8s (nodeL f)) hli (u8s_one _) (by unfold maxLen; omega) (by omega) hb
  rw [u8s_append] at h2
  exact ⟨v', w', hr, h2, (Below.refl _ _).grown h3 hb (fun k hk => (hown.lt k hk).1)⟩

set_option maxRecDepth 100000 in
theorem putN4 (n i : Nat) (hi : i < 4) : (putByte 0 4 n i).toNat = n / 2 ^ (8 * (3 - i)) % 256 := by
  have e : (shAt 0 (i : Int) ((4 : Nat) : Int)).toNat = 8 * (3 - i) := by rw [shAt_high]; omega
  have h1 := toNat_ofNat_mod (n / 2 ^ (8 * (3 - i)))
  unfold putByte
  rw [e]; omega
/-- A word that was put is read. -/
theorem wdn_put (n : Nat) (hn : n < 4294967296) (b : Nat → UInt8) (h : ∀ i, i < 4 → b i = putByte 0 4 n i) : accB b 4 = n := by
  simp only [accB]
  rw [h 0 (by decide), h 1 (by decide), h 2 (by decide), h 3 (by decide), putN4 n 0 (by decide), putN4 n 1 (by decide), putN4 n 2 (by decide), putN4 n 3 (by decide)]
  omega
/-- A word that was read is put. -/
theorem putn_wd (b : Nat → UInt8) (i : Nat) (hi : i < 4) : putByte 0 4 (accB b 4) i = b i := by
  apply UInt8.toNat_inj.1
  rw [putN4 _ i hi]
  have h0 := (b 0).toNat_lt
  have h1 := (b 1).toNat_lt
  have h2 := (b 2).toNat_lt
  have h3 := (b 3).toNat_lt
  simp only [accB]
  match i, hi with
  | 0, _ => omega
  | 1, _ => omega
  | 2, _ => omega
  | 3, _ => omega
end Go.Proofs.Ytfeiplaiekbdkaa
