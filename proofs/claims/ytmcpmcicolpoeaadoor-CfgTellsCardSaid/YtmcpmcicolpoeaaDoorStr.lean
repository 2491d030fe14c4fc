/- Bytes as a string. -/
import Derived.Test.YtmcpmcicolpoeaaDoorChecked
import Derived.Test.YtmcpmcicolpoeaaDoorApp
import Derived.Laws.BytesArg
import Derived.KernelRfl
namespace Go.Proofs.YtmcpmcicolpoeaaDoor
open Go.RowKit

def strOf (l : List UInt8) : ByteArray := ⟨l.toArray⟩
theorem conv_gen {P : Program} (src dst e : TypeId) (hs : P.underlying src = some (.slice e)) (he : P.underlying e = some (.int .u8)) (hd : P.underlying dst = some .string)
    (w : World) (B : Nat) (A : Option Addr) (n c : Nat) (l : List UInt8) (h : Lies w B 1 A n (u8s l)) :
    (convert src dst (.slice A n c)).run P w = .ok (.string (strOf l)) w := by
  have hlen : l.length = n := by have := h.1; rw [u8s_length] at this; omega
  rcases A with _ | a
  · obtain rfl : n = 0 := by
      rcases Nat.eq_zero_or_pos n with h0 | h0
      · exact h0
      · obtain ⟨_, h, _⟩ := h.2 (by omega)
        cases h
    obtain rfl : l = [] := List.eq_nil_of_length_eq_zero hlen
    exact run_convert_bytes_nil w src e hs he 0 c dst hd
  · have hl : (loadCells a n).run P w = .ok ((l.map fun b => (b.toNat : Int)).map (Value.int .u8)).toArray w := by
      have := run_loadCells_list (P := P) w a (u8s l) (fun j v hj => by
        obtain ⟨hj2, rfl⟩ := List.getElem?_eq_some_iff.1 hj
        obtain ⟨a', h1, _, hc⟩ := h.2 (by rw [u8s_length] at hj2; omega)
        injection h1 with h1
        subst h1
        exact hc j hj2)
      rw [u8s_length, hlen] at this
      rw [this]
      simp [u8s, Function.comp_def]
    rw [run_convert_bytes_string w src dst e _ n c hs he hd, run_bytesToString w _ n c _ hl, foldl_push_bytes]
    simp [strOf, ByteArray.empty, ByteArray.emptyWithCapacity, Function.comp_def]
    rfl
theorem conv_str (w : World) (B : Nat) (A : Option Addr) (n c : Nat) (l : List UInt8) (h : Lies w B 1 A n (u8s l)) :
    (convert 22 9 (.slice A n c)).run Tryd.prog w = .ok (.string (strOf l)) w :=
  conv_gen _ _ _ Tryd.underlying22 Tryd.underlying5 Tryd.underlying9 w B A n c l h
end Go.Proofs.YtmcpmcicolpoeaaDoor
