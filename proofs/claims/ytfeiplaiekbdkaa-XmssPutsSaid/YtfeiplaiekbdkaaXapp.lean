/- Bytes put behind a row by the reference. -/
import Derived.Test.YtfeiplaiekbdkaaXbld
import Derived.Test.YtfeiplaiekbdkaaRPut
namespace Go.Proofs.Ytfeiplaiekbdkaa
open Go.RowKit

theorem rput_one (n : Nat) (w : World) : Calls Try.prog 27 #[.slice none 0 0, .int .u64 (n : Int), .int .i64 4, .bool false] w (Bytes w (numBytes 0 4 n)) :=
  rput_any [] n 4 (by decide) none 0 w.heap.size false w (Nat.le_refl _) (Lies.nil _ _ _ _) (by decide)
theorem app_at {w : World} {base : Nat} {v : Value} {xs : List UInt8} {A : Option Addr} {c : Nat} {f : Nd} (hown : w.ownsRow base 5 1 v xs.length (u8s xs)) (hli : Lies w w.heap.size 1 A 32 (u8s (nodeL f))) (hn : xs.length ≤ 1000000000) (hb : base ≤ w.heap.size) (ty : TypeId) :
    ∃ v' w', (Builtin.append_ #[27, 27] ty #[v, .slice A 32 c]).run Try.prog w = .ok v' w' ∧ w'.ownsRow base 5 1 v' (xs ++ nodeL f).length (u8s (xs ++ nodeL f)) ∧ Below base w w' := by
  obtain ⟨i0, hi, hz0, hz1, hz2⟩ := info_parts u8_info
  obtain ⟨v', w', hr, h2, h3, _⟩ := run_app (P := Try.prog) base 27 ty 5 i0 (.int .u8 0) 1 Try.underlying27 hi hz0 hz1 hz2 rfl v xs.length (u8s xs) hown w.heap.size A 32 c (u8s (nodeL f)) hli (u8s_one _) (by unfold maxLen; omega) (by omega) hb
  rw [u8s_append] at h2
  exact ⟨v', w', hr, by rw [List.length_append, nodeL_length]; exact h2, (Below.refl _ _).grown h3 hb (fun k hk => (hown.lt k hk).1)⟩
end Go.Proofs.Ytfeiplaiekbdkaa
