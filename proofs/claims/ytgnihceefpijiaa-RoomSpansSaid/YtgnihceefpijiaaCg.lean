/- parser.config, cursor.over. -/
import Derived.Test.YtgnihceefpijiaaLg
namespace Go.Proofs.Ytgnihceefpijiaa
open Go.RowKit

def cfE (ver : Int) (a c : Value) : Nat → Value
  | 0 => .int .u32 ver
  | 1 => a
  | _ => c
theorem cfE_one (ver : Int) (a c : Value) (ha : a.oneCell' = true) (hc : c.oneCell' = true) (n : Nat) : ∀ i, i < n → (cfE ver a c i).oneCell' = true := by
  intro i _
  match i with
  | 0 => rfl
  | 1 => exact ha
  | _ + 2 => exact hc
theorem infoCf : (Try.prog.info? 26).map (·.size) = some 3 := by kernel_rfl
theorem zeroCf (w : World) : (zeroValue 26).run Try.prog w = .ok (.agg (vec 3 (cfE 0 nilV nilV))) w :=
  (zero_of_info (P := Try.prog) (t := 26) (v := .agg (vec 3 (cfE 0 nilV nilV))) (n := 3) (by kernel_rfl)).1 w
attribute [local go_sem ↓ high] zeroCf
theorem guestsV.low {base base' : Nat} {w : World} {l : List Gs} {v : Value} (h : guestsV base w l v) (hb : base' ≤ base) : guestsV base' w l v := by
  obtain ⟨ys, h1, h2, h3, h4⟩ := h
  exact ⟨ys, h1, h2, h3.low hb, fun y hy => ⟨(h4 y hy).1.low hb, (h4 y hy).2⟩⟩
theorem Value.slice_one (A : Option Addr) (n c : Nat) : (Value.slice A n c).oneCell' = true := rfl
/-- A configuration was read. -/
def cfgV (base : Nat) (w : World) (x : Cf) (v : Value) : Prop := ∃ a c, v = .agg (vec 3 (cfE x.ver a c)) ∧ guestsV base w x.gs a ∧ OwnE 54 8 chE w base c x.chs
end Go.Proofs.Ytgnihceefpijiaa
