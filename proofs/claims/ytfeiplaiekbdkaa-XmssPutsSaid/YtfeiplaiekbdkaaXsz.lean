/- A signature with its height. -/
import Derived.Test.YtfeiplaiekbdkaaXnd
import Derived.Deep.Cut
namespace Go.Proofs.Ytfeiplaiekbdkaa
open Go.RowKit
attribute [local go_sem ↓ high] zeroV26 zeroSig

/-- The cells of a signature with its height. -/
def szF (idx : Int) (r : Nd) (v1 v2 : Value) (h : Int) : Nat → Value := fun i => if i < 35 then sigF idx r v1 v2 i else .int .i64 h
theorem szF_low (idx : Int) (r : Nd) (v1 v2 : Value) (h : Int) (i : Nat) (hi : i < 35) : szF idx r v1 v2 h i = sigF idx r v1 v2 i := if_pos hi
theorem szF_one (idx : Int) (r : Nd) (v1 v2 : Value) (h : Int) (h1 : v1.oneCell' = true) (h2 : v2.oneCell' = true) (n : Nat) : ∀ i, i < n → (szF idx r v1 v2 h i).oneCell' = true := by
  intro i hi
  unfold szF
  split
  · exact sigF_one idx r v1 v2 h1 h2 n i hi
  · rfl
theorem infoSz : (Try.prog.info? 67).map (·.size) = some 36 := by kernel_rfl
theorem zeroSz (w : World) : (zeroValue 67).run Try.prog w = .ok (.agg (vec 36 (szF 0 zb (.slice none 0 0) (.slice none 0 0) 0))) w :=
  (zero_of_info (P := Try.prog) (t := 67) (v := .agg (vec 36 (szF 0 zb (.slice none 0 0) (.slice none 0 0) 0))) (n := 36) (by kernel_rfl)).1 w
attribute [local go_sem ↓ high] zeroSz
/-- A slice of so many nodes. -/
abbrev slN (A : Option Addr) (n c : Nat) : Value := .slice A n c
set_option maxRecDepth 100000 in
theorem ownN_save {w w' : World} {base g : Nat} {v : Value} {l : List Nd} (h : OwnN w base v l) (hs : Save g w w') (hg : g < base) : OwnN w' base v l := by
  refine ⟨h.1, ?_⟩
  rcases h.2 with h2 | ⟨r, cap, cur, hv, hr, hh, rr⟩
  · exact Or.inl h2
  · exact Or.inr ⟨r, cap, cur, hv, hr, (hs.block r (Array.getElem?_eq_some_iff.1 hh).1 (by omega)).trans hh, rr⟩
theorem ownN_at {w : World} {base n c : Nat} {A : Option Addr} {l : List Nd} (h : OwnN w base (.slice A n c) l) : NRow w w.heap.size A l := by
  obtain ⟨B, d, e, -, r⟩ := h.row
  injection e with eA _ _
  rw [eA]; exact r
/-- The first 35 cells of a signature with its height are the signature. -/
theorem load_sig {w : World} {g : Nat} {t : TypeId} {idx : Int} {r : Nd} {v1 v2 : Value} {h : Int} (ha : Arr w g t 36 (szF idx r v1 v2 h)) : (loadVar 44 ⟨g, 0, none⟩).run Try.prog w = .ok (.agg (vec 35 (sigF idx r v1 v2))) w :=
  run_load_cells (n := 35) (f := sigF idx r v1 v2) (fun i hi => (ha.cell (by omega)).trans (by rw [szF_low _ _ _ _ _ _ hi])) Try.underlying44 rfl infoSig
end Go.Proofs.Ytfeiplaiekbdkaa
