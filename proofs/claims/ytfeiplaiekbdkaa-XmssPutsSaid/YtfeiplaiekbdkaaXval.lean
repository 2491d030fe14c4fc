/- Keys and signatures by value. -/
import Derived.Test.YtfeiplaiekbdkaaXp
namespace Go.Proofs.Ytfeiplaiekbdkaa
open Go.RowKit

/-- A key's cells. -/
def keyF (oid : Int) (root seed : Nd) : Nat → Value
  | 0 => .int .u32 oid
  | i + 1 => if i < 32 then bys root i else bys seed (i - 32)
theorem keyF_one (oid : Int) (root seed : Nd) (n : Nat) : ∀ i, i < n → (keyF oid root seed i).oneCell' = true := by
  intro i _
  unfold keyF
  split
  · rfl
  · split <;> rfl
theorem keyF_root (oid : Int) (root seed : Nd) (i : Nat) (h : i < 32) : keyF oid root seed (1 + i) = bys root i := by
  rw [Nat.add_comm]; simp [keyF, h]
theorem keyF_seed (oid : Int) (root seed : Nd) (i : Nat) : keyF oid root seed (33 + i) = bys seed i := by
  rw [show 33 + i = (32 + i) + 1 by omega]
  show (if 32 + i < 32 then bys root (32 + i) else bys seed (32 + i - 32)) = _
  rw [if_neg (by omega), Nat.add_sub_cancel_left]
theorem infoKey : (Try.prog.info? 31).map (·.size) = some 65 := by kernel_rfl
theorem zeroKey (w : World) : (zeroValue 31).run Try.prog w = .ok (.agg (vec 65 (keyF 0 zb zb))) w :=
  (zero_of_info (P := Try.prog) (t := 31) (v := .agg (vec 65 (keyF 0 zb zb))) (n := 65) (by kernel_rfl)).1 w
/-- A signature's cells; v1, v2: its lists. -/
def sigF (idx : Int) (r : Nd) (v1 v2 : Value) : Nat → Value
  | 0 => .int .u32 idx
  | i + 1 => if i < 32 then bys r i else if i = 32 then v1 else v2
theorem sigF_r (idx : Int) (r : Nd) (v1 v2 : Value) (i : Nat) (h : i < 32) : sigF idx r v1 v2 (1 + i) = bys r i := by
  rw [Nat.add_comm]; simp [sigF, h]
theorem sigF_one (idx : Int) (r : Nd) (v1 v2 : Value) (h1 : v1.oneCell' = true) (h2 : v2.oneCell' = true) (n : Nat) : ∀ i, i < n → (sigF idx r v1 v2 i).oneCell' = true := by
  intro i _
  unfold sigF
  split
  · rfl
  · split
    · rfl
    · split <;> assumption
theorem sigF_33 (idx : Int) (r : Nd) (v1 v2 u : Value) : upd (sigF idx r v1 v2) 33 u = sigF idx r u v2 := by
  funext j
  by_cases e : j = 33
  · subst e; rw [upd_at]; rfl
  · rw [upd_ne _ _ _ _ e]
    cases j with
    | zero => rfl
    | succ j =>
      have h32 : j ≠ 32 := fun h => e (by omega)
      simp [sigF, h32]
theorem sigF_34 (idx : Int) (r : Nd) (v1 v2 u : Value) : ∀ j, j < 35 → upd (sigF idx r v1 v2) 34 u j = sigF idx r v1 u j := by
  intro j hj
  by_cases e : j = 34
  · subst e; rw [upd_at]; rfl
  · rw [upd_ne _ _ _ _ e]
    cases j with
    | zero => rfl
    | succ j =>
      by_cases h : j < 32
      · simp [sigF, h]
      · have h32 : j = 32 := by omega
        subst h32; rfl
theorem infoSig : (Try.prog.info? 44).map (·.size) = some 35 := by kernel_rfl
theorem zeroSig (w : World) : (zeroValue 44).run Try.prog w = .ok (.agg (vec 35 (sigF 0 zb (.slice none 0 0) (.slice none 0 0)))) w :=
  (zero_of_info (P := Try.prog) (t := 44) (v := .agg (vec 35 (sigF 0 zb (.slice none 0 0) (.slice none 0 0)))) (n := 35) (by kernel_rfl)).1 w
section
variable {w : World} {g : Nat}
set_option maxRecDepth 100000 in
theorem key_root {t : TypeId} {oid : Int} {root seed : Nd} (h : Arr w g t 65 (keyF oid root seed)) : (loadVar 29 ⟨g, 1, none⟩).run Try.prog w = .ok (.agg (vec 32 (bys root))) w :=
  run_load_spl (n := 32) (f := bys root) (fun i hi => (h.cell (i := 1 + i) (by omega)).trans (by rw [keyF_root _ _ _ i hi])) Try.underlying29 rfl info26
set_option maxRecDepth 100000 in
theorem key_seed {t : TypeId} {oid : Int} {root seed : Nd} (h : Arr w g t 65 (keyF oid root seed)) : (loadVar 29 ⟨g, 33, none⟩).run Try.prog w = .ok (.agg (vec 32 (bys seed))) w :=
  run_load_spl (n := 32) (f := bys seed) (fun i hi => (h.cell (i := 33 + i) (by omega)).trans (by rw [keyF_seed])) Try.underlying29 rfl info26
theorem key_oid {t : TypeId} {oid : Int} {root seed : Nd} (h : Arr w g t 65 (keyF oid root seed)) : w.cell? ⟨g, 0, none⟩ = some (.int .u32 oid) := h.cell (i := 0) (by decide)
set_option maxRecDepth 100000 in
theorem sig_r {t : TypeId} {n : Nat} {idx : Int} {r : Nd} {v1 v2 : Value} {f : Nat → Value} (h : Arr w g t n f) (hf : ∀ i, i < 35 → f i = sigF idx r v1 v2 i) (hn : 35 ≤ n) : (loadVar 29 ⟨g, 1, none⟩).run Try.prog w = .ok (.agg (vec 32 (bys r))) w :=
  run_load_spl (n := 32) (f := bys r) (fun i hi => (h.cell (i := 1 + i) (by omega)).trans (by rw [hf _ (by omega), sigF_r _ _ _ _ i hi])) Try.underlying29 rfl info26
end
end Go.Proofs.Ytfeiplaiekbdkaa
