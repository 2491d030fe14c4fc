/- What guests and channels are made of, as cells; zeros and sizes; reading one behind the other. -/
import Derived.Test.YtmcpmcicolpoeaaDoorKy
namespace Go.Proofs.YtmcpmcicolpoeaaDoor
open Go.RowKit

def winE (x : Wi) : Nat → Value
  | 0 => .int .u64 x.ipa
  | 1 => .int .u64 x.pa
  | 2 => .int .u64 x.size
  | _ => .int .i64 x.perm
def devE (x : De) : Nat → Value
  | 0 => .int .u64 x.ipa
  | 1 => .int .u64 x.pa
  | _ => .int .u64 x.size
def irqE (x : Ir) : Nat → Value
  | 0 => .int .i64 x.number
  | 1 => .int .i64 x.cpu
  | _ => .bool x.edge
def endE (x : En) : Nat → Value
  | 0 => .int .i64 x.guest
  | 1 => .int .i64 x.perm
  | _ => .int .u64 x.ipa
def chE (x : Ch) : Nat → Value
  | 0 => .int .u64 x.pa
  | 1 => .int .u64 x.size
  | i + 2 => if i < 3 then endE x.a i else endE x.b (i - 3)
def twoE (a b : En) : Nat → Value := fun i => if i < 3 then endE a i else endE b (i - 3)
def numE (x : Int) : Nat → Value := fun _ => .int .u32 x
theorem winE_one (x : Wi) (n : Nat) : ∀ i, i < n → (winE x i).oneCell' = true := by
  intro i _; match i with | 0 => rfl | 1 => rfl | 2 => rfl | _ + 3 => rfl
theorem devE_one (x : De) (n : Nat) : ∀ i, i < n → (devE x i).oneCell' = true := by
  intro i _; match i with | 0 => rfl | 1 => rfl | _ + 2 => rfl
theorem irqE_one (x : Ir) (n : Nat) : ∀ i, i < n → (irqE x i).oneCell' = true := by
  intro i _; match i with | 0 => rfl | 1 => rfl | _ + 2 => rfl
theorem endE_one (x : En) (n : Nat) : ∀ i, i < n → (endE x i).oneCell' = true := by
  intro i _; match i with | 0 => rfl | 1 => rfl | _ + 2 => rfl
theorem chE_one (x : Ch) (n : Nat) : ∀ i, i < n → (chE x i).oneCell' = true := by
  intro i _
  match i with
  | 0 => rfl
  | 1 => rfl
  | i + 2 =>
    show (if i < 3 then endE x.a i else endE x.b (i - 3)).oneCell' = true
    split
    · exact endE_one x.a (i + 1) i (Nat.lt_succ_self _)
    · exact endE_one x.b (i - 3 + 1) (i - 3) (Nat.lt_succ_self _)
theorem numE_one (x : Int) (n : Nat) : ∀ i, i < n → (numE x i).oneCell' = true := fun _ _ => rfl
def zWi : Wi := ⟨0, 0, 0, 0⟩
def zDe : De := ⟨0, 0, 0⟩
def zIr : Ir := ⟨0, 0, false⟩
def zEn : En := ⟨0, 0, 0⟩
def zCh : Ch := ⟨0, 0, zEn, zEn⟩
theorem infoWi : (Tryd.prog.info? 108).map (·.size) = some 4 := by kernel_rfl
theorem infoDe : (Tryd.prog.info? 110).map (·.size) = some 3 := by kernel_rfl
theorem infoIr : (Tryd.prog.info? 112).map (·.size) = some 3 := by kernel_rfl
theorem infoEn : (Tryd.prog.info? 68).map (·.size) = some 3 := by kernel_rfl
theorem infoCh : (Tryd.prog.info? 71).map (·.size) = some 8 := by kernel_rfl
theorem zeroWi (w : World) : (zeroValue 108).run Tryd.prog w = .ok (.agg (vec 4 (winE zWi))) w :=
  (zero_of_info (P := Tryd.prog) (t := 108) (v := .agg (vec 4 (winE zWi))) (n := 4) (by kernel_rfl)).1 w
theorem zeroDe (w : World) : (zeroValue 110).run Tryd.prog w = .ok (.agg (vec 3 (devE zDe))) w :=
  (zero_of_info (P := Tryd.prog) (t := 110) (v := .agg (vec 3 (devE zDe))) (n := 3) (by kernel_rfl)).1 w
theorem zeroIr (w : World) : (zeroValue 112).run Tryd.prog w = .ok (.agg (vec 3 (irqE zIr))) w :=
  (zero_of_info (P := Tryd.prog) (t := 112) (v := .agg (vec 3 (irqE zIr))) (n := 3) (by kernel_rfl)).1 w
theorem zeroEn (w : World) : (zeroValue 68).run Tryd.prog w = .ok (.agg (vec 3 (endE zEn))) w :=
  (zero_of_info (P := Tryd.prog) (t := 68) (v := .agg (vec 3 (endE zEn))) (n := 3) (by kernel_rfl)).1 w
theorem zeroCh (w : World) : (zeroValue 71).run Tryd.prog w = .ok (.agg (vec 8 (chE zCh))) w :=
  (zero_of_info (P := Tryd.prog) (t := 71) (v := .agg (vec 8 (chE zCh))) (n := 8) (by kernel_rfl)).1 w
def rowV {α : Type} (n : Nat) (enc : α → Nat → Value) (_ : World) (x : α) (v : Value) : Prop := v = .agg (vec n (enc x))
section
variable {α β : Type} {b : By} {p q r : Nat} {e : Nat × Nat}
theorem dep_no {c : Cod α} {d : α → Cod β} (h : c.get b p = .error e) : (c.dep d).get b p = .error e := by
  unfold Cod.dep; dsimp only; rw [h]
theorem dep_on {c : Cod α} {d : α → Cod β} {x : α} (h : c.get b p = .ok (x, q)) (h2 : (d x).get b q = .error e) : (c.dep d).get b p = .error e := by
  unfold Cod.dep; dsimp only; rw [h]; dsimp only; rw [h2]
theorem dep_ye {c : Cod α} {d : α → Cod β} {x : α} {y : β} (h : c.get b p = .ok (x, q)) (h2 : (d x).get b q = .ok (y, r)) : (c.dep d).get b p = .ok ((x, y), r) := by
  unfold Cod.dep; dsimp only; rw [h]; dsimp only; rw [h2]
theorem map_no {c : Cod α} {f : α → β} {g : β → α} (h : c.get b p = .error e) : (c.map f g).get b p = .error e := by
  unfold Cod.map; dsimp only; rw [h]
theorem map_ye {c : Cod α} {f : α → β} {g : β → α} {x : α} (h : c.get b p = .ok (x, q)) : (c.map f g).get b p = .ok (f x, q) := by
  unfold Cod.map; dsimp only; rw [h]
end
theorem fld_short (m lo hi e : Nat) (b : By) (q : Nat) (h : ¬ q + m ≤ b.length) : (fld m lo hi e).get b q = .error (141, q) := by rw [fld_get, if_neg h]
theorem fld_bad (m lo hi e : Nat) (b : By) (q n : Nat) (h : q + m ≤ b.length) (hn : n = numAt b q m) (h2 : ¬ (lo ≤ n ∧ n ≤ hi)) : (fld m lo hi e).get b q = .error (e, q) := by rw [fld_get, if_pos h, ← hn, if_neg h2]
theorem fld_good (m lo hi e : Nat) (b : By) (q n : Nat) (h : q + m ≤ b.length) (hn : n = numAt b q m) (h2 : lo ≤ n ∧ n ≤ hi) : (fld m lo hi e).get b q = .ok ((n : Int), q + m) := by rw [fld_get, if_pos h, ← hn, if_pos h2]
end Go.Proofs.YtmcpmcicolpoeaaDoor
