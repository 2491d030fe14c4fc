/- Arguments opened: words, cuts, deeds. -/
import Derived.Deep.Strs
import Derived.Lib.SmallJoins
import Derived.Test.YtpeebdhbcglibaaLaw
import Derived.Test.YtpeebdhbcglibaaNv
namespace Go.Proofs.Ytpeebdhbcglibaa
open Go.ChangeShapes Go.WideShapes Go.ChangeAt Go.RowKit Go.Deep
set_option maxRecDepth 100000 in
/-- A list of what there is at each place. -/
theorem list_of {α : Type} {Φ : Nat → α → Prop} : ∀ n, (∀ i, i < n → ∃ x, Φ i x) → ∃ l : List α, l.length = n ∧ ∀ j (h : j < l.length), Φ j l[j]
  | 0, _ => ⟨[], rfl, fun j h => by cases h⟩
  | n + 1, h => by
    obtain ⟨l, hl, hf⟩ := list_of n fun i hi => h i (by omega)
    obtain ⟨x, hx⟩ := h n (by omega)
    refine ⟨l ++ [x], by simp [hl], fun j hj => ?_⟩
    rw [List.getElem_append]
    split
    · rename_i h1; exact hf j h1
    · rename_i h1
      have : j = n := by simp at hj; omega
      subst this
      simp only [hl, Nat.sub_self, List.getElem_cons_zero]
      exact hx
set_option maxRecDepth 100000 in
theorem take1_at {L : List Value} {o : Nat} (h : o < L.length) : (L.drop o).take 1 = [L[o]] := by
  rw [List.drop_eq_getElem_cons h]; rfl
set_option maxRecDepth 100000 in
theorem u32s_of_wf : ∀ (zs : List Int), (∀ n ∈ zs, (Lit.int .u32 n).wf = true) → ∃ l : List W32, zs = l.map fun b => num b
  | [], _ => ⟨[], rfl⟩
  | z :: zs, h => by
    have hb := bounds_u32 (h z (by simp))
    obtain ⟨b, rfl⟩ := num_ex (z := z) hb.1 (by omega)
    obtain ⟨l, rfl⟩ := u32s_of_wf zs (fun n hn => h n (by simp [hn]))
    exact ⟨b :: l, rfl⟩
/-- A deed. -/
structure D3 where
  kind : Int
  i : Int
  x : W32
/-- A row of deeds. -/
def DRow3 (w : World) (B : Nat) (A : Option Addr) (l : List D3) : Prop :=
  l ≠ [] → ∃ a, A = some a ∧ a.block < B ∧ ∀ j (h : j < l.length), w.cell? (a.add (j * 3)) = some (.int .i64 l[j].kind) ∧ w.cell? (a.add (j * 3 + 1)) = some (.int .i64 l[j].i) ∧ w.cell? (a.add (j * 3 + 2)) = some (.int .u32 (num l[j].x))
set_option maxRecDepth 100000 in
theorem DRow3.nil (w : World) (B : Nat) (A : Option Addr) : DRow3 w B A [] := fun h => absurd rfl h
set_option maxRecDepth 100000 in
theorem DRow3.below {w w' : World} {B : Nat} {A : Option Addr} {l : List D3} (h : DRow3 w B A l) (hb : Below B w w') : DRow3 w' B A l := fun hn => by
  obtain ⟨a, e, h1, h2⟩ := h hn
  have hc : ∀ i, w'.cell? (a.add i) = w.cell? (a.add i) := fun i => hb.cell (by rw [addr_add_block]; exact h1)
  refine ⟨a, e, h1, fun j hj => ?_⟩
  rw [hc, hc, hc]
  exact h2 j hj
set_option maxRecDepth 100000 in
theorem DRow3.at {w : World} {B k : Nat} {A : Option Addr} {l : List D3} (h : DRow3 w B A l) (hk : k < l.length) : ∃ a p, A = some a ∧ a.add (k * 3) = p ∧ p.block < B ∧ w.cell? p = some (.int .i64 l[k].kind) ∧ w.cell? ⟨p.block, p.off + 1, none⟩ = some (.int .i64 l[k].i) ∧
    w.cell? ⟨p.block, p.off + 2, none⟩ = some (.int .u32 (num l[k].x)) := by
  obtain ⟨a, e, hb, hc⟩ := h (fun hn => by subst hn; cases hk)
  obtain ⟨h0, h1, h2⟩ := hc k hk
  rw [← addr_add_add] at h1 h2
  exact ⟨a, _, e, rfl, by rw [addr_add_block]; exact hb, h0, h1, h2⟩
section
variable {H : Type} {enc : TypeId × Value → H} {W : World} {r : Reach} {base : Nat}
set_option maxRecDepth 100000 in
theorem open_words {v : Value} {d : DataW H} {ps : List MemPlace} (hv : Value.okWide Try.prog W r base 22 v) (h : DataW.Trod enc Try.prog W 0 (fun _ => true) true 22 v d ps) :
    ∃ (A : Option Addr) (c : Nat) (l : List W32), v = .slice A l.length c ∧ (l.length ≤ c ∧ c ≤ maxLen) ∧ Lies W W.heap.size 1 A l.length (u32s l) := by
  have ht := Try.underlying22
  obtain ⟨a0, len, cap, rfl⟩ := okWide_slice ht hv
  obtain ⟨fuel, hf⟩ := h
  rcases open_ints ht Try.underlying30 (by kernel_rfl) hf with ⟨hcs, _⟩ | ⟨a, len', cap', zs, hcs, _, hle, hm, hz, _, hcell, hwz⟩
  · simp [Value.cells] at hcs
    obtain ⟨rfl, rfl, rfl⟩ := hcs
    exact ⟨none, 0, [], rfl, ⟨Nat.le_refl _, Nat.zero_le _⟩, Lies.nil _ _ _ _⟩
  · simp [Value.cells] at hcs
    obtain ⟨rfl, rfl, rfl⟩ := hcs
    have hz2 : len ≤ zs.length := by rw [hz]; split <;> omega
    obtain ⟨l, hl⟩ := u32s_of_wf (zs.take len) (fun n hn => hwz n (List.mem_of_mem_take hn))
    have hll : l.length = len := by
      have := congrArg List.length hl
      simp at this; omega
    refine ⟨some a, cap, l, by rw [hll], ⟨by omega, by omega⟩, by rw [u32s_length]; omega, fun hn => ⟨a, rfl, ?_, fun j hj => ?_⟩⟩
    · have h0 := hcell 0 (by omega)
      have e0 : a.add 0 = a := by simp [Addr.add]
      rw [e0] at h0
      exact World.block_lt_of_cell? W a h0
    · rw [u32s_length] at hj
      rw [hcell j (by omega)]
      have hj2 : (zs.take len)[j]? = (l.map fun b => num b)[j]? := by rw [hl]
      rw [List.getElem?_take, if_pos (by omega), List.getElem?_map, List.getElem?_eq_getElem hj] at hj2
      simp only [u32s, List.getElem_map]
      rw [List.getD_eq_getElem?_getD, hj2]
      rfl
set_option maxRecDepth 100000 in
theorem open_cuts {v : Value} {d : DataW H} {ps : List MemPlace} (hv : Value.okWide Try.prog W r base 27 v) (h : DataW.Trod enc Try.prog W 0 (fun _ => true) true 27 v d ps) :
    ∃ (A : Option Addr) (c : Nat) (l : List Ct), v = .slice A l.length c ∧ (l.length ≤ c ∧ c ≤ maxLen) ∧ Lies W W.heap.size 2 A l.length (cellsC l) ∧ ∀ x ∈ l, CtOk x := by
  have ht := Try.underlying27
  have hE := Try.underlying53
  have hC : Try.prog.cellsOf 53 = 2 := by kernel_rfl
  have hI : Try.prog.cellsOf 3 = 1 := by kernel_rfl
  have hU : Try.prog.cellsOf 30 = 1 := by kernel_rfl
  obtain ⟨a0, len, cap, rfl⟩ := okWide_slice ht hv
  obtain ⟨fuel, hf⟩ := h
  rcases open_slice ht hf with ⟨hcs, _⟩ | ⟨a, len', cap', m, n, D, Pl, hcs, _, hle, hm, hmm, _, hi⟩
  · simp [Value.cells] at hcs
    obtain ⟨rfl, rfl, rfl⟩ := hcs
    exact ⟨none, 0, [], rfl, ⟨Nat.le_refl _, Nat.zero_le _⟩, Lies.nil _ _ _ _, fun x hx => by cases hx⟩
  · simp [Value.cells] at hcs
    obtain ⟨rfl, rfl, rfl⟩ := hcs
    have hlm : len ≤ m := by rw [hmm]; split <;> omega
    have key : ∀ i, i < len → ∃ x : Ct, CtOk x ∧ W.cell? (a.add (i * 2)) = some (.int .i64 x.after) ∧ W.cell? (a.add (i * 2 + 1)) = some (.int .u32 (num x.mask)) := by
      intro i hil
      obtain ⟨cs, hc, ht'⟩ := hi i (by omega)
      rw [hC] at hc
      obtain ⟨_, hcl, hat⟩ := World.cells?_some hc
      obtain ⟨y0, y1, n', -, -, h0, h1⟩ := trod_struct2 hE ht'
      simp only [hI, hU] at h0 h1
      rw [take1_at (by omega)] at h0 h1
      obtain ⟨z0, e0, _, w0⟩ := DataW.trod_int Try.underlying3 h0
      obtain ⟨z1, e1, _, w1⟩ := DataW.trod_int Try.underlying30 h1
      have b0 := bounds_i64 w0
      have b1 := bounds_u32 w1
      obtain ⟨x1, rfl⟩ := num_ex (z := z1) b1.1 (by omega)
      match cs, hcl with
      | [c0, c1], _ =>
        simp at e0 e1
        refine ⟨⟨z0, x1⟩, b0, ?_, ?_⟩
        · have := hat 0 (by simp)
          rw [show a.add (i * 2) = (a.add (i * 2)).add 0 from by simp [Addr.add], this, ← e0]; rfl
        · have := hat 1 (by simp)
          rw [← Go.Deep.add_add, this, ← e1]; rfl
    obtain ⟨l, hl, hc⟩ := list_of len key
    subst hl
    refine ⟨some a, cap, l, rfl, ⟨by omega, by omega⟩, ⟨cellsC_length l, fun hn => ⟨a, rfl, ?_, fun j hj => ?_⟩⟩, fun x hx => ?_⟩
    · have := (hc 0 (by omega)).2.1
      have e0 : a.add (0 * 2) = a := by simp [Addr.add]
      rw [e0] at this
      exact World.block_lt_of_cell? W a this
    · rw [cellsC_length] at hj
      obtain ⟨h1, h2⟩ := cellsC_at l (j / 2) (by omega)
      obtain ⟨_, h3, h4⟩ := hc (j / 2) (by omega)
      have hjj : j < (cellsC l).length := by rw [cellsC_length]; exact hj
      rcases Nat.mod_two_eq_zero_or_one j with h | h
      · have e : j / 2 * 2 = j := by omega
        rw [e] at h1 h3
        rw [h3, ← h1, List.getElem?_eq_getElem hjj]
      · have e : j / 2 * 2 + 1 = j := by omega
        rw [e] at h2 h4
        rw [h4, ← h2, List.getElem?_eq_getElem hjj]
    · obtain ⟨j, hj, rfl⟩ := List.mem_iff_getElem.1 hx
      exact (hc j hj).1
end
end Go.Proofs.Ytpeebdhbcglibaa
