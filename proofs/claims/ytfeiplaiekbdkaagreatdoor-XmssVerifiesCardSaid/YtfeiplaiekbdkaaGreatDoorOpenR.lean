/- Arguments opened: a row of nodes. -/
import Derived.Test.YtfeiplaiekbdkaaGreatDoorWx
import Derived.Test.YtfeiplaiekbdkaaGreatDoorOpenN
import Derived.Deep.Slices
namespace Go.Proofs.YtfeiplaiekbdkaaGreatDoor
open Go.ChangeShapes Go.WideShapes Go.ChangeAt Go.RowKit Go.Deep
section
variable {H : Type} {enc : TypeId × Value → H} {W : World} {r : Reach} {base : Nat}
set_option maxRecDepth 100000 in
theorem open_nodes {v : Value} {d : DataW H} {p : List MemPlace} (hv : Value.okWide Tryz.prog W r base 31 v) (h : DataW.Trod enc Tryz.prog W 0 (fun _ => true) true 31 v d p) :
    ∃ (A : Option Addr) (c : Nat) (l : List Nd), v = .slice A l.length c ∧ l.length ≤ maxLen ∧ NRow W W.heap.size A l := by
  have ht := Tryz.underlying31
  have he := Tryz.underlying30
  have hq := Tryz.underlying5
  have hC : Tryz.prog.cellsOf 30 = 32 := by kernel_rfl
  have hc1 : Tryz.prog.cellsOf 5 = 1 := by kernel_rfl
  obtain ⟨a0, len, cap, rfl⟩ := okWide_slice ht hv
  obtain ⟨fuel, hf⟩ := h
  rcases open_slice ht hf with ⟨hcs, _⟩ | ⟨a, len', cap', m, n, D, Pl, hcs, _, hle, hm, hmm, _, hi⟩
  · simp [Value.cells] at hcs
    obtain ⟨rfl, rfl, rfl⟩ := hcs
    exact ⟨none, 0, [], rfl, Nat.zero_le _, NRow.nil _ _ _⟩
  · simp [Value.cells] at hcs
    obtain ⟨rfl, rfl, rfl⟩ := hcs
    have hlm : len ≤ m := by rw [hmm]; split <;> omega
    have key : ∀ i, i < len → ∃ f : Nd, ∀ j, j < 32 → W.cell? (a.add (i * 32 + j)) = some (bys f j) := by
      intro i hil
      obtain ⟨cs, hc, ht'⟩ := hi i (by omega)
      rw [hC] at hc
      obtain ⟨_, hcl, hat⟩ := World.cells?_some hc
      obtain ⟨ds, q, hx⟩ := trod_arr_form he ht'
      rw [hx] at ht'
      have hel : ∀ j, j < 32 → ∃ z, cs[j]? = some (.int .u8 z) ∧ (Lit.int .u8 z).wf = true := by
        intro j hj
        obtain ⟨fuel', d', q', _, h2⟩ := Lib.array_elem he ht' j hj
        rw [hc1, Nat.mul_one] at h2
        have hlt : j < cs.length := by omega
        have e1 : (cs.drop j).take 1 = [cs[j]] := by
          rw [List.drop_eq_getElem_cons hlt]; rfl
        rw [e1] at h2
        obtain ⟨z, e2, _, hw⟩ := DataW.trod_int hq h2
        simp at e2
        exact ⟨z, by rw [List.getElem?_eq_getElem hlt, e2], hw⟩
      refine ⟨fun j => UInt8.ofNat (match cs[j]? with | some (.int _ z) => z.toNat | _ => 0), fun j hj => ?_⟩
      obtain ⟨z, hz, hw⟩ := hel j hj
      have hb := bounds_u8 hw
      have := hat j (by omega)
      rw [← addr_add2, this, hz]
      simp only [bys, hz]
      have e : ((UInt8.ofNat z.toNat).toNat : Int) = z := by rw [UInt8.toNat_ofNat']; omega
      rw [e]
    have all : ∀ k, k ≤ len → ∃ l : List Nd, l.length = k ∧ ∀ j (h : j < l.length) i, i < 32 → W.cell? (a.add (j * 32 + i)) = some (bys l[j] i) := by
      intro k
      induction k with
      | zero => exact fun _ => ⟨[], rfl, fun j h => by cases h⟩
      | succ k ih =>
        intro hk
        obtain ⟨l, hl, hc⟩ := ih (by omega)
        obtain ⟨f, hfc⟩ := key k (by omega)
        refine ⟨l ++ [f], by simp [hl], fun j hj i hi => ?_⟩
        rw [List.getElem_append]
        split
        · rename_i h; exact hc j h i hi
        · rename_i h
          have : j = k := by simp at hj; omega
          subst this
          simp only [hl, Nat.sub_self, List.getElem_cons_zero]
          exact hfc i hi
    obtain ⟨l, hl, hc⟩ := all len (Nat.le_refl _)
    subst hl
    refine ⟨some a, cap, l, rfl, by omega, fun hn => ⟨a, rfl, ?_, hc⟩⟩
    have hpos : 0 < l.length := List.length_pos_iff.2 hn
    have := hc 0 hpos 0 (by decide)
    have e0 : a.add (0 * 32 + 0) = a := by simp [Addr.add]
    rw [e0] at this
    exact World.block_lt_of_cell? W a this
end
end Go.Proofs.YtfeiplaiekbdkaaGreatDoor
