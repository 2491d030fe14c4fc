/- Arguments opened: headers, bytes. -/
import Derived.Deep.Strs
import Derived.Deep.Slices
import Derived.Lib.SmallJoins
import Derived.Lib.LaidU8
import Derived.ChangeArms
import Derived.Test.YtgoblolbkchggaaDoorMa
import Derived.Test.YtgoblolbkchggaaDoorHb
namespace Go.Proofs.YtgoblolbkchggaaDoor
open Go.ChangeShapes Go.WideShapes Go.ChangeAt Go.RowKit Go.Deep

theorem list_of {α : Type} {Φ : Nat → α → Prop} : ∀ n, (∀ i, i < n → ∃ x, Φ i x) → ∃ l : List α, l.length = n ∧ ∀ j (h : j < l.length), Φ j l[j]
  | 0, _ => ⟨[], rfl, fun j h => by cases h⟩
  | n + 1, h => by
    obtain ⟨l, hl, hf⟩ := list_of n fun i hi => h i (by omega)
    obtain ⟨x, hx⟩ := h n (by omega)
    refine ⟨l ++ [x], by simp [hl], fun j hj => ?_⟩
    rw [List.getElem_append]
    split
    · rename_i h1; exact hf j h1
    · rename_i h1
      have : j = n := by simp at hj; omega
      subst this
      simp only [hl, Nat.sub_self, List.getElem_cons_zero]
      exact hx
theorem take1_at {L : List Value} {o : Nat} (h : o < L.length) : (L.drop o).take 1 = [L[o]] := by
  rw [List.drop_eq_getElem_cons h]; rfl
section
variable {H : Type} {enc : TypeId × Value → H} {P : Program} {W : World} {r : Reach} {base : Nat} {sp : Nat → Bool} {held : Bool} {fuel : Nat}
theorem trod_arr_form {t e : TypeId} {n : Nat} {cs : List Value} {x : DataW H × List MemPlace} (ht : P.underlying t = some (.array n e))
    (h : DataW.trod enc P W base sp held fuel t cs = some x) : ∃ ds p, x = (.agg ds, p) := by
  cases fuel with
  | zero => simp [DataW.trod] at h
  | succ fuel =>
    simp only [DataW.trod, ht] at h
    split at h
    · obtain ⟨xs, hm, hx⟩ := Option.map_eq_some_iff.1 h
      exact ⟨_, _, hx.symm⟩
    · cases h
section
variable {t : TypeId} {L : List Value} {o : Nat} {y : DataW H × List MemPlace}
theorem cell_int {k : IntKind} (ht : P.underlying t = some (.int k)) (hc : P.cellsOf t = 1) (ho : o < L.length) (h : DataW.trod enc P W base sp held fuel t ((L.drop o).take (P.cellsOf t)) = some y) : ∃ z, L[o]? = some (.int k z) ∧ (Lit.int k z).wf = true := by
  rw [hc, take1_at ho] at h
  obtain ⟨z, e, _, hw⟩ := DataW.trod_int ht h
  simp at e
  exact ⟨z, by rw [List.getElem?_eq_getElem ho, e], hw⟩
theorem cell_str (ht : P.underlying t = some .string) (hc : P.cellsOf t = 1) (ho : o < L.length) (h : DataW.trod enc P W base sp held fuel t ((L.drop o).take (P.cellsOf t)) = some y) : ∃ s : By, L[o]? = some (.string (strOf s)) := by
  rw [hc, take1_at ho] at h
  obtain ⟨z, e, _⟩ := DataW.trod_string ht h
  simp at e
  refine ⟨z.data.toList, ?_⟩
  rw [List.getElem?_eq_getElem ho, e]
  rfl
end
end
section
variable {H : Type} {enc : TypeId × Value → H} {W : World} {r : Reach} {base : Nat} {sp : Nat → Bool} {held : Bool} {fuel : Nat} {L : List Value} {x : DataW H × List MemPlace}
theorem c1U32 : Tryd.prog.cellsOf 22 = 1 := by kernel_rfl
theorem c1S : Tryd.prog.cellsOf 9 = 1 := by kernel_rfl
theorem c1U8 : Tryd.prog.cellsOf 5 = 1 := by kernel_rfl
theorem c32N : Tryd.prog.cellsOf 24 = 32 := by kernel_rfl
theorem dig_cells (hl : L.length = 32) (h : DataW.trod enc Tryd.prog W 0 sp held fuel 24 L = some x) : ∃ k : By, k.length = 32 ∧ ∀ i, i < 32 → L[i]? = some (bys (kF k) i) := by
  obtain ⟨ds, p, hx⟩ := trod_arr_form Tryd.underlying24 h
  rw [hx] at h
  have hel : ∀ j, j < 32 → ∃ b : UInt8, L[j]? = some (.int .u8 (b.toNat : Int)) := by
    intro j hj
    obtain ⟨f1, d1, q1, _, g1⟩ := Lib.array_elem Tryd.underlying24 h j hj
    rw [c1U8, Nat.mul_one] at g1
    rw [take1_at (by omega)] at g1
    obtain ⟨z, e2, _, hw⟩ := DataW.trod_int Tryd.underlying5 g1
    simp at e2
    have hb := bounds_u8 hw
    refine ⟨UInt8.ofNat z.toNat, ?_⟩
    rw [List.getElem?_eq_getElem (by omega), e2]
    congr 2
    rw [UInt8.toNat_ofNat']; omega
  obtain ⟨k, hk, hc⟩ := list_of 32 hel
  refine ⟨k, hk, fun i hi => ?_⟩
  rw [hc i (by omega)]
  simp [bys, kF, List.getElem?_eq_getElem (show i < k.length by omega)]
theorem open_header {v : Value} {d : DataW H} {ps : List MemPlace} (hv : Value.okWide Tryd.prog W r base 26 v) (h : DataW.Trod enc Tryd.prog W 0 (fun _ => true) true 26 v d ps) :
    ∃ x : Hd, v = .agg (vec 35 (hdF x)) ∧ HdB x := by
  have hs := Tryd.underlying26
  obtain ⟨cs, rfl, hsz⟩ := okWide_struct hs hv
  have hC : Tryd.prog.cellsOf 26 = 35 := by kernel_rfl
  rw [hC] at hsz
  obtain ⟨fuel, hf⟩ := h
  have hcs : (Value.agg cs).cells.toList = cs.toList := rfl
  rw [hcs] at hf
  obtain ⟨y0, y1, y2, y3, n, -, -, h0, h1, h2, h3⟩ := Joins.trod_struct4 hs hf
  have hL : cs.toList.length = 35 := by simpa using hsz
  obtain ⟨z0, e0, w0⟩ := cell_int (o := 0) Tryd.underlying22 c1U32 (by omega) h0
  obtain ⟨z1, e1, w1⟩ := cell_int (o := 1) Tryd.underlying22 c1U32 (by omega) h1
  obtain ⟨s, e2⟩ := cell_str (o := 2) Tryd.underlying9 c1S (by omega) h2
  have h3' : DataW.trod enc Tryd.prog W 0 (fun _ => true) true n 24 ((cs.toList.drop 3).take (Tryd.prog.cellsOf 24)) = some y3 := h3
  rw [c32N] at h3'
  obtain ⟨k, hk, ek⟩ := dig_cells (by simp [hL]) h3'
  have b0 := bounds_u32 w0
  have b1 := bounds_u32 w1
  refine ⟨⟨z0, z1, s, k⟩, ?_, ⟨show 0 ≤ z0 ∧ z0 < 4294967296 by omega, show 0 ≤ z1 ∧ z1 < 4294967296 by omega, hk⟩⟩
  congr 1
  apply Array.ext_getElem?
  intro i
  rw [← Array.getElem?_toList]
  by_cases hi : i < 35
  · rw [vec_at 35 _ i hi]
    match i, hi with
    | 0, _ => exact e0
    | 1, _ => exact e1
    | 2, _ => exact e2
    | i + 3, hi =>
      have := ek i (by omega)
      rw [List.getElem?_take, if_pos (by omega), List.getElem?_drop, Nat.add_comm] at this
      exact this
  · rw [List.getElem?_eq_none (by omega), Array.getElem?_eq_none (by rw [vec_size]; omega)]
end
section
variable {H : Type} {enc : TypeId × Value → H} {W : World} {r : Reach} {base : Nat} {sp : Nat → Bool} {held : Bool} {fuel : Nat}
theorem bytes_cell {P : Program} {t e : TypeId} {v : Value} {x : DataW H × List MemPlace} (ht : P.underlying t = some (.slice e)) (he : P.underlying e = some (.int .u8)) (hc : P.cellsOf e = 1)
    (h : DataW.trod enc P W base sp held fuel t [v] = some x) : ∃ (A : Option Addr) (c : Nat) (l : List UInt8), v = .slice A l.length c ∧ l.length ≤ c ∧ c ≤ maxLen ∧ Lies W W.heap.size 1 A l.length (u8s l) := by
  rcases open_ints ht he hc h with ⟨hcs, _⟩ | ⟨a, len, cap, zs, hcs, _, hle, hm, hz, _, hcell, hwz⟩
  · injection hcs with hcs
    exact ⟨none, 0, [], hcs, Nat.zero_le _, Nat.zero_le _, Lies.nil _ _ _ _⟩
  · injection hcs with hcs
    have hz2 : len ≤ zs.length := by rw [hz]; split <;> omega
    obtain ⟨l, hl⟩ := u8s_of_wf (zs.take len) (fun n hn => hwz n (List.mem_of_mem_take hn))
    have hll : l.length = len := by
      have := congrArg List.length hl
      simp at this; omega
    refine ⟨some a, cap, l, by rw [hll]; exact hcs, by omega, hm, by rw [u8s_length]; omega, fun hn => ⟨a, rfl, ?_, fun j hj => ?_⟩⟩
    · have h0 := hcell 0 (by omega)
      have e0 : a.add 0 = a := by simp [Addr.add]
      rw [e0] at h0
      exact World.block_lt_of_cell? W a h0
    · rw [u8s_length] at hj
      rw [hcell j (by omega)]
      have hj2 : (zs.take len)[j]? = (l.map fun b => (b.toNat : Int))[j]? := by rw [hl]
      rw [List.getElem?_take, if_pos (by omega), List.getElem?_map, List.getElem?_eq_getElem hj] at hj2
      simp only [u8s, List.getElem_map]
      rw [List.getD_eq_getElem?_getD, hj2]
      rfl
theorem open_bytes_c8 {P : Program} {t e : TypeId} {v : Value} {d : DataW H} {ps : List MemPlace} (ht : P.underlying t = some (.slice e)) (he : P.underlying e = some (.int .u8)) (hc : P.cellsOf e = 1) (hv : Value.okWide P W r base t v)
    (h : DataW.Trod enc P W 0 (fun _ => true) true t v d ps) : ∃ (A : Option Addr) (c : Nat) (l : List UInt8), v = .slice A l.length c ∧ l.length ≤ maxLen ∧ l.length ≤ c ∧ Lies W W.heap.size 1 A l.length (u8s l) := by
  obtain ⟨a0, len, cap, rfl⟩ := okWide_slice ht hv
  obtain ⟨fuel, hf⟩ := h
  obtain ⟨A, c, l, h1, h2, h3, h4⟩ := bytes_cell (v := .slice a0 len cap) ht he hc hf
  exact ⟨A, c, l, h1, Nat.le_trans h2 h3, h2, h4⟩
end
end Go.Proofs.YtgoblolbkchggaaDoor
