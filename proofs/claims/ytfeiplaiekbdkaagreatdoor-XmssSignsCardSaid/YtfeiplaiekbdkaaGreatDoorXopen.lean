/- Arguments opened: a key, a signature. -/
import Derived.Test.YtfeiplaiekbdkaaGreatDoorWx
import Derived.Test.YtfeiplaiekbdkaaGreatDoorOpenR
namespace Go.Proofs.YtfeiplaiekbdkaaGreatDoor
open Go.ChangeShapes Go.WideShapes Go.ChangeAt Go.RowKit Go.Deep
section
variable {H : Type} {enc : TypeId × Value → H} {W : World} {r : Reach} {base : Nat} {sp : Nat → Bool} {held : Bool} {fuel : Nat}
set_option maxRecDepth 100000 in
theorem node_cells_of {L : List Value} {x : DataW H × List MemPlace} (hl : L.length = 32) (h : DataW.trod enc Tryz.prog W base sp held fuel 30 L = some x) : ∃ f : Nd, ∀ j, j < 32 → L[j]? = some (bys f j) := by
  have he := Tryz.underlying30
  have hq := Tryz.underlying5
  have hc1 : Tryz.prog.cellsOf 5 = 1 := by kernel_rfl
  obtain ⟨ds, q, hx⟩ := trod_arr_form he h
  rw [hx] at h
  have hel : ∀ j, j < 32 → ∃ z, L[j]? = some (.int .u8 z) ∧ (Lit.int .u8 z).wf = true := by
    intro j hj
    obtain ⟨fuel', d', q', _, h2⟩ := Lib.array_elem he h j hj
    rw [hc1, Nat.mul_one] at h2
    have hlt : j < L.length := by omega
    have e1 : (L.drop j).take 1 = [L[j]] := by
      rw [List.drop_eq_getElem_cons hlt]; rfl
    rw [e1] at h2
    obtain ⟨z, e2, _, hw⟩ := DataW.trod_int hq h2
    simp at e2
    exact ⟨z, by rw [List.getElem?_eq_getElem hlt, e2], hw⟩
  refine ⟨fun j => UInt8.ofNat (match L[j]? with | some (.int _ z) => z.toNat | _ => 0), fun j hj => ?_⟩
  obtain ⟨z, hz, hw⟩ := hel j hj
  have hb := bounds_u8 hw
  rw [hz]
  simp only [bys, hz]
  have e : ((UInt8.ofNat z.toNat).toNat : Int) = z := by rw [UInt8.toNat_ofNat']; omega
  rw [e]
set_option maxRecDepth 100000 in
theorem nodes_cell_of {v : Value} {x : DataW H × List MemPlace} (hs : ∀ b, sp b = true) (h : DataW.trod enc Tryz.prog W 0 sp held fuel 31 [v] = some x) :
    ∃ (A : Option Addr) (c : Nat) (l : List Nd), v = .slice A l.length c ∧ l.length ≤ maxLen ∧ NRow W W.heap.size A l := by
  have _ := hs
  have ht := Tryz.underlying31
  have hC : Tryz.prog.cellsOf 30 = 32 := by kernel_rfl
  rcases open_slice ht h with ⟨hcs, _⟩ | ⟨a, len, cap, m, n, D, Pl, hcs, _, hle, hm, hmm, _, hi⟩
  · injection hcs with hcs
    exact ⟨none, 0, [], hcs, Nat.zero_le _, NRow.nil _ _ _⟩
  · injection hcs with hcs
    have hlm : len ≤ m := by rw [hmm]; split <;> omega
    have key : ∀ i, i < len → ∃ f : Nd, ∀ j, j < 32 → W.cell? (a.add (i * 32 + j)) = some (bys f j) := by
      intro i hil
      obtain ⟨cs, hc, ht'⟩ := hi i (by omega)
      rw [hC] at hc
      obtain ⟨_, hcl, hat⟩ := World.cells?_some hc
      obtain ⟨f, hf⟩ := node_cells_of (by omega) ht'
      refine ⟨f, fun j hj => ?_⟩
      have := hat j (by omega)
      rw [← addr_add2, this]
      exact hf j hj
    have all : ∀ k, k ≤ len → ∃ l : List Nd, l.length = k ∧ ∀ j (h : j < l.length) i, i < 32 → W.cell? (a.add (j * 32 + i)) = some (bys l[j] i) := by
      intro k
      induction k with
      | zero => exact fun _ => ⟨[], rfl, fun j h => by cases h⟩
      | succ k ih =>
        intro hk
        obtain ⟨l, hl, hc⟩ := ih (by omega)
        obtain ⟨f, hfc⟩ := key k (by omega)
        refine ⟨l ++ [f], by simp [hl], fun j hj i hi => ?_⟩
        rw [List.getElem_append]
        split
        · rename_i h; exact hc j h i hi
        · rename_i h
          have : j = k := by simp at hj; omega
          subst this
          simp only [hl, Nat.sub_self, List.getElem_cons_zero]
          exact hfc i hi
    obtain ⟨l, hl, hc⟩ := all len (Nat.le_refl _)
    subst hl
    refine ⟨some a, cap, l, hcs, by omega, fun hn => ⟨a, rfl, ?_, hc⟩⟩
    have hpos : 0 < l.length := List.length_pos_iff.2 hn
    have := hc 0 hpos 0 (by decide)
    have e0 : a.add (0 * 32 + 0) = a := by simp [Addr.add]
    rw [e0] at this
    exact World.block_lt_of_cell? W a this
theorem list_take1 {L : List Value} {o : Nat} (h : o < L.length) : (L.drop o).take 1 = [L[o]] := by
  rw [List.drop_eq_getElem_cons h]; rfl
theorem list_take32 {L : List Value} {o j : Nat} (hj : j < 32) : ((L.drop o).take 32)[j]? = L[o + j]? := by
  rw [List.getElem?_take, if_pos hj, List.getElem?_drop]
set_option maxRecDepth 100000 in
theorem open_key {v : Value} {d : DataW H} {ps : List MemPlace} (hv : Value.okWide Tryz.prog W r base 33 v) (h : DataW.Trod enc Tryz.prog W 0 (fun _ => true) true 33 v d ps) :
    ∃ (oid : Nat) (root seed : Nd), v = .agg (vec 65 (keyF (oid : Int) root seed)) ∧ oid < 4294967296 := by
  have hs := Tryz.underlying33
  obtain ⟨cs, rfl, hsz⟩ := okWide_struct hs hv
  have hC : Tryz.prog.cellsOf 33 = 65 := by kernel_rfl
  have hN : Tryz.prog.cellsOf 30 = 32 := by kernel_rfl
  have hU : Tryz.prog.cellsOf 28 = 1 := by kernel_rfl
  rw [hC] at hsz
  obtain ⟨fuel, hf⟩ := h
  have hcs : (Value.agg cs).cells.toList = cs.toList := rfl
  rw [hcs] at hf
  obtain ⟨y0, y1, y2, n, -, -, h0, h1, h2⟩ := trod_struct3 hs hf
  have hL : cs.toList.length = 65 := by simpa using hsz
  simp only [hN, hU] at h0 h1 h2
  rw [list_take1 (by omega)] at h0
  obtain ⟨z, e2, _, hw⟩ := DataW.trod_int Tryz.underlying28 h0
  have hb := bounds_u32 hw
  obtain ⟨f, hff⟩ := node_cells_of (by simp [hL]) h1
  obtain ⟨g, hgg⟩ := node_cells_of (by simp [hL]) h2
  refine ⟨z.toNat, f, g, congrArg Value.agg ?_, by omega⟩
  apply Array.ext_getElem?
  intro i
  by_cases hi : i < 65
  · rw [vec_at _ _ i hi]
    have e : cs[i]? = cs.toList[i]? := by simp
    rw [e]
    by_cases h1 : i = 0
    · subst h1
      rw [List.getElem?_eq_getElem (by omega)]
      simp at e2
      simp only [Array.getElem_toList, e2, keyF]
      congr 2; omega
    · by_cases h3 : i < 33
      · obtain ⟨j, rfl⟩ : ∃ j, i = 1 + j := ⟨i - 1, by omega⟩
        rw [keyF_root _ _ _ j (by omega), ← hff j (by omega), list_take32 (by omega)]
      · obtain ⟨j, rfl⟩ : ∃ j, i = 33 + j := ⟨i - 33, by omega⟩
        rw [keyF_seed, ← hgg j (by omega), list_take32 (by omega)]
  · rw [Array.getElem?_eq_none (by omega), Array.getElem?_eq_none (by rw [vec_size]; omega)]
set_option maxRecDepth 100000 in
theorem open_sig {v : Value} {d : DataW H} {ps : List MemPlace} (hv : Value.okWide Tryz.prog W r base 46 v) (h : DataW.Trod enc Tryz.prog W 0 (fun _ => true) true 46 v d ps) :
    ∃ (idx : Nat) (f : Nd) (A1 : Option Addr) (c1 : Nat) (l1 : List Nd) (A2 : Option Addr) (c2 : Nat) (l2 : List Nd), v = .agg (vec 35 (sigF (idx : Int) f (.slice A1 l1.length c1) (.slice A2 l2.length c2))) ∧ idx < 4294967296 ∧
      l1.length ≤ maxLen ∧ NRow W W.heap.size A1 l1 ∧ l2.length ≤ maxLen ∧ NRow W W.heap.size A2 l2 := by
  have hs := Tryz.underlying46
  obtain ⟨cs, rfl, hsz⟩ := okWide_struct hs hv
  have hC : Tryz.prog.cellsOf 46 = 35 := by kernel_rfl
  have hN : Tryz.prog.cellsOf 30 = 32 := by kernel_rfl
  have hU : Tryz.prog.cellsOf 28 = 1 := by kernel_rfl
  have hS : Tryz.prog.cellsOf 31 = 1 := by kernel_rfl
  rw [hC] at hsz
  obtain ⟨fuel, hf⟩ := h
  have hcs : (Value.agg cs).cells.toList = cs.toList := rfl
  rw [hcs] at hf
  obtain ⟨y0, y1, y2, y3, n, -, -, h0, h1, h2, h3⟩ := Joins.trod_struct4 hs hf
  have hL : cs.toList.length = 35 := by simpa using hsz
  simp only [hN, hU, hS] at h0 h1 h2 h3
  rw [list_take1 (by omega)] at h0 h2 h3
  obtain ⟨z, e2, _, hw⟩ := DataW.trod_int Tryz.underlying28 h0
  have hb := bounds_u32 hw
  obtain ⟨f, hff⟩ := node_cells_of (by simp [hL]) h1
  obtain ⟨A1, c1, l1, e3, hl1, hr1⟩ := nodes_cell_of (fun _ => rfl) h2
  obtain ⟨A2, c2, l2, e4, hl2, hr2⟩ := nodes_cell_of (fun _ => rfl) h3
  refine ⟨z.toNat, f, A1, c1, l1, A2, c2, l2, congrArg Value.agg ?_, by omega, hl1, hr1, hl2, hr2⟩
  apply Array.ext_getElem?
  intro i
  by_cases hi : i < 35
  · rw [vec_at _ _ i hi]
    have e : cs[i]? = cs.toList[i]? := by simp
    rw [e]
    by_cases h1 : i = 0
    · subst h1
      rw [List.getElem?_eq_getElem (by omega)]
      simp at e2
      simp only [Array.getElem_toList, e2, sigF]
      congr 2; omega
    · by_cases h3 : i < 33
      · obtain ⟨j, rfl⟩ : ∃ j, i = 1 + j := ⟨i - 1, by omega⟩
        rw [sigF_r _ _ _ _ j (by omega), ← hff j (by omega), list_take32 (by omega)]
      · have : i = 33 ∨ i = 34 := by omega
        rcases this with rfl | rfl
        · rw [List.getElem?_eq_getElem (by omega), e3]; rfl
        · rw [List.getElem?_eq_getElem (by omega), e4]; rfl
  · rw [Array.getElem?_eq_none (by omega), Array.getElem?_eq_none (by rw [vec_size]; omega)]
end
set_option maxRecDepth 100000 in
theorem open_bytes_c8 {H : Type} {enc : TypeId × Value → H} {P : Program} {W : World} {t e : TypeId} {v : Value} {d : DataW H} {ps : List MemPlace} {r : Reach} {base : Nat}
    (ht : P.underlying t = some (.slice e)) (he : P.underlying e = some (.int .u8)) (hc : P.cellsOf e = 1) (hv : Value.okWide P W r base t v)
    (h : DataW.Trod enc P W 0 (fun _ => true) true t v d ps) : ∃ (A : Option Addr) (c : Nat) (l : List UInt8), v = .slice A l.length c ∧ l.length ≤ maxLen ∧ l.length ≤ c ∧ Lies W W.heap.size 1 A l.length (u8s l) := by
  have h2 := h
  obtain ⟨A, c, l, rfl, hl, hli⟩ := open_bytes ht he hc hv h
  refine ⟨A, c, l, rfl, hl, ?_, hli⟩
  obtain ⟨fuel, hf⟩ := h2
  rcases open_ints ht he hc hf with ⟨hcs, _⟩ | ⟨a, len', cap', zs, hcs, _, hle, _⟩
  · simp [Value.cells] at hcs
    obtain ⟨_, h1, _⟩ := hcs
    simp [h1]
  · simp [Value.cells] at hcs
    obtain ⟨_, h1, h2⟩ := hcs
    omega
end Go.Proofs.YtfeiplaiekbdkaaGreatDoor
