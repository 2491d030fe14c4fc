/- Arguments opened: a span, a board, bytes, chunks. -/
import Derived.Test.YtbemphfijkcbhaaWa
import Derived.Test.YtbemphfijkcbhaaFitR
namespace Go.Proofs.Ytbemphfijkcbhaa
open Go.ChangeShapes Go.WideShapes Go.ChangeAt Go.RowKit Go.Deep
/-- A list of what there is at each place. -/
theorem list_of {α : Type} {Φ : Nat → α → Prop} : ∀ n, (∀ i, i < n → ∃ x, Φ i x) → ∃ l : List α, l.length = n ∧ ∀ j (h : j < l.length), Φ j l[j]
  | 0, _ => ⟨[], rfl, fun j h => by cases h⟩
  | n + 1, h => by
    obtain ⟨l, hl, hf⟩ := list_of n fun i hi => h i (by omega)
    obtain ⟨x, hx⟩ := h n (by omega)
    refine ⟨l ++ [x], by simp [hl], fun j hj => ?_⟩
    rw [List.getElem_append]
    split
    · rename_i h1; exact hf j h1
    · rename_i h1
      have : j = n := by simp at hj; omega
      subst this
      simp only [hl, Nat.sub_self, List.getElem_cons_zero]
      exact hx
theorem take1_at {L : List Value} {o : Nat} (h : o < L.length) : (L.drop o).take 1 = [L[o]] := by
  rw [List.drop_eq_getElem_cons h]; rfl
section
variable {H : Type} {enc : TypeId × Value → H} {W : World} {r : Reach} {base : Nat} {sp : Nat → Bool} {held : Bool} {fuel : Nat}
theorem bytes_cell {P : Program} {t e : TypeId} {v : Value} {x : DataW H × List MemPlace} (ht : P.underlying t = some (.slice e)) (he : P.underlying e = some (.int .u8)) (hc : P.cellsOf e = 1)
    (h : DataW.trod enc P W base sp held fuel t [v] = some x) : ∃ (A : Option Addr) (c : Nat) (l : List UInt8), v = .slice A l.length c ∧ l.length ≤ c ∧ c ≤ maxLen ∧ Lies W W.heap.size 1 A l.length (u8s l) := by
  rcases open_ints ht he hc h with ⟨hcs, _⟩ | ⟨a, len, cap, zs, hcs, _, hle, hm, hz, _, hcell, hwz⟩
  · injection hcs with hcs
    exact ⟨none, 0, [], hcs, Nat.zero_le _, Nat.zero_le _, Lies.nil _ _ _ _⟩
  · injection hcs with hcs
    have hz2 : len ≤ zs.length := by rw [hz]; split <;> omega
    obtain ⟨l, hl⟩ := u8s_of_wf (zs.take len) (fun n hn => hwz n (List.mem_of_mem_take hn))
    have hll : l.length = len := by
      have := congrArg List.length hl
      simp at this; omega
    refine ⟨some a, cap, l, by rw [hll]; exact hcs, by omega, hm, by rw [u8s_length]; omega, fun hn => ⟨a, rfl, ?_, fun j hj => ?_⟩⟩
    · have h0 := hcell 0 (by omega)
      have e0 : a.add 0 = a := by simp [Addr.add]
      rw [e0] at h0
      exact World.block_lt_of_cell? W a h0
    · rw [u8s_length] at hj
      rw [hcell j (by omega)]
      have hj2 : (zs.take len)[j]? = (l.map fun b => (b.toNat : Int))[j]? := by rw [hl]
      rw [List.getElem?_take, if_pos (by omega), List.getElem?_map, List.getElem?_eq_getElem hj] at hj2
      simp only [u8s, List.getElem_map]
      rw [List.getD_eq_getElem?_getD, hj2]
      rfl
theorem open_bytes_c8 {P : Program} {t e : TypeId} {v : Value} {d : DataW H} {ps : List MemPlace} (ht : P.underlying t = some (.slice e)) (he : P.underlying e = some (.int .u8)) (hc : P.cellsOf e = 1) (hv : Value.okWide P W r base t v)
    (h : DataW.Trod enc P W 0 (fun _ => true) true t v d ps) : ∃ (A : Option Addr) (c : Nat) (l : List UInt8), v = .slice A l.length c ∧ l.length ≤ maxLen ∧ l.length ≤ c ∧ Lies W W.heap.size 1 A l.length (u8s l) := by
  obtain ⟨a0, len, cap, rfl⟩ := okWide_slice ht hv
  obtain ⟨fuel, hf⟩ := h
  obtain ⟨A, c, l, h1, h2, h3, h4⟩ := bytes_cell (v := .slice a0 len cap) ht he hc hf
  exact ⟨A, c, l, h1, Nat.le_trans h2 h3, h2, h4⟩
set_option maxRecDepth 100000 in
/-- Two cells: a span. -/
theorem span_cells {L : List Value} {x : DataW H × List MemPlace} (hl : L.length = 2) (h : DataW.trod enc Try.prog W base sp held fuel 24 L = some x) : ∃ a b : Nat, L = [.int .u64 (a : Int), .int .u64 (b : Int)] ∧ fit (a, b) := by
  obtain ⟨y0, y1, n, -, -, h0, h1⟩ := trod_struct2 Try.underlying24 h
  have hc1 : Try.prog.cellsOf 22 = 1 := by kernel_rfl
  simp only [hc1] at h0 h1
  rw [take1_at (by omega)] at h0 h1
  obtain ⟨x, e0, _, w0⟩ := DataW.trod_int Try.underlying22 h0
  obtain ⟨y, e1, _, w1⟩ := DataW.trod_int Try.underlying22 h1
  have b0 := bounds_u64 w0
  have b1 := bounds_u64 w1
  obtain ⟨a, rfl⟩ := Int.eq_ofNat_of_zero_le b0.1
  obtain ⟨b, rfl⟩ := Int.eq_ofNat_of_zero_le b1.1
  match L, hl with
  | [c0, c1], _ =>
    simp at e0 e1
    exact ⟨a, b, by rw [e0, e1], by constructor <;> simp only <;> omega⟩
set_option maxRecDepth 100000 in
theorem open_board {v : Value} {d : DataW H} {ps : List MemPlace} (hv : Value.okWide Try.prog W r base 26 v) (h : DataW.Trod enc Try.prog W 0 (fun _ => true) true 26 v d ps) :
    ∃ (r1 r2 l1 l2 : Nat) (i s c : Int), v = .agg (boxBd r1 r2 l1 l2 i s c) ∧ fit (r1, r2) ∧ fit (l1, l2) ∧ (-9223372036854775808 ≤ i ∧ i ≤ 9223372036854775807) ∧ (-9223372036854775808 ≤ s ∧ s ≤ 9223372036854775807) ∧ (-9223372036854775808 ≤ c ∧ c ≤ 9223372036854775807) := by
  have hs := Try.underlying26
  obtain ⟨cs, rfl, hsz⟩ := okWide_struct hs hv
  have hC : Try.prog.cellsOf 26 = 7 := by kernel_rfl
  have hS : Try.prog.cellsOf 24 = 2 := by kernel_rfl
  have hI : Try.prog.cellsOf 3 = 1 := by kernel_rfl
  rw [hC] at hsz
  obtain ⟨fuel, hf⟩ := h
  have hcs : (Value.agg cs).cells.toList = cs.toList := rfl
  rw [hcs] at hf
  obtain ⟨xs, n, -, -, -, hlen, hg⟩ := DataW.trod_struct hs hf
  match xs, hlen with
  | [y0, y1, y2, y3, y4], _ =>
    have h0 : DataW.trod enc Try.prog W 0 (fun _ => true) true n 24 ((cs.toList.drop 0).take (Try.prog.cellsOf 24)) = some y0 := hg 0 _ rfl
    have h1 : DataW.trod enc Try.prog W 0 (fun _ => true) true n 24 ((cs.toList.drop 2).take (Try.prog.cellsOf 24)) = some y1 := hg 1 _ rfl
    have h2 : DataW.trod enc Try.prog W 0 (fun _ => true) true n 3 ((cs.toList.drop 4).take (Try.prog.cellsOf 3)) = some y2 := hg 2 _ rfl
    have h3 : DataW.trod enc Try.prog W 0 (fun _ => true) true n 3 ((cs.toList.drop 5).take (Try.prog.cellsOf 3)) = some y3 := hg 3 _ rfl
    have h4 : DataW.trod enc Try.prog W 0 (fun _ => true) true n 3 ((cs.toList.drop 6).take (Try.prog.cellsOf 3)) = some y4 := hg 4 _ rfl
    simp only [hS, hI] at h0 h1 h2 h3 h4
    have hL : cs.toList.length = 7 := by simpa using hsz
    rw [take1_at (by omega)] at h2 h3 h4
    obtain ⟨r1, r2, e0, hr⟩ := span_cells (by simp [hsz]) h0
    obtain ⟨l1, l2, e1, hl⟩ := span_cells (by simp [hsz]) h1
    obtain ⟨i, e2, _, w2⟩ := DataW.trod_int Try.underlying3 h2
    obtain ⟨s, e3, _, w3⟩ := DataW.trod_int Try.underlying3 h3
    obtain ⟨c, e4, _, w4⟩ := DataW.trod_int Try.underlying3 h4
    have b2 := bounds_i64 w2
    have b3 := bounds_i64 w3
    have b4 := bounds_i64 w4
    obtain ⟨L⟩ := cs
    match L, hsz with
    | [c0, c1, c2, c3, c4, c5, c6], _ =>
      simp at e0 e1 e2 e3 e4
      obtain ⟨rfl, rfl⟩ := e0
      obtain ⟨rfl, rfl⟩ := e1
      subst e2 e3 e4
      exact ⟨r1, r2, l1, l2, i, s, c, rfl, hr, hl, by omega, by omega, by omega⟩
set_option maxRecDepth 100000 in
theorem open_chunks {v : Value} {d : DataW H} {ps : List MemPlace} (hv : Value.okWide Try.prog W r base 32 v) (h : DataW.Trod enc Try.prog W 0 (fun _ => true) true 32 v d ps) :
    ∃ (A : Option Addr) (c : Nat) (l : List Ck), v = .slice A l.length c ∧ (l.length ≤ c ∧ c ≤ maxLen) ∧ CRow W W.heap.size A l := by
  have ht := Try.underlying32
  have hE := Try.underlying83
  have hC : Try.prog.cellsOf 83 = 2 := by kernel_rfl
  have hU : Try.prog.cellsOf 22 = 1 := by kernel_rfl
  have hB : Try.prog.cellsOf 41 = 1 := by kernel_rfl
  obtain ⟨a0, len, cap, rfl⟩ := okWide_slice ht hv
  obtain ⟨fuel, hf⟩ := h
  rcases open_slice ht hf with ⟨hcs, _⟩ | ⟨a, len', cap', m, n, D, Pl, hcs, _, hle, hm, hmm, _, hi⟩
  · simp [Value.cells] at hcs
    obtain ⟨rfl, rfl, rfl⟩ := hcs
    exact ⟨none, 0, [], rfl, ⟨Nat.le_refl _, Nat.zero_le _⟩, CRow.nil _ _ _⟩
  · simp [Value.cells] at hcs
    obtain ⟨rfl, rfl, rfl⟩ := hcs
    have hlm : len ≤ m := by rw [hmm]; split <;> omega
    have key : ∀ i, i < len → ∃ x : Ck, CkAt W W.heap.size x ∧ W.cell? (a.add (i * 2)) = some (.int .u64 (x.at_ : Int)) ∧ W.cell? (a.add (i * 2 + 1)) = some (.slice x.A x.l.length x.c) := by
      intro i hil
      obtain ⟨cs, hc, ht'⟩ := hi i (by omega)
      rw [hC] at hc
      obtain ⟨_, hcl, hat⟩ := World.cells?_some hc
      obtain ⟨y0, y1, n', -, -, h0, h1⟩ := trod_struct2 hE ht'
      simp only [hU, hB] at h0 h1
      rw [take1_at (by omega)] at h0 h1
      obtain ⟨z, e0, _, w0⟩ := DataW.trod_int Try.underlying22 h0
      obtain ⟨A, c, l, e1, hl1, hl2, hl3⟩ := bytes_cell Try.underlying41 Try.underlying5 (by kernel_rfl) h1
      have b0 := bounds_u64 w0
      obtain ⟨z, rfl⟩ := Int.eq_ofNat_of_zero_le b0.1
      match cs, hcl with
      | [c0, c1], _ =>
        simp at e0 e1
        refine ⟨⟨z, A, c, l⟩, ⟨by simp only; omega, hl3, hl1, hl2⟩, ?_, ?_⟩
        · have := hat 0 (by simp)
          rw [show a.add (i * 2) = (a.add (i * 2)).add 0 from by simp [Addr.add], this, ← e0]; rfl
        · have := hat 1 (by simp)
          rw [← Go.Deep.add_add, this, ← e1]; rfl
    obtain ⟨l, hl, hc⟩ := list_of len key
    subst hl
    refine ⟨some a, cap, l, rfl, ⟨by omega, by omega⟩, fun hn => ⟨a, rfl, ?_, fun j hj => (hc j hj).2⟩, fun x hx => ?_⟩
    · have hpos : 0 < l.length := List.length_pos_iff.2 hn
      have := (hc 0 hpos).2.1
      have e0 : a.add (0 * 2) = a := by simp [Addr.add]
      rw [e0] at this
      exact World.block_lt_of_cell? W a this
    · obtain ⟨j, hj, rfl⟩ := List.mem_iff_getElem.1 hx
      exact (hc j hj).1
end
end Go.Proofs.Ytbemphfijkcbhaa
