/- Slices that a call is handed: of one number, of one or two nodes, of parts. -/
import Derived.Test.YtfeiplaiekbdkaaXlaid
namespace Go.Proofs.Ytfeiplaiekbdkaa
open Go.RowKit

theorem info_u32 : (Try.prog.info? 22).map (fun i => (i.zero, i.size, i.bytes)) = some (some (.int .u32 0), 1, 4) := by kernel_rfl
theorem info_row8 : (Try.prog.info? 27).map (fun i => (i.zero, i.size, i.bytes)) = some (some (.slice none 0 0), 1, 24) := by kernel_rfl
section
variable {o : Oper} {a : Act} {w : World} {K : Act → World → Prop} {Q : Exit → Act → World → Prop}
theorem ow_of_run {t : TypeId} {n : Nat} {parts : Array (Nat × Operand)} (ho : o.op = .buildSlice t n parts) {vs : Array (Nat × Value)} (hv : (parts.map fun (i, x) => (i, a.eval x)) = vs) {v : Value} {w' : World} (hr : (Instr.buildSlice t n vs).run Try.prog w = .ok v w') (h : K (a.put o.dst v) w') : o.wp Try.prog a w K Q := by
  unfold Oper.wp execOp
  subst hv
  simp only [ho, Sem.run_bind, hr, Result.andThen_ok, Sem.run_pure]
  exact h
set_option maxRecDepth 100000 in
theorem ow_u32 (x : Operand) (ho : o.op = .buildSlice 75 1 #[(0, x)]) (n : Nat) (hx : a.eval x = .int .u32 (n : Int))
    (h : ∀ y p, Lies y y.heap.size 1 (some p) 1 (u32s [n]) → Below w.heap.size w y → K (a.put o.dst (.slice (some p) 1 1)) y) : o.wp Try.prog a w K Q := by
  obtain ⟨i0, hi, hz0, hz1, hz2⟩ := info_parts info_u32
  have hr : (Instr.buildSlice 75 1 #[(0, .int .u32 (n : Int))]).run Try.prog w = .ok (.slice (some ⟨w.heap.size, 0, none⟩) 1 1) (w.alloc (.cells #[.int .u32 (n : Int)] 22)) := by
    refine run_buildSlice (P := Try.prog) w 75 22 1 _ _ i0 (.int .u32 0) Try.underlying75 hi hz0 (by rw [hz1]; decide) (by rw [hz1]; decide) ?_
    rw [hz1]
    kernel_rfl
  exact ow_of_run ho (by simp [hx]) hr (h _ _ (lies_one w (.int .u32 (n : Int)) 22) ((Below.refl _ _).alloc (Nat.le_refl _) _))
theorem nrow_arr {y : World} {g : Nat} {t : TypeId} {f : Nd} (h : Arr y g t 32 (bys f)) : NRow y y.heap.size (some ⟨g, 0, none⟩) [f] := fun _ => by
  refine ⟨_, rfl, h.lt, fun j hj i hi => ?_⟩
  obtain rfl : j = 0 := by simpa using hj
  have hadd : (⟨g, 0, none⟩ : Addr).add (0 * 32 + i) = ⟨g, i, none⟩ := by unfold Addr.add; split <;> simp_all
  rw [hadd]
  exact h.cell hi
theorem ow_node1 (x : Operand) (ho : o.op = .buildSlice 42 1 #[(0, x)]) (f : Nd) (hx : a.eval x = .agg (vec 32 (bys f)))
    (h : ∀ y p, NRow y y.heap.size (some p) [f] → Below w.heap.size w y → K (a.put o.dst (.slice (some p) 1 1)) y) : o.wp Try.prog a w K Q :=
  ow_build1 x ho f hx (h _ _ (nrow_arr (Arr.new w _ _ _)) ((Below.refl _ _).alloc (Nat.le_refl _) _))
def twoF (f g : Nd) : Nat → Value := fun i => if i < 32 then bys f i else bys g (i - 32)
set_option maxRecDepth 100000 in
theorem ow_node2 (x x' : Operand) (ho : o.op = .buildSlice 42 2 #[(0, x), (1, x')]) (f g : Nd) (hx : a.eval x = .agg (vec 32 (bys f))) (hx' : a.eval x' = .agg (vec 32 (bys g)))
    (h : ∀ y p, NRow y y.heap.size (some p) [f, g] → Below w.heap.size w y → K (a.put o.dst (.slice (some p) 2 2)) y) : o.wp Try.prog a w K Q := by
  obtain ⟨i0, hi, hz0, hz1, hz2⟩ := info_parts infoN
  have hr : (Instr.buildSlice 42 2 #[(0, .agg (vec 32 (bys f))), (1, .agg (vec 32 (bys g)))]).run Try.prog w = .ok (.slice (some ⟨w.heap.size, 0, none⟩) 2 2) (w.alloc (.cells (vec 64 (twoF f g)) 29)) := by
    refine run_buildSlice (P := Try.prog) w 42 29 2 _ _ i0 (.agg (vec 32 (bys zb))) Try.underlying42 hi hz0 (by rw [hz1]; decide) (by rw [hz1]; decide) ?_
    rw [hz1]
    kernel_rfl
  have hA : Arr (w.alloc (.cells (vec 64 (twoF f g)) 29)) w.heap.size 29 64 (twoF f g) := Arr.new w _ _ _
  refine ow_of_run ho (by simp [hx, hx']) hr (h _ _ (fun _ => ⟨_, rfl, hA.lt, fun j hj i hi => ?_⟩) ((Below.refl _ _).alloc (Nat.le_refl _) _))
  have hadd : ∀ k, (⟨w.heap.size, 0, none⟩ : Addr).add k = ⟨w.heap.size, k, none⟩ := fun k => by unfold Addr.add; split <;> simp_all
  rw [hadd]
  have hj2 : j = 0 ∨ j = 1 := by simp at hj; omega
  rcases hj2 with rfl | rfl
  · rw [hA.cell (by omega)]
    simp [twoF, hi]
  · rw [hA.cell (by omega)]
    show some (if 1 * 32 + i < 32 then bys f (1 * 32 + i) else bys g (1 * 32 + i - 32)) = _
    rw [if_neg (by omega), show 1 * 32 + i - 32 = i by omega]
    rfl
set_option maxRecDepth 100000 in
theorem ow_part2 (x x' : Operand) (ho : o.op = .buildSlice 74 2 #[(0, x), (1, x')]) (p q : Part) (hx : a.eval x = partV p) (hx' : a.eval x' = partV q)
    (h : ∀ y A, Lies y y.heap.size 1 (some A) 2 ([p, q].map partV) → Below w.heap.size w y → K (a.put o.dst (.slice (some A) 2 2)) y) : o.wp Try.prog a w K Q := by
  obtain ⟨i0, hi, hz0, hz1, hz2⟩ := info_parts info_row8
  have hr : (Instr.buildSlice 74 2 #[(0, partV p), (1, partV q)]).run Try.prog w = .ok (.slice (some ⟨w.heap.size, 0, none⟩) 2 2) (w.alloc (.cells #[partV p, partV q] 27)) := by
    refine run_buildSlice (P := Try.prog) w 74 27 2 _ _ i0 (.slice none 0 0) Try.underlying74 hi hz0 (by rw [hz1]; decide) (by rw [hz1]; decide) ?_
    rw [hz1]
    kernel_rfl
  exact ow_of_run ho (by simp [hx, hx']) hr (h _ _ ((lies_new w #[partV p, partV q] 27 2 _ rfl rfl).wide (by simp)) ((Below.refl _ _).alloc (Nat.le_refl _) _))
set_option maxRecDepth 100000 in
theorem ow_part4 (x1 x2 x3 x4 : Operand) (ho : o.op = .buildSlice 74 4 #[(0, x1), (1, x2), (2, x3), (3, x4)]) (p1 p2 p3 p4 : Part) (h1 : a.eval x1 = partV p1) (h2 : a.eval x2 = partV p2) (h3 : a.eval x3 = partV p3) (h4 : a.eval x4 = partV p4)
    (h : ∀ y A, Lies y y.heap.size 1 (some A) 4 ([p1, p2, p3, p4].map partV) → Below w.heap.size w y → K (a.put o.dst (.slice (some A) 4 4)) y) : o.wp Try.prog a w K Q := by
  obtain ⟨i0, hi, hz0, hz1, hz2⟩ := info_parts info_row8
  have hr : (Instr.buildSlice 74 4 #[(0, partV p1), (1, partV p2), (2, partV p3), (3, partV p4)]).run Try.prog w = .ok (.slice (some ⟨w.heap.size, 0, none⟩) 4 4) (w.alloc (.cells #[partV p1, partV p2, partV p3, partV p4] 27)) := by
    refine run_buildSlice (P := Try.prog) w 74 27 4 _ _ i0 (.slice none 0 0) Try.underlying74 hi hz0 (by rw [hz1]; decide) (by rw [hz1]; decide) ?_
    rw [hz1]
    kernel_rfl
  exact ow_of_run ho (by simp [h1, h2, h3, h4]) hr (h _ _ ((lies_new w #[partV p1, partV p2, partV p3, partV p4] 27 4 _ rfl rfl).wide (by simp)) ((Below.refl _ _).alloc (Nat.le_refl _) _))
end
/-- PutBe32 of one number, behind nothing. -/
theorem put_one (n : Nat) (hn : n < 4294967296) (D : Option Addr) (d : Nat) (y : World) (h : Lies y y.heap.size 1 D 1 (u32s [n])) :
    Calls Try.prog 25 #[.slice none 0 0, .slice D 1 d] y (Bytes y (numBytes 0 4 n)) := by
  have := putBe32_any [] [n] (by simpa using hn) none D 0 d y.heap.size y (Nat.le_refl _) (Lies.nil _ _ _ _) h (by simp)
  rw [show ([] : List UInt8) ++ putAll 0 4 [n] = numBytes 0 4 n by simp [putAll]] at this
  exact this
theorem laid_n (n : Nat) (A : Option Addr) (c : Nat) (ls : List Nd) (hl : n = ls.length) (hn : n ≤ 1000) (w : World) (hr : NRow w w.heap.size A ls) : Calls Try.prog 26 #[.slice A n c] w (Bytes w (nodesL ls)) := by
  subst hl
  exact laid_any A c ls hn w hr
theorem cat_n (n : Nat) (A : Option Addr) (c : Nat) (ps : List Part) (L : List UInt8) (hL : catAll ps = L) (hl : n = ps.length) (hn : n ≤ 1000) (hs : L.length ≤ 1000000) (w : World) (h : Lies w w.heap.size 1 A n (ps.map partV))
    (hp : ∀ p ∈ ps, Lies w w.heap.size 1 p.1 p.2.2.length (u8s p.2.2)) : Calls Try.prog 24 #[.slice A n c] w (Bytes w L) := by
  subst hl hL
  exact cat_any ps A c w.heap.size w (Nat.le_refl _) h hp (by omega) (by unfold maxLen; omega)
/-- A row that was made, as a part. -/
theorem row_part {w : World} {base : Nat} {v : Value} {L : List UInt8} (h : w.ownsRow base 5 1 v L.length (u8s L)) : ∃ A c, v = partV (A, c, L) ∧ L.length ≤ c ∧ Lies w w.heap.size 1 A L.length (u8s L) := by
  obtain ⟨A, c, e, hc, _, hl⟩ := owns_cap h
  exact ⟨A, c, e, hc, hl⟩
end Go.Proofs.Ytfeiplaiekbdkaa
