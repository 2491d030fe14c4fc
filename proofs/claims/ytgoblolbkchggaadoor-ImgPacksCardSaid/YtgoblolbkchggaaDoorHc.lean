/- Slices built for a variadic call, parts joined, a string copied into an array. -/
import Derived.Test.YtgoblolbkchggaaDoorHs
import Derived.Test.YtgoblolbkchggaaDoorMo
import Derived.Lib.BufferWrite
namespace Go.Proofs.YtgoblolbkchggaaDoor
open Go.RowKit

set_option maxRecDepth 100000 in
theorem info_u32 : (Tryd.prog.info? 22).map (fun i => (i.zero, i.size, i.bytes)) = some (some (.int .u32 0), 1, 4) := by kernel_rfl
set_option maxRecDepth 100000 in
theorem info_pt : (Tryd.prog.info? 27).map (fun i => (i.zero, i.size, i.bytes)) = some (some (.slice none 0 0), 1, 24) := by kernel_rfl
set_option maxRecDepth 100000 in
theorem lies_on2 {w w1 : World} {A : Option Addr} {n : Nat} {xs : List Value} (h : Lies w w.heap.size 1 A n xs) (hb : Below w.heap.size w w1) : Lies w1 w1.heap.size 1 A n xs := (h.below hb).wide hb.size
set_option maxRecDepth 100000 in
theorem ow_of_run {o : Oper} {a : Act} {w : World} {K : Act → World → Prop} {Q : Exit → Act → World → Prop} {t : TypeId} {n : Nat} {parts : Array (Nat × Operand)} (ho : o.op = .buildSlice t n parts) {vs : Array (Nat × Value)} (hv : (parts.map fun (i, x) => (i, a.eval x)) = vs) {v : Value} {w' : World} (hr : (Instr.buildSlice t n vs).run Tryd.prog w = .ok v w') (h : K (a.put o.dst v) w') : o.wp Tryd.prog a w K Q := by
  unfold Oper.wp execOp
  subst hv
  simp only [ho, Sem.run_bind, hr, Result.andThen_ok, Sem.run_pure]
  exact h
set_option maxRecDepth 100000 in
theorem allc {α : Type} {P : α → Prop} {x : α} {xs : List α} (h : P x) (h2 : ∀ p ∈ xs, P p) : ∀ p ∈ x :: xs, P p := fun p hp => by
  rcases List.mem_cons.1 hp with rfl | hp
  · exact h
  · exact h2 p hp
set_option maxRecDepth 100000 in
theorem putAll_be (m : Nat) (ns : List Nat) : putAll 0 m ns = ns.flatMap (be m) := by
  unfold putAll
  rw [← List.flatMap_def]
  exact congrArg (fun f => ns.flatMap f) (funext fun n => numBytes_be m n)
set_option maxRecDepth 100000 in
theorem pb32 (b : By) (ns : List Nat) (hns : ∀ n ∈ ns, n < 4294967296) (A D : Option Addr) (c d : Nat) (w : World) (hb : Lies w w.heap.size 1 A b.length (u8s b)) (hl : Lies w w.heap.size 1 D ns.length (u32s ns)) (h1 : b.length ≤ 1000000) (h2 : ns.length ≤ 1000000) :
    Calls Tryd.prog 28 #[.slice A b.length c, .slice D ns.length d] w (Bytes w (b ++ ns.flatMap (be 4))) := by
  have := putBe32_any b ns hns A D c d w.heap.size w (Nat.le_refl _) hb hl (by omega)
  rw [putAll_be] at this
  exact this
set_option maxRecDepth 100000 in
theorem build_u32_4 (n0 n1 n2 n3 : Nat) (w : World) : (Instr.buildSlice 79 4 #[(0, .int .u32 (n0 : Int)), (1, .int .u32 (n1 : Int)), (2, .int .u32 (n2 : Int)), (3, .int .u32 (n3 : Int))]).run Tryd.prog w = .ok (.slice (some ⟨w.heap.size, 0, none⟩) 4 4) (w.alloc (.cells #[.int .u32 (n0 : Int), .int .u32 (n1 : Int), .int .u32 (n2 : Int), .int .u32 (n3 : Int)] 22)) := by
  obtain ⟨i0, hi, hz0, hz1, hz2⟩ := info_parts info_u32
  refine run_buildSlice (P := Tryd.prog) w 79 22 4 _ _ i0 (.int .u32 0) Tryd.underlying79 hi hz0 (by rw [hz1]; decide) (by rw [hz1]; decide) ?_
  rw [hz1]
  kernel_rfl
set_option maxRecDepth 100000 in
theorem ow_u32_4 {o : Oper} {a : Act} {w : World} {K : Act → World → Prop} {Q : Exit → Act → World → Prop} (x0 x1 x2 x3 : Operand) (ho : o.op = .buildSlice 79 4 #[(0, x0), (1, x1), (2, x2), (3, x3)]) (n0 n1 n2 n3 : Nat) (h0 : a.eval x0 = .int .u32 (n0 : Int)) (h1 : a.eval x1 = .int .u32 (n1 : Int)) (h2 : a.eval x2 = .int .u32 (n2 : Int)) (h3 : a.eval x3 = .int .u32 (n3 : Int))
    (h : ∀ y p, Lies y y.heap.size 1 (some p) 4 (u32s [n0, n1, n2, n3]) → Below w.heap.size w y → K (a.put o.dst (.slice (some p) 4 4)) y) : o.wp Tryd.prog a w K Q :=
  ow_of_run ho (by simp [h0, h1, h2, h3]) (build_u32_4 n0 n1 n2 n3 w) (h _ _ ((lies_new w #[.int .u32 (n0 : Int), .int .u32 (n1 : Int), .int .u32 (n2 : Int), .int .u32 (n3 : Int)] 22 4 _ rfl rfl).wide (by simp)) ((Below.refl _ _).alloc (Nat.le_refl _) _))
set_option maxRecDepth 100000 in
theorem build_pt_1 (n0 : Part) (w : World) : (Instr.buildSlice 69 1 #[(0, partV n0)]).run Tryd.prog w = .ok (.slice (some ⟨w.heap.size, 0, none⟩) 1 1) (w.alloc (.cells #[partV n0] 27)) := by
  obtain ⟨i0, hi, hz0, hz1, hz2⟩ := info_parts info_pt
  refine run_buildSlice (P := Tryd.prog) w 69 27 1 _ _ i0 (.slice none 0 0) Tryd.underlying69 hi hz0 (by rw [hz1]; decide) (by rw [hz1]; decide) ?_
  rw [hz1]
  kernel_rfl
set_option maxRecDepth 100000 in
theorem ow_pt_1 {o : Oper} {a : Act} {w : World} {K : Act → World → Prop} {Q : Exit → Act → World → Prop} (x0 : Operand) (ho : o.op = .buildSlice 69 1 #[(0, x0)]) (n0 : Part) (h0 : a.eval x0 = partV n0)
    (h : ∀ y p, Lies y y.heap.size 1 (some p) 1 (List.map partV [n0]) → Below w.heap.size w y → K (a.put o.dst (.slice (some p) 1 1)) y) : o.wp Tryd.prog a w K Q :=
  ow_of_run ho (by simp [h0]) (build_pt_1 n0 w) (h _ _ ((lies_new w #[partV n0] 27 1 _ rfl rfl).wide (by simp)) ((Below.refl _ _).alloc (Nat.le_refl _) _))
set_option maxRecDepth 100000 in
theorem build_pt_2 (n0 n1 : Part) (w : World) : (Instr.buildSlice 69 2 #[(0, partV n0), (1, partV n1)]).run Tryd.prog w = .ok (.slice (some ⟨w.heap.size, 0, none⟩) 2 2) (w.alloc (.cells #[partV n0, partV n1] 27)) := by
  obtain ⟨i0, hi, hz0, hz1, hz2⟩ := info_parts info_pt
  refine run_buildSlice (P := Tryd.prog) w 69 27 2 _ _ i0 (.slice none 0 0) Tryd.underlying69 hi hz0 (by rw [hz1]; decide) (by rw [hz1]; decide) ?_
  rw [hz1]
  kernel_rfl
set_option maxRecDepth 100000 in
theorem ow_pt_2 {o : Oper} {a : Act} {w : World} {K : Act → World → Prop} {Q : Exit → Act → World → Prop} (x0 x1 : Operand) (ho : o.op = .buildSlice 69 2 #[(0, x0), (1, x1)]) (n0 n1 : Part) (h0 : a.eval x0 = partV n0) (h1 : a.eval x1 = partV n1)
    (h : ∀ y p, Lies y y.heap.size 1 (some p) 2 (List.map partV [n0, n1]) → Below w.heap.size w y → K (a.put o.dst (.slice (some p) 2 2)) y) : o.wp Tryd.prog a w K Q :=
  ow_of_run ho (by simp [h0, h1]) (build_pt_2 n0 n1 w) (h _ _ ((lies_new w #[partV n0, partV n1] 27 2 _ rfl rfl).wide (by simp)) ((Below.refl _ _).alloc (Nat.le_refl _) _))
set_option maxRecDepth 100000 in
theorem build_pt_3 (n0 n1 n2 : Part) (w : World) : (Instr.buildSlice 69 3 #[(0, partV n0), (1, partV n1), (2, partV n2)]).run Tryd.prog w = .ok (.slice (some ⟨w.heap.size, 0, none⟩) 3 3) (w.alloc (.cells #[partV n0, partV n1, partV n2] 27)) := by
  obtain ⟨i0, hi, hz0, hz1, hz2⟩ := info_parts info_pt
  refine run_buildSlice (P := Tryd.prog) w 69 27 3 _ _ i0 (.slice none 0 0) Tryd.underlying69 hi hz0 (by rw [hz1]; decide) (by rw [hz1]; decide) ?_
  rw [hz1]
  kernel_rfl
set_option maxRecDepth 100000 in
theorem ow_pt_3 {o : Oper} {a : Act} {w : World} {K : Act → World → Prop} {Q : Exit → Act → World → Prop} (x0 x1 x2 : Operand) (ho : o.op = .buildSlice 69 3 #[(0, x0), (1, x1), (2, x2)]) (n0 n1 n2 : Part) (h0 : a.eval x0 = partV n0) (h1 : a.eval x1 = partV n1) (h2 : a.eval x2 = partV n2)
    (h : ∀ y p, Lies y y.heap.size 1 (some p) 3 (List.map partV [n0, n1, n2]) → Below w.heap.size w y → K (a.put o.dst (.slice (some p) 3 3)) y) : o.wp Tryd.prog a w K Q :=
  ow_of_run ho (by simp [h0, h1, h2]) (build_pt_3 n0 n1 n2 w) (h _ _ ((lies_new w #[partV n0, partV n1, partV n2] 27 3 _ rfl rfl).wide (by simp)) ((Below.refl _ _).alloc (Nat.le_refl _) _))
theorem lies_row {w : World} {g n : Nat} {cs : Array Value} {t : TypeId} {xs : List Value} (h : w.heap[g]? = some (.cells cs t (0, 0))) (hx : cs.toList = xs) (hn : xs.length = n) : Lies w w.heap.size 1 (some ⟨g, 0, none⟩) n xs := by
  refine ⟨by omega, fun _ => ⟨_, rfl, (Array.getElem?_eq_some_iff.1 h).1, fun j hj => ?_⟩⟩
  have e : ((⟨g, 0, none⟩ : Addr).add j) = ⟨g, j, none⟩ := by unfold Addr.add; by_cases h0 : j = 0 <;> simp [h0]
  rw [e, cell_of_row w g j _ t (0, 0) h, ← Array.getElem?_toList, hx, List.getElem?_eq_getElem hj]
/-- A string copied to the beginning of a block: no more of it than there is room for. -/
theorem run_copy_strM {P : Program} (w : World) (dT sT ty elem : TypeId) (g dLen dCap m : Nat) (s : ByteArray) (cur : Array Value) (t : TypeId)
    (hu : P.underlying dT = some (.slice elem)) (hs : (P.info? elem).map (·.size) = some 1) (hg : w.heap[g]? = some (.cells cur t (0, 0))) (hm : Nat.min s.size dLen = m) (hfit : m ≤ cur.size) :
    (Builtin.copy_ #[dT, sT] ty #[.slice (some ⟨g, 0, none⟩) dLen dCap, .string s]).run P w =
      .ok (goInt m) (w.setRow g (Lib.byteCells (s.data.toList.take m) ++ cur.toList.drop m).toArray) := by
  have hms : m ≤ s.size := by rw [← hm]; exact Nat.min_le_left _ _
  have hl : (Lib.byteCells (s.data.toList.take m)).length = m := by
    rw [Lib.byteCells_length, List.length_take, ← Lib.size_eq]
    exact Nat.min_eq_left hms
  have hst := run_storeCells_at P g 0 t (Lib.byteCells (s.data.toList.take m)) 0 cur w hg (by rw [hl]; simpa using hfit) (Lib.byteCells_one _)
  have hc : List.take m (List.map (fun b : UInt8 => Value.int IntKind.u8 (b.toNat : Int)) s.data.toList) = Lib.byteCells (s.data.toList.take m) := by rw [← List.map_take]; rfl
  rw [hl] at hst
  simp only [Nat.add_zero, List.take_zero, List.nil_append, Nat.zero_add] at hst
  cases hq : P.info? elem with
  | none => simp [hq] at hs
  | some i =>
    simp [Builtin.copy_, run_underlying hu, Builtin.lenOf, Builtin.firstCells, sizeOf, typeInfo, hq, hm]
    rw [hc, hst]
    simp [Result.andThen]
theorem ow_copy_strM {o : Oper} {a : Act} {w : World} {K : Act → World → Prop} {Q : Exit → Act → World → Prop} (d x : Operand) (dT sT elem : TypeId) (hop : o.op = Op.call { callee := Callee.builtin Builtin.copy, args := #[d, x], argTypes := #[dT, sT] })
    (hu : Tryd.prog.underlying dT = some (.slice elem)) (hs : (Tryd.prog.info? elem).map (·.size) = some 1) (g dLen dCap m : Nat) (s : ByteArray) (cur : Array Value) (t : TypeId) (hd : a.eval d = .slice (some ⟨g, 0, none⟩) dLen dCap) (hx : a.eval x = .string s)
    (hg : w.heap[g]? = some (.cells cur t (0, 0))) (hm : Nat.min s.size dLen = m) (hfit : m ≤ cur.size)
    (h : K (a.put o.dst (goInt m)) (w.setRow g (Lib.byteCells (s.data.toList.take m) ++ cur.toList.drop m).toArray)) : o.wp Tryd.prog a w K Q := by
  have hrun := run_copy_strM (P := Tryd.prog) w dT sT o.type elem g dLen dCap m s cur t hu hs hg hm hfit
  unfold Oper.wp
  simp [execOp, hop, resolve, invoke, builtin, hd, hx, hrun, Result.andThen]
  exact h
/-- A row of the call's own that isn't empty. -/
theorem own_cells {w : World} {base : Nat} {v : Value} {l : By} (n : Nat) (h : OwnB w base v l) (hl : l.length = n) (h0 : 0 < n) : ∃ p d, v = .slice (some p) n d ∧ n ≤ d ∧ base ≤ p.block ∧ p.block < w.heap.size ∧ ∀ i, i < n → w.cell? (p.add i) = some (bys (kF l) i) := by
  obtain ⟨A, c, e1, hc, hli⟩ := h.lies
  obtain ⟨_, _, _, _, _, hk⟩ := h.form
  subst hl
  obtain ⟨p, rfl, hp, hcc⟩ := lies_cells hli rfl (Nat.le_refl _) h0
  subst e1
  exact ⟨p, c, rfl, hc, (hk p.block rfl).1, hp, hcc⟩
/-- A name in sixteen bytes, cut off or filled up. -/
def nm16 (s : By) : By := nameE (s.take 16)
theorem nm16_len (s : By) : (nm16 s).length = 16 := by unfold nm16; exact nameE_len (by simp; omega)
theorem nm16_ok {s : By} (h : s.length ≤ 16) : nm16 s = nameE s := by unfold nm16; rw [List.take_of_length_le h]
/-- A header's bytes, whatever its name. -/
def layL (h : Hd) : By := layF 1112100167 h.ver.toNat h.size.toNat 0 ++ nm16 h.name ++ h.dig
theorem layL_len {h : Hd} (hd : h.dig.length = 32) : (layL h).length = 64 := by unfold layL; simp [layF_len, nm16_len, hd]
theorem layL_ok {h : Hd} (hn : nameOk h.name = true) : layL h = layH h := by unfold layL layH; rw [nm16_ok (nameOk_len hn)]
set_option maxRecDepth 100000 in
theorem name_cells (s : By) (m : Nat) (hm : Nat.min s.length 16 = m) : (Lib.byteCells ((strOf s).data.toList.take m) ++ (vec 16 (bys (kF (zs 16)))).toList.drop m) = u8s (nm16 s) := by
  have e2 : (vec 16 (bys (kF (zs 16)))).toList = List.replicate 16 (Value.int .u8 0) := by rfl
  have e1 : Lib.byteCells ((strOf s).data.toList.take m) = u8s (s.take 16) := by
    have : (strOf s).data.toList.take m = s.take 16 := by
      have h0 : (strOf s).data.toList = s := by simp [strOf]
      rw [h0]
      by_cases h : s.length ≤ 16
      · have h1 : m = s.length := by rw [← hm]; exact Nat.min_eq_left h
        rw [h1, List.take_length, List.take_of_length_le h]
      · have h1 : m = 16 := by rw [← hm]; exact Nat.min_eq_right (by omega)
        rw [h1]
    rw [this]; rfl
  have hl : (s.take 16).length = m := by rw [List.length_take, Nat.min_comm]; exact hm
  rw [e1, e2, List.drop_replicate]
  unfold nm16 nameE
  rw [hl]
  simp [u8s]
end Go.Proofs.YtgoblolbkchggaaDoor
