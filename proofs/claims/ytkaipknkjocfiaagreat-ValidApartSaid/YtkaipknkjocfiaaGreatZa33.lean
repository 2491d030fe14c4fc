import Derived.Test.YtkaipknkjocfiaaGreatZa32
namespace Go.Proofs.YtkaipknkjocfiaaGreat
open Go.RowKit
set_option maxRecDepth 100000 in
theorem info_i64 : (Tryz.prog.info? 3).map (fun i => (i.zero, i.size, i.bytes)) = some (some (.int .i64 0), 1, 8) := by kernel_rfl
theorem info_u64 : (Tryz.prog.info? 22).map (fun i => (i.zero, i.size, i.bytes)) = some (some (.int .u64 0), 1, 8) := by kernel_rfl
set_option maxRecDepth 100000 in
theorem info_u32 : (Tryz.prog.info? 27).map (fun i => (i.zero, i.size, i.bytes)) = some (some (.int .u32 0), 1, 4) := by kernel_rfl
theorem info_pt : (Tryz.prog.info? 78).map (fun i => (i.zero, i.size, i.bytes)) = some (some (.slice none 0 0), 1, 24) := by kernel_rfl
set_option maxRecDepth 100000 in
theorem lies_on2 {w w1 : World} {A : Option Addr} {n : Nat} {xs : List Value} (h : Lies w w.heap.size 1 A n xs) (hb : Below w.heap.size w w1) : Lies w1 w1.heap.size 1 A n xs := (h.below hb).wide hb.size
theorem ow_of_run {o : Oper} {a : Act} {w : World} {K : Act → World → Prop} {Q : Exit → Act → World → Prop} {t : TypeId} {n : Nat} {parts : Array (Nat × Operand)} (ho : o.op = .buildSlice t n parts) {vs : Array (Nat × Value)} (hv : (parts.map fun (i, x) => (i, a.eval x)) = vs) {v : Value} {w' : World} (hr : (Instr.buildSlice t n vs).run Tryz.prog w = .ok v w') (h : K (a.put o.dst v) w') : o.wp Tryz.prog a w K Q := by
 unfold Oper.wp execOp
 subst hv
 simp only [ho, Sem.run_bind, hr, Result.andThen_ok, Sem.run_pure]
 exact h
set_option maxRecDepth 100000 in
theorem allc {α : Type} {P : α → Prop} {x : α} {xs : List α} (h : P x) (h2 : ∀ p ∈ xs, P p) : ∀ p ∈ x :: xs, P p := fun p hp => by
 rcases List.mem_cons.1 hp with rfl | hp
 · exact h
 · exact h2 p hp
set_option maxRecDepth 100000 in
theorem putAll_be (m : Nat) (ns : List Nat) : putAll 0 m ns = ns.flatMap (be m) := by
 unfold putAll
 rw [← List.flatMap_def]
 exact congrArg (fun f => ns.flatMap f) (funext fun n => numBytes_be m n)
set_option maxRecDepth 100000 in
theorem pb64 (b : By) (ns : List Nat) (hns : ∀ n ∈ ns, n < 18446744073709551616) (A D : Option Addr) (c d : Nat) (w : World) (hb : Lies w w.heap.size 1 A b.length (u8s b)) (hl : Lies w w.heap.size 1 D ns.length (u64s ns)) (h1 : b.length ≤ 1000000) (h2 : ns.length ≤ 1000000) :
  Calls Tryz.prog 151 #[.slice A b.length c, .slice D ns.length d] w (Bytes w (b ++ ns.flatMap (be 8))) := by
 have := putBe64_any b ns hns A D c d w.heap.size w (Nat.le_refl _) hb hl (by omega)
 rw [putAll_be] at this
 exact this
set_option maxRecDepth 100000 in
theorem pb32 (b : By) (ns : List Nat) (hns : ∀ n ∈ ns, n < 4294967296) (A D : Option Addr) (c d : Nat) (w : World) (hb : Lies w w.heap.size 1 A b.length (u8s b)) (hl : Lies w w.heap.size 1 D ns.length (u32s ns)) (h1 : b.length ≤ 1000000) (h2 : ns.length ≤ 1000000) :
  Calls Tryz.prog 113 #[.slice A b.length c, .slice D ns.length d] w (Bytes w (b ++ ns.flatMap (be 4))) := by
 have := putBe32_any b ns hns A D c d w.heap.size w (Nat.le_refl _) hb hl (by omega)
 rw [putAll_be] at this
 exact this
set_option maxRecDepth 100000 in
theorem flagC_any (b : Bool) (w : World) : Calls Tryz.prog 150 #[.bool b] w fun e w' => e = .returned (.int .u32 (flagN b : Int)) ∧ w = w' := by
 cases b
 · go_enter Tryz.func150, Tryz.ntmps150
   go_wp2
   go_ret
   exact ⟨rfl, rfl⟩
 · go_enter Tryz.func150, Tryz.ntmps150
   go_wp2
   go_ret
   exact ⟨rfl, rfl⟩
set_option maxRecDepth 100000 in
theorem flagN_lt (b : Bool) : flagN b < 4294967296 := by cases b <;> decide
theorem build_u64_1 (n0 : Nat) (w : World) : (Instr.buildSlice 222 1 #[(0, .int .u64 (n0 : Int))]).run Tryz.prog w = .ok (.slice (some ⟨w.heap.size, 0, none⟩) 1 1) (w.alloc (.cells #[.int .u64 (n0 : Int)] 22)) := by
 obtain ⟨i0, hi, hz0, hz1, hz2⟩ := info_parts info_u64
 refine run_buildSlice (P := Tryz.prog) w 222 22 1 _ _ i0 (.int .u64 0) Tryz.underlying222 hi hz0 (by rw [hz1]; decide) (by rw [hz1]; decide) ?_
 rw [hz1]
 kernel_rfl
set_option maxRecDepth 100000 in
theorem ow_u64_1 {o : Oper} {a : Act} {w : World} {K : Act → World → Prop} {Q : Exit → Act → World → Prop} (x0 : Operand) (ho : o.op = .buildSlice 222 1 #[(0, x0)]) (n0 : Nat) (h0 : a.eval x0 = .int .u64 (n0 : Int))
  (h : ∀ y p, Lies y y.heap.size 1 (some p) 1 (u64s [n0]) → Below w.heap.size w y → K (a.put o.dst (.slice (some p) 1 1)) y) : o.wp Tryz.prog a w K Q :=
 ow_of_run ho (by simp [h0]) (build_u64_1 n0 w) (h _ _ ((lies_new w #[.int .u64 (n0 : Int)] 22 1 _ rfl rfl).wide (by simp)) ((Below.refl _ _).alloc (Nat.le_refl _) _))
set_option maxRecDepth 100000 in
theorem build_u64_2 (n0 n1 : Nat) (w : World) : (Instr.buildSlice 222 2 #[(0, .int .u64 (n0 : Int)), (1, .int .u64 (n1 : Int))]).run Tryz.prog w = .ok (.slice (some ⟨w.heap.size, 0, none⟩) 2 2) (w.alloc (.cells #[.int .u64 (n0 : Int), .int .u64 (n1 : Int)] 22)) := by
 obtain ⟨i0, hi, hz0, hz1, hz2⟩ := info_parts info_u64
 refine run_buildSlice (P := Tryz.prog) w 222 22 2 _ _ i0 (.int .u64 0) Tryz.underlying222 hi hz0 (by rw [hz1]; decide) (by rw [hz1]; decide) ?_
 rw [hz1]
 kernel_rfl
set_option maxRecDepth 100000 in
theorem ow_u64_2 {o : Oper} {a : Act} {w : World} {K : Act → World → Prop} {Q : Exit → Act → World → Prop} (x0 x1 : Operand) (ho : o.op = .buildSlice 222 2 #[(0, x0), (1, x1)]) (n0 n1 : Nat) (h0 : a.eval x0 = .int .u64 (n0 : Int)) (h1 : a.eval x1 = .int .u64 (n1 : Int))
  (h : ∀ y p, Lies y y.heap.size 1 (some p) 2 (u64s [n0, n1]) → Below w.heap.size w y → K (a.put o.dst (.slice (some p) 2 2)) y) : o.wp Tryz.prog a w K Q :=
 ow_of_run ho (by simp [h0, h1]) (build_u64_2 n0 n1 w) (h _ _ ((lies_new w #[.int .u64 (n0 : Int), .int .u64 (n1 : Int)] 22 2 _ rfl rfl).wide (by simp)) ((Below.refl _ _).alloc (Nat.le_refl _) _))
set_option maxRecDepth 100000 in
theorem build_u64_3 (n0 n1 n2 : Nat) (w : World) : (Instr.buildSlice 222 3 #[(0, .int .u64 (n0 : Int)), (1, .int .u64 (n1 : Int)), (2, .int .u64 (n2 : Int))]).run Tryz.prog w = .ok (.slice (some ⟨w.heap.size, 0, none⟩) 3 3) (w.alloc (.cells #[.int .u64 (n0 : Int), .int .u64 (n1 : Int), .int .u64 (n2 : Int)] 22)) := by
 obtain ⟨i0, hi, hz0, hz1, hz2⟩ := info_parts info_u64
 refine run_buildSlice (P := Tryz.prog) w 222 22 3 _ _ i0 (.int .u64 0) Tryz.underlying222 hi hz0 (by rw [hz1]; decide) (by rw [hz1]; decide) ?_
 rw [hz1]
 kernel_rfl
set_option maxRecDepth 100000 in
theorem ow_u64_3 {o : Oper} {a : Act} {w : World} {K : Act → World → Prop} {Q : Exit → Act → World → Prop} (x0 x1 x2 : Operand) (ho : o.op = .buildSlice 222 3 #[(0, x0), (1, x1), (2, x2)]) (n0 n1 n2 : Nat) (h0 : a.eval x0 = .int .u64 (n0 : Int)) (h1 : a.eval x1 = .int .u64 (n1 : Int)) (h2 : a.eval x2 = .int .u64 (n2 : Int))
  (h : ∀ y p, Lies y y.heap.size 1 (some p) 3 (u64s [n0, n1, n2]) → Below w.heap.size w y → K (a.put o.dst (.slice (some p) 3 3)) y) : o.wp Tryz.prog a w K Q :=
 ow_of_run ho (by simp [h0, h1, h2]) (build_u64_3 n0 n1 n2 w) (h _ _ ((lies_new w #[.int .u64 (n0 : Int), .int .u64 (n1 : Int), .int .u64 (n2 : Int)] 22 3 _ rfl rfl).wide (by simp)) ((Below.refl _ _).alloc (Nat.le_refl _) _))
set_option maxRecDepth 100000 in
theorem build_u32_1 (n0 : Nat) (w : World) : (Instr.buildSlice 61 1 #[(0, .int .u32 (n0 : Int))]).run Tryz.prog w = .ok (.slice (some ⟨w.heap.size, 0, none⟩) 1 1) (w.alloc (.cells #[.int .u32 (n0 : Int)] 27)) := by
 obtain ⟨i0, hi, hz0, hz1, hz2⟩ := info_parts info_u32
 refine run_buildSlice (P := Tryz.prog) w 61 27 1 _ _ i0 (.int .u32 0) Tryz.underlying61 hi hz0 (by rw [hz1]; decide) (by rw [hz1]; decide) ?_
 rw [hz1]
 kernel_rfl
set_option maxRecDepth 100000 in
theorem ow_u32_1 {o : Oper} {a : Act} {w : World} {K : Act → World → Prop} {Q : Exit → Act → World → Prop} (x0 : Operand) (ho : o.op = .buildSlice 61 1 #[(0, x0)]) (n0 : Nat) (h0 : a.eval x0 = .int .u32 (n0 : Int))
  (h : ∀ y p, Lies y y.heap.size 1 (some p) 1 (u32s [n0]) → Below w.heap.size w y → K (a.put o.dst (.slice (some p) 1 1)) y) : o.wp Tryz.prog a w K Q :=
 ow_of_run ho (by simp [h0]) (build_u32_1 n0 w) (h _ _ ((lies_new w #[.int .u32 (n0 : Int)] 27 1 _ rfl rfl).wide (by simp)) ((Below.refl _ _).alloc (Nat.le_refl _) _))
set_option maxRecDepth 100000 in
theorem build_u32_4 (n0 n1 n2 n3 : Nat) (w : World) : (Instr.buildSlice 61 4 #[(0, .int .u32 (n0 : Int)), (1, .int .u32 (n1 : Int)), (2, .int .u32 (n2 : Int)), (3, .int .u32 (n3 : Int))]).run Tryz.prog w = .ok (.slice (some ⟨w.heap.size, 0, none⟩) 4 4) (w.alloc (.cells #[.int .u32 (n0 : Int), .int .u32 (n1 : Int), .int .u32 (n2 : Int), .int .u32 (n3 : Int)] 27)) := by
 obtain ⟨i0, hi, hz0, hz1, hz2⟩ := info_parts info_u32
 refine run_buildSlice (P := Tryz.prog) w 61 27 4 _ _ i0 (.int .u32 0) Tryz.underlying61 hi hz0 (by rw [hz1]; decide) (by rw [hz1]; decide) ?_
 rw [hz1]
 kernel_rfl
set_option maxRecDepth 100000 in
theorem ow_u32_4 {o : Oper} {a : Act} {w : World} {K : Act → World → Prop} {Q : Exit → Act → World → Prop} (x0 x1 x2 x3 : Operand) (ho : o.op = .buildSlice 61 4 #[(0, x0), (1, x1), (2, x2), (3, x3)]) (n0 n1 n2 n3 : Nat) (h0 : a.eval x0 = .int .u32 (n0 : Int)) (h1 : a.eval x1 = .int .u32 (n1 : Int)) (h2 : a.eval x2 = .int .u32 (n2 : Int)) (h3 : a.eval x3 = .int .u32 (n3 : Int))
  (h : ∀ y p, Lies y y.heap.size 1 (some p) 4 (u32s [n0, n1, n2, n3]) → Below w.heap.size w y → K (a.put o.dst (.slice (some p) 4 4)) y) : o.wp Tryz.prog a w K Q :=
 ow_of_run ho (by simp [h0, h1, h2, h3]) (build_u32_4 n0 n1 n2 n3 w) (h _ _ ((lies_new w #[.int .u32 (n0 : Int), .int .u32 (n1 : Int), .int .u32 (n2 : Int), .int .u32 (n3 : Int)] 27 4 _ rfl rfl).wide (by simp)) ((Below.refl _ _).alloc (Nat.le_refl _) _))
set_option maxRecDepth 100000 in
theorem build_i64_2 (n0 n1 : Nat) (w : World) : (Instr.buildSlice 165 2 #[(0, .int .i64 (n0 : Int)), (1, .int .i64 (n1 : Int))]).run Tryz.prog w = .ok (.slice (some ⟨w.heap.size, 0, none⟩) 2 2) (w.alloc (.cells #[.int .i64 (n0 : Int), .int .i64 (n1 : Int)] 3)) := by
 obtain ⟨i0, hi, hz0, hz1, hz2⟩ := info_parts info_i64
 refine run_buildSlice (P := Tryz.prog) w 165 3 2 _ _ i0 (.int .i64 0) Tryz.underlying165 hi hz0 (by rw [hz1]; decide) (by rw [hz1]; decide) ?_
 rw [hz1]
 kernel_rfl
set_option maxRecDepth 100000 in
theorem ow_i64_2 {o : Oper} {a : Act} {w : World} {K : Act → World → Prop} {Q : Exit → Act → World → Prop} (x0 x1 : Operand) (ho : o.op = .buildSlice 165 2 #[(0, x0), (1, x1)]) (n0 n1 : Nat) (h0 : a.eval x0 = .int .i64 (n0 : Int)) (h1 : a.eval x1 = .int .i64 (n1 : Int))
  (h : ∀ y p, Lies y y.heap.size 1 (some p) 2 (i64s [n0, n1]) → Below w.heap.size w y → K (a.put o.dst (.slice (some p) 2 2)) y) : o.wp Tryz.prog a w K Q :=
 ow_of_run ho (by simp [h0, h1]) (build_i64_2 n0 n1 w) (h _ _ ((lies_new w #[.int .i64 (n0 : Int), .int .i64 (n1 : Int)] 3 2 _ rfl rfl).wide (by simp)) ((Below.refl _ _).alloc (Nat.le_refl _) _))
set_option maxRecDepth 100000 in
theorem build_i64_4 (n0 n1 n2 n3 : Nat) (w : World) : (Instr.buildSlice 165 4 #[(0, .int .i64 (n0 : Int)), (1, .int .i64 (n1 : Int)), (2, .int .i64 (n2 : Int)), (3, .int .i64 (n3 : Int))]).run Tryz.prog w = .ok (.slice (some ⟨w.heap.size, 0, none⟩) 4 4) (w.alloc (.cells #[.int .i64 (n0 : Int), .int .i64 (n1 : Int), .int .i64 (n2 : Int), .int .i64 (n3 : Int)] 3)) := by
 obtain ⟨i0, hi, hz0, hz1, hz2⟩ := info_parts info_i64
 refine run_buildSlice (P := Tryz.prog) w 165 3 4 _ _ i0 (.int .i64 0) Tryz.underlying165 hi hz0 (by rw [hz1]; decide) (by rw [hz1]; decide) ?_
 rw [hz1]
 kernel_rfl
set_option maxRecDepth 100000 in
theorem ow_i64_4 {o : Oper} {a : Act} {w : World} {K : Act → World → Prop} {Q : Exit → Act → World → Prop} (x0 x1 x2 x3 : Operand) (ho : o.op = .buildSlice 165 4 #[(0, x0), (1, x1), (2, x2), (3, x3)]) (n0 n1 n2 n3 : Nat) (h0 : a.eval x0 = .int .i64 (n0 : Int)) (h1 : a.eval x1 = .int .i64 (n1 : Int)) (h2 : a.eval x2 = .int .i64 (n2 : Int)) (h3 : a.eval x3 = .int .i64 (n3 : Int))
  (h : ∀ y p, Lies y y.heap.size 1 (some p) 4 (i64s [n0, n1, n2, n3]) → Below w.heap.size w y → K (a.put o.dst (.slice (some p) 4 4)) y) : o.wp Tryz.prog a w K Q :=
 ow_of_run ho (by simp [h0, h1, h2, h3]) (build_i64_4 n0 n1 n2 n3 w) (h _ _ ((lies_new w #[.int .i64 (n0 : Int), .int .i64 (n1 : Int), .int .i64 (n2 : Int), .int .i64 (n3 : Int)] 3 4 _ rfl rfl).wide (by simp)) ((Below.refl _ _).alloc (Nat.le_refl _) _))
set_option maxRecDepth 100000 in
theorem build_pt_2 (n0 n1 : Part) (w : World) : (Instr.buildSlice 196 2 #[(0, partV n0), (1, partV n1)]).run Tryz.prog w = .ok (.slice (some ⟨w.heap.size, 0, none⟩) 2 2) (w.alloc (.cells #[partV n0, partV n1] 78)) := by
 obtain ⟨i0, hi, hz0, hz1, hz2⟩ := info_parts info_pt
 refine run_buildSlice (P := Tryz.prog) w 196 78 2 _ _ i0 (.slice none 0 0) Tryz.underlying196 hi hz0 (by rw [hz1]; decide) (by rw [hz1]; decide) ?_
 rw [hz1]
 kernel_rfl
set_option maxRecDepth 100000 in
theorem ow_pt_2 {o : Oper} {a : Act} {w : World} {K : Act → World → Prop} {Q : Exit → Act → World → Prop} (x0 x1 : Operand) (ho : o.op = .buildSlice 196 2 #[(0, x0), (1, x1)]) (n0 n1 : Part) (h0 : a.eval x0 = partV n0) (h1 : a.eval x1 = partV n1)
  (h : ∀ y p, Lies y y.heap.size 1 (some p) 2 (List.map partV [n0, n1]) → Below w.heap.size w y → K (a.put o.dst (.slice (some p) 2 2)) y) : o.wp Tryz.prog a w K Q :=
 ow_of_run ho (by simp [h0, h1]) (build_pt_2 n0 n1 w) (h _ _ ((lies_new w #[partV n0, partV n1] 78 2 _ rfl rfl).wide (by simp)) ((Below.refl _ _).alloc (Nat.le_refl _) _))
set_option maxRecDepth 100000 in
theorem build_pt_5 (n0 n1 n2 n3 n4 : Part) (w : World) : (Instr.buildSlice 196 5 #[(0, partV n0), (1, partV n1), (2, partV n2), (3, partV n3), (4, partV n4)]).run Tryz.prog w = .ok (.slice (some ⟨w.heap.size, 0, none⟩) 5 5) (w.alloc (.cells #[partV n0, partV n1, partV n2, partV n3, partV n4] 78)) := by
 obtain ⟨i0, hi, hz0, hz1, hz2⟩ := info_parts info_pt
 refine run_buildSlice (P := Tryz.prog) w 196 78 5 _ _ i0 (.slice none 0 0) Tryz.underlying196 hi hz0 (by rw [hz1]; decide) (by rw [hz1]; decide) ?_
 rw [hz1]
 kernel_rfl
set_option maxRecDepth 100000 in
theorem ow_pt_5 {o : Oper} {a : Act} {w : World} {K : Act → World → Prop} {Q : Exit → Act → World → Prop} (x0 x1 x2 x3 x4 : Operand) (ho : o.op = .buildSlice 196 5 #[(0, x0), (1, x1), (2, x2), (3, x3), (4, x4)]) (n0 n1 n2 n3 n4 : Part) (h0 : a.eval x0 = partV n0) (h1 : a.eval x1 = partV n1) (h2 : a.eval x2 = partV n2) (h3 : a.eval x3 = partV n3) (h4 : a.eval x4 = partV n4)
  (h : ∀ y p, Lies y y.heap.size 1 (some p) 5 (List.map partV [n0, n1, n2, n3, n4]) → Below w.heap.size w y → K (a.put o.dst (.slice (some p) 5 5)) y) : o.wp Tryz.prog a w K Q :=
 ow_of_run ho (by simp [h0, h1, h2, h3, h4]) (build_pt_5 n0 n1 n2 n3 n4 w) (h _ _ ((lies_new w #[partV n0, partV n1, partV n2, partV n3, partV n4] 78 5 _ rfl rfl).wide (by simp)) ((Below.refl _ _).alloc (Nat.le_refl _) _))
set_option maxRecDepth 100000 in
theorem build_pt_9 (n0 n1 n2 n3 n4 n5 n6 n7 n8 : Part) (w : World) : (Instr.buildSlice 196 9 #[(0, partV n0), (1, partV n1), (2, partV n2), (3, partV n3), (4, partV n4), (5, partV n5), (6, partV n6), (7, partV n7), (8, partV n8)]).run Tryz.prog w = .ok (.slice (some ⟨w.heap.size, 0, none⟩) 9 9) (w.alloc (.cells #[partV n0, partV n1, partV n2, partV n3, partV n4, partV n5, partV n6, partV n7, partV n8] 78)) := by
 obtain ⟨i0, hi, hz0, hz1, hz2⟩ := info_parts info_pt
 refine run_buildSlice (P := Tryz.prog) w 196 78 9 _ _ i0 (.slice none 0 0) Tryz.underlying196 hi hz0 (by rw [hz1]; decide) (by rw [hz1]; decide) ?_
 rw [hz1]
 kernel_rfl
set_option maxRecDepth 100000 in
theorem ow_pt_9 {o : Oper} {a : Act} {w : World} {K : Act → World → Prop} {Q : Exit → Act → World → Prop} (x0 x1 x2 x3 x4 x5 x6 x7 x8 : Operand) (ho : o.op = .buildSlice 196 9 #[(0, x0), (1, x1), (2, x2), (3, x3), (4, x4), (5, x5), (6, x6), (7, x7), (8, x8)]) (n0 n1 n2 n3 n4 n5 n6 n7 n8 : Part) (h0 : a.eval x0 = partV n0) (h1 : a.eval x1 = partV n1) (h2 : a.eval x2 = partV n2) (h3 : a.eval x3 = partV n3) (h4 : a.eval x4 = partV n4) (h5 : a.eval x5 = partV n5) (h6 : a.eval x6 = partV n6) (h7 : a.eval x7 = partV n7) (h8 : a.eval x8 = partV n8)
  (h : ∀ y p, Lies y y.heap.size 1 (some p) 9 (List.map partV [n0, n1, n2, n3, n4, n5, n6, n7, n8]) → Below w.heap.size w y → K (a.put o.dst (.slice (some p) 9 9)) y) : o.wp Tryz.prog a w K Q :=
 ow_of_run ho (by simp [h0, h1, h2, h3, h4, h5, h6, h7, h8]) (build_pt_9 n0 n1 n2 n3 n4 n5 n6 n7 n8 w) (h _ _ ((lies_new w #[partV n0, partV n1, partV n2, partV n3, partV n4, partV n5, partV n6, partV n7, partV n8] 78 9 _ rfl rfl).wide (by simp)) ((Below.refl _ _).alloc (Nat.le_refl _) _))
end Go.Proofs.YtkaipknkjocfiaaGreat
namespace Go.Proofs.YtkaipknkjocfiaaGreat
open Go.RowKit
set_option maxRecDepth 100000 in
set_option maxHeartbeats 4000000 in
theorem layWi_any (x : Wi) (hx : WiB x) (hb : badWi x = false) (w : World) : Calls Tryz.prog 153 #[.agg (vec 4 (winE x))] w (Bytes w (layWi x)) := by
 have hp : 0 ≤ x.perm ∧ x.perm ≤ 7 := by
  unfold badWi inB at hb
  simpa using hb
 obtain ⟨⟨b0, b0'⟩, ⟨b1, b1'⟩, ⟨b2, b2'⟩, -⟩ := hx
 obtain ⟨n0, h0⟩ := Int.eq_ofNat_of_zero_le b0
 obtain ⟨n1, h1⟩ := Int.eq_ofNat_of_zero_le b1
 obtain ⟨n2, h2⟩ := Int.eq_ofNat_of_zero_le b2
 obtain ⟨n3, h3⟩ := Int.eq_ofNat_of_zero_le hp.1
 obtain ⟨V, hV⟩ : ∃ V, V = w.alloc (.cells (vec 4 (winE x)) 67) := ⟨_, rfl⟩
 have k1 : Arr V w.heap.size 67 4 (winE x) := by rw [hV]; exact Arr.new w _ _ _
 have HK : Hid (Below w.heap.size w V) := Lib.hid (by rw [hV]; exact (Below.refl _ _).alloc (Nat.le_refl _) _)
 have HW := Lib.hid hV
 have HC0 : Hid (V.cell? ⟨w.heap.size, 0, none⟩ = some (.int .u64 (n0 : Int))) := Lib.hid (h0 ▸ k1.cell (i := 0) (by decide))
 have HC1 : Hid (V.cell? ⟨w.heap.size, 1, none⟩ = some (.int .u64 (n1 : Int))) := Lib.hid (h1 ▸ k1.cell (i := 1) (by decide))
 have HC2 : Hid (V.cell? ⟨w.heap.size, 2, none⟩ = some (.int .u64 (n2 : Int))) := Lib.hid (h2 ▸ k1.cell (i := 2) (by decide))
 have HC3 : Hid (V.cell? ⟨w.heap.size, 3, none⟩ = some (.int .i64 (n3 : Int))) := Lib.hid (h3 ▸ k1.cell (i := 3) (by decide))
 have e3 : IntKind.u32.wrap (n3 : Int) = (n3 : Int) := by rw [IntKind.wrap_u32']; omega
 have HN := Lib.hid (show (∀ n ∈ [n0, n1, n2], n < 18446744073709551616) ∧ ∀ n ∈ [n3], n < 4294967296 by simp; omega)
 have HEND : Hid (∀ (Y Y' : World) (v : Value) , Y'.ownsRow Y.heap.size 5 1 v (([] ++ [n0, n1, n2].flatMap (be 8)) ++ [n3].flatMap (be 4)).length (u8s (([] ++ [n0, n1, n2].flatMap (be 8)) ++ [n3].flatMap (be 4))) → VS V Y → Below Y.heap.size Y Y' → ∃ u, Ending.returned v = .returned u ∧ Y'.ownsRow w.heap.size 5 1 u (layWi x).length (u8s (layWi x)) ∧ Below w.heap.size w Y') := Lib.hid (fun Y Y' v hv1 hv2 hv3 => by
  have hb : Below w.heap.size w Y := HK.out.trans ((show Below V.heap.size V Y from hv2).mono HK.out.size)
  refine ⟨v, rfl, ?_, hb.trans (hv3.mono hb.size)⟩
  rw [show layWi x = ([] ++ [n0, n1, n2].flatMap (be 8)) ++ [n3].flatMap (be 4) by simp [layWi, h0, h1, h2, h3]]
  exact owns_mono hv1 hb.size)
 clear hV k1 b0 b0' b1 b1' b2 b2' h0 h1 h2 h3 hb hp
 unfold Bytes
 go_enter Tryz.func153, Tryz.ntmps153
 go_upto_region 1 with fail
 rw [← HW.out]
 clear HW
 refine wp_region_held_drew (S := fun Y => VS V Y) (by kernel_rfl) (VS.begin V) (fun hS => ?_)
 refine tA 0 (h := ?_)
 refine tP 1 (hy := by (intro Z hZ; have k0 := ((show Below V.heap.size V Z from hZ).cell (World.block_lt_of_cell? V _ HC0.out)).trans HC0.out; go_simp; (try with_reducible rfl))) (h := ?_)
 refine tA 2 (h := ?_)
 refine tP 3 (hy := by (intro Z hZ; have k0 := ((show Below V.heap.size V Z from hZ).cell (World.block_lt_of_cell? V _ HC1.out)).trans HC1.out; go_simp; (try with_reducible rfl))) (h := ?_)
 refine tA 4 (h := ?_)
 refine tP 5 (hy := by (intro Z hZ; have k0 := ((show Below V.heap.size V Z from hZ).cell (World.block_lt_of_cell? V _ HC2.out)).trans HC2.out; go_simp; (try with_reducible rfl))) (h := ?_)
 refine tA 8 (h := ?_)
 refine tP 9 (hy := by (intro Z hZ; have k0 := ((show Below V.heap.size V Z from hZ).cell (World.block_lt_of_cell? V _ HC3.out)).trans HC3.out; go_simp; (try with_reducible rfl))) (h := ?_)
 refine tA 10 (h := ?_)
 refine wQ 6 11 (h1 := fun K6 hK6 => ?hit21) (h2 := fun K11 hK11 => ?hjt21)
 case hit21 =>
  refine ow_u64_3 _ _ _ rfl n0 n1 n2 rfl rfl rfl ?_
  intro y6 p6 hl hd
  have F6 := Lib.hid hl
  refine hK6 _ _ ((show VS V _ from hS).keep hd) (fun hS6 => ?_)
  clear hl hd hS hK6 K6
  refine wQ 7 11 (h1 := fun K7 hK7 => ?hit16) (h2 := fun K11 hK11 => ?hjt16)
  case hit16 =>
   go_simp
   refine (pb64 [] [n0, n1, n2] HN.out.1 none _ 0 _ _ (Lies.nil _ _ _ _) F6.out (by simp) (by simp)).mono ?_
   rintro e y7 ⟨v7, rfl, hv, hd⟩
   obtain ⟨A7, c7, rfl, -, hl⟩ := (own_of hv).lies
   replace F6 := Lib.hid (lies_on2 F6.out hd)
   have F7 := Lib.hid hl
   refine hK7 _ _ ((show VS V _ from hS6).keep hd) (fun hS7 => ?_)
   clear hv hd hl hS6 hK7 K7
   refine oQ 11 (h := fun K11 hK11 => ?_)
   refine ow_u32_1 _ rfl n3 rfl ?_
   intro y11 p11 hl hd
   replace F6 := Lib.hid (lies_on2 F6.out hd)
   replace F7 := Lib.hid (lies_on2 F7.out hd)
   have F11 := Lib.hid hl
   refine hK11 _ _ ((show VS V _ from hS7).keep hd) (fun hS11 => ?_)
   clear hl hd hS7 hK11 K11
   refine oQ 12 (h := fun K12 hK12 => ?_)
   go_simp
   refine (pb32 _ [n3] HN.out.2 _ _ _ _ _ F7.out F11.out (by simp [be_len]) (by simp)).mono ?_
   rintro e y12 ⟨v12, rfl, hv, hd⟩
   have HFIN := Lib.hid (And.intro hv (And.intro (show VS V _ from hS11) hd))
   refine hK12 _ _ ((show VS V _ from hS11).keep hd) (fun hS12 => ?_)
   clear hv hd  hS11 hK12 K12
   refine tA 13 (h := ?_)
   refine wpAnyH_done (by kernel_rfl) ?_ _
   clear hS12
   go_wp2
   go_ret
   exact HEND.out _ _ _ HFIN.out.1 HFIN.out.2.1 HFIN.out.2.2
  case hjt16 =>
   refine ow_u32_1 _ rfl n3 rfl ?_
   intro y11 p11 hl hd
   replace F6 := Lib.hid (lies_on2 F6.out hd)
   have F11 := Lib.hid hl
   refine hK11 _ _ ((show VS V _ from hS6).keep hd) (fun hS11 => ?_)
   clear hl hd hS6 hK11 K11
   refine oQ 7 (h := fun K7 hK7 => ?_)
   go_simp
   refine (pb64 [] [n0, n1, n2] HN.out.1 none _ 0 _ _ (Lies.nil _ _ _ _) F6.out (by simp) (by simp)).mono ?_
   rintro e y7 ⟨v7, rfl, hv, hd⟩
   obtain ⟨A7, c7, rfl, -, hl⟩ := (own_of hv).lies
   replace F6 := Lib.hid (lies_on2 F6.out hd)
   replace F11 := Lib.hid (lies_on2 F11.out hd)
   have F7 := Lib.hid hl
   refine hK7 _ _ ((show VS V _ from hS11).keep hd) (fun hS7 => ?_)
   clear hv hd hl hS11 hK7 K7
   refine oQ 12 (h := fun K12 hK12 => ?_)
   go_simp
   refine (pb32 _ [n3] HN.out.2 _ _ _ _ _ F7.out F11.out (by simp [be_len]) (by simp)).mono ?_
   rintro e y12 ⟨v12, rfl, hv, hd⟩
   have HFIN := Lib.hid (And.intro hv (And.intro (show VS V _ from hS7) hd))
   refine hK12 _ _ ((show VS V _ from hS7).keep hd) (fun hS12 => ?_)
   clear hv hd  hS7 hK12 K12
   refine tA 13 (h := ?_)
   refine wpAnyH_done (by kernel_rfl) ?_ _
   clear hS12
   go_wp2
   go_ret
   exact HEND.out _ _ _ HFIN.out.1 HFIN.out.2.1 HFIN.out.2.2
 case hjt21 =>
  refine ow_u32_1 _ rfl n3 rfl ?_
  intro y11 p11 hl hd
  have F11 := Lib.hid hl
  refine hK11 _ _ ((show VS V _ from hS).keep hd) (fun hS11 => ?_)
  clear hl hd hS hK11 K11
  refine oQ 6 (h := fun K6 hK6 => ?_)
  refine ow_u64_3 _ _ _ rfl n0 n1 n2 rfl rfl rfl ?_
  intro y6 p6 hl hd
  replace F11 := Lib.hid (lies_on2 F11.out hd)
  have F6 := Lib.hid hl
  refine hK6 _ _ ((show VS V _ from hS11).keep hd) (fun hS6 => ?_)
  clear hl hd hS11 hK6 K6
  refine oQ 7 (h := fun K7 hK7 => ?_)
  go_simp
  refine (pb64 [] [n0, n1, n2] HN.out.1 none _ 0 _ _ (Lies.nil _ _ _ _) F6.out (by simp) (by simp)).mono ?_
  rintro e y7 ⟨v7, rfl, hv, hd⟩
  obtain ⟨A7, c7, rfl, -, hl⟩ := (own_of hv).lies
  replace F11 := Lib.hid (lies_on2 F11.out hd)
  replace F6 := Lib.hid (lies_on2 F6.out hd)
  have F7 := Lib.hid hl
  refine hK7 _ _ ((show VS V _ from hS6).keep hd) (fun hS7 => ?_)
  clear hv hd hl hS6 hK7 K7
  refine oQ 12 (h := fun K12 hK12 => ?_)
  go_simp
  refine (pb32 _ [n3] HN.out.2 _ _ _ _ _ F7.out F11.out (by simp [be_len]) (by simp)).mono ?_
  rintro e y12 ⟨v12, rfl, hv, hd⟩
  have HFIN := Lib.hid (And.intro hv (And.intro (show VS V _ from hS7) hd))
  refine hK12 _ _ ((show VS V _ from hS7).keep hd) (fun hS12 => ?_)
  clear hv hd  hS7 hK12 K12
  refine tA 13 (h := ?_)
  refine wpAnyH_done (by kernel_rfl) ?_ _
  clear hS12
  go_wp2
  go_ret
  exact HEND.out _ _ _ HFIN.out.1 HFIN.out.2.1 HFIN.out.2.2
end Go.Proofs.YtkaipknkjocfiaaGreat
namespace Go.Proofs.YtkaipknkjocfiaaGreat
open Go.RowKit
set_option maxRecDepth 100000 in
set_option maxHeartbeats 4000000 in
theorem layDe_any (x : De) (hx : DeB x) (w : World) : Calls Tryz.prog 155 #[.agg (vec 3 (devE x))] w (Bytes w (layDe x)) := by
 obtain ⟨⟨b0, b0'⟩, ⟨b1, b1'⟩, ⟨b2, b2'⟩⟩ := hx
 obtain ⟨n0, h0⟩ := Int.eq_ofNat_of_zero_le b0
 obtain ⟨n1, h1⟩ := Int.eq_ofNat_of_zero_le b1
 obtain ⟨n2, h2⟩ := Int.eq_ofNat_of_zero_le b2
 obtain ⟨V, hV⟩ : ∃ V, V = w.alloc (.cells (vec 3 (devE x)) 83) := ⟨_, rfl⟩
 have k1 : Arr V w.heap.size 83 3 (devE x) := by rw [hV]; exact Arr.new w _ _ _
 have HK : Hid (Below w.heap.size w V) := Lib.hid (by rw [hV]; exact (Below.refl _ _).alloc (Nat.le_refl _) _)
 have HW := Lib.hid hV
 have c0 : V.cell? ⟨w.heap.size, 0, none⟩ = some (.int .u64 (n0 : Int)) := h0 ▸ k1.cell (i := 0) (by decide)
 have c1 : V.cell? ⟨w.heap.size, 1, none⟩ = some (.int .u64 (n1 : Int)) := h1 ▸ k1.cell (i := 1) (by decide)
 have c2 : V.cell? ⟨w.heap.size, 2, none⟩ = some (.int .u64 (n2 : Int)) := h2 ▸ k1.cell (i := 2) (by decide)
 obtain ⟨Y, hY⟩ : ∃ Y, Y = V.alloc (.cells #[.int .u64 (n0 : Int), .int .u64 (n1 : Int), .int .u64 (n2 : Int)] 22) := ⟨_, rfl⟩
 have HF : Hid (Lies Y Y.heap.size 1 (some ⟨V.heap.size, 0, none⟩) 3 (u64s [n0, n1, n2])) := Lib.hid (by rw [hY]; exact (lies_new V _ 22 3 _ rfl rfl).wide (by simp))
 have HD : Hid (VS V Y) := Lib.hid (by rw [hY]; exact (Below.refl _ _).alloc (Nat.le_refl _) _)
 have HY := Lib.hid hY
 have HN := Lib.hid (show (∀ n ∈ [n0, n1, n2], n < 18446744073709551616) by simp; omega)
 have HEND : Hid (∀ (Y Y' : World) (v : Value) , Y'.ownsRow Y.heap.size 5 1 v (([] ++ [n0, n1, n2].flatMap (be 8))).length (u8s (([] ++ [n0, n1, n2].flatMap (be 8)))) → VS V Y → Below Y.heap.size Y Y' → ∃ u, Ending.returned v = .returned u ∧ Y'.ownsRow w.heap.size 5 1 u (layDe x).length (u8s (layDe x)) ∧ Below w.heap.size w Y') := Lib.hid (fun Y Y' v hv1 hv2 hv3 => by
  have hb : Below w.heap.size w Y := HK.out.trans ((show Below V.heap.size V Y from hv2).mono HK.out.size)
  refine ⟨v, rfl, ?_, hb.trans (hv3.mono hb.size)⟩
  rw [show layDe x = ([] ++ [n0, n1, n2].flatMap (be 8)) by simp [layDe, h0, h1, h2]]
  exact owns_mono hv1 hb.size)
 clear hV k1 b0 b0' b1 b1' b2 b2' h0 h1 h2 hY
 unfold Bytes
 go_enter Tryz.func155, Tryz.ntmps155
 go_upto_region 1 with fail
 rw [← HW.out]
 clear HW
 go_wp2_with (go_at_call 151; rw [← HY.out]; refine (pb64 [] [n0, n1, n2] HN.out none _ 0 _ _ (Lies.nil _ _ _ _) HF.out (by simp) (by simp)).mono ?_; rintro e y ⟨v, rfl, hv, hd⟩; have HFIN := Lib.hid (And.intro hv hd); clear hv hd)
 go_ret
 exact HEND.out _ _ _ HFIN.out.1 HD.out HFIN.out.2
set_option maxRecDepth 100000 in
set_option maxHeartbeats 4000000 in
theorem layIr_any (x : Ir) (hb : badIr x = false) (w : World) : Calls Tryz.prog 157 #[.agg (vec 3 (irqE x))] w (Bytes w (layIr x)) := by
 have hp : (0 ≤ x.number ∧ x.number ≤ 65535) ∧ 0 ≤ x.cpu ∧ x.cpu ≤ 65535 := by
  unfold badIr inB at hb
  simpa using hb
 obtain ⟨n0, h0⟩ := Int.eq_ofNat_of_zero_le hp.1.1
 obtain ⟨n1, h1⟩ := Int.eq_ofNat_of_zero_le hp.2.1
 obtain ⟨V, hV⟩ : ∃ V, V = w.alloc (.cells (vec 3 (irqE x)) 65) := ⟨_, rfl⟩
 have k1 : Arr V w.heap.size 65 3 (irqE x) := by rw [hV]; exact Arr.new w _ _ _
 have HK : Hid (Below w.heap.size w V) := Lib.hid (by rw [hV]; exact (Below.refl _ _).alloc (Nat.le_refl _) _)
 have HW := Lib.hid hV
 have HC0 : Hid (V.cell? ⟨w.heap.size, 0, none⟩ = some (.int .i64 (n0 : Int))) := Lib.hid (h0 ▸ k1.cell (i := 0) (by decide))
 have HC1 : Hid (V.cell? ⟨w.heap.size, 1, none⟩ = some (.int .i64 (n1 : Int))) := Lib.hid (h1 ▸ k1.cell (i := 1) (by decide))
 have HC2 : Hid (V.cell? ⟨w.heap.size, 2, none⟩ = some (.bool x.edge)) := Lib.hid (k1.cell (i := 2) (by decide))
 obtain ⟨fl, hfl⟩ : ∃ n, n = flagN x.edge := ⟨_, rfl⟩
 have HFL := Lib.hid (flagC_any x.edge)
 rw [← hfl] at HFL
 have HN := Lib.hid (show (∀ n ∈ [n0, n1], n < 65536) ∧ ∀ n ∈ [fl], n < 4294967296 by have := flagN_lt x.edge; simp; omega)
 have HEND : Hid (∀ (Y Y' : World) (v : Value) , Y'.ownsRow Y.heap.size 5 1 v ([n0, n1].flatMap (be 2) ++ [fl].flatMap (be 4)).length (u8s ([n0, n1].flatMap (be 2) ++ [fl].flatMap (be 4))) → VS V Y → Below Y.heap.size Y Y' → ∃ u, Ending.returned v = .returned u ∧ Y'.ownsRow w.heap.size 5 1 u (layIr x).length (u8s (layIr x)) ∧ Below w.heap.size w Y') := Lib.hid (fun Y Y' v hv1 hv2 hv3 => by
  have hb : Below w.heap.size w Y := HK.out.trans ((show Below V.heap.size V Y from hv2).mono HK.out.size)
  refine ⟨v, rfl, ?_, hb.trans (hv3.mono hb.size)⟩
  rw [show layIr x = [n0, n1].flatMap (be 2) ++ [fl].flatMap (be 4) by simp [layIr, h0, h1, hfl]]
  exact owns_mono hv1 hb.size)
 clear hV k1 h0 h1 hb hp hfl
 unfold Bytes
 go_enter Tryz.func157, Tryz.ntmps157
 go_upto_region 1 with fail
 rw [← HW.out]
 clear HW
 refine wp_region_held_drew (S := fun Y => VS V Y) (by kernel_rfl) (VS.begin V) (fun hS => ?_)
 refine tA 0 (h := ?_)
 refine tP 1 (hy := by (intro Z hZ; have k0 := ((show Below V.heap.size V Z from hZ).cell (World.block_lt_of_cell? V _ HC0.out)).trans HC0.out; go_simp; (try with_reducible rfl))) (h := ?_)
 refine tA 2 (h := ?_)
 refine tP 3 (hy := by (intro Z hZ; have k0 := ((show Below V.heap.size V Z from hZ).cell (World.block_lt_of_cell? V _ HC1.out)).trans HC1.out; go_simp; (try with_reducible rfl))) (h := ?_)
 refine tA 6 (h := ?_)
 refine tP 7 (hy := by (intro Z hZ; have k0 := ((show Below V.heap.size V Z from hZ).cell (World.block_lt_of_cell? V _ HC2.out)).trans HC2.out; go_simp; (try with_reducible rfl))) (h := ?_)
 refine oQ 4 (h := fun K4 hK4 => ?_)
 refine ow_i64_2 _ _ rfl n0 n1 rfl rfl ?_
 intro y4 p4 hl hd
 have F4 := Lib.hid hl
 refine hK4 _ _ ((show VS V _ from hS).keep hd) (fun hS4 => ?_)
 clear hl hd hS hK4 K4
 refine oQ 5 (h := fun K5 hK5 => ?_)
 go_simp
 refine (shorts_any [n0, n1] HN.out.1 _ _ _ (by simp) F4.out).mono ?_
 rintro e y5 ⟨v5, rfl, hv, hd⟩
 obtain ⟨A5, c5, rfl, -, hl⟩ := (own_of hv).lies
 replace F4 := Lib.hid (lies_on2 F4.out hd)
 have F5 := Lib.hid hl
 refine hK5 _ _ ((show VS V _ from hS4).keep hd) (fun hS5 => ?_)
 clear hv hd hl hS4 hK5 K5
 refine oQ 8 (h := fun K8 hK8 => ?_)
 go_simp
 refine (HFL.out _).mono ?_
 rintro e y8 ⟨rfl, rfl⟩
 refine hK8 _ _ hS5 (fun hS8 => ?_)
 clear hS5 hK8 K8
 refine oQ 9 (h := fun K9 hK9 => ?_)
 refine ow_u32_1 _ rfl fl rfl ?_
 intro y9 p9 hl hd
 replace F4 := Lib.hid (lies_on2 F4.out hd)
 replace F5 := Lib.hid (lies_on2 F5.out hd)
 have F9 := Lib.hid hl
 refine hK9 _ _ ((show VS V _ from hS8).keep hd) (fun hS9 => ?_)
 clear hl hd hS8 hK9 K9
 refine oQ 10 (h := fun K10 hK10 => ?_)
 go_simp
 refine (pb32 _ [fl] HN.out.2 _ _ _ _ _ F5.out F9.out (by simp [be_len]) (by simp)).mono ?_
 rintro e y10 ⟨v10, rfl, hv, hd⟩
 have HFIN := Lib.hid (And.intro hv (And.intro (show VS V _ from hS9) hd))
 refine hK10 _ _ ((show VS V _ from hS9).keep hd) (fun hS10 => ?_)
 clear hv hd  hS9 hK10 K10
 refine tA 11 (h := ?_)
 refine wpAnyH_done (by kernel_rfl) ?_ _
 clear hS10
 go_wp2
 go_ret
 exact HEND.out _ _ _ HFIN.out.1 HFIN.out.2.1 HFIN.out.2.2
end Go.Proofs.YtkaipknkjocfiaaGreat
namespace Go.Proofs.YtkaipknkjocfiaaGreat
open Go.RowKit
set_option maxRecDepth 100000 in
set_option maxHeartbeats 4000000 in
theorem layEn_any (x : En) (hx : EnB x) (hb : badEn x = false) (w : World) : Calls Tryz.prog 159 #[.agg (vec 3 (endE x))] w (Bytes w (layEn x)) := by
 have hp : (0 ≤ x.guest ∧ x.guest ≤ 65535) ∧ 0 ≤ x.perm ∧ x.perm ≤ 7 := by
  unfold badEn inB at hb
  simpa using hb
 obtain ⟨-, -, b2, b2'⟩ := hx
 obtain ⟨n0, h0⟩ := Int.eq_ofNat_of_zero_le hp.1.1
 obtain ⟨n1, h1⟩ := Int.eq_ofNat_of_zero_le hp.2.1
 obtain ⟨n2, h2⟩ := Int.eq_ofNat_of_zero_le b2
 obtain ⟨V, hV⟩ : ∃ V, V = w.alloc (.cells (vec 3 (endE x)) 44) := ⟨_, rfl⟩
 have k1 : Arr V w.heap.size 44 3 (endE x) := by rw [hV]; exact Arr.new w _ _ _
 have HK : Hid (Below w.heap.size w V) := Lib.hid (by rw [hV]; exact (Below.refl _ _).alloc (Nat.le_refl _) _)
 have HW := Lib.hid hV
 have HC0 : Hid (V.cell? ⟨w.heap.size, 0, none⟩ = some (.int .i64 (n0 : Int))) := Lib.hid (h0 ▸ k1.cell (i := 0) (by decide))
 have HC1 : Hid (V.cell? ⟨w.heap.size, 1, none⟩ = some (.int .i64 (n1 : Int))) := Lib.hid (h1 ▸ k1.cell (i := 1) (by decide))
 have HC2 : Hid (V.cell? ⟨w.heap.size, 2, none⟩ = some (.int .u64 (n2 : Int))) := Lib.hid (h2 ▸ k1.cell (i := 2) (by decide))
 have HN := Lib.hid (show (∀ n ∈ [n0, n1], n < 65536) ∧ ∀ n ∈ [n2], n < 18446744073709551616 by simp; omega)
 have HEND : Hid (∀ (Y Y' : World) (v : Value) , Y'.ownsRow Y.heap.size 5 1 v ([n0, n1].flatMap (be 2) ++ [n2].flatMap (be 8)).length (u8s ([n0, n1].flatMap (be 2) ++ [n2].flatMap (be 8))) → VS V Y → Below Y.heap.size Y Y' → ∃ u, Ending.returned v = .returned u ∧ Y'.ownsRow w.heap.size 5 1 u (layEn x).length (u8s (layEn x)) ∧ Below w.heap.size w Y') := Lib.hid (fun Y Y' v hv1 hv2 hv3 => by
  have hb : Below w.heap.size w Y := HK.out.trans ((show Below V.heap.size V Y from hv2).mono HK.out.size)
  refine ⟨v, rfl, ?_, hb.trans (hv3.mono hb.size)⟩
  rw [show layEn x = [n0, n1].flatMap (be 2) ++ [n2].flatMap (be 8) by simp [layEn, h0, h1, h2]]
  exact owns_mono hv1 hb.size)
 clear hV k1 h0 h1 h2 hb hp b2 b2'
 unfold Bytes
 go_enter Tryz.func159, Tryz.ntmps159
 go_upto_region 1 with fail
 rw [← HW.out]
 clear HW
 refine wp_region_held_drew (S := fun Y => VS V Y) (by kernel_rfl) (VS.begin V) (fun hS => ?_)
 refine tA 0 (h := ?_)
 refine tP 1 (hy := by (intro Z hZ; have k0 := ((show Below V.heap.size V Z from hZ).cell (World.block_lt_of_cell? V _ HC0.out)).trans HC0.out; go_simp; (try with_reducible rfl))) (h := ?_)
 refine tA 2 (h := ?_)
 refine tP 3 (hy := by (intro Z hZ; have k0 := ((show Below V.heap.size V Z from hZ).cell (World.block_lt_of_cell? V _ HC1.out)).trans HC1.out; go_simp; (try with_reducible rfl))) (h := ?_)
 refine tA 6 (h := ?_)
 refine tP 7 (hy := by (intro Z hZ; have k0 := ((show Below V.heap.size V Z from hZ).cell (World.block_lt_of_cell? V _ HC2.out)).trans HC2.out; go_simp; (try with_reducible rfl))) (h := ?_)
 refine wQ 4 8 (h1 := fun K4 hK4 => ?hit51) (h2 := fun K8 hK8 => ?hjt51)
 case hit51 =>
  refine ow_i64_2 _ _ rfl n0 n1 rfl rfl ?_
  intro y4 p4 hl hd
  have F4 := Lib.hid hl
  refine hK4 _ _ ((show VS V _ from hS).keep hd) (fun hS4 => ?_)
  clear hl hd hS hK4 K4
  refine wQ 5 8 (h1 := fun K5 hK5 => ?hit46) (h2 := fun K8 hK8 => ?hjt46)
  case hit46 =>
   go_simp
   refine (shorts_any [n0, n1] HN.out.1 _ _ _ (by simp) F4.out).mono ?_
   rintro e y5 ⟨v5, rfl, hv, hd⟩
   obtain ⟨A5, c5, rfl, -, hl⟩ := (own_of hv).lies
   replace F4 := Lib.hid (lies_on2 F4.out hd)
   have F5 := Lib.hid hl
   refine hK5 _ _ ((show VS V _ from hS4).keep hd) (fun hS5 => ?_)
   clear hv hd hl hS4 hK5 K5
   refine oQ 8 (h := fun K8 hK8 => ?_)
   refine ow_u64_1 _ rfl n2 rfl ?_
   intro y8 p8 hl hd
   replace F4 := Lib.hid (lies_on2 F4.out hd)
   replace F5 := Lib.hid (lies_on2 F5.out hd)
   have F8 := Lib.hid hl
   refine hK8 _ _ ((show VS V _ from hS5).keep hd) (fun hS8 => ?_)
   clear hl hd hS5 hK8 K8
   refine oQ 9 (h := fun K9 hK9 => ?_)
   go_simp
   refine (pb64 _ [n2] HN.out.2 _ _ _ _ _ F5.out F8.out (by simp [be_len]) (by simp)).mono ?_
   rintro e y9 ⟨v9, rfl, hv, hd⟩
   have HFIN := Lib.hid (And.intro hv (And.intro (show VS V _ from hS8) hd))
   refine hK9 _ _ ((show VS V _ from hS8).keep hd) (fun hS9 => ?_)
   clear hv hd  hS8 hK9 K9
   refine tA 10 (h := ?_)
   refine wpAnyH_done (by kernel_rfl) ?_ _
   clear hS9
   go_wp2
   go_ret
   exact HEND.out _ _ _ HFIN.out.1 HFIN.out.2.1 HFIN.out.2.2
  case hjt46 =>
   refine ow_u64_1 _ rfl n2 rfl ?_
   intro y8 p8 hl hd
   replace F4 := Lib.hid (lies_on2 F4.out hd)
   have F8 := Lib.hid hl
   refine hK8 _ _ ((show VS V _ from hS4).keep hd) (fun hS8 => ?_)
   clear hl hd hS4 hK8 K8
   refine oQ 5 (h := fun K5 hK5 => ?_)
   go_simp
   refine (shorts_any [n0, n1] HN.out.1 _ _ _ (by simp) F4.out).mono ?_
   rintro e y5 ⟨v5, rfl, hv, hd⟩
   obtain ⟨A5, c5, rfl, -, hl⟩ := (own_of hv).lies
   replace F4 := Lib.hid (lies_on2 F4.out hd)
   replace F8 := Lib.hid (lies_on2 F8.out hd)
   have F5 := Lib.hid hl
   refine hK5 _ _ ((show VS V _ from hS8).keep hd) (fun hS5 => ?_)
   clear hv hd hl hS8 hK5 K5
   refine oQ 9 (h := fun K9 hK9 => ?_)
   go_simp
   refine (pb64 _ [n2] HN.out.2 _ _ _ _ _ F5.out F8.out (by simp [be_len]) (by simp)).mono ?_
   rintro e y9 ⟨v9, rfl, hv, hd⟩
   have HFIN := Lib.hid (And.intro hv (And.intro (show VS V _ from hS5) hd))
   refine hK9 _ _ ((show VS V _ from hS5).keep hd) (fun hS9 => ?_)
   clear hv hd  hS5 hK9 K9
   refine tA 10 (h := ?_)
   refine wpAnyH_done (by kernel_rfl) ?_ _
   clear hS9
   go_wp2
   go_ret
   exact HEND.out _ _ _ HFIN.out.1 HFIN.out.2.1 HFIN.out.2.2
 case hjt51 =>
  refine ow_u64_1 _ rfl n2 rfl ?_
  intro y8 p8 hl hd
  have F8 := Lib.hid hl
  refine hK8 _ _ ((show VS V _ from hS).keep hd) (fun hS8 => ?_)
  clear hl hd hS hK8 K8
  refine oQ 4 (h := fun K4 hK4 => ?_)
  refine ow_i64_2 _ _ rfl n0 n1 rfl rfl ?_
  intro y4 p4 hl hd
  replace F8 := Lib.hid (lies_on2 F8.out hd)
  have F4 := Lib.hid hl
  refine hK4 _ _ ((show VS V _ from hS8).keep hd) (fun hS4 => ?_)
  clear hl hd hS8 hK4 K4
  refine oQ 5 (h := fun K5 hK5 => ?_)
  go_simp
  refine (shorts_any [n0, n1] HN.out.1 _ _ _ (by simp) F4.out).mono ?_
  rintro e y5 ⟨v5, rfl, hv, hd⟩
  obtain ⟨A5, c5, rfl, -, hl⟩ := (own_of hv).lies
  replace F8 := Lib.hid (lies_on2 F8.out hd)
  replace F4 := Lib.hid (lies_on2 F4.out hd)
  have F5 := Lib.hid hl
  refine hK5 _ _ ((show VS V _ from hS4).keep hd) (fun hS5 => ?_)
  clear hv hd hl hS4 hK5 K5
  refine oQ 9 (h := fun K9 hK9 => ?_)
  go_simp
  refine (pb64 _ [n2] HN.out.2 _ _ _ _ _ F5.out F8.out (by simp [be_len]) (by simp)).mono ?_
  rintro e y9 ⟨v9, rfl, hv, hd⟩
  have HFIN := Lib.hid (And.intro hv (And.intro (show VS V _ from hS5) hd))
  refine hK9 _ _ ((show VS V _ from hS5).keep hd) (fun hS9 => ?_)
  clear hv hd  hS5 hK9 K9
  refine tA 10 (h := ?_)
  refine wpAnyH_done (by kernel_rfl) ?_ _
  clear hS9
  go_wp2
  go_ret
  exact HEND.out _ _ _ HFIN.out.1 HFIN.out.2.1 HFIN.out.2.2
end Go.Proofs.YtkaipknkjocfiaaGreat
namespace Go.Proofs.YtkaipknkjocfiaaGreat
open Go.RowKit
set_option maxRecDepth 100000 in
theorem layEn_len (x : En) : (layEn x).length = 12 := by simp [layEn, be_len]
set_option maxRecDepth 100000 in
set_option maxHeartbeats 4000000 in
theorem layCh_any (x : Ch) (hx : ChB x) (hb : badCh x = false) (w : World) : Calls Tryz.prog 118 #[.agg (vec 8 (chE x))] w (Bytes w (layCh x)) := by
 obtain ⟨hba, hbb⟩ : badEn x.a = false ∧ badEn x.b = false := by
  unfold badCh at hb
  simpa using hb
 obtain ⟨⟨b0, b0'⟩, ⟨b1, b1'⟩, ha, hbB⟩ := hx
 obtain ⟨n0, h0⟩ := Int.eq_ofNat_of_zero_le b0
 obtain ⟨n1, h1⟩ := Int.eq_ofNat_of_zero_le b1
 obtain ⟨V, hV⟩ : ∃ V, V = w.alloc (.cells (vec 8 (chE x)) 47) := ⟨_, rfl⟩
 have k1 : Arr V w.heap.size 47 8 (chE x) := by rw [hV]; exact Arr.new w _ _ _
 have HK : Hid (Below w.heap.size w V) := Lib.hid (by rw [hV]; exact (Below.refl _ _).alloc (Nat.le_refl _) _)
 have HW := Lib.hid hV
 have HC0 : Hid (V.cell? ⟨w.heap.size, 0, none⟩ = some (.int .u64 (n0 : Int))) := Lib.hid (h0 ▸ k1.cell (i := 0) (by decide))
 have HC1 : Hid (V.cell? ⟨w.heap.size, 1, none⟩ = some (.int .u64 (n1 : Int))) := Lib.hid (h1 ▸ k1.cell (i := 1) (by decide))
 have HN := Lib.hid (show (∀ n ∈ [n0, n1], n < 18446744073709551616) by simp; omega)
 have HR : Hid (∀ Y, VS V Y → Calls Tryz.prog 158 #[.slice (some ⟨w.heap.size, 2, none⟩) 2 2, .func (.func 159) #[] #[]] Y (Bytes Y (layEn x.a ++ layEn x.b))) := Lib.hid (fun Y hY => by
  have := row_en [x.a, x.b] (some ⟨w.heap.size, 2, none⟩) 2 Y (by simp) ((ends_row k1).up hY) (by simp [layEn_len]) (fun j h Z _ => by
   have hj : j < 2 := h
   match j, hj with
   | 0, _ => exact layEn_any x.a ha hba Z
   | 1, _ => exact layEn_any x.b hbB hbb Z)
  rw [show [x.a, x.b].flatMap layEn = layEn x.a ++ layEn x.b by simp] at this
  exact this)
 obtain ⟨LE, hLE⟩ : ∃ l, l = layEn x.a ++ layEn x.b := ⟨_, rfl⟩
 rw [← hLE] at HR
 have HLL : Hid (LE.length = 24) := Lib.hid (by rw [hLE]; simp [layEn_len])
 have HEND : Hid (∀ (Y Y' : World) (v : Value) (A8 A11 : Option Addr) (c8 c11 : Nat), Y'.ownsRow Y.heap.size 5 1 v (catAll [(A8, c8, [] ++ [n0, n1].flatMap (be 8)), (A11, c11, LE)]).length (u8s (catAll [(A8, c8, [] ++ [n0, n1].flatMap (be 8)), (A11, c11, LE)])) → VS V Y → Below Y.heap.size Y Y' → ∃ u, Ending.returned v = .returned u ∧ Y'.ownsRow w.heap.size 5 1 u (layCh x).length (u8s (layCh x)) ∧ Below w.heap.size w Y') := Lib.hid (fun Y Y' v A8 A11 c8 c11 hv1 hv2 hv3 => by
  have hb : Below w.heap.size w Y := HK.out.trans ((show Below V.heap.size V Y from hv2).mono HK.out.size)
  refine ⟨v, rfl, ?_, hb.trans (hv3.mono hb.size)⟩
  rw [show layCh x = catAll [(A8, c8, [] ++ [n0, n1].flatMap (be 8)), (A11, c11, LE)] by simp [layCh, catAll, h0, h1, hLE]]
  exact owns_mono hv1 hb.size)
 clear hV k1 h0 h1 hb hba hbb ha hbB b0 b0' b1 b1' hLE
 unfold Bytes
 go_enter Tryz.func118, Tryz.ntmps118
 go_upto_region 1 with fail
 rw [← HW.out]
 clear HW
 refine wp_region_held_drew (S := fun Y => VS V Y) (by kernel_rfl) (VS.begin V) (fun hS => ?_)
 refine tA 0 (h := ?_)
 refine tP 1 (hy := by (intro Z hZ; have k0 := ((show Below V.heap.size V Z from hZ).cell (World.block_lt_of_cell? V _ HC0.out)).trans HC0.out; go_simp; (try with_reducible rfl))) (h := ?_)
 refine tA 2 (h := ?_)
 refine tP 3 (hy := by (intro Z hZ; have k0 := ((show Below V.heap.size V Z from hZ).cell (World.block_lt_of_cell? V _ HC1.out)).trans HC1.out; go_simp; (try with_reducible rfl))) (h := ?_)
 refine tA 6 (h := ?_)
 refine tA 7 (h := ?_)
 refine oQ 4 (h := fun K4 hK4 => ?_)
 refine ow_u64_2 _ _ rfl n0 n1 rfl rfl ?_
 intro y4 p4 hl hd
 have F4 := Lib.hid hl
 refine hK4 _ _ ((show VS V _ from hS).keep hd) (fun hS4 => ?_)
 clear hl hd hS hK4 K4
 refine oQ 5 (h := fun K5 hK5 => ?_)
 go_simp
 refine (pb64 [] [n0, n1] HN.out none _ 0 _ _ (Lies.nil _ _ _ _) F4.out (by simp) (by simp)).mono ?_
 rintro e y5 ⟨v5, rfl, hv, hd⟩
 obtain ⟨A5, c5, rfl, -, hl⟩ := (own_of hv).lies
 replace F4 := Lib.hid (lies_on2 F4.out hd)
 have F5 := Lib.hid hl
 refine hK5 _ _ ((show VS V _ from hS4).keep hd) (fun hS5 => ?_)
 clear hv hd hl hS4 hK5 K5
 refine oQ 8 (h := fun K8 hK8 => ?_)
 go_simp
 refine (HR.out _ (show VS V _ from hS5)).mono ?_
 rintro e y8 ⟨v8, rfl, hv, hd⟩
 obtain ⟨A8, c8, rfl, -, hl⟩ := (own_of hv).lies
 replace F4 := Lib.hid (lies_on2 F4.out hd)
 replace F5 := Lib.hid (lies_on2 F5.out hd)
 have F8 := Lib.hid hl
 refine hK8 _ _ ((show VS V _ from hS5).keep hd) (fun hS8 => ?_)
 clear hv hd hl hS5 hK8 K8
 refine oQ 9 (h := fun K9 hK9 => ?_)
 refine ow_pt_2 _ _ rfl (A5, c5, [] ++ [n0, n1].flatMap (be 8)) (A8, c8, LE) rfl rfl ?_
 intro y9 p9 hl hd
 replace F4 := Lib.hid (lies_on2 F4.out hd)
 replace F5 := Lib.hid (lies_on2 F5.out hd)
 replace F8 := Lib.hid (lies_on2 F8.out hd)
 have F9 := Lib.hid hl
 refine hK9 _ _ ((show VS V _ from hS8).keep hd) (fun hS9 => ?_)
 clear hl hd hS8 hK9 K9
 refine oQ 10 (h := fun K10 hK10 => ?_)
 go_simp
 refine (cat_any [(A5, c5, [] ++ [n0, n1].flatMap (be 8)), (A8, c8, LE)] _ _ _ _ (Nat.le_refl _) F9.out (allc F5.out (allc F8.out (fun _ h => nomatch h))) (by have := HLL.out; simp [catAll, be_len]; omega) (by simp [maxLen])).mono ?_
 rintro e y10 ⟨v10, rfl, hv, hd⟩
 have HFIN := Lib.hid (And.intro hv (And.intro (show VS V _ from hS9) hd))
 refine hK10 _ _ ((show VS V _ from hS9).keep hd) (fun hS10 => ?_)
 clear hv hd  hS9 hK10 K10
 refine tA 11 (h := ?_)
 refine wpAnyH_done (by kernel_rfl) ?_ _
 clear hS10
 go_wp2
 go_ret
 exact HEND.out _ _ _ _ _ _ _ HFIN.out.1 HFIN.out.2.1 HFIN.out.2.2
end Go.Proofs.YtkaipknkjocfiaaGreat
