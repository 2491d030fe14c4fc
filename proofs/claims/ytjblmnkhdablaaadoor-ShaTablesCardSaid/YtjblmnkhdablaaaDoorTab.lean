/- The two tables. -/
import Derived.Test.YtjblmnkhdablaaaDoorArr
import Derived.KernelRfl
namespace Go.Proofs.YtjblmnkhdablaaaDoor
open Go.RowKit

section
variable {P : Program} {w w' : World} {ops : Array Oper} {rest : List Oper} {o : Oper} {a : Act} {Q : Exit → Act → World → Prop}
theorem results_cell1 {fn : Func} {p : Tmp} {ty : TypeId} (h : fn.results = #[.cell p ty]) (tmps : Array Value) (g : Nat) (v : Value)
    (ha : tmps.getD p undef = .pointer (some ⟨g, 0, none⟩)) (hl : (loadVar ty ⟨g, 0, none⟩).run P w = .ok v w) : (results fn tmps).run P w = .ok v w := by
  have hp' : tmps[p]?.getD undef = .pointer (some ⟨g, 0, none⟩) := by simpa using ha
  simp [results, h, hp', asAddr, hl]
theorem wl_load (hgd : o.guard = none) (ty : TypeId) (x : Operand) (ho : o.op = .load ty x) (g : Nat) (hx : a.eval x = .pointer (some ⟨g, 0, none⟩)) (v : Value)
    (hl : (loadVar ty ⟨g, 0, none⟩).run P w = .ok v w) (h : wpList P ops Q rest (a.put o.dst v) w) : wpList P ops Q (o :: rest) a w :=
  wpList_plain hgd fun K hK => by
    unfold Oper.wp execOp
    simp only [ho, hx, Instr.loadAt, Instr.sureAddr, Sem.run_bind, Sem.run_pure, Result.andThen_ok, hl]
    exact hK _ _ h
theorem exec_load (ty : TypeId) (x : Operand) (ho : o.op = .load ty x) (g : Nat) (hx : a.eval x = .pointer (some ⟨g, 0, none⟩)) (v : Value)
    (hl : (loadVar ty ⟨g, 0, none⟩).run P w = .ok v w) : (execOp a.eval o).run P w = .ok (.value v) w := by
  unfold execOp
  simp only [ho, hx, Instr.loadAt, Instr.sureAddr, Sem.run_bind, Sem.run_pure, Result.andThen_ok, hl]
theorem ow_store {K : Act → World → Prop} (ty : TypeId) (x y : Operand) (ho : o.op = .store ty x y) (g : Nat) (hx : a.eval x = .pointer (some ⟨g, 0, none⟩)) (v : Value) (hy : a.eval y = v)
    (hs : (storeVar ty ⟨g, 0, none⟩ v).run P w = .ok () w') (h : K (a.put o.dst undef) w') : o.wp P a w K Q := by
  unfold Oper.wp execOp
  simp only [ho, hx, hy, Instr.storeAt, Instr.sureAddr, Sem.run_bind, Sem.run_pure, Result.andThen_ok, hs]
  exact h
theorem wl_store (hgd : o.guard = none) (ty : TypeId) (x y : Operand) (ho : o.op = .store ty x y) (g : Nat) (hx : a.eval x = .pointer (some ⟨g, 0, none⟩)) (v : Value) (hy : a.eval y = v)
    (hs : (storeVar ty ⟨g, 0, none⟩ v).run P w = .ok () w') (h : wpList P ops Q rest (a.put o.dst undef) w') : wpList P ops Q (o :: rest) a w :=
  wpList_plain hgd fun K hK => by
    unfold Oper.wp execOp
    simp only [ho, hx, hy, Instr.storeAt, Instr.sureAddr, Sem.run_bind, Sem.run_pure, Result.andThen_ok, hs]
    exact hK _ _ h
end
theorem info34 : (Tryd.prog.info? 34).map (·.size) = some 8 := by kernel_rfl
theorem info32 : (Tryd.prog.info? 32).map (·.size) = some 64 := by kernel_rfl
def zw : Nat → W32 := fun _ => 0
theorem zeroV34 (w : World) : (zeroValue 34).run Tryd.prog w = .ok (.agg (vec 8 (wds zw))) w :=
  (zero_of_info (P := Tryd.prog) (t := 34) (v := .agg (vec 8 (wds zw))) (n := 8) (by kernel_rfl)).1 w
theorem zeroV32 (w : World) : (zeroValue 32).run Tryd.prog w = .ok (.agg (vec 64 (wds zw))) w :=
  (zero_of_info (P := Tryd.prog) (t := 32) (v := .agg (vec 64 (wds zw))) (n := 64) (by kernel_rfl)).1 w
theorem agg_cells (c : Array Value) : (Value.agg c).cells = c := rfl
theorem run_load_cells {P : Program} {w : World} {g n : Nat} {ty : TypeId} {d : TypeDesc} {f : Nat → Value} (h : ∀ i, i < n → w.cell? ⟨g, i, none⟩ = some (f i)) (hu : P.underlying ty = some d)
    (hd : (match d with | .struct _ | .array _ _ => true | _ => false) = true) (hi : (P.info? ty).map (·.size) = some n) :
    (loadVar ty ⟨g, 0, none⟩).run P w = .ok (.agg (vec n f)) w := by
  have hl : (loadCells ⟨g, 0, none⟩ (vec n f).toList.length).run P w = .ok (vec n f).toList.toArray w :=
    run_loadCells_list (P := P) w ⟨g, 0, none⟩ (vec n f).toList (fun j v hv => by
      have hadd : (⟨g, 0, none⟩ : Addr).add j = ⟨g, j, none⟩ := by unfold Addr.add; split <;> simp_all
      have hj : j < n := by
        have := (List.getElem?_eq_some_iff.1 hv).1
        simpa [vec] using this
      have hv2 : (vec n f)[j]? = some v := by simpa using hv
      rw [vec_at n f j hj] at hv2
      rw [hadd, h j hj, hv2])
  cases hq : P.info? ty with
  | none => simp [hq] at hi
  | some i =>
    have hs : i.size = n := by simpa [hq] using hi
    have hagg : (isAgg ty).run P w = .ok true w := by
      unfold isAgg
      rw [Sem.run_bind, run_underlying hu w]
      cases d <;> simp_all
    have hz : (vec n f).size = n := vec_size n f
    simp only [Array.length_toList, Array.toArray_toList] at hl
    rw [hz] at hl
    simp [loadVar, Sem.run_bind, hagg, sizeOf, typeInfo, hq, hs, hl]

def Kl : List W32 := [1116352408, 1899447441, 3049323471, 3921009573, 961987163, 1508970993, 2453635748, 2870763221, 3624381080, 310598401, 607225278, 1426881987, 1925078388, 2162078206, 2614888103, 3248222580, 3835390401, 4022224774, 264347078, 604807628, 770255983, 1249150122, 1555081692, 1996064986, 2554220882, 2821834349, 2952996808, 3210313671, 3336571891, 3584528711, 113926993, 338241895, 666307205, 773529912, 1294757372, 1396182291, 1695183700, 1986661051, 2177026350, 2456956037, 2730485921, 2820302411, 3259730800, 3345764771, 3516065817, 3600352804, 4094571909, 275423344, 430227734, 506948616, 659060556, 883997877, 958139571, 1322822218, 1537002063, 1747873779, 1955562222, 2024104815, 2227730452, 2361852424, 2428436474, 2756734187, 3204031479, 3329325298]
def Hl : List W32 := [1779033703, 3144134277, 1013904242, 2773480762, 1359893119, 2600822924, 528734635, 1541459225]
def Kt (i : Nat) : W32 := Kl.getD i 0
def H0 (i : Nat) : W32 := Hl.getD i 0
/-- The two tables, as they stand when a call begins. -/
def Tabs (w : World) : Prop := (∀ i, i < 64 → w.cell? ⟨0, i, none⟩ = some (wds Kt i)) ∧ (∀ i, i < 8 → w.cell? ⟨1, i, none⟩ = some (wds H0 i))
theorem tabs_below {w w' : World} (h : Tabs w) (hb : Below w.heap.size w w') : Tabs w' :=
  ⟨fun i hi => (hb.cell (World.block_lt_of_cell? w _ (h.1 i hi))).trans (h.1 i hi), fun i hi => (hb.cell (World.block_lt_of_cell? w _ (h.2 i hi))).trans (h.2 i hi)⟩
theorem tab_lt0 {w : World} (h : Tabs w) : 0 < w.heap.size := World.block_lt_of_cell? w _ (h.1 0 (by decide))

attribute [local go_sem ↓ high] zeroV32 zeroV34
theorem init_any (w : World) (hT : Tabs w) :
    Calls Tryd.prog 15 #[] w fun e w' => e = .returned (.agg (vec 8 (wds H0))) ∧ Below w.heap.size w w' := by
  have hA : Arr (w.alloc (.cells (vec 8 (wds zw)) 34)) w.heap.size 34 8 (wds zw) := Arr.new w _ _ _
  have hL : (loadVar 34 ⟨1, 0, none⟩).run Tryd.prog (w.alloc (.cells (vec 8 (wds zw)) 34)) = .ok (.agg (vec 8 (wds H0))) (w.alloc (.cells (vec 8 (wds zw)) 34)) :=
    run_load_cells (tabs_below hT ((Below.refl _ _).alloc (Nat.le_refl _) _)).2 Tryd.underlying34 rfl info34
  have HA := Lib.hid hA
  have HL := Lib.hid hL
  clear hA hL hT
  go_enter Tryd.func15, Tryd.ntmps15
  go_wp2_with (first
    | (refine wl_load rfl 34 _ rfl _ rfl _ HL.out ?_)
    | (refine wl_store rfl 34 _ _ rfl _ rfl _ rfl (run_store_arr HA.out (wds H0) info34 (wds_one _ _)) ?_))
  refine bodyPost_ret (results_cell1 rfl _ _ _ rfl (run_load_arr (HA.out.row _) Tryd.underlying34 rfl info34)) rfl ⟨rfl, ?_⟩
  exact below_row ((Below.refl _ _).alloc (Nat.le_refl _) _) (Nat.le_refl _) _
theorem table_any (w : World) (hT : Tabs w) :
    Calls Tryd.prog 14 #[] w fun e w' => e = .returned (.agg (vec 64 (wds Kt))) ∧ Below w.heap.size w w' := by
  have hA : Arr (w.alloc (.cells (vec 64 (wds zw)) 32)) w.heap.size 32 64 (wds zw) := Arr.new w _ _ _
  have hL : (loadVar 32 ⟨0, 0, none⟩).run Tryd.prog (w.alloc (.cells (vec 64 (wds zw)) 32)) = .ok (.agg (vec 64 (wds Kt))) (w.alloc (.cells (vec 64 (wds zw)) 32)) :=
    run_load_cells (tabs_below hT ((Below.refl _ _).alloc (Nat.le_refl _) _)).1 Tryd.underlying32 rfl info32
  have HA := Lib.hid hA
  have HL := Lib.hid hL
  clear hA hL hT
  go_enter Tryd.func14, Tryd.ntmps14
  go_wp2_with (first
    | (refine wl_load rfl 32 _ rfl _ rfl _ HL.out ?_)
    | (refine wl_store rfl 32 _ _ rfl _ rfl _ rfl (run_store_arr HA.out (wds Kt) info32 (wds_one _ _)) ?_))
  refine bodyPost_ret (results_cell1 rfl _ _ _ rfl (run_load_arr (HA.out.row _) Tryd.underlying32 rfl info32)) rfl ⟨rfl, ?_⟩
  exact below_row ((Below.refl _ _).alloc (Nat.le_refl _) _) (Nat.le_refl _) _
end Go.Proofs.YtjblmnkhdablaaaDoor
