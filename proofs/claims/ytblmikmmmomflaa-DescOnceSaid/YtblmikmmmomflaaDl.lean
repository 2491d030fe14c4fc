/- Stage 18's laws, over what the code's functions answer. -/
import Derived.Laws.StructEq
import Derived.Laws.Small
import Derived.ChangeKeysEq
import Derived.Test.YtblmikmmmomflaaDb
namespace Go.Proofs.Ytblmikmmmomflaa
open Go.RowKit
attribute [local go_sem ↓ high] zeroDs

def dsEq (x y : Ds) : Bool := x.kind == y.kind && ((x.pa : Int) == (y.pa : Int) && (x.perm == y.perm && (x.mem == y.mem && (x.af == y.af && true))))
theorem dsEq_self (x : Ds) : dsEq x x = true := by simp [dsEq]
theorem eqF_nil {P : Program} (d : Nat) (xs ys : Array Value) (w : World) : (Op.eqFields (d + 1) xs ys []).run P w = .ok true w := by simp [Op.eqFields]
theorem eqF_cons {P : Program} (d : Nat) (xs ys : Array Value) (w : World) (f : Field) (fs : List Field) (hn : f.name ≠ "_") (v u : Value) (b r : Bool) (hp : (Go.part f.type xs f.offset).run P w = .ok v w) (hq : (Go.part f.type ys f.offset).run P w = .ok u w)
    (he : (Op.equalIn (d + 1) f.type v u).run P w = .ok b w) (hr : (Op.eqFields (d + 1) xs ys fs).run P w = .ok r w) : (Op.eqFields (d + 1) xs ys (f :: fs)).run P w = .ok (b && r) w := by
  unfold Op.eqFields
  rw [if_pos hn]
  simp only [Sem.run_bind, hp, hq, he, Result.andThen_ok]
  cases b
  · simp
  · simp only [Bool.not_true, Bool.false_eq_true, if_false, Bool.true_and]
    exact hr
theorem partU64 (xs : Array Value) (k : Nat) (v : Value) (h : xs[k]? = some v) (w : World) : (Go.part 22 xs k).run Try.prog w = .ok v w := by
  simp [Go.part, go_sem, Try.isAgg22, Try.sizeOf22, h]
theorem partI (xs : Array Value) (k : Nat) (v : Value) (h : xs[k]? = some v) (w : World) : (Go.part 3 xs k).run Try.prog w = .ok v w := by
  simp [Go.part, go_sem, Try.isAgg3, Try.sizeOf3, h]
theorem partB (xs : Array Value) (k : Nat) (v : Value) (h : xs[k]? = some v) (w : World) : (Go.part 4 xs k).run Try.prog w = .ok v w := by
  simp [Go.part, go_sem, Try.isAgg4, Try.sizeOf4, h]
set_option maxRecDepth 100000 in
theorem equalIn_ds (d : Nat) (x y : Ds) (w : World) : (Op.equalIn (d + 2) 25 (.agg (vec 5 (descE x))) (.agg (vec 5 (descE y)))).run Try.prog w = .ok (dsEq x y) w := by
  rw [run_equalIn_struct (P := Try.prog) w (d + 1) 25 _ _ (by kernel_rfl) (by kernel_rfl)]
  unfold Program.fieldsOf
  rw [Try.underlying25]
  exact eqF_cons _ _ _ w _ _ (by decide) _ _ _ _ (partI _ 0 _ (vec_at 5 _ 0 (by decide)) w) (partI _ 0 _ (vec_at 5 _ 0 (by decide)) w) (run_equalIn_int (P := Try.prog) w _ 3 .i64 .i64 _ _ Try.underlying3) (eqF_cons _ _ _ w _ _ (by decide) _ _ _ _ (partU64 _ 1 _ (vec_at 5 _ 1 (by decide)) w) (partU64 _ 1 _ (vec_at 5 _ 1 (by decide)) w) (run_equalIn_int (P := Try.prog) w _ 22 .u64 .u64 _ _ Try.underlying22) (eqF_cons _ _ _ w _ _ (by decide) _ _ _ _ (partI _ 2 _ (vec_at 5 _ 2 (by decide)) w) (partI _ 2 _ (vec_at 5 _ 2 (by decide)) w) (run_equalIn_int (P := Try.prog) w _ 3 .i64 .i64 _ _ Try.underlying3) (eqF_cons _ _ _ w _ _ (by decide) _ _ _ _ (partI _ 3 _ (vec_at 5 _ 3 (by decide)) w) (partI _ 3 _ (vec_at 5 _ 3 (by decide)) w) (run_equalIn_int (P := Try.prog) w _ 3 .i64 .i64 _ _ Try.underlying3) (eqF_cons _ _ _ w _ _ (by decide) _ _ _ _ (partB _ 4 _ (vec_at 5 _ 4 (by decide)) w) (partB _ 4 _ (vec_at 5 _ 4 (by decide)) w) (run_equalIn_bool (P := Try.prog) w _ 4 _ _ Try.underlying4) (eqF_nil _ _ _ w)))))
theorem eql_ds (x : Ds) (w : World) : (binOp .eql 25 (.agg (vec 5 (descE x))) (.agg (vec 5 (descE x)))).run Try.prog w = .ok (.bool true) w := by
  rw [run_eql_struct, equalIn_ds 9998, dsEq_self]; rfl
theorem exec_eql_ds {o : Oper} {a : Act} (x y : Operand) (t : TypeId) (ho : o.op = .binOp .eql 25 x y t) (p : Ds) (hx : a.eval x = .agg (vec 5 (descE p))) (hy : a.eval y = .agg (vec 5 (descE p))) (w : World) : (execOp a.eval o).run Try.prog w = .ok (.value (.bool true)) w := by
  unfold execOp
  simp only [ho, hx, hy, Sem.run_bind, Sem.run_pure, run_eqGuard_agg (P := Try.prog) w .eql 25 x y _ _ (by kernel_rfl), eql_ds, Result.andThen_ok]
theorem wl_exec18 {P : Program} {ops : Array Oper} {Q : Exit → Act → World → Prop} {a : Act} {w : World} {rest : List Oper} {o : Oper} {v : Value} (hw : Region.wanted o (yielded ops a.tmps) = true)
    (he : (execOp a.eval o).run P w = .ok (.value v) w) (h : wpList P ops Q rest (a.put o.dst v) w) : wpList P ops Q (o :: rest) a w :=
  wpList_step fun K hK => by
    simp only [hw, if_true]
    unfold Oper.wp
    rw [he]
    exact hK _ _ h
/-- The bounds of a descriptor's numbers. -/
structure DsB (d : Ds) : Prop where
  kind : -9223372036854775808 ≤ d.kind ∧ d.kind ≤ 9223372036854775807
  pa : d.pa < 2 ^ 64
  perm : -9223372036854775808 ≤ d.perm ∧ d.perm ≤ 9223372036854775807
  mem : -9223372036854775808 ≤ d.mem ∧ d.mem ≤ 9223372036854775807
def DsC (d : Ds) (W : World) (e : Ending) (w' : World) : Prop := e = .returned (.agg (vec 5 (descE d))) ∧ Below W.heap.size W w'
def NumC (n : Nat) (W : World) (e : Ending) (w' : World) : Prop := e = .returned (.int .u64 (n : Int)) ∧ Below W.heap.size W w'
def PutC (r : Nat × Nat) (W : World) (e : Ending) (w' : World) : Prop := e = .returned (.tuple #[.int .u64 (r.1 : Int), .int .i64 (r.2 : Int)]) ∧ Below W.heap.size W w'
def LevB (L : Int) : Prop := -9223372036854775808 ≤ L ∧ L ≤ 9223372036854775807
/-- What the code's functions answer. -/
def CodeOf : Prop := ∀ (L : Int) (w : Nat) (W : World), LevB L → w < 2 ^ 64 → Calls Try.prog 8 #[.int .i64 L, .int .u64 (w : Int)] W (DsC (ofP L w) W)
def CodeField : Prop := ∀ (w : Nat) (hi lo : Int) (W : World), w < 2 ^ 64 → LevB hi → LevB lo → Calls Try.prog 10 #[.int .u64 (w : Int), .int .i64 hi, .int .i64 lo] W (NumC (fieldP w hi lo) W)
def CodePut : Prop := ∀ (L : Int) (d : Ds) (W : World), LevB L → DsB d → Calls Try.prog 12 #[.int .i64 L, .agg (vec 5 (descE d))] W (PutC (putP L d) W)
theorem ofP_B (L : Int) (w : Nat) : DsB (ofP L w) := by
  have h1 : ∀ low, low ≤ 47 → bitsN w 47 low * 2 ^ low < 2 ^ 64 := fun low hl => by
    have h := bitsN_lt w 47 low
    have h2 : bitsN w 47 low * 2 ^ low < 2 ^ (47 + 1 - low) * 2 ^ low := Nat.mul_lt_mul_of_pos_right h (Nat.pos_of_ne_zero (by simp))
    rw [← Nat.pow_add, show 47 + 1 - low + low = 48 by omega] at h2
    exact Nat.lt_of_lt_of_le h2 (by decide)
  unfold ofP
  split
  · exact ⟨by decide, by decide, by decide, by decide⟩
  · split
    · exact ⟨by simp only; omega, h1 12 (by decide), by simp only; omega, by simp only; omega⟩
    · have h7 := bitsN_lt w 7 6
      unfold blockP
      refine ⟨by simp only; split <;> decide, h1 _ (by unfold lowP; split <;> (try split) <;> decide), ?_, by simp only; split <;> decide⟩
      simp only
      have : bitsN w 7 6 < 4 := h7
      omega
set_option maxRecDepth 100000 in
theorem awake18 (HO : CodeOf) (HP : CodePut) (W : World) : Calls Try.prog 7 #[] W fun e w' => e = .returned (.bool true) ∧ Below W.heap.size W w' := by
  have h1 : Hid (∀ Y, Calls Try.prog 12 #[.int .i64 3, .agg (vec 5 (descE ⟨3, 1073745920, 3, 0, true⟩))] Y fun e w' => e = .returned (.tuple #[.int .u64 18014399583229951, .int .i64 0]) ∧ Below Y.heap.size Y w') := Lib.hid fun Y => by
    have h := HP 3 ⟨3, 1073745920, 3, 0, true⟩ Y (by unfold LevB; decide) ⟨by decide, by decide, by decide, by decide⟩
    rw [show putP 3 ⟨3, 1073745920, 3, 0, true⟩ = (18014399583229951, 0) by decide +kernel] at h
    exact h
  have h2 : Hid (∀ Y, Calls Try.prog 8 #[.int .i64 2, .int .u64 1073741827] Y fun e w' => e = .returned (.agg (vec 5 (descE ⟨1, 1073741824, 0, 0, false⟩))) ∧ Below Y.heap.size Y w') := Lib.hid fun Y => by
    have h := HO 2 1073741827 Y (by unfold LevB; decide) (by decide)
    rw [show ofP 2 1073741827 = ⟨1, 1073741824, 0, 0, false⟩ by kernel_rfl] at h
    exact h
  go_enter Try.func7, Try.ntmps7
  go_upto_region 3 with (first
    | ((with_reducible show wpList _ _ _ (Oper.mk _ (.build _ _) _ _ _ _ :: _) _ _); refine wl_build rfl 25 _ rfl (vec 5 (descE ⟨3, 1073745920, 3, 0, true⟩)) (by kernel_rfl) ?_)
    | (go_at_call 12; refine (h1.out _).mono ?_; rintro e w1 ⟨rfl, hd⟩; have HD1 := Lib.hid hd; clear hd)
    | (go_at_call 8; refine (h2.out _).mono ?_; rintro e w2 ⟨rfl, hd⟩; have HD2 := Lib.hid hd; clear hd)
    | ((with_reducible show wpList _ _ _ (Oper.mk _ (.store 25 _ _) _ _ _ _ :: _) _ _); refine wl_store rfl 25 _ _ rfl _ rfl _ rfl (run_store_arr (Arr.new w2 _ _ _) (descE ⟨1, 1073741824, 0, 0, false⟩) infoDs (descE_one _)) ?_))
  obtain ⟨V, hV⟩ : ∃ V, V = (w2.alloc (.cells (vec 5 (descE zDs)) 25)).setRow w2.heap.size (vec 5 (descE ⟨1, 1073741824, 0, 0, false⟩)) := ⟨_, rfl⟩
  obtain ⟨r, hr⟩ : ∃ r, r = w2.heap.size := ⟨_, rfl⟩
  have ha : Arr V r 25 5 (descE ⟨1, 1073741824, 0, 0, false⟩) := by rw [hV, hr]; exact (Arr.new w2 _ _ _).row _
  have HB : Hid (Below W.heap.size W V) := Lib.hid (by
    have k1 := HD1.out.trans (HD2.out.mono HD1.out.size)
    rw [hV]
    exact below_row (k1.alloc k1.size _) k1.size _)
  rw [← hV, ← hr]
  have c0 : V.cell? ⟨r, 0, none⟩ = some (.int .i64 1) := ha.cell (i := 0) (by decide)
  have c1 : V.cell? ⟨r, 1, none⟩ = some (.int .u64 1073741824) := ha.cell (i := 1) (by decide)
  clear hV hr ha
  go_wp2_with fail
  go_ret
  exact ⟨rfl, HB.out⟩
set_option maxRecDepth 100000 in
theorem descReads_law (HO : CodeOf) (HP : CodePut) (L : Int) (hL : LevB L) (n : Nat) (hn : n < 2 ^ 64) (W : World) : Calls Try.prog 3 #[.int .i64 L, .int .u64 (n : Int)] W fun e w' => e = .returned (.bool true) ∧ Below W.heap.size W w' := by
  have HA := Lib.hid (awake18 HO HP)
  have h1 := HO L n
  have h2 := rof_any L n hn
  obtain ⟨D, hD⟩ : ∃ D, D = ofP L n := ⟨_, rfl⟩
  rw [← hD] at h1 h2
  have H1 : Hid (∀ Y, Calls Try.prog 8 #[.int .i64 L, .int .u64 (n : Int)] Y fun e w' => e = .returned (.agg (vec 5 (descE D))) ∧ Below Y.heap.size Y w') := Lib.hid fun Y => h1 Y hL hn
  have H2 := Lib.hid h2
  clear h1 h2 hD HO HP hL hn
  go_enter Try.func3, Try.ntmps3
  go_wp2_with (first
    | (go_at_call 7; refine (HA.out _).mono ?_; rintro e w1 ⟨rfl, hd⟩; have HD := Lib.hid hd; clear hd)
    | (go_at_call 8; refine (H1.out _).mono ?_; rintro e w2 ⟨rfl, hd⟩; have HD := Lib.hid (HD.out.trans (Below.mono hd HD.out.size)); clear hd)
    | (go_at_call 9; refine (H2.out _).mono ?_; rintro e w3 ⟨rfl, hd⟩; have HD := Lib.hid (HD.out.trans (Below.mono hd HD.out.size)); clear hd)
    | ((with_reducible show wpList _ _ _ (Oper.mk _ (.binOp .eql 25 _ _ _) _ _ _ _ :: _) _ _); refine wl_exec18 (by kernel_rfl) (exec_eql_ds _ _ _ rfl D rfl rfl _) ?_))
  go_ret
  exact ⟨rfl, HD.out⟩
set_option maxRecDepth 100000 in
theorem descFields_law (HO : CodeOf) (HP : CodePut) (HF : CodeField) (n : Nat) (hn : n < 2 ^ 64) (hi lo : Int) (h1 : LevB hi) (h2 : LevB lo) (W : World) : Calls Try.prog 4 #[.int .u64 (n : Int), .int .i64 hi, .int .i64 lo] W fun e w' => e = .returned (.bool true) ∧ Below W.heap.size W w' := by
  have HA := Lib.hid (awake18 HO HP)
  have k1 := HF n hi lo
  have k2 := rfield_any n hn hi lo
  obtain ⟨D, hD⟩ : ∃ D, D = fieldP n hi lo := ⟨_, rfl⟩
  rw [← hD] at k1 k2
  have H1 : Hid (∀ Y, Calls Try.prog 10 #[.int .u64 (n : Int), .int .i64 hi, .int .i64 lo] Y fun e w' => e = .returned (.int .u64 (D : Int)) ∧ Below Y.heap.size Y w') := Lib.hid fun Y => k1 Y hn h1 h2
  have H2 := Lib.hid k2
  have hdd : ((D : Int) == (D : Int)) = true := beq_self_eq_true _
  clear k1 k2 hD HO HP HF hn h1 h2
  go_enter Try.func4, Try.ntmps4
  go_wp2_with (first
    | (go_at_call 7; refine (HA.out _).mono ?_; rintro e w1 ⟨rfl, hd⟩; have HD := Lib.hid hd; clear hd)
    | (go_at_call 10; refine (H1.out _).mono ?_; rintro e w2 ⟨rfl, hd⟩; have HD := Lib.hid (HD.out.trans (Below.mono hd HD.out.size)); clear hd)
    | (go_at_call 11; refine (H2.out _).mono ?_; rintro e w3 ⟨rfl, rfl⟩))
  go_ret
  exact ⟨rfl, HD.out⟩
set_option maxRecDepth 100000 in
theorem descBack_law (HO : CodeOf) (HP : CodePut) (L : Int) (hL : LevB L) (D : Ds) (hd : DsB D) (W : World) : Calls Try.prog 5 #[.int .i64 L, .agg (vec 5 (descE D))] W fun e w' => e = .returned (.bool true) ∧ Below W.heap.size W w' := by
  have HA := Lib.hid (awake18 HO HP)
  have hback := @putP_back L D
  have hlt := (putP_lt L D).1
  have h1 : ∀ Y, Calls Try.prog 12 #[.int .i64 L, .agg (vec 5 (descE D))] Y (PutC (putP L D) Y) := fun Y => HP L D Y hL hd
  obtain ⟨R, hR⟩ : ∃ R, R = putP L D := ⟨_, rfl⟩
  rw [← hR] at hback hlt h1
  obtain ⟨q1, q2⟩ := R
  have H1 : Hid (∀ Y, Calls Try.prog 12 #[.int .i64 L, .agg (vec 5 (descE D))] Y fun e w' => e = .returned (.tuple #[.int .u64 (q1 : Int), .int .i64 (q2 : Int)]) ∧ Below Y.heap.size Y w') := Lib.hid h1
  have HOF : Hid (q2 = 0 → Hid (∀ Y, Calls Try.prog 8 #[.int .i64 L, .int .u64 (q1 : Int)] Y fun e w' => e = .returned (.agg (vec 5 (descE D))) ∧ Below Y.heap.size Y w')) := Lib.hid fun h => Lib.hid fun Y => by
    have k := HO L q1 Y hL hlt
    rw [hback h] at k
    exact k
  clear hback hlt h1 hR HO HP hL hd
  obtain ⟨V0, hV0⟩ : ∃ V, V = W.alloc (.cells (vec 5 (descE D)) 25) := ⟨_, rfl⟩
  obtain ⟨r, hr⟩ : ∃ r, r = W.heap.size := ⟨_, rfl⟩
  have HK0 : Hid (Arr V0 r 25 5 (descE D)) := Lib.hid (by rw [hV0, hr]; exact Arr.new _ _ _ _)
  have HBV : Hid (Below W.heap.size W V0) := Lib.hid (by rw [hV0]; exact (Below.refl _ _).alloc (Nat.le_refl _) _)
  have HV := Lib.hid hV0
  have HR := Lib.hid hr
  clear hV0 hr
  go_enter Try.func5, Try.ntmps5
  go_upto_region 1 with fail
  rw [← HV.out, ← HR.out]
  clear HV HR
  go_upto_region 3 with (go_at_call 7; refine (HA.out _).mono ?_; rintro e w1 ⟨rfl, hd⟩; have HD := Lib.hid hd; clear hd)
  go_upto_region 4 with (first
    | ((with_reducible show wpList _ _ _ (Oper.mk _ (.load 25 _) _ _ _ _ :: _) _ _); refine wl_load rfl 25 _ rfl r rfl _ (run_load_arr (HK0.out.under HD.out) Try.underlying25 rfl infoDs) ?_)
    | (go_at_call 12; refine (H1.out _).mono ?_; rintro e w2 ⟨rfl, hd⟩; have HD := Lib.hid (HD.out.trans (Below.mono hd HD.out.size)); clear hd))
  have HK := Lib.hid (HK0.out.under HD.out)
  have HB0 := Lib.hid (HBV.out.trans (HD.out.mono HBV.out.size))
  clear HK0 HBV HD H1
  rcases Nat.eq_zero_or_pos q2 with hq | hq
  · subst hq
    have H2 := HOF.out rfl
    have HBD : Hid (Below w2.heap.size w2 w2.drew) := Lib.hid (below_drewN (Below.refl _ _) 1)
    refine wp_region_held_drew (S := fun Y => Arr Y r 25 5 (descE D) ∧ Below w2.heap.size w2 Y) (by kernel_rfl) ⟨(show Arr w2.drew r 25 5 (descE D) from HK.out), HBD.out⟩ (fun hS => ?_)
    (refine held_take (i := 0) (oi := ?ot1) (v := ?vt1) ?at1 (by kernel_rfl) (by kernel_rfl) (by kernel_rfl) ?bt1 ?ct1 ?dt1 (by assumption) ?rt1; (case at1 => (simp only [List.getElem?_toArray, List.getElem?_cons_zero]; rfl)); (case bt1 => exact fun _ _ _ h => h); (case ct1 => kernel_rfl); (case dt1 => (intro W hW; clear hW; go_simp; (try with_reducible rfl))); (case' rt1 => simp only [Act.put, List.setIfInBounds_toArray, List.set_cons_zero, List.set_cons_succ]))
    (refine held_take (i := 1) (oi := ?ot2) (v := .bool false) ?at2 (by kernel_rfl) (by kernel_rfl) (by kernel_rfl) ?bt2 ?ct2 ?dt2 (by assumption) ?rt2; (case at2 => (simp only [List.getElem?_toArray, List.getElem?_cons_zero, List.getElem?_cons_succ]; rfl)); (case bt2 => exact fun _ _ _ h => h); (case ct2 => kernel_rfl); (case dt2 => (intro W hW; clear hW; go_simp; (try with_reducible rfl))); (case' rt2 => simp only [Act.put, List.setIfInBounds_toArray, List.set_cons_zero, List.set_cons_succ]))
    (refine held_take (i := 2) (oi := ?ot3) (v := .bool false) ?at3 (by kernel_rfl) (by kernel_rfl) (by kernel_rfl) ?bt3 ?ct3 ?dt3 (by assumption) ?rt3; (case at3 => (simp only [List.getElem?_toArray, List.getElem?_cons_zero, List.getElem?_cons_succ]; rfl)); (case bt3 => exact fun _ _ _ h => h); (case ct3 => kernel_rfl); (case dt3 => (intro W hW; clear hW; go_simp; (try with_reducible rfl))); (case' rt3 => simp only [Act.put, List.setIfInBounds_toArray, List.set_cons_zero, List.set_cons_succ]))
    (refine held_take (i := 3) (oi := ?ot4) (v := ?vt4) ?at4 (by kernel_rfl) (by kernel_rfl) (by kernel_rfl) ?bt4 ?ct4 ?dt4 (by assumption) ?rt4; (case at4 => (simp only [List.getElem?_toArray, List.getElem?_cons_zero, List.getElem?_cons_succ]; rfl)); (case bt4 => exact fun _ _ _ h => h); (case ct4 => kernel_rfl); (case dt4 => (intro W hW; clear hW; go_simp; (try with_reducible rfl))); (case' rt4 => simp only [Act.put, List.setIfInBounds_toArray, List.set_cons_zero, List.set_cons_succ]))
    (refine held_take (i := 4) (oi := ?ot5) (v := ?vt5) ?at5 (by kernel_rfl) (by kernel_rfl) (by kernel_rfl) ?bt5 ?ct5 ?dt5 (by assumption) ?rt5; (case at5 => (simp only [List.getElem?_toArray, List.getElem?_cons_zero, List.getElem?_cons_succ]; rfl)); (case bt5 => exact fun _ _ _ h => h); (case ct5 => kernel_rfl); (case dt5 => (intro W hW; clear hW; go_simp; (try with_reducible rfl))); (case' rt5 => simp only [Act.put, List.setIfInBounds_toArray, List.set_cons_zero, List.set_cons_succ]))
    (refine held_take (i := 6) (oi := ?ot6) (v := .agg (vec 5 (descE D))) ?at6 (by kernel_rfl) (by kernel_rfl) (by kernel_rfl) ?bt6 ?ct6 ?dt6 (by assumption) ?rt6; (case at6 => (simp only [List.getElem?_toArray, List.getElem?_cons_zero, List.getElem?_cons_succ]; rfl)); (case bt6 => exact fun _ _ _ h => h); (case ct6 => kernel_rfl); (case dt6 => (intro W hW; exact exec_load 25 _ rfl r rfl _ (run_load_arr hW.1 Try.underlying25 rfl infoDs))); (case' rt6 => simp only [Act.put, List.setIfInBounds_toArray, List.set_cons_zero, List.set_cons_succ]))
    refine held_one (i := 5) (oi := ?ot7) (by kernel_rfl) ?at7 ?ct7 (fun K5 hK5 => ?_)
    (case at7 => (simp only [List.getElem?_toArray, List.getElem?_cons_zero, List.getElem?_cons_succ]; rfl))
    (case ct7 => kernel_rfl)
    go_simp
    refine (H2.out _).mono ?_
    rintro e y5 ⟨rfl, hd⟩
    refine hK5 _ _ ⟨HK.out.under ((HBD.out.trans (hd.mono HBD.out.size))), HBD.out.trans (hd.mono HBD.out.size)⟩ (fun hS5 => ?_)
    have HEND : Hid (Below w2.heap.size w2 y5) := Lib.hid (HBD.out.trans (hd.mono HBD.out.size))
    clear hd hK5 K5
    (refine held_take (i := 7) (oi := ?ot8) (v := .bool true) ?at8 (by kernel_rfl) (by kernel_rfl) (by kernel_rfl) ?bt8 ?ct8 ?dt8 (by assumption) ?rt8; (case at8 => (simp only [List.getElem?_toArray, List.getElem?_cons_zero, List.getElem?_cons_succ]; rfl)); (case bt8 => exact fun _ _ _ h => h); (case ct8 => kernel_rfl); (case dt8 => (intro W hW; exact exec_eql_ds _ _ _ rfl D rfl rfl W)); (case' rt8 => simp only [Act.put, List.setIfInBounds_toArray, List.set_cons_zero, List.set_cons_succ]))
    (refine held_take (i := 8) (oi := ?ot9) (v := .bool true) ?at9 (by kernel_rfl) (by kernel_rfl) (by kernel_rfl) ?bt9 ?ct9 ?dt9 (by assumption) ?rt9; (case at9 => (simp only [List.getElem?_toArray, List.getElem?_cons_zero, List.getElem?_cons_succ]; rfl)); (case bt9 => exact fun _ _ _ h => h); (case ct9 => kernel_rfl); (case dt9 => (intro W hW; clear hW; go_simp; (try with_reducible rfl))); (case' rt9 => simp only [Act.put, List.setIfInBounds_toArray, List.set_cons_zero, List.set_cons_succ]))
    (refine held_take (i := 9) (oi := ?ot10) (v := ?vt10) ?at10 (by kernel_rfl) (by kernel_rfl) (by kernel_rfl) ?bt10 ?ct10 ?dt10 (by assumption) ?rt10; (case at10 => (simp only [List.getElem?_toArray, List.getElem?_cons_zero, List.getElem?_cons_succ]; rfl)); (case bt10 => exact fun _ _ _ h => h); (case ct10 => kernel_rfl); (case dt10 => (intro W hW; clear hW; go_simp; (try with_reducible rfl))); (case' rt10 => simp only [Act.put, List.setIfInBounds_toArray, List.set_cons_zero, List.set_cons_succ]))
    refine wpAnyH_done (by kernel_rfl) ?_ _
    go_wp2_with fail
    go_ret
    exact ⟨rfl, HB0.out.trans (HEND.out.mono HB0.out.size)⟩
  · have hn : ((q2 : Int) != 0) = true := by simp; omega
    have HBD : Hid (Below w2.heap.size w2 w2.drew) := Lib.hid (below_drewN (Below.refl _ _) 1)
    refine wp_region_held_drew (S := fun Y => Arr Y r 25 5 (descE D) ∧ Below w2.heap.size w2 Y) (by kernel_rfl) ⟨(show Arr w2.drew r 25 5 (descE D) from HK.out), HBD.out⟩ (fun hS => ?_)
    (refine held_take (i := 0) (oi := ?ot11) (v := ?vt11) ?at11 (by kernel_rfl) (by kernel_rfl) (by kernel_rfl) ?bt11 ?ct11 ?dt11 (by assumption) ?rt11; (case at11 => (simp only [List.getElem?_toArray, List.getElem?_cons_zero]; rfl)); (case bt11 => exact fun _ _ _ h => h); (case ct11 => kernel_rfl); (case dt11 => (intro W hW; clear hW; go_simp; (try with_reducible rfl))); (case' rt11 => simp only [Act.put, List.setIfInBounds_toArray, List.set_cons_zero, List.set_cons_succ]))
    (refine held_take (i := 1) (oi := ?ot12) (v := .bool true) ?at12 (by kernel_rfl) (by kernel_rfl) (by kernel_rfl) ?bt12 ?ct12 ?dt12 (by assumption) ?rt12; (case at12 => (simp only [List.getElem?_toArray, List.getElem?_cons_zero, List.getElem?_cons_succ]; rfl)); (case bt12 => exact fun _ _ _ h => h); (case ct12 => kernel_rfl); (case dt12 => (intro W hW; clear hW; go_simp; (try with_reducible rfl))); (case' rt12 => simp only [Act.put, List.setIfInBounds_toArray, List.set_cons_zero, List.set_cons_succ]))
    (refine held_take (i := 2) (oi := ?ot13) (v := .bool true) ?at13 (by kernel_rfl) (by kernel_rfl) (by kernel_rfl) ?bt13 ?ct13 ?dt13 (by assumption) ?rt13; (case at13 => (simp only [List.getElem?_toArray, List.getElem?_cons_zero, List.getElem?_cons_succ]; rfl)); (case bt13 => exact fun _ _ _ h => h); (case ct13 => kernel_rfl); (case dt13 => (intro W hW; clear hW; go_simp; (try with_reducible rfl))); (case' rt13 => simp only [Act.put, List.setIfInBounds_toArray, List.set_cons_zero, List.set_cons_succ]))
    (refine held_skip (i := 3) (oi := ?ot14) ?at14 (by kernel_rfl) (by kernel_rfl) (by kernel_rfl) ?bt14 ?ct14 (by assumption) ?rt14; (case at14 => (simp only [List.getElem?_toArray, List.getElem?_cons_zero, List.getElem?_cons_succ]; rfl)); (case bt14 => exact fun _ _ _ h => h); (case ct14 => kernel_rfl); (case' rt14 => simp only [Act.put, List.setIfInBounds_toArray, List.set_cons_zero, List.set_cons_succ]))
    (refine held_skip (i := 4) (oi := ?ot15) ?at15 (by kernel_rfl) (by kernel_rfl) (by kernel_rfl) ?bt15 ?ct15 (by assumption) ?rt15; (case at15 => (simp only [List.getElem?_toArray, List.getElem?_cons_zero, List.getElem?_cons_succ]; rfl)); (case bt15 => exact fun _ _ _ h => h); (case ct15 => kernel_rfl); (case' rt15 => simp only [Act.put, List.setIfInBounds_toArray, List.set_cons_zero, List.set_cons_succ]))
    (refine held_skip (i := 5) (oi := ?ot16) ?at16 (by kernel_rfl) (by kernel_rfl) (by kernel_rfl) ?bt16 ?ct16 (by assumption) ?rt16; (case at16 => (simp only [List.getElem?_toArray, List.getElem?_cons_zero, List.getElem?_cons_succ]; rfl)); (case bt16 => exact fun _ _ _ h => h); (case ct16 => kernel_rfl); (case' rt16 => simp only [Act.put, List.setIfInBounds_toArray, List.set_cons_zero, List.set_cons_succ]))
    (refine held_skip (i := 6) (oi := ?ot17) ?at17 (by kernel_rfl) (by kernel_rfl) (by kernel_rfl) ?bt17 ?ct17 (by assumption) ?rt17; (case at17 => (simp only [List.getElem?_toArray, List.getElem?_cons_zero, List.getElem?_cons_succ]; rfl)); (case bt17 => exact fun _ _ _ h => h); (case ct17 => kernel_rfl); (case' rt17 => simp only [Act.put, List.setIfInBounds_toArray, List.set_cons_zero, List.set_cons_succ]))
    (refine held_skip (i := 7) (oi := ?ot18) ?at18 (by kernel_rfl) (by kernel_rfl) (by kernel_rfl) ?bt18 ?ct18 (by assumption) ?rt18; (case at18 => (simp only [List.getElem?_toArray, List.getElem?_cons_zero, List.getElem?_cons_succ]; rfl)); (case bt18 => exact fun _ _ _ h => h); (case ct18 => kernel_rfl); (case' rt18 => simp only [Act.put, List.setIfInBounds_toArray, List.set_cons_zero, List.set_cons_succ]))
    (refine held_take (i := 8) (oi := ?ot19) (v := .bool true) ?at19 (by kernel_rfl) (by kernel_rfl) (by kernel_rfl) ?bt19 ?ct19 ?dt19 (by assumption) ?rt19; (case at19 => (simp only [List.getElem?_toArray, List.getElem?_cons_zero, List.getElem?_cons_succ]; rfl)); (case bt19 => exact fun _ _ _ h => h); (case ct19 => kernel_rfl); (case dt19 => (intro W hW; clear hW; go_simp; (try with_reducible rfl))); (case' rt19 => simp only [Act.put, List.setIfInBounds_toArray, List.set_cons_zero, List.set_cons_succ]))
    (refine held_take (i := 9) (oi := ?ot20) (v := ?vt20) ?at20 (by kernel_rfl) (by kernel_rfl) (by kernel_rfl) ?bt20 ?ct20 ?dt20 (by assumption) ?rt20; (case at20 => (simp only [List.getElem?_toArray, List.getElem?_cons_zero, List.getElem?_cons_succ]; rfl)); (case bt20 => exact fun _ _ _ h => h); (case ct20 => kernel_rfl); (case dt20 => (intro W hW; clear hW; go_simp; (try with_reducible rfl))); (case' rt20 => simp only [Act.put, List.setIfInBounds_toArray, List.set_cons_zero, List.set_cons_succ]))
    refine wpAnyH_done (by kernel_rfl) ?_ _
    go_wp2_with fail
    go_ret
    exact ⟨rfl, HB0.out.trans (HBD.out.mono HB0.out.size)⟩
set_option maxRecDepth 100000 in
theorem descOnce_law (HO : CodeOf) (HP : CodePut) (L : Int) (hL : LevB L) (n : Nat) (hn : n < 2 ^ 64) (W : World) : Calls Try.prog 6 #[.int .i64 L, .int .u64 (n : Int)] W fun e w' => e = .returned (.bool true) ∧ Below W.heap.size W w' := by
  have HA := Lib.hid (awake18 HO HP)
  obtain ⟨D, hD⟩ : ∃ D, D = ofP L n := ⟨_, rfl⟩
  have hd : DsB D := by rw [hD]; exact ofP_B L n
  have H0 : Hid (∀ Y, Calls Try.prog 8 #[.int .i64 L, .int .u64 (n : Int)] Y fun e w' => e = .returned (.agg (vec 5 (descE D))) ∧ Below Y.heap.size Y w') := Lib.hid fun Y => by rw [hD]; exact HO L n Y hL hn
  have hback := @putP_back L D
  have hlt := (putP_lt L D).1
  have h1 : ∀ Y, Calls Try.prog 12 #[.int .i64 L, .agg (vec 5 (descE D))] Y (PutC (putP L D) Y) := fun Y => HP L D Y hL hd
  obtain ⟨R, hR⟩ : ∃ R, R = putP L D := ⟨_, rfl⟩
  rw [← hR] at hback hlt h1
  obtain ⟨q1, q2⟩ := R
  have H1 : Hid (∀ Y, Calls Try.prog 12 #[.int .i64 L, .agg (vec 5 (descE D))] Y fun e w' => e = .returned (.tuple #[.int .u64 (q1 : Int), .int .i64 (q2 : Int)]) ∧ Below Y.heap.size Y w') := Lib.hid h1
  have HOF : Hid (q2 = 0 → Hid (∀ Y, Calls Try.prog 8 #[.int .i64 L, .int .u64 (q1 : Int)] Y fun e w' => e = .returned (.agg (vec 5 (descE D))) ∧ Below Y.heap.size Y w')) := Lib.hid fun h => Lib.hid fun Y => by
    have k := HO L q1 Y hL hlt
    rw [hback h] at k
    exact k
  clear hback hlt h1 hR HO HP hL hd hD hn
  go_enter Try.func6, Try.ntmps6
  go_upto_region 3 with (go_at_call 7; refine (HA.out _).mono ?_; rintro e w1 ⟨rfl, hd⟩; have HD := Lib.hid hd; clear hd)
  go_upto_region 4 with (first
    | (go_at_call 8; refine (H0.out _).mono ?_; rintro e w2 ⟨rfl, hd⟩; have HD := Lib.hid (HD.out.trans (Below.mono hd HD.out.size)); clear hd)
    | ((with_reducible show wpList _ _ _ (Oper.mk _ (.store 25 _ _) _ _ _ _ :: _) _ _); refine wl_store rfl 25 _ _ rfl _ rfl _ rfl (run_store_arr (Arr.new w2 _ _ _) (descE D) infoDs (descE_one _)) ?_))
  obtain ⟨V0, hV0⟩ : ∃ V, V = (w2.alloc (.cells (vec 5 (descE zDs)) 25)).setRow w2.heap.size (vec 5 (descE D)) := ⟨_, rfl⟩
  obtain ⟨r, hr⟩ : ∃ r, r = w2.heap.size := ⟨_, rfl⟩
  have HK0 : Hid (Arr V0 r 25 5 (descE D)) := Lib.hid (by rw [hV0, hr]; exact (Arr.new w2 _ _ _).row _)
  have HBV : Hid (Below W.heap.size W V0) := Lib.hid (by rw [hV0]; exact below_row (HD.out.alloc HD.out.size _) HD.out.size _)
  rw [← hV0, ← hr]
  clear hV0 hr HD
  have HD : Hid (Below V0.heap.size V0 V0) := Lib.hid (Below.refl _ _)
  go_upto_region 5 with (first
    | ((with_reducible show wpList _ _ _ (Oper.mk _ (.load 25 _) _ _ _ _ :: _) _ _); refine wl_load rfl 25 _ rfl r rfl _ (run_load_arr (HK0.out.under HD.out) Try.underlying25 rfl infoDs) ?_)
    | (go_at_call 12; refine (H1.out _).mono ?_; rintro e w3 ⟨rfl, hd⟩; have HD := Lib.hid (HD.out.trans (Below.mono hd HD.out.size)); clear hd))
  have HK := Lib.hid (HK0.out.under HD.out)
  have HB0 := Lib.hid (HBV.out.trans (HD.out.mono HBV.out.size))
  clear HK0 HBV HD H1 H0
  rcases Nat.eq_zero_or_pos q2 with hq | hq
  · subst hq
    have H2 := HOF.out rfl
    have HBD : Hid (Below w3.heap.size w3 w3.drew) := Lib.hid (below_drewN (Below.refl _ _) 1)
    refine wp_region_held_drew (S := fun Y => Arr Y r 25 5 (descE D) ∧ Below w3.heap.size w3 Y) (by kernel_rfl) ⟨(show Arr w3.drew r 25 5 (descE D) from HK.out), HBD.out⟩ (fun hS => ?_)
    (refine held_take (i := 0) (oi := ?ot21) (v := ?vt21) ?at21 (by kernel_rfl) (by kernel_rfl) (by kernel_rfl) ?bt21 ?ct21 ?dt21 (by assumption) ?rt21; (case at21 => (simp only [List.getElem?_toArray, List.getElem?_cons_zero]; rfl)); (case bt21 => exact fun _ _ _ h => h); (case ct21 => kernel_rfl); (case dt21 => (intro W hW; clear hW; go_simp; (try with_reducible rfl))); (case' rt21 => simp only [Act.put, List.setIfInBounds_toArray, List.set_cons_zero, List.set_cons_succ]))
    (refine held_take (i := 1) (oi := ?ot22) (v := .bool false) ?at22 (by kernel_rfl) (by kernel_rfl) (by kernel_rfl) ?bt22 ?ct22 ?dt22 (by assumption) ?rt22; (case at22 => (simp only [List.getElem?_toArray, List.getElem?_cons_zero, List.getElem?_cons_succ]; rfl)); (case bt22 => exact fun _ _ _ h => h); (case ct22 => kernel_rfl); (case dt22 => (intro W hW; clear hW; go_simp; (try with_reducible rfl))); (case' rt22 => simp only [Act.put, List.setIfInBounds_toArray, List.set_cons_zero, List.set_cons_succ]))
    (refine held_take (i := 2) (oi := ?ot23) (v := .bool false) ?at23 (by kernel_rfl) (by kernel_rfl) (by kernel_rfl) ?bt23 ?ct23 ?dt23 (by assumption) ?rt23; (case at23 => (simp only [List.getElem?_toArray, List.getElem?_cons_zero, List.getElem?_cons_succ]; rfl)); (case bt23 => exact fun _ _ _ h => h); (case ct23 => kernel_rfl); (case dt23 => (intro W hW; clear hW; go_simp; (try with_reducible rfl))); (case' rt23 => simp only [Act.put, List.setIfInBounds_toArray, List.set_cons_zero, List.set_cons_succ]))
    (refine held_take (i := 3) (oi := ?ot24) (v := ?vt24) ?at24 (by kernel_rfl) (by kernel_rfl) (by kernel_rfl) ?bt24 ?ct24 ?dt24 (by assumption) ?rt24; (case at24 => (simp only [List.getElem?_toArray, List.getElem?_cons_zero, List.getElem?_cons_succ]; rfl)); (case bt24 => exact fun _ _ _ h => h); (case ct24 => kernel_rfl); (case dt24 => (intro W hW; clear hW; go_simp; (try with_reducible rfl))); (case' rt24 => simp only [Act.put, List.setIfInBounds_toArray, List.set_cons_zero, List.set_cons_succ]))
    (refine held_take (i := 4) (oi := ?ot25) (v := ?vt25) ?at25 (by kernel_rfl) (by kernel_rfl) (by kernel_rfl) ?bt25 ?ct25 ?dt25 (by assumption) ?rt25; (case at25 => (simp only [List.getElem?_toArray, List.getElem?_cons_zero, List.getElem?_cons_succ]; rfl)); (case bt25 => exact fun _ _ _ h => h); (case ct25 => kernel_rfl); (case dt25 => (intro W hW; clear hW; go_simp; (try with_reducible rfl))); (case' rt25 => simp only [Act.put, List.setIfInBounds_toArray, List.set_cons_zero, List.set_cons_succ]))
    (refine held_take (i := 6) (oi := ?ot26) (v := .agg (vec 5 (descE D))) ?at26 (by kernel_rfl) (by kernel_rfl) (by kernel_rfl) ?bt26 ?ct26 ?dt26 (by assumption) ?rt26; (case at26 => (simp only [List.getElem?_toArray, List.getElem?_cons_zero, List.getElem?_cons_succ]; rfl)); (case bt26 => exact fun _ _ _ h => h); (case ct26 => kernel_rfl); (case dt26 => (intro W hW; exact exec_load 25 _ rfl r rfl _ (run_load_arr hW.1 Try.underlying25 rfl infoDs))); (case' rt26 => simp only [Act.put, List.setIfInBounds_toArray, List.set_cons_zero, List.set_cons_succ]))
    refine held_one (i := 5) (oi := ?ot27) (by kernel_rfl) ?at27 ?ct27 (fun K5 hK5 => ?_)
    (case at27 => (simp only [List.getElem?_toArray, List.getElem?_cons_zero, List.getElem?_cons_succ]; rfl))
    (case ct27 => kernel_rfl)
    go_simp
    refine (H2.out _).mono ?_
    rintro e y5 ⟨rfl, hd⟩
    refine hK5 _ _ ⟨HK.out.under ((HBD.out.trans (hd.mono HBD.out.size))), HBD.out.trans (hd.mono HBD.out.size)⟩ (fun hS5 => ?_)
    have HEND : Hid (Below w3.heap.size w3 y5) := Lib.hid (HBD.out.trans (hd.mono HBD.out.size))
    clear hd hK5 K5
    (refine held_take (i := 7) (oi := ?ot28) (v := .bool true) ?at28 (by kernel_rfl) (by kernel_rfl) (by kernel_rfl) ?bt28 ?ct28 ?dt28 (by assumption) ?rt28; (case at28 => (simp only [List.getElem?_toArray, List.getElem?_cons_zero, List.getElem?_cons_succ]; rfl)); (case bt28 => exact fun _ _ _ h => h); (case ct28 => kernel_rfl); (case dt28 => (intro W hW; exact exec_eql_ds _ _ _ rfl D rfl rfl W)); (case' rt28 => simp only [Act.put, List.setIfInBounds_toArray, List.set_cons_zero, List.set_cons_succ]))
    (refine held_take (i := 8) (oi := ?ot29) (v := .bool true) ?at29 (by kernel_rfl) (by kernel_rfl) (by kernel_rfl) ?bt29 ?ct29 ?dt29 (by assumption) ?rt29; (case at29 => (simp only [List.getElem?_toArray, List.getElem?_cons_zero, List.getElem?_cons_succ]; rfl)); (case bt29 => exact fun _ _ _ h => h); (case ct29 => kernel_rfl); (case dt29 => (intro W hW; clear hW; go_simp; (try with_reducible rfl))); (case' rt29 => simp only [Act.put, List.setIfInBounds_toArray, List.set_cons_zero, List.set_cons_succ]))
    (refine held_take (i := 9) (oi := ?ot30) (v := ?vt30) ?at30 (by kernel_rfl) (by kernel_rfl) (by kernel_rfl) ?bt30 ?ct30 ?dt30 (by assumption) ?rt30; (case at30 => (simp only [List.getElem?_toArray, List.getElem?_cons_zero, List.getElem?_cons_succ]; rfl)); (case bt30 => exact fun _ _ _ h => h); (case ct30 => kernel_rfl); (case dt30 => (intro W hW; clear hW; go_simp; (try with_reducible rfl))); (case' rt30 => simp only [Act.put, List.setIfInBounds_toArray, List.set_cons_zero, List.set_cons_succ]))
    refine wpAnyH_done (by kernel_rfl) ?_ _
    go_wp2_with fail
    go_ret
    exact ⟨rfl, HB0.out.trans (HEND.out.mono HB0.out.size)⟩
  · have hn : ((q2 : Int) != 0) = true := by simp; omega
    have HBD : Hid (Below w3.heap.size w3 w3.drew) := Lib.hid (below_drewN (Below.refl _ _) 1)
    refine wp_region_held_drew (S := fun Y => Arr Y r 25 5 (descE D) ∧ Below w3.heap.size w3 Y) (by kernel_rfl) ⟨(show Arr w3.drew r 25 5 (descE D) from HK.out), HBD.out⟩ (fun hS => ?_)
    (refine held_take (i := 0) (oi := ?ot31) (v := ?vt31) ?at31 (by kernel_rfl) (by kernel_rfl) (by kernel_rfl) ?bt31 ?ct31 ?dt31 (by assumption) ?rt31; (case at31 => (simp only [List.getElem?_toArray, List.getElem?_cons_zero]; rfl)); (case bt31 => exact fun _ _ _ h => h); (case ct31 => kernel_rfl); (case dt31 => (intro W hW; clear hW; go_simp; (try with_reducible rfl))); (case' rt31 => simp only [Act.put, List.setIfInBounds_toArray, List.set_cons_zero, List.set_cons_succ]))
    (refine held_take (i := 1) (oi := ?ot32) (v := .bool true) ?at32 (by kernel_rfl) (by kernel_rfl) (by kernel_rfl) ?bt32 ?ct32 ?dt32 (by assumption) ?rt32; (case at32 => (simp only [List.getElem?_toArray, List.getElem?_cons_zero, List.getElem?_cons_succ]; rfl)); (case bt32 => exact fun _ _ _ h => h); (case ct32 => kernel_rfl); (case dt32 => (intro W hW; clear hW; go_simp; (try with_reducible rfl))); (case' rt32 => simp only [Act.put, List.setIfInBounds_toArray, List.set_cons_zero, List.set_cons_succ]))
    (refine held_take (i := 2) (oi := ?ot33) (v := .bool true) ?at33 (by kernel_rfl) (by kernel_rfl) (by kernel_rfl) ?bt33 ?ct33 ?dt33 (by assumption) ?rt33; (case at33 => (simp only [List.getElem?_toArray, List.getElem?_cons_zero, List.getElem?_cons_succ]; rfl)); (case bt33 => exact fun _ _ _ h => h); (case ct33 => kernel_rfl); (case dt33 => (intro W hW; clear hW; go_simp; (try with_reducible rfl))); (case' rt33 => simp only [Act.put, List.setIfInBounds_toArray, List.set_cons_zero, List.set_cons_succ]))
    (refine held_skip (i := 3) (oi := ?ot34) ?at34 (by kernel_rfl) (by kernel_rfl) (by kernel_rfl) ?bt34 ?ct34 (by assumption) ?rt34; (case at34 => (simp only [List.getElem?_toArray, List.getElem?_cons_zero, List.getElem?_cons_succ]; rfl)); (case bt34 => exact fun _ _ _ h => h); (case ct34 => kernel_rfl); (case' rt34 => simp only [Act.put, List.setIfInBounds_toArray, List.set_cons_zero, List.set_cons_succ]))
    (refine held_skip (i := 4) (oi := ?ot35) ?at35 (by kernel_rfl) (by kernel_rfl) (by kernel_rfl) ?bt35 ?ct35 (by assumption) ?rt35; (case at35 => (simp only [List.getElem?_toArray, List.getElem?_cons_zero, List.getElem?_cons_succ]; rfl)); (case bt35 => exact fun _ _ _ h => h); (case ct35 => kernel_rfl); (case' rt35 => simp only [Act.put, List.setIfInBounds_toArray, List.set_cons_zero, List.set_cons_succ]))
    (refine held_skip (i := 5) (oi := ?ot36) ?at36 (by kernel_rfl) (by kernel_rfl) (by kernel_rfl) ?bt36 ?ct36 (by assumption) ?rt36; (case at36 => (simp only [List.getElem?_toArray, List.getElem?_cons_zero, List.getElem?_cons_succ]; rfl)); (case bt36 => exact fun _ _ _ h => h); (case ct36 => kernel_rfl); (case' rt36 => simp only [Act.put, List.setIfInBounds_toArray, List.set_cons_zero, List.set_cons_succ]))
    (refine held_skip (i := 6) (oi := ?ot37) ?at37 (by kernel_rfl) (by kernel_rfl) (by kernel_rfl) ?bt37 ?ct37 (by assumption) ?rt37; (case at37 => (simp only [List.getElem?_toArray, List.getElem?_cons_zero, List.getElem?_cons_succ]; rfl)); (case bt37 => exact fun _ _ _ h => h); (case ct37 => kernel_rfl); (case' rt37 => simp only [Act.put, List.setIfInBounds_toArray, List.set_cons_zero, List.set_cons_succ]))
    (refine held_skip (i := 7) (oi := ?ot38) ?at38 (by kernel_rfl) (by kernel_rfl) (by kernel_rfl) ?bt38 ?ct38 (by assumption) ?rt38; (case at38 => (simp only [List.getElem?_toArray, List.getElem?_cons_zero, List.getElem?_cons_succ]; rfl)); (case bt38 => exact fun _ _ _ h => h); (case ct38 => kernel_rfl); (case' rt38 => simp only [Act.put, List.setIfInBounds_toArray, List.set_cons_zero, List.set_cons_succ]))
    (refine held_take (i := 8) (oi := ?ot39) (v := .bool true) ?at39 (by kernel_rfl) (by kernel_rfl) (by kernel_rfl) ?bt39 ?ct39 ?dt39 (by assumption) ?rt39; (case at39 => (simp only [List.getElem?_toArray, List.getElem?_cons_zero, List.getElem?_cons_succ]; rfl)); (case bt39 => exact fun _ _ _ h => h); (case ct39 => kernel_rfl); (case dt39 => (intro W hW; clear hW; go_simp; (try with_reducible rfl))); (case' rt39 => simp only [Act.put, List.setIfInBounds_toArray, List.set_cons_zero, List.set_cons_succ]))
    (refine held_take (i := 9) (oi := ?ot40) (v := ?vt40) ?at40 (by kernel_rfl) (by kernel_rfl) (by kernel_rfl) ?bt40 ?ct40 ?dt40 (by assumption) ?rt40; (case at40 => (simp only [List.getElem?_toArray, List.getElem?_cons_zero, List.getElem?_cons_succ]; rfl)); (case bt40 => exact fun _ _ _ h => h); (case ct40 => kernel_rfl); (case dt40 => (intro W hW; clear hW; go_simp; (try with_reducible rfl))); (case' rt40 => simp only [Act.put, List.setIfInBounds_toArray, List.set_cons_zero, List.set_cons_succ]))
    refine wpAnyH_done (by kernel_rfl) ?_ _
    go_wp2_with fail
    go_ret
    exact ⟨rfl, HB0.out.trans (HBD.out.mono HB0.out.size)⟩
end Go.Proofs.Ytblmikmmmomflaa
