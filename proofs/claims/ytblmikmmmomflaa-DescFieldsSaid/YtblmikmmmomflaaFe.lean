/- The code's Put; the laws of stage 18. -/
import Derived.Test.YtblmikmmmomflaaFd
namespace Go.Proofs.Ytblmikmmmomflaa
open Go.RowKit
attribute [local go_sem ↓ high] zeroDs zeroPl zeroFld builtin_appS
theorem lv_no {L : Int} {d : Ds} (h : L < 1 ∨ 3 < L ∨ 1099511627776 ≤ d.pa) : isPut L d = false := by
  unfold isPut inLv
  rw [show (decide (1 ≤ L) && (decide (L ≤ 3) && decide (d.pa < 1099511627776))) = false by
    rw [← Bool.not_eq_true]
    simp only [Bool.and_eq_true, decide_eq_true_eq]
    omega]
  rfl
theorem lv_yes {L : Int} {d : Ds} (h : 1 ≤ L ∧ L ≤ 3) (hp : d.pa < 1099511627776) : inLv L d = true := by
  unfold inLv
  simp only [Bool.and_eq_true, decide_eq_true_eq]
  omega
theorem put_none {L : Int} {pa : Nat} {pm mm : Int} {af : Bool} (h : 1 ≤ L ∧ L ≤ 3) (hp : pa < 1099511627776) : isPut L ⟨0, pa, pm, mm, af⟩ = dsEq ⟨0, pa, pm, mm, af⟩ zDs := by
  unfold isPut
  rw [lv_yes h hp]
  have hz : (pa == 0) = ((pa : Int) == 0) := by rw [Bool.eq_iff_iff]; simp only [beq_iff_eq]; omega
  cases af <;> simp [isNone, dsEq, zDs, hz]
theorem put_table {L : Int} {pa : Nat} {pm mm : Int} {af : Bool} (h : 1 ≤ L ∧ L ≤ 3) (hp : pa < 1099511627776) : isPut L ⟨1, pa, pm, mm, af⟩ = (decide (L < 3) && (pa % 4096 == 0 && dsEq ⟨1, pa, pm, mm, af⟩ ⟨1, pa, 0, 0, false⟩)) := by
  unfold isPut
  rw [lv_yes h hp]
  have h3 : (L == 3) = !decide (L < 3) := by
    by_cases h3 : L = 3
    · simp [h3]
    · have : L < 3 := by omega
      simp [h3, this]
  cases af <;> simp [isNone, isTab, dsEq, h3]
theorem mem_two (mm : Int) : (decide (0 ≤ mm) && decide (mm ≤ 1)) = (mm == 0 || mm == 1) := by
  rw [Bool.eq_iff_iff]
  simp only [Bool.and_eq_true, Bool.or_eq_true, decide_eq_true_eq, beq_iff_eq]
  omega
theorem put_block {L : Int} {pa : Nat} {pm mm : Int} {af : Bool} (h : 1 ≤ L ∧ L ≤ 3) (hp : pa < 1099511627776) : isPut L ⟨2, pa, pm, mm, af⟩ = (decide (L < 3) && mapB L ⟨2, pa, pm, mm, af⟩) := by
  unfold isPut
  rw [lv_yes h hp]
  have h3 : (L == 3) = !decide (L < 3) := by
    by_cases h3 : L = 3
    · simp [h3]
    · have : L < 3 := by omega
      simp [h3, this]
  simp [isNone, isBlk, mapB, h3, ← mem_two, Bool.and_assoc]
theorem put_page {L : Int} {pa : Nat} {pm mm : Int} {af : Bool} (h : 1 ≤ L ∧ L ≤ 3) (hp : pa < 1099511627776) : isPut L ⟨3, pa, pm, mm, af⟩ = ((L == 3) && mapB L ⟨3, pa, pm, mm, af⟩) := by
  unfold isPut
  rw [lv_yes h hp]
  simp [isNone, isBlk, mapB, ← mem_two, Bool.and_assoc]
theorem put_other {L : Int} {d : Ds} (h : ¬ d.kind = 0 ∧ ¬ d.kind = 1 ∧ ¬ d.kind = 2 ∧ ¬ d.kind = 3) : isPut L d = false := by
  unfold isPut isNone
  simp [h.1, h.2.1, h.2.2.1, h.2.2.2]
theorem exec_eq_ds {o : Oper} {a : Act} (x y : Operand) (t : TypeId) (ho : o.op = .binOp .eql 25 x y t) (p q : Ds) (hx : a.eval x = .agg (vec 5 (descE p))) (hy : a.eval y = .agg (vec 5 (descE q))) (w : World) : (execOp a.eval o).run Try.prog w = .ok (.value (.bool (dsEq p q))) w := by
  unfold execOp
  simp only [ho, hx, hy, Sem.run_bind, Sem.run_pure, run_eqGuard_agg (P := Try.prog) w .eql 25 x y _ _ (by kernel_rfl), run_eql_struct, equalIn_ds 9998, Result.andThen_ok]
theorem load_ds {w : World} {r : Nat} {d : Ds} {L : Int} (h : Arr w r 35 6 (plE d L)) : (loadVar 25 ⟨r, 0, none⟩).run Try.prog w = .ok (.agg (vec 5 (descE d))) w :=
  run_load_cells (fun i hi => (h.cell (i := i) (by omega)).trans (by rcases (by omega : i = 0 ∨ i = 1 ∨ i = 2 ∨ i = 3 ∨ i = 4) with rfl | rfl | rfl | rfl | rfl <;> rfl)) Try.underlying25 rfl infoDs
set_option maxRecDepth 100000 in
set_option maxHeartbeats 1000000 in
theorem mayBeA (L : Int) (hL : L < 1 ∨ 3 < L) (kd : Int) (pa : Nat) (pm mm : Int) (af : Bool) (W : World) : Calls Try.prog 14 #[.agg (vec 6 (plE ⟨kd, pa, pm, mm, af⟩ L))] W fun e w' => e = .returned (.bool false) ∧ Below W.heap.size W w' := by
  have HS : Hid (∀ W, Calls Try.prog 23 #[.int .i64 L] W fun e w' => e = .returned (.int .u64 (0 : Int)) ∧ w' = W) := Lib.hid fun W => by have h := size_any L W; rw [show sizeP L = 0 by unfold sizeP; rw [if_neg (by omega), if_neg (by omega), if_neg (by omega)]] at h; exact h
  obtain ⟨r, hr⟩ : ∃ r, r = W.heap.size := ⟨_, rfl⟩
  obtain ⟨V1, hV⟩ : ∃ V, V = W.alloc (.cells (vec 6 (plE ⟨kd, pa, pm, mm, af⟩ L)) 35) := ⟨_, rfl⟩
  have ar : Arr V1 r 35 6 (plE ⟨kd, pa, pm, mm, af⟩ L) := by rw [hV, hr]; exact Arr.new _ _ _ _
  have HAR := Lib.hid ar
  have HB0 : Hid (Below W.heap.size W V1) := Lib.hid (by rw [hV]; exact (Below.refl _ _).alloc (Nat.le_refl _) _)
  have c0 : V1.cell? ⟨r, 0, none⟩ = some (.int .i64 kd) := ar.cell (i := 0) (by decide)
  have c1 : V1.cell? ⟨r, 1, none⟩ = some (.int .u64 (pa : Int)) := ar.cell (i := 1) (by decide)
  have c5 : V1.cell? ⟨r, 5, none⟩ = some (.int .i64 L) := ar.cell (i := 5) (by decide)
  have HV := Lib.hid hV
  have HR := Lib.hid hr
  clear hV hr ar
  clear hL
  go_enter Try.func14, Try.ntmps14
  go_upto_region 1 with fail
  rw [← HV.out, ← HR.out]
  clear HV HR
  go_wp2_with (go_at_call 23; refine (HS.out _).mono ?_; rintro e w1 ⟨rfl, hw1⟩; rw [hw1]; clear hw1)
  go_ret
  exact ⟨rfl, HB0.out⟩
set_option maxRecDepth 100000 in
set_option maxHeartbeats 1000000 in
theorem mayBeB (L : Int) (hL : 1 ≤ L ∧ L ≤ 3) (kd : Int) (pa : Nat) (hp : 1099511627776 ≤ pa) (pm mm : Int) (af : Bool) (W : World) : Calls Try.prog 14 #[.agg (vec 6 (plE ⟨kd, pa, pm, mm, af⟩ L))] W fun e w' => e = .returned (.bool false) ∧ Below W.heap.size W w' := by
  have HS : Hid (∀ W, Calls Try.prog 23 #[.int .i64 L] W fun e w' => e = .returned (.int .u64 ((sizeP L : Nat) : Int)) ∧ w' = W) := Lib.hid fun W => by exact size_any L W
  have hs : 0 < sizeP L := by rcases (by omega : L = 1 ∨ L = 2 ∨ L = 3) with rfl | rfl | rfl <;> decide
  obtain ⟨s, hs2⟩ : ∃ s, s = sizeP L := ⟨_, rfl⟩
  rw [← hs2] at HS hs
  have hs0 : ((s : Int) == 0) = false := by simp; omega
  clear hs2 hs
  have p1 : decide ((1099511627776 : Int) ≤ (pa : Int)) = true := by simp; omega
  have p2 : (1099511627776 : Int) ≤ (pa : Int) := by omega
  obtain ⟨r, hr⟩ : ∃ r, r = W.heap.size := ⟨_, rfl⟩
  obtain ⟨V1, hV⟩ : ∃ V, V = W.alloc (.cells (vec 6 (plE ⟨kd, pa, pm, mm, af⟩ L)) 35) := ⟨_, rfl⟩
  have ar : Arr V1 r 35 6 (plE ⟨kd, pa, pm, mm, af⟩ L) := by rw [hV, hr]; exact Arr.new _ _ _ _
  have HAR := Lib.hid ar
  have HB0 : Hid (Below W.heap.size W V1) := Lib.hid (by rw [hV]; exact (Below.refl _ _).alloc (Nat.le_refl _) _)
  have c0 : V1.cell? ⟨r, 0, none⟩ = some (.int .i64 kd) := ar.cell (i := 0) (by decide)
  have c1 : V1.cell? ⟨r, 1, none⟩ = some (.int .u64 (pa : Int)) := ar.cell (i := 1) (by decide)
  have c5 : V1.cell? ⟨r, 5, none⟩ = some (.int .i64 L) := ar.cell (i := 5) (by decide)
  have HV := Lib.hid hV
  have HR := Lib.hid hr
  clear hV hr ar
  clear hL
  go_enter Try.func14, Try.ntmps14
  go_upto_region 1 with fail
  rw [← HV.out, ← HR.out]
  clear HV HR
  go_wp2_with (go_at_call 23; refine (HS.out _).mono ?_; rintro e w1 ⟨rfl, hw1⟩; rw [hw1]; clear hw1)
  go_ret
  exact ⟨rfl, HB0.out⟩
set_option maxRecDepth 100000 in
set_option maxHeartbeats 1000000 in
theorem mayBeC (L : Int) (hL : 1 ≤ L ∧ L ≤ 3) (pa : Nat) (hp : pa < 1099511627776) (pm mm : Int) (af : Bool) (W : World) : Calls Try.prog 14 #[.agg (vec 6 (plE ⟨0, pa, pm, mm, af⟩ L))] W fun e w' => e = .returned (.bool (dsEq ⟨0, pa, pm, mm, af⟩ zDs)) ∧ Below W.heap.size W w' := by
  have HS : Hid (∀ W, Calls Try.prog 23 #[.int .i64 L] W fun e w' => e = .returned (.int .u64 ((sizeP L : Nat) : Int)) ∧ w' = W) := Lib.hid fun W => by exact size_any L W
  have hs : 0 < sizeP L := by rcases (by omega : L = 1 ∨ L = 2 ∨ L = 3) with rfl | rfl | rfl <;> decide
  obtain ⟨s, hs2⟩ : ∃ s, s = sizeP L := ⟨_, rfl⟩
  rw [← hs2] at HS hs
  have hs0 : ((s : Int) == 0) = false := by simp; omega
  clear hs2 hs
  have p1 : decide ((1099511627776 : Int) ≤ (pa : Int)) = false := by simp; omega
  have p2 : ¬ (1099511627776 : Int) ≤ (pa : Int) := by omega
  have p3 : ¬ 1099511627776 ≤ pa := by omega
  obtain ⟨r, hr⟩ : ∃ r, r = W.heap.size := ⟨_, rfl⟩
  obtain ⟨V1, hV⟩ : ∃ V, V = W.alloc (.cells (vec 6 (plE ⟨0, pa, pm, mm, af⟩ L)) 35) := ⟨_, rfl⟩
  have ar : Arr V1 r 35 6 (plE ⟨0, pa, pm, mm, af⟩ L) := by rw [hV, hr]; exact Arr.new _ _ _ _
  have HAR := Lib.hid ar
  have HB0 : Hid (Below W.heap.size W V1) := Lib.hid (by rw [hV]; exact (Below.refl _ _).alloc (Nat.le_refl _) _)
  have c0 : V1.cell? ⟨r, 0, none⟩ = some (.int .i64 0) := ar.cell (i := 0) (by decide)
  have c1 : V1.cell? ⟨r, 1, none⟩ = some (.int .u64 (pa : Int)) := ar.cell (i := 1) (by decide)
  have c5 : V1.cell? ⟨r, 5, none⟩ = some (.int .i64 L) := ar.cell (i := 5) (by decide)
  have HV := Lib.hid hV
  have HR := Lib.hid hr
  clear hV hr ar
  clear hL hp
  go_enter Try.func14, Try.ntmps14
  go_upto_region 1 with fail
  rw [← HV.out, ← HR.out]
  clear HV HR
  go_wp2_with (first
    | (go_at_call 23; refine (HS.out _).mono ?_; rintro e w1 ⟨rfl, hw1⟩; rw [hw1]; clear hw1)
    | ((with_reducible show wpList _ _ _ (Oper.mk _ (.load 25 _) _ _ _ _ :: _) _ _); refine wl_exec18 (by kernel_rfl) (exec_load 25 _ rfl r rfl _ (load_ds HAR.out)) ?_)
    | ((with_reducible show wpList _ _ _ (Oper.mk _ (.build _ _) _ _ _ _ :: _) _ _); refine wl_exec18 (by kernel_rfl) (exec_build 25 _ rfl (vec 5 (descE zDs)) (by kernel_rfl) _) ?_)
    | ((with_reducible show wpList _ _ _ (Oper.mk _ (.binOp .eql 25 _ _ _) _ _ _ _ :: _) _ _); refine wl_exec18 (by kernel_rfl) (exec_eq_ds _ _ _ rfl ⟨0, pa, pm, mm, af⟩ zDs rfl rfl _) ?_))
  go_ret
  exact ⟨rfl, HB0.out⟩
set_option maxRecDepth 100000 in
set_option maxHeartbeats 1000000 in
theorem mayBeD1 (L : Int) (hL : 1 ≤ L ∧ L ≤ 3) (pa : Nat) (hp : pa < 1099511627776) (pm mm : Int) (af : Bool) (hl : ¬ L < 3) (W : World) : Calls Try.prog 14 #[.agg (vec 6 (plE ⟨1, pa, pm, mm, af⟩ L))] W fun e w' => e = .returned (.bool false) ∧ Below W.heap.size W w' := by
  have HS : Hid (∀ W, Calls Try.prog 23 #[.int .i64 L] W fun e w' => e = .returned (.int .u64 ((sizeP L : Nat) : Int)) ∧ w' = W) := Lib.hid fun W => by exact size_any L W
  have hs : 0 < sizeP L := by rcases (by omega : L = 1 ∨ L = 2 ∨ L = 3) with rfl | rfl | rfl <;> decide
  obtain ⟨s, hs2⟩ : ∃ s, s = sizeP L := ⟨_, rfl⟩
  rw [← hs2] at HS hs
  have hs0 : ((s : Int) == 0) = false := by simp; omega
  clear hs2 hs
  have p1 : decide ((1099511627776 : Int) ≤ (pa : Int)) = false := by simp; omega
  have p2 : ¬ (1099511627776 : Int) ≤ (pa : Int) := by omega
  have p3 : ¬ 1099511627776 ≤ pa := by omega
  have l3 : decide (L < 3) = false := by simp; omega
  obtain ⟨r, hr⟩ : ∃ r, r = W.heap.size := ⟨_, rfl⟩
  obtain ⟨V1, hV⟩ : ∃ V, V = W.alloc (.cells (vec 6 (plE ⟨1, pa, pm, mm, af⟩ L)) 35) := ⟨_, rfl⟩
  have ar : Arr V1 r 35 6 (plE ⟨1, pa, pm, mm, af⟩ L) := by rw [hV, hr]; exact Arr.new _ _ _ _
  have HAR := Lib.hid ar
  have HB0 : Hid (Below W.heap.size W V1) := Lib.hid (by rw [hV]; exact (Below.refl _ _).alloc (Nat.le_refl _) _)
  have c0 : V1.cell? ⟨r, 0, none⟩ = some (.int .i64 1) := ar.cell (i := 0) (by decide)
  have c1 : V1.cell? ⟨r, 1, none⟩ = some (.int .u64 (pa : Int)) := ar.cell (i := 1) (by decide)
  have c5 : V1.cell? ⟨r, 5, none⟩ = some (.int .i64 L) := ar.cell (i := 5) (by decide)
  have HV := Lib.hid hV
  have HR := Lib.hid hr
  clear hV hr ar
  clear hL hp hl
  go_enter Try.func14, Try.ntmps14
  go_upto_region 1 with fail
  rw [← HV.out, ← HR.out]
  clear HV HR
  go_wp2_with (first
    | (go_at_call 23; refine (HS.out _).mono ?_; rintro e w1 ⟨rfl, hw1⟩; rw [hw1]; clear hw1))
  go_ret
  exact ⟨rfl, HB0.out⟩
set_option maxRecDepth 100000 in
set_option maxHeartbeats 1000000 in
theorem mayBeD2 (L : Int) (hL : 1 ≤ L ∧ L ≤ 3) (pa : Nat) (hp : pa < 1099511627776) (pm mm : Int) (af : Bool) (hl : L < 3) (hq : ¬ pa % 4096 = 0) (W : World) : Calls Try.prog 14 #[.agg (vec 6 (plE ⟨1, pa, pm, mm, af⟩ L))] W fun e w' => e = .returned (.bool false) ∧ Below W.heap.size W w' := by
  have HS : Hid (∀ W, Calls Try.prog 23 #[.int .i64 L] W fun e w' => e = .returned (.int .u64 ((sizeP L : Nat) : Int)) ∧ w' = W) := Lib.hid fun W => by exact size_any L W
  have hs : 0 < sizeP L := by rcases (by omega : L = 1 ∨ L = 2 ∨ L = 3) with rfl | rfl | rfl <;> decide
  obtain ⟨s, hs2⟩ : ∃ s, s = sizeP L := ⟨_, rfl⟩
  rw [← hs2] at HS hs
  have hs0 : ((s : Int) == 0) = false := by simp; omega
  clear hs2 hs
  have p1 : decide ((1099511627776 : Int) ≤ (pa : Int)) = false := by simp; omega
  have p2 : ¬ (1099511627776 : Int) ≤ (pa : Int) := by omega
  have p3 : ¬ 1099511627776 ≤ pa := by omega
  have l3 : decide (L < 3) = true := by simp; omega
  obtain ⟨rr, hrr⟩ : ∃ x, x = pa % 4096 := ⟨_, rfl⟩
  have er : ((pa : Int) % 4096) = (rr : Int) := by rw [hrr]; norm_cast
  have er2 : ((pa : Int).tmod 4096) = (rr : Int) := by rw [Int.tmod_eq_emod_of_nonneg (by omega)]; exact er
  have ez : ((rr : Int) == 0) = false := by simp; omega
  obtain ⟨r, hr⟩ : ∃ r, r = W.heap.size := ⟨_, rfl⟩
  obtain ⟨V1, hV⟩ : ∃ V, V = W.alloc (.cells (vec 6 (plE ⟨1, pa, pm, mm, af⟩ L)) 35) := ⟨_, rfl⟩
  have ar : Arr V1 r 35 6 (plE ⟨1, pa, pm, mm, af⟩ L) := by rw [hV, hr]; exact Arr.new _ _ _ _
  have HAR := Lib.hid ar
  have HB0 : Hid (Below W.heap.size W V1) := Lib.hid (by rw [hV]; exact (Below.refl _ _).alloc (Nat.le_refl _) _)
  have c0 : V1.cell? ⟨r, 0, none⟩ = some (.int .i64 1) := ar.cell (i := 0) (by decide)
  have c1 : V1.cell? ⟨r, 1, none⟩ = some (.int .u64 (pa : Int)) := ar.cell (i := 1) (by decide)
  have c5 : V1.cell? ⟨r, 5, none⟩ = some (.int .i64 L) := ar.cell (i := 5) (by decide)
  have HV := Lib.hid hV
  have HR := Lib.hid hr
  clear hV hr ar
  clear hL hp hl hq hrr
  go_enter Try.func14, Try.ntmps14
  go_upto_region 1 with fail
  rw [← HV.out, ← HR.out]
  clear HV HR
  go_wp2_with (first
    | (go_at_call 23; refine (HS.out _).mono ?_; rintro e w1 ⟨rfl, hw1⟩; rw [hw1]; clear hw1))
  go_ret
  exact ⟨rfl, HB0.out⟩
set_option maxRecDepth 100000 in
set_option maxHeartbeats 1000000 in
theorem mayBeD3 (L : Int) (hL : 1 ≤ L ∧ L ≤ 3) (pa : Nat) (hp : pa < 1099511627776) (pm mm : Int) (af : Bool) (hl : L < 3) (hq : pa % 4096 = 0) (W : World) : Calls Try.prog 14 #[.agg (vec 6 (plE ⟨1, pa, pm, mm, af⟩ L))] W fun e w' => e = .returned (.bool (dsEq ⟨1, pa, pm, mm, af⟩ ⟨1, pa, 0, 0, false⟩)) ∧ Below W.heap.size W w' := by
  have HS : Hid (∀ W, Calls Try.prog 23 #[.int .i64 L] W fun e w' => e = .returned (.int .u64 ((sizeP L : Nat) : Int)) ∧ w' = W) := Lib.hid fun W => by exact size_any L W
  have hs : 0 < sizeP L := by rcases (by omega : L = 1 ∨ L = 2 ∨ L = 3) with rfl | rfl | rfl <;> decide
  obtain ⟨s, hs2⟩ : ∃ s, s = sizeP L := ⟨_, rfl⟩
  rw [← hs2] at HS hs
  have hs0 : ((s : Int) == 0) = false := by simp; omega
  clear hs2 hs
  have p1 : decide ((1099511627776 : Int) ≤ (pa : Int)) = false := by simp; omega
  have p2 : ¬ (1099511627776 : Int) ≤ (pa : Int) := by omega
  have p3 : ¬ 1099511627776 ≤ pa := by omega
  have l3 : decide (L < 3) = true := by simp; omega
  obtain ⟨rr, hrr⟩ : ∃ x, x = pa % 4096 := ⟨_, rfl⟩
  have er : ((pa : Int) % 4096) = (rr : Int) := by rw [hrr]; norm_cast
  have er2 : ((pa : Int).tmod 4096) = (rr : Int) := by rw [Int.tmod_eq_emod_of_nonneg (by omega)]; exact er
  have ez : ((rr : Int) == 0) = true := by simp; omega
  obtain ⟨r, hr⟩ : ∃ r, r = W.heap.size := ⟨_, rfl⟩
  obtain ⟨V1, hV⟩ : ∃ V, V = W.alloc (.cells (vec 6 (plE ⟨1, pa, pm, mm, af⟩ L)) 35) := ⟨_, rfl⟩
  have ar : Arr V1 r 35 6 (plE ⟨1, pa, pm, mm, af⟩ L) := by rw [hV, hr]; exact Arr.new _ _ _ _
  have HAR := Lib.hid ar
  have HB0 : Hid (Below W.heap.size W V1) := Lib.hid (by rw [hV]; exact (Below.refl _ _).alloc (Nat.le_refl _) _)
  have c0 : V1.cell? ⟨r, 0, none⟩ = some (.int .i64 1) := ar.cell (i := 0) (by decide)
  have c1 : V1.cell? ⟨r, 1, none⟩ = some (.int .u64 (pa : Int)) := ar.cell (i := 1) (by decide)
  have c5 : V1.cell? ⟨r, 5, none⟩ = some (.int .i64 L) := ar.cell (i := 5) (by decide)
  have HV := Lib.hid hV
  have HR := Lib.hid hr
  clear hV hr ar
  clear hL hp hl hq hrr
  go_enter Try.func14, Try.ntmps14
  go_upto_region 1 with fail
  rw [← HV.out, ← HR.out]
  clear HV HR
  go_wp2_with (first
    | (go_at_call 23; refine (HS.out _).mono ?_; rintro e w1 ⟨rfl, hw1⟩; rw [hw1]; clear hw1)
    | ((with_reducible show wpList _ _ _ (Oper.mk _ (.load 25 _) _ _ _ _ :: _) _ _); refine wl_exec18 (by kernel_rfl) (exec_load 25 _ rfl r rfl _ (load_ds HAR.out)) ?_)
    | ((with_reducible show wpList _ _ _ (Oper.mk _ (.build _ _) _ _ _ _ :: _) _ _); refine wl_exec18 (by kernel_rfl) (exec_build 25 _ rfl (vec 5 (descE ⟨1, pa, 0, 0, false⟩)) (by kernel_rfl) _) ?_)
    | ((with_reducible show wpList _ _ _ (Oper.mk _ (.binOp .eql 25 _ _ _) _ _ _ _ :: _) _ _); refine wl_exec18 (by kernel_rfl) (exec_eq_ds _ _ _ rfl ⟨1, pa, pm, mm, af⟩ ⟨1, pa, 0, 0, false⟩ rfl rfl _) ?_))
  go_ret
  exact ⟨rfl, HB0.out⟩
set_option maxRecDepth 100000 in
set_option maxHeartbeats 1000000 in
theorem mayBeE1 (L : Int) (hL : 1 ≤ L ∧ L ≤ 3) (pa : Nat) (hp : pa < 1099511627776) (pm mm : Int) (af : Bool) (hl : ¬ L < 3) (W : World) : Calls Try.prog 14 #[.agg (vec 6 (plE ⟨2, pa, pm, mm, af⟩ L))] W fun e w' => e = .returned (.bool false) ∧ Below W.heap.size W w' := by
  have HS : Hid (∀ W, Calls Try.prog 23 #[.int .i64 L] W fun e w' => e = .returned (.int .u64 ((sizeP L : Nat) : Int)) ∧ w' = W) := Lib.hid fun W => by exact size_any L W
  have hs : 0 < sizeP L := by rcases (by omega : L = 1 ∨ L = 2 ∨ L = 3) with rfl | rfl | rfl <;> decide
  obtain ⟨s, hs2⟩ : ∃ s, s = sizeP L := ⟨_, rfl⟩
  rw [← hs2] at HS hs
  have hs0 : ((s : Int) == 0) = false := by simp; omega
  clear hs2 hs
  have p1 : decide ((1099511627776 : Int) ≤ (pa : Int)) = false := by simp; omega
  have p2 : ¬ (1099511627776 : Int) ≤ (pa : Int) := by omega
  have p3 : ¬ 1099511627776 ≤ pa := by omega
  have l3 : decide (L < 3) = false := by simp; omega
  obtain ⟨r, hr⟩ : ∃ r, r = W.heap.size := ⟨_, rfl⟩
  obtain ⟨V1, hV⟩ : ∃ V, V = W.alloc (.cells (vec 6 (plE ⟨2, pa, pm, mm, af⟩ L)) 35) := ⟨_, rfl⟩
  have ar : Arr V1 r 35 6 (plE ⟨2, pa, pm, mm, af⟩ L) := by rw [hV, hr]; exact Arr.new _ _ _ _
  have HAR := Lib.hid ar
  have HB0 : Hid (Below W.heap.size W V1) := Lib.hid (by rw [hV]; exact (Below.refl _ _).alloc (Nat.le_refl _) _)
  have c0 : V1.cell? ⟨r, 0, none⟩ = some (.int .i64 2) := ar.cell (i := 0) (by decide)
  have c1 : V1.cell? ⟨r, 1, none⟩ = some (.int .u64 (pa : Int)) := ar.cell (i := 1) (by decide)
  have c5 : V1.cell? ⟨r, 5, none⟩ = some (.int .i64 L) := ar.cell (i := 5) (by decide)
  have HV := Lib.hid hV
  have HR := Lib.hid hr
  clear hV hr ar
  clear hL hp hl
  go_enter Try.func14, Try.ntmps14
  go_upto_region 1 with fail
  rw [← HV.out, ← HR.out]
  clear HV HR
  go_wp2_with (first
    | (go_at_call 23; refine (HS.out _).mono ?_; rintro e w1 ⟨rfl, hw1⟩; rw [hw1]; clear hw1))
  go_ret
  exact ⟨rfl, HB0.out⟩
set_option maxRecDepth 100000 in
set_option maxHeartbeats 1000000 in
theorem mayBeE2 (L : Int) (hL : 1 ≤ L ∧ L ≤ 3) (pa : Nat) (hp : pa < 1099511627776) (pm mm : Int) (af : Bool) (hl : L < 3) (W : World) : Calls Try.prog 14 #[.agg (vec 6 (plE ⟨2, pa, pm, mm, af⟩ L))] W fun e w' => e = .returned (.bool (mapB L ⟨2, pa, pm, mm, af⟩)) ∧ Below W.heap.size W w' := by
  have HS : Hid (∀ W, Calls Try.prog 23 #[.int .i64 L] W fun e w' => e = .returned (.int .u64 ((sizeP L : Nat) : Int)) ∧ w' = W) := Lib.hid fun W => by exact size_any L W
  have hs : 0 < sizeP L := by rcases (by omega : L = 1 ∨ L = 2 ∨ L = 3) with rfl | rfl | rfl <;> decide
  obtain ⟨s, hs2⟩ : ∃ s, s = sizeP L := ⟨_, rfl⟩
  rw [← hs2] at HS hs
  have hs0 : ((s : Int) == 0) = false := by simp; omega
  clear hs2 hs
  have p1 : decide ((1099511627776 : Int) ≤ (pa : Int)) = false := by simp; omega
  have p2 : ¬ (1099511627776 : Int) ≤ (pa : Int) := by omega
  have p3 : ¬ 1099511627776 ≤ pa := by omega
  have l3 : decide (L < 3) = true := by simp; omega
  have HM := Lib.hid (mayMap_any L hL ⟨2, pa, pm, mm, af⟩)
  obtain ⟨r, hr⟩ : ∃ r, r = W.heap.size := ⟨_, rfl⟩
  obtain ⟨V1, hV⟩ : ∃ V, V = W.alloc (.cells (vec 6 (plE ⟨2, pa, pm, mm, af⟩ L)) 35) := ⟨_, rfl⟩
  have ar : Arr V1 r 35 6 (plE ⟨2, pa, pm, mm, af⟩ L) := by rw [hV, hr]; exact Arr.new _ _ _ _
  have HAR := Lib.hid ar
  have HB0 : Hid (Below W.heap.size W V1) := Lib.hid (by rw [hV]; exact (Below.refl _ _).alloc (Nat.le_refl _) _)
  have c0 : V1.cell? ⟨r, 0, none⟩ = some (.int .i64 2) := ar.cell (i := 0) (by decide)
  have c1 : V1.cell? ⟨r, 1, none⟩ = some (.int .u64 (pa : Int)) := ar.cell (i := 1) (by decide)
  have c5 : V1.cell? ⟨r, 5, none⟩ = some (.int .i64 L) := ar.cell (i := 5) (by decide)
  have HV := Lib.hid hV
  have HR := Lib.hid hr
  clear hV hr ar
  clear hL hp hl
  go_enter Try.func14, Try.ntmps14
  go_upto_region 1 with fail
  rw [← HV.out, ← HR.out]
  clear HV HR
  go_wp2_with (first
    | (go_at_call 23; refine (HS.out _).mono ?_; rintro e w1 ⟨rfl, hw1⟩; rw [hw1]; clear hw1)
    | ((with_reducible show wpList _ _ _ (Oper.mk _ (.load 35 _) _ _ _ _ :: _) _ _); refine wl_exec18 (by kernel_rfl) (exec_load 35 _ rfl r rfl _ (run_load_arr HAR.out Try.underlying35 rfl infoPl)) ?_)
    | (go_at_call 24; refine (HM.out _).mono ?_; rintro e w2 ⟨rfl, hd⟩; have HD := Lib.hid hd; clear hd))
  go_ret
  exact ⟨rfl, HB0.out.trans (HD.out.mono HB0.out.size)⟩
set_option maxRecDepth 100000 in
set_option maxHeartbeats 1000000 in
theorem mayBeF1 (L : Int) (hL : 1 ≤ L ∧ L ≤ 3) (pa : Nat) (hp : pa < 1099511627776) (pm mm : Int) (af : Bool) (hl : ¬ L = 3) (W : World) : Calls Try.prog 14 #[.agg (vec 6 (plE ⟨3, pa, pm, mm, af⟩ L))] W fun e w' => e = .returned (.bool false) ∧ Below W.heap.size W w' := by
  have HS : Hid (∀ W, Calls Try.prog 23 #[.int .i64 L] W fun e w' => e = .returned (.int .u64 ((sizeP L : Nat) : Int)) ∧ w' = W) := Lib.hid fun W => by exact size_any L W
  have hs : 0 < sizeP L := by rcases (by omega : L = 1 ∨ L = 2 ∨ L = 3) with rfl | rfl | rfl <;> decide
  obtain ⟨s, hs2⟩ : ∃ s, s = sizeP L := ⟨_, rfl⟩
  rw [← hs2] at HS hs
  have hs0 : ((s : Int) == 0) = false := by simp; omega
  clear hs2 hs
  have p1 : decide ((1099511627776 : Int) ≤ (pa : Int)) = false := by simp; omega
  have p2 : ¬ (1099511627776 : Int) ≤ (pa : Int) := by omega
  have p3 : ¬ 1099511627776 ≤ pa := by omega
  have l3 : (L == 3) = false := by simp; omega
  obtain ⟨r, hr⟩ : ∃ r, r = W.heap.size := ⟨_, rfl⟩
  obtain ⟨V1, hV⟩ : ∃ V, V = W.alloc (.cells (vec 6 (plE ⟨3, pa, pm, mm, af⟩ L)) 35) := ⟨_, rfl⟩
  have ar : Arr V1 r 35 6 (plE ⟨3, pa, pm, mm, af⟩ L) := by rw [hV, hr]; exact Arr.new _ _ _ _
  have HAR := Lib.hid ar
  have HB0 : Hid (Below W.heap.size W V1) := Lib.hid (by rw [hV]; exact (Below.refl _ _).alloc (Nat.le_refl _) _)
  have c0 : V1.cell? ⟨r, 0, none⟩ = some (.int .i64 3) := ar.cell (i := 0) (by decide)
  have c1 : V1.cell? ⟨r, 1, none⟩ = some (.int .u64 (pa : Int)) := ar.cell (i := 1) (by decide)
  have c5 : V1.cell? ⟨r, 5, none⟩ = some (.int .i64 L) := ar.cell (i := 5) (by decide)
  have HV := Lib.hid hV
  have HR := Lib.hid hr
  clear hV hr ar
  clear hL hp hl
  go_enter Try.func14, Try.ntmps14
  go_upto_region 1 with fail
  rw [← HV.out, ← HR.out]
  clear HV HR
  go_wp2_with (first
    | (go_at_call 23; refine (HS.out _).mono ?_; rintro e w1 ⟨rfl, hw1⟩; rw [hw1]; clear hw1))
  go_ret
  exact ⟨rfl, HB0.out⟩
set_option maxRecDepth 100000 in
set_option maxHeartbeats 1000000 in
theorem mayBeF2 (L : Int) (hL : 1 ≤ L ∧ L ≤ 3) (pa : Nat) (hp : pa < 1099511627776) (pm mm : Int) (af : Bool) (hl : L = 3) (W : World) : Calls Try.prog 14 #[.agg (vec 6 (plE ⟨3, pa, pm, mm, af⟩ L))] W fun e w' => e = .returned (.bool (mapB L ⟨3, pa, pm, mm, af⟩)) ∧ Below W.heap.size W w' := by
  have HS : Hid (∀ W, Calls Try.prog 23 #[.int .i64 L] W fun e w' => e = .returned (.int .u64 ((sizeP L : Nat) : Int)) ∧ w' = W) := Lib.hid fun W => by exact size_any L W
  have hs : 0 < sizeP L := by rcases (by omega : L = 1 ∨ L = 2 ∨ L = 3) with rfl | rfl | rfl <;> decide
  obtain ⟨s, hs2⟩ : ∃ s, s = sizeP L := ⟨_, rfl⟩
  rw [← hs2] at HS hs
  have hs0 : ((s : Int) == 0) = false := by simp; omega
  clear hs2 hs
  have p1 : decide ((1099511627776 : Int) ≤ (pa : Int)) = false := by simp; omega
  have p2 : ¬ (1099511627776 : Int) ≤ (pa : Int) := by omega
  have p3 : ¬ 1099511627776 ≤ pa := by omega
  have l3 : (L == 3) = true := by simp; omega
  have HM := Lib.hid (mayMap_any L hL ⟨3, pa, pm, mm, af⟩)
  obtain ⟨r, hr⟩ : ∃ r, r = W.heap.size := ⟨_, rfl⟩
  obtain ⟨V1, hV⟩ : ∃ V, V = W.alloc (.cells (vec 6 (plE ⟨3, pa, pm, mm, af⟩ L)) 35) := ⟨_, rfl⟩
  have ar : Arr V1 r 35 6 (plE ⟨3, pa, pm, mm, af⟩ L) := by rw [hV, hr]; exact Arr.new _ _ _ _
  have HAR := Lib.hid ar
  have HB0 : Hid (Below W.heap.size W V1) := Lib.hid (by rw [hV]; exact (Below.refl _ _).alloc (Nat.le_refl _) _)
  have c0 : V1.cell? ⟨r, 0, none⟩ = some (.int .i64 3) := ar.cell (i := 0) (by decide)
  have c1 : V1.cell? ⟨r, 1, none⟩ = some (.int .u64 (pa : Int)) := ar.cell (i := 1) (by decide)
  have c5 : V1.cell? ⟨r, 5, none⟩ = some (.int .i64 L) := ar.cell (i := 5) (by decide)
  have HV := Lib.hid hV
  have HR := Lib.hid hr
  clear hV hr ar
  clear hL hp hl
  go_enter Try.func14, Try.ntmps14
  go_upto_region 1 with fail
  rw [← HV.out, ← HR.out]
  clear HV HR
  go_wp2_with (first
    | (go_at_call 23; refine (HS.out _).mono ?_; rintro e w1 ⟨rfl, hw1⟩; rw [hw1]; clear hw1)
    | ((with_reducible show wpList _ _ _ (Oper.mk _ (.load 35 _) _ _ _ _ :: _) _ _); refine wl_exec18 (by kernel_rfl) (exec_load 35 _ rfl r rfl _ (run_load_arr HAR.out Try.underlying35 rfl infoPl)) ?_)
    | (go_at_call 24; refine (HM.out _).mono ?_; rintro e w2 ⟨rfl, hd⟩; have HD := Lib.hid hd; clear hd))
  go_ret
  exact ⟨rfl, HB0.out.trans (HD.out.mono HB0.out.size)⟩
set_option maxRecDepth 100000 in
set_option maxHeartbeats 1000000 in
theorem mayBeG (L : Int) (hL : 1 ≤ L ∧ L ≤ 3) (kd : Int) (pa : Nat) (hp : pa < 1099511627776) (pm mm : Int) (af : Bool) (hk : ¬ kd = 0 ∧ ¬ kd = 1 ∧ ¬ kd = 2 ∧ ¬ kd = 3) (W : World) : Calls Try.prog 14 #[.agg (vec 6 (plE ⟨kd, pa, pm, mm, af⟩ L))] W fun e w' => e = .returned (.bool false) ∧ Below W.heap.size W w' := by
  have HS : Hid (∀ W, Calls Try.prog 23 #[.int .i64 L] W fun e w' => e = .returned (.int .u64 ((sizeP L : Nat) : Int)) ∧ w' = W) := Lib.hid fun W => by exact size_any L W
  have hs : 0 < sizeP L := by rcases (by omega : L = 1 ∨ L = 2 ∨ L = 3) with rfl | rfl | rfl <;> decide
  obtain ⟨s, hs2⟩ : ∃ s, s = sizeP L := ⟨_, rfl⟩
  rw [← hs2] at HS hs
  have hs0 : ((s : Int) == 0) = false := by simp; omega
  clear hs2 hs
  have p1 : decide ((1099511627776 : Int) ≤ (pa : Int)) = false := by simp; omega
  have p2 : ¬ (1099511627776 : Int) ≤ (pa : Int) := by omega
  have p3 : ¬ 1099511627776 ≤ pa := by omega
  have k0 : (kd == 0) = false := by simp; omega
  have k1 : (kd == 1) = false := by simp; omega
  have k2 : (kd == 2) = false := by simp; omega
  have k3 : (kd == 3) = false := by simp; omega
  obtain ⟨r, hr⟩ : ∃ r, r = W.heap.size := ⟨_, rfl⟩
  obtain ⟨V1, hV⟩ : ∃ V, V = W.alloc (.cells (vec 6 (plE ⟨kd, pa, pm, mm, af⟩ L)) 35) := ⟨_, rfl⟩
  have ar : Arr V1 r 35 6 (plE ⟨kd, pa, pm, mm, af⟩ L) := by rw [hV, hr]; exact Arr.new _ _ _ _
  have HAR := Lib.hid ar
  have HB0 : Hid (Below W.heap.size W V1) := Lib.hid (by rw [hV]; exact (Below.refl _ _).alloc (Nat.le_refl _) _)
  have c0 : V1.cell? ⟨r, 0, none⟩ = some (.int .i64 kd) := ar.cell (i := 0) (by decide)
  have c1 : V1.cell? ⟨r, 1, none⟩ = some (.int .u64 (pa : Int)) := ar.cell (i := 1) (by decide)
  have c5 : V1.cell? ⟨r, 5, none⟩ = some (.int .i64 L) := ar.cell (i := 5) (by decide)
  have HV := Lib.hid hV
  have HR := Lib.hid hr
  clear hV hr ar
  clear hL hp hk
  go_enter Try.func14, Try.ntmps14
  go_upto_region 1 with fail
  rw [← HV.out, ← HR.out]
  clear HV HR
  go_wp2_with (first
    | (go_at_call 23; refine (HS.out _).mono ?_; rintro e w1 ⟨rfl, hw1⟩; rw [hw1]; clear hw1))
  go_ret
  exact ⟨rfl, HB0.out⟩
theorem mayBe_any (L : Int) (d : Ds) (W : World) : Calls Try.prog 14 #[.agg (vec 6 (plE d L))] W fun e w' => e = .returned (.bool (isPut L d)) ∧ Below W.heap.size W w' := by
  obtain ⟨kd, pa, pm, mm, af⟩ := d
  by_cases hL : L < 1 ∨ 3 < L
  · rw [lv_no (by omega)]
    exact mayBeA L hL kd pa pm mm af W
  have hL2 : 1 ≤ L ∧ L ≤ 3 := by omega
  by_cases hp : 1099511627776 ≤ pa
  · rw [lv_no (.inr (.inr hp))]
    exact mayBeB L hL2 kd pa hp pm mm af W
  have hp2 : pa < 1099511627776 := by omega
  by_cases k0 : kd = 0
  · subst k0
    rw [put_none hL2 hp2]
    exact mayBeC L hL2 pa hp2 pm mm af W
  by_cases k1 : kd = 1
  · subst k1
    rw [put_table hL2 hp2]
    by_cases hl : L < 3
    · rw [show decide (L < 3) = true from decide_eq_true hl]
      by_cases hq : pa % 4096 = 0
      · rw [show (pa % 4096 == 0) = true by simpa using hq]
        exact mayBeD3 L hL2 pa hp2 pm mm af hl hq W
      · rw [show (pa % 4096 == 0) = false by simpa using hq]
        exact mayBeD2 L hL2 pa hp2 pm mm af hl hq W
    · rw [show decide (L < 3) = false from decide_eq_false hl]
      exact mayBeD1 L hL2 pa hp2 pm mm af hl W
  by_cases k2 : kd = 2
  · subst k2
    rw [put_block hL2 hp2]
    by_cases hl : L < 3
    · rw [show decide (L < 3) = true from decide_eq_true hl]
      exact mayBeE2 L hL2 pa hp2 pm mm af hl W
    · rw [show decide (L < 3) = false from decide_eq_false hl]
      exact mayBeE1 L hL2 pa hp2 pm mm af hl W
  by_cases k3 : kd = 3
  · subst k3
    rw [put_page hL2 hp2]
    by_cases hl : L = 3
    · rw [show (L == 3) = true by simpa using hl]
      exact mayBeF2 L hL2 pa hp2 pm mm af hl W
    · rw [show (L == 3) = false by simpa using hl]
      exact mayBeF1 L hL2 pa hp2 pm mm af hl W
  rw [put_other ⟨k0, k1, k2, k3⟩]
  exact mayBeG L hL2 kd pa hp2 pm mm af ⟨k0, k1, k2, k3⟩ W
end Go.Proofs.Ytblmikmmmomflaa
