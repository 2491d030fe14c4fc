/- Merged: Rs, Rt. -/
import Derived.Test.YtmcpmcicolpoeaaDoorSf
/- The reference's sameGuest. -/
namespace Go.Proofs.YtmcpmcicolpoeaaDoor
open Go.RowKit

theorem first8 (a b c d e f g h : Bool) : (a = false) ∨ (a = true ∧ b = false) ∨ (a = true ∧ b = true ∧ c = false) ∨ (a = true ∧ b = true ∧ c = true ∧ d = false) ∨ (a = true ∧ b = true ∧ c = true ∧ d = true ∧ e = false) ∨ (a = true ∧ b = true ∧ c = true ∧ d = true ∧ e = true ∧ f = false) ∨
    (a = true ∧ b = true ∧ c = true ∧ d = true ∧ e = true ∧ f = true ∧ g = false) ∨ (a = true ∧ b = true ∧ c = true ∧ d = true ∧ e = true ∧ f = true ∧ g = true ∧ h = false) ∨ (a = true ∧ b = true ∧ c = true ∧ d = true ∧ e = true ∧ f = true ∧ g = true ∧ h = true) := by
  cases a <;> cases b <;> cases c <;> cases d <;> cases e <;> cases f <;> cases g <;> cases h <;> simp
theorem bne_of {α : Type} [BEq α] {x y : α} {b : Bool} (h : (x == y) = b) : (x != y) = !b := by rw [← h]; rfl
set_option maxHeartbeats 8000000 in
set_option maxRecDepth 100000 in
theorem rsameGuest_any (x y : GV) (w : World) (hx : GRow w w.heap.size x) (hy : GRow w w.heap.size y) : Calls Tryd.prog 25 #[.agg (vec 79 (guestE x)), .agg (vec 79 (guestE y))] w (EqV (gsEq x.g y.g) w) := by
  obtain ⟨V, hV⟩ : ∃ V, V = (w.alloc (.cells (vec 79 (guestE x)) 64)).alloc (.cells (vec 79 (guestE y)) 64) := ⟨_, rfl⟩
  have k1 : Arr V w.heap.size 64 79 (guestE x) := by rw [hV]; exact (Arr.new w _ _ _).alloc _
  have k2 : Arr V (w.heap.size + 1) 64 79 (guestE y) := by rw [hV]; exact Arr.newAt _ _ _ _ (by simp)
  have hB : Below w.heap.size w V := by rw [hV]; exact ((Below.refl _ _).alloc (by simp <;> omega) _).alloc (by simp <;> omega) _
  have HX := Lib.hid ((hx.below hB).wide hB.size)
  have HY := Lib.hid ((hy.below hB).wide hB.size)
  have HK := Lib.hid (And.intro k1 (And.intro k2 hB))
  have HW := Lib.hid hV
  have HP : Hid (∀ W : World, (∃ n, V.drewN n = W) → Below w.heap.size w W) := Lib.hid fun W ⟨n, hn⟩ => by rw [← hn]; exact below_drewN hB n
  have a0 : V.cell? ⟨w.heap.size, 0, none⟩ = some (.string (strOf x.g.name)) := k1.cell (i := 0) (by decide)
  have a1 : V.cell? ⟨w.heap.size, 1, none⟩ = some (.bool x.g.must) := k1.cell (i := 1) (by decide)
  have a2 : V.cell? ⟨w.heap.size, 2, none⟩ = some (.int .u32 x.g.off) := k1.cell (i := 2) (by decide)
  have a3 : V.cell? ⟨w.heap.size, 3, none⟩ = some (.int .u32 x.g.len) := k1.cell (i := 3) (by decide)
  have a4 : V.cell? ⟨w.heap.size, 4, none⟩ = some (.int .u32 x.g.cpus) := k1.cell (i := 4) (by decide)
  have a5 : V.cell? ⟨w.heap.size, 5, none⟩ = some (.int .u64 x.g.entry) := k1.cell (i := 5) (by decide)
  have a6 : V.cell? ⟨w.heap.size, 6, none⟩ = some (.int .u64 x.g.dtb) := k1.cell (i := 6) (by decide)
  have a75 : V.cell? ⟨w.heap.size, 75, none⟩ = some (x.wv) := k1.cell (i := 75) (by decide)
  have a76 : V.cell? ⟨w.heap.size, 76, none⟩ = some (x.dv) := k1.cell (i := 76) (by decide)
  have a77 : V.cell? ⟨w.heap.size, 77, none⟩ = some (x.iv) := k1.cell (i := 77) (by decide)
  have a78 : V.cell? ⟨w.heap.size, 78, none⟩ = some (x.sv) := k1.cell (i := 78) (by decide)
  have b0 : V.cell? ⟨w.heap.size + 1, 0, none⟩ = some (.string (strOf y.g.name)) := k2.cell (i := 0) (by decide)
  have b1 : V.cell? ⟨w.heap.size + 1, 1, none⟩ = some (.bool y.g.must) := k2.cell (i := 1) (by decide)
  have b2 : V.cell? ⟨w.heap.size + 1, 2, none⟩ = some (.int .u32 y.g.off) := k2.cell (i := 2) (by decide)
  have b3 : V.cell? ⟨w.heap.size + 1, 3, none⟩ = some (.int .u32 y.g.len) := k2.cell (i := 3) (by decide)
  have b4 : V.cell? ⟨w.heap.size + 1, 4, none⟩ = some (.int .u32 y.g.cpus) := k2.cell (i := 4) (by decide)
  have b5 : V.cell? ⟨w.heap.size + 1, 5, none⟩ = some (.int .u64 y.g.entry) := k2.cell (i := 5) (by decide)
  have b6 : V.cell? ⟨w.heap.size + 1, 6, none⟩ = some (.int .u64 y.g.dtb) := k2.cell (i := 6) (by decide)
  have b75 : V.cell? ⟨w.heap.size + 1, 75, none⟩ = some (y.wv) := k2.cell (i := 75) (by decide)
  have b76 : V.cell? ⟨w.heap.size + 1, 76, none⟩ = some (y.dv) := k2.cell (i := 76) (by decide)
  have b77 : V.cell? ⟨w.heap.size + 1, 77, none⟩ = some (y.iv) := k2.cell (i := 77) (by decide)
  have b78 : V.cell? ⟨w.heap.size + 1, 78, none⟩ = some (y.sv) := k2.cell (i := 78) (by decide)
  obtain ⟨s1, hs1⟩ : ∃ s, s = strOf x.g.name := ⟨_, rfl⟩
  obtain ⟨s2, hs2⟩ : ∃ s, s = strOf y.g.name := ⟨_, rfl⟩
  have hnm : nmEq x.g.name y.g.name = (s1.toList == s2.toList) := by rw [hs1, hs2]; rfl
  rw [← hs1] at a0
  rw [← hs2] at b0
  have hG : gsEq x.g y.g = gsEq x.g y.g := rfl
  have HGE : Hid (gsEq x.g y.g = (gR1 x.g y.g && (gR2 x.g y.g && (gR3 x.g y.g && (eqL irEq x.g.irqs y.g.irqs && eqL nuEq x.g.strs y.g.strs))))) := Lib.hid rfl
  have HR1 : Hid (gR1 x.g y.g = ((s1.toList == s2.toList) && (x.g.must == y.g.must && kyEq (kF x.g.key) (kF y.g.key)))) := Lib.hid (by unfold gR1; rw [hnm])
  have HR2 : Hid (gR2 x.g y.g = (x.g.off == y.g.off && (x.g.len == y.g.len && (x.g.cpus == y.g.cpus && (x.g.entry == y.g.entry && x.g.dtb == y.g.dtb))))) := Lib.hid rfl
  have HR3 : Hid (gR3 x.g y.g = (eqL wiEq x.g.wins y.g.wins && eqL deEq x.g.devs y.g.devs)) := Lib.hid rfl
  obtain ⟨G, hGG⟩ : ∃ G, G = gsEq x.g y.g := ⟨_, rfl⟩
  rw [← hGG] at HGE ⊢
  have hc := first8 (s1.toList == s2.toList) (x.g.must == y.g.must) (x.g.off == y.g.off) (x.g.len == y.g.len) (x.g.cpus == y.g.cpus) (x.g.entry == y.g.entry) (x.g.dtb == y.g.dtb) (kyEq (kF x.g.key) (kF y.g.key))
  clear hV k1 k2 hB hx hy hs1 hs2 hnm hG hGG
  unfold EqV
  go_enter Tryd.func25, Tryd.ntmps25
  go_upto_region 1 with fail
  rw [← HW.out]
  clear HW
  rcases hc with e1 | ⟨e1, e2⟩ | ⟨e1, e2, e3⟩ | ⟨e1, e2, e3, e4⟩ | ⟨e1, e2, e3, e4, e5⟩ | ⟨e1, e2, e3, e4, e5, e6⟩ | ⟨e1, e2, e3, e4, e5, e6, e7⟩ | ⟨e1, e2, e3, e4, e5, e6, e7, e8⟩ | ⟨e1, e2, e3, e4, e5, e6, e7, e8⟩
  · have HF : Hid (G = false) := Lib.hid (by rw [HGE.out, HR1.out, HR2.out, e1]; simp)
    have n1 := bne_of e1
    go_wp2_with fail
    go_ret
    exact ⟨by rw [HF.out]; rfl, HP.out _ ⟨0, rfl⟩⟩
  · have HF : Hid (G = false) := Lib.hid (by rw [HGE.out, HR1.out, HR2.out, e2]; simp)
    have n1 := bne_of e1
    have n2 := bne_of e2
    go_wp2_with fail
    go_ret
    exact ⟨by rw [HF.out]; rfl, HP.out _ ⟨0, rfl⟩⟩
  · have HF : Hid (G = false) := Lib.hid (by rw [HGE.out, HR1.out, HR2.out, e3]; simp)
    have n1 := bne_of e1
    have n2 := bne_of e2
    have n3 := bne_of e3
    go_wp2_with fail
    go_ret
    exact ⟨by rw [HF.out]; rfl, HP.out _ ⟨0, rfl⟩⟩
  · have HF : Hid (G = false) := Lib.hid (by rw [HGE.out, HR1.out, HR2.out, e4]; simp)
    have n1 := bne_of e1
    have n2 := bne_of e2
    have n3 := bne_of e3
    have n4 := bne_of e4
    go_wp2_with fail
    go_ret
    exact ⟨by rw [HF.out]; rfl, HP.out _ ⟨0, rfl⟩⟩
  · have HF : Hid (G = false) := Lib.hid (by rw [HGE.out, HR1.out, HR2.out, e5]; simp)
    have n1 := bne_of e1
    have n2 := bne_of e2
    have n3 := bne_of e3
    have n4 := bne_of e4
    have n5 := bne_of e5
    go_wp2_with fail
    go_ret
    exact ⟨by rw [HF.out]; rfl, HP.out _ ⟨0, rfl⟩⟩
  · have HF : Hid (G = false) := Lib.hid (by rw [HGE.out, HR1.out, HR2.out, e6]; simp)
    have n1 := bne_of e1
    have n2 := bne_of e2
    have n3 := bne_of e3
    have n4 := bne_of e4
    have n5 := bne_of e5
    have n6 := bne_of e6
    go_wp2_with fail
    go_ret
    exact ⟨by rw [HF.out]; rfl, HP.out _ ⟨0, rfl⟩⟩
  · have HF : Hid (G = false) := Lib.hid (by rw [HGE.out, HR1.out, HR2.out, e7]; simp)
    have n1 := bne_of e1
    have n2 := bne_of e2
    have n3 := bne_of e3
    have n4 := bne_of e4
    have n5 := bne_of e5
    have n6 := bne_of e6
    have n7 := bne_of e7
    go_wp2_with fail
    go_ret
    exact ⟨by rw [HF.out]; rfl, HP.out _ ⟨0, rfl⟩⟩
  · have HF : Hid (G = false) := Lib.hid (by rw [HGE.out, HR1.out, HR2.out, e8]; simp)
    have n1 := bne_of e1
    have n2 := bne_of e2
    have n3 := bne_of e3
    have n4 := bne_of e4
    have n5 := bne_of e5
    have n6 := bne_of e6
    have n7 := bne_of e7
    have HE : Hid ((!kyEq (kF x.g.key) (kF y.g.key)) = true) := Lib.hid (by rw [e8]; rfl)
    clear e8
    go_wp2_with (first
      | ((with_reducible show wpList _ _ _ (Oper.mk _ (.load 58 (.tmp 57)) _ _ _ _ :: _) _ _); refine wl_execG (by kernel_rfl) (exec_load_at 58 _ rfl _ _ rfl _ (run_load_spl (guest_key HK.out.1) Tryd.underlying58 rfl info_key)) ?_)
      | ((with_reducible show wpList _ _ _ (Oper.mk _ (.load 58 (.tmp 59)) _ _ _ _ :: _) _ _); refine wl_execG (by kernel_rfl) (exec_load_at 58 _ rfl _ _ rfl _ (run_load_spl (guest_key HK.out.2.1) Tryd.underlying58 rfl info_key)) ?_)
      | ((with_reducible show wpList _ _ _ (Oper.mk _ (.binOp _ 58 _ _ _) _ _ _ _ :: _) _ _); refine wl_execG (by kernel_rfl) (exec_neq_key _ _ _ rfl _ _ rfl rfl _ HE.out) ?_))
    go_ret
    exact ⟨by rw [HF.out]; rfl, HP.out _ ⟨0, rfl⟩⟩
  have HGE2 : Hid (G = (gR3 x.g y.g && (eqL irEq x.g.irqs y.g.irqs && eqL nuEq x.g.strs y.g.strs))) := Lib.hid (by rw [HGE.out, HR1.out, HR2.out, e1, e2, e3, e4, e5, e6, e7, e8]; rfl)
  have n1 := bne_of e1
  have n2 := bne_of e2
  have n3 := bne_of e3
  have n4 := bne_of e4
  have n5 := bne_of e5
  have n6 := bne_of e6
  have n7 := bne_of e7
  have HE : Hid ((!kyEq (kF x.g.key) (kF y.g.key)) = false) := Lib.hid (by rw [e8]; rfl)
  clear e8 HGE HR1 HR2
  go_upto_region 3 with (first
    | ((with_reducible show wpList _ _ _ (Oper.mk _ (.load 58 (.tmp 57)) _ _ _ _ :: _) _ _); refine wl_execG (by kernel_rfl) (exec_load_at 58 _ rfl _ _ rfl _ (run_load_spl (guest_key HK.out.1) Tryd.underlying58 rfl info_key)) ?_)
    | ((with_reducible show wpList _ _ _ (Oper.mk _ (.load 58 (.tmp 59)) _ _ _ _ :: _) _ _); refine wl_execG (by kernel_rfl) (exec_load_at 58 _ rfl _ _ rfl _ (run_load_spl (guest_key HK.out.2.1) Tryd.underlying58 rfl info_key)) ?_)
    | ((with_reducible show wpList _ _ _ (Oper.mk _ (.binOp _ 58 _ _ _) _ _ _ _ :: _) _ _); refine wl_execG (by kernel_rfl) (exec_neq_key _ _ _ rfl _ _ rfl rfl _ HE.out) ?_))
  clear e1 e2 e3 e4 e5 e6 e7 n1 n2 n3 n4 n5 n6 n7 HE a0 a1 a2 a3 a4 a5 a6 b0 b1 b2 b3 b4 b5 b6
  obtain ⟨⟨A1, c1, hA1, rA1, lA1⟩, ⟨A2, c2, hA2, rA2, lA2⟩, ⟨A3, c3, hA3, rA3, lA3⟩, ⟨A4, c4, hA4, rA4, lA4⟩⟩ := HX.out
  obtain ⟨⟨B1, d1, hB1, rB1, lB1⟩, ⟨B2, d2, hB2, rB2, lB2⟩, ⟨B3, d3, hB3, rB3, lB3⟩, ⟨B4, d4, hB4, rB4, lB4⟩⟩ := HY.out
  rw [hA1] at a75
  rw [hB1] at b75
  rw [hA2] at a76
  rw [hB2] at b76
  rw [hA3] at a77
  rw [hB3] at b77
  rw [hA4] at a78
  rw [hB4] at b78
  obtain ⟨l1, hl1⟩ : ∃ l, l = x.g.wins := ⟨_, rfl⟩
  obtain ⟨m1, hm1⟩ : ∃ m, m = y.g.wins := ⟨_, rfl⟩
  rw [← hl1] at a75 rA1 lA1 HR3
  rw [← hm1] at b75 rB1 lB1 HR3
  obtain ⟨l2, hl2⟩ : ∃ l, l = x.g.devs := ⟨_, rfl⟩
  obtain ⟨m2, hm2⟩ : ∃ m, m = y.g.devs := ⟨_, rfl⟩
  rw [← hl2] at a76 rA2 lA2 HR3
  rw [← hm2] at b76 rB2 lB2 HR3
  obtain ⟨l3, hl3⟩ : ∃ l, l = x.g.irqs := ⟨_, rfl⟩
  obtain ⟨m3, hm3⟩ : ∃ m, m = y.g.irqs := ⟨_, rfl⟩
  rw [← hl3] at a77 rA3 lA3 HGE2
  rw [← hm3] at b77 rB3 lB3 HGE2
  obtain ⟨l4, hl4⟩ : ∃ l, l = x.g.strs := ⟨_, rfl⟩
  obtain ⟨m4, hm4⟩ : ∃ m, m = y.g.strs := ⟨_, rfl⟩
  rw [← hl4] at a78 rA4 lA4 HGE2
  rw [← hm4] at b78 rB4 lB4 HGE2
  have HA1 := Lib.hid rA1
  have HB1 := Lib.hid rB1
  obtain ⟨N1, hN1⟩ : ∃ N, N = l1.length := ⟨_, rfl⟩
  obtain ⟨M1, hM1⟩ : ∃ M, M = m1.length := ⟨_, rfl⟩
  rw [← hN1] at a75 lA1
  rw [← hM1] at b75 lB1
  have HN1 := Lib.hid hN1
  have HM1 := Lib.hid hM1
  have HA2 := Lib.hid rA2
  have HB2 := Lib.hid rB2
  obtain ⟨N2, hN2⟩ : ∃ N, N = l2.length := ⟨_, rfl⟩
  obtain ⟨M2, hM2⟩ : ∃ M, M = m2.length := ⟨_, rfl⟩
  rw [← hN2] at a76 lA2
  rw [← hM2] at b76 lB2
  have HN2 := Lib.hid hN2
  have HM2 := Lib.hid hM2
  have HA3 := Lib.hid rA3
  have HB3 := Lib.hid rB3
  obtain ⟨N3, hN3⟩ : ∃ N, N = l3.length := ⟨_, rfl⟩
  obtain ⟨M3, hM3⟩ : ∃ M, M = m3.length := ⟨_, rfl⟩
  rw [← hN3] at a77 lA3
  rw [← hM3] at b77 lB3
  have HN3 := Lib.hid hN3
  have HM3 := Lib.hid hM3
  have HA4 := Lib.hid rA4
  have HB4 := Lib.hid rB4
  obtain ⟨N4, hN4⟩ : ∃ N, N = l4.length := ⟨_, rfl⟩
  obtain ⟨M4, hM4⟩ : ∃ M, M = m4.length := ⟨_, rfl⟩
  rw [← hN4] at a78 lA4
  rw [← hM4] at b78 lB4
  have HN4 := Lib.hid hN4
  have HM4 := Lib.hid hM4
  have HGF : Hid (G = ((eqL wiEq l1 m1 && eqL deEq l2 m2) && (eqL irEq l3 m3 && eqL nuEq l4 m4))) := Lib.hid (by rw [HGE2.out, HR3.out])
  clear HGE2 HR3 HX HY hA1 hB1 rA1 rB1 hl1 hm1 hN1 hM1 hA2 hB2 rA2 rB2 hl2 hm2 hN2 hM2 hA3 hB3 rA3 rB3 hl3 hm3 hN3 hM3 hA4 hB4 rA4 rB4 hl4 hm4 hN4 hM4
  by_cases h1 : N1 = M1
  rotate_left
  · have hl : l1.length ≠ m1.length := by rw [← HN1.out, ← HM1.out]; exact h1
    have HF : Hid (G = false) := Lib.hid (by rw [HGF.out, eqL_len hl]; simp)
    have n1 : ((N1 : Int) != (M1 : Int)) = true := bne_iff_ne.2 (by omega)
    clear h1 hl
    go_wp2_with fail
    go_ret
    exact ⟨by rw [HF.out]; rfl, HP.out _ ⟨0, rfl⟩⟩
  by_cases h2 : N2 = M2
  rotate_left
  · have hl : l2.length ≠ m2.length := by rw [← HN2.out, ← HM2.out]; exact h2
    have HF : Hid (G = false) := Lib.hid (by rw [HGF.out, eqL_len hl]; simp)
    have n2 : ((N2 : Int) != (M2 : Int)) = true := bne_iff_ne.2 (by omega)
    have n1 : ((N1 : Int) != (M1 : Int)) = false := by simp [h1]
    clear h1 h2 hl
    go_wp2_with fail
    go_ret
    exact ⟨by rw [HF.out]; rfl, HP.out _ ⟨0, rfl⟩⟩
  by_cases h3 : N3 = M3
  rotate_left
  · have hl : l3.length ≠ m3.length := by rw [← HN3.out, ← HM3.out]; exact h3
    have HF : Hid (G = false) := Lib.hid (by rw [HGF.out, eqL_len hl]; simp)
    have n3 : ((N3 : Int) != (M3 : Int)) = true := bne_iff_ne.2 (by omega)
    have n1 : ((N1 : Int) != (M1 : Int)) = false := by simp [h1]
    have n2 : ((N2 : Int) != (M2 : Int)) = false := by simp [h2]
    clear h1 h2 h3 hl
    go_wp2_with fail
    go_ret
    exact ⟨by rw [HF.out]; rfl, HP.out _ ⟨0, rfl⟩⟩
  by_cases h4 : N4 = M4
  rotate_left
  · have hl : l4.length ≠ m4.length := by rw [← HN4.out, ← HM4.out]; exact h4
    have HF : Hid (G = false) := Lib.hid (by rw [HGF.out, eqL_len hl]; simp)
    have n4 : ((N4 : Int) != (M4 : Int)) = true := bne_iff_ne.2 (by omega)
    have n1 : ((N1 : Int) != (M1 : Int)) = false := by simp [h1]
    have n2 : ((N2 : Int) != (M2 : Int)) = false := by simp [h2]
    have n3 : ((N3 : Int) != (M3 : Int)) = false := by simp [h3]
    clear h1 h2 h3 h4 hl
    go_wp2_with fail
    go_ret
    exact ⟨by rw [HF.out]; rfl, HP.out _ ⟨0, rfl⟩⟩
  have hL1 : l1.length = m1.length := by rw [← HN1.out, ← HM1.out]; exact h1
  have HE1 := Lib.hid (eqL_all (f := wiEq) hL1)
  have HL1 := Lib.hid hL1
  have hL2 : l2.length = m2.length := by rw [← HN2.out, ← HM2.out]; exact h2
  have HE2 := Lib.hid (eqL_all (f := deEq) hL2)
  have HL2 := Lib.hid hL2
  have hL3 : l3.length = m3.length := by rw [← HN3.out, ← HM3.out]; exact h3
  have HE3 := Lib.hid (eqL_all (f := irEq) hL3)
  have HL3 := Lib.hid hL3
  have hL4 : l4.length = m4.length := by rw [← HN4.out, ← HM4.out]; exact h4
  have HE4 := Lib.hid (eqL_all (f := nuEq) hL4)
  have HL4 := Lib.hid hL4
  have n1 : ((N1 : Int) != (M1 : Int)) = false := by simp [h1]
  have n2 : ((N2 : Int) != (M2 : Int)) = false := by simp [h2]
  have n3 : ((N3 : Int) != (M3 : Int)) = false := by simp [h3]
  have n4 : ((N4 : Int) != (M4 : Int)) = false := by simp [h4]
  rw [← h1] at b75
  rw [← h2] at b76
  rw [← h3] at b77
  rw [← h4] at b78
  clear h1 h2 h3 h4 hL1 hL2 hL3 hL4 HM1 HM2 HM3 HM4 lB1 lB2 lB3 lB4
  go_upto_region 5 with fail
  go_wp2_with fail
  go_loopw [5, 100] (fun _ v W => ∃ k j : Nat, k ≤ N1 ∧ v = .int .i64 k ∧ Hid (eqTo wiEq l1 m1 k = true) ∧ V.drewN j = W) (fun _ i _ => N1 - (intOf i).toNat)
  case atStart => exact ⟨0, 0, Nat.zero_le _, rfl, Lib.hid rfl, rfl⟩
  case round =>
    obtain ⟨k1, j1, hk, rfl, HP0, rfl⟩ := hrel
    by_cases hlt0 : k1 < N1
    · have hlt : k1 < l1.length := by have := HN1.out; omega
      have hltm : k1 < m1.length := by have := HL1.out; omega
      obtain ⟨a, p1, rfl, hp, -, hcp⟩ := HA1.out.at hlt
      obtain ⟨a', q1, rfl, hq, -, hcq⟩ := HB1.out.at hltm
      obtain ⟨x1, hx⟩ : ∃ x, x = l1[k1] := ⟨_, rfl⟩
      obtain ⟨y1, hy⟩ : ∃ y, y = m1[k1] := ⟨_, rfl⟩
      have hs := eqTo_succ wiEq l1 m1 k1 hlt hltm
      rw [HP0.out, Bool.true_and, ← hx, ← hy] at hs
      rw [← hx] at hcp
      rw [← hy] at hcq
      have HQ := Lib.hid (And.intro hcp hcq)
      have HSL := Lib.hid hlt
      clear hcp hcq hx hy hltm hlt
      have hki : (k1 : Int) < (N1 : Int) := by omega
      obtain ⟨b, hb⟩ : ∃ b, b = wiEq x1 y1 := ⟨_, rfl⟩
      rw [← hb] at hs
      cases b
      · have HB : Hid ((!wiEq x1 y1) = true) := Lib.hid (by rw [← hb]; rfl)
        have hno := eqL_no hs (show k1 + 1 ≤ l1.length from HSL.out)
        have HF : Hid (G = false) := Lib.hid (by rw [HGF.out, hno]; simp)
        clear hb hs hno
        go_upto_region 8 with fail
        refine wp_region_held_drew (S := fun Y => Y = (V.drewN j1).drew) (by kernel_rfl) rfl (fun hS => ?_)
        (refine held_take (i := 0) (oi := ?ot1) (v := ?vt1) ?at1 (by kernel_rfl) (by kernel_rfl) (by kernel_rfl) ?bt1 ?ct1 ?dt1 (by assumption) ?rt1; (case at1 => (simp only [List.getElem?_toArray, List.getElem?_cons_zero]; rfl)); (case bt1 => exact fun _ _ _ h => h); (case ct1 => kernel_rfl); (case dt1 => (intro W hW; (try dsimp only at hW); go_split_ands; go_simp; (try with_reducible rfl))); (case' rt1 => simp only [Act.put, List.setIfInBounds_toArray, List.set_cons_zero, List.set_cons_succ]))
        (refine held_take (i := 1) (oi := ?ot2) (v := ?vt2) ?at2 (by kernel_rfl) (by kernel_rfl) (by kernel_rfl) ?bt2 ?ct2 ?dt2 (by assumption) ?rt2; (case at2 => (simp only [List.getElem?_toArray, List.getElem?_cons_zero, List.getElem?_cons_succ]; rfl)); (case bt2 => exact fun _ _ _ h => h); (case ct2 => kernel_rfl); (case dt2 => (intro W hW; subst hW; go_simp; (try with_reducible rfl))); (case' rt2 => simp only [Act.put, List.setIfInBounds_toArray, List.set_cons_zero, List.set_cons_succ]))
        (refine held_take (i := 2) (oi := ?ot3) (v := ?vt3) ?at3 (by kernel_rfl) (by kernel_rfl) (by kernel_rfl) ?bt3 ?ct3 ?dt3 (by assumption) ?rt3; (case at3 => (simp only [List.getElem?_toArray, List.getElem?_cons_zero, List.getElem?_cons_succ]; rfl)); (case bt3 => exact fun _ _ _ h => h); (case ct3 => kernel_rfl); (case dt3 => (intro W hW; (try dsimp only at hW); go_split_ands; go_simp; (try with_reducible rfl))); (case' rt3 => simp only [Act.put, List.setIfInBounds_toArray, List.set_cons_zero, List.set_cons_succ]))
        (refine held_take (i := 3) (oi := ?ot4) (v := .pointer (some p1)) ?at4 (by kernel_rfl) (by kernel_rfl) (by kernel_rfl) ?bt4 ?ct4 ?dt4 (by assumption) ?rt4; (case at4 => (simp only [List.getElem?_toArray, List.getElem?_cons_zero, List.getElem?_cons_succ]; rfl)); (case bt4 => exact fun _ _ _ h => h); (case ct4 => kernel_rfl); (case dt4 => (intro W hW; clear hW; go_simp; (try with_reducible rfl); (try (intro h; omega)))); (case' rt4 => simp only [Act.put, List.setIfInBounds_toArray, List.set_cons_zero, List.set_cons_succ]))
        (refine held_take (i := 4) (oi := ?ot5) (v := .agg (vec 4 (winE x1))) ?at5 (by kernel_rfl) (by kernel_rfl) (by kernel_rfl) ?bt5 ?ct5 ?dt5 (by assumption) ?rt5; (case at5 => (simp only [List.getElem?_toArray, List.getElem?_cons_zero, List.getElem?_cons_succ]; rfl)); (case bt5 => exact fun _ _ _ h => h); (case ct5 => kernel_rfl); (case dt5 => (intro W hW; subst hW; exact exec_load_q 108 _ rfl p1 rfl _ (run_load_q HQ.out.1 Tryd.underlying108 rfl infoWi))); (case' rt5 => simp only [Act.put, List.setIfInBounds_toArray, List.set_cons_zero, List.set_cons_succ]))
        (refine held_take (i := 5) (oi := ?ot6) (v := ?vt6) ?at6 (by kernel_rfl) (by kernel_rfl) (by kernel_rfl) ?bt6 ?ct6 ?dt6 (by assumption) ?rt6; (case at6 => (simp only [List.getElem?_toArray, List.getElem?_cons_zero, List.getElem?_cons_succ]; rfl)); (case bt6 => exact fun _ _ _ h => h); (case ct6 => kernel_rfl); (case dt6 => (intro W hW; (try dsimp only at hW); go_split_ands; go_simp; (try with_reducible rfl))); (case' rt6 => simp only [Act.put, List.setIfInBounds_toArray, List.set_cons_zero, List.set_cons_succ]))
        (refine held_take (i := 6) (oi := ?ot7) (v := ?vt7) ?at7 (by kernel_rfl) (by kernel_rfl) (by kernel_rfl) ?bt7 ?ct7 ?dt7 (by assumption) ?rt7; (case at7 => (simp only [List.getElem?_toArray, List.getElem?_cons_zero, List.getElem?_cons_succ]; rfl)); (case bt7 => exact fun _ _ _ h => h); (case ct7 => kernel_rfl); (case dt7 => (intro W hW; subst hW; go_simp; (try with_reducible rfl))); (case' rt7 => simp only [Act.put, List.setIfInBounds_toArray, List.set_cons_zero, List.set_cons_succ]))
        (refine held_take (i := 7) (oi := ?ot8) (v := ?vt8) ?at8 (by kernel_rfl) (by kernel_rfl) (by kernel_rfl) ?bt8 ?ct8 ?dt8 (by assumption) ?rt8; (case at8 => (simp only [List.getElem?_toArray, List.getElem?_cons_zero, List.getElem?_cons_succ]; rfl)); (case bt8 => exact fun _ _ _ h => h); (case ct8 => kernel_rfl); (case dt8 => (intro W hW; (try dsimp only at hW); go_split_ands; go_simp; (try with_reducible rfl))); (case' rt8 => simp only [Act.put, List.setIfInBounds_toArray, List.set_cons_zero, List.set_cons_succ]))
        (refine held_take (i := 8) (oi := ?ot9) (v := .pointer (some q1)) ?at9 (by kernel_rfl) (by kernel_rfl) (by kernel_rfl) ?bt9 ?ct9 ?dt9 (by assumption) ?rt9; (case at9 => (simp only [List.getElem?_toArray, List.getElem?_cons_zero, List.getElem?_cons_succ]; rfl)); (case bt9 => exact fun _ _ _ h => h); (case ct9 => kernel_rfl); (case dt9 => (intro W hW; clear hW; go_simp; (try with_reducible rfl); (try (intro h; omega)))); (case' rt9 => simp only [Act.put, List.setIfInBounds_toArray, List.set_cons_zero, List.set_cons_succ]))
        (refine held_take (i := 9) (oi := ?ot10) (v := .agg (vec 4 (winE y1))) ?at10 (by kernel_rfl) (by kernel_rfl) (by kernel_rfl) ?bt10 ?ct10 ?dt10 (by assumption) ?rt10; (case at10 => (simp only [List.getElem?_toArray, List.getElem?_cons_zero, List.getElem?_cons_succ]; rfl)); (case bt10 => exact fun _ _ _ h => h); (case ct10 => kernel_rfl); (case dt10 => (intro W hW; subst hW; exact exec_load_q 108 _ rfl q1 rfl _ (run_load_q HQ.out.2 Tryd.underlying108 rfl infoWi))); (case' rt10 => simp only [Act.put, List.setIfInBounds_toArray, List.set_cons_zero, List.set_cons_succ]))
        (refine held_take (i := 10) (oi := ?ot11) (v := .bool true) ?at11 (by kernel_rfl) (by kernel_rfl) (by kernel_rfl) ?bt11 ?ct11 ?dt11 (by assumption) ?rt11; (case at11 => (simp only [List.getElem?_toArray, List.getElem?_cons_zero, List.getElem?_cons_succ]; rfl)); (case bt11 => exact fun _ _ _ h => h); (case ct11 => kernel_rfl); (case dt11 => (intro W _; exact exec_neq_win _ _ _ rfl x1 y1 rfl rfl W HB.out)); (case' rt11 => simp only [Act.put, List.setIfInBounds_toArray, List.set_cons_zero, List.set_cons_succ]))
        refine wpAnyH_done (by kernel_rfl) ?_ _
        go_wp2
        go_ret
        exact ⟨by rw [HF.out]; rfl, HP.out _ ⟨_, rfl⟩⟩
      · have HB : Hid ((!wiEq x1 y1) = false) := Lib.hid (by rw [← hb]; rfl)
        have HS := Lib.hid hs
        clear hb hs
        go_upto_region 8 with fail
        refine wp_region_held_drew (S := fun Y => Y = (V.drewN j1).drew) (by kernel_rfl) rfl (fun hS => ?_)
        (refine held_take (i := 0) (oi := ?ot12) (v := ?vt12) ?at12 (by kernel_rfl) (by kernel_rfl) (by kernel_rfl) ?bt12 ?ct12 ?dt12 (by assumption) ?rt12; (case at12 => (simp only [List.getElem?_toArray, List.getElem?_cons_zero]; rfl)); (case bt12 => exact fun _ _ _ h => h); (case ct12 => kernel_rfl); (case dt12 => (intro W hW; (try dsimp only at hW); go_split_ands; go_simp; (try with_reducible rfl))); (case' rt12 => simp only [Act.put, List.setIfInBounds_toArray, List.set_cons_zero, List.set_cons_succ]))
        (refine held_take (i := 1) (oi := ?ot13) (v := ?vt13) ?at13 (by kernel_rfl) (by kernel_rfl) (by kernel_rfl) ?bt13 ?ct13 ?dt13 (by assumption) ?rt13; (case at13 => (simp only [List.getElem?_toArray, List.getElem?_cons_zero, List.getElem?_cons_succ]; rfl)); (case bt13 => exact fun _ _ _ h => h); (case ct13 => kernel_rfl); (case dt13 => (intro W hW; subst hW; go_simp; (try with_reducible rfl))); (case' rt13 => simp only [Act.put, List.setIfInBounds_toArray, List.set_cons_zero, List.set_cons_succ]))
        (refine held_take (i := 2) (oi := ?ot14) (v := ?vt14) ?at14 (by kernel_rfl) (by kernel_rfl) (by kernel_rfl) ?bt14 ?ct14 ?dt14 (by assumption) ?rt14; (case at14 => (simp only [List.getElem?_toArray, List.getElem?_cons_zero, List.getElem?_cons_succ]; rfl)); (case bt14 => exact fun _ _ _ h => h); (case ct14 => kernel_rfl); (case dt14 => (intro W hW; (try dsimp only at hW); go_split_ands; go_simp; (try with_reducible rfl))); (case' rt14 => simp only [Act.put, List.setIfInBounds_toArray, List.set_cons_zero, List.set_cons_succ]))
        (refine held_take (i := 3) (oi := ?ot15) (v := .pointer (some p1)) ?at15 (by kernel_rfl) (by kernel_rfl) (by kernel_rfl) ?bt15 ?ct15 ?dt15 (by assumption) ?rt15; (case at15 => (simp only [List.getElem?_toArray, List.getElem?_cons_zero, List.getElem?_cons_succ]; rfl)); (case bt15 => exact fun _ _ _ h => h); (case ct15 => kernel_rfl); (case dt15 => (intro W hW; clear hW; go_simp; (try with_reducible rfl); (try (intro h; omega)))); (case' rt15 => simp only [Act.put, List.setIfInBounds_toArray, List.set_cons_zero, List.set_cons_succ]))
        (refine held_take (i := 4) (oi := ?ot16) (v := .agg (vec 4 (winE x1))) ?at16 (by kernel_rfl) (by kernel_rfl) (by kernel_rfl) ?bt16 ?ct16 ?dt16 (by assumption) ?rt16; (case at16 => (simp only [List.getElem?_toArray, List.getElem?_cons_zero, List.getElem?_cons_succ]; rfl)); (case bt16 => exact fun _ _ _ h => h); (case ct16 => kernel_rfl); (case dt16 => (intro W hW; subst hW; exact exec_load_q 108 _ rfl p1 rfl _ (run_load_q HQ.out.1 Tryd.underlying108 rfl infoWi))); (case' rt16 => simp only [Act.put, List.setIfInBounds_toArray, List.set_cons_zero, List.set_cons_succ]))
        (refine held_take (i := 5) (oi := ?ot17) (v := ?vt17) ?at17 (by kernel_rfl) (by kernel_rfl) (by kernel_rfl) ?bt17 ?ct17 ?dt17 (by assumption) ?rt17; (case at17 => (simp only [List.getElem?_toArray, List.getElem?_cons_zero, List.getElem?_cons_succ]; rfl)); (case bt17 => exact fun _ _ _ h => h); (case ct17 => kernel_rfl); (case dt17 => (intro W hW; (try dsimp only at hW); go_split_ands; go_simp; (try with_reducible rfl))); (case' rt17 => simp only [Act.put, List.setIfInBounds_toArray, List.set_cons_zero, List.set_cons_succ]))
        (refine held_take (i := 6) (oi := ?ot18) (v := ?vt18) ?at18 (by kernel_rfl) (by kernel_rfl) (by kernel_rfl) ?bt18 ?ct18 ?dt18 (by assumption) ?rt18; (case at18 => (simp only [List.getElem?_toArray, List.getElem?_cons_zero, List.getElem?_cons_succ]; rfl)); (case bt18 => exact fun _ _ _ h => h); (case ct18 => kernel_rfl); (case dt18 => (intro W hW; subst hW; go_simp; (try with_reducible rfl))); (case' rt18 => simp only [Act.put, List.setIfInBounds_toArray, List.set_cons_zero, List.set_cons_succ]))
        (refine held_take (i := 7) (oi := ?ot19) (v := ?vt19) ?at19 (by kernel_rfl) (by kernel_rfl) (by kernel_rfl) ?bt19 ?ct19 ?dt19 (by assumption) ?rt19; (case at19 => (simp only [List.getElem?_toArray, List.getElem?_cons_zero, List.getElem?_cons_succ]; rfl)); (case bt19 => exact fun _ _ _ h => h); (case ct19 => kernel_rfl); (case dt19 => (intro W hW; (try dsimp only at hW); go_split_ands; go_simp; (try with_reducible rfl))); (case' rt19 => simp only [Act.put, List.setIfInBounds_toArray, List.set_cons_zero, List.set_cons_succ]))
        (refine held_take (i := 8) (oi := ?ot20) (v := .pointer (some q1)) ?at20 (by kernel_rfl) (by kernel_rfl) (by kernel_rfl) ?bt20 ?ct20 ?dt20 (by assumption) ?rt20; (case at20 => (simp only [List.getElem?_toArray, List.getElem?_cons_zero, List.getElem?_cons_succ]; rfl)); (case bt20 => exact fun _ _ _ h => h); (case ct20 => kernel_rfl); (case dt20 => (intro W hW; clear hW; go_simp; (try with_reducible rfl); (try (intro h; omega)))); (case' rt20 => simp only [Act.put, List.setIfInBounds_toArray, List.set_cons_zero, List.set_cons_succ]))
        (refine held_take (i := 9) (oi := ?ot21) (v := .agg (vec 4 (winE y1))) ?at21 (by kernel_rfl) (by kernel_rfl) (by kernel_rfl) ?bt21 ?ct21 ?dt21 (by assumption) ?rt21; (case at21 => (simp only [List.getElem?_toArray, List.getElem?_cons_zero, List.getElem?_cons_succ]; rfl)); (case bt21 => exact fun _ _ _ h => h); (case ct21 => kernel_rfl); (case dt21 => (intro W hW; subst hW; exact exec_load_q 108 _ rfl q1 rfl _ (run_load_q HQ.out.2 Tryd.underlying108 rfl infoWi))); (case' rt21 => simp only [Act.put, List.setIfInBounds_toArray, List.set_cons_zero, List.set_cons_succ]))
        (refine held_take (i := 10) (oi := ?ot22) (v := .bool false) ?at22 (by kernel_rfl) (by kernel_rfl) (by kernel_rfl) ?bt22 ?ct22 ?dt22 (by assumption) ?rt22; (case at22 => (simp only [List.getElem?_toArray, List.getElem?_cons_zero, List.getElem?_cons_succ]; rfl)); (case bt22 => exact fun _ _ _ h => h); (case ct22 => kernel_rfl); (case dt22 => (intro W _; exact exec_neq_win _ _ _ rfl x1 y1 rfl rfl W HB.out)); (case' rt22 => simp only [Act.put, List.setIfInBounds_toArray, List.set_cons_zero, List.set_cons_succ]))
        refine wpAnyH_done (by kernel_rfl) ?_ _
        go_wp2
        go_roundw
        case rel => exact ⟨k1 + 1, j1 + 1, by omega, by go_num, HS, rfl⟩
        case measure => simp [intOf]; omega
    · obtain rfl : k1 = N1 := by omega
      have HT1 : Hid (eqL wiEq l1 m1 = true) := Lib.hid (by rw [HE1.out, ← HN1.out, HP0.out])
      clear hlt0 HP0 HE1 HN1 HL1 HA1 HB1
      go_wp2_with fail
      go_loopw [6, 118] (fun _ v W => ∃ k j : Nat, k ≤ N2 ∧ v = .int .i64 k ∧ Hid (eqTo deEq l2 m2 k = true) ∧ V.drewN j = W) (fun _ i _ => N2 - (intOf i).toNat)
      case atStart => exact ⟨0, j1, Nat.zero_le _, rfl, Lib.hid rfl, rfl⟩
      case round =>
        obtain ⟨k2, j2, hk, rfl, HP0, rfl⟩ := hrel
        by_cases hlt0 : k2 < N2
        · have hlt : k2 < l2.length := by have := HN2.out; omega
          have hltm : k2 < m2.length := by have := HL2.out; omega
          obtain ⟨a, p2, rfl, hp, -, hcp⟩ := HA2.out.at hlt
          obtain ⟨a', q2, rfl, hq, -, hcq⟩ := HB2.out.at hltm
          obtain ⟨x2, hx⟩ : ∃ x, x = l2[k2] := ⟨_, rfl⟩
          obtain ⟨y2, hy⟩ : ∃ y, y = m2[k2] := ⟨_, rfl⟩
          have hs := eqTo_succ deEq l2 m2 k2 hlt hltm
          rw [HP0.out, Bool.true_and, ← hx, ← hy] at hs
          rw [← hx] at hcp
          rw [← hy] at hcq
          have HQ := Lib.hid (And.intro hcp hcq)
          have HSL := Lib.hid hlt
          clear hcp hcq hx hy hltm hlt
          have hki : (k2 : Int) < (N2 : Int) := by omega
          obtain ⟨b, hb⟩ : ∃ b, b = deEq x2 y2 := ⟨_, rfl⟩
          rw [← hb] at hs
          cases b
          · have HB : Hid ((!deEq x2 y2) = true) := Lib.hid (by rw [← hb]; rfl)
            have hno := eqL_no hs (show k2 + 1 ≤ l2.length from HSL.out)
            have HF : Hid (G = false) := Lib.hid (by rw [HGF.out, hno]; simp)
            clear hb hs hno
            go_upto_region 14 with fail
            refine wp_region_held_drew (S := fun Y => Y = (V.drewN j2).drew) (by kernel_rfl) rfl (fun hS => ?_)
            (refine held_take (i := 0) (oi := ?ot23) (v := ?vt23) ?at23 (by kernel_rfl) (by kernel_rfl) (by kernel_rfl) ?bt23 ?ct23 ?dt23 (by assumption) ?rt23; (case at23 => (simp only [List.getElem?_toArray, List.getElem?_cons_zero]; rfl)); (case bt23 => exact fun _ _ _ h => h); (case ct23 => kernel_rfl); (case dt23 => (intro W hW; (try dsimp only at hW); go_split_ands; go_simp; (try with_reducible rfl))); (case' rt23 => simp only [Act.put, List.setIfInBounds_toArray, List.set_cons_zero, List.set_cons_succ]))
            (refine held_take (i := 1) (oi := ?ot24) (v := ?vt24) ?at24 (by kernel_rfl) (by kernel_rfl) (by kernel_rfl) ?bt24 ?ct24 ?dt24 (by assumption) ?rt24; (case at24 => (simp only [List.getElem?_toArray, List.getElem?_cons_zero, List.getElem?_cons_succ]; rfl)); (case bt24 => exact fun _ _ _ h => h); (case ct24 => kernel_rfl); (case dt24 => (intro W hW; subst hW; go_simp; (try with_reducible rfl))); (case' rt24 => simp only [Act.put, List.setIfInBounds_toArray, List.set_cons_zero, List.set_cons_succ]))
            (refine held_take (i := 2) (oi := ?ot25) (v := ?vt25) ?at25 (by kernel_rfl) (by kernel_rfl) (by kernel_rfl) ?bt25 ?ct25 ?dt25 (by assumption) ?rt25; (case at25 => (simp only [List.getElem?_toArray, List.getElem?_cons_zero, List.getElem?_cons_succ]; rfl)); (case bt25 => exact fun _ _ _ h => h); (case ct25 => kernel_rfl); (case dt25 => (intro W hW; (try dsimp only at hW); go_split_ands; go_simp; (try with_reducible rfl))); (case' rt25 => simp only [Act.put, List.setIfInBounds_toArray, List.set_cons_zero, List.set_cons_succ]))
            (refine held_take (i := 3) (oi := ?ot26) (v := .pointer (some p2)) ?at26 (by kernel_rfl) (by kernel_rfl) (by kernel_rfl) ?bt26 ?ct26 ?dt26 (by assumption) ?rt26; (case at26 => (simp only [List.getElem?_toArray, List.getElem?_cons_zero, List.getElem?_cons_succ]; rfl)); (case bt26 => exact fun _ _ _ h => h); (case ct26 => kernel_rfl); (case dt26 => (intro W hW; clear hW; go_simp; (try with_reducible rfl); (try (intro h; omega)))); (case' rt26 => simp only [Act.put, List.setIfInBounds_toArray, List.set_cons_zero, List.set_cons_succ]))
            (refine held_take (i := 4) (oi := ?ot27) (v := .agg (vec 3 (devE x2))) ?at27 (by kernel_rfl) (by kernel_rfl) (by kernel_rfl) ?bt27 ?ct27 ?dt27 (by assumption) ?rt27; (case at27 => (simp only [List.getElem?_toArray, List.getElem?_cons_zero, List.getElem?_cons_succ]; rfl)); (case bt27 => exact fun _ _ _ h => h); (case ct27 => kernel_rfl); (case dt27 => (intro W hW; subst hW; exact exec_load_q 110 _ rfl p2 rfl _ (run_load_q HQ.out.1 Tryd.underlying110 rfl infoDe))); (case' rt27 => simp only [Act.put, List.setIfInBounds_toArray, List.set_cons_zero, List.set_cons_succ]))
            (refine held_take (i := 5) (oi := ?ot28) (v := ?vt28) ?at28 (by kernel_rfl) (by kernel_rfl) (by kernel_rfl) ?bt28 ?ct28 ?dt28 (by assumption) ?rt28; (case at28 => (simp only [List.getElem?_toArray, List.getElem?_cons_zero, List.getElem?_cons_succ]; rfl)); (case bt28 => exact fun _ _ _ h => h); (case ct28 => kernel_rfl); (case dt28 => (intro W hW; (try dsimp only at hW); go_split_ands; go_simp; (try with_reducible rfl))); (case' rt28 => simp only [Act.put, List.setIfInBounds_toArray, List.set_cons_zero, List.set_cons_succ]))
            (refine held_take (i := 6) (oi := ?ot29) (v := ?vt29) ?at29 (by kernel_rfl) (by kernel_rfl) (by kernel_rfl) ?bt29 ?ct29 ?dt29 (by assumption) ?rt29; (case at29 => (simp only [List.getElem?_toArray, List.getElem?_cons_zero, List.getElem?_cons_succ]; rfl)); (case bt29 => exact fun _ _ _ h => h); (case ct29 => kernel_rfl); (case dt29 => (intro W hW; subst hW; go_simp; (try with_reducible rfl))); (case' rt29 => simp only [Act.put, List.setIfInBounds_toArray, List.set_cons_zero, List.set_cons_succ]))
            (refine held_take (i := 7) (oi := ?ot30) (v := ?vt30) ?at30 (by kernel_rfl) (by kernel_rfl) (by kernel_rfl) ?bt30 ?ct30 ?dt30 (by assumption) ?rt30; (case at30 => (simp only [List.getElem?_toArray, List.getElem?_cons_zero, List.getElem?_cons_succ]; rfl)); (case bt30 => exact fun _ _ _ h => h); (case ct30 => kernel_rfl); (case dt30 => (intro W hW; (try dsimp only at hW); go_split_ands; go_simp; (try with_reducible rfl))); (case' rt30 => simp only [Act.put, List.setIfInBounds_toArray, List.set_cons_zero, List.set_cons_succ]))
            (refine held_take (i := 8) (oi := ?ot31) (v := .pointer (some q2)) ?at31 (by kernel_rfl) (by kernel_rfl) (by kernel_rfl) ?bt31 ?ct31 ?dt31 (by assumption) ?rt31; (case at31 => (simp only [List.getElem?_toArray, List.getElem?_cons_zero, List.getElem?_cons_succ]; rfl)); (case bt31 => exact fun _ _ _ h => h); (case ct31 => kernel_rfl); (case dt31 => (intro W hW; clear hW; go_simp; (try with_reducible rfl); (try (intro h; omega)))); (case' rt31 => simp only [Act.put, List.setIfInBounds_toArray, List.set_cons_zero, List.set_cons_succ]))
            (refine held_take (i := 9) (oi := ?ot32) (v := .agg (vec 3 (devE y2))) ?at32 (by kernel_rfl) (by kernel_rfl) (by kernel_rfl) ?bt32 ?ct32 ?dt32 (by assumption) ?rt32; (case at32 => (simp only [List.getElem?_toArray, List.getElem?_cons_zero, List.getElem?_cons_succ]; rfl)); (case bt32 => exact fun _ _ _ h => h); (case ct32 => kernel_rfl); (case dt32 => (intro W hW; subst hW; exact exec_load_q 110 _ rfl q2 rfl _ (run_load_q HQ.out.2 Tryd.underlying110 rfl infoDe))); (case' rt32 => simp only [Act.put, List.setIfInBounds_toArray, List.set_cons_zero, List.set_cons_succ]))
            (refine held_take (i := 10) (oi := ?ot33) (v := .bool true) ?at33 (by kernel_rfl) (by kernel_rfl) (by kernel_rfl) ?bt33 ?ct33 ?dt33 (by assumption) ?rt33; (case at33 => (simp only [List.getElem?_toArray, List.getElem?_cons_zero, List.getElem?_cons_succ]; rfl)); (case bt33 => exact fun _ _ _ h => h); (case ct33 => kernel_rfl); (case dt33 => (intro W _; exact exec_neq_dev _ _ _ rfl x2 y2 rfl rfl W HB.out)); (case' rt33 => simp only [Act.put, List.setIfInBounds_toArray, List.set_cons_zero, List.set_cons_succ]))
            refine wpAnyH_done (by kernel_rfl) ?_ _
            go_wp2
            go_ret
            exact ⟨by rw [HF.out]; rfl, HP.out _ ⟨_, rfl⟩⟩
          · have HB : Hid ((!deEq x2 y2) = false) := Lib.hid (by rw [← hb]; rfl)
            have HS := Lib.hid hs
            clear hb hs
            go_upto_region 14 with fail
            refine wp_region_held_drew (S := fun Y => Y = (V.drewN j2).drew) (by kernel_rfl) rfl (fun hS => ?_)
            (refine held_take (i := 0) (oi := ?ot34) (v := ?vt34) ?at34 (by kernel_rfl) (by kernel_rfl) (by kernel_rfl) ?bt34 ?ct34 ?dt34 (by assumption) ?rt34; (case at34 => (simp only [List.getElem?_toArray, List.getElem?_cons_zero]; rfl)); (case bt34 => exact fun _ _ _ h => h); (case ct34 => kernel_rfl); (case dt34 => (intro W hW; (try dsimp only at hW); go_split_ands; go_simp; (try with_reducible rfl))); (case' rt34 => simp only [Act.put, List.setIfInBounds_toArray, List.set_cons_zero, List.set_cons_succ]))
            (refine held_take (i := 1) (oi := ?ot35) (v := ?vt35) ?at35 (by kernel_rfl) (by kernel_rfl) (by kernel_rfl) ?bt35 ?ct35 ?dt35 (by assumption) ?rt35; (case at35 => (simp only [List.getElem?_toArray, List.getElem?_cons_zero, List.getElem?_cons_succ]; rfl)); (case bt35 => exact fun _ _ _ h => h); (case ct35 => kernel_rfl); (case dt35 => (intro W hW; subst hW; go_simp; (try with_reducible rfl))); (case' rt35 => simp only [Act.put, List.setIfInBounds_toArray, List.set_cons_zero, List.set_cons_succ]))
            (refine held_take (i := 2) (oi := ?ot36) (v := ?vt36) ?at36 (by kernel_rfl) (by kernel_rfl) (by kernel_rfl) ?bt36 ?ct36 ?dt36 (by assumption) ?rt36; (case at36 => (simp only [List.getElem?_toArray, List.getElem?_cons_zero, List.getElem?_cons_succ]; rfl)); (case bt36 => exact fun _ _ _ h => h); (case ct36 => kernel_rfl); (case dt36 => (intro W hW; (try dsimp only at hW); go_split_ands; go_simp; (try with_reducible rfl))); (case' rt36 => simp only [Act.put, List.setIfInBounds_toArray, List.set_cons_zero, List.set_cons_succ]))
            (refine held_take (i := 3) (oi := ?ot37) (v := .pointer (some p2)) ?at37 (by kernel_rfl) (by kernel_rfl) (by kernel_rfl) ?bt37 ?ct37 ?dt37 (by assumption) ?rt37; (case at37 => (simp only [List.getElem?_toArray, List.getElem?_cons_zero, List.getElem?_cons_succ]; rfl)); (case bt37 => exact fun _ _ _ h => h); (case ct37 => kernel_rfl); (case dt37 => (intro W hW; clear hW; go_simp; (try with_reducible rfl); (try (intro h; omega)))); (case' rt37 => simp only [Act.put, List.setIfInBounds_toArray, List.set_cons_zero, List.set_cons_succ]))
            (refine held_take (i := 4) (oi := ?ot38) (v := .agg (vec 3 (devE x2))) ?at38 (by kernel_rfl) (by kernel_rfl) (by kernel_rfl) ?bt38 ?ct38 ?dt38 (by assumption) ?rt38; (case at38 => (simp only [List.getElem?_toArray, List.getElem?_cons_zero, List.getElem?_cons_succ]; rfl)); (case bt38 => exact fun _ _ _ h => h); (case ct38 => kernel_rfl); (case dt38 => (intro W hW; subst hW; exact exec_load_q 110 _ rfl p2 rfl _ (run_load_q HQ.out.1 Tryd.underlying110 rfl infoDe))); (case' rt38 => simp only [Act.put, List.setIfInBounds_toArray, List.set_cons_zero, List.set_cons_succ]))
            (refine held_take (i := 5) (oi := ?ot39) (v := ?vt39) ?at39 (by kernel_rfl) (by kernel_rfl) (by kernel_rfl) ?bt39 ?ct39 ?dt39 (by assumption) ?rt39; (case at39 => (simp only [List.getElem?_toArray, List.getElem?_cons_zero, List.getElem?_cons_succ]; rfl)); (case bt39 => exact fun _ _ _ h => h); (case ct39 => kernel_rfl); (case dt39 => (intro W hW; (try dsimp only at hW); go_split_ands; go_simp; (try with_reducible rfl))); (case' rt39 => simp only [Act.put, List.setIfInBounds_toArray, List.set_cons_zero, List.set_cons_succ]))
            (refine held_take (i := 6) (oi := ?ot40) (v := ?vt40) ?at40 (by kernel_rfl) (by kernel_rfl) (by kernel_rfl) ?bt40 ?ct40 ?dt40 (by assumption) ?rt40; (case at40 => (simp only [List.getElem?_toArray, List.getElem?_cons_zero, List.getElem?_cons_succ]; rfl)); (case bt40 => exact fun _ _ _ h => h); (case ct40 => kernel_rfl); (case dt40 => (intro W hW; subst hW; go_simp; (try with_reducible rfl))); (case' rt40 => simp only [Act.put, List.setIfInBounds_toArray, List.set_cons_zero, List.set_cons_succ]))
            (refine held_take (i := 7) (oi := ?ot41) (v := ?vt41) ?at41 (by kernel_rfl) (by kernel_rfl) (by kernel_rfl) ?bt41 ?ct41 ?dt41 (by assumption) ?rt41; (case at41 => (simp only [List.getElem?_toArray, List.getElem?_cons_zero, List.getElem?_cons_succ]; rfl)); (case bt41 => exact fun _ _ _ h => h); (case ct41 => kernel_rfl); (case dt41 => (intro W hW; (try dsimp only at hW); go_split_ands; go_simp; (try with_reducible rfl))); (case' rt41 => simp only [Act.put, List.setIfInBounds_toArray, List.set_cons_zero, List.set_cons_succ]))
            (refine held_take (i := 8) (oi := ?ot42) (v := .pointer (some q2)) ?at42 (by kernel_rfl) (by kernel_rfl) (by kernel_rfl) ?bt42 ?ct42 ?dt42 (by assumption) ?rt42; (case at42 => (simp only [List.getElem?_toArray, List.getElem?_cons_zero, List.getElem?_cons_succ]; rfl)); (case bt42 => exact fun _ _ _ h => h); (case ct42 => kernel_rfl); (case dt42 => (intro W hW; clear hW; go_simp; (try with_reducible rfl); (try (intro h; omega)))); (case' rt42 => simp only [Act.put, List.setIfInBounds_toArray, List.set_cons_zero, List.set_cons_succ]))
            (refine held_take (i := 9) (oi := ?ot43) (v := .agg (vec 3 (devE y2))) ?at43 (by kernel_rfl) (by kernel_rfl) (by kernel_rfl) ?bt43 ?ct43 ?dt43 (by assumption) ?rt43; (case at43 => (simp only [List.getElem?_toArray, List.getElem?_cons_zero, List.getElem?_cons_succ]; rfl)); (case bt43 => exact fun _ _ _ h => h); (case ct43 => kernel_rfl); (case dt43 => (intro W hW; subst hW; exact exec_load_q 110 _ rfl q2 rfl _ (run_load_q HQ.out.2 Tryd.underlying110 rfl infoDe))); (case' rt43 => simp only [Act.put, List.setIfInBounds_toArray, List.set_cons_zero, List.set_cons_succ]))
            (refine held_take (i := 10) (oi := ?ot44) (v := .bool false) ?at44 (by kernel_rfl) (by kernel_rfl) (by kernel_rfl) ?bt44 ?ct44 ?dt44 (by assumption) ?rt44; (case at44 => (simp only [List.getElem?_toArray, List.getElem?_cons_zero, List.getElem?_cons_succ]; rfl)); (case bt44 => exact fun _ _ _ h => h); (case ct44 => kernel_rfl); (case dt44 => (intro W _; exact exec_neq_dev _ _ _ rfl x2 y2 rfl rfl W HB.out)); (case' rt44 => simp only [Act.put, List.setIfInBounds_toArray, List.set_cons_zero, List.set_cons_succ]))
            refine wpAnyH_done (by kernel_rfl) ?_ _
            go_wp2
            go_roundw
            case rel => exact ⟨k2 + 1, j2 + 1, by omega, by go_num, HS, rfl⟩
            case measure => simp [intOf]; omega
        · obtain rfl : k2 = N2 := by omega
          have HT2 : Hid (eqL deEq l2 m2 = true) := Lib.hid (by rw [HE2.out, ← HN2.out, HP0.out])
          clear hlt0 HP0 HE2 HN2 HL2 HA2 HB2
          go_wp2_with fail
          go_loopw [7, 136] (fun _ v W => ∃ k j : Nat, k ≤ N3 ∧ v = .int .i64 k ∧ Hid (eqTo irEq l3 m3 k = true) ∧ V.drewN j = W) (fun _ i _ => N3 - (intOf i).toNat)
          case atStart => exact ⟨0, j2, Nat.zero_le _, rfl, Lib.hid rfl, rfl⟩
          case round =>
            obtain ⟨k3, j3, hk, rfl, HP0, rfl⟩ := hrel
            by_cases hlt0 : k3 < N3
            · have hlt : k3 < l3.length := by have := HN3.out; omega
              have hltm : k3 < m3.length := by have := HL3.out; omega
              obtain ⟨a, p3, rfl, hp, -, hcp⟩ := HA3.out.at hlt
              obtain ⟨a', q3, rfl, hq, -, hcq⟩ := HB3.out.at hltm
              obtain ⟨x3, hx⟩ : ∃ x, x = l3[k3] := ⟨_, rfl⟩
              obtain ⟨y3, hy⟩ : ∃ y, y = m3[k3] := ⟨_, rfl⟩
              have hs := eqTo_succ irEq l3 m3 k3 hlt hltm
              rw [HP0.out, Bool.true_and, ← hx, ← hy] at hs
              rw [← hx] at hcp
              rw [← hy] at hcq
              have HQ := Lib.hid (And.intro hcp hcq)
              have HSL := Lib.hid hlt
              clear hcp hcq hx hy hltm hlt
              have hki : (k3 : Int) < (N3 : Int) := by omega
              obtain ⟨b, hb⟩ : ∃ b, b = irEq x3 y3 := ⟨_, rfl⟩
              rw [← hb] at hs
              cases b
              · have HB : Hid ((!irEq x3 y3) = true) := Lib.hid (by rw [← hb]; rfl)
                have hno := eqL_no hs (show k3 + 1 ≤ l3.length from HSL.out)
                have HF : Hid (G = false) := Lib.hid (by rw [HGF.out, hno]; simp)
                clear hb hs hno
                go_upto_region 20 with fail
                refine wp_region_held_drew (S := fun Y => Y = (V.drewN j3).drew) (by kernel_rfl) rfl (fun hS => ?_)
                (refine held_take (i := 0) (oi := ?ot45) (v := ?vt45) ?at45 (by kernel_rfl) (by kernel_rfl) (by kernel_rfl) ?bt45 ?ct45 ?dt45 (by assumption) ?rt45; (case at45 => (simp only [List.getElem?_toArray, List.getElem?_cons_zero]; rfl)); (case bt45 => exact fun _ _ _ h => h); (case ct45 => kernel_rfl); (case dt45 => (intro W hW; (try dsimp only at hW); go_split_ands; go_simp; (try with_reducible rfl))); (case' rt45 => simp only [Act.put, List.setIfInBounds_toArray, List.set_cons_zero, List.set_cons_succ]))
                (refine held_take (i := 1) (oi := ?ot46) (v := ?vt46) ?at46 (by kernel_rfl) (by kernel_rfl) (by kernel_rfl) ?bt46 ?ct46 ?dt46 (by assumption) ?rt46; (case at46 => (simp only [List.getElem?_toArray, List.getElem?_cons_zero, List.getElem?_cons_succ]; rfl)); (case bt46 => exact fun _ _ _ h => h); (case ct46 => kernel_rfl); (case dt46 => (intro W hW; subst hW; go_simp; (try with_reducible rfl))); (case' rt46 => simp only [Act.put, List.setIfInBounds_toArray, List.set_cons_zero, List.set_cons_succ]))
                (refine held_take (i := 2) (oi := ?ot47) (v := ?vt47) ?at47 (by kernel_rfl) (by kernel_rfl) (by kernel_rfl) ?bt47 ?ct47 ?dt47 (by assumption) ?rt47; (case at47 => (simp only [List.getElem?_toArray, List.getElem?_cons_zero, List.getElem?_cons_succ]; rfl)); (case bt47 => exact fun _ _ _ h => h); (case ct47 => kernel_rfl); (case dt47 => (intro W hW; (try dsimp only at hW); go_split_ands; go_simp; (try with_reducible rfl))); (case' rt47 => simp only [Act.put, List.setIfInBounds_toArray, List.set_cons_zero, List.set_cons_succ]))
                (refine held_take (i := 3) (oi := ?ot48) (v := .pointer (some p3)) ?at48 (by kernel_rfl) (by kernel_rfl) (by kernel_rfl) ?bt48 ?ct48 ?dt48 (by assumption) ?rt48; (case at48 => (simp only [List.getElem?_toArray, List.getElem?_cons_zero, List.getElem?_cons_succ]; rfl)); (case bt48 => exact fun _ _ _ h => h); (case ct48 => kernel_rfl); (case dt48 => (intro W hW; clear hW; go_simp; (try with_reducible rfl); (try (intro h; omega)))); (case' rt48 => simp only [Act.put, List.setIfInBounds_toArray, List.set_cons_zero, List.set_cons_succ]))
                (refine held_take (i := 4) (oi := ?ot49) (v := .agg (vec 3 (irqE x3))) ?at49 (by kernel_rfl) (by kernel_rfl) (by kernel_rfl) ?bt49 ?ct49 ?dt49 (by assumption) ?rt49; (case at49 => (simp only [List.getElem?_toArray, List.getElem?_cons_zero, List.getElem?_cons_succ]; rfl)); (case bt49 => exact fun _ _ _ h => h); (case ct49 => kernel_rfl); (case dt49 => (intro W hW; subst hW; exact exec_load_q 112 _ rfl p3 rfl _ (run_load_q HQ.out.1 Tryd.underlying112 rfl infoIr))); (case' rt49 => simp only [Act.put, List.setIfInBounds_toArray, List.set_cons_zero, List.set_cons_succ]))
                (refine held_take (i := 5) (oi := ?ot50) (v := ?vt50) ?at50 (by kernel_rfl) (by kernel_rfl) (by kernel_rfl) ?bt50 ?ct50 ?dt50 (by assumption) ?rt50; (case at50 => (simp only [List.getElem?_toArray, List.getElem?_cons_zero, List.getElem?_cons_succ]; rfl)); (case bt50 => exact fun _ _ _ h => h); (case ct50 => kernel_rfl); (case dt50 => (intro W hW; (try dsimp only at hW); go_split_ands; go_simp; (try with_reducible rfl))); (case' rt50 => simp only [Act.put, List.setIfInBounds_toArray, List.set_cons_zero, List.set_cons_succ]))
                (refine held_take (i := 6) (oi := ?ot51) (v := ?vt51) ?at51 (by kernel_rfl) (by kernel_rfl) (by kernel_rfl) ?bt51 ?ct51 ?dt51 (by assumption) ?rt51; (case at51 => (simp only [List.getElem?_toArray, List.getElem?_cons_zero, List.getElem?_cons_succ]; rfl)); (case bt51 => exact fun _ _ _ h => h); (case ct51 => kernel_rfl); (case dt51 => (intro W hW; subst hW; go_simp; (try with_reducible rfl))); (case' rt51 => simp only [Act.put, List.setIfInBounds_toArray, List.set_cons_zero, List.set_cons_succ]))
                (refine held_take (i := 7) (oi := ?ot52) (v := ?vt52) ?at52 (by kernel_rfl) (by kernel_rfl) (by kernel_rfl) ?bt52 ?ct52 ?dt52 (by assumption) ?rt52; (case at52 => (simp only [List.getElem?_toArray, List.getElem?_cons_zero, List.getElem?_cons_succ]; rfl)); (case bt52 => exact fun _ _ _ h => h); (case ct52 => kernel_rfl); (case dt52 => (intro W hW; (try dsimp only at hW); go_split_ands; go_simp; (try with_reducible rfl))); (case' rt52 => simp only [Act.put, List.setIfInBounds_toArray, List.set_cons_zero, List.set_cons_succ]))
                (refine held_take (i := 8) (oi := ?ot53) (v := .pointer (some q3)) ?at53 (by kernel_rfl) (by kernel_rfl) (by kernel_rfl) ?bt53 ?ct53 ?dt53 (by assumption) ?rt53; (case at53 => (simp only [List.getElem?_toArray, List.getElem?_cons_zero, List.getElem?_cons_succ]; rfl)); (case bt53 => exact fun _ _ _ h => h); (case ct53 => kernel_rfl); (case dt53 => (intro W hW; clear hW; go_simp; (try with_reducible rfl); (try (intro h; omega)))); (case' rt53 => simp only [Act.put, List.setIfInBounds_toArray, List.set_cons_zero, List.set_cons_succ]))
                (refine held_take (i := 9) (oi := ?ot54) (v := .agg (vec 3 (irqE y3))) ?at54 (by kernel_rfl) (by kernel_rfl) (by kernel_rfl) ?bt54 ?ct54 ?dt54 (by assumption) ?rt54; (case at54 => (simp only [List.getElem?_toArray, List.getElem?_cons_zero, List.getElem?_cons_succ]; rfl)); (case bt54 => exact fun _ _ _ h => h); (case ct54 => kernel_rfl); (case dt54 => (intro W hW; subst hW; exact exec_load_q 112 _ rfl q3 rfl _ (run_load_q HQ.out.2 Tryd.underlying112 rfl infoIr))); (case' rt54 => simp only [Act.put, List.setIfInBounds_toArray, List.set_cons_zero, List.set_cons_succ]))
                (refine held_take (i := 10) (oi := ?ot55) (v := .bool true) ?at55 (by kernel_rfl) (by kernel_rfl) (by kernel_rfl) ?bt55 ?ct55 ?dt55 (by assumption) ?rt55; (case at55 => (simp only [List.getElem?_toArray, List.getElem?_cons_zero, List.getElem?_cons_succ]; rfl)); (case bt55 => exact fun _ _ _ h => h); (case ct55 => kernel_rfl); (case dt55 => (intro W _; exact exec_neq_irq _ _ _ rfl x3 y3 rfl rfl W HB.out)); (case' rt55 => simp only [Act.put, List.setIfInBounds_toArray, List.set_cons_zero, List.set_cons_succ]))
                refine wpAnyH_done (by kernel_rfl) ?_ _
                go_wp2
                go_ret
                exact ⟨by rw [HF.out]; rfl, HP.out _ ⟨_, rfl⟩⟩
              · have HB : Hid ((!irEq x3 y3) = false) := Lib.hid (by rw [← hb]; rfl)
                have HS := Lib.hid hs
                clear hb hs
                go_upto_region 20 with fail
                refine wp_region_held_drew (S := fun Y => Y = (V.drewN j3).drew) (by kernel_rfl) rfl (fun hS => ?_)
                (refine held_take (i := 0) (oi := ?ot56) (v := ?vt56) ?at56 (by kernel_rfl) (by kernel_rfl) (by kernel_rfl) ?bt56 ?ct56 ?dt56 (by assumption) ?rt56; (case at56 => (simp only [List.getElem?_toArray, List.getElem?_cons_zero]; rfl)); (case bt56 => exact fun _ _ _ h => h); (case ct56 => kernel_rfl); (case dt56 => (intro W hW; (try dsimp only at hW); go_split_ands; go_simp; (try with_reducible rfl))); (case' rt56 => simp only [Act.put, List.setIfInBounds_toArray, List.set_cons_zero, List.set_cons_succ]))
                (refine held_take (i := 1) (oi := ?ot57) (v := ?vt57) ?at57 (by kernel_rfl) (by kernel_rfl) (by kernel_rfl) ?bt57 ?ct57 ?dt57 (by assumption) ?rt57; (case at57 => (simp only [List.getElem?_toArray, List.getElem?_cons_zero, List.getElem?_cons_succ]; rfl)); (case bt57 => exact fun _ _ _ h => h); (case ct57 => kernel_rfl); (case dt57 => (intro W hW; subst hW; go_simp; (try with_reducible rfl))); (case' rt57 => simp only [Act.put, List.setIfInBounds_toArray, List.set_cons_zero, List.set_cons_succ]))
                (refine held_take (i := 2) (oi := ?ot58) (v := ?vt58) ?at58 (by kernel_rfl) (by kernel_rfl) (by kernel_rfl) ?bt58 ?ct58 ?dt58 (by assumption) ?rt58; (case at58 => (simp only [List.getElem?_toArray, List.getElem?_cons_zero, List.getElem?_cons_succ]; rfl)); (case bt58 => exact fun _ _ _ h => h); (case ct58 => kernel_rfl); (case dt58 => (intro W hW; (try dsimp only at hW); go_split_ands; go_simp; (try with_reducible rfl))); (case' rt58 => simp only [Act.put, List.setIfInBounds_toArray, List.set_cons_zero, List.set_cons_succ]))
                (refine held_take (i := 3) (oi := ?ot59) (v := .pointer (some p3)) ?at59 (by kernel_rfl) (by kernel_rfl) (by kernel_rfl) ?bt59 ?ct59 ?dt59 (by assumption) ?rt59; (case at59 => (simp only [List.getElem?_toArray, List.getElem?_cons_zero, List.getElem?_cons_succ]; rfl)); (case bt59 => exact fun _ _ _ h => h); (case ct59 => kernel_rfl); (case dt59 => (intro W hW; clear hW; go_simp; (try with_reducible rfl); (try (intro h; omega)))); (case' rt59 => simp only [Act.put, List.setIfInBounds_toArray, List.set_cons_zero, List.set_cons_succ]))
                (refine held_take (i := 4) (oi := ?ot60) (v := .agg (vec 3 (irqE x3))) ?at60 (by kernel_rfl) (by kernel_rfl) (by kernel_rfl) ?bt60 ?ct60 ?dt60 (by assumption) ?rt60; (case at60 => (simp only [List.getElem?_toArray, List.getElem?_cons_zero, List.getElem?_cons_succ]; rfl)); (case bt60 => exact fun _ _ _ h => h); (case ct60 => kernel_rfl); (case dt60 => (intro W hW; subst hW; exact exec_load_q 112 _ rfl p3 rfl _ (run_load_q HQ.out.1 Tryd.underlying112 rfl infoIr))); (case' rt60 => simp only [Act.put, List.setIfInBounds_toArray, List.set_cons_zero, List.set_cons_succ]))
                (refine held_take (i := 5) (oi := ?ot61) (v := ?vt61) ?at61 (by kernel_rfl) (by kernel_rfl) (by kernel_rfl) ?bt61 ?ct61 ?dt61 (by assumption) ?rt61; (case at61 => (simp only [List.getElem?_toArray, List.getElem?_cons_zero, List.getElem?_cons_succ]; rfl)); (case bt61 => exact fun _ _ _ h => h); (case ct61 => kernel_rfl); (case dt61 => (intro W hW; (try dsimp only at hW); go_split_ands; go_simp; (try with_reducible rfl))); (case' rt61 => simp only [Act.put, List.setIfInBounds_toArray, List.set_cons_zero, List.set_cons_succ]))
                (refine held_take (i := 6) (oi := ?ot62) (v := ?vt62) ?at62 (by kernel_rfl) (by kernel_rfl) (by kernel_rfl) ?bt62 ?ct62 ?dt62 (by assumption) ?rt62; (case at62 => (simp only [List.getElem?_toArray, List.getElem?_cons_zero, List.getElem?_cons_succ]; rfl)); (case bt62 => exact fun _ _ _ h => h); (case ct62 => kernel_rfl); (case dt62 => (intro W hW; subst hW; go_simp; (try with_reducible rfl))); (case' rt62 => simp only [Act.put, List.setIfInBounds_toArray, List.set_cons_zero, List.set_cons_succ]))
                (refine held_take (i := 7) (oi := ?ot63) (v := ?vt63) ?at63 (by kernel_rfl) (by kernel_rfl) (by kernel_rfl) ?bt63 ?ct63 ?dt63 (by assumption) ?rt63; (case at63 => (simp only [List.getElem?_toArray, List.getElem?_cons_zero, List.getElem?_cons_succ]; rfl)); (case bt63 => exact fun _ _ _ h => h); (case ct63 => kernel_rfl); (case dt63 => (intro W hW; (try dsimp only at hW); go_split_ands; go_simp; (try with_reducible rfl))); (case' rt63 => simp only [Act.put, List.setIfInBounds_toArray, List.set_cons_zero, List.set_cons_succ]))
                (refine held_take (i := 8) (oi := ?ot64) (v := .pointer (some q3)) ?at64 (by kernel_rfl) (by kernel_rfl) (by kernel_rfl) ?bt64 ?ct64 ?dt64 (by assumption) ?rt64; (case at64 => (simp only [List.getElem?_toArray, List.getElem?_cons_zero, List.getElem?_cons_succ]; rfl)); (case bt64 => exact fun _ _ _ h => h); (case ct64 => kernel_rfl); (case dt64 => (intro W hW; clear hW; go_simp; (try with_reducible rfl); (try (intro h; omega)))); (case' rt64 => simp only [Act.put, List.setIfInBounds_toArray, List.set_cons_zero, List.set_cons_succ]))
                (refine held_take (i := 9) (oi := ?ot65) (v := .agg (vec 3 (irqE y3))) ?at65 (by kernel_rfl) (by kernel_rfl) (by kernel_rfl) ?bt65 ?ct65 ?dt65 (by assumption) ?rt65; (case at65 => (simp only [List.getElem?_toArray, List.getElem?_cons_zero, List.getElem?_cons_succ]; rfl)); (case bt65 => exact fun _ _ _ h => h); (case ct65 => kernel_rfl); (case dt65 => (intro W hW; subst hW; exact exec_load_q 112 _ rfl q3 rfl _ (run_load_q HQ.out.2 Tryd.underlying112 rfl infoIr))); (case' rt65 => simp only [Act.put, List.setIfInBounds_toArray, List.set_cons_zero, List.set_cons_succ]))
                (refine held_take (i := 10) (oi := ?ot66) (v := .bool false) ?at66 (by kernel_rfl) (by kernel_rfl) (by kernel_rfl) ?bt66 ?ct66 ?dt66 (by assumption) ?rt66; (case at66 => (simp only [List.getElem?_toArray, List.getElem?_cons_zero, List.getElem?_cons_succ]; rfl)); (case bt66 => exact fun _ _ _ h => h); (case ct66 => kernel_rfl); (case dt66 => (intro W _; exact exec_neq_irq _ _ _ rfl x3 y3 rfl rfl W HB.out)); (case' rt66 => simp only [Act.put, List.setIfInBounds_toArray, List.set_cons_zero, List.set_cons_succ]))
                refine wpAnyH_done (by kernel_rfl) ?_ _
                go_wp2
                go_roundw
                case rel => exact ⟨k3 + 1, j3 + 1, by omega, by go_num, HS, rfl⟩
                case measure => simp [intOf]; omega
            · obtain rfl : k3 = N3 := by omega
              have HT3 : Hid (eqL irEq l3 m3 = true) := Lib.hid (by rw [HE3.out, ← HN3.out, HP0.out])
              clear hlt0 HP0 HE3 HN3 HL3 HA3 HB3
              go_wp2_with fail
              go_loopw [8, 154] (fun _ v W => ∃ k j : Nat, k ≤ N4 ∧ v = .int .i64 k ∧ Hid (eqTo nuEq l4 m4 k = true) ∧ V.drewN j = W) (fun _ i _ => N4 - (intOf i).toNat)
              case atStart => exact ⟨0, j3, Nat.zero_le _, rfl, Lib.hid rfl, rfl⟩
              case round =>
                obtain ⟨k4, j4, hk, rfl, HP0, rfl⟩ := hrel
                by_cases hlt0 : k4 < N4
                · have hlt : k4 < l4.length := by have := HN4.out; omega
                  have hltm : k4 < m4.length := by have := HL4.out; omega
                  obtain ⟨a, p4, rfl, hp, -, hcp⟩ := HA4.out.at hlt
                  obtain ⟨a', q4, rfl, hq, -, hcq⟩ := HB4.out.at hltm
                  obtain ⟨x4, hx⟩ : ∃ x, x = l4[k4] := ⟨_, rfl⟩
                  obtain ⟨y4, hy⟩ : ∃ y, y = m4[k4] := ⟨_, rfl⟩
                  have hs := eqTo_succ nuEq l4 m4 k4 hlt hltm
                  rw [HP0.out, Bool.true_and, ← hx, ← hy] at hs
                  rw [← hx] at hcp
                  rw [← hy] at hcq
                  have HQ := Lib.hid (And.intro hcp hcq)
                  have hcp1 : V.cell? (a.add k4) = some (.int .u32 x4) := by have := hcp 0 (by decide); rw [← hp, addr_add_add, Nat.mul_one, Nat.add_zero] at this; exact this
                  have hcq1 : V.cell? (a'.add k4) = some (.int .u32 y4) := by have := hcq 0 (by decide); rw [← hq, addr_add_add, Nat.mul_one, Nat.add_zero] at this; exact this
                  clear hp hq
                  have HSL := Lib.hid hlt
                  clear hcp hcq hx hy hltm hlt
                  have hki : (k4 : Int) < (N4 : Int) := by omega
                  obtain ⟨b, hb⟩ : ∃ b, b = nuEq x4 y4 := ⟨_, rfl⟩
                  rw [← hb] at hs
                  cases b
                  · have HB : Hid ((!nuEq x4 y4) = true) := Lib.hid (by rw [← hb]; rfl)
                    have hno := eqL_no hs (show k4 + 1 ≤ l4.length from HSL.out)
                    have HF : Hid (G = false) := Lib.hid (by rw [HGF.out, hno]; simp)
                    clear hb hs hno
                    go_upto_region 26 with fail
                    have d1 : (x4 != y4) = true := HB.out
                    go_quiet (fail)
                    go_wp2
                    go_ret
                    exact ⟨by rw [HF.out]; rfl, HP.out _ ⟨j4 + nq, by first | rfl | exact (World.drewN_drewN _ _ _).symm⟩⟩
                  · have HB : Hid ((!nuEq x4 y4) = false) := Lib.hid (by rw [← hb]; rfl)
                    have HS := Lib.hid hs
                    clear hb hs
                    go_upto_region 26 with fail
                    have d1 : (x4 != y4) = false := HB.out
                    go_quiet (fail)
                    go_wp2
                    go_roundw
                    case rel => exact ⟨k4 + 1, j4 + nq, by omega, by go_num, HS, rfl⟩
                    case measure => simp [intOf]; omega
                · obtain rfl : k4 = N4 := by omega
                  have HT4 : Hid (eqL nuEq l4 m4 = true) := Lib.hid (by rw [HE4.out, ← HN4.out, HP0.out])
                  clear hlt0 HP0 HE4 HN4 HL4 HA4 HB4
                  have HR : Hid (G = true) := Lib.hid (by rw [HGF.out, HT1.out, HT2.out, HT3.out, HT4.out]; rfl)
                  go_wp2_with fail
                  go_ret
                  exact ⟨by rw [HR.out]; rfl, HP.out _ ⟨_, rfl⟩⟩
end Go.Proofs.YtmcpmcicolpoeaaDoor
/- The reference's Same. -/
namespace Go.Proofs.YtmcpmcicolpoeaaDoor
open Go.RowKit

theorem GRow.up' {w w' : World} {x : GV} (h : GRow w w.heap.size x) (hb : Below w.heap.size w w') : GRow w' w'.heap.size x := (h.below hb).wide hb.size
set_option maxHeartbeats 8000000 in
set_option maxRecDepth 100000 in
theorem rsame_any (x y : Cf) (a c a' c' : Value) (w : World) (hx : CfR w w.heap.size x a c) (hy : CfR w w.heap.size y a' c') : Calls Tryd.prog 10 #[cfVal x a c, cfVal y a' c'] w (EqV (cfEq x y) w) := by
  obtain ⟨V, hV⟩ : ∃ V, V = (w.alloc (.cells (vec 3 (cfE x.ver a c)) 28)).alloc (.cells (vec 3 (cfE y.ver a' c')) 28) := ⟨_, rfl⟩
  have k1 : Arr V w.heap.size 28 3 (cfE x.ver a c) := by rw [hV]; exact (Arr.new w _ _ _).alloc _
  have k2 : Arr V (w.heap.size + 1) 28 3 (cfE y.ver a' c') := by rw [hV]; exact Arr.newAt _ _ _ _ (by simp)
  have hB : Below w.heap.size w V := by rw [hV]; exact ((Below.refl _ _).alloc (by simp <;> omega) _).alloc (by simp <;> omega) _
  obtain ⟨x0, x1, x2⟩ := cf_cells k1
  obtain ⟨y0, y1, y2⟩ := cf_cells k2
  obtain ⟨⟨A, d, ys, rfl, hm, hr, hl⟩, ⟨A2, d2, rfl, hr2, hl2⟩⟩ := hx.up hB
  obtain ⟨⟨B, e, zs, rfl, hm', hr', hl'⟩, ⟨B2, e2, rfl, hr2', hl2'⟩⟩ := hy.up hB
  have hlen : ys.length = x.gs.length := by rw [← hm, List.length_map]
  have hlen' : zs.length = y.gs.length := by rw [← hm', List.length_map]
  have hgq : eqL gsEq x.gs y.gs = eqL yEq ys zs := by rw [eqL_map, hm, hm']
  unfold cfVal EqV
  obtain ⟨G, hG⟩ : ∃ G, G = cfEq x y := ⟨_, rfl⟩
  have HGF : Hid (G = (x.ver == y.ver && (eqL yEq ys zs && eqL chEq x.chs y.chs))) := Lib.hid (by rw [hG, ← hgq]; rfl)
  rw [← hG]
  obtain ⟨l2, hl2e⟩ : ∃ l, l = x.chs := ⟨_, rfl⟩
  obtain ⟨m2, hm2e⟩ : ∃ l, l = y.chs := ⟨_, rfl⟩
  rw [← hl2e] at x2 hl2 hr2 HGF hV
  rw [← hm2e] at y2 hl2' hr2' HGF hV
  rw [← hl2e, ← hm2e]
  rw [← hlen] at x1 hl hV ⊢
  rw [← hlen'] at y1 hl' hV ⊢
  obtain ⟨N1, hN1⟩ : ∃ N, N = ys.length := ⟨_, rfl⟩
  obtain ⟨M1, hM1⟩ : ∃ N, N = zs.length := ⟨_, rfl⟩
  obtain ⟨N2, hN2⟩ : ∃ N, N = l2.length := ⟨_, rfl⟩
  obtain ⟨M2, hM2⟩ : ∃ N, N = m2.length := ⟨_, rfl⟩
  rw [← hN1] at x1 hl hV ⊢
  rw [← hM1] at y1 hl' hV ⊢
  rw [← hN2] at x2 hl2 hV ⊢
  rw [← hM2] at y2 hl2' hV ⊢
  have HN1 := Lib.hid hN1
  have HM1 := Lib.hid hM1
  have HN2 := Lib.hid hN2
  have HM2 := Lib.hid hM2
  have H1 := Lib.hid (And.intro hr hr')
  have H2 := Lib.hid (And.intro hr2 hr2')
  have HK := Lib.hid hB
  have HW := Lib.hid hV
  clear hV k1 k2 hB hr hr' hr2 hr2' hx hy hm hm' hlen hlen' hgq hG hl2e hm2e hN1 hM1 hN2 hM2
  go_enter Tryd.func10, Tryd.ntmps10
  go_upto_region 1 with fail
  rw [← HW.out]
  clear HW
  by_cases e1 : x.ver = y.ver
  rotate_left
  · have n1 : (x.ver != y.ver) = true := bne_iff_ne.2 e1
    have HF : Hid (G = false) := Lib.hid (by rw [HGF.out, show (x.ver == y.ver) = false by simp [e1]]; rfl)
    clear e1
    go_wp2_with fail
    go_ret
    exact ⟨by rw [HF.out]; rfl, HK.out⟩
  have n1 : (x.ver != y.ver) = false := by simp [e1]
  have HV : Hid ((x.ver == y.ver) = true) := Lib.hid (by simp [e1])
  clear e1
  by_cases h1 : N1 = M1
  rotate_left
  · have hl0 : ys.length ≠ zs.length := by rw [← HN1.out, ← HM1.out]; exact h1
    have HF : Hid (G = false) := Lib.hid (by rw [HGF.out, eqL_len hl0]; simp)
    have n2 : ((N1 : Int) != (M1 : Int)) = true := bne_iff_ne.2 (by omega)
    clear h1 hl0
    go_wp2_with fail
    go_ret
    exact ⟨by rw [HF.out]; rfl, HK.out⟩
  have hL1 : ys.length = zs.length := by rw [← HN1.out, ← HM1.out]; exact h1
  have HE1 := Lib.hid (eqL_all (f := yEq) hL1)
  have HL1 := Lib.hid hL1
  have n2 : ((N1 : Int) != (M1 : Int)) = false := by simp [h1]
  by_cases h2 : N2 = M2
  rotate_left
  · have hl0 : l2.length ≠ m2.length := by rw [← HN2.out, ← HM2.out]; exact h2
    have HF : Hid (G = false) := Lib.hid (by rw [HGF.out, eqL_len hl0]; simp)
    have n3 : ((N2 : Int) != (M2 : Int)) = true := bne_iff_ne.2 (by omega)
    clear h1 h2 hl0 hL1
    go_wp2_with fail
    go_ret
    exact ⟨by rw [HF.out]; rfl, HK.out⟩
  have hL2 : l2.length = m2.length := by rw [← HN2.out, ← HM2.out]; exact h2
  have HE2 := Lib.hid (eqL_all (f := chEq) hL2)
  have HL2 := Lib.hid hL2
  have n3 : ((N2 : Int) != (M2 : Int)) = false := by simp [h2]
  rw [← h1] at y1
  rw [← h2] at y2
  clear h1 h2 hL1 hL2 HM1 HM2 hl' hl2'
  go_upto_region 3 with fail
  have HXY := Lib.hid (And.intro (And.intro x1 x2) (And.intro y1 y2))
  go_wp2_with fail
  clear n1 n2 n3
  go_loopw [5, 33] (fun _ v W => ∃ k : Nat, k ≤ N1 ∧ v = .int .i64 k ∧ Hid (eqTo yEq ys zs k = true) ∧ Hid (Below V.heap.size V W)) (fun _ i _ => N1 - (intOf i).toNat)
  case atStart => exact ⟨0, Nat.zero_le _, rfl, Lib.hid rfl, Lib.hid (Below.refl _ _)⟩
  case round =>
    obtain ⟨k1, hk, rfl, HP0, HB⟩ := hrel
    obtain ⟨W, hW⟩ : ∃ W : World, W = wr := ⟨_, rfl⟩
    subst hW
    have x1 : W.cell? ⟨w.heap.size, 1, none⟩ = _ := (HB.out.cell (World.block_lt_of_cell? V _ HXY.out.1.1)).trans HXY.out.1.1
    have y1 : W.cell? ⟨w.heap.size + 1, 1, none⟩ = _ := (HB.out.cell (World.block_lt_of_cell? V _ HXY.out.2.1)).trans HXY.out.2.1
    by_cases hlt0 : k1 < N1
    · have hlt : k1 < ys.length := by have := HN1.out; omega
      have hltm : k1 < zs.length := by have := HL1.out; omega
      have g1 := H1.out.1.up HB.out
      have g2 := H1.out.2.up HB.out
      obtain ⟨a, p1, rfl, hp, -, hcp⟩ := g1.row.at hlt
      obtain ⟨a', q1, rfl, hq, -, hcq⟩ := g2.row.at hltm
      obtain ⟨u, hu⟩ : ∃ u, u = ys[k1] := ⟨_, rfl⟩
      obtain ⟨v, hv⟩ : ∃ v, v = zs[k1] := ⟨_, rfl⟩
      have hs := eqTo_succ yEq ys zs k1 hlt hltm
      rw [HP0.out, Bool.true_and, ← hu, ← hv] at hs
      rw [← hu] at hcp
      rw [← hv] at hcq
      have ru : GRow W W.heap.size u := by rw [hu]; exact g1.all _ (List.getElem_mem _)
      have rv : GRow W W.heap.size v := by rw [hv]; exact g2.all _ (List.getElem_mem _)
      have HQ := Lib.hid (And.intro hcp hcq)
      have HSG := Lib.hid (rsameGuest_any u v W.drew (ru.up' (show Below W.heap.size W W.drew from VS.begin W)) (rv.up' (show Below W.heap.size W W.drew from VS.begin W)))
      obtain ⟨b, hb⟩ : ∃ b, b = yEq u v := ⟨_, rfl⟩
      rw [← hb] at hs
      rw [show gsEq u.g v.g = b from hb.symm] at HSG
      have hki : (k1 : Int) < (N1 : Int) := by omega
      have HSL := Lib.hid hlt
      clear g1 g2 hcp hcq ru rv hu hv hltm hlt hb
      cases b
      · have hno := eqL_no hs (show k1 + 1 ≤ ys.length from HSL.out)
        have HF : Hid (G = false) := Lib.hid (by rw [HGF.out, hno]; simp)
        clear hs hno
        go_upto_region 6 with fail
        refine wp_region_held_drew (S := fun Y => VS W Y) (by kernel_rfl) (VS.begin W) (fun hS => ?_)
        (refine held_take (i := 0) (oi := ?ot1) (v := ?vt1) ?at1 (by kernel_rfl) (by kernel_rfl) (by kernel_rfl) ?bt1 ?ct1 ?dt1 (by assumption) ?rt1; (case at1 => (simp only [List.getElem?_toArray, List.getElem?_cons_zero]; rfl)); (case bt1 => exact fun _ _ _ h => h); (case ct1 => kernel_rfl); (case dt1 => (intro W hW; (try dsimp only at hW); go_split_ands; go_simp; (try with_reducible rfl))); (case' rt1 => simp only [Act.put, List.setIfInBounds_toArray, List.set_cons_zero, List.set_cons_succ]))
        (refine held_take (i := 1) (oi := ?ot2) (v := ?vt2) ?at2 (by kernel_rfl) (by kernel_rfl) (by kernel_rfl) ?bt2 ?ct2 ?dt2 (by assumption) ?rt2; (case at2 => (simp only [List.getElem?_toArray, List.getElem?_cons_zero, List.getElem?_cons_succ]; rfl)); (case bt2 => exact fun _ _ _ h => h); (case ct2 => kernel_rfl); (case dt2 => (intro Z hZ; have k0 := ((show Below W.heap.size W Z from hZ).cell (World.block_lt_of_cell? W _ x1)).trans x1; go_simp; (try with_reducible rfl))); (case' rt2 => simp only [Act.put, List.setIfInBounds_toArray, List.set_cons_zero, List.set_cons_succ]))
        (refine held_take (i := 2) (oi := ?ot3) (v := ?vt3) ?at3 (by kernel_rfl) (by kernel_rfl) (by kernel_rfl) ?bt3 ?ct3 ?dt3 (by assumption) ?rt3; (case at3 => (simp only [List.getElem?_toArray, List.getElem?_cons_zero, List.getElem?_cons_succ]; rfl)); (case bt3 => exact fun _ _ _ h => h); (case ct3 => kernel_rfl); (case dt3 => (intro W hW; (try dsimp only at hW); go_split_ands; go_simp; (try with_reducible rfl))); (case' rt3 => simp only [Act.put, List.setIfInBounds_toArray, List.set_cons_zero, List.set_cons_succ]))
        (refine held_take (i := 3) (oi := ?ot4) (v := .pointer (some p1)) ?at4 (by kernel_rfl) (by kernel_rfl) (by kernel_rfl) ?bt4 ?ct4 ?dt4 (by assumption) ?rt4; (case at4 => (simp only [List.getElem?_toArray, List.getElem?_cons_zero, List.getElem?_cons_succ]; rfl)); (case bt4 => exact fun _ _ _ h => h); (case ct4 => kernel_rfl); (case dt4 => (intro W hW; clear hW; go_simp; (try with_reducible rfl); (try (intro h; omega)))); (case' rt4 => simp only [Act.put, List.setIfInBounds_toArray, List.set_cons_zero, List.set_cons_succ]))
        (refine held_take (i := 4) (oi := ?ot5) (v := .agg (vec 79 (guestE u))) ?at5 (by kernel_rfl) (by kernel_rfl) (by kernel_rfl) ?bt5 ?ct5 ?dt5 (by assumption) ?rt5; (case at5 => (simp only [List.getElem?_toArray, List.getElem?_cons_zero, List.getElem?_cons_succ]; rfl)); (case bt5 => exact fun _ _ _ h => h); (case ct5 => kernel_rfl); (case dt5 => (intro Z hZ; exact exec_load_q 64 _ rfl p1 rfl _ (run_load_q (fun i hi => ((show Below W.heap.size W Z from hZ).cell (World.block_lt_of_cell? W _ (HQ.out.1 i hi))).trans (HQ.out.1 i hi)) Tryd.underlying64 rfl infoGu))); (case' rt5 => simp only [Act.put, List.setIfInBounds_toArray, List.set_cons_zero, List.set_cons_succ]))
        (refine held_take (i := 5) (oi := ?ot6) (v := ?vt6) ?at6 (by kernel_rfl) (by kernel_rfl) (by kernel_rfl) ?bt6 ?ct6 ?dt6 (by assumption) ?rt6; (case at6 => (simp only [List.getElem?_toArray, List.getElem?_cons_zero, List.getElem?_cons_succ]; rfl)); (case bt6 => exact fun _ _ _ h => h); (case ct6 => kernel_rfl); (case dt6 => (intro W hW; (try dsimp only at hW); go_split_ands; go_simp; (try with_reducible rfl))); (case' rt6 => simp only [Act.put, List.setIfInBounds_toArray, List.set_cons_zero, List.set_cons_succ]))
        (refine held_take (i := 6) (oi := ?ot7) (v := ?vt7) ?at7 (by kernel_rfl) (by kernel_rfl) (by kernel_rfl) ?bt7 ?ct7 ?dt7 (by assumption) ?rt7; (case at7 => (simp only [List.getElem?_toArray, List.getElem?_cons_zero, List.getElem?_cons_succ]; rfl)); (case bt7 => exact fun _ _ _ h => h); (case ct7 => kernel_rfl); (case dt7 => (intro Z hZ; have k0 := ((show Below W.heap.size W Z from hZ).cell (World.block_lt_of_cell? W _ y1)).trans y1; go_simp; (try with_reducible rfl))); (case' rt7 => simp only [Act.put, List.setIfInBounds_toArray, List.set_cons_zero, List.set_cons_succ]))
        (refine held_take (i := 7) (oi := ?ot8) (v := ?vt8) ?at8 (by kernel_rfl) (by kernel_rfl) (by kernel_rfl) ?bt8 ?ct8 ?dt8 (by assumption) ?rt8; (case at8 => (simp only [List.getElem?_toArray, List.getElem?_cons_zero, List.getElem?_cons_succ]; rfl)); (case bt8 => exact fun _ _ _ h => h); (case ct8 => kernel_rfl); (case dt8 => (intro W hW; (try dsimp only at hW); go_split_ands; go_simp; (try with_reducible rfl))); (case' rt8 => simp only [Act.put, List.setIfInBounds_toArray, List.set_cons_zero, List.set_cons_succ]))
        (refine held_take (i := 8) (oi := ?ot9) (v := .pointer (some q1)) ?at9 (by kernel_rfl) (by kernel_rfl) (by kernel_rfl) ?bt9 ?ct9 ?dt9 (by assumption) ?rt9; (case at9 => (simp only [List.getElem?_toArray, List.getElem?_cons_zero, List.getElem?_cons_succ]; rfl)); (case bt9 => exact fun _ _ _ h => h); (case ct9 => kernel_rfl); (case dt9 => (intro W hW; clear hW; go_simp; (try with_reducible rfl); (try (intro h; omega)))); (case' rt9 => simp only [Act.put, List.setIfInBounds_toArray, List.set_cons_zero, List.set_cons_succ]))
        (refine held_take (i := 9) (oi := ?ot10) (v := .agg (vec 79 (guestE v))) ?at10 (by kernel_rfl) (by kernel_rfl) (by kernel_rfl) ?bt10 ?ct10 ?dt10 (by assumption) ?rt10; (case at10 => (simp only [List.getElem?_toArray, List.getElem?_cons_zero, List.getElem?_cons_succ]; rfl)); (case bt10 => exact fun _ _ _ h => h); (case ct10 => kernel_rfl); (case dt10 => (intro Z hZ; exact exec_load_q 64 _ rfl q1 rfl _ (run_load_q (fun i hi => ((show Below W.heap.size W Z from hZ).cell (World.block_lt_of_cell? W _ (HQ.out.2 i hi))).trans (HQ.out.2 i hi)) Tryd.underlying64 rfl infoGu))); (case' rt10 => simp only [Act.put, List.setIfInBounds_toArray, List.set_cons_zero, List.set_cons_succ]))
        refine held_one (i := 10) (oi := ?ot11) (by kernel_rfl) ?at11 ?ct11 (fun K10 hK10 => ?_)
        (case at11 => (simp only [List.getElem?_toArray, List.getElem?_cons_zero, List.getElem?_cons_succ]; rfl))
        (case ct11 => kernel_rfl)
        go_simp
        refine HSG.out.mono ?_
        rintro e y10 ⟨rfl, hd⟩
        have HDD : Hid (VS W y10) := Lib.hid ((VS.begin W).keep hd)
        refine hK10 _ _ HDD.out (fun hS10 => ?_)
        clear hd hK10 K10
        (refine held_take (i := 11) (oi := ?ot12) (v := ?vt12) ?at12 (by kernel_rfl) (by kernel_rfl) (by kernel_rfl) ?bt12 ?ct12 ?dt12 (by assumption) ?rt12; (case at12 => (simp only [List.getElem?_toArray, List.getElem?_cons_zero, List.getElem?_cons_succ]; rfl)); (case bt12 => exact fun _ _ _ h => h); (case ct12 => kernel_rfl); (case dt12 => (intro W hW; (try dsimp only at hW); go_split_ands; go_simp; (try with_reducible rfl))); (case' rt12 => simp only [Act.put, List.setIfInBounds_toArray, List.set_cons_zero, List.set_cons_succ]))
        refine wpAnyH_done (by kernel_rfl) ?_ _
        go_wp2
        go_ret
        exact ⟨by rw [HF.out]; rfl, HK.out.trans ((HB.out.trans ((show VS W y10 from HDD.out).mono HB.out.size)).mono HK.out.size)⟩
      · have HS := Lib.hid hs
        clear hs
        go_upto_region 6 with fail
        refine wp_region_held_drew (S := fun Y => VS W Y) (by kernel_rfl) (VS.begin W) (fun hS => ?_)
        (refine held_take (i := 0) (oi := ?ot13) (v := ?vt13) ?at13 (by kernel_rfl) (by kernel_rfl) (by kernel_rfl) ?bt13 ?ct13 ?dt13 (by assumption) ?rt13; (case at13 => (simp only [List.getElem?_toArray, List.getElem?_cons_zero]; rfl)); (case bt13 => exact fun _ _ _ h => h); (case ct13 => kernel_rfl); (case dt13 => (intro W hW; (try dsimp only at hW); go_split_ands; go_simp; (try with_reducible rfl))); (case' rt13 => simp only [Act.put, List.setIfInBounds_toArray, List.set_cons_zero, List.set_cons_succ]))
        (refine held_take (i := 1) (oi := ?ot14) (v := ?vt14) ?at14 (by kernel_rfl) (by kernel_rfl) (by kernel_rfl) ?bt14 ?ct14 ?dt14 (by assumption) ?rt14; (case at14 => (simp only [List.getElem?_toArray, List.getElem?_cons_zero, List.getElem?_cons_succ]; rfl)); (case bt14 => exact fun _ _ _ h => h); (case ct14 => kernel_rfl); (case dt14 => (intro Z hZ; have k0 := ((show Below W.heap.size W Z from hZ).cell (World.block_lt_of_cell? W _ x1)).trans x1; go_simp; (try with_reducible rfl))); (case' rt14 => simp only [Act.put, List.setIfInBounds_toArray, List.set_cons_zero, List.set_cons_succ]))
        (refine held_take (i := 2) (oi := ?ot15) (v := ?vt15) ?at15 (by kernel_rfl) (by kernel_rfl) (by kernel_rfl) ?bt15 ?ct15 ?dt15 (by assumption) ?rt15; (case at15 => (simp only [List.getElem?_toArray, List.getElem?_cons_zero, List.getElem?_cons_succ]; rfl)); (case bt15 => exact fun _ _ _ h => h); (case ct15 => kernel_rfl); (case dt15 => (intro W hW; (try dsimp only at hW); go_split_ands; go_simp; (try with_reducible rfl))); (case' rt15 => simp only [Act.put, List.setIfInBounds_toArray, List.set_cons_zero, List.set_cons_succ]))
        (refine held_take (i := 3) (oi := ?ot16) (v := .pointer (some p1)) ?at16 (by kernel_rfl) (by kernel_rfl) (by kernel_rfl) ?bt16 ?ct16 ?dt16 (by assumption) ?rt16; (case at16 => (simp only [List.getElem?_toArray, List.getElem?_cons_zero, List.getElem?_cons_succ]; rfl)); (case bt16 => exact fun _ _ _ h => h); (case ct16 => kernel_rfl); (case dt16 => (intro W hW; clear hW; go_simp; (try with_reducible rfl); (try (intro h; omega)))); (case' rt16 => simp only [Act.put, List.setIfInBounds_toArray, List.set_cons_zero, List.set_cons_succ]))
        (refine held_take (i := 4) (oi := ?ot17) (v := .agg (vec 79 (guestE u))) ?at17 (by kernel_rfl) (by kernel_rfl) (by kernel_rfl) ?bt17 ?ct17 ?dt17 (by assumption) ?rt17; (case at17 => (simp only [List.getElem?_toArray, List.getElem?_cons_zero, List.getElem?_cons_succ]; rfl)); (case bt17 => exact fun _ _ _ h => h); (case ct17 => kernel_rfl); (case dt17 => (intro Z hZ; exact exec_load_q 64 _ rfl p1 rfl _ (run_load_q (fun i hi => ((show Below W.heap.size W Z from hZ).cell (World.block_lt_of_cell? W _ (HQ.out.1 i hi))).trans (HQ.out.1 i hi)) Tryd.underlying64 rfl infoGu))); (case' rt17 => simp only [Act.put, List.setIfInBounds_toArray, List.set_cons_zero, List.set_cons_succ]))
        (refine held_take (i := 5) (oi := ?ot18) (v := ?vt18) ?at18 (by kernel_rfl) (by kernel_rfl) (by kernel_rfl) ?bt18 ?ct18 ?dt18 (by assumption) ?rt18; (case at18 => (simp only [List.getElem?_toArray, List.getElem?_cons_zero, List.getElem?_cons_succ]; rfl)); (case bt18 => exact fun _ _ _ h => h); (case ct18 => kernel_rfl); (case dt18 => (intro W hW; (try dsimp only at hW); go_split_ands; go_simp; (try with_reducible rfl))); (case' rt18 => simp only [Act.put, List.setIfInBounds_toArray, List.set_cons_zero, List.set_cons_succ]))
        (refine held_take (i := 6) (oi := ?ot19) (v := ?vt19) ?at19 (by kernel_rfl) (by kernel_rfl) (by kernel_rfl) ?bt19 ?ct19 ?dt19 (by assumption) ?rt19; (case at19 => (simp only [List.getElem?_toArray, List.getElem?_cons_zero, List.getElem?_cons_succ]; rfl)); (case bt19 => exact fun _ _ _ h => h); (case ct19 => kernel_rfl); (case dt19 => (intro Z hZ; have k0 := ((show Below W.heap.size W Z from hZ).cell (World.block_lt_of_cell? W _ y1)).trans y1; go_simp; (try with_reducible rfl))); (case' rt19 => simp only [Act.put, List.setIfInBounds_toArray, List.set_cons_zero, List.set_cons_succ]))
        (refine held_take (i := 7) (oi := ?ot20) (v := ?vt20) ?at20 (by kernel_rfl) (by kernel_rfl) (by kernel_rfl) ?bt20 ?ct20 ?dt20 (by assumption) ?rt20; (case at20 => (simp only [List.getElem?_toArray, List.getElem?_cons_zero, List.getElem?_cons_succ]; rfl)); (case bt20 => exact fun _ _ _ h => h); (case ct20 => kernel_rfl); (case dt20 => (intro W hW; (try dsimp only at hW); go_split_ands; go_simp; (try with_reducible rfl))); (case' rt20 => simp only [Act.put, List.setIfInBounds_toArray, List.set_cons_zero, List.set_cons_succ]))
        (refine held_take (i := 8) (oi := ?ot21) (v := .pointer (some q1)) ?at21 (by kernel_rfl) (by kernel_rfl) (by kernel_rfl) ?bt21 ?ct21 ?dt21 (by assumption) ?rt21; (case at21 => (simp only [List.getElem?_toArray, List.getElem?_cons_zero, List.getElem?_cons_succ]; rfl)); (case bt21 => exact fun _ _ _ h => h); (case ct21 => kernel_rfl); (case dt21 => (intro W hW; clear hW; go_simp; (try with_reducible rfl); (try (intro h; omega)))); (case' rt21 => simp only [Act.put, List.setIfInBounds_toArray, List.set_cons_zero, List.set_cons_succ]))
        (refine held_take (i := 9) (oi := ?ot22) (v := .agg (vec 79 (guestE v))) ?at22 (by kernel_rfl) (by kernel_rfl) (by kernel_rfl) ?bt22 ?ct22 ?dt22 (by assumption) ?rt22; (case at22 => (simp only [List.getElem?_toArray, List.getElem?_cons_zero, List.getElem?_cons_succ]; rfl)); (case bt22 => exact fun _ _ _ h => h); (case ct22 => kernel_rfl); (case dt22 => (intro Z hZ; exact exec_load_q 64 _ rfl q1 rfl _ (run_load_q (fun i hi => ((show Below W.heap.size W Z from hZ).cell (World.block_lt_of_cell? W _ (HQ.out.2 i hi))).trans (HQ.out.2 i hi)) Tryd.underlying64 rfl infoGu))); (case' rt22 => simp only [Act.put, List.setIfInBounds_toArray, List.set_cons_zero, List.set_cons_succ]))
        refine held_one (i := 10) (oi := ?ot23) (by kernel_rfl) ?at23 ?ct23 (fun K10 hK10 => ?_)
        (case at23 => (simp only [List.getElem?_toArray, List.getElem?_cons_zero, List.getElem?_cons_succ]; rfl))
        (case ct23 => kernel_rfl)
        go_simp
        refine HSG.out.mono ?_
        rintro e y10 ⟨rfl, hd⟩
        have HDD : Hid (VS W y10) := Lib.hid ((VS.begin W).keep hd)
        refine hK10 _ _ HDD.out (fun hS10 => ?_)
        clear hd hK10 K10
        (refine held_take (i := 11) (oi := ?ot24) (v := ?vt24) ?at24 (by kernel_rfl) (by kernel_rfl) (by kernel_rfl) ?bt24 ?ct24 ?dt24 (by assumption) ?rt24; (case at24 => (simp only [List.getElem?_toArray, List.getElem?_cons_zero, List.getElem?_cons_succ]; rfl)); (case bt24 => exact fun _ _ _ h => h); (case ct24 => kernel_rfl); (case dt24 => (intro W hW; (try dsimp only at hW); go_split_ands; go_simp; (try with_reducible rfl))); (case' rt24 => simp only [Act.put, List.setIfInBounds_toArray, List.set_cons_zero, List.set_cons_succ]))
        refine wpAnyH_done (by kernel_rfl) ?_ _
        go_wp2
        go_roundw
        case rel => exact ⟨k1 + 1, by omega, by go_num, HS, Lib.hid (HB.out.trans ((show VS W y10 from HDD.out).mono HB.out.size))⟩
        case measure => simp [intOf]; omega
    · obtain rfl : k1 = N1 := by omega
      have HT1 : Hid (eqL yEq ys zs = true) := Lib.hid (by rw [HE1.out, ← HN1.out, HP0.out])
      have HX2 := Lib.hid (And.intro (H2.out.1.up HB.out) (H2.out.2.up HB.out))
      have x2 : W.cell? ⟨w.heap.size, 2, none⟩ = _ := (HB.out.cell (World.block_lt_of_cell? V _ HXY.out.1.2)).trans HXY.out.1.2
      have y2 : W.cell? ⟨w.heap.size + 1, 2, none⟩ = _ := (HB.out.cell (World.block_lt_of_cell? V _ HXY.out.2.2)).trans HXY.out.2.2
      have HK := Lib.hid (HK.out.trans (HB.out.mono HK.out.size))
      clear hlt0 HP0 HE1 HN1 HL1 x1 y1 HXY HB H1
      go_wp2_with fail
      go_loopw [6, 52] (fun _ v X => ∃ k j : Nat, k ≤ N2 ∧ v = .int .i64 k ∧ Hid (eqTo chEq l2 m2 k = true) ∧ W.drewN j = X) (fun _ i _ => N2 - (intOf i).toNat)
      case atStart => exact ⟨0, 0, Nat.zero_le _, rfl, Lib.hid rfl, rfl⟩
      case round =>
        obtain ⟨k2, j2, hk, rfl, HP0, rfl⟩ := hrel
        by_cases hlt0 : k2 < N2
        · have hlt : k2 < l2.length := by have := HN2.out; omega
          have hltm : k2 < m2.length := by have := HL2.out; omega
          obtain ⟨a, p2, rfl, hp, -, hcp⟩ := HX2.out.1.at hlt
          obtain ⟨a', q2, rfl, hq, -, hcq⟩ := HX2.out.2.at hltm
          obtain ⟨u, hu⟩ : ∃ u, u = l2[k2] := ⟨_, rfl⟩
          obtain ⟨v, hv⟩ : ∃ v, v = m2[k2] := ⟨_, rfl⟩
          have hs := eqTo_succ chEq l2 m2 k2 hlt hltm
          rw [HP0.out, Bool.true_and, ← hu, ← hv] at hs
          rw [← hu] at hcp
          rw [← hv] at hcq
          have HQ := Lib.hid (And.intro hcp hcq)
          have HSL := Lib.hid hlt
          clear hcp hcq hu hv hltm hlt
          have hki : (k2 : Int) < (N2 : Int) := by omega
          obtain ⟨b, hb⟩ : ∃ b, b = chEq u v := ⟨_, rfl⟩
          rw [← hb] at hs
          cases b
          · have HB : Hid ((!chEq u v) = true) := Lib.hid (by rw [← hb]; rfl)
            have hno := eqL_no hs (show k2 + 1 ≤ l2.length from HSL.out)
            have HF : Hid (G = false) := Lib.hid (by rw [HGF.out, hno]; simp)
            clear hb hs hno
            go_upto_region 12 with fail
            refine wp_region_held_drew (S := fun Y => Y = (W.drewN j2).drew) (by kernel_rfl) rfl (fun hS => ?_)
            (refine held_take (i := 0) (oi := ?ot25) (v := ?vt25) ?at25 (by kernel_rfl) (by kernel_rfl) (by kernel_rfl) ?bt25 ?ct25 ?dt25 (by assumption) ?rt25; (case at25 => (simp only [List.getElem?_toArray, List.getElem?_cons_zero]; rfl)); (case bt25 => exact fun _ _ _ h => h); (case ct25 => kernel_rfl); (case dt25 => (intro W hW; (try dsimp only at hW); go_split_ands; go_simp; (try with_reducible rfl))); (case' rt25 => simp only [Act.put, List.setIfInBounds_toArray, List.set_cons_zero, List.set_cons_succ]))
            (refine held_take (i := 1) (oi := ?ot26) (v := ?vt26) ?at26 (by kernel_rfl) (by kernel_rfl) (by kernel_rfl) ?bt26 ?ct26 ?dt26 (by assumption) ?rt26; (case at26 => (simp only [List.getElem?_toArray, List.getElem?_cons_zero, List.getElem?_cons_succ]; rfl)); (case bt26 => exact fun _ _ _ h => h); (case ct26 => kernel_rfl); (case dt26 => (intro W hW; subst hW; go_simp; (try with_reducible rfl))); (case' rt26 => simp only [Act.put, List.setIfInBounds_toArray, List.set_cons_zero, List.set_cons_succ]))
            (refine held_take (i := 2) (oi := ?ot27) (v := ?vt27) ?at27 (by kernel_rfl) (by kernel_rfl) (by kernel_rfl) ?bt27 ?ct27 ?dt27 (by assumption) ?rt27; (case at27 => (simp only [List.getElem?_toArray, List.getElem?_cons_zero, List.getElem?_cons_succ]; rfl)); (case bt27 => exact fun _ _ _ h => h); (case ct27 => kernel_rfl); (case dt27 => (intro W hW; (try dsimp only at hW); go_split_ands; go_simp; (try with_reducible rfl))); (case' rt27 => simp only [Act.put, List.setIfInBounds_toArray, List.set_cons_zero, List.set_cons_succ]))
            (refine held_take (i := 3) (oi := ?ot28) (v := .pointer (some p2)) ?at28 (by kernel_rfl) (by kernel_rfl) (by kernel_rfl) ?bt28 ?ct28 ?dt28 (by assumption) ?rt28; (case at28 => (simp only [List.getElem?_toArray, List.getElem?_cons_zero, List.getElem?_cons_succ]; rfl)); (case bt28 => exact fun _ _ _ h => h); (case ct28 => kernel_rfl); (case dt28 => (intro W hW; clear hW; go_simp; (try with_reducible rfl); (try (intro h; omega)))); (case' rt28 => simp only [Act.put, List.setIfInBounds_toArray, List.set_cons_zero, List.set_cons_succ]))
            (refine held_take (i := 4) (oi := ?ot29) (v := .agg (vec 8 (chE u))) ?at29 (by kernel_rfl) (by kernel_rfl) (by kernel_rfl) ?bt29 ?ct29 ?dt29 (by assumption) ?rt29; (case at29 => (simp only [List.getElem?_toArray, List.getElem?_cons_zero, List.getElem?_cons_succ]; rfl)); (case bt29 => exact fun _ _ _ h => h); (case ct29 => kernel_rfl); (case dt29 => (intro Z hZ; subst hZ; exact exec_load_q 71 _ rfl p2 rfl _ (run_load_q HQ.out.1 Tryd.underlying71 rfl infoCh))); (case' rt29 => simp only [Act.put, List.setIfInBounds_toArray, List.set_cons_zero, List.set_cons_succ]))
            (refine held_take (i := 5) (oi := ?ot30) (v := ?vt30) ?at30 (by kernel_rfl) (by kernel_rfl) (by kernel_rfl) ?bt30 ?ct30 ?dt30 (by assumption) ?rt30; (case at30 => (simp only [List.getElem?_toArray, List.getElem?_cons_zero, List.getElem?_cons_succ]; rfl)); (case bt30 => exact fun _ _ _ h => h); (case ct30 => kernel_rfl); (case dt30 => (intro W hW; (try dsimp only at hW); go_split_ands; go_simp; (try with_reducible rfl))); (case' rt30 => simp only [Act.put, List.setIfInBounds_toArray, List.set_cons_zero, List.set_cons_succ]))
            (refine held_take (i := 6) (oi := ?ot31) (v := ?vt31) ?at31 (by kernel_rfl) (by kernel_rfl) (by kernel_rfl) ?bt31 ?ct31 ?dt31 (by assumption) ?rt31; (case at31 => (simp only [List.getElem?_toArray, List.getElem?_cons_zero, List.getElem?_cons_succ]; rfl)); (case bt31 => exact fun _ _ _ h => h); (case ct31 => kernel_rfl); (case dt31 => (intro W hW; subst hW; go_simp; (try with_reducible rfl))); (case' rt31 => simp only [Act.put, List.setIfInBounds_toArray, List.set_cons_zero, List.set_cons_succ]))
            (refine held_take (i := 7) (oi := ?ot32) (v := ?vt32) ?at32 (by kernel_rfl) (by kernel_rfl) (by kernel_rfl) ?bt32 ?ct32 ?dt32 (by assumption) ?rt32; (case at32 => (simp only [List.getElem?_toArray, List.getElem?_cons_zero, List.getElem?_cons_succ]; rfl)); (case bt32 => exact fun _ _ _ h => h); (case ct32 => kernel_rfl); (case dt32 => (intro W hW; (try dsimp only at hW); go_split_ands; go_simp; (try with_reducible rfl))); (case' rt32 => simp only [Act.put, List.setIfInBounds_toArray, List.set_cons_zero, List.set_cons_succ]))
            (refine held_take (i := 8) (oi := ?ot33) (v := .pointer (some q2)) ?at33 (by kernel_rfl) (by kernel_rfl) (by kernel_rfl) ?bt33 ?ct33 ?dt33 (by assumption) ?rt33; (case at33 => (simp only [List.getElem?_toArray, List.getElem?_cons_zero, List.getElem?_cons_succ]; rfl)); (case bt33 => exact fun _ _ _ h => h); (case ct33 => kernel_rfl); (case dt33 => (intro W hW; clear hW; go_simp; (try with_reducible rfl); (try (intro h; omega)))); (case' rt33 => simp only [Act.put, List.setIfInBounds_toArray, List.set_cons_zero, List.set_cons_succ]))
            (refine held_take (i := 9) (oi := ?ot34) (v := .agg (vec 8 (chE v))) ?at34 (by kernel_rfl) (by kernel_rfl) (by kernel_rfl) ?bt34 ?ct34 ?dt34 (by assumption) ?rt34; (case at34 => (simp only [List.getElem?_toArray, List.getElem?_cons_zero, List.getElem?_cons_succ]; rfl)); (case bt34 => exact fun _ _ _ h => h); (case ct34 => kernel_rfl); (case dt34 => (intro Z hZ; subst hZ; exact exec_load_q 71 _ rfl q2 rfl _ (run_load_q HQ.out.2 Tryd.underlying71 rfl infoCh))); (case' rt34 => simp only [Act.put, List.setIfInBounds_toArray, List.set_cons_zero, List.set_cons_succ]))
            (refine held_take (i := 10) (oi := ?ot35) (v := .bool true) ?at35 (by kernel_rfl) (by kernel_rfl) (by kernel_rfl) ?bt35 ?ct35 ?dt35 (by assumption) ?rt35; (case at35 => (simp only [List.getElem?_toArray, List.getElem?_cons_zero, List.getElem?_cons_succ]; rfl)); (case bt35 => exact fun _ _ _ h => h); (case ct35 => kernel_rfl); (case dt35 => (intro Z _; exact exec_neq_ch _ _ _ rfl u v rfl rfl Z HB.out)); (case' rt35 => simp only [Act.put, List.setIfInBounds_toArray, List.set_cons_zero, List.set_cons_succ]))
            refine wpAnyH_done (by kernel_rfl) ?_ _
            go_wp2
            go_ret
            exact ⟨by rw [HF.out]; rfl, below_drewN HK.out (j2 + 1)⟩
          · have HB : Hid ((!chEq u v) = false) := Lib.hid (by rw [← hb]; rfl)
            have HS := Lib.hid hs
            clear hb hs
            go_upto_region 12 with fail
            refine wp_region_held_drew (S := fun Y => Y = (W.drewN j2).drew) (by kernel_rfl) rfl (fun hS => ?_)
            (refine held_take (i := 0) (oi := ?ot36) (v := ?vt36) ?at36 (by kernel_rfl) (by kernel_rfl) (by kernel_rfl) ?bt36 ?ct36 ?dt36 (by assumption) ?rt36; (case at36 => (simp only [List.getElem?_toArray, List.getElem?_cons_zero]; rfl)); (case bt36 => exact fun _ _ _ h => h); (case ct36 => kernel_rfl); (case dt36 => (intro W hW; (try dsimp only at hW); go_split_ands; go_simp; (try with_reducible rfl))); (case' rt36 => simp only [Act.put, List.setIfInBounds_toArray, List.set_cons_zero, List.set_cons_succ]))
            (refine held_take (i := 1) (oi := ?ot37) (v := ?vt37) ?at37 (by kernel_rfl) (by kernel_rfl) (by kernel_rfl) ?bt37 ?ct37 ?dt37 (by assumption) ?rt37; (case at37 => (simp only [List.getElem?_toArray, List.getElem?_cons_zero, List.getElem?_cons_succ]; rfl)); (case bt37 => exact fun _ _ _ h => h); (case ct37 => kernel_rfl); (case dt37 => (intro W hW; subst hW; go_simp; (try with_reducible rfl))); (case' rt37 => simp only [Act.put, List.setIfInBounds_toArray, List.set_cons_zero, List.set_cons_succ]))
            (refine held_take (i := 2) (oi := ?ot38) (v := ?vt38) ?at38 (by kernel_rfl) (by kernel_rfl) (by kernel_rfl) ?bt38 ?ct38 ?dt38 (by assumption) ?rt38; (case at38 => (simp only [List.getElem?_toArray, List.getElem?_cons_zero, List.getElem?_cons_succ]; rfl)); (case bt38 => exact fun _ _ _ h => h); (case ct38 => kernel_rfl); (case dt38 => (intro W hW; (try dsimp only at hW); go_split_ands; go_simp; (try with_reducible rfl))); (case' rt38 => simp only [Act.put, List.setIfInBounds_toArray, List.set_cons_zero, List.set_cons_succ]))
            (refine held_take (i := 3) (oi := ?ot39) (v := .pointer (some p2)) ?at39 (by kernel_rfl) (by kernel_rfl) (by kernel_rfl) ?bt39 ?ct39 ?dt39 (by assumption) ?rt39; (case at39 => (simp only [List.getElem?_toArray, List.getElem?_cons_zero, List.getElem?_cons_succ]; rfl)); (case bt39 => exact fun _ _ _ h => h); (case ct39 => kernel_rfl); (case dt39 => (intro W hW; clear hW; go_simp; (try with_reducible rfl); (try (intro h; omega)))); (case' rt39 => simp only [Act.put, List.setIfInBounds_toArray, List.set_cons_zero, List.set_cons_succ]))
            (refine held_take (i := 4) (oi := ?ot40) (v := .agg (vec 8 (chE u))) ?at40 (by kernel_rfl) (by kernel_rfl) (by kernel_rfl) ?bt40 ?ct40 ?dt40 (by assumption) ?rt40; (case at40 => (simp only [List.getElem?_toArray, List.getElem?_cons_zero, List.getElem?_cons_succ]; rfl)); (case bt40 => exact fun _ _ _ h => h); (case ct40 => kernel_rfl); (case dt40 => (intro Z hZ; subst hZ; exact exec_load_q 71 _ rfl p2 rfl _ (run_load_q HQ.out.1 Tryd.underlying71 rfl infoCh))); (case' rt40 => simp only [Act.put, List.setIfInBounds_toArray, List.set_cons_zero, List.set_cons_succ]))
            (refine held_take (i := 5) (oi := ?ot41) (v := ?vt41) ?at41 (by kernel_rfl) (by kernel_rfl) (by kernel_rfl) ?bt41 ?ct41 ?dt41 (by assumption) ?rt41; (case at41 => (simp only [List.getElem?_toArray, List.getElem?_cons_zero, List.getElem?_cons_succ]; rfl)); (case bt41 => exact fun _ _ _ h => h); (case ct41 => kernel_rfl); (case dt41 => (intro W hW; (try dsimp only at hW); go_split_ands; go_simp; (try with_reducible rfl))); (case' rt41 => simp only [Act.put, List.setIfInBounds_toArray, List.set_cons_zero, List.set_cons_succ]))
            (refine held_take (i := 6) (oi := ?ot42) (v := ?vt42) ?at42 (by kernel_rfl) (by kernel_rfl) (by kernel_rfl) ?bt42 ?ct42 ?dt42 (by assumption) ?rt42; (case at42 => (simp only [List.getElem?_toArray, List.getElem?_cons_zero, List.getElem?_cons_succ]; rfl)); (case bt42 => exact fun _ _ _ h => h); (case ct42 => kernel_rfl); (case dt42 => (intro W hW; subst hW; go_simp; (try with_reducible rfl))); (case' rt42 => simp only [Act.put, List.setIfInBounds_toArray, List.set_cons_zero, List.set_cons_succ]))
            (refine held_take (i := 7) (oi := ?ot43) (v := ?vt43) ?at43 (by kernel_rfl) (by kernel_rfl) (by kernel_rfl) ?bt43 ?ct43 ?dt43 (by assumption) ?rt43; (case at43 => (simp only [List.getElem?_toArray, List.getElem?_cons_zero, List.getElem?_cons_succ]; rfl)); (case bt43 => exact fun _ _ _ h => h); (case ct43 => kernel_rfl); (case dt43 => (intro W hW; (try dsimp only at hW); go_split_ands; go_simp; (try with_reducible rfl))); (case' rt43 => simp only [Act.put, List.setIfInBounds_toArray, List.set_cons_zero, List.set_cons_succ]))
            (refine held_take (i := 8) (oi := ?ot44) (v := .pointer (some q2)) ?at44 (by kernel_rfl) (by kernel_rfl) (by kernel_rfl) ?bt44 ?ct44 ?dt44 (by assumption) ?rt44; (case at44 => (simp only [List.getElem?_toArray, List.getElem?_cons_zero, List.getElem?_cons_succ]; rfl)); (case bt44 => exact fun _ _ _ h => h); (case ct44 => kernel_rfl); (case dt44 => (intro W hW; clear hW; go_simp; (try with_reducible rfl); (try (intro h; omega)))); (case' rt44 => simp only [Act.put, List.setIfInBounds_toArray, List.set_cons_zero, List.set_cons_succ]))
            (refine held_take (i := 9) (oi := ?ot45) (v := .agg (vec 8 (chE v))) ?at45 (by kernel_rfl) (by kernel_rfl) (by kernel_rfl) ?bt45 ?ct45 ?dt45 (by assumption) ?rt45; (case at45 => (simp only [List.getElem?_toArray, List.getElem?_cons_zero, List.getElem?_cons_succ]; rfl)); (case bt45 => exact fun _ _ _ h => h); (case ct45 => kernel_rfl); (case dt45 => (intro Z hZ; subst hZ; exact exec_load_q 71 _ rfl q2 rfl _ (run_load_q HQ.out.2 Tryd.underlying71 rfl infoCh))); (case' rt45 => simp only [Act.put, List.setIfInBounds_toArray, List.set_cons_zero, List.set_cons_succ]))
            (refine held_take (i := 10) (oi := ?ot46) (v := .bool false) ?at46 (by kernel_rfl) (by kernel_rfl) (by kernel_rfl) ?bt46 ?ct46 ?dt46 (by assumption) ?rt46; (case at46 => (simp only [List.getElem?_toArray, List.getElem?_cons_zero, List.getElem?_cons_succ]; rfl)); (case bt46 => exact fun _ _ _ h => h); (case ct46 => kernel_rfl); (case dt46 => (intro Z _; exact exec_neq_ch _ _ _ rfl u v rfl rfl Z HB.out)); (case' rt46 => simp only [Act.put, List.setIfInBounds_toArray, List.set_cons_zero, List.set_cons_succ]))
            refine wpAnyH_done (by kernel_rfl) ?_ _
            go_wp2
            go_roundw
            case rel => exact ⟨k2 + 1, j2 + 1, by omega, by go_num, HS, rfl⟩
            case measure => simp [intOf]; omega
        · obtain rfl : k2 = N2 := by omega
          have HR : Hid (G = true) := Lib.hid (by rw [HGF.out, HV.out, HT1.out, HE2.out, ← HN2.out, HP0.out]; rfl)
          clear hlt0
          go_wp2_with fail
          go_ret
          exact ⟨by rw [HR.out]; rfl, below_drewN HK.out j2⟩
end Go.Proofs.YtmcpmcicolpoeaaDoor
