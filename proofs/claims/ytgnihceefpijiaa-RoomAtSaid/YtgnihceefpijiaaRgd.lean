/- The reference's Good: which parts may be mapped. -/
import Derived.Test.YtgnihceefpijiaaRat
import Derived.BigQuiet
namespace Go.Proofs.Ytgnihceefpijiaa
open Go.RowKit
attribute [local go_sem ↓ high] zeroMp zeroSp

theorem gdM_page {x : Mp} (h : gdM x = true) (hb : MpB x) : x.ipa + x.size ≤ 1099511627776 := by
  unfold gdM pageB at h
  simp only [Bool.and_eq_true, decide_eq_true_eq] at h
  have h1 := h.1.2
  have e1 := (u64Z_nat hb.ipa).1
  have e2 := (u64Z_nat hb.size).1
  omega
set_option maxHeartbeats 1000000 in
set_option maxRecDepth 100000 in
theorem rgoodM_any (l : List Mp) (A : Option Addr) (c : Nat) (hlen : l.length ≤ 1000000) (w : World) (hr : RowE 5 mpE w w.heap.size A l) (hb : ∀ x ∈ l, MpB x) : Calls Try.prog 15 #[.slice A l.length c] w (EqV (goodL l) w) := by
  obtain ⟨N, hN⟩ : ∃ n, n = l.length := ⟨_, rfl⟩
  have HNL := Lib.hid hN
  have hN2 : N ≤ 1000000 := by rw [hN]; exact hlen
  have HR := Lib.hid hr
  have HMB := Lib.hid hb
  have HOF0 : Hid (∀ k, k < l.length → goodAt l k = false → goodL l = false) := Lib.hid (fun k hk h => range_off hk h)
  have HALL : Hid ((List.range l.length).all (goodAt l) = true → goodL l = true) := Lib.hid (fun h => h)
  obtain ⟨G, hG⟩ : ∃ G, G = goodL l := ⟨_, rfl⟩
  rw [← hG] at HOF0 HALL ⊢
  rw [← hN]
  unfold EqV
  clear hr hb hN hG
  go_enter Try.func15, Try.ntmps15
  go_wp2_with fail
  go_loopw [2, 3, 7] (fun _ _ v W => ∃ k : Nat, k ≤ N ∧ v = .int .i64 k ∧ Hid ((List.range k).all (goodAt l) = true) ∧ Hid (Below w.heap.size w W)) (fun _ _ i _ => N - (intOf i).toNat)
  case atStart => exact ⟨0, Nat.zero_le _, rfl, Lib.hid rfl, Lib.hid (Below.refl _ _)⟩
  case round =>
    obtain ⟨k, hk, rfl, HP0, HB⟩ := hrel
    obtain ⟨W, hW⟩ : ∃ W : World, W = wr := ⟨_, rfl⟩
    subst hW
    by_cases hlt0 : k < N
    · have hlt : k < l.length := by have := HNL.out; omega
      have g1 := HR.out.up HB.out
      obtain ⟨a, q, rfl, hq, -, hcp⟩ := g1.at hlt
      obtain ⟨y, hy⟩ : ∃ y, y = l[k] := ⟨_, rfl⟩
      rw [← hy] at hcp
      have hyb : MpB y := by rw [hy]; exact HMB.out _ (List.getElem_mem _)
      have HF0 : Hid (gdM y = false → G = false) := Lib.hid (fun h => HOF0.out k hlt (by rw [goodAt_some hlt, ← hy, h]; rfl))
      have HN0 : Hid (k = 0 → gdM y = true → (List.range (k + 1)).all (goodAt l) = true) := Lib.hid (fun h0 h => range_snoc HP0.out (by subst h0; rw [goodAt_zero hlt, ← hy]; exact h))
      have HS1 : Hid (∀ j (hj : j + 1 = k), ∃ (z : Mp) (q2 : Addr), a.add (j * 5) = q2 ∧ (∀ Y, Below w.heap.size w Y → Y.cell? q2 = some (.int .u64 z.ipa) ∧ Y.cell? ⟨q2.block, q2.off + 2, none⟩ = some (.int .u64 z.size)) ∧ 0 ≤ z.ipa ∧ 0 ≤ z.size ∧ z.ipa + z.size ≤ 1099511627776 ∧ (gdM y = true → z.ipa + z.size ≤ y.ipa → (List.range (k + 1)).all (goodAt l) = true) ∧ (¬ z.ipa + z.size ≤ y.ipa → G = false)) := Lib.hid (fun j hj => by
        subst hj
        have hjl : j < l.length := by omega
        have hz : gdM l[j] = true := by
          have h2 := range_all.1 HP0.out j (by omega)
          rw [goodAt_some hjl, Bool.and_eq_true] at h2
          exact h2.1
        have hzb := HMB.out _ (List.getElem_mem hjl)
        have e3 : goodAt l (j + 1) = (gdM y && decide (l[j].ipa + l[j].size ≤ y.ipa)) := by rw [goodAt_succ hlt, hy]
        refine ⟨l[j], _, rfl, fun Y hY => ?_, hzb.ipa.1, hzb.size.1, gdM_page hz hzb, fun h1 h2 => range_snoc HP0.out (by rw [e3, h1, decide_eq_true h2]; rfl), fun h => HOF0.out (j + 1) hlt (by rw [e3, decide_eq_false h, Bool.and_false])⟩
        obtain ⟨a', q', ea, hq', -, hcz⟩ := (HR.out.up hY).at hjl
        injection ea with ea
        subst ea
        rw [hq']
        exact ⟨by have := hcz 0 (by decide); have e0 : q'.add 0 = q' := by simp [Addr.add]
                  rw [e0] at this; exact this, hcz 2 (by decide)⟩)
      have hki : (k : Int) < (N : Int) := by omega
      obtain ⟨r, hr⟩ : ∃ r, r = W.heap.size := ⟨_, rfl⟩
      obtain ⟨X, hX⟩ : ∃ X, X = (W.alloc (.cells (vec 5 (mpE zMp)) 39)).setRow W.heap.size (vec 5 (mpE y)) := ⟨_, rfl⟩
      have b1 : Below W.heap.size W X := by rw [hX]; exact below_row ((Below.refl _ _).alloc (Nat.le_refl _) _) (Nat.le_refl _) _
      have a1 : Arr X r 39 5 (mpE y) := by rw [hX, hr]; exact (Arr.new W _ _ _).row _
      have HBX := Lib.hid (HB.out.trans (b1.mono HB.out.size))
      have HCP := Lib.hid hcp
      have HX := Lib.hid hX
      have HRR := Lib.hid hr
      have HA := Lib.hid a1
      have HP1 := Lib.hid (fun W => rpage_any y.ipa y.size hyb.ipa hyb.size W)
      have HP2 := Lib.hid (fun W => rpage_any y.pa y.size hyb.pa hyb.size W)
      have c0 : X.cell? ⟨r, 0, none⟩ = some (.int .u64 y.ipa) := a1.cell (i := 0) (by decide)
      have c2 : X.cell? ⟨r, 2, none⟩ = some (.int .u64 y.size) := a1.cell (i := 2) (by decide)
      have HGD : Hid (gdM y = (pageB y.ipa y.size && (pageB y.pa y.size && (decide (1 ≤ y.perm) && (decide (y.perm ≤ 7) && (decide (0 ≤ y.kind) && decide (y.kind ≤ 1))))))) := Lib.hid rfl
      obtain ⟨p1, hp1⟩ : ∃ p, p = pageB y.ipa y.size := ⟨_, rfl⟩
      obtain ⟨p2, hp2⟩ : ∃ p, p = pageB y.pa y.size := ⟨_, rfl⟩
      rw [← hp1] at HP1 HGD
      rw [← hp2] at HP2 HGD
      unfold EqV at HP1 HP2
      clear g1 hcp hlt hr hX b1 a1 hyb hy hp1 hp2 HOF0 HP0
      go_upto_region 4 with (first
        | ((with_reducible show wpList _ _ _ (Oper.mk _ (.load _ _) _ _ _ _ :: _) _ _); refine wl_load_q rfl 39 _ rfl q rfl _ (run_load_q HCP.out Try.underlying39 rfl infoMp) ?_)
        | ((with_reducible show wpList _ _ _ (Oper.mk _ (.store _ _ _) _ _ _ _ :: _) _ _); refine wl_store rfl 39 _ _ rfl _ rfl _ rfl (run_store_arr (Arr.new W _ _ _) (mpE y) infoMp (mpE_one _ _)) ?_))
      rw [← HX.out, ← HRR.out]
      clear HX HCP HRR
      cases p1
      · have HF := Lib.hid (HF0.out (by rw [HGD.out]; rfl))
        clear HF0 HN0 HS1
        go_wp2_with (first
          | (go_at_call 32; (with_reducible show Calls _ _ #[.int .u64 y.ipa, _] _ _); refine (HP1.out _).mono ?_; rintro e w2 ⟨rfl, hd⟩; have HD := Lib.hid (HBX.out.trans (hd.mono HBX.out.size)); clear hd))
        go_ret
        exact ⟨by rw [HF.out]; rfl, HD.out⟩
      have PCELL : ∀ Y, Arr Y r 39 5 (mpE y) → Y.cell? ⟨r, 1, none⟩ = some (.int .u64 y.pa) ∧ Y.cell? ⟨r, 2, none⟩ = some (.int .u64 y.size) ∧ Y.cell? ⟨r, 3, none⟩ = some (.int .i64 y.perm) ∧ Y.cell? ⟨r, 4, none⟩ = some (.int .i64 y.kind) ∧ Y.cell? ⟨r, 0, none⟩ = some (.int .u64 y.ipa) := fun Y h => ⟨h.cell (i := 1) (by decide), h.cell (i := 2) (by decide), h.cell (i := 3) (by decide), h.cell (i := 4) (by decide), h.cell (i := 0) (by decide)⟩
      have HPC := Lib.hid PCELL
      clear PCELL
      cases p2
      · have HF := Lib.hid (HF0.out (by rw [HGD.out]; rfl))
        clear HF0 HN0 HS1
        go_wp2_with (first
          | (go_at_call 32; (with_reducible show Calls _ _ #[.int .u64 y.ipa, _] _ _); refine (HP1.out _).mono ?_; rintro e w2 ⟨rfl, hd⟩; have HD := Lib.hid (HBX.out.trans (hd.mono HBX.out.size)); have HA := Lib.hid (HA.out.under hd); obtain ⟨z1, z2, -⟩ := HPC.out _ HA.out; clear hd)
          | (go_at_call 32; (with_reducible show Calls _ _ #[.int .u64 y.pa, _] _ _); refine (HP2.out _).mono ?_; rintro e w3 ⟨rfl, hd⟩; have HD := Lib.hid (HD.out.trans (hd.mono HD.out.size)); have HA := Lib.hid (HA.out.under hd); obtain ⟨-, -, z3, z4, z0⟩ := HPC.out _ HA.out; clear hd))
        go_ret
        exact ⟨by rw [HF.out]; rfl, HD.out⟩
      by_cases t1 : y.perm < 1
      · have HF := Lib.hid (HF0.out (by rw [HGD.out, decide_eq_false (p := 1 ≤ y.perm) (by omega)]; rfl))
        clear HF0 HN0 HS1
        go_wp2_with (first
          | (go_at_call 32; (with_reducible show Calls _ _ #[.int .u64 y.ipa, _] _ _); refine (HP1.out _).mono ?_; rintro e w2 ⟨rfl, hd⟩; have HD := Lib.hid (HBX.out.trans (hd.mono HBX.out.size)); have HA := Lib.hid (HA.out.under hd); obtain ⟨z1, z2, -⟩ := HPC.out _ HA.out; clear hd)
          | (go_at_call 32; (with_reducible show Calls _ _ #[.int .u64 y.pa, _] _ _); refine (HP2.out _).mono ?_; rintro e w3 ⟨rfl, hd⟩; have HD := Lib.hid (HD.out.trans (hd.mono HD.out.size)); have HA := Lib.hid (HA.out.under hd); obtain ⟨-, -, z3, z4, z0⟩ := HPC.out _ HA.out; clear hd))
        go_ret
        exact ⟨by rw [HF.out]; rfl, HD.out⟩
      by_cases t2 : 7 < y.perm
      · have HF := Lib.hid (HF0.out (by rw [HGD.out, decide_eq_false (p := y.perm ≤ 7) (by omega)]; simp))
        clear HF0 HN0 HS1
        go_wp2_with (first
          | (go_at_call 32; (with_reducible show Calls _ _ #[.int .u64 y.ipa, _] _ _); refine (HP1.out _).mono ?_; rintro e w2 ⟨rfl, hd⟩; have HD := Lib.hid (HBX.out.trans (hd.mono HBX.out.size)); have HA := Lib.hid (HA.out.under hd); obtain ⟨z1, z2, -⟩ := HPC.out _ HA.out; clear hd)
          | (go_at_call 32; (with_reducible show Calls _ _ #[.int .u64 y.pa, _] _ _); refine (HP2.out _).mono ?_; rintro e w3 ⟨rfl, hd⟩; have HD := Lib.hid (HD.out.trans (hd.mono HD.out.size)); have HA := Lib.hid (HA.out.under hd); obtain ⟨-, -, z3, z4, z0⟩ := HPC.out _ HA.out; clear hd))
        go_ret
        exact ⟨by rw [HF.out]; rfl, HD.out⟩
      by_cases t3 : y.kind < 0
      · have HF := Lib.hid (HF0.out (by rw [HGD.out, decide_eq_false (p := 0 ≤ y.kind) (by omega)]; simp))
        clear HF0 HN0 HS1
        go_wp2_with (first
          | (go_at_call 32; (with_reducible show Calls _ _ #[.int .u64 y.ipa, _] _ _); refine (HP1.out _).mono ?_; rintro e w2 ⟨rfl, hd⟩; have HD := Lib.hid (HBX.out.trans (hd.mono HBX.out.size)); have HA := Lib.hid (HA.out.under hd); obtain ⟨z1, z2, -⟩ := HPC.out _ HA.out; clear hd)
          | (go_at_call 32; (with_reducible show Calls _ _ #[.int .u64 y.pa, _] _ _); refine (HP2.out _).mono ?_; rintro e w3 ⟨rfl, hd⟩; have HD := Lib.hid (HD.out.trans (hd.mono HD.out.size)); have HA := Lib.hid (HA.out.under hd); obtain ⟨-, -, z3, z4, z0⟩ := HPC.out _ HA.out; clear hd))
        go_ret
        exact ⟨by rw [HF.out]; rfl, HD.out⟩
      by_cases t4 : 1 < y.kind
      · have HF := Lib.hid (HF0.out (by rw [HGD.out, decide_eq_false (p := y.kind ≤ 1) (by omega)]; simp))
        clear HF0 HN0 HS1
        go_wp2_with (first
          | (go_at_call 32; (with_reducible show Calls _ _ #[.int .u64 y.ipa, _] _ _); refine (HP1.out _).mono ?_; rintro e w2 ⟨rfl, hd⟩; have HD := Lib.hid (HBX.out.trans (hd.mono HBX.out.size)); have HA := Lib.hid (HA.out.under hd); obtain ⟨z1, z2, -⟩ := HPC.out _ HA.out; clear hd)
          | (go_at_call 32; (with_reducible show Calls _ _ #[.int .u64 y.pa, _] _ _); refine (HP2.out _).mono ?_; rintro e w3 ⟨rfl, hd⟩; have HD := Lib.hid (HD.out.trans (hd.mono HD.out.size)); have HA := Lib.hid (HA.out.under hd); obtain ⟨-, -, z3, z4, z0⟩ := HPC.out _ HA.out; clear hd))
        go_ret
        exact ⟨by rw [HF.out]; rfl, HD.out⟩
      have hgd : gdM y = true := by rw [HGD.out, decide_eq_true (p := 1 ≤ y.perm) (by omega), decide_eq_true (p := y.perm ≤ 7) (by omega), decide_eq_true (p := 0 ≤ y.kind) (by omega), decide_eq_true (p := y.kind ≤ 1) (by omega)]; rfl
      have HGG := Lib.hid hgd
      clear hgd HF0
      go_upto_region 6 with (first
          | (go_at_call 32; (with_reducible show Calls _ _ #[.int .u64 y.ipa, _] _ _); refine (HP1.out _).mono ?_; rintro e w2 ⟨rfl, hd⟩; have HD := Lib.hid (HBX.out.trans (hd.mono HBX.out.size)); have HA := Lib.hid (HA.out.under hd); obtain ⟨z1, z2, -⟩ := HPC.out _ HA.out; clear hd)
          | (go_at_call 32; (with_reducible show Calls _ _ #[.int .u64 y.pa, _] _ _); refine (HP2.out _).mono ?_; rintro e w3 ⟨rfl, hd⟩; have HD := Lib.hid (HD.out.trans (hd.mono HD.out.size)); have HA := Lib.hid (HA.out.under hd); obtain ⟨-, -, z3, z4, z0⟩ := HPC.out _ HA.out; clear hd))
      clear z0 z1 z2 z3 z4 t1 t2 t3 t4
      have z4 := (HPC.out _ HA.out).2.2.2.2
      by_cases hk0 : k = 0
      · have HS := Lib.hid (HN0.out hk0 HGG.out)
        clear HN0 HS1
        subst hk0
        go_quiet (fail)
        go_wp2_with fail
        go_roundw
        case rel => exact ⟨1, by omega, by go_num, HS, Lib.hid (below_drewN HD.out _)⟩
        case measure => simp [intOf]; omega
      · obtain ⟨j, hj⟩ : ∃ j, j + 1 = k := ⟨k - 1, by omega⟩
        obtain ⟨z, q2, hq2, hcz, u1, u2, u3, hyes, hno⟩ := HS1.out j hj
        obtain ⟨e0, e2⟩ := hcz _ HD.out
        have hk1 : (0 : Int) < (k : Int) := by omega
        have hk1n : 0 < k := by omega
        have hkd : decide (0 < k) = true := decide_eq_true hk1n
        have hkj : (k : Int) - 1 = (j : Int) := by omega
        have hjN : (j : Int) < (N : Int) := by omega
        have hjN2 : j < N := by omega
        have wz : IntKind.u64.wrap (z.ipa + z.size) = z.ipa + z.size := by rw [IntKind.wrap_u64]; omega
        have wj : IntKind.i64.wrap (j : Int) = (j : Int) := by rw [IntKind.wrap_i64]; omega
        clear HN0 HS1 hcz u1 u2 u3 hk0
        by_cases hle : z.ipa + z.size ≤ y.ipa
        · have HS := Lib.hid (hyes HGG.out hle)
          have hlt2 : ¬ y.ipa < z.ipa + z.size := by omega
          have HJ := Lib.hid hj
          clear hyes hno hle hj
          go_quiet (fail)
          go_wp2_with fail
          go_roundw
          case rel => exact ⟨k + 1, by omega, by go_num, HS, Lib.hid (below_drewN HD.out _)⟩
          case measure => simp [intOf]; omega
        · have HF := Lib.hid (hno (by omega))
          have hlt2 : y.ipa < z.ipa + z.size := by omega
          have HJ := Lib.hid hj
          clear hyes hno hle hj
          go_quiet (fail)
          go_wp2_with fail
          go_ret
          exact ⟨by rw [HF.out]; rfl, below_drewN HD.out _⟩
    · obtain rfl : k = N := by omega
      have HO := Lib.hid (HALL.out (by have h := HP0.out; rw [HNL.out] at h; exact h))
      clear hlt0
      go_wp2_with fail
      go_ret
      exact ⟨by rw [HO.out]; rfl, HB.out⟩
end Go.Proofs.Ytgnihceefpijiaa
