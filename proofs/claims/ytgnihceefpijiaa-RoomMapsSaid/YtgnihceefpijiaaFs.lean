/- The code's words on spans and parts. -/
import Derived.Test.YtgnihceefpijiaaBs
import Derived.Test.YtgnihceefpijiaaW2
import Derived.Test.YtgnihceefpijiaaRpa
namespace Go.Proofs.Ytgnihceefpijiaa
open Go.RowKit
attribute [local go_sem ↓ high] zeroSp zeroMp

theorem goodE (x : Sp) (hx : fit x) (w : World) : Calls Try.prog 36 #[.agg (vec 2 (spE x))] w (EqV (good x) w) := good_bel x.1 x.2 hx w
theorem hasE (x : Sp) (hx : fit x) (p : Nat) (w : World) : Calls Try.prog 29 #[.agg (vec 2 (spE x)), .int .u64 (p : Int)] w (EqV (has x p) w) := has_bel x.1 x.2 p hx w
theorem withinE (x y : Sp) (hx : fit x) (hy : fit y) (w : World) : Calls Try.prog 43 #[.agg (vec 2 (spE x)), .agg (vec 2 (spE y))] w (EqV (within x y) w) := within_any x.1 x.2 y.1 y.2 hx hy w
theorem overlapE (x y : Sp) (hx : fit x) (hy : fit y) (w : World) : Calls Try.prog 39 #[.agg (vec 2 (spE x)), .agg (vec 2 (spE y))] w (EqV (overlap x y) w) := overlap_any x.1 x.2 y.1 y.2 hx hy w
theorem seen_n (b p s : Nat) (q k : Int) (w : World) : Calls Try.prog 30 #[.agg (vec 5 (mpE ⟨(b : Int), (p : Int), (s : Int), q, k⟩))] w fun e w' => e = .returned (.agg (vec 2 (spE (b, s)))) ∧ Below w.heap.size w w' := by
  obtain ⟨g, hg⟩ : ∃ g, g = w.heap.size := ⟨_, rfl⟩
  obtain ⟨h, hh⟩ : ∃ h, h = w.heap.size + 1 := ⟨_, rfl⟩
  obtain ⟨m, hm⟩ : ∃ m : Mp, m = ⟨(b : Int), (p : Int), (s : Int), q, k⟩ := ⟨_, rfl⟩
  obtain ⟨V, hV⟩ : ∃ V, V = (w.alloc (.cells (vec 5 (mpE m)) 39)).alloc (.cells (vec 2 (spE (0, 0))) 49) := ⟨_, rfl⟩
  have k1 : Arr V g 39 5 (mpE m) := by rw [hV, hg]; exact (Arr.new w _ _ _).alloc _
  have k2 : Arr V h 49 2 (spE (0, 0)) := by rw [hV, hh]; exact Arr.newAt _ _ _ _ (by simp)
  have hB : Below w.heap.size w V := by rw [hV]; exact ((Below.refl _ _).alloc (Nat.le_refl _) _).alloc (by simp) _
  have x0 : V.cell? ⟨g, 0, none⟩ = some (.int .u64 (b : Int)) := by have := k1.cell (i := 0) (by decide); rw [hm] at this; exact this
  have x2 : V.cell? ⟨g, 2, none⟩ = some (.int .u64 (s : Int)) := by have := k1.cell (i := 2) (by decide); rw [hm] at this; exact this
  have HV := Lib.hid hV
  have HG := Lib.hid (And.intro hg hh)
  have HB := Lib.hid hB
  have HK := Lib.hid k2
  have HH : Hid (w.heap.size ≤ h) := Lib.hid (by omega)
  rw [← hm]
  clear hV hg hh k1 k2 hB hm
  go_enter Try.func30, Try.ntmps30
  go_upto_region 1 with fail
  rw [← HV.out, ← HG.out.2, ← HG.out.1]
  clear HV HG
  go_wp2_with (first
    | ((with_reducible show wpList _ _ _ (Oper.mk _ (.build _ _) _ _ _ _ :: _) _ _); refine wl_build rfl 49 _ rfl (vec 2 (spE (b, s))) (by kernel_rfl) ?_)
    | ((with_reducible show wpList _ _ _ (Oper.mk _ (.store _ _ _) _ _ _ _ :: _) _ _); refine wl_store rfl 49 _ _ rfl h rfl _ rfl (run_store_arr HK.out (spE (b, s)) infoSp (spE_one _ _)) ?_))
  refine bodyPost_ret (results_cell1 rfl _ _ _ rfl (run_load_arr (HK.out.row _) Try.underlying49 rfl infoSp)) rfl ?_
  exact ⟨rfl, below_row HB.out HH.out _⟩
theorem seen_any (m : Mp) (hm : MpB m) (w : World) : Calls Try.prog 30 #[.agg (vec 5 (mpE m))] w fun e w' => e = .returned (.agg (vec 2 (spE (ipaS m)))) ∧ Below w.heap.size w w' := by
  obtain ⟨mi, mp, ms, mq, mk⟩ := m
  obtain ⟨b, rfl⟩ := Int.eq_ofNat_of_zero_le hm.ipa.1
  obtain ⟨p, rfl⟩ := Int.eq_ofNat_of_zero_le hm.pa.1
  obtain ⟨s, rfl⟩ := Int.eq_ofNat_of_zero_le hm.size.1
  exact seen_n b p s mq mk w
theorem physical_n (b p s : Nat) (q k : Int) (w : World) : Calls Try.prog 34 #[.agg (vec 5 (mpE ⟨(b : Int), (p : Int), (s : Int), q, k⟩))] w fun e w' => e = .returned (.agg (vec 2 (spE (p, s)))) ∧ Below w.heap.size w w' := by
  obtain ⟨g, hg⟩ : ∃ g, g = w.heap.size := ⟨_, rfl⟩
  obtain ⟨h, hh⟩ : ∃ h, h = w.heap.size + 1 := ⟨_, rfl⟩
  obtain ⟨m, hm⟩ : ∃ m : Mp, m = ⟨(b : Int), (p : Int), (s : Int), q, k⟩ := ⟨_, rfl⟩
  obtain ⟨V, hV⟩ : ∃ V, V = (w.alloc (.cells (vec 5 (mpE m)) 39)).alloc (.cells (vec 2 (spE (0, 0))) 49) := ⟨_, rfl⟩
  have k1 : Arr V g 39 5 (mpE m) := by rw [hV, hg]; exact (Arr.new w _ _ _).alloc _
  have k2 : Arr V h 49 2 (spE (0, 0)) := by rw [hV, hh]; exact Arr.newAt _ _ _ _ (by simp)
  have hB : Below w.heap.size w V := by rw [hV]; exact ((Below.refl _ _).alloc (Nat.le_refl _) _).alloc (by simp) _
  have x0 : V.cell? ⟨g, 1, none⟩ = some (.int .u64 (p : Int)) := by have := k1.cell (i := 1) (by decide); rw [hm] at this; exact this
  have x2 : V.cell? ⟨g, 2, none⟩ = some (.int .u64 (s : Int)) := by have := k1.cell (i := 2) (by decide); rw [hm] at this; exact this
  have HV := Lib.hid hV
  have HG := Lib.hid (And.intro hg hh)
  have HB := Lib.hid hB
  have HK := Lib.hid k2
  have HH : Hid (w.heap.size ≤ h) := Lib.hid (by omega)
  rw [← hm]
  clear hV hg hh k1 k2 hB hm
  go_enter Try.func34, Try.ntmps34
  go_upto_region 1 with fail
  rw [← HV.out, ← HG.out.2, ← HG.out.1]
  clear HV HG
  go_wp2_with (first
    | ((with_reducible show wpList _ _ _ (Oper.mk _ (.build _ _) _ _ _ _ :: _) _ _); refine wl_build rfl 49 _ rfl (vec 2 (spE (p, s))) (by kernel_rfl) ?_)
    | ((with_reducible show wpList _ _ _ (Oper.mk _ (.store _ _ _) _ _ _ _ :: _) _ _); refine wl_store rfl 49 _ _ rfl h rfl _ rfl (run_store_arr HK.out (spE (p, s)) infoSp (spE_one _ _)) ?_))
  refine bodyPost_ret (results_cell1 rfl _ _ _ rfl (run_load_arr (HK.out.row _) Try.underlying49 rfl infoSp)) rfl ?_
  exact ⟨rfl, below_row HB.out HH.out _⟩
theorem physical_any (m : Mp) (hm : MpB m) (w : World) : Calls Try.prog 34 #[.agg (vec 5 (mpE m))] w fun e w' => e = .returned (.agg (vec 2 (spE (paS m)))) ∧ Below w.heap.size w w' := by
  obtain ⟨mi, mp, ms, mq, mk⟩ := m
  obtain ⟨b, rfl⟩ := Int.eq_ofNat_of_zero_le hm.ipa.1
  obtain ⟨p, rfl⟩ := Int.eq_ofNat_of_zero_le hm.pa.1
  obtain ⟨s, rfl⟩ := Int.eq_ofNat_of_zero_le hm.size.1
  exact physical_n b p s mq mk w
end Go.Proofs.Ytgnihceefpijiaa
