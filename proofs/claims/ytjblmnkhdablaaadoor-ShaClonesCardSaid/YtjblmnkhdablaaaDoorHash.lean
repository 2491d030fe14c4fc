/- sha.Hash: New, Write, Len, Sum, Clone. -/
import Derived.Test.YtjblmnkhdablaaaDoorEq
namespace Go.Proofs.YtjblmnkhdablaaaDoor
open Go.RowKit

/-- What stands behind a state: whether the hash is begun. -/
def fb (b : Bool) : Nat → Value := fun _ => .bool b
theorem info55 : (Tryd.prog.info? 55).map (·.size) = some 74 := by kernel_rfl
theorem zeroV55 (w : World) : (zeroValue 55).run Tryd.prog w = .ok (.agg (vec 74 (stf SZ (fb false)))) w :=
  (zero_of_info (P := Tryd.prog) (t := 55) (v := .agg (vec 74 (stf SZ (fb false)))) (n := 74) (by kernel_rfl)).1 w
attribute [local go_sem ↓ high] zeroV53 zeroV26 zeroV32 zeroV34 zeroV55
/-- A hash that somebody made, with its state. -/
def Ha (w : World) (g : Nat) (b : Bool) (s : St) : Prop := Arr w g 55 74 (stf s (fb b))
theorem Ha.flag {w : World} {g : Nat} {b : Bool} {s : St} (h : Ha w g b s) : w.cell? ⟨g, 73, none⟩ = some (.bool b) := Arr.cell h (by decide)
theorem Ha.taken {w : World} {g : Nat} {b : Bool} {s : St} (h : Ha w g b s) : w.cell? ⟨g, 72, none⟩ = some (.int .u64 (s.t : Int)) := by
  have := Arr.cell h (i := 72) (by decide)
  rwa [stf_t] at this
theorem Ha.state {w : World} {g : Nat} {b : Bool} {s : St} (h : Ha w g b s) : (loadVar 53 ⟨g, 0, none⟩).run Tryd.prog w = .ok (.agg (vec 73 (stf s nf))) w :=
  run_load_spl (fun i hi => by
    rw [Nat.zero_add, Arr.cell h (by omega)]
    unfold stf
    by_cases h1 : i < 8
    · simp [h1]
    · by_cases h2 : i < 72
      · simp [h1, h2]
      · have : i = 72 := by omega
        subst this; rfl) Tryd.underlying53 rfl info53
theorem hs_one (s : St) (b : Bool) : ∀ i, i < 74 → (stf s (fb b) i).oneCell' = true := by
  intro i hi
  by_cases h : i < 73
  · have := st_one s i h
    unfold stf at this ⊢
    by_cases h1 : i < 8
    · simp only [h1, if_true] at this ⊢; exact this
    · by_cases h2 : i < 72
      · simp only [h1, h2, if_true, if_false] at this ⊢; exact this
      · have : i = 72 := by omega
        subst this; rfl
  · have : i = 73 := by omega
    subst this; rfl

theorem made_none (w : World) : Calls Tryd.prog 45 #[.pointer none] w fun e w' => e = .returned (.bool false) ∧ w = w' := by
  go_enter Tryd.func45, Tryd.ntmps45
  go_wp2
  go_ret
  exact ⟨rfl, rfl⟩
theorem made_any (g : Nat) (b : Bool) (s : St) (w : World) (h : Ha w g b s) : Calls Tryd.prog 45 #[.pointer (some ⟨g, 0, none⟩)] w fun e w' => e = .returned (.bool b) ∧ w = w' := by
  have hc := h.flag
  clear h
  go_enter Tryd.func45, Tryd.ntmps45
  go_wp2
  go_ret
  exact ⟨rfl, rfl⟩

theorem new_any (w : World) (hT : Tabs w) : Calls Tryd.prog 26 #[] w fun e w' => ∃ g, e = .returned (.pointer (some ⟨g, 0, none⟩)) ∧ Ha w' g true S0 ∧ w.heap.size ≤ g ∧ Below w.heap.size w w' := by
  have HI := Lib.hid (begin_any w hT)
  clear hT
  go_enter Tryd.func26, Tryd.ntmps26
  go_wp2_with (first
    | (go_at_call 31; refine HI.out.mono ?_; rintro e w1 ⟨rfl, hd⟩; have HD := Lib.hid hd; clear hd)
    | (refine wl_build rfl 55 _ rfl (vec 74 (stf S0 (fb true))) (by kernel_rfl) ?_))
  go_ret
  exact ⟨w1.heap.size, rfl, Arr.new w1 _ _ _, HD.out.size, HD.out.alloc HD.out.size _⟩

set_option maxHeartbeats 400000 in
theorem write_any (g : Nat) (s : St) (l : List UInt8) (A : Option Addr) (c : Nat) (w : World) (hH : Ha w g true s) (hs : s.t + l.length < 1099511627776) (hc : l.length ≤ c)
    (hl : Lies w w.heap.size 1 A l.length (u8s l)) (hg : ∀ a, A = some a → l.length ≠ 0 → a.block ≠ g) (hT : Tabs w) (h0 : g ≠ 0) (h1 : g ≠ 1) :
    Calls Tryd.prog 27 #[.pointer (some ⟨g, 0, none⟩), .slice A l.length c] w fun e w' => e = .returned (.tuple #[]) ∧ Ha w' g true (feed s l) ∧ Save g w w' := by
  have HM := Lib.hid (made_any g true s w hH)
  have HK := Lib.hid (take_any s l A c g 55 74 (fb true) w (by decide) hs hc hH hl hg hT h0 h1)
  clear hH hs hc hl hg hT h0 h1
  go_enter Tryd.func27, Tryd.ntmps27
  go_wp2_with (first
    | (go_at_call 45; refine HM.out.mono ?_; rintro e w1 ⟨rfl, rfl⟩)
    | (go_at_call 32; refine HK.out.mono ?_; rintro e w2 ⟨rfl, h1, h2⟩; have H2 := Lib.hid (And.intro h1 h2); clear h1 h2))
  exact bodyPost_end (results_none rfl _ _ _) rfl ⟨rfl, H2.out.1, H2.out.2⟩
theorem write_none (A : Option Addr) (n c : Nat) (w : World) :
    Calls Tryd.prog 27 #[.pointer none, .slice A n c] w fun e w' => e = .returned (.tuple #[]) ∧ w = w' := by
  go_enter Tryd.func27, Tryd.ntmps27
  go_wp2_with (go_at_call 45; refine (made_none w).mono ?_; rintro e w1 ⟨rfl, rfl⟩)
  exact bodyPost_end (results_none rfl _ _ _) rfl ⟨rfl, rfl⟩
theorem write_zero (g : Nat) (s : St) (A : Option Addr) (n c : Nat) (w : World) (hH : Ha w g false s) :
    Calls Tryd.prog 27 #[.pointer (some ⟨g, 0, none⟩), .slice A n c] w fun e w' => e = .returned (.tuple #[]) ∧ w = w' := by
  have HM := Lib.hid (made_any g false s w hH)
  clear hH
  go_enter Tryd.func27, Tryd.ntmps27
  go_wp2_with (go_at_call 45; refine HM.out.mono ?_; rintro e w1 ⟨rfl, rfl⟩)
  exact bodyPost_end (results_none rfl _ _ _) rfl ⟨rfl, rfl⟩

theorem len_any (g : Nat) (s : St) (w : World) (hH : Ha w g true s) : Calls Tryd.prog 29 #[.pointer (some ⟨g, 0, none⟩)] w fun e w' => e = .returned (.int .u64 (s.t : Int)) ∧ w = w' := by
  have HM := Lib.hid (made_any g true s w hH)
  have hc := hH.taken
  clear hH
  go_enter Tryd.func29, Tryd.ntmps29
  go_wp2_with (go_at_call 45; refine HM.out.mono ?_; rintro e w1 ⟨rfl, rfl⟩)
  go_ret
  exact ⟨rfl, rfl⟩
theorem len_zero (g : Nat) (s : St) (w : World) (hH : Ha w g false s) : Calls Tryd.prog 29 #[.pointer (some ⟨g, 0, none⟩)] w fun e w' => e = .returned (.int .u64 0) ∧ w = w' := by
  have HM := Lib.hid (made_any g false s w hH)
  clear hH
  go_enter Tryd.func29, Tryd.ntmps29
  go_wp2_with (go_at_call 45; refine HM.out.mono ?_; rintro e w1 ⟨rfl, rfl⟩)
  go_ret
  exact ⟨rfl, rfl⟩

theorem hsum_any (g : Nat) (s : St) (hs : s.t < 549755813888) (w : World) (hH : Ha w g true s) (hT : Tabs w) :
    Calls Tryd.prog 28 #[.pointer (some ⟨g, 0, none⟩)] w fun e w' => e = .returned (.agg (vec 32 (bys (outB (fin s).h)))) ∧ Below w.heap.size w w' := by
  obtain ⟨W0, hW0⟩ : ∃ W0, W0 = w.alloc (.cells (vec 32 (bys zb)) 26) := ⟨_, rfl⟩
  have hR : Arr W0 w.heap.size 26 32 (bys zb) := by rw [hW0]; exact Arr.new w _ _ _
  have hB : Below w.heap.size w W0 := by rw [hW0]; exact (Below.refl _ _).alloc (Nat.le_refl _) _
  have hH0 : Ha W0 g true s := Arr.under hH hB
  have HM := Lib.hid (made_any g true s W0 hH0)
  have HL := Lib.hid hH0.state
  have HE := Lib.hid (end_any s hs W0 (tabs_below hT hB))
  have HR := Lib.hid (And.intro hR hB)
  have HW := Lib.hid hW0
  clear hW0 hR hB hH hH0 hT hs
  go_enter Tryd.func28, Tryd.ntmps28
  go_upto_region 1 with fail
  rw [← HW.out]
  clear HW
  go_wp2_with (first
    | (go_at_call 45; refine HM.out.mono ?_; rintro e w1 ⟨rfl, rfl⟩)
    | (refine wl_load rfl 53 _ rfl _ rfl _ HL.out ?_)
    | (go_at_call 33; refine HE.out.mono ?_; rintro e w2 ⟨rfl, hd⟩; have HD := Lib.hid hd; clear hd)
    | (refine wl_store rfl 26 _ _ rfl _ rfl _ rfl (run_store_arr (HR.out.1.under HD.out) (bys (outB (fin s).h)) info26 (bys_one _ _)) ?_))
  refine bodyPost_ret (results_cell1 rfl _ _ _ rfl (run_load_arr ((HR.out.1.under HD.out).row _) Tryd.underlying26 rfl info26)) rfl ⟨rfl, ?_⟩
  exact below_row (HR.out.2.trans (HD.out.mono HR.out.2.size)) (Nat.le_refl _) _
theorem hsum_none (w : World) :
    Calls Tryd.prog 28 #[.pointer none] w fun e w' => e = .returned (.agg (vec 32 (bys zb))) ∧ Below w.heap.size w w' := by
  obtain ⟨W0, hW0⟩ : ∃ W0, W0 = w.alloc (.cells (vec 32 (bys zb)) 26) := ⟨_, rfl⟩
  have hR : Arr W0 w.heap.size 26 32 (bys zb) := by rw [hW0]; exact Arr.new w _ _ _
  have hB : Below w.heap.size w W0 := by rw [hW0]; exact (Below.refl _ _).alloc (Nat.le_refl _) _
  have HR := Lib.hid (And.intro hR hB)
  have HW := Lib.hid hW0
  clear hW0 hR hB
  go_enter Tryd.func28, Tryd.ntmps28
  go_upto_region 1 with fail
  rw [← HW.out]
  clear HW
  go_wp2_with (first
    | (go_at_call 45; refine (made_none _).mono ?_; rintro e w1 ⟨rfl, rfl⟩)
    | (refine wl_build rfl 26 _ rfl (vec 32 (bys zb)) (by kernel_rfl) ?_)
    | (refine wl_store rfl 26 _ _ rfl _ rfl _ rfl (run_store_arr HR.out.1 (bys zb) info26 (bys_one _ _)) ?_))
  refine bodyPost_ret (results_cell1 rfl _ _ _ rfl (run_load_arr (HR.out.1.row _) Tryd.underlying26 rfl info26)) rfl ⟨rfl, ?_⟩
  exact below_row HR.out.2 (Nat.le_refl _) _

theorem clone_any (g : Nat) (s : St) (w : World) (hH : Ha w g true s) :
    Calls Tryd.prog 30 #[.pointer (some ⟨g, 0, none⟩)] w fun e w' => ∃ g', e = .returned (.pointer (some ⟨g', 0, none⟩)) ∧ Ha w' g' true s ∧ w.heap.size ≤ g' ∧ Below w.heap.size w w' := by
  have HM := Lib.hid (made_any g true s w hH)
  have HL := Lib.hid (run_load_arr (P := Tryd.prog) hH Tryd.underlying55 rfl info55)
  have HS := Lib.hid (run_store_arr (P := Tryd.prog) (Arr.new w 55 74 (stf SZ (fb false))) (stf s (fb true)) info55 (hs_one _ _))
  clear hH
  go_enter Tryd.func30, Tryd.ntmps30
  go_wp2_with (first
    | (go_at_call 45; refine HM.out.mono ?_; rintro e w1 ⟨rfl, rfl⟩)
    | (refine wl_load rfl 55 _ rfl _ rfl _ HL.out ?_)
    | (refine wl_store rfl 55 _ _ rfl _ rfl _ rfl HS.out ?_))
  go_ret
  exact ⟨w.heap.size, rfl, (Arr.new w _ _ _).row _, Nat.le_refl _, below_row ((Below.refl _ _).alloc (Nat.le_refl _) _) (Nat.le_refl _) _⟩
theorem clone_none (w : World) : Calls Tryd.prog 30 #[.pointer none] w fun e w' => e = .returned (.pointer none) ∧ w = w' := by
  go_enter Tryd.func30, Tryd.ntmps30
  go_wp2_with (go_at_call 45; refine (made_none w).mono ?_; rintro e w1 ⟨rfl, rfl⟩)
  go_ret
  exact ⟨rfl, rfl⟩
theorem clone_zero (g : Nat) (s : St) (w : World) (hH : Ha w g false s) : Calls Tryd.prog 30 #[.pointer (some ⟨g, 0, none⟩)] w fun e w' => e = .returned (.pointer none) ∧ w = w' := by
  have HM := Lib.hid (made_any g false s w hH)
  clear hH
  go_enter Tryd.func30, Tryd.ntmps30
  go_wp2_with (go_at_call 45; refine HM.out.mono ?_; rintro e w1 ⟨rfl, rfl⟩)
  go_ret
  exact ⟨rfl, rfl⟩
end Go.Proofs.YtjblmnkhdablaaaDoor
