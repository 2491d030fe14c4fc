/- The law ShaTables. -/
import Derived.Test.YtjblmnkhdablaaaDoorRoot3
import Derived.Test.YtjblmnkhdablaaaDoorRPrime
import Derived.Test.YtjblmnkhdablaaaDoorAbc
import Derived.Test.YtjblmnkhdablaaaDoorHeld
import Derived.Test.YtjblmnkhdablaaaDoorLaw
namespace Go.Proofs.YtjblmnkhdablaaaDoor
open Go.RowKit
attribute [local go_sem ↓ high] zeroV53 zeroV26 zeroV32 zeroV34

set_option maxRecDepth 100000 in
theorem kt_root : ∀ k, k < 64 → rtF (fit3 (Pn k)) 37 % 4294967296 = (Kt k).toNat := by decide +kernel
set_option maxRecDepth 100000 in
theorem h0_root : ∀ k, k < 8 → rtF (fit2 (Pn k)) 37 % 4294967296 = (H0 k).toNat := by decide +kernel
theorem pn_in : ∀ k, k < 64 → 1 ≤ Pn k ∧ Pn k ≤ 311 := by decide +kernel
theorem prime_in (k : Nat) (h : k < 64) : primeN (k : Int) = Pn k := by unfold primeN; rw [if_pos (by omega), Int.toNat_natCast]
theorem root_k (k : Nat) (h : k < 64) : (rootN fit3 ((primeN (k : Int) : Nat) : Int) : Int) = num (Kt k) := by
  have := pn_in k h
  rw [prime_in k h]; unfold rootN num
  rw [if_pos (by omega), Int.toNat_natCast, kt_root k h]
theorem root_h (k : Nat) (h : k < 8) : (rootN fit2 ((primeN (k : Int) : Nat) : Int) : Int) = num (H0 k) := by
  have := pn_in k (by omega)
  rw [prime_in k (by omega)]; unfold rootN num
  rw [if_pos (by omega), Int.toNat_natCast, h0_root k h]

/-- What the last region knows. -/
def TL (w : World) (g : Nat) (k r : Nat) (a b : Int) (Y : World) : Prop :=
  Y.cell? ⟨g, k, none⟩ = some (.int .u32 a) ∧ Y.cell? ⟨g + 1, r, none⟩ = some (.int .u32 b) ∧ Below w.heap.size w Y
theorem TL.keep {w : World} {g k r : Nat} {a b : Int} {Y Z : World} (H : TL w g k r a b Y) (hb : Below Y.heap.size Y Z) : TL w g k r a b Z :=
  ⟨(hb.cell (World.block_lt_of_cell? Y _ H.1)).trans H.1, (hb.cell (World.block_lt_of_cell? Y _ H.2.1)).trans H.2.1, H.2.2.trans (hb.mono H.2.2.size)⟩

set_option maxHeartbeats 2000000 in
set_option maxRecDepth 100000 in
theorem tables_walk (i p : Int) (w : World) (hT : Tabs w) :
    Calls Tryd.prog 4 #[.int .i64 i, .int .i64 p] w fun e w' => e = .returned (.bool true) ∧ Below w.heap.size w w' := by
  have HA := Lib.hid (awake_any w hT)
  have HT := Lib.hid hT
  clear hT
  obtain ⟨n, hn⟩ : ∃ n, n = primeN i := ⟨_, rfl⟩
  obtain ⟨r2, hr2⟩ : ∃ n, n = rootN fit2 p := ⟨_, rfl⟩
  obtain ⟨r3, hr3⟩ : ∃ n, n = rootN fit3 p := ⟨_, rfl⟩
  have P1 : Hid (∀ W, Calls Tryd.prog 16 #[.int .i64 i] W fun e w' => e = .returned (.int .i64 (n : Int)) ∧ W = w') := Lib.hid (by rw [hn]; exact prime_any i)
  have P2 : Hid (∀ W, Calls Tryd.prog 17 #[.int .i64 i] W fun e w' => e = .returned (.int .i64 (n : Int)) ∧ W = w') := Lib.hid (by rw [hn]; exact rprime_any i)
  have P3 : Hid (∀ W, Calls Tryd.prog 18 #[.int .i64 p] W fun e w' => e = .returned (.int .u32 (r2 : Int)) ∧ W = w') := Lib.hid (by rw [hr2]; exact root2_any p)
  have P4 : Hid (∀ W, Calls Tryd.prog 19 #[.int .i64 p] W fun e w' => e = .returned (.int .u32 (r2 : Int)) ∧ W = w') := Lib.hid (by rw [hr2]; exact rRoot2_any p)
  have P5 : Hid (∀ W, Calls Tryd.prog 20 #[.int .i64 p] W fun e w' => e = .returned (.int .u32 (r3 : Int)) ∧ W = w') := Lib.hid (by rw [hr3]; exact root3_any p)
  have P6 : Hid (∀ W, Calls Tryd.prog 21 #[.int .i64 p] W fun e w' => e = .returned (.int .u32 (r3 : Int)) ∧ Below W.heap.size W w') := Lib.hid (by rw [hr3]; exact rRoot3_any p)
  have HN := Lib.hid hn
  clear hn hr2 hr3
  go_enter Tryd.func4, Tryd.ntmps4
  go_upto_region 4 with (first
    | (go_at_call 9; refine HA.out.mono ?_; rintro e w1 ⟨rfl, hd⟩; have H1 := Lib.hid hd; clear hd)
    | (go_at_call 14; refine (table_any _ (tabs_below HT.out H1.out)).mono ?_; rintro e w2 ⟨rfl, hd⟩; have H2 := Lib.hid (H1.out.trans (hd.mono H1.out.size)); clear hd)
    | (go_at_call 15; refine (init_any _ (tabs_below HT.out H2.out)).mono ?_; rintro e w3 ⟨rfl, hd⟩; have H3 := Lib.hid (H2.out.trans (hd.mono H2.out.size)); clear hd)
    | (refine wl_store rfl 32 _ _ rfl _ rfl _ rfl (run_store_arr ((Arr.new w3 _ _ _).alloc _) (wds Kt) info32 (wds_one _ _)) ?_)
    | (refine wl_store rfl 34 _ _ rfl _ rfl _ rfl (run_store_arr ((Arr.newAt (w3.alloc (.cells (vec 64 (wds zw)) 32)) 34 8 (wds zw) (by simp)).rowFar (by omega) _) (wds H0) info34 (wds_one _ _)) ?_))
  obtain ⟨W0, hW0⟩ : ∃ W0, W0 = (((w3.alloc (.cells (vec 64 (wds zw)) 32)).alloc (.cells (vec 8 (wds zw)) 34)).setRow w3.heap.size (vec 64 (wds Kt))).setRow (w3.heap.size + 1) (vec 8 (wds H0)) := ⟨_, rfl⟩
  rw [← hW0]
  obtain ⟨g, hg⟩ : ∃ g, g = w3.heap.size := ⟨_, rfl⟩
  rw [← hg]
  have hA0 : Arr W0 g 32 64 (wds Kt) := by rw [hW0, hg]; exact (((Arr.new w3 _ _ _).alloc _).row _).rowFar (by omega) _
  have hH0 : Arr W0 (g + 1) 34 8 (wds H0) := by rw [hW0, hg]; exact ((Arr.newAt (w3.alloc (.cells (vec 64 (wds zw)) 32)) 34 8 (wds zw) (by simp)).rowFar (by omega) _).row _
  have hB0 : Below w.heap.size w W0 := by
    have hs := H3.out.size
    rw [hW0]
    exact below_row (below_row ((H3.out.alloc hs _).alloc (by simp; omega) _) hs _) (by omega) _
  have H0' := Lib.hid (And.intro hA0 (And.intro hH0 hB0))
  clear hA0 hH0 hB0 hW0 hg H3 H2 H1 HA
  by_cases hin : 0 ≤ i ∧ i < 64
  · obtain ⟨k, rfl⟩ := Int.eq_ofNat_of_zero_le hin.1
    have hk : k < 64 := by omega
    obtain ⟨r, hr⟩ : ∃ r, r = k % 8 := ⟨_, rfl⟩
    have hr8 : r < 8 := by omega
    obtain ⟨m, hm⟩ : ∃ m, m = primeN (r : Int) := ⟨_, rfl⟩
    obtain ⟨a, ha⟩ : ∃ a, a = num (Kt k) := ⟨_, rfl⟩
    obtain ⟨b, hb⟩ : ∃ b, b = num (H0 r) := ⟨_, rfl⟩
    have P7 : Hid (∀ W, Calls Tryd.prog 21 #[.int .i64 (n : Int)] W fun e w' => e = .returned (.int .u32 a) ∧ Below W.heap.size W w') := Lib.hid (by
      have := root_k k hk
      rw [ha, ← this, ← HN.out]; exact rRoot3_any _)
    have P8 : Hid (∀ W, Calls Tryd.prog 17 #[.int .i64 (r : Int)] W fun e w' => e = .returned (.int .i64 (m : Int)) ∧ W = w') := Lib.hid (by rw [hm]; exact rprime_any _)
    have P9 : Hid (∀ W, Calls Tryd.prog 19 #[.int .i64 (m : Int)] W fun e w' => e = .returned (.int .u32 b) ∧ W = w') := Lib.hid (by
      have := root_h r hr8
      rw [hb, ← this, ← hm]; exact rRoot2_any _)
    have hTL : TL w g k r a b W0 := ⟨by rw [ha]; exact H0'.out.1.cell (i := k) hk, by rw [hb]; exact H0'.out.2.1.cell (i := r) hr8, H0'.out.2.2⟩
    have HTL := Lib.hid hTL
    have em : ((k : Int)).tmod 8 = (r : Int) := by rw [Int.tmod_eq_emod_of_nonneg (by omega)]; omega
    have hneg : ¬ (k : Int) < 0 := by omega
    have hgt : ¬ (63 : Int) < (k : Int) := by omega
    have hr0 : (0 : Int) ≤ (r : Int) := by omega
    have hrk : (r : Int) < 8 := by omega
    have hk64 : (k : Int) < 64 := by omega
    have HM := Lib.hid em
    clear hm hr ha hb hin hTL em
    go_upto_region 8 with (first
      | (go_at_call 16; refine (P1.out _).mono ?_; rintro e z1 ⟨rfl, rfl⟩)
      | (go_at_call 17; refine (P2.out _).mono ?_; rintro e z1 ⟨rfl, rfl⟩)
      | (go_at_call 18; refine (P3.out _).mono ?_; rintro e z1 ⟨rfl, rfl⟩)
      | (go_at_call 19; refine (P4.out _).mono ?_; rintro e z1 ⟨rfl, rfl⟩)
      | (go_at_call 20; refine (P5.out _).mono ?_; rintro e z1 ⟨rfl, rfl⟩)
      | (go_at_call 21; refine (P6.out _).mono ?_; rintro e z2 ⟨rfl, hd⟩; have H2 := Lib.hid (HTL.out.keep hd); clear hd))
    have em := HM.out
    refine wp_region_held_drew (S := fun Y => TL w g k r a b Y) (by kernel_rfl) (H2.out.keep ⟨rfl, rfl, rfl, Nat.le_refl _, fun _ _ => rfl⟩) (fun hS => ?_)
    (refine held_take (i := 0) (oi := ?ot1) (v := ?vt1) ?at1 (by kernel_rfl) (by kernel_rfl) (by kernel_rfl) ?bt1 ?ct1 ?dt1 (by assumption) ?rt1; (case at1 => (simp only [List.getElem?_toArray, List.getElem?_cons_zero]; rfl)); (case bt1 => exact fun _ _ _ h => h); (case ct1 => kernel_rfl); (case dt1 => (intro W hW; (try dsimp only at hW); go_split_ands; go_simp; (try with_reducible rfl))); (case' rt1 => simp only [Act.put, List.setIfInBounds_toArray, List.set_cons_zero, List.set_cons_succ]))
    (refine held_take (i := 1) (oi := ?ot2) (v := ?vt2) ?at2 (by kernel_rfl) (by kernel_rfl) (by kernel_rfl) ?bt2 ?ct2 ?dt2 (by assumption) ?rt2; (case at2 => (simp only [List.getElem?_toArray, List.getElem?_cons_zero, List.getElem?_cons_succ]; rfl)); (case bt2 => exact fun _ _ _ h => h); (case ct2 => kernel_rfl); (case dt2 => (intro W hW; (try dsimp only at hW); go_split_ands; go_simp; (try with_reducible rfl))); (case' rt2 => simp only [Act.put, List.setIfInBounds_toArray, List.set_cons_zero, List.set_cons_succ]))
    (refine held_take (i := 2) (oi := ?ot3) (v := .int .u32 a) ?at3 (by kernel_rfl) (by kernel_rfl) (by kernel_rfl) ?bt3 ?ct3 ?dt3 (by assumption) ?rt3; (case at3 => (simp only [List.getElem?_toArray, List.getElem?_cons_zero, List.getElem?_cons_succ]; rfl)); (case bt3 => exact fun _ _ _ h => h); (case ct3 => kernel_rfl); (case dt3 => (intro W hW; obtain ⟨hW1, hW2, hW3⟩ := hW; go_simp; (try with_reducible rfl))); (case' rt3 => simp only [Act.put, List.setIfInBounds_toArray, List.set_cons_zero, List.set_cons_succ]))
    (refine held_take (i := 3) (oi := ?ot4) (v := ?vt4) ?at4 (by kernel_rfl) (by kernel_rfl) (by kernel_rfl) ?bt4 ?ct4 ?dt4 (by assumption) ?rt4; (case at4 => (simp only [List.getElem?_toArray, List.getElem?_cons_zero, List.getElem?_cons_succ]; rfl)); (case bt4 => exact fun _ _ _ h => h); (case ct4 => kernel_rfl); (case dt4 => (intro W hW; (try dsimp only at hW); go_split_ands; go_simp; (try with_reducible rfl))); (case' rt4 => simp only [Act.put, List.setIfInBounds_toArray, List.set_cons_zero, List.set_cons_succ]))
    refine held_one (i := 4) (oi := ?ot5) (by kernel_rfl) ?at5 ?ct5 (fun K4 hK4 => ?_)
    (case at5 => (simp only [List.getElem?_toArray, List.getElem?_cons_zero, List.getElem?_cons_succ]; rfl))
    (case ct5 => kernel_rfl)
    go_simp
    refine (P2.out _).mono ?_
    rintro e y4 ⟨rfl, rfl⟩
    refine hK4 _ _ hS (fun hS4 => ?_)
    clear hS hK4 K4
    refine held_one (i := 5) (oi := ?ot6) (by kernel_rfl) ?at6 ?ct6 (fun K5 hK5 => ?_)
    (case at6 => (simp only [List.getElem?_toArray, List.getElem?_cons_zero, List.getElem?_cons_succ]; rfl))
    (case ct6 => kernel_rfl)
    go_simp
    refine (P7.out _).mono ?_
    rintro e y5 ⟨rfl, hd⟩
    refine hK5 _ _ (TL.keep hS4 hd) (fun hS5 => ?_)
    clear hS4 hd hK5 K5
    (refine held_take (i := 6) (oi := ?ot7) (v := ?vt7) ?at7 (by kernel_rfl) (by kernel_rfl) (by kernel_rfl) ?bt7 ?ct7 ?dt7 (by assumption) ?rt7; (case at7 => (simp only [List.getElem?_toArray, List.getElem?_cons_zero, List.getElem?_cons_succ]; rfl)); (case bt7 => exact fun _ _ _ h => h); (case ct7 => kernel_rfl); (case dt7 => (intro W hW; (try dsimp only at hW); go_split_ands; go_simp; (try with_reducible rfl))); (case' rt7 => simp only [Act.put, List.setIfInBounds_toArray, List.set_cons_zero, List.set_cons_succ]))
    (refine held_take (i := 7) (oi := ?ot8) (v := ?vt8) ?at8 (by kernel_rfl) (by kernel_rfl) (by kernel_rfl) ?bt8 ?ct8 ?dt8 (by assumption) ?rt8; (case at8 => (simp only [List.getElem?_toArray, List.getElem?_cons_zero, List.getElem?_cons_succ]; rfl)); (case bt8 => exact fun _ _ _ h => h); (case ct8 => kernel_rfl); (case dt8 => (intro W hW; (try dsimp only at hW); go_split_ands; go_simp; (try with_reducible rfl))); (case' rt8 => simp only [Act.put, List.setIfInBounds_toArray, List.set_cons_zero, List.set_cons_succ]))
    (refine held_take (i := 8) (oi := ?ot9) (v := ?vt9) ?at9 (by kernel_rfl) (by kernel_rfl) (by kernel_rfl) ?bt9 ?ct9 ?dt9 (by assumption) ?rt9; (case at9 => (simp only [List.getElem?_toArray, List.getElem?_cons_zero, List.getElem?_cons_succ]; rfl)); (case bt9 => exact fun _ _ _ h => h); (case ct9 => kernel_rfl); (case dt9 => (intro W hW; (try dsimp only at hW); go_split_ands; go_simp; (try with_reducible rfl))); (case' rt9 => simp only [Act.put, List.setIfInBounds_toArray, List.set_cons_zero, List.set_cons_succ]))
    (refine held_take (i := 9) (oi := ?ot10) (v := ?vt10) ?at10 (by kernel_rfl) (by kernel_rfl) (by kernel_rfl) ?bt10 ?ct10 ?dt10 (by assumption) ?rt10; (case at10 => (simp only [List.getElem?_toArray, List.getElem?_cons_zero, List.getElem?_cons_succ]; rfl)); (case bt10 => exact fun _ _ _ h => h); (case ct10 => kernel_rfl); (case dt10 => (intro W hW; (try dsimp only at hW); go_split_ands; go_simp; (try with_reducible rfl))); (case' rt10 => simp only [Act.put, List.setIfInBounds_toArray, List.set_cons_zero, List.set_cons_succ]))
    (refine held_take (i := 10) (oi := ?ot11) (v := ?vt11) ?at11 (by kernel_rfl) (by kernel_rfl) (by kernel_rfl) ?bt11 ?ct11 ?dt11 (by assumption) ?rt11; (case at11 => (simp only [List.getElem?_toArray, List.getElem?_cons_zero, List.getElem?_cons_succ]; rfl)); (case bt11 => exact fun _ _ _ h => h); (case ct11 => kernel_rfl); (case dt11 => (intro W hW; (try dsimp only at hW); go_split_ands; go_simp; (try with_reducible rfl))); (case' rt11 => simp only [Act.put, List.setIfInBounds_toArray, List.set_cons_zero, List.set_cons_succ]))
    (refine held_take (i := 11) (oi := ?ot12) (v := .int .u32 b) ?at12 (by kernel_rfl) (by kernel_rfl) (by kernel_rfl) ?bt12 ?ct12 ?dt12 (by assumption) ?rt12; (case at12 => (simp only [List.getElem?_toArray, List.getElem?_cons_zero, List.getElem?_cons_succ]; rfl)); (case bt12 => exact fun _ _ _ h => h); (case ct12 => kernel_rfl); (case dt12 => (intro W hW; obtain ⟨hW1, hW2, hW3⟩ := hW; go_simp; (try with_reducible rfl))); (case' rt12 => simp only [Act.put, List.setIfInBounds_toArray, List.set_cons_zero, List.set_cons_succ]))
    (refine held_take (i := 12) (oi := ?ot13) (v := ?vt13) ?at13 (by kernel_rfl) (by kernel_rfl) (by kernel_rfl) ?bt13 ?ct13 ?dt13 (by assumption) ?rt13; (case at13 => (simp only [List.getElem?_toArray, List.getElem?_cons_zero, List.getElem?_cons_succ]; rfl)); (case bt13 => exact fun _ _ _ h => h); (case ct13 => kernel_rfl); (case dt13 => (intro W hW; (try dsimp only at hW); go_split_ands; go_simp; (try with_reducible rfl))); (case' rt13 => simp only [Act.put, List.setIfInBounds_toArray, List.set_cons_zero, List.set_cons_succ]))
    (refine held_take (i := 13) (oi := ?ot14) (v := ?vt14) ?at14 (by kernel_rfl) (by kernel_rfl) (by kernel_rfl) ?bt14 ?ct14 ?dt14 (by assumption) ?rt14; (case at14 => (simp only [List.getElem?_toArray, List.getElem?_cons_zero, List.getElem?_cons_succ]; rfl)); (case bt14 => exact fun _ _ _ h => h); (case ct14 => kernel_rfl); (case dt14 => (intro W hW; (try dsimp only at hW); go_split_ands; go_simp; (try with_reducible rfl))); (case' rt14 => simp only [Act.put, List.setIfInBounds_toArray, List.set_cons_zero, List.set_cons_succ]))
    refine held_one (i := 14) (oi := ?ot15) (by kernel_rfl) ?at15 ?ct15 (fun K14 hK14 => ?_)
    (case at15 => (simp only [List.getElem?_toArray, List.getElem?_cons_zero, List.getElem?_cons_succ]; rfl))
    (case ct15 => kernel_rfl)
    go_simp
    refine (P8.out _).mono ?_
    rintro e y14 ⟨rfl, rfl⟩
    refine hK14 _ _ hS5 (fun hS14 => ?_)
    clear hS5 hK14 K14
    refine held_one (i := 15) (oi := ?ot16) (by kernel_rfl) ?at16 ?ct16 (fun K15 hK15 => ?_)
    (case at16 => (simp only [List.getElem?_toArray, List.getElem?_cons_zero, List.getElem?_cons_succ]; rfl))
    (case ct16 => kernel_rfl)
    go_simp
    refine (P9.out _).mono ?_
    rintro e y15 ⟨rfl, rfl⟩
    refine hK15 _ _ hS14 (fun hS15 => ?_)
    clear hS14 hK15 K15
    (refine held_take (i := 16) (oi := ?ot17) (v := ?vt17) ?at17 (by kernel_rfl) (by kernel_rfl) (by kernel_rfl) ?bt17 ?ct17 ?dt17 (by assumption) ?rt17; (case at17 => (simp only [List.getElem?_toArray, List.getElem?_cons_zero, List.getElem?_cons_succ]; rfl)); (case bt17 => exact fun _ _ _ h => h); (case ct17 => kernel_rfl); (case dt17 => (intro W hW; (try dsimp only at hW); go_split_ands; go_simp; (try with_reducible rfl))); (case' rt17 => simp only [Act.put, List.setIfInBounds_toArray, List.set_cons_zero, List.set_cons_succ]))
    (refine held_take (i := 17) (oi := ?ot18) (v := ?vt18) ?at18 (by kernel_rfl) (by kernel_rfl) (by kernel_rfl) ?bt18 ?ct18 ?dt18 (by assumption) ?rt18; (case at18 => (simp only [List.getElem?_toArray, List.getElem?_cons_zero, List.getElem?_cons_succ]; rfl)); (case bt18 => exact fun _ _ _ h => h); (case ct18 => kernel_rfl); (case dt18 => (intro W hW; (try dsimp only at hW); go_split_ands; go_simp; (try with_reducible rfl))); (case' rt18 => simp only [Act.put, List.setIfInBounds_toArray, List.set_cons_zero, List.set_cons_succ]))
    (refine held_take (i := 18) (oi := ?ot19) (v := ?vt19) ?at19 (by kernel_rfl) (by kernel_rfl) (by kernel_rfl) ?bt19 ?ct19 ?dt19 (by assumption) ?rt19; (case at19 => (simp only [List.getElem?_toArray, List.getElem?_cons_zero, List.getElem?_cons_succ]; rfl)); (case bt19 => exact fun _ _ _ h => h); (case ct19 => kernel_rfl); (case dt19 => (intro W hW; (try dsimp only at hW); go_split_ands; go_simp; (try with_reducible rfl))); (case' rt19 => simp only [Act.put, List.setIfInBounds_toArray, List.set_cons_zero, List.set_cons_succ]))
    refine wpAnyH_done (by kernel_rfl) ?_ _
    go_wp2
    go_ret
    exact ⟨rfl, hS15.2.2⟩
  · have hz : n = 0 := by rw [HN.out]; unfold primeN; rw [if_neg hin]
    subst hz
    by_cases hneg : i < 0
    · go_upto_region 7 with (first
        | (go_at_call 16; refine (P1.out _).mono ?_; rintro e z1 ⟨rfl, rfl⟩)
        | (go_at_call 17; refine (P2.out _).mono ?_; rintro e z1 ⟨rfl, rfl⟩)
        | (go_at_call 18; refine (P3.out _).mono ?_; rintro e z1 ⟨rfl, rfl⟩)
        | (go_at_call 19; refine (P4.out _).mono ?_; rintro e z1 ⟨rfl, rfl⟩)
        | (go_at_call 20; refine (P5.out _).mono ?_; rintro e z1 ⟨rfl, rfl⟩)
        | (go_at_call 21; refine (P6.out _).mono ?_; rintro e z2 ⟨rfl, hd⟩; have H2 := Lib.hid (H0'.out.2.2.trans (hd.mono H0'.out.2.2.size)); clear hd))
      go_wp2_with (go_at_call 16; refine (P1.out _).mono ?_; rintro e z3 ⟨rfl, rfl⟩)
      go_ret
      exact ⟨rfl, H2.out⟩
    · have hgt : (63 : Int) < i := by omega
      go_upto_region 7 with (first
        | (go_at_call 16; refine (P1.out _).mono ?_; rintro e z1 ⟨rfl, rfl⟩)
        | (go_at_call 17; refine (P2.out _).mono ?_; rintro e z1 ⟨rfl, rfl⟩)
        | (go_at_call 18; refine (P3.out _).mono ?_; rintro e z1 ⟨rfl, rfl⟩)
        | (go_at_call 19; refine (P4.out _).mono ?_; rintro e z1 ⟨rfl, rfl⟩)
        | (go_at_call 20; refine (P5.out _).mono ?_; rintro e z1 ⟨rfl, rfl⟩)
        | (go_at_call 21; refine (P6.out _).mono ?_; rintro e z2 ⟨rfl, hd⟩; have H2 := Lib.hid (H0'.out.2.2.trans (hd.mono H0'.out.2.2.size)); clear hd))
      go_wp2_with (go_at_call 16; refine (P1.out _).mono ?_; rintro e z3 ⟨rfl, rfl⟩)
      go_ret
      exact ⟨rfl, H2.out⟩
end Go.Proofs.YtjblmnkhdablaaaDoor
