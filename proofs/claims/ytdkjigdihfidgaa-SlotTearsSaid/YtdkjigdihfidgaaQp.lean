/- The code: put, After, Torn. -/
import Derived.Test.YtdkjigdihfidgaaQc
namespace Go.Proofs.Ytdkjigdihfidgaa
open Go.RowKit

attribute [local go_sem ↓ high] zeroQ
attribute [local go_sem] num_or num_and num_andn
set_option maxRecDepth 100000 in
set_option maxHeartbeats 1000000 in
theorem put_any (f : Nat → W32) (a : Int) (y m : W32) (w : World) :
    Calls Try.prog 20 #[.agg (vec 4 (wds f)), .agg #[.int .i64 a, .int .u32 (num y)], .int .u32 (num m)] w fun e w' => e = .returned (.agg (vec 4 (wds (put1 f ⟨a, y⟩ m)))) ∧ Below w.heap.size w w' := by
  obtain ⟨V, hV⟩ : ∃ V, V = ((w.alloc (.cells (vec 4 (wds f)) 25)).alloc (.cells #[.int .i64 a, .int .u32 (num y)] 35)).alloc (.cells (vec 4 (wds zw)) 25) := ⟨_, rfl⟩
  have hF : Arr V w.heap.size 25 4 (wds f) := by rw [hV]; exact ((Arr.new _ _ _ _).alloc _).alloc _
  have hP : Blk V (w.heap.size + 1) 35 #[.int .i64 a, .int .u32 (num y)] := by rw [hV]; exact (Blk.new _ _ _ (by simp)).alloc _
  have hR : Arr V (w.heap.size + 1 + 1) 25 4 (wds zw) := by rw [hV]; exact Arr.newAt _ _ _ _ (by simp)
  have hB : Below w.heap.size w V := by rw [hV]; exact (((Below.refl _ _).alloc (Nat.le_refl _) _).alloc (by simp) _).alloc (by simp; omega) _
  have HX := Lib.hid (And.intro hF (And.intro hP (And.intro hR hB)))
  have HV := Lib.hid hV
  have c0 : V.cell? ⟨w.heap.size + 1, 0, none⟩ = some (.int .i64 a) := hP.cellAt 0 rfl
  clear hF hP hR hB hV
  by_cases hin : 0 ≤ a ∧ a < 4
  · obtain ⟨k, rfl⟩ := Int.eq_ofNat_of_zero_le hin.1
    have hk : k < 4 := by omega
    have hk2 : (k : Int) < 4 := by omega
    have HE := Lib.hid (put1_at f k y m hk)
    clear hin
    go_enter Try.func20, Try.ntmps20
    go_upto_region 1 with fail
    rw [← HV.out]
    go_upto_region 2 with fail
    have HC : Hid (∀ W, Save w.heap.size V W → W.cell? ⟨w.heap.size + 1, 0, none⟩ = some (.int .i64 (k : Int)) ∧ W.cell? ⟨w.heap.size + 1, 1, none⟩ = some (.int .u32 (num y))) := Lib.hid fun W hW => by
      have := HX.out.2.1.save hW (by omega)
      exact ⟨this.cellAt 0 rfl, this.cellAt 1 rfl⟩
    clear c0
    have hx : V.drew.cell? ⟨w.heap.size, k, none⟩ = some (.int .u32 (num (f k))) := HX.out.1.cell hk
    have hf : V.drew.frozen? ⟨w.heap.size, k, none⟩ = false := HX.out.1.frozen k
    refine wp_region_held_drew (S := fun Y => Save w.heap.size V Y) (by kernel_rfl) (show Save w.heap.size V V.drew from ⟨rfl, rfl, rfl, Nat.le_refl _, fun _ _ _ => rfl⟩) (fun hS => ?_)
    (refine held_take (i := 0) (oi := ?ot1) (v := ?vt1) ?at1 (by kernel_rfl) (by kernel_rfl) (by kernel_rfl) ?bt1 ?ct1 ?dt1 (by assumption) ?rt1; (case at1 => (simp only [List.getElem?_toArray, List.getElem?_cons_zero]; rfl)); (case bt1 => exact fun _ _ _ h => h); (case ct1 => kernel_rfl); (case dt1 => (intro W hW; (try dsimp only at hW); go_split_ands; go_simp; (try with_reducible rfl))); (case' rt1 => simp only [Act.put, List.setIfInBounds_toArray, List.set_cons_zero, List.set_cons_succ]))
    (refine held_take (i := 1) (oi := ?ot2) (v := .int .i64 (k : Int)) ?at2 (by kernel_rfl) (by kernel_rfl) (by kernel_rfl) ?bt2 ?ct2 ?dt2 (by assumption) ?rt2; (case at2 => (simp only [List.getElem?_toArray, List.getElem?_cons_zero, List.getElem?_cons_succ]; rfl)); (case bt2 => exact fun _ _ _ h => h); (case ct2 => kernel_rfl); (case dt2 => (intro W hW; obtain ⟨c0, c1⟩ := HC.out W hW; clear hW; go_simp; (try with_reducible rfl))); (case' rt2 => simp only [Act.put, List.setIfInBounds_toArray, List.set_cons_zero, List.set_cons_succ]))
    (refine held_take (i := 2) (oi := ?ot3) (v := ?vt3) ?at3 (by kernel_rfl) (by kernel_rfl) (by kernel_rfl) ?bt3 ?ct3 ?dt3 (by assumption) ?rt3; (case at3 => (simp only [List.getElem?_toArray, List.getElem?_cons_zero, List.getElem?_cons_succ]; rfl)); (case bt3 => exact fun _ _ _ h => h); (case ct3 => kernel_rfl); (case dt3 => (intro W hW; (try dsimp only at hW); go_split_ands; go_simp; (try with_reducible rfl))); (case' rt3 => simp only [Act.put, List.setIfInBounds_toArray, List.set_cons_zero, List.set_cons_succ]))
    (refine held_take (i := 3) (oi := ?ot4) (v := .int .u32 (num y)) ?at4 (by kernel_rfl) (by kernel_rfl) (by kernel_rfl) ?bt4 ?ct4 ?dt4 (by assumption) ?rt4; (case at4 => (simp only [List.getElem?_toArray, List.getElem?_cons_zero, List.getElem?_cons_succ]; rfl)); (case bt4 => exact fun _ _ _ h => h); (case ct4 => kernel_rfl); (case dt4 => (intro W hW; obtain ⟨c0, c1⟩ := HC.out W hW; clear hW; go_simp; (try with_reducible rfl))); (case' rt4 => simp only [Act.put, List.setIfInBounds_toArray, List.set_cons_zero, List.set_cons_succ]))
    (refine held_take (i := 4) (oi := ?ot5) (v := ?vt5) ?at5 (by kernel_rfl) (by kernel_rfl) (by kernel_rfl) ?bt5 ?ct5 ?dt5 (by assumption) ?rt5; (case at5 => (simp only [List.getElem?_toArray, List.getElem?_cons_zero, List.getElem?_cons_succ]; rfl)); (case bt5 => exact fun _ _ _ h => h); (case ct5 => kernel_rfl); (case dt5 => (intro W hW; (try dsimp only at hW); go_split_ands; go_simp; (try with_reducible rfl))); (case' rt5 => simp only [Act.put, List.setIfInBounds_toArray, List.set_cons_zero, List.set_cons_succ]))
    (refine held_take (i := 5) (oi := ?ot6) (v := ?vt6) ?at6 (by kernel_rfl) (by kernel_rfl) (by kernel_rfl) ?bt6 ?ct6 ?dt6 (by assumption) ?rt6; (case at6 => (simp only [List.getElem?_toArray, List.getElem?_cons_zero, List.getElem?_cons_succ]; rfl)); (case bt6 => exact fun _ _ _ h => h); (case ct6 => kernel_rfl); (case dt6 => (intro W hW; (try dsimp only at hW); go_split_ands; go_simp; (try with_reducible rfl))); (case' rt6 => simp only [Act.put, List.setIfInBounds_toArray, List.set_cons_zero, List.set_cons_succ]))
    (refine held_take (i := 6) (oi := ?ot7) (v := ?vt7) ?at7 (by kernel_rfl) (by kernel_rfl) (by kernel_rfl) ?bt7 ?ct7 ?dt7 (by assumption) ?rt7; (case at7 => (simp only [List.getElem?_toArray, List.getElem?_cons_zero, List.getElem?_cons_succ]; rfl)); (case bt7 => exact fun _ _ _ h => h); (case ct7 => kernel_rfl); (case dt7 => (intro W hW; (try dsimp only at hW); go_split_ands; go_simp; (try with_reducible rfl))); (case' rt7 => simp only [Act.put, List.setIfInBounds_toArray, List.set_cons_zero, List.set_cons_succ]))
    (refine held_take (i := 7) (oi := ?ot8) (v := .int .i64 (k : Int)) ?at8 (by kernel_rfl) (by kernel_rfl) (by kernel_rfl) ?bt8 ?ct8 ?dt8 (by assumption) ?rt8; (case at8 => (simp only [List.getElem?_toArray, List.getElem?_cons_zero, List.getElem?_cons_succ]; rfl)); (case bt8 => exact fun _ _ _ h => h); (case ct8 => kernel_rfl); (case dt8 => (intro W hW; obtain ⟨c0, c1⟩ := HC.out W hW; clear hW; go_simp; (try with_reducible rfl))); (case' rt8 => simp only [Act.put, List.setIfInBounds_toArray, List.set_cons_zero, List.set_cons_succ]))
    (refine held_take (i := 8) (oi := ?ot9) (v := .pointer (some ⟨w.heap.size, k, none⟩)) ?at9 (by kernel_rfl) (by kernel_rfl) (by kernel_rfl) ?bt9 ?ct9 ?dt9 (by assumption) ?rt9; (case at9 => (simp only [List.getElem?_toArray, List.getElem?_cons_zero, List.getElem?_cons_succ]; rfl)); (case bt9 => exact fun _ _ _ h => h); (case ct9 => kernel_rfl); (case dt9 => (intro W hW; clear hW; go_simp; (try with_reducible rfl); (try (intro h; omega)))); (case' rt9 => simp only [Act.put, List.setIfInBounds_toArray, List.set_cons_zero, List.set_cons_succ]))
    (refine held_take (i := 10) (oi := ?ot10) (v := ?vt10) ?at10 (by kernel_rfl) (by kernel_rfl) (by kernel_rfl) ?bt10 ?ct10 ?dt10 (by assumption) ?rt10; (case at10 => (simp only [List.getElem?_toArray, List.getElem?_cons_zero, List.getElem?_cons_succ]; rfl)); (case bt10 => exact fun _ _ _ h => h); (case ct10 => kernel_rfl); (case dt10 => (intro W hW; (try dsimp only at hW); go_split_ands; go_simp; (try with_reducible rfl))); (case' rt10 => simp only [Act.put, List.setIfInBounds_toArray, List.set_cons_zero, List.set_cons_succ]))
    refine held_one (i := 9) (oi := ?ot11) (by kernel_rfl) ?at11 ?ct11 (fun K9 hK9 => ?_)
    (case at11 => (simp only [List.getElem?_toArray, List.getElem?_cons_zero, List.getElem?_cons_succ]; rfl))
    (case ct11 => kernel_rfl)
    go_simp
    refine hK9 _ _ hS (fun hS9 => ?_)
    clear hS hK9 K9
    (refine held_take (i := 11) (oi := ?ot12) (v := ?vt12) ?at12 (by kernel_rfl) (by kernel_rfl) (by kernel_rfl) ?bt12 ?ct12 ?dt12 (by assumption) ?rt12; (case at12 => (simp only [List.getElem?_toArray, List.getElem?_cons_zero, List.getElem?_cons_succ]; rfl)); (case bt12 => exact fun _ _ _ h => h); (case ct12 => kernel_rfl); (case dt12 => (intro W hW; (try dsimp only at hW); go_split_ands; go_simp; (try with_reducible rfl))); (case' rt12 => simp only [Act.put, List.setIfInBounds_toArray, List.set_cons_zero, List.set_cons_succ]))
    (refine held_take (i := 12) (oi := ?ot13) (v := ?vt13) ?at13 (by kernel_rfl) (by kernel_rfl) (by kernel_rfl) ?bt13 ?ct13 ?dt13 (by assumption) ?rt13; (case at13 => (simp only [List.getElem?_toArray, List.getElem?_cons_zero, List.getElem?_cons_succ]; rfl)); (case bt13 => exact fun _ _ _ h => h); (case ct13 => kernel_rfl); (case dt13 => (intro W hW; (try dsimp only at hW); go_split_ands; go_simp; (try with_reducible rfl))); (case' rt13 => simp only [Act.put, List.setIfInBounds_toArray, List.set_cons_zero, List.set_cons_succ]))
    (refine held_take (i := 13) (oi := ?ot14) (v := .pointer (some ⟨w.heap.size, k, none⟩)) ?at14 (by kernel_rfl) (by kernel_rfl) (by kernel_rfl) ?bt14 ?ct14 ?dt14 (by assumption) ?rt14; (case at14 => (simp only [List.getElem?_toArray, List.getElem?_cons_zero, List.getElem?_cons_succ]; rfl)); (case bt14 => exact fun _ _ _ h => h); (case ct14 => kernel_rfl); (case dt14 => (intro W hW; clear hW; go_simp; (try with_reducible rfl); (try (intro h; omega)))); (case' rt14 => simp only [Act.put, List.setIfInBounds_toArray, List.set_cons_zero, List.set_cons_succ]))
    refine held_one (i := 14) (oi := ?ot15) (by kernel_rfl) ?at15 ?ct15 (fun K14 hK14 => ?_)
    (case at15 => (simp only [List.getElem?_toArray, List.getElem?_cons_zero, List.getElem?_cons_succ]; rfl))
    (case ct15 => kernel_rfl)
    have hSb := hS9
    go_simp
    refine hK14 _ _ (hSb.setCell k _) (fun hS14 => ?_)
    clear hS9 hSb hK14 K14
    refine wpAnyH_done (by kernel_rfl) ?_ _
    have HS := Lib.hid hS14
    clear hS14 hx hf
    obtain ⟨V2, hV2⟩ : ∃ V2, V2 = (V.setCell ⟨w.heap.size, k, none⟩ (.int .u32 (num (y &&& m ||| f k &&& ~~~m)))).drew := ⟨_, rfl⟩
    have hF2 : Arr V2 w.heap.size 25 4 (wds (put1 f ⟨(k : Int), y⟩ m)) := by
      rw [hV2, HE.out]
      have := Arr.set HX.out.1 k (.int .u32 (num (tornW (f k) y m)))
      rw [wds_upd] at this
      exact this
    have hS2 : Save w.heap.size V V2 := by rw [hV2]; exact HS.out
    have hR2 : Arr V2 (w.heap.size + 1 + 1) 25 4 (wds zw) := HX.out.2.2.1.save hS2 (by omega)
    have HZ := Lib.hid (And.intro hF2 (And.intro hR2 (HX.out.2.2.2.trans (hS2.below (Nat.le_refl _) HX.out.2.2.2.size))))
    rw [← hV2]
    clear hV2 hF2 hS2 hR2 HS HC
    go_wp2_with (first
      | ((with_reducible show wpList _ _ _ (Oper.mk _ (.load 25 _) _ _ _ _ :: _) _ _); refine wl_load rfl 25 _ rfl _ rfl _ (run_load_arr HZ.out.1 Try.underlying25 rfl infoQ) ?_)
      | ((with_reducible show wpList _ _ _ (Oper.mk _ (.store 25 _ _) _ _ _ _ :: _) _ _); refine wl_store rfl 25 _ _ rfl _ rfl _ rfl (run_store_arr HZ.out.2.1 (wds (put1 f ⟨(k : Int), y⟩ m)) infoQ (wds_one _ _)) ?_))
    exact bodyPost_ret (results_cell1 rfl _ _ _ rfl (run_load_arr (HZ.out.2.1.row _) Try.underlying25 rfl infoQ)) rfl ⟨rfl, below_row HZ.out.2.2 (by omega) _⟩
  · have HE := Lib.hid (put1_out f ⟨a, y⟩ m hin)
    by_cases h0 : 0 ≤ a
    · have h4 : ¬ a < 4 := by omega
      clear hin
      go_enter Try.func20, Try.ntmps20
      go_upto_region 1 with fail
      rw [← HV.out]
      go_wp2_with (first
        | ((with_reducible show wpList _ _ _ (Oper.mk _ (.load 25 _) _ _ _ _ :: _) _ _); refine wl_load rfl 25 _ rfl _ rfl _ (run_load_arr HX.out.1 Try.underlying25 rfl infoQ) ?_)
        | ((with_reducible show wpList _ _ _ (Oper.mk _ (.store 25 _ _) _ _ _ _ :: _) _ _); refine wl_store rfl 25 _ _ rfl _ rfl _ rfl (run_store_arr HX.out.2.2.1 (wds f) infoQ (wds_one _ _)) ?_))
      exact bodyPost_ret (results_cell1 rfl _ _ _ rfl (run_load_arr (HX.out.2.2.1.row _) Try.underlying25 rfl infoQ)) rfl ⟨by rw [HE.out], below_row HX.out.2.2.2 (by omega) _⟩
    · have h1 : a < 0 := by omega
      clear hin
      go_enter Try.func20, Try.ntmps20
      go_upto_region 1 with fail
      rw [← HV.out]
      go_wp2_with (first
        | ((with_reducible show wpList _ _ _ (Oper.mk _ (.load 25 _) _ _ _ _ :: _) _ _); refine wl_load rfl 25 _ rfl _ rfl _ (run_load_arr HX.out.1 Try.underlying25 rfl infoQ) ?_)
        | ((with_reducible show wpList _ _ _ (Oper.mk _ (.store 25 _ _) _ _ _ _ :: _) _ _); refine wl_store rfl 25 _ _ rfl _ rfl _ rfl (run_store_arr HX.out.2.2.1 (wds f) infoQ (wds_one _ _)) ?_))
      exact bodyPost_ret (results_cell1 rfl _ _ _ rfl (run_load_arr (HX.out.2.2.1.row _) Try.underlying25 rfl infoQ)) rfl ⟨by rw [HE.out], below_row HX.out.2.2.2 (by omega) _⟩
/-- A row of writes, as it is read. -/
theorem put_at {w : World} {B : Nat} {A : Option Addr} {l : List Ct} (h : Lies w B 2 A l.length (cellsC l)) {k : Nat} (hk : k < l.length) :
    ∃ a p, A = some a ∧ a.add (k * 2) = p ∧ w.cell? p = some (.int .i64 l[k].after) ∧ w.cell? ⟨p.block, p.off + 1, none⟩ = some (.int .u32 (num l[k].mask)) := by
  obtain ⟨a, e, _, hc⟩ := h.2 (by omega)
  obtain ⟨h1, h2⟩ := cellsC_at l k hk
  have hl := cellsC_length l
  have g0 := hc (k * 2) (by omega)
  have g1 := hc (k * 2 + 1) (by omega)
  rw [List.getElem?_eq_getElem (by omega)] at h1 h2
  rw [Option.some.inj h1] at g0
  rw [Option.some.inj h2, ← addr_add_add] at g1
  exact ⟨a, _, e, rfl, g0, g1⟩
set_option maxRecDepth 100000 in
set_option maxHeartbeats 1000000 in
theorem after_any (f : Nat → W32) (A : Option Addr) (c : Nat) (l : List Ct) (hl : l.length ≤ 1000) (w : World) (hA : Lies w w.heap.size 2 A l.length (cellsC l)) :
    Calls Try.prog 16 #[.agg (vec 4 (wds f)), .slice A l.length c] w fun e w' => e = .returned (.agg (vec 4 (wds (aft f l)))) ∧ Below w.heap.size w w' := by
  obtain ⟨V, hV⟩ : ∃ V, V = (w.alloc (.cells (vec 4 (wds f)) 25)).alloc (.cells (vec 4 (wds zw)) 25) := ⟨_, rfl⟩
  have hF : Arr V w.heap.size 25 4 (wds f) := by rw [hV]; exact (Arr.new _ _ _ _).alloc _
  have hR : Arr V (w.heap.size + 1) 25 4 (wds zw) := by rw [hV]; exact Arr.newAt _ _ _ _ (by simp)
  have hB : Below w.heap.size w V := by rw [hV]; exact ((Below.refl _ _).alloc (Nat.le_refl _) _).alloc (by simp) _
  have HX := Lib.hid (And.intro hF (And.intro hR hB))
  have HV := Lib.hid hV
  have HA := Lib.hid hA
  have HL := Lib.hid hl
  clear hF hR hB hV hA
  go_enter Try.func16, Try.ntmps16
  go_upto_region 1 with fail
  rw [← HV.out]
  clear HV
  go_wp2
  go_loopw [9] (fun i W => ∃ k : Nat, k ≤ l.length ∧ i = .int .i64 k ∧ Hid (Arr W w.heap.size 25 4 (wds (aft f (l.take k))) ∧ Arr W (w.heap.size + 1) 25 4 (wds zw) ∧ Below w.heap.size w W)) (fun i _ => l.length - (intOf i).toNat)
  case atStart => exact ⟨0, Nat.zero_le _, rfl, HX⟩
  case round =>
    obtain ⟨k, hk, rfl, HN⟩ := hrel
    clear HX
    by_cases hlt : k < l.length
    · obtain ⟨W, hWr⟩ : ∃ W : World, W = wr := ⟨_, rfl⟩
      subst hWr
      obtain ⟨a, p, rfl, hp, hc0, hc1⟩ := put_at (HA.out.below HN.out.2.2) hlt
      obtain ⟨⟨t, y⟩, hx⟩ : ∃ x, l[k] = x := ⟨_, rfl⟩
      rw [hx] at hc0 hc1
      simp only at hc0 hc1
      have HT := Lib.hid (aft_take f l k hlt)
      rw [hx] at HT
      obtain ⟨g, hg⟩ : ∃ g, aft f (l.take k) = g := ⟨_, rfl⟩
      rw [hg] at HT HN
      have HK := Lib.hid hlt
      have h0 : (k : Int) < (l.length : Int) := by omega
      have HP := fun X => put_any g t y ones X
      rw [show num ones = 4294967295 from rfl] at HP
      have HP := Lib.hid HP
      have HC : Hid (∀ o, W.cell? p = (W.alloc o).cell? p) := Lib.hid fun o => (World.cell?_alloc_lt W o p (World.block_lt_of_cell? W p hc0)).symm
      clear hx hg hk
      go_wp2_with (first
        | ((with_reducible show wpList _ _ _ (Oper.mk _ (.load 25 _) _ _ _ _ :: _) _ _); refine wl_load rfl 25 _ rfl _ rfl _ (run_load_arr (HN.out.1.alloc _) Try.underlying25 rfl infoQ) ?_)
        | (go_at_call 20; refine (HP.out _).mono ?_; rintro e w1 ⟨rfl, hd⟩; have HD := Lib.hid hd; clear hd)
        | ((with_reducible show wpList _ _ _ (Oper.mk _ (.store 25 _ _) _ _ _ _ :: _) _ _); refine wl_store rfl 25 _ _ rfl _ rfl _ rfl (run_store_arr ((HN.out.1.alloc _).under HD.out) (wds (put1 g ⟨t, y⟩ ones)) infoQ (wds_one _ _)) ?_))
      go_roundw
      case rel =>
        obtain ⟨h1, h2, h3⟩ := HN.out
        have h4 : Below w.heap.size w w1 := (h3.alloc h3.size _).trans (HD.out.mono (by have := h3.size; simp; omega))
        exact ⟨k + 1, HK.out, by go_num, Lib.hid ⟨by rw [HT.out]; exact ((h1.alloc _).under HD.out).row _, ((h2.alloc _).under HD.out).rowFar (by omega) _, below_row h4 (Nat.le_refl _) _⟩⟩
      case measure => have := HK.out; simp [intOf]; omega
    · obtain rfl : k = l.length := by omega
      rw [List.take_length] at HN
      obtain ⟨W, hWr⟩ : ∃ W : World, W = wr := ⟨_, rfl⟩
      subst hWr
      clear hlt hk
      go_wp2_with (first
        | ((with_reducible show wpList _ _ _ (Oper.mk _ (.load 25 _) _ _ _ _ :: _) _ _); refine wl_load rfl 25 _ rfl _ rfl _ (run_load_arr HN.out.1 Try.underlying25 rfl infoQ) ?_)
        | ((with_reducible show wpList _ _ _ (Oper.mk _ (.store 25 _ _) _ _ _ _ :: _) _ _); refine wl_store rfl 25 _ _ rfl _ rfl _ rfl (run_store_arr HN.out.2.1 (wds (aft f l)) infoQ (wds_one _ _)) ?_))
      exact bodyPost_ret (results_cell1 rfl _ _ _ rfl (run_load_arr (HN.out.2.1.row _) Try.underlying25 rfl infoQ)) rfl ⟨rfl, below_row HN.out.2.2 (by omega) _⟩
end Go.Proofs.Ytdkjigdihfidgaa
