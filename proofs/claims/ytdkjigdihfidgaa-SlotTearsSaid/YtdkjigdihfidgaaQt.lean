/- The code: Torn. -/
import Derived.Test.YtdkjigdihfidgaaQp
namespace Go.Proofs.Ytdkjigdihfidgaa
open Go.RowKit

attribute [local go_sem ↓ high] zeroQ
attribute [local go_sem] num_or num_and num_andn
theorem exec_slice_h {P : Program} {o : Oper} {a : Act} {w : World} (t : TypeId) (x hi : Operand) (ho : o.op = .slice t x none (some hi) none) (vx vh : Value) (hx : a.eval x = vx) (hh : a.eval hi = vh) {v : Value}
    (hr : (Instr.sliceAt t vx none (some vh) none).run P w = .ok v w) : (execOp a.eval o).run P w = .ok (.value v) w := by
  unfold execOp
  simp only [ho, Option.map_some, Option.map_none, hx, hh, Sem.run_bind, hr, Result.andThen_ok, Sem.run_pure]
theorem cellsC_take (l : List Ct) (k j : Nat) (h : j < (l.take k).length * 2) : (cellsC (l.take k))[j]? = (cellsC l)[j]? := by
  have hk : (l.take k).length ≤ l.length := by simp; omega
  have h1 := cellsC_at (l.take k) (j / 2) (by omega)
  have h2 := cellsC_at l (j / 2) (by omega)
  have e : (l.take k)[j / 2]'(by omega) = l[j / 2]'(by omega) := by simp
  rw [e] at h1
  rcases Nat.mod_two_eq_zero_or_one j with h | h
  · have e : j / 2 * 2 = j := by omega
    rw [e] at h1 h2
    rw [h1.1, h2.1]
  · have e : j / 2 * 2 + 1 = j := by omega
    rw [e] at h1 h2
    rw [h1.2, h2.2]
/-- What is ahead of place n. -/
theorem puts_head {w : World} {A : Option Addr} {c : Nat} {l : List Ct} {n : Nat} (hn : n ≤ l.length) (hc : l.length ≤ c) (h : Lies w w.heap.size 2 A l.length (cellsC l)) :
    ∃ B d, (∀ W, (Instr.sliceAt 32 (.slice A l.length c) none (some (.int .i64 (n : Int))) none).run Try.prog W = .ok (.slice B n d) W) ∧ Lies w w.heap.size 2 B (l.take n).length (cellsC (l.take n)) := by
  have hlen : (l.take n).length = n := by simp; omega
  refine ⟨if c = 0 then A else A.map fun a => a.add (0 * 2), c, fun W => ?_, ?_⟩
  · have he : Try.prog.underlying 32 = some (.slice (Try.prog.elem 32)) := by kernel_rfl
    rw [run_sliceAt_slice W _ _ _ _ _ he]
    have hs : (sizeOf (Try.prog.elem 32)).run Try.prog W = .ok 2 W := by kernel_rfl
    have hr := run_slice_h (P := Try.prog) (w := W) 32 A l.length c he .i64 (n : Int) (by omega) (by omega)
    rw [hr, hs]
    simp only [Result.andThen_ok, sliced, Int.toNat_natCast, Nat.sub_zero]
  · rw [hlen]
    refine ⟨by rw [cellsC_length, hlen], fun h0 => ?_⟩
    obtain ⟨a, rfl, hb, hcell⟩ := h.2 (by omega)
    rw [if_neg (by omega)]
    refine ⟨a, by simp [Addr.add], hb, fun j hj => ?_⟩
    have hj2 : j < n * 2 := by rw [cellsC_length, hlen] at hj; exact hj
    have hl := cellsC_length l
    rw [hcell j (by omega)]
    have := cellsC_take l n j (by omega)
    rw [List.getElem?_eq_getElem hj, List.getElem?_eq_getElem (by omega)] at this
    exact this.symm
set_option maxRecDepth 100000 in
set_option maxHeartbeats 2000000 in
theorem torn_any (f : Nat → W32) (A : Option Addr) (c : Nat) (l : List Ct) (hl : l.length ≤ 1000) (hc : l.length ≤ c) (k : Int) (m : W32) (w : World) (hA : Lies w w.heap.size 2 A l.length (cellsC l)) :
    Calls Try.prog 17 #[.agg (vec 4 (wds f)), .slice A l.length c, .int .i64 k, .int .u32 (num m)] w fun e w' => e = .returned (.agg (vec 4 (wds (torn f l (cutN l k) m)))) ∧ Below w.heap.size w w' := by
  obtain ⟨V, hV⟩ : ∃ V, V = (w.alloc (.cells (vec 4 (wds f)) 25)).alloc (.cells (vec 4 (wds zw)) 25) := ⟨_, rfl⟩
  have hF : Arr V w.heap.size 25 4 (wds f) := by rw [hV]; exact (Arr.new _ _ _ _).alloc _
  have hR : Arr V (w.heap.size + 1) 25 4 (wds zw) := by rw [hV]; exact Arr.newAt _ _ _ _ (by simp)
  have hB : Below w.heap.size w V := by rw [hV]; exact ((Below.refl _ _).alloc (Nat.le_refl _) _).alloc (by simp) _
  have HX := Lib.hid (And.intro hF (And.intro hR hB))
  have HV := Lib.hid hV
  clear hF hR hB hV
  obtain ⟨n, hn⟩ : ∃ n, n = cutN l k := ⟨_, rfl⟩
  have hn2 : n = min k.toNat l.length := hn
  obtain ⟨K, hK⟩ : ∃ K, K = k.toNat := ⟨_, rfl⟩
  obtain ⟨L, hL⟩ : ∃ L, L = l.length := ⟨_, rfl⟩
  have hmax : ∀ ts ty W, (Builtin.max_ ts ty #[.int .i64 k, .int .i64 0]).run Try.prog W = .ok (.int .i64 (K : Int)) W := fun ts ty W => by
    rw [run_max_int2]
    have : (if (0 : Int) > k then 0 else k) = (K : Int) := by split <;> omega
    rw [this]
  have hmin : ∀ ts ty W, (Builtin.min_ ts ty #[.int .i64 (K : Int), .int .i64 (L : Int)]).run Try.prog W = .ok (.int .i64 (n : Int)) W := fun ts ty W => by
    rw [run_min_int2]
    have : (if (L : Int) < (K : Int) then (L : Int) else (K : Int)) = (n : Int) := by split <;> omega
    rw [this]
  have hnl : n ≤ l.length := by omega
  obtain ⟨B, d, hsl, hlt⟩ := puts_head hnl hc hA
  have hln : (l.take n).length = n := by simp; omega
  rw [← hL] at hsl
  have HSL := Lib.hid hsl
  have HF : Hid (∀ Y, SQ V w.heap.size Y → Calls Try.prog 16 #[.agg (vec 4 (wds f)), .slice B n d] Y fun e w' => e = .returned (.agg (vec 4 (wds (aft f (l.take n))))) ∧ Below Y.heap.size Y w') := Lib.hid fun Y hY => by
    have h1 : Lies Y w.heap.size 2 B (l.take n).length (cellsC (l.take n)) := hY.lies (hlt.below HX.out.2.2) (Nat.le_refl _)
    have := after_any f B d (l.take n) (by omega) Y (h1.wide (by have := hY.save.size; have := hY.lt; omega))
    rw [hln] at this
    exact this
  have HA := Lib.hid (And.intro hA (And.intro hL hnl))
  have HN := Lib.hid hn
  rw [← hn, ← hL]
  clear hA hsl hlt hn hn2 hK hl hc hL hnl hln
  go_enter Try.func17, Try.ntmps17
  go_upto_region 1 with fail
  rw [← HV.out]
  clear HV
  go_upto_region 2 with fail
  clear hmax hmin
  refine wp_region_held_drew (S := fun Y => SQ V w.heap.size Y) (by kernel_rfl) (SQ.begin HX.out.1) (fun hS => ?_)
  (refine held_take (i := 1) (oi := ?ot1) (v := ?vt1) ?at1 (by kernel_rfl) (by kernel_rfl) (by kernel_rfl) ?bt1 ?ct1 ?dt1 (by assumption) ?rt1; (case at1 => (simp only [List.getElem?_toArray, List.getElem?_cons_zero, List.getElem?_cons_succ]; rfl)); (case bt1 => exact fun _ _ _ h => h); (case ct1 => kernel_rfl); (case dt1 => (intro W hW; (try dsimp only at hW); go_split_ands; go_simp; (try with_reducible rfl))); (case' rt1 => simp only [Act.put, List.setIfInBounds_toArray, List.set_cons_zero, List.set_cons_succ]))
  (refine held_take (i := 2) (oi := ?ot2) (v := ?vt2) ?at2 (by kernel_rfl) (by kernel_rfl) (by kernel_rfl) ?bt2 ?ct2 ?dt2 (by assumption) ?rt2; (case at2 => (simp only [List.getElem?_toArray, List.getElem?_cons_zero, List.getElem?_cons_succ]; rfl)); (case bt2 => exact fun _ _ _ h => h); (case ct2 => kernel_rfl); (case dt2 => (intro W hW; (try dsimp only at hW); go_split_ands; go_simp; (try with_reducible rfl))); (case' rt2 => simp only [Act.put, List.setIfInBounds_toArray, List.set_cons_zero, List.set_cons_succ]))
  (refine held_take (i := 3) (oi := ?ot3) (v := .slice B n d) ?at3 (by kernel_rfl) (by kernel_rfl) (by kernel_rfl) ?bt3 ?ct3 ?dt3 (by assumption) ?rt3; (case at3 => (simp only [List.getElem?_toArray, List.getElem?_cons_zero, List.getElem?_cons_succ]; rfl)); (case bt3 => exact fun _ _ _ h => h); (case ct3 => kernel_rfl); (case dt3 => (intro W hW; exact exec_slice_h _ _ _ rfl _ _ rfl rfl (HSL.out W))); (case' rt3 => simp only [Act.put, List.setIfInBounds_toArray, List.set_cons_zero, List.set_cons_succ]))
  refine held_one (i := 0) (oi := ?ot4) (by kernel_rfl) ?at4 ?ct4 (fun K0 hK0 => ?_)
  (case at4 => (simp only [List.getElem?_toArray, List.getElem?_cons_zero]; rfl))
  (case ct4 => kernel_rfl)
  refine ow_load 25 _ rfl _ _ rfl _ (run_load_arr (show Arr V.drew w.heap.size 25 4 (wds f) from HX.out.1) Try.underlying25 rfl infoQ) ?_
  refine hK0 _ _ hS (fun hS0 => ?_)
  clear hS hK0 K0
  refine held_one (i := 4) (oi := ?ot5) (by kernel_rfl) ?at5 ?ct5 (fun K4 hK4 => ?_)
  (case at5 => (simp only [List.getElem?_toArray, List.getElem?_cons_zero, List.getElem?_cons_succ]; rfl))
  (case ct5 => kernel_rfl)
  have hSb := hS0
  go_simp
  refine (HF.out _ hSb).mono ?_
  rintro e y4 ⟨rfl, hd⟩
  refine hK4 _ _ (hSb.keep hd) (fun hS4 => ?_)
  clear hS0 hSb hd hK4 K4
  refine held_one (i := 5) (oi := ?ot6) (by kernel_rfl) ?at6 ?ct6 (fun K5 hK5 => ?_)
  (case at6 => (simp only [List.getElem?_toArray, List.getElem?_cons_zero, List.getElem?_cons_succ]; rfl))
  (case ct6 => kernel_rfl)
  obtain ⟨f0, hf0⟩ := hS4.res
  refine ow_store 25 _ _ rfl _ rfl _ rfl (run_store_arr hf0 (wds (aft f (l.take n))) infoQ (wds_one _ _)) ?_
  refine hK5 _ _ (hS4.put _) (fun hS5 => ?_)
  clear hK5 K5
  refine wpAnyH_done (by kernel_rfl) ?_ _
  obtain ⟨V2, hV2⟩ : ∃ V2, V2 = y4.setRow w.heap.size (vec 4 (wds (aft f (l.take n)))) := ⟨_, rfl⟩
  have hS2 : SQ V w.heap.size V2 := by rw [hV2]; exact hS5
  have hF2 : Arr V2 w.heap.size 25 4 (wds (aft f (l.take n))) := by rw [hV2]; exact hf0.row _
  have hR2 : Arr V2 (w.heap.size + 1) 25 4 (wds zw) := hS2.arr HX.out.2.1 (by omega)
  have hB2 : Below w.heap.size w V2 := hS2.below HX.out.2.2 (Nat.le_refl _)
  rw [← hV2]
  clear hS5 hS2 hV2 hf0 HF HX HSL
  obtain ⟨g, hg⟩ : ∃ g, aft f (l.take n) = g := ⟨_, rfl⟩
  rw [hg] at hF2 ⊢
  have HY := Lib.hid (And.intro hF2 (And.intro hR2 hB2))
  clear hF2 hR2 hB2
  by_cases hlt : n < L
  · have hlt2 : n < l.length := by have := HA.out.2.1; omega
    have HE := Lib.hid (torn_lt f l n m hlt2)
    obtain ⟨a, p, rfl, hp, hc0, hc1⟩ := put_at HA.out.1 hlt2
    obtain ⟨⟨t, y⟩, hx⟩ : ∃ x, l[n] = x := ⟨_, rfl⟩
    rw [hx] at hc0 hc1 HE
    rw [hg] at HE
    simp only at hc0 hc1
    have hpb := World.block_lt_of_cell? w p hc0
    have HP : Hid (∀ W, SQ V2 w.heap.size W → W.cell? p = some (.int .i64 t) ∧ W.cell? ⟨p.block, p.off + 1, none⟩ = some (.int .u32 (num y))) := Lib.hid fun W hW => by
      have hb := hW.below HY.out.2.2 (Nat.le_refl _)
      exact ⟨(hb.cell hpb).trans hc0, (hb.cell (p := ⟨p.block, p.off + 1, none⟩) hpb).trans hc1⟩
    have h0 : (n : Int) < (L : Int) := by omega
    clear hc0 hc1 hx hg hpb hlt2
    go_upto_region 4 with fail
    refine wp_region_held_drew (S := fun Y => SQ V2 w.heap.size Y) (by kernel_rfl) (SQ.begin HY.out.1) (fun hS => ?_)
    (refine held_take (i := 1) (oi := ?ot7) (v := ?vt7) ?at7 (by kernel_rfl) (by kernel_rfl) (by kernel_rfl) ?bt7 ?ct7 ?dt7 (by assumption) ?rt7; (case at7 => (simp only [List.getElem?_toArray, List.getElem?_cons_zero, List.getElem?_cons_succ]; rfl)); (case bt7 => exact fun _ _ _ h => h); (case ct7 => kernel_rfl); (case dt7 => (intro W hW; (try dsimp only at hW); go_split_ands; go_simp; (try with_reducible rfl))); (case' rt7 => simp only [Act.put, List.setIfInBounds_toArray, List.set_cons_zero, List.set_cons_succ]))
    (refine held_take (i := 2) (oi := ?ot8) (v := ?vt8) ?at8 (by kernel_rfl) (by kernel_rfl) (by kernel_rfl) ?bt8 ?ct8 ?dt8 (by assumption) ?rt8; (case at8 => (simp only [List.getElem?_toArray, List.getElem?_cons_zero, List.getElem?_cons_succ]; rfl)); (case bt8 => exact fun _ _ _ h => h); (case ct8 => kernel_rfl); (case dt8 => (intro W hW; (try dsimp only at hW); go_split_ands; go_simp; (try with_reducible rfl))); (case' rt8 => simp only [Act.put, List.setIfInBounds_toArray, List.set_cons_zero, List.set_cons_succ]))
    (refine held_take (i := 3) (oi := ?ot9) (v := .pointer (some p)) ?at9 (by kernel_rfl) (by kernel_rfl) (by kernel_rfl) ?bt9 ?ct9 ?dt9 (by assumption) ?rt9; (case at9 => (simp only [List.getElem?_toArray, List.getElem?_cons_zero, List.getElem?_cons_succ]; rfl)); (case bt9 => exact fun _ _ _ h => h); (case ct9 => kernel_rfl); (case dt9 => (intro W hW; clear hW; go_simp; (try with_reducible rfl); (try (intro h; omega)))); (case' rt9 => simp only [Act.put, List.setIfInBounds_toArray, List.set_cons_zero, List.set_cons_succ]))
    (refine held_take (i := 4) (oi := ?ot10) (v := .agg #[.int .i64 t, .int .u32 (num y)]) ?at10 (by kernel_rfl) (by kernel_rfl) (by kernel_rfl) ?bt10 ?ct10 ?dt10 (by assumption) ?rt10; (case at10 => (simp only [List.getElem?_toArray, List.getElem?_cons_zero, List.getElem?_cons_succ]; rfl)); (case bt10 => exact fun _ _ _ h => h); (case ct10 => kernel_rfl); (case dt10 => (intro W hW; obtain ⟨c0, c1⟩ := HP.out W hW; clear hW; go_simp; (try with_reducible rfl))); (case' rt10 => simp only [Act.put, List.setIfInBounds_toArray, List.set_cons_zero, List.set_cons_succ]))
    (refine held_take (i := 5) (oi := ?ot11) (v := ?vt11) ?at11 (by kernel_rfl) (by kernel_rfl) (by kernel_rfl) ?bt11 ?ct11 ?dt11 (by assumption) ?rt11; (case at11 => (simp only [List.getElem?_toArray, List.getElem?_cons_zero, List.getElem?_cons_succ]; rfl)); (case bt11 => exact fun _ _ _ h => h); (case ct11 => kernel_rfl); (case dt11 => (intro W hW; (try dsimp only at hW); go_split_ands; go_simp; (try with_reducible rfl))); (case' rt11 => simp only [Act.put, List.setIfInBounds_toArray, List.set_cons_zero, List.set_cons_succ]))
    refine held_one (i := 0) (oi := ?ot12) (by kernel_rfl) ?at12 ?ct12 (fun K0 hK0 => ?_)
    (case at12 => (simp only [List.getElem?_toArray, List.getElem?_cons_zero]; rfl))
    (case ct12 => kernel_rfl)
    refine ow_load 25 _ rfl _ _ rfl _ (run_load_arr (show Arr V2.drew w.heap.size 25 4 (wds g) from HY.out.1) Try.underlying25 rfl infoQ) ?_
    refine hK0 _ _ hS (fun hS0 => ?_)
    clear hS hK0 K0
    refine held_one (i := 6) (oi := ?ot13) (by kernel_rfl) ?at13 ?ct13 (fun K6 hK6 => ?_)
    (case at13 => (simp only [List.getElem?_toArray, List.getElem?_cons_zero, List.getElem?_cons_succ]; rfl))
    (case ct13 => kernel_rfl)
    have hSb := hS0
    go_simp
    refine (put_any g t y m _).mono ?_
    rintro e y6 ⟨rfl, hd⟩
    refine hK6 _ _ (hSb.keep hd) (fun hS6 => ?_)
    clear hS0 hSb hd hK6 K6
    refine held_one (i := 7) (oi := ?ot14) (by kernel_rfl) ?at14 ?ct14 (fun K7 hK7 => ?_)
    (case at14 => (simp only [List.getElem?_toArray, List.getElem?_cons_zero, List.getElem?_cons_succ]; rfl))
    (case ct14 => kernel_rfl)
    obtain ⟨f1, hf1⟩ := hS6.res
    refine ow_store 25 _ _ rfl _ rfl _ rfl (run_store_arr hf1 (wds (put1 g ⟨t, y⟩ m)) infoQ (wds_one _ _)) ?_
    refine hK7 _ _ (hS6.put _) (fun hS7 => ?_)
    clear hK7 K7
    refine wpAnyH_done (by kernel_rfl) ?_ _
    obtain ⟨V3, hV3⟩ : ∃ V3, V3 = y6.setRow w.heap.size (vec 4 (wds (put1 g ⟨t, y⟩ m))) := ⟨_, rfl⟩
    have hS3 : SQ V2 w.heap.size V3 := by rw [hV3]; exact hS7
    have hF3 : Arr V3 w.heap.size 25 4 (wds (put1 g ⟨t, y⟩ m)) := by rw [hV3]; exact hf1.row _
    have HZ := Lib.hid (And.intro hF3 (And.intro (hS3.arr HY.out.2.1 (by omega)) (hS3.below HY.out.2.2 (Nat.le_refl _))))
    rw [← hV3]
    clear hS7 hS3 hV3 hf1 HY HP hF3
    go_wp2_with (first
      | ((with_reducible show wpList _ _ _ (Oper.mk _ (.load 25 _) _ _ _ _ :: _) _ _); refine wl_load rfl 25 _ rfl _ rfl _ (run_load_arr HZ.out.1 Try.underlying25 rfl infoQ) ?_)
      | ((with_reducible show wpList _ _ _ (Oper.mk _ (.store 25 _ _) _ _ _ _ :: _) _ _); refine wl_store rfl 25 _ _ rfl _ rfl _ rfl (run_store_arr HZ.out.2.1 (wds (put1 g ⟨t, y⟩ m)) infoQ (wds_one _ _)) ?_))
    exact bodyPost_ret (results_cell1 rfl _ _ _ rfl (run_load_arr (HZ.out.2.1.row _) Try.underlying25 rfl infoQ)) rfl ⟨by rw [HE.out], below_row HZ.out.2.2 (by omega) _⟩
  · have HE := Lib.hid (torn_ge f l n m (by have := HA.out.2.1; omega))
    have h0 : ¬ (n : Int) < (L : Int) := by omega
    rw [hg] at HE
    clear hg
    go_wp2_with (first
      | ((with_reducible show wpList _ _ _ (Oper.mk _ (.load 25 _) _ _ _ _ :: _) _ _); refine wl_load rfl 25 _ rfl _ rfl _ (run_load_arr HY.out.1 Try.underlying25 rfl infoQ) ?_)
      | ((with_reducible show wpList _ _ _ (Oper.mk _ (.store 25 _ _) _ _ _ _ :: _) _ _); refine wl_store rfl 25 _ _ rfl _ rfl _ rfl (run_store_arr HY.out.2.1 (wds g) infoQ (wds_one _ _)) ?_))
    exact bodyPost_ret (results_cell1 rfl _ _ _ rfl (run_load_arr (HY.out.2.1.row _) Try.underlying25 rfl infoQ)) rfl ⟨by rw [HE.out], below_row HY.out.2.2 (by omega) _⟩
end Go.Proofs.Ytdkjigdihfidgaa
