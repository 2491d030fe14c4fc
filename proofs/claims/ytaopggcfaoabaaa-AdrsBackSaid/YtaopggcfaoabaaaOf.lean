/- adrs.words, adrs.Of. -/
import Derived.Test.YtaopggcfaoabaaaBack
import Derived.Laws.BitsAllLaws
namespace Go.Proofs.Ytaopggcfaoabaaa
open Go.RowKit

theorem node_lies {w : World} {g : Nat} {t : TypeId} {f : Nat → UInt8} (h : Arr w g t 32 (bys f)) : Lies w w.heap.size 1 (some ⟨g, 0, none⟩) (nodeL f).length (u8s (nodeL f)) := by
  have := h.lies h.lt 0 32 (by decide)
  rw [nodeL_length]
  have e : (List.range 32).map (fun i => bys f (0 + i)) = u8s (nodeL f) := by simp [nodeL, u8s, bys, Function.comp_def]
  rw [e] at this
  exact this
theorem be32_node (f : Nat → UInt8) (g : Nat) (t : TypeId) (j : Nat) (hj : j < 8) (w : World) (h : Arr w g t 32 (bys f)) :
    Calls Try.prog 23 #[.slice (some ⟨g, 0, none⟩) 32 32, .int .i64 (4 * (j : Int))] w fun e w' => e = .returned (.tuple #[.int .u32 (wdN f j : Nat), .bool true]) ∧ ∃ n, w' = w.drewN n := by
  have hr := read32_in (nodeL f) (some ⟨g, 0, none⟩) 32 w.heap.size (4 * j) 0 (Or.inl rfl) w (by rw [nodeL_length]; omega) (by rw [nodeL_length]; decide) (node_lies h)
  rw [accN_node f j hj, nodeL_length, show ((4 * j : Nat) : Int) = 4 * (j : Int) by omega] at hr
  have HR := Lib.hid hr
  clear hr h
  go_enter Try.func23, Try.ntmps23
  go_wp2_with (go_at_call 26; refine HR.out.mono ?_; rintro e w' ⟨rfl, n, rfl⟩)
  go_ret2
  exact ⟨rfl, n, rfl⟩

def w32f (g : Nat → Nat) : Nat → Value := fun i => .int .u32 (g i : Int)
theorem w32f_one (g : Nat → Nat) (n : Nat) : ∀ i, i < n → (w32f g i).oneCell' = true := fun _ _ => rfl
theorem info8w : (Try.prog.info? 45).map (·.size) = some 8 := by kernel_rfl
def z8 : Nat → Nat := fun _ => 0
theorem zeroV8w (w : World) : (zeroValue 45).run Try.prog w = .ok (.agg (vec 8 (w32f z8))) w :=
  (zero_of_info (P := Try.prog) (t := 45) (v := .agg (vec 8 (w32f z8))) (n := 8) (by kernel_rfl)).1 w
attribute [local go_sem ↓ high] zeroV26 zeroV8w
def upto (f : Nat → UInt8) (k : Nat) : Nat → Nat := fun i => if i < k then wdN f i else 0
theorem upto_step (f : Nat → UInt8) (k : Nat) : upd (w32f (upto f k)) k (.int .u32 ((wdN f k : Nat) : Int)) = w32f (upto f (k + 1)) := by
  funext i
  unfold upd w32f upto
  by_cases h : i = k
  · subst h; simp
  · by_cases h2 : i < k
    · simp [h, h2, show i < k + 1 by omega]
    · simp [h, h2, show ¬ i < k + 1 by omega]

set_option maxHeartbeats 1000000 in
set_option maxRecDepth 100000 in
theorem words_any (f : Nat → UInt8) (w : World) :
    Calls Try.prog 18 #[.agg (vec 32 (bys f))] w fun e w' => e = .returned (.agg (vec 8 (w32f (wdN f)))) ∧ Below w.heap.size w w' := by
  obtain ⟨W0, hW0⟩ : ∃ W0, W0 = (w.alloc (.cells (vec 32 (bys f)) 28)).alloc (.cells (vec 8 (w32f z8)) 45) := ⟨_, rfl⟩
  have hA : Arr W0 w.heap.size 28 32 (bys f) := by rw [hW0]; exact (Arr.new w _ _ _).alloc _
  have hR : Arr W0 (w.heap.size + 1) 45 8 (w32f z8) := by rw [hW0]; exact Arr.newAt _ _ _ _ (by simp)
  have hB : Below w.heap.size w W0 := by rw [hW0]; exact ((Below.refl _ _).alloc (Nat.le_refl _) _).alloc (by simp) _
  have hsz : W0.heap.size = w.heap.size + 2 := by rw [hW0]; simp
  have HA := Lib.hid (And.intro hA (And.intro hR (And.intro hB hsz)))
  have HW := Lib.hid hW0
  clear hA hR hB hsz hW0
  go_enter Try.func18, Try.ntmps18
  go_upto_region 1 with fail
  rw [← HW.out]
  clear HW
  go_upto_region 2 with (first
    | ((with_reducible show wpList _ _ _ (Oper.mk _ (.build _ _) _ _ _ _ :: _) _ _); refine wl_build rfl 45 _ rfl (vec 8 (w32f z8)) (by kernel_rfl) ?_)
    | ((with_reducible show wpList _ _ _ (Oper.mk _ (.store _ _ _) _ _ _ _ :: _) _ _); refine wl_store rfl 45 _ _ rfl _ rfl _ rfl (run_store_arr (Arr.new _ _ _ _) (w32f z8) info8w (w32f_one _ _)) ?_))
  obtain ⟨V, hV⟩ : ∃ V, V = (W0.alloc (.cells (vec 8 (w32f z8)) 45)).setRow W0.heap.size (vec 8 (w32f z8)) := ⟨_, rfl⟩
  have hV1 : Arr V W0.heap.size 45 8 (w32f (upto f 0)) := by
    rw [hV]; exact ((Arr.new W0 _ _ _).row _).congr fun i _ => by simp [w32f, upto, z8]
  have hV2 : Below W0.heap.size W0 V := by rw [hV]; exact below_row (below_alloc1 _ _) (Nat.le_refl _) _
  obtain ⟨g, hg⟩ : ∃ g, g = W0.heap.size := ⟨_, rfl⟩
  rw [← hV, ← hg]
  rw [← hg] at hV1 hV2
  have hV3 : Arr V w.heap.size 28 32 (bys f) := by rw [hg] at hV2; exact HA.out.1.under hV2
  have hV4 : Arr V (w.heap.size + 1) 45 8 (w32f z8) := by rw [hg] at hV2; exact HA.out.2.1.under hV2
  have hV5 : Below w.heap.size w V := HA.out.2.2.1.trans (hV2.mono (by have := HA.out.2.2.2; omega))
  have hgw : g = w.heap.size + 2 := by rw [hg]; exact HA.out.2.2.2
  have HV := Lib.hid (And.intro hV3 (And.intro hV4 (And.intro hV5 hgw)))
  have HV1 := Lib.hid hV1
  clear hV hV1 hV2 hg hV3 hV4 hV5 hgw HA
  go_wp2_with fail
  go_loopw [4, 6] (fun v j W => ∃ k : Nat, k ≤ 8 ∧ j = .int .i64 k ∧ Hid (Arr W g 45 8 (w32f (upto f k))) ∧ Hid (Save g V W)) (fun _ i _ => 8 - (intOf i).toNat)
  case atStart => exact ⟨0, Nat.zero_le _, rfl, HV1, Lib.hid (Save.refl _ _)⟩
  case round =>
    obtain ⟨k, hk, rfl, hA, hsv⟩ := hrel
    by_cases hlt : k < 8
    · have hN : Arr wr w.heap.size 28 32 (bys f) := HV.out.1.save hsv.out (by have := HV.out.2.2.2; omega)
      have HB := Lib.hid (be32_node f w.heap.size 28 k hlt wr hN)
      have hct := hA.out.cell (i := k) hlt
      have hft := hA.out.frozen k
      have HC := Lib.hid (And.intro hct hft)
      clear hN hct hft
      go_wp2_with (first
        | (go_at_call 23
           refine HB.out.mono ?_
           rintro e w' ⟨rfl, n, rfl⟩
           have hct := HC.out.1
           have hft := HC.out.2))
      go_roundw
      case rel =>
        have h1 := (hA.out.drewN n).set k (.int .u32 ((wdN f k : Nat) : Int))
        rw [upto_step] at h1
        exact ⟨k + 1, by omega, by go_num, Lib.hid h1, Lib.hid ((hsv.out.drewN n).setCell k _)⟩
      case measure => simp [intOf]; omega
    · obtain rfl : k = 8 := by omega
      have h1 : Arr wr g 45 8 (w32f (wdN f)) := hA.out.congr fun i hi => by simp [w32f, upto, hi]
      have h2 : Arr wr (w.heap.size + 1) 45 8 (w32f z8) := HV.out.2.1.save hsv.out (by have := HV.out.2.2.2; omega)
      have h3 : Below w.heap.size w wr := HV.out.2.2.1.trans (hsv.out.below (by have := HV.out.2.2.2; omega) HV.out.2.2.1.size)
      have HE := Lib.hid (And.intro h1 (And.intro h2 h3))
      clear h1 h2 h3
      go_wp2_with (first
        | ((with_reducible show wpList _ _ _ (Oper.mk _ (.load _ _) _ _ _ _ :: _) _ _); refine wl_load rfl 45 _ rfl _ rfl _ (run_load_arr HE.out.1 Try.underlying45 rfl info8w) ?_)
        | ((with_reducible show wpList _ _ _ (Oper.mk _ (.store _ _ _) _ _ _ _ :: _) _ _); refine wl_store rfl 45 _ _ rfl _ rfl _ rfl (run_store_arr HE.out.2.1 _ info8w (w32f_one _ _)) ?_))
      refine bodyPost_ret (results_cell1 rfl _ _ _ rfl (run_load_arr (HE.out.2.1.row _) Try.underlying45 rfl info8w)) rfl ⟨rfl, ?_⟩
      exact below_row HE.out.2.2 (by omega) _

theorem join64 (x y : Nat) (hx : x < 4294967296) (hy : y < 4294967296) : bits .or .u64 (((x * 4294967296 : Nat)) : Int) (y : Int) = ((x * 4294967296 + y : Nat) : Int) := by
  rw [u64_or_nat _ _ (by omega) (by omega), nat_join 32 _ _ (by omega) (by omega)]
set_option maxHeartbeats 1000000 in
set_option maxRecDepth 100000 in
theorem of_y (f : Nat → UInt8) (y : Nat) (HY : Hid (y = wdN f 1 * 4294967296 + wdN f 2)) (w : World) :
    Calls Try.prog 10 #[.agg (vec 32 (bys f))] w fun e w' => e = .returned (adV (wdN f 0) y (wdN f 3) (wdN f 4) (wdN f 5) (wdN f 6) (wdN f 7)) ∧ Below w.heap.size w w' := by
  obtain ⟨W0, hW0⟩ : ∃ W0, W0 = (w.alloc (.cells (vec 32 (bys f)) 28)).alloc (.cells (adA 0 0 0 0 0 0 0) 25) := ⟨_, rfl⟩
  have hA : Arr W0 w.heap.size 28 32 (bys f) := by rw [hW0]; exact (Arr.new w _ _ _).alloc _
  have hR : Blk W0 (w.heap.size + 1) 25 (adA 0 0 0 0 0 0 0) := by rw [hW0]; exact Blk.new _ _ _ (by simp)
  have hB : Below w.heap.size w W0 := by rw [hW0]; exact ((Below.refl _ _).alloc (Nat.le_refl _) _).alloc (by simp) _
  have hsz : W0.heap.size = w.heap.size + 2 := by rw [hW0]; simp
  have HA := Lib.hid (And.intro hA (And.intro hR (And.intro hB hsz)))
  have HW := Lib.hid hW0
  clear hA hR hB hsz hW0
  go_enter Try.func10, Try.ntmps10
  go_upto_region 1 with fail
  rw [← HW.out]
  clear HW
  go_upto_region 2 with (first
    | ((with_reducible show wpList _ _ _ (Oper.mk _ (.load _ _) _ _ _ _ :: _) _ _); refine wl_load rfl 28 _ rfl _ rfl _ (run_load_arr HA.out.1 Try.underlying28 rfl info26) ?_)
    | (go_at_call 18; refine (words_any f _).mono ?_; rintro e w1 ⟨rfl, hd⟩; have H1 := Lib.hid (And.intro (HA.out.2.1.under hd) (And.intro (HA.out.2.2.1.trans (hd.mono HA.out.2.2.1.size)) hd.size)); clear hd)
    | ((with_reducible show wpList _ _ _ (Oper.mk _ (.store _ _ _) _ _ _ _ :: _) _ _); refine wl_store rfl 45 _ _ rfl _ rfl _ rfl (run_store_arr (Arr.new _ _ _ _) (w32f (wdN f)) info8w (w32f_one _ _)) ?_))
  obtain ⟨V, hV⟩ : ∃ V, V = (w1.alloc (.cells (vec 8 (w32f z8)) 45)).setRow w1.heap.size (vec 8 (w32f (wdN f))) := ⟨_, rfl⟩
  have hV1 : Arr V w1.heap.size 45 8 (w32f (wdN f)) := by rw [hV]; exact (Arr.new w1 _ _ _).row _
  have hV2 : Below w1.heap.size w1 V := by rw [hV]; exact below_row (below_alloc1 _ _) (Nat.le_refl _) _
  rw [← hV]
  have HV := Lib.hid (And.intro (H1.out.1.under hV2) (H1.out.2.1.trans (hV2.mono H1.out.2.1.size)))
  have c0 : V.cell? ⟨w1.heap.size, 0, none⟩ = some (.int .u32 (wdN f 0 : Int)) := hV1.cell (i := 0) (by decide)
  have c1 : V.cell? ⟨w1.heap.size, 1, none⟩ = some (.int .u32 (wdN f 1 : Int)) := hV1.cell (i := 1) (by decide)
  have c2 : V.cell? ⟨w1.heap.size, 2, none⟩ = some (.int .u32 (wdN f 2 : Int)) := hV1.cell (i := 2) (by decide)
  have c3 : V.cell? ⟨w1.heap.size, 3, none⟩ = some (.int .u32 (wdN f 3 : Int)) := hV1.cell (i := 3) (by decide)
  have c4 : V.cell? ⟨w1.heap.size, 4, none⟩ = some (.int .u32 (wdN f 4 : Int)) := hV1.cell (i := 4) (by decide)
  have c5 : V.cell? ⟨w1.heap.size, 5, none⟩ = some (.int .u32 (wdN f 5 : Int)) := hV1.cell (i := 5) (by decide)
  have c6 : V.cell? ⟨w1.heap.size, 6, none⟩ = some (.int .u32 (wdN f 6 : Int)) := hV1.cell (i := 6) (by decide)
  have c7 : V.cell? ⟨w1.heap.size, 7, none⟩ = some (.int .u32 (wdN f 7 : Int)) := hV1.cell (i := 7) (by decide)
  obtain ⟨x1, hx1⟩ : ∃ x, x = wdN f 1 := ⟨_, rfl⟩
  obtain ⟨x2, hx2⟩ : ∃ x, x = wdN f 2 := ⟨_, rfl⟩
  have b1 : x1 < 4294967296 := by rw [hx1]; exact wdN_lt f 1
  have b2 : x2 < 4294967296 := by rw [hx2]; exact wdN_lt f 2
  rw [← hx1] at c1
  rw [← hx2] at c2
  have hy : y = x1 * 4294967296 + x2 := by rw [HY.out, hx1, hx2]
  have hj : bits .or .u64 ((x1 : Int) * 4294967296) (x2 : Int) = (y : Int) := by
    have := join64 x1 x2 b1 b2
    rw [← hy] at this
    rw [← this]; simp
  clear hV hV1 hV2 HA hy hx1 hx2
  go_wp2_with (first
    | ((with_reducible show wpList _ _ _ (Oper.mk _ (.store _ _ _) _ _ _ _ :: _) _ _); refine wl_store rfl 25 _ _ rfl _ rfl _ rfl (Blk.store HV.out.1 (adA (wdN f 0) y (wdN f 3) (wdN f 4) (wdN f 5) (wdN f 6) (wdN f 7)) rfl infoAd rfl) ?_))
  refine bodyPost_ret (results_cell1 rfl _ _ _ rfl (Blk.load (Blk.row HV.out.1 (adA (wdN f 0) y (wdN f 3) (wdN f 4) (wdN f 5) (wdN f 6) (wdN f 7))) Try.underlying25 rfl infoAd)) rfl ⟨rfl, ?_⟩
  exact below_row HV.out.2 (by omega) _
theorem of_any (f : Nat → UInt8) (w : World) :
    Calls Try.prog 10 #[.agg (vec 32 (bys f))] w fun e w' => e = .returned (adV (wdN f 0) ((wdN f 1 * 4294967296 + wdN f 2 : Nat) : Int) (wdN f 3) (wdN f 4) (wdN f 5) (wdN f 6) (wdN f 7)) ∧ Below w.heap.size w w' :=
  of_y f _ (Lib.hid rfl) w
end Go.Proofs.Ytaopggcfaoabaaa
