/- What a word is, plainly, and the reference's Of. -/
import Derived.Deep.CutRange
import Derived.Test.YtblmikmmmomflaaDp
namespace Go.Proofs.Ytblmikmmmomflaa
open Go.RowKit

structure Ds where
  kind : Int
  pa : Nat
  perm : Int
  mem : Int
  af : Bool
def descE (x : Ds) : Nat → Value
  | 0 => .int .i64 x.kind
  | 1 => .int .u64 (x.pa : Int)
  | 2 => .int .i64 x.perm
  | 3 => .int .i64 x.mem
  | _ => .bool x.af
def zDs : Ds := ⟨0, 0, 0, 0, false⟩
theorem descE_one (x : Ds) (n : Nat := 5) : ∀ i, i < n → (descE x i).oneCell' = true := by
  intro i _
  match i with
  | 0 => rfl
  | 1 => rfl
  | 2 => rfl
  | 3 => rfl
  | _ + 4 => rfl
theorem infoDs : (Try.prog.info? 25).map (·.size) = some 5 := by kernel_rfl
theorem zeroDs (w : World) : (zeroValue 25).run Try.prog w = .ok (.agg (vec 5 (descE zDs))) w :=
  (zero_of_info (P := Try.prog) (t := 25) (v := .agg (vec 5 (descE zDs))) (n := 5) (by kernel_rfl)).1 w
attribute [local go_sem ↓ high] zeroDs
/-- A block's or page's own bits. -/
def lowP (level : Int) : Nat := if level = 1 then 30 else if level = 2 then 21 else 12
def blockP (level : Int) (w : Nat) : Ds := ⟨if level = 3 then 3 else 2, bitsN w 47 (lowP level) * 2 ^ lowP level, ((bitsN w 7 6 + 4 * (1 - bitsN w 54 54) : Nat) : Int), if bitsN w 5 4 = 0 then 1 else 0, bitsN w 10 10 == 1⟩
/-- What a word is. -/
def ofP (level : Int) (w : Nat) : Ds :=
  if w % 2 = 0 ∨ level < 1 ∨ 3 < level ∨ (level = 3 ∧ w / 2 % 2 = 0) then zDs
  else if w / 2 % 2 = 1 ∧ level < 3 then ⟨1, bitsN w 47 12 * 4096, 0, 0, false⟩
  else blockP level w
theorem u64_and_two (n : Nat) (hn : n < 2 ^ 64) : bits .and .u64 (n : Int) 2 = ((2 * (n / 2 % 2) : Nat) : Int) := by
  rw [show (2 : Int) = ((2 : Nat) : Int) from rfl, u64_and_nat n 2 (by omega) (by omega)]
  congr 1
  have h1 : n &&& 2 = (n % 4) &&& 2 := by
    have h2 := Nat.and_mod_two_pow (a := n) (b := 2) (n := 2)
    rw [show (2 : Nat) ^ 2 = 4 from rfl, show (2 : Nat) % 4 = 2 from rfl] at h2
    rw [← h2]
    exact (Nat.mod_eq_of_lt (Nat.lt_of_le_of_lt Nat.and_le_right (by decide))).symm
  rw [h1]
  rcases (by omega : n % 4 = 0 ∨ n % 4 = 1 ∨ n % 4 = 2 ∨ n % 4 = 3) with h | h | h | h <;> rw [h] <;> simp <;> omega
set_option maxRecDepth 100000 in
theorem rofZ (L : Int) (w : Nat) (hw : w < 2 ^ 64) (hz : w % 2 = 0 ∨ L < 1 ∨ 3 < L ∨ (L = 3 ∧ w / 2 % 2 = 0)) (W : World) :
    Calls Try.prog 9 #[.int .i64 L, .int .u64 (w : Int)] W fun e w' => e = .returned (.agg (vec 5 (descE zDs))) ∧ Below W.heap.size W w' := by
  have hand := u64_and_one w hw
  have hand2 := u64_and_two w hw
  by_cases h0 : w % 2 = 0
  · rw [h0] at hand
    clear hz h0 hand2
    go_enter Try.func9, Try.ntmps9
    go_wp2_with (first
      | ((with_reducible show wpList _ _ _ (Oper.mk _ (.build _ _) _ _ _ _ :: _) _ _); refine wl_build rfl 25 _ rfl (vec 5 (descE zDs)) (by kernel_rfl) ?_)
      | ((with_reducible show wpList _ _ _ (Oper.mk _ (.store 25 _ _) _ _ _ _ :: _) _ _); refine wl_store rfl 25 _ _ rfl _ rfl _ rfl (run_store_arr (Arr.new W _ _ _) (descE zDs) infoDs (descE_one _)) ?_))
    refine bodyPost_ret (results_cell1 rfl _ _ _ rfl (run_load_arr ((Arr.new W _ _ _).row _) Try.underlying25 rfl infoDs)) rfl ⟨rfl, below_row ((Below.refl _ _).alloc (Nat.le_refl _) _) (Nat.le_refl _) _⟩
  by_cases h1 : L < 1
  · have d1 : decide (L < 1) = true := decide_eq_true h1
    rw [show w % 2 = 1 by omega] at hand
    clear hz h0 hand2
    go_enter Try.func9, Try.ntmps9
    go_wp2_with (first
      | ((with_reducible show wpList _ _ _ (Oper.mk _ (.build _ _) _ _ _ _ :: _) _ _); refine wl_build rfl 25 _ rfl (vec 5 (descE zDs)) (by kernel_rfl) ?_)
      | ((with_reducible show wpList _ _ _ (Oper.mk _ (.store 25 _ _) _ _ _ _ :: _) _ _); refine wl_store rfl 25 _ _ rfl _ rfl _ rfl (run_store_arr (Arr.new W _ _ _) (descE zDs) infoDs (descE_one _)) ?_))
    refine bodyPost_ret (results_cell1 rfl _ _ _ rfl (run_load_arr ((Arr.new W _ _ _).row _) Try.underlying25 rfl infoDs)) rfl ⟨rfl, below_row ((Below.refl _ _).alloc (Nat.le_refl _) _) (Nat.le_refl _) _⟩
  by_cases h2 : 3 < L
  · have d1 : decide (L < 1) = false := decide_eq_false h1
    have d2 : decide (3 < L) = true := decide_eq_true h2
    rw [show w % 2 = 1 by omega] at hand
    clear hz h0 hand2
    go_enter Try.func9, Try.ntmps9
    go_wp2_with (first
      | ((with_reducible show wpList _ _ _ (Oper.mk _ (.build _ _) _ _ _ _ :: _) _ _); refine wl_build rfl 25 _ rfl (vec 5 (descE zDs)) (by kernel_rfl) ?_)
      | ((with_reducible show wpList _ _ _ (Oper.mk _ (.store 25 _ _) _ _ _ _ :: _) _ _); refine wl_store rfl 25 _ _ rfl _ rfl _ rfl (run_store_arr (Arr.new W _ _ _) (descE zDs) infoDs (descE_one _)) ?_))
    refine bodyPost_ret (results_cell1 rfl _ _ _ rfl (run_load_arr ((Arr.new W _ _ _).row _) Try.underlying25 rfl infoDs)) rfl ⟨rfl, below_row ((Below.refl _ _).alloc (Nat.le_refl _) _) (Nat.le_refl _) _⟩
  obtain rfl : L = 3 := by omega
  rw [show w % 2 = 1 by omega] at hand
  rw [show 2 * (w / 2 % 2) = 0 by omega] at hand2
  clear hz h0 h1 h2
  go_enter Try.func9, Try.ntmps9
  go_wp2_with (first
    | ((with_reducible show wpList _ _ _ (Oper.mk _ (.build _ _) _ _ _ _ :: _) _ _); refine wl_build rfl 25 _ rfl (vec 5 (descE zDs)) (by kernel_rfl) ?_)
    | ((with_reducible show wpList _ _ _ (Oper.mk _ (.store 25 _ _) _ _ _ _ :: _) _ _); refine wl_store rfl 25 _ _ rfl _ rfl _ rfl (run_store_arr (Arr.new W _ _ _) (descE zDs) infoDs (descE_one _)) ?_))
  refine bodyPost_ret (results_cell1 rfl _ _ _ rfl (run_load_arr ((Arr.new W _ _ _).row _) Try.underlying25 rfl infoDs)) rfl ⟨rfl, below_row ((Below.refl _ _).alloc (Nat.le_refl _) _) (Nat.le_refl _) _⟩
set_option maxRecDepth 100000 in
theorem rofT (L : Int) (hL : L = 1 ∨ L = 2) (w : Nat) (hw : w < 2 ^ 64) (h0 : w % 2 = 1) (h1 : w / 2 % 2 = 1) (W : World) :
    Calls Try.prog 9 #[.int .i64 L, .int .u64 (w : Int)] W fun e w' => e = .returned (.agg (vec 5 (descE ⟨1, bitsN w 47 12 * 4096, 0, 0, false⟩))) ∧ Below W.heap.size W w' := by
  have hand := u64_and_one w hw
  have hand2 := u64_and_two w hw
  rw [h0] at hand
  rw [h1] at hand2
  obtain ⟨N, hN⟩ : ∃ N, N = bitsN w 47 12 := ⟨_, rfl⟩
  have hNb : N < 2 ^ 36 := by rw [hN]; exact bitsN_lt w 47 12
  have HF : Hid (∀ W, Calls Try.prog 11 #[.int .u64 (w : Int), .int .i64 47, .int .i64 12] W fun e w' => e = .returned (.int .u64 (N : Int)) ∧ w' = W) := Lib.hid fun W => by
    have h := rfield_any w hw 47 12 W
    rw [show fieldP w 47 12 = N from by rw [hN]; exact fieldP_bits (hi := 47) (lo := 12) (by decide)] at h
    exact h
  obtain ⟨P, hP⟩ : ∃ P, P = N * 4096 := ⟨_, rfl⟩
  have hshl : IntKind.u64.wrap ((N : Int) * 4096) = (P : Int) := by rw [IntKind.wrap_u64, hP]; omega
  rw [← hN, ← hP]
  clear h0 h1 hN hNb hP hw
  rcases hL with rfl | rfl
  all_goals
    go_enter Try.func9, Try.ntmps9
    go_wp2_with (first
      | ((with_reducible show wpList _ _ _ (Oper.mk _ (.build _ _) _ _ _ _ :: _) _ _); refine wl_build rfl 25 _ rfl (vec 5 (descE ⟨1, P, 0, 0, false⟩)) (by kernel_rfl) ?_)
      | ((with_reducible show wpList _ _ _ (Oper.mk _ (.store 25 _ _) _ _ _ _ :: _) _ _); refine wl_store rfl 25 _ _ rfl _ rfl _ rfl (run_store_arr (Arr.new _ _ _ _) (descE ⟨1, P, 0, 0, false⟩) infoDs (descE_one _)) ?_)
      | (go_at_call 11; refine (HF.out _).mono ?_; rintro e w9 ⟨rfl, rfl⟩))
    refine bodyPost_ret (results_cell1 rfl _ _ _ rfl (run_load_arr ((Arr.new W _ _ _).row _) Try.underlying25 rfl infoDs)) rfl ⟨rfl, below_row ((Below.refl _ _).alloc (Nat.le_refl _) _) (Nat.le_refl _) _⟩
set_option maxRecDepth 100000 in
set_option maxHeartbeats 2000000 in
theorem rofB1 (w : Nat) (hw : w < 2 ^ 64) (h0 : w % 2 = 1) (h1 : w / 2 % 2 = 0) (W : World) :
    Calls Try.prog 9 #[.int .i64 1, .int .u64 (w : Int)] W fun e w' => e = .returned (.agg (vec 5 (descE (blockP 1 w)))) ∧ Below W.heap.size W w' := by
  have hand := u64_and_one w hw
  have hand2 := u64_and_two w hw
  rw [h0] at hand
  rw [h1] at hand2
  have hfl : ∀ (hi lo : Nat), lo ≤ hi ∧ hi ≤ 63 → ∀ N, N = bitsN w hi lo → Hid (∀ W, Calls Try.prog 11 #[.int .u64 (w : Int), .int .i64 (hi : Int), .int .i64 (lo : Int)] W fun e w' => e = .returned (.int .u64 (N : Int)) ∧ w' = W) := fun hi lo h N hN => Lib.hid fun W => by
    have h2 := rfield_any w hw hi lo W
    rw [fieldP_bits h, ← hN] at h2
    exact h2
  obtain ⟨Na, hNa⟩ : ∃ N, N = bitsN w 10 10 := ⟨_, rfl⟩
  obtain ⟨Np, hNp⟩ : ∃ N, N = bitsN w 47 30 := ⟨_, rfl⟩
  obtain ⟨Nm, hNm⟩ : ∃ N, N = bitsN w 5 4 := ⟨_, rfl⟩
  obtain ⟨N7, hN7⟩ : ∃ N, N = bitsN w 7 6 := ⟨_, rfl⟩
  obtain ⟨N5, hN5⟩ : ∃ N, N = bitsN w 54 54 := ⟨_, rfl⟩
  have FA := hfl 10 10 (by decide) Na hNa
  have FP := hfl 47 30 (by decide) Np hNp
  have FM := hfl 5 4 (by decide) Nm hNm
  have F7 := hfl 7 6 (by decide) N7 hN7
  have F5 := hfl 54 54 (by decide) N5 hN5
  have bp : Np < 2 ^ 18 := by rw [hNp]; exact bitsN_lt w 47 30
  have b7 : N7 < 4 := by rw [hN7]; exact bitsN_lt w 7 6
  have b5 : N5 < 2 := by rw [hN5]; exact bitsN_lt w 54 54
  obtain ⟨zf, hzf⟩ : ∃ z, z = (Na == 1) := ⟨_, rfl⟩
  obtain ⟨zm, hzm⟩ : ∃ z, z = (Nm == 0) := ⟨_, rfl⟩
  obtain ⟨P, hP⟩ : ∃ P, P = Np * 2 ^ 30 := ⟨_, rfl⟩
  obtain ⟨c, hc⟩ : ∃ c, c = 1 - N5 := ⟨_, rfl⟩
  obtain ⟨Pm, hPm⟩ : ∃ Pm, Pm = N7 + 4 * c := ⟨_, rfl⟩
  have e1 : ((Na : Int) == 1) = zf := by rw [hzf]; exact Bool.eq_iff_iff.2 (by simp only [beq_iff_eq]; omega)
  have e2 : ((Nm : Int) == 0) = zm := by rw [hzm]; exact Bool.eq_iff_iff.2 (by simp only [beq_iff_eq]; omega)
  have e3 : IntKind.u64.wrap ((Np : Int) * 1073741824) = (P : Int) := by rw [IntKind.wrap_u64, hP]; omega
  have e4 : IntKind.i64.wrap (N7 : Int) = (N7 : Int) := by rw [IntKind.wrap_i64]; omega
  have e5 : IntKind.u64.wrap (1 - (N5 : Int)) = (c : Int) := by rw [IntKind.wrap_u64]; omega
  have e6 : IntKind.i64.wrap (c : Int) = (c : Int) := by rw [IntKind.wrap_i64]; omega
  have e7 : IntKind.i64.wrap (4 * (c : Int)) = 4 * (c : Int) := by rw [IntKind.wrap_i64]; omega
  have e8 : IntKind.i64.wrap ((N7 : Int) + 4 * (c : Int)) = (Pm : Int) := by rw [IntKind.wrap_i64]; omega
  obtain ⟨D, hD⟩ : ∃ D, D = blockP 1 w := ⟨_, rfl⟩
  have HRS : Hid (descE ⟨2, P, (Pm : Int), if zm then 1 else 0, zf⟩ = descE D) := Lib.hid (by
    rw [hD]
    unfold blockP
    rw [show lowP 1 = 30 from rfl, ← hNa, ← hNp, ← hNm, ← hN7, ← hN5, ← hc, ← hPm, ← hP, ← hzf]
    congr 2
    · rw [hzm]; by_cases h : Nm = 0 <;> simp [h])
  rw [← hD]
  obtain ⟨r4, hr4⟩ : ∃ r, r = W.heap.size := ⟨_, rfl⟩
  obtain ⟨r5, hr5⟩ : ∃ r, r = W.heap.size + 1 := ⟨_, rfl⟩
  obtain ⟨V1, hV1⟩ : ∃ V, V = ((W.alloc (.cells (vec 5 (descE zDs)) 25)).alloc (.cells (vec 5 (descE zDs)) 25)).setRow (W.heap.size + 1) (vec 5 (descE ⟨2, 0, 0, 0, zf⟩)) := ⟨_, rfl⟩
  have HV0 : Hid (Below W.heap.size W V1 ∧ Arr V1 r4 25 5 (descE zDs) ∧ Arr V1 r5 25 5 (descE ⟨2, 0, 0, 0, zf⟩)) := Lib.hid (by
    rw [hV1, hr4, hr5]
    refine ⟨below_row (((Below.refl _ _).alloc (Nat.le_refl _) _).alloc (by simp) _) (by omega) _, ?_, (Arr.newAt _ _ _ _ (by simp)).row _⟩
    exact ((Arr.new W _ _ _).alloc _).save ((Save.refl (W.heap.size + 1) _).setRow _) (by omega))
  have HVE := Lib.hid hV1
  have HR := Lib.hid (And.intro hr4 hr5)
  have hr45 : r4 ≠ r5 := by omega
  have hWr : W.heap.size ≤ r5 ∧ W.heap.size ≤ r4 := by omega
  clear hNa hNp hNm hN7 hN5 hfl hzf hzm hP hc hPm hD hV1 hw h0 h1 bp b7 b5 hr4 hr5
  go_enter Try.func9, Try.ntmps9
  go_upto_region 6 with (first
    | ((with_reducible show wpList _ _ _ (Oper.mk _ (.build _ _) _ _ _ _ :: _) _ _); refine wl_build rfl 25 _ rfl (vec 5 (descE ⟨2, 0, 0, 0, zf⟩)) (by kernel_rfl) ?_)
    | ((with_reducible show wpList _ _ _ (Oper.mk _ (.store 25 _ _) _ _ _ _ :: _) _ _); refine wl_store rfl 25 _ _ rfl _ rfl _ rfl (run_store_arr (Arr.newAt _ _ _ _ (by simp)) (descE ⟨2, 0, 0, 0, zf⟩) infoDs (descE_one _)) ?_)
    | (go_at_call 11; refine (FA.out _).mono ?_; rintro e w9 ⟨rfl, hw9⟩; rw [hw9]; clear hw9))
  rw [← HVE.out, ← HR.out.2, ← HR.out.1]
  have HV1 : Hid (Below W.heap.size W V1 ∧ Arr V1 r4 25 5 (descE zDs) ∧ Arr V1 r5 25 5 (descE ⟨2, 0, 0, 0, zf⟩)) := HV0
  go_upto_region 13 with fail
  obtain ⟨V2, hV2⟩ : ∃ V, V = V1 := ⟨_, rfl⟩
  have A2 : Hid (Arr V2 r5 25 5 (descE ⟨2, 0, 0, 0, zf⟩) ∧ Save r5 V1 V2) := Lib.hid (by rw [hV2]; exact ⟨HV1.out.2.2, Save.refl _ _⟩)
  rw [← hV2]
  clear hV2
  have m1 := A2.out.1.cell (i := 1) (by decide)
  have f1 : V2.frozen? ⟨r5, 1, none⟩ = false := A2.out.1.frozen 1
  go_upto_region 14 with (go_at_call 11; refine (FP.out _).mono ?_; rintro e w9 ⟨rfl, hw9⟩; rw [hw9]; clear hw9)
  obtain ⟨V3, hV3⟩ : ∃ V, V = V2.setCell ⟨r5, 1, none⟩ (.int .u64 (P : Int)) := ⟨_, rfl⟩
  have A3 : Hid (Arr V3 r5 25 5 (descE ⟨2, P, 0, 0, zf⟩) ∧ Save r5 V1 V3) := Lib.hid (by
    rw [hV3]
    exact ⟨(A2.out.1.set 1 _).congr fun i hi => by rcases (by omega : i = 0 ∨ i = 1 ∨ i = 2 ∨ i = 3 ∨ i = 4) with rfl | rfl | rfl | rfl | rfl <;> rfl, A2.out.2.setCell _ _⟩)
  rw [← hV3]
  clear hV3 m1 f1
  cases zm
  case false =>
    have HRES : Hid (descE ⟨2, P, Pm, 0, zf⟩ = descE D) := HRS
    go_upto_region 16 with (go_at_call 11; refine (FM.out _).mono ?_; rintro e w9 ⟨rfl, hw9⟩; rw [hw9]; clear hw9)
    obtain ⟨V4, hV4⟩ : ∃ V, V = V3 := ⟨_, rfl⟩
    have A4 : Hid (Arr V4 r5 25 5 (descE ⟨2, P, 0, 0, zf⟩) ∧ Save r5 V1 V4) := Lib.hid (by rw [hV4]; exact A3.out)
    have m4 : True := trivial
    rw [← hV4]
    clear hV4
    clear m4
    have m2 := A4.out.1.cell (i := 2) (by decide)
    have f2 : V4.frozen? ⟨r5, 2, none⟩ = false := A4.out.1.frozen 2
    go_upto_region 17 with (first
      | ((with_reducible show Calls _ _ #[_, .int .i64 7, _] _ _); refine (F7.out _).mono ?_; rintro e w9 ⟨rfl, hw9⟩; rw [hw9]; clear hw9)
      | ((with_reducible show Calls _ _ #[_, .int .i64 54, _] _ _); refine (F5.out _).mono ?_; rintro e w9 ⟨rfl, hw9⟩; rw [hw9]; clear hw9))
    obtain ⟨V5, hV5⟩ : ∃ V, V = V4.setCell ⟨r5, 2, none⟩ (.int .i64 (Pm : Int)) := ⟨_, rfl⟩
    have A5 : Hid (Arr V5 r5 25 5 (descE ⟨2, P, Pm, 0, zf⟩) ∧ Save r5 V1 V5) := Lib.hid (by
      rw [hV5]
      exact ⟨(A4.out.1.set 2 _).congr fun i hi => by rcases (by omega : i = 0 ∨ i = 1 ∨ i = 2 ∨ i = 3 ∨ i = 4) with rfl | rfl | rfl | rfl | rfl <;> rfl, A4.out.2.setCell _ _⟩)
    rw [← hV5]
    clear hV5 m2 f2
    have AR : Hid (Arr V5 r4 25 5 (descE zDs)) := Lib.hid (HV1.out.2.1.save A5.out.2 (by omega))
    have HB : Hid (Below W.heap.size W V5) := Lib.hid (HV1.out.1.trans (A5.out.2.below (by omega) HV1.out.1.size))
    go_wp2_with (first
      | ((with_reducible show wpList _ _ _ (Oper.mk _ (.load 25 _) _ _ _ _ :: _) _ _); refine wl_load rfl 25 _ rfl r5 rfl _ (run_load_arr (A5.out.1) Try.underlying25 rfl infoDs) ?_)
      | ((with_reducible show wpList _ _ _ (Oper.mk _ (.store 25 _ _) _ _ _ _ :: _) _ _); refine wl_store rfl 25 _ _ rfl _ rfl _ rfl (run_store_arr (AR.out) (descE _) infoDs (descE_one _)) ?_))
    refine bodyPost_ret (results_cell1 rfl _ _ _ rfl (run_load_arr (AR.out.row _) Try.underlying25 rfl infoDs)) rfl ?_
    exact ⟨by rw [HRES.out], below_row HB.out (by omega) _⟩
  case true =>
    have HRES : Hid (descE ⟨2, P, Pm, 1, zf⟩ = descE D) := HRS
    have m3 := A3.out.1.cell (i := 3) (by decide)
    have f3 : V3.frozen? ⟨r5, 3, none⟩ = false := A3.out.1.frozen 3
    go_upto_region 16 with (go_at_call 11; refine (FM.out _).mono ?_; rintro e w9 ⟨rfl, hw9⟩; rw [hw9]; clear hw9)
    obtain ⟨V4, hV4⟩ : ∃ V, V = V3.setCell ⟨r5, 3, none⟩ (.int .i64 1) := ⟨_, rfl⟩
    have A4 : Hid (Arr V4 r5 25 5 (descE ⟨2, P, 0, 1, zf⟩) ∧ Save r5 V1 V4) := Lib.hid (by
      rw [hV4]
      exact ⟨(A3.out.1.set 3 _).congr fun i hi => by rcases (by omega : i = 0 ∨ i = 1 ∨ i = 2 ∨ i = 3 ∨ i = 4) with rfl | rfl | rfl | rfl | rfl <;> rfl, A3.out.2.setCell _ _⟩)
    have m4 := m3
    rw [← hV4]
    clear hV4 m3 f3
    clear m4
    have m2 := A4.out.1.cell (i := 2) (by decide)
    have f2 : V4.frozen? ⟨r5, 2, none⟩ = false := A4.out.1.frozen 2
    go_upto_region 17 with (first
      | ((with_reducible show Calls _ _ #[_, .int .i64 7, _] _ _); refine (F7.out _).mono ?_; rintro e w9 ⟨rfl, hw9⟩; rw [hw9]; clear hw9)
      | ((with_reducible show Calls _ _ #[_, .int .i64 54, _] _ _); refine (F5.out _).mono ?_; rintro e w9 ⟨rfl, hw9⟩; rw [hw9]; clear hw9))
    obtain ⟨V5, hV5⟩ : ∃ V, V = V4.setCell ⟨r5, 2, none⟩ (.int .i64 (Pm : Int)) := ⟨_, rfl⟩
    have A5 : Hid (Arr V5 r5 25 5 (descE ⟨2, P, Pm, 1, zf⟩) ∧ Save r5 V1 V5) := Lib.hid (by
      rw [hV5]
      exact ⟨(A4.out.1.set 2 _).congr fun i hi => by rcases (by omega : i = 0 ∨ i = 1 ∨ i = 2 ∨ i = 3 ∨ i = 4) with rfl | rfl | rfl | rfl | rfl <;> rfl, A4.out.2.setCell _ _⟩)
    rw [← hV5]
    clear hV5 m2 f2
    have AR : Hid (Arr V5 r4 25 5 (descE zDs)) := Lib.hid (HV1.out.2.1.save A5.out.2 (by omega))
    have HB : Hid (Below W.heap.size W V5) := Lib.hid (HV1.out.1.trans (A5.out.2.below (by omega) HV1.out.1.size))
    go_wp2_with (first
      | ((with_reducible show wpList _ _ _ (Oper.mk _ (.load 25 _) _ _ _ _ :: _) _ _); refine wl_load rfl 25 _ rfl r5 rfl _ (run_load_arr (A5.out.1) Try.underlying25 rfl infoDs) ?_)
      | ((with_reducible show wpList _ _ _ (Oper.mk _ (.store 25 _ _) _ _ _ _ :: _) _ _); refine wl_store rfl 25 _ _ rfl _ rfl _ rfl (run_store_arr (AR.out) (descE _) infoDs (descE_one _)) ?_))
    refine bodyPost_ret (results_cell1 rfl _ _ _ rfl (run_load_arr (AR.out.row _) Try.underlying25 rfl infoDs)) rfl ?_
    exact ⟨by rw [HRES.out], below_row HB.out (by omega) _⟩
set_option maxRecDepth 100000 in
set_option maxHeartbeats 2000000 in
theorem rofB2 (w : Nat) (hw : w < 2 ^ 64) (h0 : w % 2 = 1) (h1 : w / 2 % 2 = 0) (W : World) :
    Calls Try.prog 9 #[.int .i64 2, .int .u64 (w : Int)] W fun e w' => e = .returned (.agg (vec 5 (descE (blockP 2 w)))) ∧ Below W.heap.size W w' := by
  have hand := u64_and_one w hw
  have hand2 := u64_and_two w hw
  rw [h0] at hand
  rw [h1] at hand2
  have hfl : ∀ (hi lo : Nat), lo ≤ hi ∧ hi ≤ 63 → ∀ N, N = bitsN w hi lo → Hid (∀ W, Calls Try.prog 11 #[.int .u64 (w : Int), .int .i64 (hi : Int), .int .i64 (lo : Int)] W fun e w' => e = .returned (.int .u64 (N : Int)) ∧ w' = W) := fun hi lo h N hN => Lib.hid fun W => by
    have h2 := rfield_any w hw hi lo W
    rw [fieldP_bits h, ← hN] at h2
    exact h2
  obtain ⟨Na, hNa⟩ : ∃ N, N = bitsN w 10 10 := ⟨_, rfl⟩
  obtain ⟨Np, hNp⟩ : ∃ N, N = bitsN w 47 21 := ⟨_, rfl⟩
  obtain ⟨Nm, hNm⟩ : ∃ N, N = bitsN w 5 4 := ⟨_, rfl⟩
  obtain ⟨N7, hN7⟩ : ∃ N, N = bitsN w 7 6 := ⟨_, rfl⟩
  obtain ⟨N5, hN5⟩ : ∃ N, N = bitsN w 54 54 := ⟨_, rfl⟩
  have FA := hfl 10 10 (by decide) Na hNa
  have FP := hfl 47 21 (by decide) Np hNp
  have FM := hfl 5 4 (by decide) Nm hNm
  have F7 := hfl 7 6 (by decide) N7 hN7
  have F5 := hfl 54 54 (by decide) N5 hN5
  have bp : Np < 2 ^ 27 := by rw [hNp]; exact bitsN_lt w 47 21
  have b7 : N7 < 4 := by rw [hN7]; exact bitsN_lt w 7 6
  have b5 : N5 < 2 := by rw [hN5]; exact bitsN_lt w 54 54
  obtain ⟨zf, hzf⟩ : ∃ z, z = (Na == 1) := ⟨_, rfl⟩
  obtain ⟨zm, hzm⟩ : ∃ z, z = (Nm == 0) := ⟨_, rfl⟩
  obtain ⟨P, hP⟩ : ∃ P, P = Np * 2 ^ 21 := ⟨_, rfl⟩
  obtain ⟨c, hc⟩ : ∃ c, c = 1 - N5 := ⟨_, rfl⟩
  obtain ⟨Pm, hPm⟩ : ∃ Pm, Pm = N7 + 4 * c := ⟨_, rfl⟩
  have e1 : ((Na : Int) == 1) = zf := by rw [hzf]; exact Bool.eq_iff_iff.2 (by simp only [beq_iff_eq]; omega)
  have e2 : ((Nm : Int) == 0) = zm := by rw [hzm]; exact Bool.eq_iff_iff.2 (by simp only [beq_iff_eq]; omega)
  have e3 : IntKind.u64.wrap ((Np : Int) * 2097152) = (P : Int) := by rw [IntKind.wrap_u64, hP]; omega
  have e4 : IntKind.i64.wrap (N7 : Int) = (N7 : Int) := by rw [IntKind.wrap_i64]; omega
  have e5 : IntKind.u64.wrap (1 - (N5 : Int)) = (c : Int) := by rw [IntKind.wrap_u64]; omega
  have e6 : IntKind.i64.wrap (c : Int) = (c : Int) := by rw [IntKind.wrap_i64]; omega
  have e7 : IntKind.i64.wrap (4 * (c : Int)) = 4 * (c : Int) := by rw [IntKind.wrap_i64]; omega
  have e8 : IntKind.i64.wrap ((N7 : Int) + 4 * (c : Int)) = (Pm : Int) := by rw [IntKind.wrap_i64]; omega
  obtain ⟨D, hD⟩ : ∃ D, D = blockP 2 w := ⟨_, rfl⟩
  have HRS : Hid (descE ⟨2, P, (Pm : Int), if zm then 1 else 0, zf⟩ = descE D) := Lib.hid (by
    rw [hD]
    unfold blockP
    rw [show lowP 2 = 21 from rfl, ← hNa, ← hNp, ← hNm, ← hN7, ← hN5, ← hc, ← hPm, ← hP, ← hzf]
    congr 2
    · rw [hzm]; by_cases h : Nm = 0 <;> simp [h])
  rw [← hD]
  obtain ⟨r4, hr4⟩ : ∃ r, r = W.heap.size := ⟨_, rfl⟩
  obtain ⟨r5, hr5⟩ : ∃ r, r = W.heap.size + 1 := ⟨_, rfl⟩
  obtain ⟨V1, hV1⟩ : ∃ V, V = ((W.alloc (.cells (vec 5 (descE zDs)) 25)).alloc (.cells (vec 5 (descE zDs)) 25)).setRow (W.heap.size + 1) (vec 5 (descE ⟨2, 0, 0, 0, zf⟩)) := ⟨_, rfl⟩
  have HV0 : Hid (Below W.heap.size W V1 ∧ Arr V1 r4 25 5 (descE zDs) ∧ Arr V1 r5 25 5 (descE ⟨2, 0, 0, 0, zf⟩)) := Lib.hid (by
    rw [hV1, hr4, hr5]
    refine ⟨below_row (((Below.refl _ _).alloc (Nat.le_refl _) _).alloc (by simp) _) (by omega) _, ?_, (Arr.newAt _ _ _ _ (by simp)).row _⟩
    exact ((Arr.new W _ _ _).alloc _).save ((Save.refl (W.heap.size + 1) _).setRow _) (by omega))
  have HVE := Lib.hid hV1
  have HR := Lib.hid (And.intro hr4 hr5)
  have hr45 : r4 ≠ r5 := by omega
  have hWr : W.heap.size ≤ r5 ∧ W.heap.size ≤ r4 := by omega
  clear hNa hNp hNm hN7 hN5 hfl hzf hzm hP hc hPm hD hV1 hw h0 h1 bp b7 b5 hr4 hr5
  go_enter Try.func9, Try.ntmps9
  go_upto_region 6 with (first
    | ((with_reducible show wpList _ _ _ (Oper.mk _ (.build _ _) _ _ _ _ :: _) _ _); refine wl_build rfl 25 _ rfl (vec 5 (descE ⟨2, 0, 0, 0, zf⟩)) (by kernel_rfl) ?_)
    | ((with_reducible show wpList _ _ _ (Oper.mk _ (.store 25 _ _) _ _ _ _ :: _) _ _); refine wl_store rfl 25 _ _ rfl _ rfl _ rfl (run_store_arr (Arr.newAt _ _ _ _ (by simp)) (descE ⟨2, 0, 0, 0, zf⟩) infoDs (descE_one _)) ?_)
    | (go_at_call 11; refine (FA.out _).mono ?_; rintro e w9 ⟨rfl, hw9⟩; rw [hw9]; clear hw9))
  rw [← HVE.out, ← HR.out.2, ← HR.out.1]
  have HV1 : Hid (Below W.heap.size W V1 ∧ Arr V1 r4 25 5 (descE zDs) ∧ Arr V1 r5 25 5 (descE ⟨2, 0, 0, 0, zf⟩)) := HV0
  go_upto_region 13 with fail
  obtain ⟨V2, hV2⟩ : ∃ V, V = V1 := ⟨_, rfl⟩
  have A2 : Hid (Arr V2 r5 25 5 (descE ⟨2, 0, 0, 0, zf⟩) ∧ Save r5 V1 V2) := Lib.hid (by rw [hV2]; exact ⟨HV1.out.2.2, Save.refl _ _⟩)
  rw [← hV2]
  clear hV2
  have m1 := A2.out.1.cell (i := 1) (by decide)
  have f1 : V2.frozen? ⟨r5, 1, none⟩ = false := A2.out.1.frozen 1
  go_upto_region 14 with (go_at_call 11; refine (FP.out _).mono ?_; rintro e w9 ⟨rfl, hw9⟩; rw [hw9]; clear hw9)
  obtain ⟨V3, hV3⟩ : ∃ V, V = V2.setCell ⟨r5, 1, none⟩ (.int .u64 (P : Int)) := ⟨_, rfl⟩
  have A3 : Hid (Arr V3 r5 25 5 (descE ⟨2, P, 0, 0, zf⟩) ∧ Save r5 V1 V3) := Lib.hid (by
    rw [hV3]
    exact ⟨(A2.out.1.set 1 _).congr fun i hi => by rcases (by omega : i = 0 ∨ i = 1 ∨ i = 2 ∨ i = 3 ∨ i = 4) with rfl | rfl | rfl | rfl | rfl <;> rfl, A2.out.2.setCell _ _⟩)
  rw [← hV3]
  clear hV3 m1 f1
  cases zm
  case false =>
    have HRES : Hid (descE ⟨2, P, Pm, 0, zf⟩ = descE D) := HRS
    go_upto_region 16 with (go_at_call 11; refine (FM.out _).mono ?_; rintro e w9 ⟨rfl, hw9⟩; rw [hw9]; clear hw9)
    obtain ⟨V4, hV4⟩ : ∃ V, V = V3 := ⟨_, rfl⟩
    have A4 : Hid (Arr V4 r5 25 5 (descE ⟨2, P, 0, 0, zf⟩) ∧ Save r5 V1 V4) := Lib.hid (by rw [hV4]; exact A3.out)
    have m4 : True := trivial
    rw [← hV4]
    clear hV4
    clear m4
    have m2 := A4.out.1.cell (i := 2) (by decide)
    have f2 : V4.frozen? ⟨r5, 2, none⟩ = false := A4.out.1.frozen 2
    go_upto_region 17 with (first
      | ((with_reducible show Calls _ _ #[_, .int .i64 7, _] _ _); refine (F7.out _).mono ?_; rintro e w9 ⟨rfl, hw9⟩; rw [hw9]; clear hw9)
      | ((with_reducible show Calls _ _ #[_, .int .i64 54, _] _ _); refine (F5.out _).mono ?_; rintro e w9 ⟨rfl, hw9⟩; rw [hw9]; clear hw9))
    obtain ⟨V5, hV5⟩ : ∃ V, V = V4.setCell ⟨r5, 2, none⟩ (.int .i64 (Pm : Int)) := ⟨_, rfl⟩
    have A5 : Hid (Arr V5 r5 25 5 (descE ⟨2, P, Pm, 0, zf⟩) ∧ Save r5 V1 V5) := Lib.hid (by
      rw [hV5]
      exact ⟨(A4.out.1.set 2 _).congr fun i hi => by rcases (by omega : i = 0 ∨ i = 1 ∨ i = 2 ∨ i = 3 ∨ i = 4) with rfl | rfl | rfl | rfl | rfl <;> rfl, A4.out.2.setCell _ _⟩)
    rw [← hV5]
    clear hV5 m2 f2
    have AR : Hid (Arr V5 r4 25 5 (descE zDs)) := Lib.hid (HV1.out.2.1.save A5.out.2 (by omega))
    have HB : Hid (Below W.heap.size W V5) := Lib.hid (HV1.out.1.trans (A5.out.2.below (by omega) HV1.out.1.size))
    go_wp2_with (first
      | ((with_reducible show wpList _ _ _ (Oper.mk _ (.load 25 _) _ _ _ _ :: _) _ _); refine wl_load rfl 25 _ rfl r5 rfl _ (run_load_arr (A5.out.1) Try.underlying25 rfl infoDs) ?_)
      | ((with_reducible show wpList _ _ _ (Oper.mk _ (.store 25 _ _) _ _ _ _ :: _) _ _); refine wl_store rfl 25 _ _ rfl _ rfl _ rfl (run_store_arr (AR.out) (descE _) infoDs (descE_one _)) ?_))
    refine bodyPost_ret (results_cell1 rfl _ _ _ rfl (run_load_arr (AR.out.row _) Try.underlying25 rfl infoDs)) rfl ?_
    exact ⟨by rw [HRES.out], below_row HB.out (by omega) _⟩
  case true =>
    have HRES : Hid (descE ⟨2, P, Pm, 1, zf⟩ = descE D) := HRS
    have m3 := A3.out.1.cell (i := 3) (by decide)
    have f3 : V3.frozen? ⟨r5, 3, none⟩ = false := A3.out.1.frozen 3
    go_upto_region 16 with (go_at_call 11; refine (FM.out _).mono ?_; rintro e w9 ⟨rfl, hw9⟩; rw [hw9]; clear hw9)
    obtain ⟨V4, hV4⟩ : ∃ V, V = V3.setCell ⟨r5, 3, none⟩ (.int .i64 1) := ⟨_, rfl⟩
    have A4 : Hid (Arr V4 r5 25 5 (descE ⟨2, P, 0, 1, zf⟩) ∧ Save r5 V1 V4) := Lib.hid (by
      rw [hV4]
      exact ⟨(A3.out.1.set 3 _).congr fun i hi => by rcases (by omega : i = 0 ∨ i = 1 ∨ i = 2 ∨ i = 3 ∨ i = 4) with rfl | rfl | rfl | rfl | rfl <;> rfl, A3.out.2.setCell _ _⟩)
    have m4 := m3
    rw [← hV4]
    clear hV4 m3 f3
    clear m4
    have m2 := A4.out.1.cell (i := 2) (by decide)
    have f2 : V4.frozen? ⟨r5, 2, none⟩ = false := A4.out.1.frozen 2
    go_upto_region 17 with (first
      | ((with_reducible show Calls _ _ #[_, .int .i64 7, _] _ _); refine (F7.out _).mono ?_; rintro e w9 ⟨rfl, hw9⟩; rw [hw9]; clear hw9)
      | ((with_reducible show Calls _ _ #[_, .int .i64 54, _] _ _); refine (F5.out _).mono ?_; rintro e w9 ⟨rfl, hw9⟩; rw [hw9]; clear hw9))
    obtain ⟨V5, hV5⟩ : ∃ V, V = V4.setCell ⟨r5, 2, none⟩ (.int .i64 (Pm : Int)) := ⟨_, rfl⟩
    have A5 : Hid (Arr V5 r5 25 5 (descE ⟨2, P, Pm, 1, zf⟩) ∧ Save r5 V1 V5) := Lib.hid (by
      rw [hV5]
      exact ⟨(A4.out.1.set 2 _).congr fun i hi => by rcases (by omega : i = 0 ∨ i = 1 ∨ i = 2 ∨ i = 3 ∨ i = 4) with rfl | rfl | rfl | rfl | rfl <;> rfl, A4.out.2.setCell _ _⟩)
    rw [← hV5]
    clear hV5 m2 f2
    have AR : Hid (Arr V5 r4 25 5 (descE zDs)) := Lib.hid (HV1.out.2.1.save A5.out.2 (by omega))
    have HB : Hid (Below W.heap.size W V5) := Lib.hid (HV1.out.1.trans (A5.out.2.below (by omega) HV1.out.1.size))
    go_wp2_with (first
      | ((with_reducible show wpList _ _ _ (Oper.mk _ (.load 25 _) _ _ _ _ :: _) _ _); refine wl_load rfl 25 _ rfl r5 rfl _ (run_load_arr (A5.out.1) Try.underlying25 rfl infoDs) ?_)
      | ((with_reducible show wpList _ _ _ (Oper.mk _ (.store 25 _ _) _ _ _ _ :: _) _ _); refine wl_store rfl 25 _ _ rfl _ rfl _ rfl (run_store_arr (AR.out) (descE _) infoDs (descE_one _)) ?_))
    refine bodyPost_ret (results_cell1 rfl _ _ _ rfl (run_load_arr (AR.out.row _) Try.underlying25 rfl infoDs)) rfl ?_
    exact ⟨by rw [HRES.out], below_row HB.out (by omega) _⟩
set_option maxRecDepth 100000 in
set_option maxHeartbeats 2000000 in
theorem rofB3 (w : Nat) (hw : w < 2 ^ 64) (h0 : w % 2 = 1) (h1 : w / 2 % 2 = 1) (W : World) :
    Calls Try.prog 9 #[.int .i64 3, .int .u64 (w : Int)] W fun e w' => e = .returned (.agg (vec 5 (descE (blockP 3 w)))) ∧ Below W.heap.size W w' := by
  have hand := u64_and_one w hw
  have hand2 := u64_and_two w hw
  rw [h0] at hand
  rw [h1] at hand2
  have hfl : ∀ (hi lo : Nat), lo ≤ hi ∧ hi ≤ 63 → ∀ N, N = bitsN w hi lo → Hid (∀ W, Calls Try.prog 11 #[.int .u64 (w : Int), .int .i64 (hi : Int), .int .i64 (lo : Int)] W fun e w' => e = .returned (.int .u64 (N : Int)) ∧ w' = W) := fun hi lo h N hN => Lib.hid fun W => by
    have h2 := rfield_any w hw hi lo W
    rw [fieldP_bits h, ← hN] at h2
    exact h2
  obtain ⟨Na, hNa⟩ : ∃ N, N = bitsN w 10 10 := ⟨_, rfl⟩
  obtain ⟨Np, hNp⟩ : ∃ N, N = bitsN w 47 12 := ⟨_, rfl⟩
  obtain ⟨Nm, hNm⟩ : ∃ N, N = bitsN w 5 4 := ⟨_, rfl⟩
  obtain ⟨N7, hN7⟩ : ∃ N, N = bitsN w 7 6 := ⟨_, rfl⟩
  obtain ⟨N5, hN5⟩ : ∃ N, N = bitsN w 54 54 := ⟨_, rfl⟩
  have FA := hfl 10 10 (by decide) Na hNa
  have FP := hfl 47 12 (by decide) Np hNp
  have FM := hfl 5 4 (by decide) Nm hNm
  have F7 := hfl 7 6 (by decide) N7 hN7
  have F5 := hfl 54 54 (by decide) N5 hN5
  have bp : Np < 2 ^ 36 := by rw [hNp]; exact bitsN_lt w 47 12
  have b7 : N7 < 4 := by rw [hN7]; exact bitsN_lt w 7 6
  have b5 : N5 < 2 := by rw [hN5]; exact bitsN_lt w 54 54
  obtain ⟨zf, hzf⟩ : ∃ z, z = (Na == 1) := ⟨_, rfl⟩
  obtain ⟨zm, hzm⟩ : ∃ z, z = (Nm == 0) := ⟨_, rfl⟩
  obtain ⟨P, hP⟩ : ∃ P, P = Np * 2 ^ 12 := ⟨_, rfl⟩
  obtain ⟨c, hc⟩ : ∃ c, c = 1 - N5 := ⟨_, rfl⟩
  obtain ⟨Pm, hPm⟩ : ∃ Pm, Pm = N7 + 4 * c := ⟨_, rfl⟩
  have e1 : ((Na : Int) == 1) = zf := by rw [hzf]; exact Bool.eq_iff_iff.2 (by simp only [beq_iff_eq]; omega)
  have e2 : ((Nm : Int) == 0) = zm := by rw [hzm]; exact Bool.eq_iff_iff.2 (by simp only [beq_iff_eq]; omega)
  have e3 : IntKind.u64.wrap ((Np : Int) * 4096) = (P : Int) := by rw [IntKind.wrap_u64, hP]; omega
  have e4 : IntKind.i64.wrap (N7 : Int) = (N7 : Int) := by rw [IntKind.wrap_i64]; omega
  have e5 : IntKind.u64.wrap (1 - (N5 : Int)) = (c : Int) := by rw [IntKind.wrap_u64]; omega
  have e6 : IntKind.i64.wrap (c : Int) = (c : Int) := by rw [IntKind.wrap_i64]; omega
  have e7 : IntKind.i64.wrap (4 * (c : Int)) = 4 * (c : Int) := by rw [IntKind.wrap_i64]; omega
  have e8 : IntKind.i64.wrap ((N7 : Int) + 4 * (c : Int)) = (Pm : Int) := by rw [IntKind.wrap_i64]; omega
  obtain ⟨D, hD⟩ : ∃ D, D = blockP 3 w := ⟨_, rfl⟩
  have HRS : Hid (descE ⟨3, P, (Pm : Int), if zm then 1 else 0, zf⟩ = descE D) := Lib.hid (by
    rw [hD]
    unfold blockP
    rw [show lowP 3 = 12 from rfl, ← hNa, ← hNp, ← hNm, ← hN7, ← hN5, ← hc, ← hPm, ← hP, ← hzf]
    congr 2
    · rw [hzm]; by_cases h : Nm = 0 <;> simp [h])
  rw [← hD]
  obtain ⟨r4, hr4⟩ : ∃ r, r = W.heap.size := ⟨_, rfl⟩
  obtain ⟨r5, hr5⟩ : ∃ r, r = W.heap.size + 1 := ⟨_, rfl⟩
  obtain ⟨V1, hV1⟩ : ∃ V, V = ((W.alloc (.cells (vec 5 (descE zDs)) 25)).alloc (.cells (vec 5 (descE zDs)) 25)).setRow (W.heap.size + 1) (vec 5 (descE ⟨2, 0, 0, 0, zf⟩)) := ⟨_, rfl⟩
  have HV0 : Hid (Below W.heap.size W V1 ∧ Arr V1 r4 25 5 (descE zDs) ∧ Arr V1 r5 25 5 (descE ⟨2, 0, 0, 0, zf⟩)) := Lib.hid (by
    rw [hV1, hr4, hr5]
    refine ⟨below_row (((Below.refl _ _).alloc (Nat.le_refl _) _).alloc (by simp) _) (by omega) _, ?_, (Arr.newAt _ _ _ _ (by simp)).row _⟩
    exact ((Arr.new W _ _ _).alloc _).save ((Save.refl (W.heap.size + 1) _).setRow _) (by omega))
  have HVE := Lib.hid hV1
  have HR := Lib.hid (And.intro hr4 hr5)
  have hr45 : r4 ≠ r5 := by omega
  have hWr : W.heap.size ≤ r5 ∧ W.heap.size ≤ r4 := by omega
  clear hNa hNp hNm hN7 hN5 hfl hzf hzm hP hc hPm hD hV1 hw h0 h1 bp b7 b5 hr4 hr5
  go_enter Try.func9, Try.ntmps9
  go_upto_region 6 with (first
    | ((with_reducible show wpList _ _ _ (Oper.mk _ (.build _ _) _ _ _ _ :: _) _ _); refine wl_build rfl 25 _ rfl (vec 5 (descE ⟨2, 0, 0, 0, zf⟩)) (by kernel_rfl) ?_)
    | ((with_reducible show wpList _ _ _ (Oper.mk _ (.store 25 _ _) _ _ _ _ :: _) _ _); refine wl_store rfl 25 _ _ rfl _ rfl _ rfl (run_store_arr (Arr.newAt _ _ _ _ (by simp)) (descE ⟨2, 0, 0, 0, zf⟩) infoDs (descE_one _)) ?_)
    | (go_at_call 11; refine (FA.out _).mono ?_; rintro e w9 ⟨rfl, hw9⟩; rw [hw9]; clear hw9))
  rw [← HVE.out, ← HR.out.2, ← HR.out.1]
  have HV1 : Hid (Below W.heap.size W V1 ∧ Arr V1 r4 25 5 (descE zDs) ∧ Arr V1 r5 25 5 (descE ⟨2, 0, 0, 0, zf⟩)) := HV0
  have m0 := HV1.out.2.2.cell (i := 0) (by decide)
  have f0 : V1.frozen? ⟨r5, 0, none⟩ = false := HV1.out.2.2.frozen 0
  go_upto_region 13 with fail
  obtain ⟨V2, hV2⟩ : ∃ V, V = V1.setCell ⟨r5, 0, none⟩ (.int .i64 3) := ⟨_, rfl⟩
  have A2 : Hid (Arr V2 r5 25 5 (descE ⟨3, 0, 0, 0, zf⟩) ∧ Save r5 V1 V2) := Lib.hid (by
    rw [hV2]
    exact ⟨(HV1.out.2.2.set 0 _).congr fun i hi => by rcases (by omega : i = 0 ∨ i = 1 ∨ i = 2 ∨ i = 3 ∨ i = 4) with rfl | rfl | rfl | rfl | rfl <;> rfl, (Save.refl _ _).setCell _ _⟩)
  rw [← hV2]
  clear hV2 m0 f0
  have m1 := A2.out.1.cell (i := 1) (by decide)
  have f1 : V2.frozen? ⟨r5, 1, none⟩ = false := A2.out.1.frozen 1
  go_upto_region 14 with (go_at_call 11; refine (FP.out _).mono ?_; rintro e w9 ⟨rfl, hw9⟩; rw [hw9]; clear hw9)
  obtain ⟨V3, hV3⟩ : ∃ V, V = V2.setCell ⟨r5, 1, none⟩ (.int .u64 (P : Int)) := ⟨_, rfl⟩
  have A3 : Hid (Arr V3 r5 25 5 (descE ⟨3, P, 0, 0, zf⟩) ∧ Save r5 V1 V3) := Lib.hid (by
    rw [hV3]
    exact ⟨(A2.out.1.set 1 _).congr fun i hi => by rcases (by omega : i = 0 ∨ i = 1 ∨ i = 2 ∨ i = 3 ∨ i = 4) with rfl | rfl | rfl | rfl | rfl <;> rfl, A2.out.2.setCell _ _⟩)
  rw [← hV3]
  clear hV3 m1 f1
  cases zm
  case false =>
    have HRES : Hid (descE ⟨3, P, Pm, 0, zf⟩ = descE D) := HRS
    go_upto_region 16 with (go_at_call 11; refine (FM.out _).mono ?_; rintro e w9 ⟨rfl, hw9⟩; rw [hw9]; clear hw9)
    obtain ⟨V4, hV4⟩ : ∃ V, V = V3 := ⟨_, rfl⟩
    have A4 : Hid (Arr V4 r5 25 5 (descE ⟨3, P, 0, 0, zf⟩) ∧ Save r5 V1 V4) := Lib.hid (by rw [hV4]; exact A3.out)
    have m4 : True := trivial
    rw [← hV4]
    clear hV4
    clear m4
    have m2 := A4.out.1.cell (i := 2) (by decide)
    have f2 : V4.frozen? ⟨r5, 2, none⟩ = false := A4.out.1.frozen 2
    go_upto_region 17 with (first
      | ((with_reducible show Calls _ _ #[_, .int .i64 7, _] _ _); refine (F7.out _).mono ?_; rintro e w9 ⟨rfl, hw9⟩; rw [hw9]; clear hw9)
      | ((with_reducible show Calls _ _ #[_, .int .i64 54, _] _ _); refine (F5.out _).mono ?_; rintro e w9 ⟨rfl, hw9⟩; rw [hw9]; clear hw9))
    obtain ⟨V5, hV5⟩ : ∃ V, V = V4.setCell ⟨r5, 2, none⟩ (.int .i64 (Pm : Int)) := ⟨_, rfl⟩
    have A5 : Hid (Arr V5 r5 25 5 (descE ⟨3, P, Pm, 0, zf⟩) ∧ Save r5 V1 V5) := Lib.hid (by
      rw [hV5]
      exact ⟨(A4.out.1.set 2 _).congr fun i hi => by rcases (by omega : i = 0 ∨ i = 1 ∨ i = 2 ∨ i = 3 ∨ i = 4) with rfl | rfl | rfl | rfl | rfl <;> rfl, A4.out.2.setCell _ _⟩)
    rw [← hV5]
    clear hV5 m2 f2
    have AR : Hid (Arr V5 r4 25 5 (descE zDs)) := Lib.hid (HV1.out.2.1.save A5.out.2 (by omega))
    have HB : Hid (Below W.heap.size W V5) := Lib.hid (HV1.out.1.trans (A5.out.2.below (by omega) HV1.out.1.size))
    go_wp2_with (first
      | ((with_reducible show wpList _ _ _ (Oper.mk _ (.load 25 _) _ _ _ _ :: _) _ _); refine wl_load rfl 25 _ rfl r5 rfl _ (run_load_arr (A5.out.1) Try.underlying25 rfl infoDs) ?_)
      | ((with_reducible show wpList _ _ _ (Oper.mk _ (.store 25 _ _) _ _ _ _ :: _) _ _); refine wl_store rfl 25 _ _ rfl _ rfl _ rfl (run_store_arr (AR.out) (descE _) infoDs (descE_one _)) ?_))
    refine bodyPost_ret (results_cell1 rfl _ _ _ rfl (run_load_arr (AR.out.row _) Try.underlying25 rfl infoDs)) rfl ?_
    exact ⟨by rw [HRES.out], below_row HB.out (by omega) _⟩
  case true =>
    have HRES : Hid (descE ⟨3, P, Pm, 1, zf⟩ = descE D) := HRS
    have m3 := A3.out.1.cell (i := 3) (by decide)
    have f3 : V3.frozen? ⟨r5, 3, none⟩ = false := A3.out.1.frozen 3
    go_upto_region 16 with (go_at_call 11; refine (FM.out _).mono ?_; rintro e w9 ⟨rfl, hw9⟩; rw [hw9]; clear hw9)
    obtain ⟨V4, hV4⟩ : ∃ V, V = V3.setCell ⟨r5, 3, none⟩ (.int .i64 1) := ⟨_, rfl⟩
    have A4 : Hid (Arr V4 r5 25 5 (descE ⟨3, P, 0, 1, zf⟩) ∧ Save r5 V1 V4) := Lib.hid (by
      rw [hV4]
      exact ⟨(A3.out.1.set 3 _).congr fun i hi => by rcases (by omega : i = 0 ∨ i = 1 ∨ i = 2 ∨ i = 3 ∨ i = 4) with rfl | rfl | rfl | rfl | rfl <;> rfl, A3.out.2.setCell _ _⟩)
    have m4 := m3
    rw [← hV4]
    clear hV4 m3 f3
    clear m4
    have m2 := A4.out.1.cell (i := 2) (by decide)
    have f2 : V4.frozen? ⟨r5, 2, none⟩ = false := A4.out.1.frozen 2
    go_upto_region 17 with (first
      | ((with_reducible show Calls _ _ #[_, .int .i64 7, _] _ _); refine (F7.out _).mono ?_; rintro e w9 ⟨rfl, hw9⟩; rw [hw9]; clear hw9)
      | ((with_reducible show Calls _ _ #[_, .int .i64 54, _] _ _); refine (F5.out _).mono ?_; rintro e w9 ⟨rfl, hw9⟩; rw [hw9]; clear hw9))
    obtain ⟨V5, hV5⟩ : ∃ V, V = V4.setCell ⟨r5, 2, none⟩ (.int .i64 (Pm : Int)) := ⟨_, rfl⟩
    have A5 : Hid (Arr V5 r5 25 5 (descE ⟨3, P, Pm, 1, zf⟩) ∧ Save r5 V1 V5) := Lib.hid (by
      rw [hV5]
      exact ⟨(A4.out.1.set 2 _).congr fun i hi => by rcases (by omega : i = 0 ∨ i = 1 ∨ i = 2 ∨ i = 3 ∨ i = 4) with rfl | rfl | rfl | rfl | rfl <;> rfl, A4.out.2.setCell _ _⟩)
    rw [← hV5]
    clear hV5 m2 f2
    have AR : Hid (Arr V5 r4 25 5 (descE zDs)) := Lib.hid (HV1.out.2.1.save A5.out.2 (by omega))
    have HB : Hid (Below W.heap.size W V5) := Lib.hid (HV1.out.1.trans (A5.out.2.below (by omega) HV1.out.1.size))
    go_wp2_with (first
      | ((with_reducible show wpList _ _ _ (Oper.mk _ (.load 25 _) _ _ _ _ :: _) _ _); refine wl_load rfl 25 _ rfl r5 rfl _ (run_load_arr (A5.out.1) Try.underlying25 rfl infoDs) ?_)
      | ((with_reducible show wpList _ _ _ (Oper.mk _ (.store 25 _ _) _ _ _ _ :: _) _ _); refine wl_store rfl 25 _ _ rfl _ rfl _ rfl (run_store_arr (AR.out) (descE _) infoDs (descE_one _)) ?_))
    refine bodyPost_ret (results_cell1 rfl _ _ _ rfl (run_load_arr (AR.out.row _) Try.underlying25 rfl infoDs)) rfl ?_
    exact ⟨by rw [HRES.out], below_row HB.out (by omega) _⟩
end Go.Proofs.Ytblmikmmmomflaa
