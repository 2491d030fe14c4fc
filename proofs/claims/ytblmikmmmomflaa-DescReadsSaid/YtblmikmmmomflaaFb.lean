/- The code's Of: what a word is, read with its level. -/
import Derived.Test.YtblmikmmmomflaaFa
namespace Go.Proofs.Ytblmikmmmomflaa
open Go.RowKit

def plE (d : Ds) (L : Int) : Nat → Value
  | 5 => .int .i64 L
  | i => descE d i
theorem plE_one (d : Ds) (L : Int) (n : Nat := 6) : ∀ i, i < n → (plE d L i).oneCell' = true := by
  intro i _
  match i with
  | 0 => rfl
  | 1 => rfl
  | 2 => rfl
  | 3 => rfl
  | 4 => rfl
  | 5 => rfl
  | _ + 6 => rfl
theorem infoPl : (Try.prog.info? 35).map (·.size) = some 6 := by kernel_rfl
theorem zeroPl (w : World) : (zeroValue 35).run Try.prog w = .ok (.agg (vec 6 (plE zDs 0))) w :=
  (zero_of_info (P := Try.prog) (t := 35) (v := .agg (vec 6 (plE zDs 0))) (n := 6) (by kernel_rfl)).1 w
attribute [local go_sem ↓ high] zeroDs zeroPl
theorem pl_desc (d : Ds) (L : Int) : (vec 6 (plE d L)).extract 0 5 = vec 5 (descE d) := by kernel_rfl
theorem run_field_pl (d : Ds) (L : Int) (w : World) : (Instr.field 35 (.agg (vec 6 (plE d L))) 0).run Try.prog w = .ok (.agg (vec 5 (descE d))) w := by
  rw [← pl_desc d L]
  simp [Instr.field, Go.part, go_sem, asAgg, Try.isAgg25, Try.sizeOf25]
theorem upd_pl {d d' : Ds} {L : Int} {i : Nat} {v : Value} (h : ∀ j, j < 6 → upd (plE d L) i v j = plE d' L j) {w : World} {g : Nat} {t : TypeId} (k : Arr w g t 6 (plE d L)) : Arr (w.setCell ⟨g, i, none⟩ v) g t 6 (plE d' L) :=
  (k.set i v).congr h
theorem bit0 (w : Nat) : bitB w 0 = (w % 2 == 1) := by unfold bitB bitsN; rw [show (2 : Nat) ^ 0 = 1 from rfl, Nat.div_one]
theorem bit1 (w : Nat) : bitB w 1 = (w / 2 % 2 == 1) := by unfold bitB bitsN; rw [show (2 : Nat) ^ 1 = 2 from rfl]
theorem ofP_kind (L : Int) (w : Nat) : (kindP L w = 0 ∧ ofP L w = zDs) ∨ (kindP L w = 1 ∧ ofP L w = ⟨1, bitsN w 47 12 * 2 ^ 12, 0, 0, false⟩) ∨ ((1 ≤ L ∧ L ≤ 3) ∧ (kindP L w = 2 ∨ kindP L w = 3) ∧ ofP L w = ⟨kindP L w, bitsN w 47 (lowP L) * 2 ^ lowP L, permP w, memP w, bitB w 10⟩) := by
  unfold kindP ofP blockP
  rw [bit0, bit1]
  by_cases h : L < 1 ∨ 3 < L
  · have h1 : sizeP L = 0 := by unfold sizeP; rw [if_neg (by omega), if_neg (by omega), if_neg (by omega)]
    exact .inl ⟨if_pos (.inl h1), if_pos (by omega)⟩
  have h1 : ¬ sizeP L = 0 := by
    rcases (by omega : L = 1 ∨ L = 2 ∨ L = 3) with rfl | rfl | rfl <;> decide
  rcases (by omega : w % 2 = 0 ∨ w % 2 = 1) with e0 | e0
  · refine .inl ⟨if_pos (.inr (by rw [e0]; rfl)), if_pos (.inl e0)⟩
  rw [e0]
  rcases (by omega : w / 2 % 2 = 0 ∨ w / 2 % 2 = 1) with e1 | e1 <;> rw [e1] <;> rcases (by omega : L = 1 ∨ L = 2 ∨ L = 3) with rfl | rfl | rfl
  all_goals first
    | exact .inl ⟨by decide, if_pos (by decide)⟩
    | exact .inr (.inl ⟨by decide, rfl⟩)
    | exact .inr (.inr ⟨by decide, by decide, by simp [sizeP, permP, memP, bitB]⟩)

set_option maxRecDepth 100000 in
set_option maxHeartbeats 1000000 in
theorem read0 (L : Int) (w : Nat) (hw : w < 2 ^ 64) (hk : kindP L w = 0) (ho : ofP L w = zDs) (W : World) :
    Calls Try.prog 13 #[.int .i64 L, .int .u64 (w : Int)] W fun e w' => e = .returned (.agg (vec 6 (plE (ofP L w) L))) ∧ Below W.heap.size W w' := by
  rw [ho]
  have HK : Hid (∀ W, Calls Try.prog 17 #[.int .i64 L, .int .u64 (w : Int)] W fun e w' => e = .returned (.int .i64 0) ∧ w' = W) := Lib.hid fun W => by
    have h := kindOf_any L w hw W
    rw [hk] at h
    exact h
  clear hk ho
  obtain ⟨r4, hr4⟩ : ∃ r, r = W.heap.size := ⟨_, rfl⟩
  obtain ⟨r5, hr5⟩ : ∃ r, r = W.heap.size + 1 := ⟨_, rfl⟩
  obtain ⟨V1, hV1⟩ : ∃ V, V = ((W.alloc (.cells (vec 6 (plE zDs 0)) 35)).alloc (.cells (vec 6 (plE zDs 0)) 35)).setRow (W.heap.size + 1) (vec 6 (plE ⟨0, 0, 0, 0, false⟩ L)) := ⟨_, rfl⟩
  have HV0 : Hid (Below W.heap.size W V1 ∧ Arr V1 r4 35 6 (plE zDs 0) ∧ Arr V1 r5 35 6 (plE ⟨0, 0, 0, 0, false⟩ L)) := Lib.hid (by
    rw [hV1, hr4, hr5]
    refine ⟨below_row (((Below.refl _ _).alloc (Nat.le_refl _) _).alloc (by simp) _) (by omega) _, ?_, (Arr.newAt _ _ _ _ (by simp)).row _⟩
    exact ((Arr.new W _ _ _).alloc _).save ((Save.refl (W.heap.size + 1) _).setRow _) (by omega))
  have HVE := Lib.hid hV1
  have HR := Lib.hid (And.intro hr4 hr5)
  have hr45 : r4 ≠ r5 := by omega
  have hWr : W.heap.size ≤ r5 ∧ W.heap.size ≤ r4 := by omega
  clear hV1 hr4 hr5 hw
  go_enter Try.func13, Try.ntmps13
  go_upto_region 2 with (first
    | (go_at_call 17; refine (HK.out _).mono ?_; rintro e w9 ⟨rfl, hw9⟩; rw [hw9]; clear hw9)
    | ((with_reducible show wpList _ _ _ (Oper.mk _ (.build 25 _) _ _ _ _ :: _) _ _); refine wl_build rfl 25 _ rfl (vec 5 (descE ⟨0, 0, 0, 0, false⟩)) (by kernel_rfl) ?_)
    | ((with_reducible show wpList _ _ _ (Oper.mk _ (.build 35 _) _ _ _ _ :: _) _ _); refine wl_build rfl 35 _ rfl (vec 6 (plE ⟨0, 0, 0, 0, false⟩ L)) (by kernel_rfl) ?_)
    | ((with_reducible show wpList _ _ _ (Oper.mk _ (.store 35 _ _) _ _ _ _ :: _) _ _); refine wl_store rfl 35 _ _ rfl _ rfl _ rfl (run_store_arr (Arr.newAt _ _ _ _ (by simp)) (plE ⟨0, 0, 0, 0, false⟩ L) infoPl (plE_one _ _)) ?_))
  rw [← HVE.out, ← HR.out.2, ← HR.out.1]
  have A1 : Hid (Arr V1 r5 35 6 (plE ⟨0, 0, 0, 0, false⟩ L) ∧ Save r5 V1 V1) := Lib.hid ⟨HV0.out.2.2, Save.refl _ _⟩
  have m0 : V1.cell? ⟨r5, 0, none⟩ = some (.int .i64 0) := A1.out.1.cell (i := 0) (by decide)
  have AR : Hid (Arr V1 r4 35 6 (plE zDs 0)) := Lib.hid (HV0.out.2.1.save A1.out.2 hr45)
  have HB : Hid (Below W.heap.size W V1) := Lib.hid (HV0.out.1.trans (A1.out.2.below hWr.1 HV0.out.1.size))
  go_wp2_with (first
    | ((with_reducible show wpList _ _ _ (Oper.mk _ (.load 35 _) _ _ _ _ :: _) _ _); refine wl_load rfl 35 _ rfl r5 rfl _ (run_load_arr (A1.out.1) Try.underlying35 rfl infoPl) ?_)
    | ((with_reducible show wpList _ _ _ (Oper.mk _ (.store 35 _ _) _ _ _ _ :: _) _ _); refine wl_store rfl 35 _ _ rfl _ rfl _ rfl (run_store_arr (AR.out) (plE _ L) infoPl (plE_one _ _)) ?_))
  refine bodyPost_ret (results_cell1 rfl _ _ _ rfl (run_load_arr (AR.out.row _) Try.underlying35 rfl infoPl)) rfl ?_
  exact ⟨rfl, below_row HB.out hWr.2 _⟩

set_option maxRecDepth 100000 in
set_option maxHeartbeats 1000000 in
theorem read1 (L : Int) (w : Nat) (hw : w < 2 ^ 64) (hk : kindP L w = 1) (ho : ofP L w = ⟨1, bitsN w 47 12 * 2 ^ 12, 0, 0, false⟩) (W : World) :
    Calls Try.prog 13 #[.int .i64 L, .int .u64 (w : Int)] W fun e w' => e = .returned (.agg (vec 6 (plE (ofP L w) L))) ∧ Below W.heap.size W w' := by
  rw [ho]
  have HK : Hid (∀ W, Calls Try.prog 17 #[.int .i64 L, .int .u64 (w : Int)] W fun e w' => e = .returned (.int .i64 1) ∧ w' = W) := Lib.hid fun W => by
    have h := kindOf_any L w hw W
    rw [hk] at h
    exact h
  obtain ⟨p, hp⟩ : ∃ p, p = bitsN w 47 12 * 2 ^ 12 := ⟨_, rfl⟩
  have HA : Hid (∀ W, Calls Try.prog 18 #[.int .u64 (w : Int), .int .i64 12] W fun e w' => e = .returned (.int .u64 (p : Int)) ∧ w' = W) := Lib.hid fun W => by rw [hp]; exact address_any w hw 12 (by decide) W
  rw [← hp]
  clear hk ho hp
  obtain ⟨r4, hr4⟩ : ∃ r, r = W.heap.size := ⟨_, rfl⟩
  obtain ⟨r5, hr5⟩ : ∃ r, r = W.heap.size + 1 := ⟨_, rfl⟩
  obtain ⟨V1, hV1⟩ : ∃ V, V = ((W.alloc (.cells (vec 6 (plE zDs 0)) 35)).alloc (.cells (vec 6 (plE zDs 0)) 35)).setRow (W.heap.size + 1) (vec 6 (plE ⟨1, 0, 0, 0, false⟩ L)) := ⟨_, rfl⟩
  have HV0 : Hid (Below W.heap.size W V1 ∧ Arr V1 r4 35 6 (plE zDs 0) ∧ Arr V1 r5 35 6 (plE ⟨1, 0, 0, 0, false⟩ L)) := Lib.hid (by
    rw [hV1, hr4, hr5]
    refine ⟨below_row (((Below.refl _ _).alloc (Nat.le_refl _) _).alloc (by simp) _) (by omega) _, ?_, (Arr.newAt _ _ _ _ (by simp)).row _⟩
    exact ((Arr.new W _ _ _).alloc _).save ((Save.refl (W.heap.size + 1) _).setRow _) (by omega))
  have HVE := Lib.hid hV1
  have HR := Lib.hid (And.intro hr4 hr5)
  have hr45 : r4 ≠ r5 := by omega
  have hWr : W.heap.size ≤ r5 ∧ W.heap.size ≤ r4 := by omega
  clear hV1 hr4 hr5 hw
  go_enter Try.func13, Try.ntmps13
  go_upto_region 2 with (first
    | (go_at_call 17; refine (HK.out _).mono ?_; rintro e w9 ⟨rfl, hw9⟩; rw [hw9]; clear hw9)
    | ((with_reducible show wpList _ _ _ (Oper.mk _ (.build 25 _) _ _ _ _ :: _) _ _); refine wl_build rfl 25 _ rfl (vec 5 (descE ⟨1, 0, 0, 0, false⟩)) (by kernel_rfl) ?_)
    | ((with_reducible show wpList _ _ _ (Oper.mk _ (.build 35 _) _ _ _ _ :: _) _ _); refine wl_build rfl 35 _ rfl (vec 6 (plE ⟨1, 0, 0, 0, false⟩ L)) (by kernel_rfl) ?_)
    | ((with_reducible show wpList _ _ _ (Oper.mk _ (.store 35 _ _) _ _ _ _ :: _) _ _); refine wl_store rfl 35 _ _ rfl _ rfl _ rfl (run_store_arr (Arr.newAt _ _ _ _ (by simp)) (plE ⟨1, 0, 0, 0, false⟩ L) infoPl (plE_one _ _)) ?_))
  rw [← HVE.out, ← HR.out.2, ← HR.out.1]
  have A1 : Hid (Arr V1 r5 35 6 (plE ⟨1, 0, 0, 0, false⟩ L) ∧ Save r5 V1 V1) := Lib.hid ⟨HV0.out.2.2, Save.refl _ _⟩
  have m0 : V1.cell? ⟨r5, 0, none⟩ = some (.int .i64 1) := A1.out.1.cell (i := 0) (by decide)
  have m1 := A1.out.1.cell (i := 1) (by decide)
  have f1 : V1.frozen? ⟨r5, 1, none⟩ = false := A1.out.1.frozen 1
  go_upto_region 11 with (go_at_call 18; refine (HA.out _).mono ?_; rintro e w9 ⟨rfl, hw9⟩; rw [hw9]; clear hw9)
  obtain ⟨V2, hV2⟩ : ∃ V, V = V1.setCell ⟨r5, 1, none⟩ (.int .u64 (p : Int)) := ⟨_, rfl⟩
  have A2 : Hid (Arr V2 r5 35 6 (plE ⟨1, p, 0, 0, false⟩ L) ∧ Save r5 V1 V2) := Lib.hid (by
    rw [hV2]
    exact ⟨upd_pl (fun j hj => by rcases (by omega : j = 0 ∨ j = 1 ∨ j = 2 ∨ j = 3 ∨ j = 4 ∨ j = 5) with rfl | rfl | rfl | rfl | rfl | rfl <;> rfl) A1.out.1, A1.out.2.setCell _ _⟩)
  rw [← hV2]
  clear hV2 m1 f1
  have AR : Hid (Arr V2 r4 35 6 (plE zDs 0)) := Lib.hid (HV0.out.2.1.save A2.out.2 hr45)
  have HB : Hid (Below W.heap.size W V2) := Lib.hid (HV0.out.1.trans (A2.out.2.below hWr.1 HV0.out.1.size))
  go_wp2_with (first
    | ((with_reducible show wpList _ _ _ (Oper.mk _ (.load 35 _) _ _ _ _ :: _) _ _); refine wl_load rfl 35 _ rfl r5 rfl _ (run_load_arr (A2.out.1) Try.underlying35 rfl infoPl) ?_)
    | ((with_reducible show wpList _ _ _ (Oper.mk _ (.store 35 _ _) _ _ _ _ :: _) _ _); refine wl_store rfl 35 _ _ rfl _ rfl _ rfl (run_store_arr (AR.out) (plE _ L) infoPl (plE_one _ _)) ?_))
  refine bodyPost_ret (results_cell1 rfl _ _ _ rfl (run_load_arr (AR.out.row _) Try.underlying35 rfl infoPl)) rfl ?_
  exact ⟨rfl, below_row HB.out hWr.2 _⟩

set_option maxRecDepth 100000 in
set_option maxHeartbeats 1000000 in
theorem read2 (L : Int) (w : Nat) (hw : w < 2 ^ 64) (hL : 1 ≤ L ∧ L ≤ 3) (hk : kindP L w = 2) (ho : ofP L w = ⟨kindP L w, bitsN w 47 (lowP L) * 2 ^ lowP L, permP w, memP w, bitB w 10⟩) (W : World) :
    Calls Try.prog 13 #[.int .i64 L, .int .u64 (w : Int)] W fun e w' => e = .returned (.agg (vec 6 (plE (ofP L w) L))) ∧ Below W.heap.size W w' := by
  rw [ho, hk]
  have HK : Hid (∀ W, Calls Try.prog 17 #[.int .i64 L, .int .u64 (w : Int)] W fun e w' => e = .returned (.int .i64 2) ∧ w' = W) := Lib.hid fun W => by
    have h := kindOf_any L w hw W
    rw [hk] at h
    exact h
  have hlow : lowP L ≤ 47 := by unfold lowP; split <;> (try split) <;> decide
  have HS := Lib.hid (sizeBits_any L hL)
  have HA := Lib.hid (address_any w hw (lowP L) hlow)
  have HP := Lib.hid (permOf_any w hw)
  have HM := Lib.hid (memOf_any w hw)
  have HI : Hid (∀ W, Calls Try.prog 22 #[.int .u64 (w : Int), .int .i64 10] W fun e w' => e = .returned (.bool (bitB w 10)) ∧ w' = W) := Lib.hid (isSet_any w hw 10 (by decide))
  obtain ⟨l, hl⟩ : ∃ l, l = lowP L := ⟨_, rfl⟩
  rw [← hl] at HA HS ⊢
  obtain ⟨p, hp⟩ : ∃ p, p = bitsN w 47 l * 2 ^ l := ⟨_, rfl⟩
  obtain ⟨pm, hpm⟩ : ∃ x, x = permP w := ⟨_, rfl⟩
  obtain ⟨mm, hmm⟩ : ∃ x, x = memP w := ⟨_, rfl⟩
  obtain ⟨af, haf⟩ : ∃ x, x = bitB w 10 := ⟨_, rfl⟩
  rw [← hp] at HA
  rw [← hpm] at HP
  rw [← hmm] at HM
  rw [← haf] at HI
  rw [← hp, ← hpm, ← hmm, ← haf]
  clear hk ho hp hpm hmm haf hl hlow hL
  obtain ⟨r4, hr4⟩ : ∃ r, r = W.heap.size := ⟨_, rfl⟩
  obtain ⟨r5, hr5⟩ : ∃ r, r = W.heap.size + 1 := ⟨_, rfl⟩
  obtain ⟨V1, hV1⟩ : ∃ V, V = ((W.alloc (.cells (vec 6 (plE zDs 0)) 35)).alloc (.cells (vec 6 (plE zDs 0)) 35)).setRow (W.heap.size + 1) (vec 6 (plE ⟨2, 0, 0, 0, false⟩ L)) := ⟨_, rfl⟩
  have HV0 : Hid (Below W.heap.size W V1 ∧ Arr V1 r4 35 6 (plE zDs 0) ∧ Arr V1 r5 35 6 (plE ⟨2, 0, 0, 0, false⟩ L)) := Lib.hid (by
    rw [hV1, hr4, hr5]
    refine ⟨below_row (((Below.refl _ _).alloc (Nat.le_refl _) _).alloc (by simp) _) (by omega) _, ?_, (Arr.newAt _ _ _ _ (by simp)).row _⟩
    exact ((Arr.new W _ _ _).alloc _).save ((Save.refl (W.heap.size + 1) _).setRow _) (by omega))
  have HVE := Lib.hid hV1
  have HR := Lib.hid (And.intro hr4 hr5)
  have hr45 : r4 ≠ r5 := by omega
  have hWr : W.heap.size ≤ r5 ∧ W.heap.size ≤ r4 := by omega
  clear hV1 hr4 hr5 hw
  go_enter Try.func13, Try.ntmps13
  go_upto_region 2 with (first
    | (go_at_call 17; refine (HK.out _).mono ?_; rintro e w9 ⟨rfl, hw9⟩; rw [hw9]; clear hw9)
    | ((with_reducible show wpList _ _ _ (Oper.mk _ (.build 25 _) _ _ _ _ :: _) _ _); refine wl_build rfl 25 _ rfl (vec 5 (descE ⟨2, 0, 0, 0, false⟩)) (by kernel_rfl) ?_)
    | ((with_reducible show wpList _ _ _ (Oper.mk _ (.build 35 _) _ _ _ _ :: _) _ _); refine wl_build rfl 35 _ rfl (vec 6 (plE ⟨2, 0, 0, 0, false⟩ L)) (by kernel_rfl) ?_)
    | ((with_reducible show wpList _ _ _ (Oper.mk _ (.store 35 _ _) _ _ _ _ :: _) _ _); refine wl_store rfl 35 _ _ rfl _ rfl _ rfl (run_store_arr (Arr.newAt _ _ _ _ (by simp)) (plE ⟨2, 0, 0, 0, false⟩ L) infoPl (plE_one _ _)) ?_))
  rw [← HVE.out, ← HR.out.2, ← HR.out.1]
  have A1 : Hid (Arr V1 r5 35 6 (plE ⟨2, 0, 0, 0, false⟩ L) ∧ Save r5 V1 V1) := Lib.hid ⟨HV0.out.2.2, Save.refl _ _⟩
  have m0 : V1.cell? ⟨r5, 0, none⟩ = some (.int .i64 2) := A1.out.1.cell (i := 0) (by decide)
  have m1 := A1.out.1.cell (i := 1) (by decide)
  have f1 : V1.frozen? ⟨r5, 1, none⟩ = false := A1.out.1.frozen 1
  go_upto_region 8 with (first | (go_at_call 18; refine (HA.out _).mono ?_; rintro e w9 ⟨rfl, hw9⟩; rw [hw9]; clear hw9) | (go_at_call 19; refine (HS.out _).mono ?_; rintro e w9 ⟨rfl, hw9⟩; rw [hw9]; clear hw9))
  obtain ⟨V2, hV2⟩ : ∃ V, V = V1.setCell ⟨r5, 1, none⟩ (.int .u64 (p : Int)) := ⟨_, rfl⟩
  have A2 : Hid (Arr V2 r5 35 6 (plE ⟨2, p, 0, 0, false⟩ L) ∧ Save r5 V1 V2) := Lib.hid (by
    rw [hV2]
    exact ⟨upd_pl (fun j hj => by rcases (by omega : j = 0 ∨ j = 1 ∨ j = 2 ∨ j = 3 ∨ j = 4 ∨ j = 5) with rfl | rfl | rfl | rfl | rfl | rfl <;> rfl) A1.out.1, A1.out.2.setCell _ _⟩)
  rw [← hV2]
  clear hV2 m1 f1
  have m2 := A2.out.1.cell (i := 2) (by decide)
  have f2 : V2.frozen? ⟨r5, 2, none⟩ = false := A2.out.1.frozen 2
  go_upto_region 9 with (go_at_call 20; refine (HP.out _).mono ?_; rintro e w9 ⟨rfl, hw9⟩; rw [hw9]; clear hw9)
  obtain ⟨V3, hV3⟩ : ∃ V, V = V2.setCell ⟨r5, 2, none⟩ (.int .i64 pm) := ⟨_, rfl⟩
  have A3 : Hid (Arr V3 r5 35 6 (plE ⟨2, p, pm, 0, false⟩ L) ∧ Save r5 V1 V3) := Lib.hid (by
    rw [hV3]
    exact ⟨upd_pl (fun j hj => by rcases (by omega : j = 0 ∨ j = 1 ∨ j = 2 ∨ j = 3 ∨ j = 4 ∨ j = 5) with rfl | rfl | rfl | rfl | rfl | rfl <;> rfl) A2.out.1, A2.out.2.setCell _ _⟩)
  rw [← hV3]
  clear hV3 m2 f2
  have m3 := A3.out.1.cell (i := 3) (by decide)
  have f3 : V3.frozen? ⟨r5, 3, none⟩ = false := A3.out.1.frozen 3
  go_upto_region 10 with (go_at_call 21; refine (HM.out _).mono ?_; rintro e w9 ⟨rfl, hw9⟩; rw [hw9]; clear hw9)
  obtain ⟨V4, hV4⟩ : ∃ V, V = V3.setCell ⟨r5, 3, none⟩ (.int .i64 mm) := ⟨_, rfl⟩
  have A4 : Hid (Arr V4 r5 35 6 (plE ⟨2, p, pm, mm, false⟩ L) ∧ Save r5 V1 V4) := Lib.hid (by
    rw [hV4]
    exact ⟨upd_pl (fun j hj => by rcases (by omega : j = 0 ∨ j = 1 ∨ j = 2 ∨ j = 3 ∨ j = 4 ∨ j = 5) with rfl | rfl | rfl | rfl | rfl | rfl <;> rfl) A3.out.1, A3.out.2.setCell _ _⟩)
  rw [← hV4]
  clear hV4 m3 f3
  have m4 := A4.out.1.cell (i := 4) (by decide)
  have f4 : V4.frozen? ⟨r5, 4, none⟩ = false := A4.out.1.frozen 4
  go_upto_region 11 with (go_at_call 22; refine (HI.out _).mono ?_; rintro e w9 ⟨rfl, hw9⟩; rw [hw9]; clear hw9)
  obtain ⟨V5, hV5⟩ : ∃ V, V = V4.setCell ⟨r5, 4, none⟩ (.bool af) := ⟨_, rfl⟩
  have A5 : Hid (Arr V5 r5 35 6 (plE ⟨2, p, pm, mm, af⟩ L) ∧ Save r5 V1 V5) := Lib.hid (by
    rw [hV5]
    exact ⟨upd_pl (fun j hj => by rcases (by omega : j = 0 ∨ j = 1 ∨ j = 2 ∨ j = 3 ∨ j = 4 ∨ j = 5) with rfl | rfl | rfl | rfl | rfl | rfl <;> rfl) A4.out.1, A4.out.2.setCell _ _⟩)
  rw [← hV5]
  clear hV5 m4 f4
  have AR : Hid (Arr V5 r4 35 6 (plE zDs 0)) := Lib.hid (HV0.out.2.1.save A5.out.2 hr45)
  have HB : Hid (Below W.heap.size W V5) := Lib.hid (HV0.out.1.trans (A5.out.2.below hWr.1 HV0.out.1.size))
  go_wp2_with (first
    | ((with_reducible show wpList _ _ _ (Oper.mk _ (.load 35 _) _ _ _ _ :: _) _ _); refine wl_load rfl 35 _ rfl r5 rfl _ (run_load_arr (A5.out.1) Try.underlying35 rfl infoPl) ?_)
    | ((with_reducible show wpList _ _ _ (Oper.mk _ (.store 35 _ _) _ _ _ _ :: _) _ _); refine wl_store rfl 35 _ _ rfl _ rfl _ rfl (run_store_arr (AR.out) (plE _ L) infoPl (plE_one _ _)) ?_))
  refine bodyPost_ret (results_cell1 rfl _ _ _ rfl (run_load_arr (AR.out.row _) Try.underlying35 rfl infoPl)) rfl ?_
  exact ⟨rfl, below_row HB.out hWr.2 _⟩

set_option maxRecDepth 100000 in
set_option maxHeartbeats 1000000 in
theorem read3 (L : Int) (w : Nat) (hw : w < 2 ^ 64) (hL : 1 ≤ L ∧ L ≤ 3) (hk : kindP L w = 3) (ho : ofP L w = ⟨kindP L w, bitsN w 47 (lowP L) * 2 ^ lowP L, permP w, memP w, bitB w 10⟩) (W : World) :
    Calls Try.prog 13 #[.int .i64 L, .int .u64 (w : Int)] W fun e w' => e = .returned (.agg (vec 6 (plE (ofP L w) L))) ∧ Below W.heap.size W w' := by
  rw [ho, hk]
  have HK : Hid (∀ W, Calls Try.prog 17 #[.int .i64 L, .int .u64 (w : Int)] W fun e w' => e = .returned (.int .i64 3) ∧ w' = W) := Lib.hid fun W => by
    have h := kindOf_any L w hw W
    rw [hk] at h
    exact h
  have hlow : lowP L ≤ 47 := by unfold lowP; split <;> (try split) <;> decide
  have HS := Lib.hid (sizeBits_any L hL)
  have HA := Lib.hid (address_any w hw (lowP L) hlow)
  have HP := Lib.hid (permOf_any w hw)
  have HM := Lib.hid (memOf_any w hw)
  have HI : Hid (∀ W, Calls Try.prog 22 #[.int .u64 (w : Int), .int .i64 10] W fun e w' => e = .returned (.bool (bitB w 10)) ∧ w' = W) := Lib.hid (isSet_any w hw 10 (by decide))
  obtain ⟨l, hl⟩ : ∃ l, l = lowP L := ⟨_, rfl⟩
  rw [← hl] at HA HS ⊢
  obtain ⟨p, hp⟩ : ∃ p, p = bitsN w 47 l * 2 ^ l := ⟨_, rfl⟩
  obtain ⟨pm, hpm⟩ : ∃ x, x = permP w := ⟨_, rfl⟩
  obtain ⟨mm, hmm⟩ : ∃ x, x = memP w := ⟨_, rfl⟩
  obtain ⟨af, haf⟩ : ∃ x, x = bitB w 10 := ⟨_, rfl⟩
  rw [← hp] at HA
  rw [← hpm] at HP
  rw [← hmm] at HM
  rw [← haf] at HI
  rw [← hp, ← hpm, ← hmm, ← haf]
  clear hk ho hp hpm hmm haf hl hlow hL
  obtain ⟨r4, hr4⟩ : ∃ r, r = W.heap.size := ⟨_, rfl⟩
  obtain ⟨r5, hr5⟩ : ∃ r, r = W.heap.size + 1 := ⟨_, rfl⟩
  obtain ⟨V1, hV1⟩ : ∃ V, V = ((W.alloc (.cells (vec 6 (plE zDs 0)) 35)).alloc (.cells (vec 6 (plE zDs 0)) 35)).setRow (W.heap.size + 1) (vec 6 (plE ⟨3, 0, 0, 0, false⟩ L)) := ⟨_, rfl⟩
  have HV0 : Hid (Below W.heap.size W V1 ∧ Arr V1 r4 35 6 (plE zDs 0) ∧ Arr V1 r5 35 6 (plE ⟨3, 0, 0, 0, false⟩ L)) := Lib.hid (by
    rw [hV1, hr4, hr5]
    refine ⟨below_row (((Below.refl _ _).alloc (Nat.le_refl _) _).alloc (by simp) _) (by omega) _, ?_, (Arr.newAt _ _ _ _ (by simp)).row _⟩
    exact ((Arr.new W _ _ _).alloc _).save ((Save.refl (W.heap.size + 1) _).setRow _) (by omega))
  have HVE := Lib.hid hV1
  have HR := Lib.hid (And.intro hr4 hr5)
  have hr45 : r4 ≠ r5 := by omega
  have hWr : W.heap.size ≤ r5 ∧ W.heap.size ≤ r4 := by omega
  clear hV1 hr4 hr5 hw
  go_enter Try.func13, Try.ntmps13
  go_upto_region 2 with (first
    | (go_at_call 17; refine (HK.out _).mono ?_; rintro e w9 ⟨rfl, hw9⟩; rw [hw9]; clear hw9)
    | ((with_reducible show wpList _ _ _ (Oper.mk _ (.build 25 _) _ _ _ _ :: _) _ _); refine wl_build rfl 25 _ rfl (vec 5 (descE ⟨3, 0, 0, 0, false⟩)) (by kernel_rfl) ?_)
    | ((with_reducible show wpList _ _ _ (Oper.mk _ (.build 35 _) _ _ _ _ :: _) _ _); refine wl_build rfl 35 _ rfl (vec 6 (plE ⟨3, 0, 0, 0, false⟩ L)) (by kernel_rfl) ?_)
    | ((with_reducible show wpList _ _ _ (Oper.mk _ (.store 35 _ _) _ _ _ _ :: _) _ _); refine wl_store rfl 35 _ _ rfl _ rfl _ rfl (run_store_arr (Arr.newAt _ _ _ _ (by simp)) (plE ⟨3, 0, 0, 0, false⟩ L) infoPl (plE_one _ _)) ?_))
  rw [← HVE.out, ← HR.out.2, ← HR.out.1]
  have A1 : Hid (Arr V1 r5 35 6 (plE ⟨3, 0, 0, 0, false⟩ L) ∧ Save r5 V1 V1) := Lib.hid ⟨HV0.out.2.2, Save.refl _ _⟩
  have m0 : V1.cell? ⟨r5, 0, none⟩ = some (.int .i64 3) := A1.out.1.cell (i := 0) (by decide)
  have m1 := A1.out.1.cell (i := 1) (by decide)
  have f1 : V1.frozen? ⟨r5, 1, none⟩ = false := A1.out.1.frozen 1
  go_upto_region 8 with (first | (go_at_call 18; refine (HA.out _).mono ?_; rintro e w9 ⟨rfl, hw9⟩; rw [hw9]; clear hw9) | (go_at_call 19; refine (HS.out _).mono ?_; rintro e w9 ⟨rfl, hw9⟩; rw [hw9]; clear hw9))
  obtain ⟨V2, hV2⟩ : ∃ V, V = V1.setCell ⟨r5, 1, none⟩ (.int .u64 (p : Int)) := ⟨_, rfl⟩
  have A2 : Hid (Arr V2 r5 35 6 (plE ⟨3, p, 0, 0, false⟩ L) ∧ Save r5 V1 V2) := Lib.hid (by
    rw [hV2]
    exact ⟨upd_pl (fun j hj => by rcases (by omega : j = 0 ∨ j = 1 ∨ j = 2 ∨ j = 3 ∨ j = 4 ∨ j = 5) with rfl | rfl | rfl | rfl | rfl | rfl <;> rfl) A1.out.1, A1.out.2.setCell _ _⟩)
  rw [← hV2]
  clear hV2 m1 f1
  have m2 := A2.out.1.cell (i := 2) (by decide)
  have f2 : V2.frozen? ⟨r5, 2, none⟩ = false := A2.out.1.frozen 2
  go_upto_region 9 with (go_at_call 20; refine (HP.out _).mono ?_; rintro e w9 ⟨rfl, hw9⟩; rw [hw9]; clear hw9)
  obtain ⟨V3, hV3⟩ : ∃ V, V = V2.setCell ⟨r5, 2, none⟩ (.int .i64 pm) := ⟨_, rfl⟩
  have A3 : Hid (Arr V3 r5 35 6 (plE ⟨3, p, pm, 0, false⟩ L) ∧ Save r5 V1 V3) := Lib.hid (by
    rw [hV3]
    exact ⟨upd_pl (fun j hj => by rcases (by omega : j = 0 ∨ j = 1 ∨ j = 2 ∨ j = 3 ∨ j = 4 ∨ j = 5) with rfl | rfl | rfl | rfl | rfl | rfl <;> rfl) A2.out.1, A2.out.2.setCell _ _⟩)
  rw [← hV3]
  clear hV3 m2 f2
  have m3 := A3.out.1.cell (i := 3) (by decide)
  have f3 : V3.frozen? ⟨r5, 3, none⟩ = false := A3.out.1.frozen 3
  go_upto_region 10 with (go_at_call 21; refine (HM.out _).mono ?_; rintro e w9 ⟨rfl, hw9⟩; rw [hw9]; clear hw9)
  obtain ⟨V4, hV4⟩ : ∃ V, V = V3.setCell ⟨r5, 3, none⟩ (.int .i64 mm) := ⟨_, rfl⟩
  have A4 : Hid (Arr V4 r5 35 6 (plE ⟨3, p, pm, mm, false⟩ L) ∧ Save r5 V1 V4) := Lib.hid (by
    rw [hV4]
    exact ⟨upd_pl (fun j hj => by rcases (by omega : j = 0 ∨ j = 1 ∨ j = 2 ∨ j = 3 ∨ j = 4 ∨ j = 5) with rfl | rfl | rfl | rfl | rfl | rfl <;> rfl) A3.out.1, A3.out.2.setCell _ _⟩)
  rw [← hV4]
  clear hV4 m3 f3
  have m4 := A4.out.1.cell (i := 4) (by decide)
  have f4 : V4.frozen? ⟨r5, 4, none⟩ = false := A4.out.1.frozen 4
  go_upto_region 11 with (go_at_call 22; refine (HI.out _).mono ?_; rintro e w9 ⟨rfl, hw9⟩; rw [hw9]; clear hw9)
  obtain ⟨V5, hV5⟩ : ∃ V, V = V4.setCell ⟨r5, 4, none⟩ (.bool af) := ⟨_, rfl⟩
  have A5 : Hid (Arr V5 r5 35 6 (plE ⟨3, p, pm, mm, af⟩ L) ∧ Save r5 V1 V5) := Lib.hid (by
    rw [hV5]
    exact ⟨upd_pl (fun j hj => by rcases (by omega : j = 0 ∨ j = 1 ∨ j = 2 ∨ j = 3 ∨ j = 4 ∨ j = 5) with rfl | rfl | rfl | rfl | rfl | rfl <;> rfl) A4.out.1, A4.out.2.setCell _ _⟩)
  rw [← hV5]
  clear hV5 m4 f4
  have AR : Hid (Arr V5 r4 35 6 (plE zDs 0)) := Lib.hid (HV0.out.2.1.save A5.out.2 hr45)
  have HB : Hid (Below W.heap.size W V5) := Lib.hid (HV0.out.1.trans (A5.out.2.below hWr.1 HV0.out.1.size))
  go_wp2_with (first
    | ((with_reducible show wpList _ _ _ (Oper.mk _ (.load 35 _) _ _ _ _ :: _) _ _); refine wl_load rfl 35 _ rfl r5 rfl _ (run_load_arr (A5.out.1) Try.underlying35 rfl infoPl) ?_)
    | ((with_reducible show wpList _ _ _ (Oper.mk _ (.store 35 _ _) _ _ _ _ :: _) _ _); refine wl_store rfl 35 _ _ rfl _ rfl _ rfl (run_store_arr (AR.out) (plE _ L) infoPl (plE_one _ _)) ?_))
  refine bodyPost_ret (results_cell1 rfl _ _ _ rfl (run_load_arr (AR.out.row _) Try.underlying35 rfl infoPl)) rfl ?_
  exact ⟨rfl, below_row HB.out hWr.2 _⟩

theorem read_any (L : Int) (w : Nat) (hw : w < 2 ^ 64) (W : World) :
    Calls Try.prog 13 #[.int .i64 L, .int .u64 (w : Int)] W fun e w' => e = .returned (.agg (vec 6 (plE (ofP L w) L))) ∧ Below W.heap.size W w' := by
  rcases ofP_kind L w with ⟨h1, h2⟩ | ⟨h1, h2⟩ | ⟨hL, h1 | h1, h2⟩
  · exact read0 L w hw h1 h2 W
  · exact read1 L w hw h1 h2 W
  · exact read2 L w hw hL h1 h2 W
  · exact read3 L w hw hL h1 h2 W
set_option maxRecDepth 100000 in
theorem code_of : CodeOf := by
  intro L w W _ hw
  have HR := Lib.hid (read_any L w hw)
  unfold DsC
  obtain ⟨D, hD⟩ : ∃ D, D = ofP L w := ⟨_, rfl⟩
  rw [← hD] at HR ⊢
  have hx := run_field_pl D L
  clear hD hw
  go_enter Try.func8, Try.ntmps8
  go_wp2_with (first
    | (go_at_call 13; refine (HR.out _).mono ?_; rintro e w9 ⟨rfl, hw9⟩; have HW9 := Lib.hid hw9; clear hw9)
    | ((with_reducible show wpList _ _ _ (Oper.mk _ (.store 25 _ _) _ _ _ _ :: _) _ _); refine wl_store rfl 25 _ _ rfl _ rfl _ rfl (run_store_arr ((Arr.new W _ _ _).under HW9.out) (descE D) infoDs (descE_one _)) ?_))
  refine bodyPost_ret (results_cell1 rfl _ _ _ rfl (run_load_arr (((Arr.new W _ _ _).under HW9.out).row _) Try.underlying25 rfl infoDs)) rfl ?_
  exact ⟨rfl, below_row (((Below.refl _ _).alloc (Nat.le_refl _) _).trans (HW9.out.mono (by simp))) (Nat.le_refl _) _⟩
end Go.Proofs.Ytblmikmmmomflaa
