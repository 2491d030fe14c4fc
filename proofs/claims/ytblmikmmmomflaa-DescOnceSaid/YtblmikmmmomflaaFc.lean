/- The code's fields of a descriptor's word: flag, join, mapping, fields. -/
import Derived.Test.YtblmikmmmomflaaOw
namespace Go.Proofs.Ytblmikmmmomflaa
open Go.RowKit

def fldE (x : Nat × Nat) : Nat → Value
  | 0 => .int .u64 (x.1 : Int)
  | _ => .int .i64 (x.2 : Int)
theorem fldE_one (x : Nat × Nat) (n : Nat := 2) : ∀ i, i < n → (fldE x i).oneCell' = true := by
  intro i _
  match i with
  | 0 => rfl
  | _ + 1 => rfl
theorem infoFld : (Try.prog.info? 48).map (·.size) = some 2 := by kernel_rfl
theorem info_fld : (Try.prog.info? 48).map (fun i => (i.zero, i.size, i.bytes)) = some (some (.agg (vec 2 (fldE (0, 0)))), 2, 16) := by kernel_rfl
theorem zeroFld (w : World) : (zeroValue 48).run Try.prog w = .ok (.agg (vec 2 (fldE (0, 0)))) w :=
  (zero_of_info (P := Try.prog) (t := 48) (v := .agg (vec 2 (fldE (0, 0)))) (n := 2) (by kernel_rfl)).1 w
attribute [local go_sem ↓ high] zeroDs zeroPl zeroFld builtin_appS
set_option maxRecDepth 100000 in
theorem flag_any (b : Bool) (a : Nat) (W : World) : Calls Try.prog 26 #[.bool b, .int .i64 (a : Int)] W fun e w' => e = .returned (.agg (vec 2 (fldE (b.toNat, a)))) ∧ Below W.heap.size W w' := by
  cases b
  all_goals
    go_enter Try.func26, Try.ntmps26
    go_wp2_with (first
      | ((with_reducible show wpList _ _ _ (Oper.mk _ (.build _ #[(0, .const (.int .u64 0)), _]) _ _ _ _ :: _) _ _); refine wl_build rfl 48 _ rfl (vec 2 (fldE (0, a))) (by kernel_rfl) ?_)
      | ((with_reducible show wpList _ _ _ (Oper.mk _ (.build _ #[(0, .const (.int .u64 1)), _]) _ _ _ _ :: _) _ _); refine wl_build rfl 48 _ rfl (vec 2 (fldE (1, a))) (by kernel_rfl) ?_)
      | ((with_reducible show wpList _ _ _ (Oper.mk _ (.store 48 _ _) _ _ _ _ :: _) _ _); refine wl_store rfl 48 _ _ rfl _ rfl _ rfl (run_store_arr (Arr.new W _ _ _) (fldE _) infoFld (fldE_one _)) ?_))
    refine bodyPost_ret (results_cell1 rfl _ _ _ rfl (run_load_arr ((Arr.new W _ _ _).row _) Try.underlying48 rfl infoFld)) rfl ⟨rfl, below_row ((Below.refl _ _).alloc (Nat.le_refl _) _) (Nat.le_refl _) _⟩
/-- The word that fields make. -/
def joinN (l : List (Nat × Nat)) : Nat := l.foldl (fun a y => a ||| y.1 * 2 ^ y.2) 0
theorem joinN_snoc (l : List (Nat × Nat)) (y : Nat × Nat) : joinN (l ++ [y]) = joinN l ||| y.1 * 2 ^ y.2 := by simp [joinN]
theorem or_lt {a b : Nat} (ha : a < 2 ^ 64) (hb : b < 2 ^ 64) : a ||| b < 2 ^ 64 := Nat.or_lt_two_pow ha hb
set_option maxRecDepth 100000 in
set_option maxHeartbeats 1000000 in
theorem join_any (l : List (Nat × Nat)) (A : Option Addr) (c : Nat) (w : World) (hr : RowE 2 fldE w w.heap.size A l) (hl : l.length ≤ 100) (hy : ∀ y ∈ l, y.1 < 2 ^ 64 ∧ y.2 ≤ 63 ∧ y.1 * 2 ^ y.2 < 2 ^ 64) :
    Calls Try.prog 15 #[.slice A l.length c] w fun e w' => e = .returned (.int .u64 ((joinN l : Nat) : Int)) ∧ Below w.heap.size w w' := by
  obtain ⟨N, hN⟩ : ∃ n, n = l.length := ⟨_, rfl⟩
  have HN := Lib.hid hN
  have HR := Lib.hid hr
  have HY := Lib.hid hy
  have hNl : N ≤ 100 := by omega
  rw [← hN]
  clear hN hr hl hy
  go_enter Try.func15, Try.ntmps15
  go_wp2_with fail
  go_loopw [3, 8] (fun s v W => ∃ (k x : Nat), k ≤ N ∧ v = .int .i64 (k : Int) ∧ s = .int .u64 (x : Int) ∧ x < 2 ^ 64 ∧ Hid (x = joinN (l.take k)) ∧ Hid (Below w.heap.size w W)) (fun _ v _ => N - (intOf v).toNat)
  case atStart => exact ⟨0, 0, Nat.zero_le _, rfl, rfl, by decide, Lib.hid rfl, Lib.hid (Below.refl _ _)⟩
  case round =>
    obtain ⟨k, x, hk, rfl, rfl, hx, HX, HB⟩ := hrel
    obtain ⟨V, hV⟩ : ∃ V : World, V = wr := ⟨_, rfl⟩
    subst hV
    by_cases hlt0 : k < N
    · have hlt : k < l.length := by rw [← HN.out]; exact hlt0
      obtain ⟨b0, p, ea, hp, -, hcp⟩ := (HR.out.up HB.out).at hlt
      obtain ⟨y, hy⟩ : ∃ y, y = l[k] := ⟨_, rfl⟩
      have hym : y.1 < 2 ^ 64 ∧ y.2 ≤ 63 ∧ y.1 * 2 ^ y.2 < 2 ^ 64 := HY.out y (by rw [hy]; exact List.getElem_mem hlt)
      have hx2 : joinN (l.take (k + 1)) = joinN (l.take k) ||| y.1 * 2 ^ y.2 := by rw [List.take_succ_eq_append_getElem hlt, joinN_snoc, hy]
      rw [← hy] at hcp
      obtain ⟨y1, y2⟩ := y
      simp only at hym hx2
      obtain ⟨z, hz⟩ : ∃ z, z = y1 * 2 ^ y2 := ⟨_, rfl⟩
      have e1 : IntKind.u64.wrap ((y1 : Int) * 2 ^ y2) = (z : Int) := by rw [hz, cast_shl, wrap_nat, Nat.mod_eq_of_lt hym.2.2]
      have m1 : min y2 64 = y2 := by omega
      obtain ⟨x2, hx3⟩ : ∃ q, q = x ||| z := ⟨_, rfl⟩
      have e2 : bits .or .u64 (x : Int) (z : Int) = (x2 : Int) := by rw [hx3, u64_or_nat x z (by omega) (by rw [hz]; exact hym.2.2)]
      have hx4 : x2 < 2 ^ 64 := by rw [hx3]; exact or_lt hx (by rw [hz]; exact hym.2.2)
      have HX2 : Hid (x2 = joinN (l.take (k + 1))) := Lib.hid (by rw [hx2, ← HX.out, ← hz, hx3])
      have hki : (k : Int) < (N : Int) := by omega
      obtain ⟨r, hr⟩ : ∃ r, r = V.heap.size := ⟨_, rfl⟩
      obtain ⟨X, hX⟩ : ∃ X, X = (V.alloc (.cells (vec 2 (fldE (0, 0))) 48)).setRow V.heap.size (vec 2 (fldE (y1, y2))) := ⟨_, rfl⟩
      have b1 : Below V.heap.size V X := by rw [hX]; exact below_row ((Below.refl _ _).alloc (Nat.le_refl _) _) (Nat.le_refl _) _
      have a1 : Arr X r 48 2 (fldE (y1, y2)) := by rw [hX, hr]; exact (Arr.new V _ _ _).row _
      have c0 : X.cell? ⟨r, 0, none⟩ = some (.int .u64 (y1 : Int)) := a1.cell (i := 0) (by decide)
      have c1 : X.cell? ⟨r, 1, none⟩ = some (.int .i64 (y2 : Int)) := a1.cell (i := 1) (by decide)
      have HBX := Lib.hid (HB.out.trans (b1.mono HB.out.size))
      have HCP := Lib.hid hcp
      have HVX := Lib.hid hX
      have HRR := Lib.hid hr
      subst ea
      clear hcp hlt hr hX b1 a1 hy hym hx2 hz hx3
      go_upto_region 5 with (first
        | ((with_reducible show wpList _ _ _ (Oper.mk _ (.load _ _) _ _ _ _ :: _) _ _); refine wl_load_q rfl 48 _ rfl p rfl _ (run_load_q HCP.out Try.underlying48 rfl infoFld) ?_)
        | ((with_reducible show wpList _ _ _ (Oper.mk _ (.store _ _ _) _ _ _ _ :: _) _ _); refine wl_store rfl 48 _ _ rfl _ rfl _ rfl (run_store_arr (Arr.new V _ _ _) (fldE (y1, y2)) infoFld (fldE_one _)) ?_))
      rw [← HVX.out, ← HRR.out]
      clear HVX HCP HRR
      go_wp2_with fail
      go_roundw
      case rel => exact ⟨k + 1, x2, by omega, by go_num, rfl, hx4, HX2, HBX⟩
      case measure => simp [intOf]; omega
    · obtain rfl : k = N := by omega
      have HE : Hid (x = joinN l) := Lib.hid (by have h := HX.out; rw [HN.out, List.take_length] at h; exact h)
      go_wp2_with fail
      go_ret
      exact ⟨by rw [HE.out]; rfl, HB.out⟩
set_option maxRecDepth 100000 in
theorem build_7 (x0 x1 x2 x3 x4 x5 x6 : Nat × Nat) (w : World) : (Instr.buildSlice 39 7 #[(0, .agg (vec 2 (fldE x0))), (1, .agg (vec 2 (fldE x1))), (2, .agg (vec 2 (fldE x2))), (3, .agg (vec 2 (fldE x3))), (4, .agg (vec 2 (fldE x4))), (5, .agg (vec 2 (fldE x5))), (6, .agg (vec 2 (fldE x6)))]).run Try.prog w
    = .ok (.slice (some ⟨w.heap.size, 0, none⟩) 7 7) (w.alloc (.cells (cellsE 2 fldE [x0, x1, x2, x3, x4, x5, x6]).toArray 48)) := by
  obtain ⟨i0, hi, hz0, hz1, hz2⟩ := info_parts info_fld
  refine run_buildSlice (P := Try.prog) w 39 48 7 _ _ i0 (.agg (vec 2 (fldE (0, 0)))) Try.underlying39 hi hz0 (by rw [hz1]; decide) (by rw [hz1]; decide) ?_
  rw [hz1]
  kernel_rfl
set_option maxRecDepth 100000 in
theorem ow_7 {o : Oper} {a : Act} {w : World} {K : Act → World → Prop} {Q : Exit → Act → World → Prop} (x0 x1 x2 x3 x4 x5 x6 : Operand) (ho : o.op = .buildSlice 39 7 #[(0, x0), (1, x1), (2, x2), (3, x3), (4, x4), (5, x5), (6, x6)]) (y0 y1 y2 y3 y4 y5 y6 : Nat × Nat)
    (h0 : a.eval x0 = .agg (vec 2 (fldE y0))) (h1 : a.eval x1 = .agg (vec 2 (fldE y1))) (h2 : a.eval x2 = .agg (vec 2 (fldE y2))) (h3 : a.eval x3 = .agg (vec 2 (fldE y3))) (h4 : a.eval x4 = .agg (vec 2 (fldE y4))) (h5 : a.eval x5 = .agg (vec 2 (fldE y5))) (h6 : a.eval x6 = .agg (vec 2 (fldE y6)))
    (h : K (a.put o.dst (.slice (some ⟨w.heap.size, 0, none⟩) 7 7)) (w.alloc (.cells (cellsE 2 fldE [y0, y1, y2, y3, y4, y5, y6]).toArray 48))) : o.wp Try.prog a w K Q :=
  ow_of_run ho (by simp only [List.map_toArray, List.map_cons, List.map_nil, h0, h1, h2, h3, h4, h5, h6]) (build_7 y0 y1 y2 y3 y4 y5 y6 w) h
set_option maxRecDepth 100000 in
theorem build_2 (x0 x1 : Nat × Nat) (w : World) : (Instr.buildSlice 39 2 #[(0, .agg (vec 2 (fldE x0))), (1, .agg (vec 2 (fldE x1)))]).run Try.prog w
    = .ok (.slice (some ⟨w.heap.size, 0, none⟩) 2 2) (w.alloc (.cells (cellsE 2 fldE [x0, x1]).toArray 48)) := by
  obtain ⟨i0, hi, hz0, hz1, hz2⟩ := info_parts info_fld
  refine run_buildSlice (P := Try.prog) w 39 48 2 _ _ i0 (.agg (vec 2 (fldE (0, 0)))) Try.underlying39 hi hz0 (by rw [hz1]; decide) (by rw [hz1]; decide) ?_
  rw [hz1]
  kernel_rfl
set_option maxRecDepth 100000 in
theorem ow_2 {o : Oper} {a : Act} {w : World} {K : Act → World → Prop} {Q : Exit → Act → World → Prop} (x0 x1 : Operand) (ho : o.op = .buildSlice 39 2 #[(0, x0), (1, x1)]) (y0 y1 : Nat × Nat)
    (h0 : a.eval x0 = .agg (vec 2 (fldE y0))) (h1 : a.eval x1 = .agg (vec 2 (fldE y1)))
    (h : K (a.put o.dst (.slice (some ⟨w.heap.size, 0, none⟩) 2 2)) (w.alloc (.cells (cellsE 2 fldE [y0, y1]).toArray 48))) : o.wp Try.prog a w K Q :=
  ow_of_run ho (by simp only [List.map_toArray, List.map_cons, List.map_nil, h0, h1]) (build_2 y0 y1 w) h
set_option maxRecDepth 100000 in
theorem build_1 (x : Nat × Nat) (w : World) : (Instr.buildSlice 39 1 #[(0, .agg (vec 2 (fldE x)))]).run Try.prog w = .ok (.slice (some ⟨w.heap.size, 0, none⟩) 1 1) (w.alloc (.cells (vec 2 (fldE x)) 48)) := by
  obtain ⟨i0, hi, hz0, hz1, hz2⟩ := info_parts info_fld
  refine run_buildSlice (P := Try.prog) w 39 48 1 _ _ i0 (.agg (vec 2 (fldE (0, 0)))) Try.underlying39 hi hz0 (by rw [hz1]; decide) (by rw [hz1]; decide) ?_
  rw [hz1]
  kernel_rfl
def OwnF (w : World) (base : Nat) (v : Value) (l : List (Nat × Nat)) : Prop := OwnE 48 2 fldE w base v l
theorem own_lit (l : List (Nat × Nat)) (n : Nat) (hn : n = l.length) (w : World) (hl : 0 < n ∧ n ≤ 100) : OwnF (w.alloc (.cells (cellsE 2 fldE l).toArray 48)) w.heap.size (.slice (some ⟨w.heap.size, 0, none⟩) n n) l := by
  subst hn
  have h := World.ownsRow_lit (base := w.heap.size) (e := 48) (size := 2) w (cellsE 2 fldE l).toArray l.length (Nat.le_refl _) (by unfold maxLen; omega) (by simp [cellsE_length])
  unfold OwnF OwnE
  simpa using h
/-- What blocks and pages have alike. -/
def mapF (d : Ds) : List (Nat × Nat) := [(d.pa, 0), (if d.mem = 1 then 1 else 15, 2), ((d.perm % 2 == 1).toNat, 6), ((d.perm / 2 % 2 == 1).toNat, 7), (if d.mem = 1 then 2 else 3, 8), (d.af.toNat, 10), ((d.perm / 4 % 2 == 0).toNat, 54)]
theorem keepc {V Y Z : World} {p q s : Addr} {a b c : Value} (hd : Below Y.heap.size Y Z) (h : Below V.heap.size V Y ∧ Y.cell? p = some a ∧ Y.cell? q = some b ∧ Y.cell? s = some c) :
    Below V.heap.size V Z ∧ Z.cell? p = some a ∧ Z.cell? q = some b ∧ Z.cell? s = some c := by
  obtain ⟨h0, h1, h2, h3⟩ := h
  exact ⟨h0.trans (hd.mono h0.size), (hd.cell (World.block_lt_of_cell? Y p h1)).trans h1, (hd.cell (World.block_lt_of_cell? Y q h2)).trans h2, (hd.cell (World.block_lt_of_cell? Y s h3)).trans h3⟩
theorem and_perm (p : Int) (h : 0 ≤ p ∧ p ≤ 7) : (bits .and .i64 p 1 != 0) = (p % 2 == 1) ∧ (bits .and .i64 p 2 != 0) = (p / 2 % 2 == 1) ∧ (bits .and .i64 p 4 == 0) = (p / 4 % 2 == 0) := by
  rcases (by omega : p = 0 ∨ p = 1 ∨ p = 2 ∨ p = 3 ∨ p = 4 ∨ p = 5 ∨ p = 6 ∨ p = 7) with rfl | rfl | rfl | rfl | rfl | rfl | rfl | rfl <;> decide +kernel

set_option maxRecDepth 100000 in
set_option maxHeartbeats 2000000 in
theorem mappingN (d : Ds) (L : Int) (W : World) (hp : 0 ≤ d.perm ∧ d.perm ≤ 7) (hm : ¬ d.mem = 1) : Calls Try.prog 25 #[.agg (vec 6 (plE d L))] W fun e w' => ∃ A, e = .returned (.slice A 7 7) ∧ OwnF w' W.heap.size (.slice A 7 7) (mapF d) ∧ Below W.heap.size W w' := by
  obtain ⟨kd, pa, pm, mm, af⟩ := d
  simp only at hp hm
  obtain ⟨z1, z2, z4⟩ := and_perm pm hp
  have HM : Hid (mapF ⟨kd, pa, pm, mm, af⟩ = [(pa, 0), (15, 2), ((pm % 2 == 1).toNat, 6), ((pm / 2 % 2 == 1).toNat, 7), (3, 8), (af.toNat, 10), ((pm / 4 % 2 == 0).toNat, 54)]) := Lib.hid (by unfold mapF; rw [if_neg hm, if_neg hm])
  rw [HM.out]
  obtain ⟨rb, hrb⟩ : ∃ b, b = (pm % 2 == 1) := ⟨_, rfl⟩
  obtain ⟨wb, hwb⟩ : ∃ b, b = (pm / 2 % 2 == 1) := ⟨_, rfl⟩
  obtain ⟨xb, hxb⟩ : ∃ b, b = (pm / 4 % 2 == 0) := ⟨_, rfl⟩
  obtain ⟨a1, ha1⟩ : ∃ b, bits .and .i64 pm 1 = b := ⟨_, rfl⟩
  obtain ⟨a2, ha2⟩ : ∃ b, bits .and .i64 pm 2 = b := ⟨_, rfl⟩
  obtain ⟨a4, ha4⟩ : ∃ b, bits .and .i64 pm 4 = b := ⟨_, rfl⟩
  rw [ha1, ← hrb] at z1
  rw [ha2, ← hwb] at z2
  rw [ha4, ← hxb] at z4
  rw [← hrb, ← hwb, ← hxb]
  have zm : (mm == 1) = false := by simpa using hm
  have HF : Hid (∀ (b : Bool) (a : Nat) (W : World), Calls Try.prog 26 #[.bool b, .int .i64 (a : Int)] W fun e w' => e = .returned (.agg (vec 2 (fldE (b.toNat, a)))) ∧ Below W.heap.size W w') := Lib.hid flag_any
  obtain ⟨r, hr⟩ : ∃ r, r = W.heap.size := ⟨_, rfl⟩
  obtain ⟨V1, hV⟩ : ∃ V, V = W.alloc (.cells (vec 6 (plE ⟨kd, pa, pm, mm, af⟩ L)) 35) := ⟨_, rfl⟩
  have ar : Arr V1 r 35 6 (plE ⟨kd, pa, pm, mm, af⟩ L) := by rw [hV, hr]; exact Arr.new _ _ _ _
  have HB0 : Hid (Below W.heap.size W V1) := Lib.hid (by rw [hV]; exact (Below.refl _ _).alloc (Nat.le_refl _) _)
  have c1 : V1.cell? ⟨r, 1, none⟩ = some (.int .u64 (pa : Int)) := ar.cell (i := 1) (by decide)
  have c2 : V1.cell? ⟨r, 2, none⟩ = some (.int .i64 pm) := ar.cell (i := 2) (by decide)
  have c3 : V1.cell? ⟨r, 3, none⟩ = some (.int .i64 mm) := ar.cell (i := 3) (by decide)
  have c4 : V1.cell? ⟨r, 4, none⟩ = some (.bool af) := ar.cell (i := 4) (by decide)
  have HV := Lib.hid hV
  have HR := Lib.hid hr
  clear hV hr ar hrb hwb hxb hp HM hm
  go_enter Try.func25, Try.ntmps25
  go_upto_region 1 with fail
  rw [← HV.out, ← HR.out]
  clear HV HR
  go_upto_region 4 with fail
  refine wp_region_held_drew (S := fun Y => Below V1.heap.size V1 Y ∧ Y.cell? ⟨r, 1, none⟩ = some (.int .u64 (pa : Int)) ∧ Y.cell? ⟨r, 2, none⟩ = some (.int .i64 pm) ∧ Y.cell? ⟨r, 4, none⟩ = some (.bool af)) (by kernel_rfl) ⟨below_drewN (Below.refl _ _) 1, c1, c2, c4⟩ (fun hS => ?_)
  (refine held_take (i := 0) (oi := ?ot1) (v := ?vt1) ?at1 (by kernel_rfl) (by kernel_rfl) (by kernel_rfl) ?bt1 ?ct1 ?dt1 (by assumption) ?rt1; (case at1 => (simp only [List.getElem?_toArray, List.getElem?_cons_zero]; rfl)); (case bt1 => exact fun _ _ _ h => h); (case ct1 => kernel_rfl); (case dt1 => (intro W hW; (try dsimp only at hW); go_split_ands; go_simp; (try with_reducible rfl))); (case' rt1 => simp only [Act.put, List.setIfInBounds_toArray, List.set_cons_zero, List.set_cons_succ]))
  (refine held_take (i := 1) (oi := ?ot2) (v := ?vt2) ?at2 (by kernel_rfl) (by kernel_rfl) (by kernel_rfl) ?bt2 ?ct2 ?dt2 (by assumption) ?rt2; (case at2 => (simp only [List.getElem?_toArray, List.getElem?_cons_zero, List.getElem?_cons_succ]; rfl)); (case bt2 => exact fun _ _ _ h => h); (case ct2 => kernel_rfl); (case dt2 => (intro W hW; (try dsimp only at hW); go_split_ands; go_simp; (try with_reducible rfl))); (case' rt2 => simp only [Act.put, List.setIfInBounds_toArray, List.set_cons_zero, List.set_cons_succ]))
  (refine held_take (i := 2) (oi := ?ot3) (v := ?vt3) ?at3 (by kernel_rfl) (by kernel_rfl) (by kernel_rfl) ?bt3 ?ct3 ?dt3 (by assumption) ?rt3; (case at3 => (simp only [List.getElem?_toArray, List.getElem?_cons_zero, List.getElem?_cons_succ]; rfl)); (case bt3 => exact fun _ _ _ h => h); (case ct3 => kernel_rfl); (case dt3 => (intro W hW; (try dsimp only at hW); go_split_ands; go_simp; (try with_reducible rfl))); (case' rt3 => simp only [Act.put, List.setIfInBounds_toArray, List.set_cons_zero, List.set_cons_succ]))
  (refine held_take (i := 3) (oi := ?ot4) (v := .agg (vec 2 (fldE (pa, 0)))) ?at4 (by kernel_rfl) (by kernel_rfl) (by kernel_rfl) ?bt4 ?ct4 ?dt4 (by assumption) ?rt4; (case at4 => (simp only [List.getElem?_toArray, List.getElem?_cons_zero, List.getElem?_cons_succ]; rfl)); (case bt4 => exact fun _ _ _ h => h); (case ct4 => kernel_rfl); (case dt4 => (intro W hW; exact exec_build 48 _ rfl (vec 2 (fldE (pa, 0))) (by kernel_rfl) W)); (case' rt4 => simp only [Act.put, List.setIfInBounds_toArray, List.set_cons_zero, List.set_cons_succ]))
  (refine held_take (i := 4) (oi := ?ot5) (v := ?vt5) ?at5 (by kernel_rfl) (by kernel_rfl) (by kernel_rfl) ?bt5 ?ct5 ?dt5 (by assumption) ?rt5; (case at5 => (simp only [List.getElem?_toArray, List.getElem?_cons_zero, List.getElem?_cons_succ]; rfl)); (case bt5 => exact fun _ _ _ h => h); (case ct5 => kernel_rfl); (case dt5 => (intro W hW; (try dsimp only at hW); go_split_ands; go_simp; (try with_reducible rfl))); (case' rt5 => simp only [Act.put, List.setIfInBounds_toArray, List.set_cons_zero, List.set_cons_succ]))
  (refine held_take (i := 5) (oi := ?ot6) (v := .agg (vec 2 (fldE (15, 2)))) ?at6 (by kernel_rfl) (by kernel_rfl) (by kernel_rfl) ?bt6 ?ct6 ?dt6 (by assumption) ?rt6; (case at6 => (simp only [List.getElem?_toArray, List.getElem?_cons_zero, List.getElem?_cons_succ]; rfl)); (case bt6 => exact fun _ _ _ h => h); (case ct6 => kernel_rfl); (case dt6 => (intro W hW; exact exec_build 48 _ rfl (vec 2 (fldE (15, 2))) (by kernel_rfl) W)); (case' rt6 => simp only [Act.put, List.setIfInBounds_toArray, List.set_cons_zero, List.set_cons_succ]))
  (refine held_take (i := 6) (oi := ?ot7) (v := ?vt7) ?at7 (by kernel_rfl) (by kernel_rfl) (by kernel_rfl) ?bt7 ?ct7 ?dt7 (by assumption) ?rt7; (case at7 => (simp only [List.getElem?_toArray, List.getElem?_cons_zero, List.getElem?_cons_succ]; rfl)); (case bt7 => exact fun _ _ _ h => h); (case ct7 => kernel_rfl); (case dt7 => (intro W hW; (try dsimp only at hW); go_split_ands; go_simp; (try with_reducible rfl))); (case' rt7 => simp only [Act.put, List.setIfInBounds_toArray, List.set_cons_zero, List.set_cons_succ]))
  (refine held_take (i := 7) (oi := ?ot8) (v := ?vt8) ?at8 (by kernel_rfl) (by kernel_rfl) (by kernel_rfl) ?bt8 ?ct8 ?dt8 (by assumption) ?rt8; (case at8 => (simp only [List.getElem?_toArray, List.getElem?_cons_zero, List.getElem?_cons_succ]; rfl)); (case bt8 => exact fun _ _ _ h => h); (case ct8 => kernel_rfl); (case dt8 => (intro W hW; (try dsimp only at hW); go_split_ands; go_simp; (try with_reducible rfl))); (case' rt8 => simp only [Act.put, List.setIfInBounds_toArray, List.set_cons_zero, List.set_cons_succ]))
  (refine held_take (i := 8) (oi := ?ot9) (v := ?vt9) ?at9 (by kernel_rfl) (by kernel_rfl) (by kernel_rfl) ?bt9 ?ct9 ?dt9 (by assumption) ?rt9; (case at9 => (simp only [List.getElem?_toArray, List.getElem?_cons_zero, List.getElem?_cons_succ]; rfl)); (case bt9 => exact fun _ _ _ h => h); (case ct9 => kernel_rfl); (case dt9 => (intro W hW; (try dsimp only at hW); go_split_ands; go_simp; (try with_reducible rfl))); (case' rt9 => simp only [Act.put, List.setIfInBounds_toArray, List.set_cons_zero, List.set_cons_succ]))
  (refine held_take (i := 9) (oi := ?ot10) (v := .int .i64 a1) ?at10 (by kernel_rfl) (by kernel_rfl) (by kernel_rfl) ?bt10 ?ct10 ?dt10 (by assumption) ?rt10; (case at10 => (simp only [List.getElem?_toArray, List.getElem?_cons_zero, List.getElem?_cons_succ]; rfl)); (case bt10 => exact fun _ _ _ h => h); (case ct10 => kernel_rfl); (case dt10 => (intro W hW; clear hW; go_simp; (try with_reducible rfl))); (case' rt10 => simp only [Act.put, List.setIfInBounds_toArray, List.set_cons_zero, List.set_cons_succ]))
  (refine held_take (i := 10) (oi := ?ot11) (v := .bool rb) ?at11 (by kernel_rfl) (by kernel_rfl) (by kernel_rfl) ?bt11 ?ct11 ?dt11 (by assumption) ?rt11; (case at11 => (simp only [List.getElem?_toArray, List.getElem?_cons_zero, List.getElem?_cons_succ]; rfl)); (case bt11 => exact fun _ _ _ h => h); (case ct11 => kernel_rfl); (case dt11 => (intro W hW; clear hW; go_simp; (try with_reducible rfl))); (case' rt11 => simp only [Act.put, List.setIfInBounds_toArray, List.set_cons_zero, List.set_cons_succ]))
  (refine held_take (i := 12) (oi := ?ot12) (v := ?vt12) ?at12 (by kernel_rfl) (by kernel_rfl) (by kernel_rfl) ?bt12 ?ct12 ?dt12 (by assumption) ?rt12; (case at12 => (simp only [List.getElem?_toArray, List.getElem?_cons_zero, List.getElem?_cons_succ]; rfl)); (case bt12 => exact fun _ _ _ h => h); (case ct12 => kernel_rfl); (case dt12 => (intro W hW; (try dsimp only at hW); go_split_ands; go_simp; (try with_reducible rfl))); (case' rt12 => simp only [Act.put, List.setIfInBounds_toArray, List.set_cons_zero, List.set_cons_succ]))
  (refine held_take (i := 13) (oi := ?ot13) (v := ?vt13) ?at13 (by kernel_rfl) (by kernel_rfl) (by kernel_rfl) ?bt13 ?ct13 ?dt13 (by assumption) ?rt13; (case at13 => (simp only [List.getElem?_toArray, List.getElem?_cons_zero, List.getElem?_cons_succ]; rfl)); (case bt13 => exact fun _ _ _ h => h); (case ct13 => kernel_rfl); (case dt13 => (intro W hW; (try dsimp only at hW); go_split_ands; go_simp; (try with_reducible rfl))); (case' rt13 => simp only [Act.put, List.setIfInBounds_toArray, List.set_cons_zero, List.set_cons_succ]))
  (refine held_take (i := 14) (oi := ?ot14) (v := ?vt14) ?at14 (by kernel_rfl) (by kernel_rfl) (by kernel_rfl) ?bt14 ?ct14 ?dt14 (by assumption) ?rt14; (case at14 => (simp only [List.getElem?_toArray, List.getElem?_cons_zero, List.getElem?_cons_succ]; rfl)); (case bt14 => exact fun _ _ _ h => h); (case ct14 => kernel_rfl); (case dt14 => (intro W hW; (try dsimp only at hW); go_split_ands; go_simp; (try with_reducible rfl))); (case' rt14 => simp only [Act.put, List.setIfInBounds_toArray, List.set_cons_zero, List.set_cons_succ]))
  (refine held_take (i := 15) (oi := ?ot15) (v := .int .i64 a2) ?at15 (by kernel_rfl) (by kernel_rfl) (by kernel_rfl) ?bt15 ?ct15 ?dt15 (by assumption) ?rt15; (case at15 => (simp only [List.getElem?_toArray, List.getElem?_cons_zero, List.getElem?_cons_succ]; rfl)); (case bt15 => exact fun _ _ _ h => h); (case ct15 => kernel_rfl); (case dt15 => (intro W hW; clear hW; go_simp; (try with_reducible rfl))); (case' rt15 => simp only [Act.put, List.setIfInBounds_toArray, List.set_cons_zero, List.set_cons_succ]))
  (refine held_take (i := 16) (oi := ?ot16) (v := .bool wb) ?at16 (by kernel_rfl) (by kernel_rfl) (by kernel_rfl) ?bt16 ?ct16 ?dt16 (by assumption) ?rt16; (case at16 => (simp only [List.getElem?_toArray, List.getElem?_cons_zero, List.getElem?_cons_succ]; rfl)); (case bt16 => exact fun _ _ _ h => h); (case ct16 => kernel_rfl); (case dt16 => (intro W hW; clear hW; go_simp; (try with_reducible rfl))); (case' rt16 => simp only [Act.put, List.setIfInBounds_toArray, List.set_cons_zero, List.set_cons_succ]))
  (refine held_take (i := 18) (oi := ?ot17) (v := ?vt17) ?at17 (by kernel_rfl) (by kernel_rfl) (by kernel_rfl) ?bt17 ?ct17 ?dt17 (by assumption) ?rt17; (case at17 => (simp only [List.getElem?_toArray, List.getElem?_cons_zero, List.getElem?_cons_succ]; rfl)); (case bt17 => exact fun _ _ _ h => h); (case ct17 => kernel_rfl); (case dt17 => (intro W hW; (try dsimp only at hW); go_split_ands; go_simp; (try with_reducible rfl))); (case' rt17 => simp only [Act.put, List.setIfInBounds_toArray, List.set_cons_zero, List.set_cons_succ]))
  (refine held_take (i := 19) (oi := ?ot18) (v := .agg (vec 2 (fldE (3, 8)))) ?at18 (by kernel_rfl) (by kernel_rfl) (by kernel_rfl) ?bt18 ?ct18 ?dt18 (by assumption) ?rt18; (case at18 => (simp only [List.getElem?_toArray, List.getElem?_cons_zero, List.getElem?_cons_succ]; rfl)); (case bt18 => exact fun _ _ _ h => h); (case ct18 => kernel_rfl); (case dt18 => (intro W hW; exact exec_build 48 _ rfl (vec 2 (fldE (3, 8))) (by kernel_rfl) W)); (case' rt18 => simp only [Act.put, List.setIfInBounds_toArray, List.set_cons_zero, List.set_cons_succ]))
  (refine held_take (i := 20) (oi := ?ot19) (v := ?vt19) ?at19 (by kernel_rfl) (by kernel_rfl) (by kernel_rfl) ?bt19 ?ct19 ?dt19 (by assumption) ?rt19; (case at19 => (simp only [List.getElem?_toArray, List.getElem?_cons_zero, List.getElem?_cons_succ]; rfl)); (case bt19 => exact fun _ _ _ h => h); (case ct19 => kernel_rfl); (case dt19 => (intro W hW; (try dsimp only at hW); go_split_ands; go_simp; (try with_reducible rfl))); (case' rt19 => simp only [Act.put, List.setIfInBounds_toArray, List.set_cons_zero, List.set_cons_succ]))
  (refine held_take (i := 21) (oi := ?ot20) (v := ?vt20) ?at20 (by kernel_rfl) (by kernel_rfl) (by kernel_rfl) ?bt20 ?ct20 ?dt20 (by assumption) ?rt20; (case at20 => (simp only [List.getElem?_toArray, List.getElem?_cons_zero, List.getElem?_cons_succ]; rfl)); (case bt20 => exact fun _ _ _ h => h); (case ct20 => kernel_rfl); (case dt20 => (intro W hW; (try dsimp only at hW); go_split_ands; go_simp; (try with_reducible rfl))); (case' rt20 => simp only [Act.put, List.setIfInBounds_toArray, List.set_cons_zero, List.set_cons_succ]))
  (refine held_take (i := 22) (oi := ?ot21) (v := ?vt21) ?at21 (by kernel_rfl) (by kernel_rfl) (by kernel_rfl) ?bt21 ?ct21 ?dt21 (by assumption) ?rt21; (case at21 => (simp only [List.getElem?_toArray, List.getElem?_cons_zero, List.getElem?_cons_succ]; rfl)); (case bt21 => exact fun _ _ _ h => h); (case ct21 => kernel_rfl); (case dt21 => (intro W hW; (try dsimp only at hW); go_split_ands; go_simp; (try with_reducible rfl))); (case' rt21 => simp only [Act.put, List.setIfInBounds_toArray, List.set_cons_zero, List.set_cons_succ]))
  (refine held_take (i := 24) (oi := ?ot22) (v := ?vt22) ?at22 (by kernel_rfl) (by kernel_rfl) (by kernel_rfl) ?bt22 ?ct22 ?dt22 (by assumption) ?rt22; (case at22 => (simp only [List.getElem?_toArray, List.getElem?_cons_zero, List.getElem?_cons_succ]; rfl)); (case bt22 => exact fun _ _ _ h => h); (case ct22 => kernel_rfl); (case dt22 => (intro W hW; (try dsimp only at hW); go_split_ands; go_simp; (try with_reducible rfl))); (case' rt22 => simp only [Act.put, List.setIfInBounds_toArray, List.set_cons_zero, List.set_cons_succ]))
  (refine held_take (i := 25) (oi := ?ot23) (v := ?vt23) ?at23 (by kernel_rfl) (by kernel_rfl) (by kernel_rfl) ?bt23 ?ct23 ?dt23 (by assumption) ?rt23; (case at23 => (simp only [List.getElem?_toArray, List.getElem?_cons_zero, List.getElem?_cons_succ]; rfl)); (case bt23 => exact fun _ _ _ h => h); (case ct23 => kernel_rfl); (case dt23 => (intro W hW; (try dsimp only at hW); go_split_ands; go_simp; (try with_reducible rfl))); (case' rt23 => simp only [Act.put, List.setIfInBounds_toArray, List.set_cons_zero, List.set_cons_succ]))
  (refine held_take (i := 26) (oi := ?ot24) (v := ?vt24) ?at24 (by kernel_rfl) (by kernel_rfl) (by kernel_rfl) ?bt24 ?ct24 ?dt24 (by assumption) ?rt24; (case at24 => (simp only [List.getElem?_toArray, List.getElem?_cons_zero, List.getElem?_cons_succ]; rfl)); (case bt24 => exact fun _ _ _ h => h); (case ct24 => kernel_rfl); (case dt24 => (intro W hW; (try dsimp only at hW); go_split_ands; go_simp; (try with_reducible rfl))); (case' rt24 => simp only [Act.put, List.setIfInBounds_toArray, List.set_cons_zero, List.set_cons_succ]))
  (refine held_take (i := 27) (oi := ?ot25) (v := .int .i64 a4) ?at25 (by kernel_rfl) (by kernel_rfl) (by kernel_rfl) ?bt25 ?ct25 ?dt25 (by assumption) ?rt25; (case at25 => (simp only [List.getElem?_toArray, List.getElem?_cons_zero, List.getElem?_cons_succ]; rfl)); (case bt25 => exact fun _ _ _ h => h); (case ct25 => kernel_rfl); (case dt25 => (intro W hW; clear hW; go_simp; (try with_reducible rfl))); (case' rt25 => simp only [Act.put, List.setIfInBounds_toArray, List.set_cons_zero, List.set_cons_succ]))
  (refine held_take (i := 28) (oi := ?ot26) (v := .bool xb) ?at26 (by kernel_rfl) (by kernel_rfl) (by kernel_rfl) ?bt26 ?ct26 ?dt26 (by assumption) ?rt26; (case at26 => (simp only [List.getElem?_toArray, List.getElem?_cons_zero, List.getElem?_cons_succ]; rfl)); (case bt26 => exact fun _ _ _ h => h); (case ct26 => kernel_rfl); (case dt26 => (intro W hW; clear hW; go_simp; (try with_reducible rfl))); (case' rt26 => simp only [Act.put, List.setIfInBounds_toArray, List.set_cons_zero, List.set_cons_succ]))
  refine held_one (i := 11) (oi := ?ot27) (by kernel_rfl) ?at27 ?ct27 (fun K11 hK11 => ?_)
  (case at27 => (simp only [List.getElem?_toArray, List.getElem?_cons_zero, List.getElem?_cons_succ]; rfl))
  (case ct27 => kernel_rfl)
  go_simp
  refine (HF.out rb 6 _).mono ?_
  rintro e y11 ⟨rfl, hd⟩
  refine hK11 _ _ (keepc hd hS) (fun hS11 => ?_)
  clear hS hd hK11 K11
  refine held_one (i := 17) (oi := ?ot28) (by kernel_rfl) ?at28 ?ct28 (fun K17 hK17 => ?_)
  (case at28 => (simp only [List.getElem?_toArray, List.getElem?_cons_zero, List.getElem?_cons_succ]; rfl))
  (case ct28 => kernel_rfl)
  go_simp
  refine (HF.out wb 7 _).mono ?_
  rintro e y17 ⟨rfl, hd⟩
  refine hK17 _ _ (keepc hd hS11) (fun hS17 => ?_)
  clear hS11 hd hK17 K17
  refine held_one (i := 23) (oi := ?ot29) (by kernel_rfl) ?at29 ?ct29 (fun K23 hK23 => ?_)
  (case at29 => (simp only [List.getElem?_toArray, List.getElem?_cons_zero, List.getElem?_cons_succ]; rfl))
  (case ct29 => kernel_rfl)
  go_simp
  refine (HF.out af 10 _).mono ?_
  rintro e y23 ⟨rfl, hd⟩
  refine hK23 _ _ (keepc hd hS17) (fun hS23 => ?_)
  clear hS17 hd hK23 K23
  refine held_one (i := 29) (oi := ?ot30) (by kernel_rfl) ?at30 ?ct30 (fun K29 hK29 => ?_)
  (case at30 => (simp only [List.getElem?_toArray, List.getElem?_cons_zero, List.getElem?_cons_succ]; rfl))
  (case ct30 => kernel_rfl)
  go_simp
  refine (HF.out xb 54 _).mono ?_
  rintro e y29 ⟨rfl, hd⟩
  refine hK29 _ _ (keepc hd hS23) (fun hS29 => ?_)
  clear hS23 hd hK29 K29
  refine held_one (i := 30) (oi := ?ot31) (by kernel_rfl) ?at31 ?ct31 (fun K30 hK30 => ?_)
  (case at31 => (simp only [List.getElem?_toArray, List.getElem?_cons_zero, List.getElem?_cons_succ]; rfl))
  (case ct31 => kernel_rfl)
  refine ow_7 _ _ _ _ _ _ _ rfl (pa, 0) (15, 2) (rb.toNat, 6) (wb.toNat, 7) (3, 8) (af.toNat, 10) (xb.toNat, 54) rfl rfl rfl rfl rfl rfl rfl ?_
  have HOW := Lib.hid (own_lit [(pa, 0), (15, 2), (rb.toNat, 6), (wb.toNat, 7), (3, 8), (af.toNat, 10), (xb.toNat, 54)] 7 rfl y29 (by decide))
  have HBL := Lib.hid (hS29.1)
  refine hK30 _ _ (keepc ((Below.refl _ _).alloc (Nat.le_refl _) _) hS29) (fun hS30 => ?_)
  clear hS29 hK30 K30
  (refine held_take (i := 31) (oi := ?ot32) (v := ?vt32) ?at32 (by kernel_rfl) (by kernel_rfl) (by kernel_rfl) ?bt32 ?ct32 ?dt32 (by assumption) ?rt32; (case at32 => (simp only [List.getElem?_toArray, List.getElem?_cons_zero, List.getElem?_cons_succ]; rfl)); (case bt32 => exact fun _ _ _ h => h); (case ct32 => kernel_rfl); (case dt32 => (intro W hW; (try dsimp only at hW); go_split_ands; go_simp; (try with_reducible rfl))); (case' rt32 => simp only [Act.put, List.setIfInBounds_toArray, List.set_cons_zero, List.set_cons_succ]))
  refine wpAnyH_done (by kernel_rfl) ?_ _
  have HY := Lib.hid (hS30.1)
  clear hS30
  go_wp2_with fail
  go_ret
  exact ⟨_, rfl, HOW.out.low (Nat.le_trans HB0.out.size HBL.out.size), HB0.out.trans (HY.out.mono HB0.out.size)⟩
set_option maxRecDepth 100000 in
set_option maxHeartbeats 2000000 in
theorem mappingD (d : Ds) (L : Int) (W : World) (hp : 0 ≤ d.perm ∧ d.perm ≤ 7) (hm : d.mem = 1) : Calls Try.prog 25 #[.agg (vec 6 (plE d L))] W fun e w' => ∃ A, e = .returned (.slice A 7 7) ∧ OwnF w' W.heap.size (.slice A 7 7) (mapF d) ∧ Below W.heap.size W w' := by
  obtain ⟨kd, pa, pm, mm, af⟩ := d
  simp only at hp hm
  subst hm
  obtain ⟨z1, z2, z4⟩ := and_perm pm hp
  have HM : Hid (mapF ⟨kd, pa, pm, 1, af⟩ = [(pa, 0), (1, 2), ((pm % 2 == 1).toNat, 6), ((pm / 2 % 2 == 1).toNat, 7), (2, 8), (af.toNat, 10), ((pm / 4 % 2 == 0).toNat, 54)]) := Lib.hid (by unfold mapF; simp)
  rw [HM.out]
  obtain ⟨rb, hrb⟩ : ∃ b, b = (pm % 2 == 1) := ⟨_, rfl⟩
  obtain ⟨wb, hwb⟩ : ∃ b, b = (pm / 2 % 2 == 1) := ⟨_, rfl⟩
  obtain ⟨xb, hxb⟩ : ∃ b, b = (pm / 4 % 2 == 0) := ⟨_, rfl⟩
  obtain ⟨a1, ha1⟩ : ∃ b, bits .and .i64 pm 1 = b := ⟨_, rfl⟩
  obtain ⟨a2, ha2⟩ : ∃ b, bits .and .i64 pm 2 = b := ⟨_, rfl⟩
  obtain ⟨a4, ha4⟩ : ∃ b, bits .and .i64 pm 4 = b := ⟨_, rfl⟩
  rw [ha1, ← hrb] at z1
  rw [ha2, ← hwb] at z2
  rw [ha4, ← hxb] at z4
  rw [← hrb, ← hwb, ← hxb]
  have HF : Hid (∀ (b : Bool) (a : Nat) (W : World), Calls Try.prog 26 #[.bool b, .int .i64 (a : Int)] W fun e w' => e = .returned (.agg (vec 2 (fldE (b.toNat, a)))) ∧ Below W.heap.size W w') := Lib.hid flag_any
  obtain ⟨r, hr⟩ : ∃ r, r = W.heap.size := ⟨_, rfl⟩
  obtain ⟨V1, hV⟩ : ∃ V, V = W.alloc (.cells (vec 6 (plE ⟨kd, pa, pm, 1, af⟩ L)) 35) := ⟨_, rfl⟩
  have ar : Arr V1 r 35 6 (plE ⟨kd, pa, pm, 1, af⟩ L) := by rw [hV, hr]; exact Arr.new _ _ _ _
  have HB0 : Hid (Below W.heap.size W V1) := Lib.hid (by rw [hV]; exact (Below.refl _ _).alloc (Nat.le_refl _) _)
  have c1 : V1.cell? ⟨r, 1, none⟩ = some (.int .u64 (pa : Int)) := ar.cell (i := 1) (by decide)
  have c2 : V1.cell? ⟨r, 2, none⟩ = some (.int .i64 pm) := ar.cell (i := 2) (by decide)
  have c3 : V1.cell? ⟨r, 3, none⟩ = some (.int .i64 1) := ar.cell (i := 3) (by decide)
  have c4 : V1.cell? ⟨r, 4, none⟩ = some (.bool af) := ar.cell (i := 4) (by decide)
  have HV := Lib.hid hV
  have HR := Lib.hid hr
  clear hV hr ar hrb hwb hxb hp HM 
  go_enter Try.func25, Try.ntmps25
  go_upto_region 1 with fail
  rw [← HV.out, ← HR.out]
  clear HV HR
  go_upto_region 4 with fail
  refine wp_region_held_drew (S := fun Y => Below V1.heap.size V1 Y ∧ Y.cell? ⟨r, 1, none⟩ = some (.int .u64 (pa : Int)) ∧ Y.cell? ⟨r, 2, none⟩ = some (.int .i64 pm) ∧ Y.cell? ⟨r, 4, none⟩ = some (.bool af)) (by kernel_rfl) ⟨below_drewN (Below.refl _ _) 1, c1, c2, c4⟩ (fun hS => ?_)
  (refine held_take (i := 0) (oi := ?ot33) (v := ?vt33) ?at33 (by kernel_rfl) (by kernel_rfl) (by kernel_rfl) ?bt33 ?ct33 ?dt33 (by assumption) ?rt33; (case at33 => (simp only [List.getElem?_toArray, List.getElem?_cons_zero]; rfl)); (case bt33 => exact fun _ _ _ h => h); (case ct33 => kernel_rfl); (case dt33 => (intro W hW; (try dsimp only at hW); go_split_ands; go_simp; (try with_reducible rfl))); (case' rt33 => simp only [Act.put, List.setIfInBounds_toArray, List.set_cons_zero, List.set_cons_succ]))
  (refine held_take (i := 1) (oi := ?ot34) (v := ?vt34) ?at34 (by kernel_rfl) (by kernel_rfl) (by kernel_rfl) ?bt34 ?ct34 ?dt34 (by assumption) ?rt34; (case at34 => (simp only [List.getElem?_toArray, List.getElem?_cons_zero, List.getElem?_cons_succ]; rfl)); (case bt34 => exact fun _ _ _ h => h); (case ct34 => kernel_rfl); (case dt34 => (intro W hW; (try dsimp only at hW); go_split_ands; go_simp; (try with_reducible rfl))); (case' rt34 => simp only [Act.put, List.setIfInBounds_toArray, List.set_cons_zero, List.set_cons_succ]))
  (refine held_take (i := 2) (oi := ?ot35) (v := ?vt35) ?at35 (by kernel_rfl) (by kernel_rfl) (by kernel_rfl) ?bt35 ?ct35 ?dt35 (by assumption) ?rt35; (case at35 => (simp only [List.getElem?_toArray, List.getElem?_cons_zero, List.getElem?_cons_succ]; rfl)); (case bt35 => exact fun _ _ _ h => h); (case ct35 => kernel_rfl); (case dt35 => (intro W hW; (try dsimp only at hW); go_split_ands; go_simp; (try with_reducible rfl))); (case' rt35 => simp only [Act.put, List.setIfInBounds_toArray, List.set_cons_zero, List.set_cons_succ]))
  (refine held_take (i := 3) (oi := ?ot36) (v := .agg (vec 2 (fldE (pa, 0)))) ?at36 (by kernel_rfl) (by kernel_rfl) (by kernel_rfl) ?bt36 ?ct36 ?dt36 (by assumption) ?rt36; (case at36 => (simp only [List.getElem?_toArray, List.getElem?_cons_zero, List.getElem?_cons_succ]; rfl)); (case bt36 => exact fun _ _ _ h => h); (case ct36 => kernel_rfl); (case dt36 => (intro W hW; exact exec_build 48 _ rfl (vec 2 (fldE (pa, 0))) (by kernel_rfl) W)); (case' rt36 => simp only [Act.put, List.setIfInBounds_toArray, List.set_cons_zero, List.set_cons_succ]))
  (refine held_take (i := 4) (oi := ?ot37) (v := ?vt37) ?at37 (by kernel_rfl) (by kernel_rfl) (by kernel_rfl) ?bt37 ?ct37 ?dt37 (by assumption) ?rt37; (case at37 => (simp only [List.getElem?_toArray, List.getElem?_cons_zero, List.getElem?_cons_succ]; rfl)); (case bt37 => exact fun _ _ _ h => h); (case ct37 => kernel_rfl); (case dt37 => (intro W hW; (try dsimp only at hW); go_split_ands; go_simp; (try with_reducible rfl))); (case' rt37 => simp only [Act.put, List.setIfInBounds_toArray, List.set_cons_zero, List.set_cons_succ]))
  (refine held_take (i := 5) (oi := ?ot38) (v := .agg (vec 2 (fldE (1, 2)))) ?at38 (by kernel_rfl) (by kernel_rfl) (by kernel_rfl) ?bt38 ?ct38 ?dt38 (by assumption) ?rt38; (case at38 => (simp only [List.getElem?_toArray, List.getElem?_cons_zero, List.getElem?_cons_succ]; rfl)); (case bt38 => exact fun _ _ _ h => h); (case ct38 => kernel_rfl); (case dt38 => (intro W hW; exact exec_build 48 _ rfl (vec 2 (fldE (1, 2))) (by kernel_rfl) W)); (case' rt38 => simp only [Act.put, List.setIfInBounds_toArray, List.set_cons_zero, List.set_cons_succ]))
  (refine held_take (i := 6) (oi := ?ot39) (v := ?vt39) ?at39 (by kernel_rfl) (by kernel_rfl) (by kernel_rfl) ?bt39 ?ct39 ?dt39 (by assumption) ?rt39; (case at39 => (simp only [List.getElem?_toArray, List.getElem?_cons_zero, List.getElem?_cons_succ]; rfl)); (case bt39 => exact fun _ _ _ h => h); (case ct39 => kernel_rfl); (case dt39 => (intro W hW; (try dsimp only at hW); go_split_ands; go_simp; (try with_reducible rfl))); (case' rt39 => simp only [Act.put, List.setIfInBounds_toArray, List.set_cons_zero, List.set_cons_succ]))
  (refine held_take (i := 7) (oi := ?ot40) (v := ?vt40) ?at40 (by kernel_rfl) (by kernel_rfl) (by kernel_rfl) ?bt40 ?ct40 ?dt40 (by assumption) ?rt40; (case at40 => (simp only [List.getElem?_toArray, List.getElem?_cons_zero, List.getElem?_cons_succ]; rfl)); (case bt40 => exact fun _ _ _ h => h); (case ct40 => kernel_rfl); (case dt40 => (intro W hW; (try dsimp only at hW); go_split_ands; go_simp; (try with_reducible rfl))); (case' rt40 => simp only [Act.put, List.setIfInBounds_toArray, List.set_cons_zero, List.set_cons_succ]))
  (refine held_take (i := 8) (oi := ?ot41) (v := ?vt41) ?at41 (by kernel_rfl) (by kernel_rfl) (by kernel_rfl) ?bt41 ?ct41 ?dt41 (by assumption) ?rt41; (case at41 => (simp only [List.getElem?_toArray, List.getElem?_cons_zero, List.getElem?_cons_succ]; rfl)); (case bt41 => exact fun _ _ _ h => h); (case ct41 => kernel_rfl); (case dt41 => (intro W hW; (try dsimp only at hW); go_split_ands; go_simp; (try with_reducible rfl))); (case' rt41 => simp only [Act.put, List.setIfInBounds_toArray, List.set_cons_zero, List.set_cons_succ]))
  (refine held_take (i := 9) (oi := ?ot42) (v := .int .i64 a1) ?at42 (by kernel_rfl) (by kernel_rfl) (by kernel_rfl) ?bt42 ?ct42 ?dt42 (by assumption) ?rt42; (case at42 => (simp only [List.getElem?_toArray, List.getElem?_cons_zero, List.getElem?_cons_succ]; rfl)); (case bt42 => exact fun _ _ _ h => h); (case ct42 => kernel_rfl); (case dt42 => (intro W hW; clear hW; go_simp; (try with_reducible rfl))); (case' rt42 => simp only [Act.put, List.setIfInBounds_toArray, List.set_cons_zero, List.set_cons_succ]))
  (refine held_take (i := 10) (oi := ?ot43) (v := .bool rb) ?at43 (by kernel_rfl) (by kernel_rfl) (by kernel_rfl) ?bt43 ?ct43 ?dt43 (by assumption) ?rt43; (case at43 => (simp only [List.getElem?_toArray, List.getElem?_cons_zero, List.getElem?_cons_succ]; rfl)); (case bt43 => exact fun _ _ _ h => h); (case ct43 => kernel_rfl); (case dt43 => (intro W hW; clear hW; go_simp; (try with_reducible rfl))); (case' rt43 => simp only [Act.put, List.setIfInBounds_toArray, List.set_cons_zero, List.set_cons_succ]))
  (refine held_take (i := 12) (oi := ?ot44) (v := ?vt44) ?at44 (by kernel_rfl) (by kernel_rfl) (by kernel_rfl) ?bt44 ?ct44 ?dt44 (by assumption) ?rt44; (case at44 => (simp only [List.getElem?_toArray, List.getElem?_cons_zero, List.getElem?_cons_succ]; rfl)); (case bt44 => exact fun _ _ _ h => h); (case ct44 => kernel_rfl); (case dt44 => (intro W hW; (try dsimp only at hW); go_split_ands; go_simp; (try with_reducible rfl))); (case' rt44 => simp only [Act.put, List.setIfInBounds_toArray, List.set_cons_zero, List.set_cons_succ]))
  (refine held_take (i := 13) (oi := ?ot45) (v := ?vt45) ?at45 (by kernel_rfl) (by kernel_rfl) (by kernel_rfl) ?bt45 ?ct45 ?dt45 (by assumption) ?rt45; (case at45 => (simp only [List.getElem?_toArray, List.getElem?_cons_zero, List.getElem?_cons_succ]; rfl)); (case bt45 => exact fun _ _ _ h => h); (case ct45 => kernel_rfl); (case dt45 => (intro W hW; (try dsimp only at hW); go_split_ands; go_simp; (try with_reducible rfl))); (case' rt45 => simp only [Act.put, List.setIfInBounds_toArray, List.set_cons_zero, List.set_cons_succ]))
  (refine held_take (i := 14) (oi := ?ot46) (v := ?vt46) ?at46 (by kernel_rfl) (by kernel_rfl) (by kernel_rfl) ?bt46 ?ct46 ?dt46 (by assumption) ?rt46; (case at46 => (simp only [List.getElem?_toArray, List.getElem?_cons_zero, List.getElem?_cons_succ]; rfl)); (case bt46 => exact fun _ _ _ h => h); (case ct46 => kernel_rfl); (case dt46 => (intro W hW; (try dsimp only at hW); go_split_ands; go_simp; (try with_reducible rfl))); (case' rt46 => simp only [Act.put, List.setIfInBounds_toArray, List.set_cons_zero, List.set_cons_succ]))
  (refine held_take (i := 15) (oi := ?ot47) (v := .int .i64 a2) ?at47 (by kernel_rfl) (by kernel_rfl) (by kernel_rfl) ?bt47 ?ct47 ?dt47 (by assumption) ?rt47; (case at47 => (simp only [List.getElem?_toArray, List.getElem?_cons_zero, List.getElem?_cons_succ]; rfl)); (case bt47 => exact fun _ _ _ h => h); (case ct47 => kernel_rfl); (case dt47 => (intro W hW; clear hW; go_simp; (try with_reducible rfl))); (case' rt47 => simp only [Act.put, List.setIfInBounds_toArray, List.set_cons_zero, List.set_cons_succ]))
  (refine held_take (i := 16) (oi := ?ot48) (v := .bool wb) ?at48 (by kernel_rfl) (by kernel_rfl) (by kernel_rfl) ?bt48 ?ct48 ?dt48 (by assumption) ?rt48; (case at48 => (simp only [List.getElem?_toArray, List.getElem?_cons_zero, List.getElem?_cons_succ]; rfl)); (case bt48 => exact fun _ _ _ h => h); (case ct48 => kernel_rfl); (case dt48 => (intro W hW; clear hW; go_simp; (try with_reducible rfl))); (case' rt48 => simp only [Act.put, List.setIfInBounds_toArray, List.set_cons_zero, List.set_cons_succ]))
  (refine held_take (i := 18) (oi := ?ot49) (v := ?vt49) ?at49 (by kernel_rfl) (by kernel_rfl) (by kernel_rfl) ?bt49 ?ct49 ?dt49 (by assumption) ?rt49; (case at49 => (simp only [List.getElem?_toArray, List.getElem?_cons_zero, List.getElem?_cons_succ]; rfl)); (case bt49 => exact fun _ _ _ h => h); (case ct49 => kernel_rfl); (case dt49 => (intro W hW; (try dsimp only at hW); go_split_ands; go_simp; (try with_reducible rfl))); (case' rt49 => simp only [Act.put, List.setIfInBounds_toArray, List.set_cons_zero, List.set_cons_succ]))
  (refine held_take (i := 19) (oi := ?ot50) (v := .agg (vec 2 (fldE (2, 8)))) ?at50 (by kernel_rfl) (by kernel_rfl) (by kernel_rfl) ?bt50 ?ct50 ?dt50 (by assumption) ?rt50; (case at50 => (simp only [List.getElem?_toArray, List.getElem?_cons_zero, List.getElem?_cons_succ]; rfl)); (case bt50 => exact fun _ _ _ h => h); (case ct50 => kernel_rfl); (case dt50 => (intro W hW; exact exec_build 48 _ rfl (vec 2 (fldE (2, 8))) (by kernel_rfl) W)); (case' rt50 => simp only [Act.put, List.setIfInBounds_toArray, List.set_cons_zero, List.set_cons_succ]))
  (refine held_take (i := 20) (oi := ?ot51) (v := ?vt51) ?at51 (by kernel_rfl) (by kernel_rfl) (by kernel_rfl) ?bt51 ?ct51 ?dt51 (by assumption) ?rt51; (case at51 => (simp only [List.getElem?_toArray, List.getElem?_cons_zero, List.getElem?_cons_succ]; rfl)); (case bt51 => exact fun _ _ _ h => h); (case ct51 => kernel_rfl); (case dt51 => (intro W hW; (try dsimp only at hW); go_split_ands; go_simp; (try with_reducible rfl))); (case' rt51 => simp only [Act.put, List.setIfInBounds_toArray, List.set_cons_zero, List.set_cons_succ]))
  (refine held_take (i := 21) (oi := ?ot52) (v := ?vt52) ?at52 (by kernel_rfl) (by kernel_rfl) (by kernel_rfl) ?bt52 ?ct52 ?dt52 (by assumption) ?rt52; (case at52 => (simp only [List.getElem?_toArray, List.getElem?_cons_zero, List.getElem?_cons_succ]; rfl)); (case bt52 => exact fun _ _ _ h => h); (case ct52 => kernel_rfl); (case dt52 => (intro W hW; (try dsimp only at hW); go_split_ands; go_simp; (try with_reducible rfl))); (case' rt52 => simp only [Act.put, List.setIfInBounds_toArray, List.set_cons_zero, List.set_cons_succ]))
  (refine held_take (i := 22) (oi := ?ot53) (v := ?vt53) ?at53 (by kernel_rfl) (by kernel_rfl) (by kernel_rfl) ?bt53 ?ct53 ?dt53 (by assumption) ?rt53; (case at53 => (simp only [List.getElem?_toArray, List.getElem?_cons_zero, List.getElem?_cons_succ]; rfl)); (case bt53 => exact fun _ _ _ h => h); (case ct53 => kernel_rfl); (case dt53 => (intro W hW; (try dsimp only at hW); go_split_ands; go_simp; (try with_reducible rfl))); (case' rt53 => simp only [Act.put, List.setIfInBounds_toArray, List.set_cons_zero, List.set_cons_succ]))
  (refine held_take (i := 24) (oi := ?ot54) (v := ?vt54) ?at54 (by kernel_rfl) (by kernel_rfl) (by kernel_rfl) ?bt54 ?ct54 ?dt54 (by assumption) ?rt54; (case at54 => (simp only [List.getElem?_toArray, List.getElem?_cons_zero, List.getElem?_cons_succ]; rfl)); (case bt54 => exact fun _ _ _ h => h); (case ct54 => kernel_rfl); (case dt54 => (intro W hW; (try dsimp only at hW); go_split_ands; go_simp; (try with_reducible rfl))); (case' rt54 => simp only [Act.put, List.setIfInBounds_toArray, List.set_cons_zero, List.set_cons_succ]))
  (refine held_take (i := 25) (oi := ?ot55) (v := ?vt55) ?at55 (by kernel_rfl) (by kernel_rfl) (by kernel_rfl) ?bt55 ?ct55 ?dt55 (by assumption) ?rt55; (case at55 => (simp only [List.getElem?_toArray, List.getElem?_cons_zero, List.getElem?_cons_succ]; rfl)); (case bt55 => exact fun _ _ _ h => h); (case ct55 => kernel_rfl); (case dt55 => (intro W hW; (try dsimp only at hW); go_split_ands; go_simp; (try with_reducible rfl))); (case' rt55 => simp only [Act.put, List.setIfInBounds_toArray, List.set_cons_zero, List.set_cons_succ]))
  (refine held_take (i := 26) (oi := ?ot56) (v := ?vt56) ?at56 (by kernel_rfl) (by kernel_rfl) (by kernel_rfl) ?bt56 ?ct56 ?dt56 (by assumption) ?rt56; (case at56 => (simp only [List.getElem?_toArray, List.getElem?_cons_zero, List.getElem?_cons_succ]; rfl)); (case bt56 => exact fun _ _ _ h => h); (case ct56 => kernel_rfl); (case dt56 => (intro W hW; (try dsimp only at hW); go_split_ands; go_simp; (try with_reducible rfl))); (case' rt56 => simp only [Act.put, List.setIfInBounds_toArray, List.set_cons_zero, List.set_cons_succ]))
  (refine held_take (i := 27) (oi := ?ot57) (v := .int .i64 a4) ?at57 (by kernel_rfl) (by kernel_rfl) (by kernel_rfl) ?bt57 ?ct57 ?dt57 (by assumption) ?rt57; (case at57 => (simp only [List.getElem?_toArray, List.getElem?_cons_zero, List.getElem?_cons_succ]; rfl)); (case bt57 => exact fun _ _ _ h => h); (case ct57 => kernel_rfl); (case dt57 => (intro W hW; clear hW; go_simp; (try with_reducible rfl))); (case' rt57 => simp only [Act.put, List.setIfInBounds_toArray, List.set_cons_zero, List.set_cons_succ]))
  (refine held_take (i := 28) (oi := ?ot58) (v := .bool xb) ?at58 (by kernel_rfl) (by kernel_rfl) (by kernel_rfl) ?bt58 ?ct58 ?dt58 (by assumption) ?rt58; (case at58 => (simp only [List.getElem?_toArray, List.getElem?_cons_zero, List.getElem?_cons_succ]; rfl)); (case bt58 => exact fun _ _ _ h => h); (case ct58 => kernel_rfl); (case dt58 => (intro W hW; clear hW; go_simp; (try with_reducible rfl))); (case' rt58 => simp only [Act.put, List.setIfInBounds_toArray, List.set_cons_zero, List.set_cons_succ]))
  refine held_one (i := 11) (oi := ?ot59) (by kernel_rfl) ?at59 ?ct59 (fun K11 hK11 => ?_)
  (case at59 => (simp only [List.getElem?_toArray, List.getElem?_cons_zero, List.getElem?_cons_succ]; rfl))
  (case ct59 => kernel_rfl)
  go_simp
  refine (HF.out rb 6 _).mono ?_
  rintro e y11 ⟨rfl, hd⟩
  refine hK11 _ _ (keepc hd hS) (fun hS11 => ?_)
  clear hS hd hK11 K11
  refine held_one (i := 17) (oi := ?ot60) (by kernel_rfl) ?at60 ?ct60 (fun K17 hK17 => ?_)
  (case at60 => (simp only [List.getElem?_toArray, List.getElem?_cons_zero, List.getElem?_cons_succ]; rfl))
  (case ct60 => kernel_rfl)
  go_simp
  refine (HF.out wb 7 _).mono ?_
  rintro e y17 ⟨rfl, hd⟩
  refine hK17 _ _ (keepc hd hS11) (fun hS17 => ?_)
  clear hS11 hd hK17 K17
  refine held_one (i := 23) (oi := ?ot61) (by kernel_rfl) ?at61 ?ct61 (fun K23 hK23 => ?_)
  (case at61 => (simp only [List.getElem?_toArray, List.getElem?_cons_zero, List.getElem?_cons_succ]; rfl))
  (case ct61 => kernel_rfl)
  go_simp
  refine (HF.out af 10 _).mono ?_
  rintro e y23 ⟨rfl, hd⟩
  refine hK23 _ _ (keepc hd hS17) (fun hS23 => ?_)
  clear hS17 hd hK23 K23
  refine held_one (i := 29) (oi := ?ot62) (by kernel_rfl) ?at62 ?ct62 (fun K29 hK29 => ?_)
  (case at62 => (simp only [List.getElem?_toArray, List.getElem?_cons_zero, List.getElem?_cons_succ]; rfl))
  (case ct62 => kernel_rfl)
  go_simp
  refine (HF.out xb 54 _).mono ?_
  rintro e y29 ⟨rfl, hd⟩
  refine hK29 _ _ (keepc hd hS23) (fun hS29 => ?_)
  clear hS23 hd hK29 K29
  refine held_one (i := 30) (oi := ?ot63) (by kernel_rfl) ?at63 ?ct63 (fun K30 hK30 => ?_)
  (case at63 => (simp only [List.getElem?_toArray, List.getElem?_cons_zero, List.getElem?_cons_succ]; rfl))
  (case ct63 => kernel_rfl)
  refine ow_7 _ _ _ _ _ _ _ rfl (pa, 0) (1, 2) (rb.toNat, 6) (wb.toNat, 7) (2, 8) (af.toNat, 10) (xb.toNat, 54) rfl rfl rfl rfl rfl rfl rfl ?_
  have HOW := Lib.hid (own_lit [(pa, 0), (1, 2), (rb.toNat, 6), (wb.toNat, 7), (2, 8), (af.toNat, 10), (xb.toNat, 54)] 7 rfl y29 (by decide))
  have HBL := Lib.hid (hS29.1)
  refine hK30 _ _ (keepc ((Below.refl _ _).alloc (Nat.le_refl _) _) hS29) (fun hS30 => ?_)
  clear hS29 hK30 K30
  (refine held_take (i := 31) (oi := ?ot64) (v := ?vt64) ?at64 (by kernel_rfl) (by kernel_rfl) (by kernel_rfl) ?bt64 ?ct64 ?dt64 (by assumption) ?rt64; (case at64 => (simp only [List.getElem?_toArray, List.getElem?_cons_zero, List.getElem?_cons_succ]; rfl)); (case bt64 => exact fun _ _ _ h => h); (case ct64 => kernel_rfl); (case dt64 => (intro W hW; (try dsimp only at hW); go_split_ands; go_simp; (try with_reducible rfl))); (case' rt64 => simp only [Act.put, List.setIfInBounds_toArray, List.set_cons_zero, List.set_cons_succ]))
  refine wpAnyH_done (by kernel_rfl) ?_ _
  have HY := Lib.hid (hS30.1)
  clear hS30
  go_wp2_with fail
  go_ret
  exact ⟨_, rfl, HOW.out.low (Nat.le_trans HB0.out.size HBL.out.size), HB0.out.trans (HY.out.mono HB0.out.size)⟩
theorem mapping_any (d : Ds) (L : Int) (W : World) (hp : 0 ≤ d.perm ∧ d.perm ≤ 7) : Calls Try.prog 25 #[.agg (vec 6 (plE d L))] W fun e w' => ∃ A, e = .returned (.slice A 7 7) ∧ OwnF w' W.heap.size (.slice A 7 7) (mapF d) ∧ Below W.heap.size W w' := by
  by_cases hm : d.mem = 1
  · exact mappingD d L W hp hm
  · exact mappingN d L W hp hm
end Go.Proofs.Ytblmikmmmomflaa
