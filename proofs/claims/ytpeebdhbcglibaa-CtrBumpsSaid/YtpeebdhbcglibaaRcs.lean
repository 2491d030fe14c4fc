/- The reference: both slots' words of a counter. -/
import Derived.Test.YtpeebdhbcglibaaCo
import Derived.Test.YtpeebdhbcglibaaQc
namespace Go.Proofs.Ytpeebdhbcglibaa
open Go.RowKit

theorem infoQ2 : (Try.prog.info? 74).map (·.size) = some 8 := by kernel_rfl
theorem zeroQ2 (w : World) : (zeroValue 74).run Try.prog w = .ok (.agg (vec 8 (wds zw))) w :=
  (zero_of_info (P := Try.prog) (t := 74) (v := .agg (vec 8 (wds zw))) (n := 8) (by kernel_rfl)).1 w
/-- The reference's words can be read. -/
structure RD (w : World) (r : Nat) (A : Option Addr) (c : Nat) (ws : List W32) : Prop where
  c0 : w.cell? ⟨r, 0, none⟩ = some (.slice A ws.length c)
  li : Lies w w.heap.size 1 A ws.length (u32s ws)
theorem RD.under {w w' : World} {r c : Nat} {A : Option Addr} {ws : List W32} (h : RD w r A c ws) (hb : Below w.heap.size w w') : RD w' r A c ws :=
  ⟨(hb.cell (World.block_lt_of_cell? w _ h.c0)).trans h.c0, (h.li.below hb).wide hb.size⟩
attribute [local go_sem ↓ high] zeroQ2
set_option maxRecDepth 100000 in
set_option maxHeartbeats 1000000 in
theorem rslots_any {w : World} {r c : Nat} {A : Option Addr} {ws : List W32} (h : RD w r A c ws) (hl : ws.length ≤ 100000) (id : Nat) (hi : id < ws.length / 8) :
    Calls Try.prog 29 #[.pointer (some ⟨r, 0, none⟩), .int .i64 (id : Int)] w fun e w' => e = .returned (.agg (vec 8 (wds (fromA ws (8 * id))))) ∧ Below w.heap.size w w' := by
  obtain ⟨a, rfl, -⟩ := u32_at h.li (k := 0) (by omega)
  obtain ⟨n, hn⟩ : ∃ n, n = ws.length := ⟨_, rfl⟩
  obtain ⟨f, hf⟩ : ∃ f, f = fromA ws (8 * id) := ⟨_, rfl⟩
  have HRD : Hid (∀ Y k, Below w.heap.size w Y → k < 8 → Y.cell? ⟨r, 0, none⟩ = some (.slice (some a) n c) ∧ Y.cell? (a.add (8 * id + k)) = some (.int .u32 (num (f k)))) := Lib.hid fun Y k hY hk => by
    have hY2 := h.under hY
    have hk2 : 8 * id + k < ws.length := by omega
    refine ⟨by rw [hn]; exact hY2.c0, ?_⟩
    obtain ⟨b, e, hb⟩ := u32_at hY2.li hk2
    cases e
    rw [hb, hf]
    unfold fromA
    rw [List.getD_eq_getElem?_getD, List.getElem?_eq_getElem hk2]
    rfl
  rw [← hf]
  have hi2 : 8 * id + 8 ≤ n := by omega
  have hn2 : n ≤ 100000 := by omega
  clear h hl hi hf hn
  go_enter Try.func29, Try.ntmps29
  go_upto_region 2 with fail
  obtain ⟨V, hV⟩ : ∃ V, V = (w.alloc (.cells (vec 8 (wds zw)) 74)).alloc (.cells (vec 8 (wds zw)) 74) := ⟨_, rfl⟩
  have hB : Below w.heap.size w V := by rw [hV]; exact ((Below.refl _ _).alloc (Nat.le_refl _) _).alloc (by simp) _
  have hZ : Arr V w.heap.size 74 8 (wds zw) := by rw [hV]; exact (Arr.new _ _ _ _).alloc _
  have hY : Arr V (w.heap.size + 1) 74 8 (wds (partF f 0)) := by rw [hV, partF_zero]; exact Arr.newAt _ _ _ _ (by simp)
  have HI0 := Lib.hid (And.intro hB (And.intro hZ hY))
  rw [← hV]
  clear hV hB hZ hY
  go_wp2
  go_loopw [6] (fun vi wr => ∃ k : Nat, k ≤ 8 ∧ vi = .int .i64 k ∧ Hid (Below w.heap.size w wr ∧ Arr wr w.heap.size 74 8 (wds zw) ∧ Arr wr (w.heap.size + 1) 74 8 (wds (partF f k)))) (fun vi _ => 8 - (intOf vi).toNat)
  case atStart => exact ⟨0, by decide, rfl, HI0⟩
  case round =>
    obtain ⟨k, hk, rfl, hI⟩ := hrel
    clear HI0
    by_cases hlt : k < 8
    · obtain ⟨d, hd⟩ : ∃ d, d = k / 4 := ⟨_, rfl⟩
      obtain ⟨m, hm⟩ : ∃ m, m = k % 4 := ⟨_, rfl⟩
      have hdm : d * 4 + m = k := by omega
      have hd4 : (k : Int) / 4 = (d : Int) := by omega
      have hm4 : (k : Int) % 4 = (m : Int) := by omega
      have hdl : d < 2 := by omega
      have hml : m < 4 := by omega
      obtain ⟨b, hb⟩ : ∃ b : Int, b = 8 * (id : Int) := ⟨_, rfl⟩
      have hb8 := hb.symm
      obtain ⟨j, hj⟩ : ∃ j, j = 8 * id + k := ⟨_, rfl⟩
      have hbl : 0 ≤ b ∧ b ≤ 100000 := by omega
      have e9 : IntKind.i64.wrap (b + (k : Int)) = (j : Int) := by rw [IntKind.wrap_i64]; omega
      have hjn : j < n := by omega
      have wd : IntKind.i64.wrap (d : Int) = (d : Int) := by rw [IntKind.wrap_i64]; omega
      have wb : IntKind.i64.wrap b = b := by rw [IntKind.wrap_i64]; omega
      have hmt : (k : Int).tmod 4 = (m : Int) := by rw [Int.tmod_eq_emod_of_nonneg (by omega)]; exact hm4
      obtain ⟨y, hy⟩ : ∃ y, y = f k := ⟨_, rfl⟩
      have HB : Hid (∀ Y, Save (w.heap.size + 1) wr Y → Y.cell? ⟨r, 0, none⟩ = some (.slice (some a) n c) ∧ Y.cell? (a.add j) = some (.int .u32 (num y))) := Lib.hid fun Y hY => by
        have := HRD.out Y k (hI.out.1.trans (hY.below (by omega) hI.out.1.size)) hlt
        rw [hj, hy]
        exact this
      have HY := Lib.hid hy
      have HAR : Hid (Arr wr.drew (w.heap.size + 1) 74 8 (wds (partF f k))) := Lib.hid hI.out.2.2
      have HK := Lib.hid hlt
      have hk8 : (k : Int) < 8 := by omega
      clear hd hm hb hj hy hi2 hlt hk
      go_upto_region 5 with fail
      refine wp_region_held_drew (S := fun Y => Save (w.heap.size + 1) wr Y) (by kernel_rfl) (show Save (w.heap.size + 1) wr wr.drew from ⟨rfl, rfl, rfl, Nat.le_refl _, fun _ _ _ => rfl⟩) (fun hS => ?_)
      (refine held_take (i := 0) (oi := ?ot1) (v := ?vt1) ?at1 (by kernel_rfl) (by kernel_rfl) (by kernel_rfl) ?bt1 ?ct1 ?dt1 (by assumption) ?rt1; (case at1 => (simp only [List.getElem?_toArray, List.getElem?_cons_zero]; rfl)); (case bt1 => exact fun _ _ _ h => h); (case ct1 => kernel_rfl); (case dt1 => (intro W hW; (try dsimp only at hW); go_split_ands; go_simp; (try with_reducible rfl))); (case' rt1 => simp only [Act.put, List.setIfInBounds_toArray, List.set_cons_zero, List.set_cons_succ]))
      (refine held_take (i := 1) (oi := ?ot2) (v := ?vt2) ?at2 (by kernel_rfl) (by kernel_rfl) (by kernel_rfl) ?bt2 ?ct2 ?dt2 (by assumption) ?rt2; (case at2 => (simp only [List.getElem?_toArray, List.getElem?_cons_zero, List.getElem?_cons_succ]; rfl)); (case bt2 => exact fun _ _ _ h => h); (case ct2 => kernel_rfl); (case dt2 => (intro W hW; (try dsimp only at hW); go_split_ands; go_simp; (try with_reducible rfl))); (case' rt2 => simp only [Act.put, List.setIfInBounds_toArray, List.set_cons_zero, List.set_cons_succ]))
      (refine held_take (i := 2) (oi := ?ot3) (v := ?vt3) ?at3 (by kernel_rfl) (by kernel_rfl) (by kernel_rfl) ?bt3 ?ct3 ?dt3 (by assumption) ?rt3; (case at3 => (simp only [List.getElem?_toArray, List.getElem?_cons_zero, List.getElem?_cons_succ]; rfl)); (case bt3 => exact fun _ _ _ h => h); (case ct3 => kernel_rfl); (case dt3 => (intro W hW; (try dsimp only at hW); go_split_ands; go_simp; (try with_reducible rfl))); (case' rt3 => simp only [Act.put, List.setIfInBounds_toArray, List.set_cons_zero, List.set_cons_succ]))
      (refine held_take (i := 3) (oi := ?ot4) (v := ?vt4) ?at4 (by kernel_rfl) (by kernel_rfl) (by kernel_rfl) ?bt4 ?ct4 ?dt4 (by assumption) ?rt4; (case at4 => (simp only [List.getElem?_toArray, List.getElem?_cons_zero, List.getElem?_cons_succ]; rfl)); (case bt4 => exact fun _ _ _ h => h); (case ct4 => kernel_rfl); (case dt4 => (intro W hW; (try dsimp only at hW); go_split_ands; go_simp; (try with_reducible rfl))); (case' rt4 => simp only [Act.put, List.setIfInBounds_toArray, List.set_cons_zero, List.set_cons_succ]))
      (refine held_take (i := 4) (oi := ?ot5) (v := ?vt5) ?at5 (by kernel_rfl) (by kernel_rfl) (by kernel_rfl) ?bt5 ?ct5 ?dt5 (by assumption) ?rt5; (case at5 => (simp only [List.getElem?_toArray, List.getElem?_cons_zero, List.getElem?_cons_succ]; rfl)); (case bt5 => exact fun _ _ _ h => h); (case ct5 => kernel_rfl); (case dt5 => (intro W hW; (try dsimp only at hW); go_split_ands; go_simp; (try with_reducible rfl))); (case' rt5 => simp only [Act.put, List.setIfInBounds_toArray, List.set_cons_zero, List.set_cons_succ]))
      (refine held_take (i := 5) (oi := ?ot6) (v := ?vt6) ?at6 (by kernel_rfl) (by kernel_rfl) (by kernel_rfl) ?bt6 ?ct6 ?dt6 (by assumption) ?rt6; (case at6 => (simp only [List.getElem?_toArray, List.getElem?_cons_zero, List.getElem?_cons_succ]; rfl)); (case bt6 => exact fun _ _ _ h => h); (case ct6 => kernel_rfl); (case dt6 => (intro W hW; (try dsimp only at hW); go_split_ands; go_simp; (try with_reducible rfl))); (case' rt6 => simp only [Act.put, List.setIfInBounds_toArray, List.set_cons_zero, List.set_cons_succ]))
      (refine held_take (i := 6) (oi := ?ot7) (v := ?vt7) ?at7 (by kernel_rfl) (by kernel_rfl) (by kernel_rfl) ?bt7 ?ct7 ?dt7 (by assumption) ?rt7; (case at7 => (simp only [List.getElem?_toArray, List.getElem?_cons_zero, List.getElem?_cons_succ]; rfl)); (case bt7 => exact fun _ _ _ h => h); (case ct7 => kernel_rfl); (case dt7 => (intro W hW; (try dsimp only at hW); go_split_ands; go_simp; (try with_reducible rfl))); (case' rt7 => simp only [Act.put, List.setIfInBounds_toArray, List.set_cons_zero, List.set_cons_succ]))
      (refine held_take (i := 7) (oi := ?ot8) (v := .slice (some a) n c) ?at8 (by kernel_rfl) (by kernel_rfl) (by kernel_rfl) ?bt8 ?ct8 ?dt8 (by assumption) ?rt8; (case at8 => (simp only [List.getElem?_toArray, List.getElem?_cons_zero, List.getElem?_cons_succ]; rfl)); (case bt8 => exact fun _ _ _ h => h); (case ct8 => kernel_rfl); (case dt8 => (intro W hW; have c0 := (HB.out W hW).1; clear hW; go_simp; (try with_reducible rfl))); (case' rt8 => simp only [Act.put, List.setIfInBounds_toArray, List.set_cons_zero, List.set_cons_succ]))
      (refine held_take (i := 8) (oi := ?ot9) (v := ?vt9) ?at9 (by kernel_rfl) (by kernel_rfl) (by kernel_rfl) ?bt9 ?ct9 ?dt9 (by assumption) ?rt9; (case at9 => (simp only [List.getElem?_toArray, List.getElem?_cons_zero, List.getElem?_cons_succ]; rfl)); (case bt9 => exact fun _ _ _ h => h); (case ct9 => kernel_rfl); (case dt9 => (intro W hW; (try dsimp only at hW); go_split_ands; go_simp; (try with_reducible rfl))); (case' rt9 => simp only [Act.put, List.setIfInBounds_toArray, List.set_cons_zero, List.set_cons_succ]))
      (refine held_take (i := 9) (oi := ?ot10) (v := ?vt10) ?at10 (by kernel_rfl) (by kernel_rfl) (by kernel_rfl) ?bt10 ?ct10 ?dt10 (by assumption) ?rt10; (case at10 => (simp only [List.getElem?_toArray, List.getElem?_cons_zero, List.getElem?_cons_succ]; rfl)); (case bt10 => exact fun _ _ _ h => h); (case ct10 => kernel_rfl); (case dt10 => (intro W hW; (try dsimp only at hW); go_split_ands; go_simp; (try with_reducible rfl))); (case' rt10 => simp only [Act.put, List.setIfInBounds_toArray, List.set_cons_zero, List.set_cons_succ]))
      (refine held_take (i := 10) (oi := ?ot11) (v := ?vt11) ?at11 (by kernel_rfl) (by kernel_rfl) (by kernel_rfl) ?bt11 ?ct11 ?dt11 (by assumption) ?rt11; (case at11 => (simp only [List.getElem?_toArray, List.getElem?_cons_zero, List.getElem?_cons_succ]; rfl)); (case bt11 => exact fun _ _ _ h => h); (case ct11 => kernel_rfl); (case dt11 => (intro W hW; (try dsimp only at hW); go_split_ands; go_simp; (try with_reducible rfl))); (case' rt11 => simp only [Act.put, List.setIfInBounds_toArray, List.set_cons_zero, List.set_cons_succ]))
      (refine held_take (i := 11) (oi := ?ot12) (v := .int .i64 (j : Int)) ?at12 (by kernel_rfl) (by kernel_rfl) (by kernel_rfl) ?bt12 ?ct12 ?dt12 (by assumption) ?rt12; (case at12 => (simp only [List.getElem?_toArray, List.getElem?_cons_zero, List.getElem?_cons_succ]; rfl)); (case bt12 => exact fun _ _ _ h => h); (case ct12 => kernel_rfl); (case dt12 => (intro W hW; clear hW; go_simp; (try with_reducible rfl))); (case' rt12 => simp only [Act.put, List.setIfInBounds_toArray, List.set_cons_zero, List.set_cons_succ]))
      (refine held_take (i := 12) (oi := ?ot13) (v := .pointer (some (a.add j))) ?at13 (by kernel_rfl) (by kernel_rfl) (by kernel_rfl) ?bt13 ?ct13 ?dt13 (by assumption) ?rt13; (case at13 => (simp only [List.getElem?_toArray, List.getElem?_cons_zero, List.getElem?_cons_succ]; rfl)); (case bt13 => exact fun _ _ _ h => h); (case ct13 => kernel_rfl); (case dt13 => (intro W hW; clear hW; go_simp; (try with_reducible rfl); (try (intro h; omega)))); (case' rt13 => simp only [Act.put, List.setIfInBounds_toArray, List.set_cons_zero, List.set_cons_succ]))
      (refine held_take (i := 13) (oi := ?ot14) (v := .int .u32 (num y)) ?at14 (by kernel_rfl) (by kernel_rfl) (by kernel_rfl) ?bt14 ?ct14 ?dt14 (by assumption) ?rt14; (case at14 => (simp only [List.getElem?_toArray, List.getElem?_cons_zero, List.getElem?_cons_succ]; rfl)); (case bt14 => exact fun _ _ _ h => h); (case ct14 => kernel_rfl); (case dt14 => (intro W hW; have c0 := (HB.out W hW).2; clear hW; go_simp; (try with_reducible rfl))); (case' rt14 => simp only [Act.put, List.setIfInBounds_toArray, List.set_cons_zero, List.set_cons_succ]))
      (refine held_take (i := 14) (oi := ?ot15) (v := .pointer (some ⟨w.heap.size + 1, d * 4, none⟩)) ?at15 (by kernel_rfl) (by kernel_rfl) (by kernel_rfl) ?bt15 ?ct15 ?dt15 (by assumption) ?rt15; (case at15 => (simp only [List.getElem?_toArray, List.getElem?_cons_zero, List.getElem?_cons_succ]; rfl)); (case bt15 => exact fun _ _ _ h => h); (case ct15 => kernel_rfl); (case dt15 => (intro W hW; clear hW; go_simp; (try with_reducible rfl); (try (intro h; omega)))); (case' rt15 => simp only [Act.put, List.setIfInBounds_toArray, List.set_cons_zero, List.set_cons_succ]))
      (refine held_take (i := 15) (oi := ?ot16) (v := .pointer (some ⟨w.heap.size + 1, k, none⟩)) ?at16 (by kernel_rfl) (by kernel_rfl) (by kernel_rfl) ?bt16 ?ct16 ?dt16 (by assumption) ?rt16; (case at16 => (simp only [List.getElem?_toArray, List.getElem?_cons_zero, List.getElem?_cons_succ]; rfl)); (case bt16 => exact fun _ _ _ h => h); (case ct16 => kernel_rfl); (case dt16 => (intro W hW; clear hW; go_simp; (try rw [hdm]); (try with_reducible rfl); (try (intro h; omega)))); (case' rt16 => simp only [Act.put, List.setIfInBounds_toArray, List.set_cons_zero, List.set_cons_succ]))
      refine held_one (i := 16) (oi := ?ot17) (by kernel_rfl) ?at17 ?ct17 (fun K16 hK16 => ?_)
      (case at17 => (simp only [List.getElem?_toArray, List.getElem?_cons_zero, List.getElem?_cons_succ]; rfl))
      (case ct17 => kernel_rfl)
      have hSb := hS
      have cg := HAR.out.cell HK.out
      have fg := HAR.out.frozen k
      go_simp
      refine hK16 _ _ (hSb.setCell k _) (fun hS16 => ?_)
      clear hK16 K16 cg fg
      refine wpAnyH_done (by kernel_rfl) ?_ _
      have HS := Lib.hid hS16
      clear hS16
      go_wp2
      go_roundw
      case rel => exact ⟨k + 1, HK.out, by go_num, Lib.hid ⟨hI.out.1.trans (HS.out.below (by omega) hI.out.1.size), hI.out.2.1.save HS.out (by omega), by rw [← partF_succ, ← HY.out, ← wds_upd]; exact HAR.out.set k _⟩⟩
      case measure => have := HK.out; simp [intOf]; omega
    · obtain rfl : k = 8 := by omega
      clear hlt hk
      go_wp2_with (first
        | ((with_reducible show wpList _ _ _ (Oper.mk _ (.load 74 _) _ _ _ _ :: _) _ _); refine wl_load rfl 74 _ rfl _ rfl _ (run_load_arr hI.out.2.2 Try.underlying74 rfl infoQ2) ?_)
        | ((with_reducible show wpList _ _ _ (Oper.mk _ (.store 74 _ _) _ _ _ _ :: _) _ _); refine wl_store rfl 74 _ _ rfl _ rfl _ rfl (run_store_arr hI.out.2.1 (wds (partF f 8)) infoQ2 (wds_one _ _)) ?_))
      refine bodyPost_ret (results_cell1 rfl _ _ _ rfl (run_load_arr (hI.out.2.1.row _) Try.underlying74 rfl infoQ2)) rfl ⟨?_, below_row hI.out.1 (by omega) _⟩
      exact congrArg (fun z => Ending.returned (Value.agg z)) (vec_congr fun i hi => by unfold wds partF; rw [if_pos hi])
end Go.Proofs.Ytpeebdhbcglibaa
