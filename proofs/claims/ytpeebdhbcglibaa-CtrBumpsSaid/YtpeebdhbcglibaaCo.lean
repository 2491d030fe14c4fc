/- ctr: how many counters, which there are, where a slot lies; a slot's words. -/
import Derived.Test.YtpeebdhbcglibaaCw
import Derived.Test.YtpeebdhbcglibaaQe
import Derived.Test.YtpeebdhbcglibaaNr
namespace Go.Proofs.Ytpeebdhbcglibaa
open Go.RowKit

attribute [local go_sem ↓ high] zeroQ
theorem infoC : (Try.prog.info? 71).map (·.size) = some 2 := by kernel_rfl
section
variable {w : World} {G : Nat → Prop} {p c : Nat} {s : St} {v : Value} {A : Option Addr}
theorem cnt_any (h : NC w G p s v A c) (hl : s.ws.length ≤ 1000000) : Calls Try.prog 12 #[.pointer (some ⟨p, 0, none⟩)] w fun e w' => e = .returned (.int .i64 ((s.ws.length / 8 : Nat) : Int)) ∧ w = w' := by
  have HL := Lib.hid (len_any h)
  obtain ⟨L, hL⟩ : ∃ L, L = s.ws.length := ⟨_, rfl⟩
  rw [← hL] at HL hl ⊢
  obtain ⟨n, hn⟩ : ∃ n, n = L / 8 := ⟨_, rfl⟩
  have e8 : (L : Int) / 8 = (n : Int) := by omega
  have hb : n ≤ 1000000 := by omega
  rw [← hn]
  clear h hL hn
  go_enter Try.func12, Try.ntmps12
  go_wp2_with (go_at_call 31; refine HL.out.mono ?_; rintro e w1 ⟨rfl, rfl⟩)
  go_ret
  exact ⟨rfl, rfl⟩
set_option maxRecDepth 100000 in
theorem there_any (h : NC w G p s v A c) (hl : s.ws.length ≤ 1000000) (id : Int) : Calls Try.prog 40 #[.agg #[.pointer (some ⟨p, 0, none⟩), .int .i64 id]] w fun e w' => e = .returned (.bool (decide (0 ≤ id ∧ id < ((s.ws.length / 8 : Nat) : Int)))) ∧ Below w.heap.size w w' := by
  have HC : Hid (∀ W, Below w.heap.size w W → Calls Try.prog 12 #[.pointer (some ⟨p, 0, none⟩)] W fun e w' => e = .returned (.int .i64 ((s.ws.length / 8 : Nat) : Int)) ∧ W = w') := Lib.hid fun W hW => cnt_any (h.under hW) hl
  obtain ⟨n, hn⟩ : ∃ n, n = s.ws.length / 8 := ⟨_, rfl⟩
  rw [← hn] at HC ⊢
  clear h hl hn
  by_cases h0 : 0 ≤ id
  · have d0 : decide (0 ≤ id) = true := decide_eq_true h0
    have e1 : decide (0 ≤ id ∧ id < (n : Int)) = decide (id < (n : Int)) := by
      by_cases h1 : id < (n : Int)
      · rw [decide_eq_true h1, decide_eq_true ⟨h0, h1⟩]
      · rw [decide_eq_false h1, decide_eq_false fun h => h1 h.2]
    rw [e1]
    clear e1
    go_enter Try.func40, Try.ntmps40
    go_upto_region 1 with fail
    go_quiet ((go_at_call 12; exact quiet_eq (HC.out _ (below_drewN ((Below.refl _ _).alloc (Nat.le_refl _) _) _))))
    go_wp2
    go_ret
    exact ⟨rfl, (below_drewN ((Below.refl _ _).alloc (Nat.le_refl _) _) _)⟩
  · have d0 : decide (0 ≤ id) = false := decide_eq_false h0
    rw [decide_eq_false fun h : 0 ≤ id ∧ id < (n : Int) => h0 h.1]
    go_enter Try.func40, Try.ntmps40
    go_upto_region 1 with fail
    go_quiet (fail)
    go_wp2
    go_ret
    exact ⟨rfl, (below_drewN ((Below.refl _ _).alloc (Nat.le_refl _) _) _)⟩
end
theorem at_any (p id pl : Nat) (hid : id ≤ 100000) (hpl : pl ≤ 1) (w : World) : Calls Try.prog 45 #[.agg #[.pointer (some ⟨p, 0, none⟩), .int .i64 (id : Int)], .int .i64 (pl : Int)] w fun e w' => e = .returned (.int .i64 ((8 * id + 4 * pl : Nat) : Int)) ∧ Below w.heap.size w w' := by
  obtain ⟨a, ha⟩ : ∃ a : Int, a = (id : Int) * 8 := ⟨_, rfl⟩
  obtain ⟨b, hb⟩ : ∃ b : Int, b = (pl : Int) * 4 := ⟨_, rfl⟩
  obtain ⟨d, hd⟩ : ∃ d : Int, d = a + b := ⟨_, rfl⟩
  have e1 := ha.symm
  have e2 := hb.symm
  have e3 := hd.symm
  have b1 : 0 ≤ a := by omega
  have b2 : a ≤ 800000 := by omega
  have b3 : 0 ≤ b := by omega
  have b4 : b ≤ 4 := by omega
  have b5 : 0 ≤ d := by omega
  have b6 : d ≤ 800004 := by omega
  have e4 : ((8 * id + 4 * pl : Nat) : Int) = d := by omega
  rw [e4]
  clear ha hb hd e4
  go_enter Try.func45, Try.ntmps45
  go_wp2
  go_ret
  exact ⟨rfl, (Below.refl _ _).alloc (Nat.le_refl _) _⟩
theorem other_any (b : Bool) (w : World) : Calls Try.prog 34 #[.int .i64 (cond b 1 0 : Nat)] w fun e w' => e = .returned (.int .i64 (offB b : Nat)) ∧ w = w' := by
  cases b with
  | false =>
    go_enter Try.func34, Try.ntmps34
    go_wp2
    go_ret
    exact ⟨rfl, rfl⟩
  | true =>
    go_enter Try.func34, Try.ntmps34
    go_wp2
    go_ret
    exact ⟨rfl, rfl⟩
/-- The first k words. -/
def partF (f : Nat → W32) (k : Nat) : Nat → W32 := fun i => if i < k then f i else 0
theorem partF_zero (f : Nat → W32) : partF f 0 = zw := by funext i; simp [partF, zw]
theorem partF_succ (f : Nat → W32) (k : Nat) : upd (partF f k) k (f k) = partF f (k + 1) := by
  funext i
  unfold upd partF
  by_cases e : i = k
  · subst e; simp
  · rw [if_neg e]
    by_cases h : i < k
    · rw [if_pos h, if_pos (by omega)]
    · rw [if_neg h, if_neg (by omega)]
section
variable {w : World} {G : Nat → Prop} {p c : Nat} {s : St} {v : Value} {A : Option Addr}
theorem read_at (h : NC w G p s v A c) (k : Nat) (hk : k < s.ws.length) : Calls Try.prog 50 #[.pointer (some ⟨p, 0, none⟩), .int .i64 (k : Int)] w fun e w' => e = .returned (.tuple #[.int .u32 (num (s.ws.getD k 0)), .int .i64 0]) ∧ w = w' := by
  have := read_any h (k : Int)
  unfold rdV at this
  rw [if_pos ⟨by omega, by omega⟩, Int.toNat_natCast] at this
  exact this
set_option maxRecDepth 100000 in
set_option maxHeartbeats 1000000 in
theorem words13_any (h : NC w G p s v A c) (hl : s.ws.length ≤ 100000) (id pl : Nat) (hi : id < s.ws.length / 8) (hpl : pl ≤ 1) :
    Calls Try.prog 43 #[.agg #[.pointer (some ⟨p, 0, none⟩), .int .i64 (id : Int)], .int .i64 (pl : Int)] w fun e w' => e = .returned (.agg (vec 4 (wds (slotF s.ws id pl)))) ∧ Below w.heap.size w w' := by
  have hid : id ≤ 100000 := by omega
  obtain ⟨f, hf⟩ : ∃ f, f = slotF s.ws id pl := ⟨_, rfl⟩
  have HRD0 : Hid (∀ Y k, Below w.heap.size w Y → k < 4 → Calls Try.prog 50 #[.pointer (some ⟨p, 0, none⟩), .int .i64 ((8 * id + 4 * pl + k : Nat) : Int)] Y fun e w' => e = .returned (.tuple #[.int .u32 (num (f k)), .int .i64 0]) ∧ Y = w') := Lib.hid fun Y k hY hk => by
    rw [hf]
    exact read_at (h.under hY) _ (by omega)
  rw [← hf]
  clear h hl hi hf
  go_enter Try.func43, Try.ntmps43
  go_upto_region 2 with fail
  obtain ⟨V, hV⟩ : ∃ V, V = ((w.alloc (.cells #[.pointer (some ⟨p, 0, none⟩), .int .i64 (id : Int)] 71)).alloc (.cells (vec 4 (wds zw)) 73)).alloc (.cells (vec 4 (wds zw)) 73) := ⟨_, rfl⟩
  have hB : Below w.heap.size w V := by rw [hV]; exact (((Below.refl _ _).alloc (Nat.le_refl _) _).alloc (by simp) _).alloc (by simp; omega) _
  have hX : Blk V w.heap.size 71 #[.pointer (some ⟨p, 0, none⟩), .int .i64 (id : Int)] := by rw [hV]; exact ((Blk.new _ _ _ rfl).alloc _).alloc _
  have hZ : Arr V (w.heap.size + 1) 73 4 (wds zw) := by rw [hV]; exact (Arr.newAt _ _ _ _ (by simp)).alloc _
  have hY : Arr V (w.heap.size + 2) 73 4 (wds (partF f 0)) := by rw [hV, partF_zero]; exact Arr.newAt _ _ _ _ (by simp)
  have HI0 := Lib.hid (And.intro hB (And.intro hX (And.intro hZ hY)))
  rw [← hV]
  clear hV hB hX hZ hY
  go_wp2
  go_loopw [7] (fun vi wr => ∃ k : Nat, k ≤ 4 ∧ vi = .int .i64 k ∧ Hid (Below w.heap.size w wr ∧ Blk wr w.heap.size 71 #[.pointer (some ⟨p, 0, none⟩), .int .i64 (id : Int)] ∧ Arr wr (w.heap.size + 1) 73 4 (wds zw) ∧ Arr wr (w.heap.size + 2) 73 4 (wds (partF f k)))) (fun vi _ => 4 - (intOf vi).toNat)
  case atStart => exact ⟨0, by decide, rfl, HI0⟩
  case round =>
    obtain ⟨k, hk, rfl, hI⟩ := hrel
    clear HI0
    by_cases hlt : k < 4
    · have HB : Hid (∀ Y, Save (w.heap.size + 2) wr Y → Blk Y w.heap.size 71 #[.pointer (some ⟨p, 0, none⟩), .int .i64 (id : Int)]) := Lib.hid fun Y hY => hI.out.2.1.save hY (by omega)
      have HRD : Hid (∀ Y, Save (w.heap.size + 2) wr Y → Calls Try.prog 50 #[.pointer (some ⟨p, 0, none⟩), .int .i64 ((8 * id + 4 * pl + k : Nat) : Int)] Y fun e w' => e = .returned (.tuple #[.int .u32 (num (f k)), .int .i64 0]) ∧ Y = w') := Lib.hid fun Y hY =>
        HRD0.out Y k (hI.out.1.trans (hY.below (by omega) hI.out.1.size)) hlt
      have HAT := Lib.hid (fun Y => at_any p id pl hid hpl Y)
      obtain ⟨a, ha⟩ : ∃ a, a = 8 * id + 4 * pl := ⟨_, rfl⟩
      obtain ⟨j, hj⟩ : ∃ j, j = a + k := ⟨_, rfl⟩
      rw [← ha] at HAT HRD
      rw [← hj] at HRD
      have e8 : IntKind.i64.wrap ((a : Int) + (k : Int)) = (j : Int) := by rw [IntKind.wrap_i64]; omega
      clear ha hj hid hpl hk
      have HK := Lib.hid hlt
      have hk4 : (k : Int) < 4 := by omega
      go_upto_region 5 with fail
      refine wp_region_held_drew (S := fun Y => Save (w.heap.size + 2) wr Y) (by kernel_rfl) (show Save (w.heap.size + 2) wr _ from ⟨rfl, rfl, rfl, Nat.le_refl _, fun _ _ _ => rfl⟩) (fun hS => ?_)
      (refine held_take (i := 0) (oi := ?ot1) (v := ?vt1) ?at1 (by kernel_rfl) (by kernel_rfl) (by kernel_rfl) ?bt1 ?ct1 ?dt1 (by assumption) ?rt1; (case at1 => (simp only [List.getElem?_toArray, List.getElem?_cons_zero]; rfl)); (case bt1 => exact fun _ _ _ h => h); (case ct1 => kernel_rfl); (case dt1 => (intro W hW; (try dsimp only at hW); go_split_ands; go_simp; (try with_reducible rfl))); (case' rt1 => simp only [Act.put, List.setIfInBounds_toArray, List.set_cons_zero, List.set_cons_succ]))
      (refine held_take (i := 1) (oi := ?ot2) (v := ?vt2) ?at2 (by kernel_rfl) (by kernel_rfl) (by kernel_rfl) ?bt2 ?ct2 ?dt2 (by assumption) ?rt2; (case at2 => (simp only [List.getElem?_toArray, List.getElem?_cons_zero, List.getElem?_cons_succ]; rfl)); (case bt2 => exact fun _ _ _ h => h); (case ct2 => kernel_rfl); (case dt2 => (intro W hW; (try dsimp only at hW); go_split_ands; go_simp; (try with_reducible rfl))); (case' rt2 => simp only [Act.put, List.setIfInBounds_toArray, List.set_cons_zero, List.set_cons_succ]))
      (refine held_take (i := 2) (oi := ?ot3) (v := .pointer (some ⟨p, 0, none⟩)) ?at3 (by kernel_rfl) (by kernel_rfl) (by kernel_rfl) ?bt3 ?ct3 ?dt3 (by assumption) ?rt3; (case at3 => (simp only [List.getElem?_toArray, List.getElem?_cons_zero, List.getElem?_cons_succ]; rfl)); (case bt3 => exact fun _ _ _ h => h); (case ct3 => kernel_rfl); (case dt3 => (intro W hW; have c0 := (HB.out W hW).cellAt 0 rfl; clear hW; go_simp; (try with_reducible rfl))); (case' rt3 => simp only [Act.put, List.setIfInBounds_toArray, List.set_cons_zero, List.set_cons_succ]))
      (refine held_take (i := 3) (oi := ?ot4) (v := .agg #[.pointer (some ⟨p, 0, none⟩), .int .i64 (id : Int)]) ?at4 (by kernel_rfl) (by kernel_rfl) (by kernel_rfl) ?bt4 ?ct4 ?dt4 (by assumption) ?rt4; (case at4 => (simp only [List.getElem?_toArray, List.getElem?_cons_zero, List.getElem?_cons_succ]; rfl)); (case bt4 => exact fun _ _ _ h => h); (case ct4 => kernel_rfl); (case dt4 => (intro W hW; exact exec_load _ _ rfl _ rfl _ ((HB.out W hW).load Try.underlying71 rfl infoC))); (case' rt4 => simp only [Act.put, List.setIfInBounds_toArray, List.set_cons_zero, List.set_cons_succ]))
      (refine held_take (i := 4) (oi := ?ot5) (v := ?vt5) ?at5 (by kernel_rfl) (by kernel_rfl) (by kernel_rfl) ?bt5 ?ct5 ?dt5 (by assumption) ?rt5; (case at5 => (simp only [List.getElem?_toArray, List.getElem?_cons_zero, List.getElem?_cons_succ]; rfl)); (case bt5 => exact fun _ _ _ h => h); (case ct5 => kernel_rfl); (case dt5 => (intro W hW; (try dsimp only at hW); go_split_ands; go_simp; (try with_reducible rfl))); (case' rt5 => simp only [Act.put, List.setIfInBounds_toArray, List.set_cons_zero, List.set_cons_succ]))
      (refine held_take (i := 6) (oi := ?ot6) (v := ?vt6) ?at6 (by kernel_rfl) (by kernel_rfl) (by kernel_rfl) ?bt6 ?ct6 ?dt6 (by assumption) ?rt6; (case at6 => (simp only [List.getElem?_toArray, List.getElem?_cons_zero, List.getElem?_cons_succ]; rfl)); (case bt6 => exact fun _ _ _ h => h); (case ct6 => kernel_rfl); (case dt6 => (intro W hW; (try dsimp only at hW); go_split_ands; go_simp; (try with_reducible rfl))); (case' rt6 => simp only [Act.put, List.setIfInBounds_toArray, List.set_cons_zero, List.set_cons_succ]))
      refine held_one (i := 5) (oi := ?ot7) (by kernel_rfl) ?at7 ?ct7 (fun K5 hK5 => ?_)
      (case at7 => (simp only [List.getElem?_toArray, List.getElem?_cons_zero, List.getElem?_cons_succ]; rfl))
      (case ct7 => kernel_rfl)
      have hSb := hS
      go_simp
      refine (HAT.out _).mono ?_
      rintro e y5 ⟨rfl, hd⟩
      have HVS := Lib.hid (VS.keep (VS.begin wr) hd)
      refine hK5 _ _ (hSb.trans (Save.of_below hd)) (fun hS5 => ?_)
      clear hS hSb hd hK5 K5
      (refine held_take (i := 7) (oi := ?ot8) (v := ?vt8) ?at8 (by kernel_rfl) (by kernel_rfl) (by kernel_rfl) ?bt8 ?ct8 ?dt8 (by assumption) ?rt8; (case at8 => (simp only [List.getElem?_toArray, List.getElem?_cons_zero, List.getElem?_cons_succ]; rfl)); (case bt8 => exact fun _ _ _ h => h); (case ct8 => kernel_rfl); (case dt8 => (intro W hW; (try dsimp only at hW); go_split_ands; go_simp; (try with_reducible rfl))); (case' rt8 => simp only [Act.put, List.setIfInBounds_toArray, List.set_cons_zero, List.set_cons_succ]))
      refine held_one (i := 8) (oi := ?ot9) (by kernel_rfl) ?at9 ?ct9 (fun K8 hK8 => ?_)
      (case at9 => (simp only [List.getElem?_toArray, List.getElem?_cons_zero, List.getElem?_cons_succ]; rfl))
      (case ct9 => kernel_rfl)
      have hSb := hS5
      go_simp
      refine (HRD.out _ hSb).mono ?_
      rintro e y8 ⟨rfl, rfl⟩
      refine hK8 _ _ hSb (fun hS8 => ?_)
      clear hS5 hSb hK8 K8
      (refine held_take (i := 9) (oi := ?ot10) (v := ?vt10) ?at10 (by kernel_rfl) (by kernel_rfl) (by kernel_rfl) ?bt10 ?ct10 ?dt10 (by assumption) ?rt10; (case at10 => (simp only [List.getElem?_toArray, List.getElem?_cons_zero, List.getElem?_cons_succ]; rfl)); (case bt10 => exact fun _ _ _ h => h); (case ct10 => kernel_rfl); (case dt10 => (intro W hW; (try dsimp only at hW); go_split_ands; go_simp; (try with_reducible rfl))); (case' rt10 => simp only [Act.put, List.setIfInBounds_toArray, List.set_cons_zero, List.set_cons_succ]))
      (refine held_take (i := 10) (oi := ?ot11) (v := ?vt11) ?at11 (by kernel_rfl) (by kernel_rfl) (by kernel_rfl) ?bt11 ?ct11 ?dt11 (by assumption) ?rt11; (case at11 => (simp only [List.getElem?_toArray, List.getElem?_cons_zero, List.getElem?_cons_succ]; rfl)); (case bt11 => exact fun _ _ _ h => h); (case ct11 => kernel_rfl); (case dt11 => (intro W hW; (try dsimp only at hW); go_split_ands; go_simp; (try with_reducible rfl))); (case' rt11 => simp only [Act.put, List.setIfInBounds_toArray, List.set_cons_zero, List.set_cons_succ]))
      (refine held_take (i := 11) (oi := ?ot12) (v := ?vt12) ?at12 (by kernel_rfl) (by kernel_rfl) (by kernel_rfl) ?bt12 ?ct12 ?dt12 (by assumption) ?rt12; (case at12 => (simp only [List.getElem?_toArray, List.getElem?_cons_zero, List.getElem?_cons_succ]; rfl)); (case bt12 => exact fun _ _ _ h => h); (case ct12 => kernel_rfl); (case dt12 => (intro W hW; (try dsimp only at hW); go_split_ands; go_simp; (try with_reducible rfl))); (case' rt12 => simp only [Act.put, List.setIfInBounds_toArray, List.set_cons_zero, List.set_cons_succ]))
      (refine held_take (i := 12) (oi := ?ot13) (v := .pointer (some ⟨w.heap.size + 2, k, none⟩)) ?at13 (by kernel_rfl) (by kernel_rfl) (by kernel_rfl) ?bt13 ?ct13 ?dt13 (by assumption) ?rt13; (case at13 => (simp only [List.getElem?_toArray, List.getElem?_cons_zero, List.getElem?_cons_succ]; rfl)); (case bt13 => exact fun _ _ _ h => h); (case ct13 => kernel_rfl); (case dt13 => (intro W hW; clear hW; go_simp; (try with_reducible rfl); (try (intro h; omega)))); (case' rt13 => simp only [Act.put, List.setIfInBounds_toArray, List.set_cons_zero, List.set_cons_succ]))
      refine held_one (i := 13) (oi := ?ot14) (by kernel_rfl) ?at14 ?ct14 (fun K13 hK13 => ?_)
      (case at14 => (simp only [List.getElem?_toArray, List.getElem?_cons_zero, List.getElem?_cons_succ]; rfl))
      (case ct14 => kernel_rfl)
      have hSb := hS8
      have harr := hI.out.2.2.2.under HVS.out
      have cg := harr.cell HK.out
      have fg := harr.frozen k
      have HAR := Lib.hid harr
      clear harr
      go_simp
      refine hK13 _ _ (hSb.setCell k _) (fun hS13 => ?_)
      clear hK13 K13
      refine wpAnyH_done (by kernel_rfl) ?_ _
      clear cg fg
      go_wp2
      go_roundw
      case rel => exact ⟨k + 1, HK.out, by go_num, Lib.hid ⟨hI.out.1.trans (hS13.below (by omega) hI.out.1.size), HB.out _ hS13, hI.out.2.2.1.save hS13 (by omega), by rw [← partF_succ, ← wds_upd]; exact HAR.out.set k _⟩⟩
      case measure => have := HK.out; simp [intOf]; omega
    · obtain rfl : k = 4 := by omega
      clear hlt hk
      go_wp2_with (first
        | ((with_reducible show wpList _ _ _ (Oper.mk _ (.load 73 _) _ _ _ _ :: _) _ _); refine wl_load rfl 73 _ rfl _ rfl _ (run_load_arr hI.out.2.2.2 Try.underlying73 rfl infoQ) ?_)
        | ((with_reducible show wpList _ _ _ (Oper.mk _ (.store 73 _ _) _ _ _ _ :: _) _ _); refine wl_store rfl 73 _ _ rfl _ rfl _ rfl (run_store_arr hI.out.2.2.1 (wds (partF f 4)) infoQ (wds_one _ _)) ?_))
      refine bodyPost_ret (results_cell1 rfl _ _ _ rfl (run_load_arr (hI.out.2.2.1.row _) Try.underlying73 rfl infoQ)) rfl ⟨?_, below_row hI.out.1 (by omega) _⟩
      exact congrArg (fun z => Ending.returned (Value.agg z)) (vec_congr fun i hi => by unfold wds partF; rw [if_pos hi])
end
end Go.Proofs.Ytpeebdhbcglibaa
