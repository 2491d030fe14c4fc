/- The reference's Mem: find, ask. -/
import Derived.Great.BuildSlice
import Derived.Lib.AppendZeros
import Derived.Lib.SlFresh
import Derived.Test.YtbemphfijkcbhaaRm9
import Derived.Test.YtbemphfijkcbhaaRwithin
namespace Go.Proofs.Ytbemphfijkcbhaa
open Go.RowKit

theorem MR.page_at {w : World} {G : Nat → Prop} {r n c : Nat} {ram : Sp} {A : Option Addr} {ps : List RP} {m : Bytes8} (h : MR w G r ram n (.slice A ps.length c) ps m) {k : Nat} (hk : k < ps.length) : ∃ a0 q, A = some a0 ∧ a0.add (k * 2) = q ∧ w.cell? q = some (.int .u64 (ps[k].1 : Int)) ∧ w.cell? ⟨q.block, q.off + 1, none⟩ = some (.slice (some ⟨ps[k].2, 0, none⟩) 4096 4096) := by
  obtain ⟨g, c', e, _, _, h1, h2⟩ := h.cells hk
  injection e with e1 _ _
  refine ⟨⟨g, 0, none⟩, ⟨g, k * 2, none⟩, e1, by unfold Addr.add; split <;> simp_all, h1, h2⟩
set_option maxRecDepth 100000 in
theorem make_i64 (w : World) :
    (Instr.makeSlice 41 (.int .i64 4096) (.int .i64 4096)).run Try.prog w = .ok (.slice (some ⟨w.heap.size, 0, none⟩) 4096 4096) (w.alloc (.cells (vec 4096 (bys fun _ => 0)) 5)) := by
  obtain ⟨i0, hi, hz0, hz1, hz2⟩ := info_parts u8_info
  have h := run_make (P := Try.prog) (w := w) 41 5 i0 (.int .u8 0) Try.underlying41 hi hz0 .i64 .i64 4096 4096 (by omega) (by omega) (by rw [hz2]; omega) (by omega)
  simp only [hz1, Nat.mul_one] at h
  rw [h]
  congr 3
  apply Array.ext_getElem?
  intro i
  by_cases hi : i < 4096
  · rw [vec_at 4096 _ i hi]; simp [madeCells, hi, bys, Value.cells, Nat.mod_one]
  · simp [madeCells, hi, vec]
set_option maxRecDepth 100000 in
theorem build_page (a g : Nat) (w : World) : (Instr.buildSlice 88 1 #[(0, .agg #[.int .u64 (a : Int), .slice (some ⟨g, 0, none⟩) 4096 4096])]).run Try.prog w = .ok (.slice (some ⟨w.heap.size, 0, none⟩) 1 1) (w.alloc (.cells #[.int .u64 (a : Int), .slice (some ⟨g, 0, none⟩) 4096 4096] 102)) := by
  obtain ⟨i0, hi, hz0, hz1, hz2⟩ := info_parts infoRP
  refine run_buildSlice (P := Try.prog) w 88 102 1 _ _ i0 (.agg #[.int .u64 0, .slice none 0 0]) Try.underlying88 hi hz0 (by rw [hz1]; decide) (by rw [hz1]; decide) ?_
  rw [hz1]
  kernel_rfl
set_option maxRecDepth 100000 in
set_option maxHeartbeats 1000000 in
theorem rfind_some {w : World} {G : Nat → Prop} {r n : Nat} {ram : Sp} {v : Value} {ps : List RP} {m : Bytes8} (hM : MR w G r ram n v ps m) (hn : n ≤ 1000000) (a j : Nat) (made : Bool) (hf : findR ps a = some j) :
    Calls Try.prog 55 #[.pointer (some ⟨r, 0, none⟩), .int .u64 (a : Int), .bool made] w fun e w' => e = .returned (.int .i64 (j : Int)) ∧ Below w.heap.size w w' := by
  obtain ⟨A, c, rfl⟩ := hM.form
  have hne : ∃ hj : j < ps.length, ps[j].1 = a ∧ ∀ k (hk : k < j), ps[k].1 ≠ a := by
    unfold findR at hf
    obtain ⟨hj, h1, h2⟩ := List.findIdx?_eq_some_iff_getElem.1 hf
    exact ⟨hj, by simpa using h1, fun k hk => by simpa using h2 k hk⟩
  obtain ⟨hj, hja, hjb⟩ := hne
  have hc0 := hM.cell2
  have hcn := hM.cnt
  have HM := Lib.hid hM
  have HJ : Hid (j < ps.length ∧ (∀ h : j < ps.length, ps[j].1 = a) ∧ ∀ k, k < j → ∀ h : k < ps.length, ps[k].1 ≠ a) := Lib.hid ⟨hj, fun _ => hja, fun k hk _ => hjb k hk⟩
  have HB : Hid (ps.length ≤ 1000000) := Lib.hid (by omega)
  clear hM hf hj hja hjb hcn hn
  go_enter Try.func55, Try.ntmps55
  go_wp2
  go_loopw [13] (fun i wr => ∃ k : Nat, k ≤ j ∧ i = .int .i64 k ∧ Hid (Below w.heap.size w wr)) (fun i _ => j - (intOf i).toNat)
  case atStart => exact ⟨0, Nat.zero_le _, rfl, Lib.hid (Below.refl _ _)⟩
  case round =>
    obtain ⟨k, hk, rfl, hN⟩ := hrel
    have hb := HB.out
    have hlt : k < ps.length := by have := HJ.out.1; omega
    obtain ⟨a0, q, rfl, hq, hc1, hc2⟩ := (HM.out.under hN.out).page_at hlt
    have hc3 := (HM.out.under hN.out).cell2
    clear hc0
    obtain ⟨x, hx⟩ : ∃ x, ps[k].1 = x := ⟨_, rfl⟩
    rw [hx] at hc1
    by_cases e : k = j
    · have e2 : (x : Int) = (a : Int) := by have := HJ.out.2.1 HJ.out.1; subst e; rw [hx] at this; omega
      have HE := Lib.hid e
      clear hk hx e
      go_wp2
      go_ret
      exact ⟨by rw [HE.out] <;> rfl, hN.out⟩
    · have e2 : ¬ (x : Int) = (a : Int) := by have := HJ.out.2.2 k (by omega) hlt; rw [hx] at this; omega
      have HE : Hid (k < j) := Lib.hid (by omega)
      clear hk hx e
      go_wp2
      go_roundw
      case rel => exact ⟨k + 1, HE.out, by go_num, hN⟩
      case measure => have := HE.out; simp [intOf]; omega
set_option maxRecDepth 100000 in
set_option maxHeartbeats 1000000 in
theorem rfind_none {w : World} {G : Nat → Prop} {r n : Nat} {ram : Sp} {v : Value} {ps : List RP} {m : Bytes8} (hM : MR w G r ram n v ps m) (hn : n ≤ 1000000) (a : Nat) (hf : findR ps a = none) :
    Calls Try.prog 55 #[.pointer (some ⟨r, 0, none⟩), .int .u64 (a : Int), .bool false] w fun e w' => e = .returned (.int .i64 (-1)) ∧ Below w.heap.size w w' := by
  obtain ⟨A, c, rfl⟩ := hM.form
  have hc0 := hM.cell2
  have hcn := hM.cnt
  have HM := Lib.hid hM
  have HJ := Lib.hid (findR_none hf)
  have HB : Hid (ps.length ≤ 1000000) := Lib.hid (by omega)
  clear hM hf hcn hn
  go_enter Try.func55, Try.ntmps55
  go_wp2
  go_loopw [13] (fun i wr => ∃ k : Nat, k ≤ ps.length ∧ i = .int .i64 k ∧ Hid (Below w.heap.size w wr)) (fun i _ => ps.length - (intOf i).toNat)
  case atStart => exact ⟨0, Nat.zero_le _, rfl, Lib.hid (Below.refl _ _)⟩
  case round =>
    obtain ⟨k, hk, rfl, hN⟩ := hrel
    have hb := HB.out
    by_cases hlt : k < ps.length
    · obtain ⟨a0, q, rfl, hq, hc1, hc2⟩ := (HM.out.under hN.out).page_at hlt
      have hc3 := (HM.out.under hN.out).cell2
      clear hc0
      obtain ⟨x, hx⟩ : ∃ x, ps[k].1 = x := ⟨_, rfl⟩
      rw [hx] at hc1
      have e2 : ¬ (x : Int) = (a : Int) := by have := HJ.out _ (List.getElem_mem hlt); rw [hx] at this; omega
      have HE := Lib.hid hlt
      clear hk hx
      go_wp2
      go_roundw
      case rel => exact ⟨k + 1, HE.out, by go_num, hN⟩
      case measure => have := HE.out; simp [intOf]; omega
    · obtain rfl : k = ps.length := by omega
      clear hlt hk hc0
      go_wp2
      go_ret
      exact ⟨rfl, hN.out⟩
/-- How find ends, where it makes a page. -/
def FindPost (w : World) (G : Nat → Prop) (r : Nat) (ram : Sp) (n : Nat) (ps : List RP) (m : Bytes8) (a : Nat) (e : Ending) (w' : World) : Prop :=
  e = .returned (.int .i64 (ps.length : Int)) ∧ ∃ G' v' g, MR w' G' r ram (n + 1) v' (ps ++ [(a, g)]) m ∧ Turn G w w' ∧ ∀ i, G' i → G i ∨ w.heap.size ≤ i
set_option maxRecDepth 100000 in
set_option maxHeartbeats 2000000 in
theorem rfind_made {w : World} {G : Nat → Prop} {r n : Nat} {ram : Sp} {v : Value} {ps : List RP} {m : Bytes8} (hM : MR w G r ram n v ps m) (hn : n + 1 ≤ 1000000) (a : Nat) (ha : a % 4096 = 0) (ha2 : a < 18446744073709551616) (hf : findR ps a = none) :
    Calls Try.prog 55 #[.pointer (some ⟨r, 0, none⟩), .int .u64 (a : Int), .bool true] w (FindPost w G r ram n ps m a) := by
  obtain ⟨A, c, rfl⟩ := hM.form
  have hc0 := hM.cell2
  have hcn := hM.cnt
  have HM := Lib.hid hM
  have HJ := Lib.hid (findR_none hf)
  have HB : Hid (ps.length ≤ 1000000) := Lib.hid (by omega)
  have HA := Lib.hid (And.intro ha (And.intro ha2 (And.intro hf hn)))
  obtain ⟨Q, hQ⟩ : ∃ Q, Q = FindPost w G r ram n ps m a := ⟨_, rfl⟩
  rw [← hQ]
  have HQ := Lib.hid hQ
  clear hM hf hcn hn ha ha2 hQ
  go_enter Try.func55, Try.ntmps55
  go_wp2
  go_loopw [13] (fun i wr => ∃ k : Nat, k ≤ ps.length ∧ i = .int .i64 k ∧ Hid (Below w.heap.size w wr)) (fun i _ => ps.length - (intOf i).toNat)
  case atStart => exact ⟨0, Nat.zero_le _, rfl, Lib.hid (Below.refl _ _)⟩
  case round =>
    obtain ⟨k, hk, rfl, hN⟩ := hrel
    have hb := HB.out
    by_cases hlt : k < ps.length
    · obtain ⟨a0, q, rfl, hq, hc1, hc2⟩ := (HM.out.under hN.out).page_at hlt
      have hc3 := (HM.out.under hN.out).cell2
      clear hc0
      obtain ⟨x, hx⟩ : ∃ x, ps[k].1 = x := ⟨_, rfl⟩
      rw [hx] at hc1
      have e2 : ¬ (x : Int) = (a : Int) := by have := HJ.out _ (List.getElem_mem hlt); rw [hx] at this; omega
      have HE := Lib.hid hlt
      clear hk hx
      go_wp2
      go_roundw
      case rel => exact ⟨k + 1, HE.out, by go_num, hN⟩
      case measure => have := HE.out; simp [intOf]; omega
    · obtain rfl : k = ps.length := by omega
      clear hlt hk hc0
      go_upto_region 9 with fail
      have hmk := make_i64
      have hbs := build_page a
      have hMd : MR wr.drew G r ram n (.slice A ps.length c) ps m := (HM.out.under hN.out).same (Nat.le_refl _) fun _ _ => rfl
      obtain ⟨Y0, hY0⟩ : ∃ Y0, Y0 = wr.drew := ⟨_, rfl⟩
      have hB0 : Below w.heap.size w Y0 := by rw [hY0]; exact ⟨hN.out.1, hN.out.2, hN.out.3, hN.out.4, hN.out.5⟩
      rw [← hY0] at hMd
      have HC0 : Hid (Y0.cell? ⟨r, 2, none⟩ = some (.slice A ps.length c)) := Lib.hid hMd.cell2
      have HC1 : Hid ((Y0.alloc (.cells (vec 4096 (bys fun _ => 0)) 5)).cell? ⟨r, 2, none⟩ = some (.slice A ps.length c)) := Lib.hid (hMd.alloc _).cell2
      have hM2 := (hMd.alloc (.cells (vec 4096 (bys fun _ => 0)) 5)).alloc (.cells #[.int .u64 (a : Int), .slice (some ⟨Y0.heap.size, 0, none⟩) 4096 4096] 102)
      have HC1b := Lib.hid hM2.cell2
      obtain ⟨v', w', hrun, hM3, hg, hgi, hc2, hf2⟩ := hM2.grow_run (a := a) (g := Y0.heap.size) (q := Y0.heap.size + 1) ((Arr.new Y0 5 4096 (bys fun _ => 0)).alloc _) (fun h => by have := hMd.lt _ h; omega) (by have := heap_alloc_new (Y0.alloc (.cells (vec 4096 (bys fun _ => 0)) 5)) (.cells #[.int .u64 (a : Int), .slice (some ⟨Y0.heap.size, 0, none⟩) 4096 4096] 102); rw [World.size_alloc] at this; exact this) HA.out.1 HA.out.2.1 HA.out.2.2.1 HA.out.2.2.2 88
      obtain ⟨A', c', hv'⟩ := hM3.form
      rw [show (ps ++ [(a, Y0.heap.size)]).length = ps.length + 1 by simp] at hv'
      subst hv'
      have hsz0 : w.heap.size ≤ Y0.heap.size := hB0.size
      have hT : Turn G w (w'.setCell ⟨r, 2, none⟩ (.slice A' (ps.length + 1) c')) := by
        have t1 : Turn G w Y0 := ⟨hB0.os, hB0.tape, hB0.output, hB0.size, fun i hi _ => hB0.block i hi⟩
        have t2 := ((t1.alloc (.cells (vec 4096 (bys fun _ => 0)) 5)).alloc (.cells #[.int .u64 (a : Int), .slice (some ⟨Y0.heap.size, 0, none⟩) 4096 4096] 102)).andThen (Turn.of_grown hg (G := G) fun g' e => (hM2.grow g' e).1)
        exact t2.setCell (Or.inl hM2.gr) _
      have HFIN : Hid (∃ G' v' g, MR (w'.setCell ⟨r, 2, none⟩ (.slice A' (ps.length + 1) c')) G' r ram (n + 1) v' (ps ++ [(a, g)]) m ∧ Turn G w (w'.setCell ⟨r, 2, none⟩ (.slice A' (ps.length + 1) c')) ∧ ∀ i, G' i → G i ∨ w.heap.size ≤ i) :=
        Lib.hid ⟨_, _, _, hM3, hT, fun i hi => by
          rcases hi with hi | rfl | hi
          · exact Or.inl hi
          · exact Or.inr hsz0
          · rcases hgi i hi with h | h
            · exact Or.inl h
            · simp only [World.size_alloc] at h
              exact Or.inr (by omega)⟩
      have HRUN := Lib.hid hrun
      have HC2 := Lib.hid (And.intro hc2 hf2)
      have HC3 := Lib.hid hM3.cell2
      clear hMd hB0 hM2 hM3 hg hgi hc2 hf2 hT hsz0 hrun
      refine wp_region_held_drew (S := fun Y => True) (by kernel_rfl) trivial (fun hS => ?_)
      rw [← hY0]
      clear hY0
      (refine held_take (i := 0) (oi := ?ot1) (v := ?vt1) ?at1 (by kernel_rfl) (by kernel_rfl) (by kernel_rfl) ?bt1 ?ct1 ?dt1 (by assumption) ?rt1; (case at1 => (simp only [List.getElem?_toArray, List.getElem?_cons_zero]; rfl)); (case bt1 => exact fun _ _ _ h => h); (case ct1 => kernel_rfl); (case dt1 => (intro W hW; (try dsimp only at hW); go_split_ands; go_simp; (try with_reducible rfl))); (case' rt1 => simp only [Act.put, List.setIfInBounds_toArray, List.set_cons_zero, List.set_cons_succ]))
      (refine held_take (i := 1) (oi := ?ot2) (v := ?vt2) ?at2 (by kernel_rfl) (by kernel_rfl) (by kernel_rfl) ?bt2 ?ct2 ?dt2 (by assumption) ?rt2; (case at2 => (simp only [List.getElem?_toArray, List.getElem?_cons_zero, List.getElem?_cons_succ]; rfl)); (case bt2 => exact fun _ _ _ h => h); (case ct2 => kernel_rfl); (case dt2 => (intro W hW; (try dsimp only at hW); go_split_ands; go_simp; (try with_reducible rfl))); (case' rt2 => simp only [Act.put, List.setIfInBounds_toArray, List.set_cons_zero, List.set_cons_succ]))
      (refine held_take (i := 2) (oi := ?ot3) (v := ?vt3) ?at3 (by kernel_rfl) (by kernel_rfl) (by kernel_rfl) ?bt3 ?ct3 ?dt3 (by assumption) ?rt3; (case at3 => (simp only [List.getElem?_toArray, List.getElem?_cons_zero, List.getElem?_cons_succ]; rfl)); (case bt3 => exact fun _ _ _ h => h); (case ct3 => kernel_rfl); (case dt3 => (intro W hW; (try dsimp only at hW); go_split_ands; go_simp; (try with_reducible rfl))); (case' rt3 => simp only [Act.put, List.setIfInBounds_toArray, List.set_cons_zero, List.set_cons_succ]))
      (refine held_take (i := 3) (oi := ?ot4) (v := ?vt4) ?at4 (by kernel_rfl) (by kernel_rfl) (by kernel_rfl) ?bt4 ?ct4 ?dt4 (by assumption) ?rt4; (case at4 => (simp only [List.getElem?_toArray, List.getElem?_cons_zero, List.getElem?_cons_succ]; rfl)); (case bt4 => exact fun _ _ _ h => h); (case ct4 => kernel_rfl); (case dt4 => (intro W hW; (try dsimp only at hW); go_split_ands; go_simp; (try with_reducible rfl))); (case' rt4 => simp only [Act.put, List.setIfInBounds_toArray, List.set_cons_zero, List.set_cons_succ]))
      (refine held_take (i := 5) (oi := ?ot5) (v := ?vt5) ?at5 (by kernel_rfl) (by kernel_rfl) (by kernel_rfl) ?bt5 ?ct5 ?dt5 (by assumption) ?rt5; (case at5 => (simp only [List.getElem?_toArray, List.getElem?_cons_zero, List.getElem?_cons_succ]; rfl)); (case bt5 => exact fun _ _ _ h => h); (case ct5 => kernel_rfl); (case dt5 => (intro W hW; (try dsimp only at hW); go_split_ands; go_simp; (try with_reducible rfl))); (case' rt5 => simp only [Act.put, List.setIfInBounds_toArray, List.set_cons_zero, List.set_cons_succ]))
      refine held_two (i := 4) (j := 6) (oi := ?oit25) (oj := ?ojt25) (by kernel_rfl) ?ait25 ?ajt25 ?cit25 ?cjt25 (fun K4 hK4 => ?hit25) (fun K6 hK6 => ?hjt25)
      (case ait25 => (simp only [List.getElem?_toArray, List.getElem?_cons_zero, List.getElem?_cons_succ]; rfl))
      (case ajt25 => (simp only [List.getElem?_toArray, List.getElem?_cons_zero, List.getElem?_cons_succ]; rfl))
      (case cit25 => kernel_rfl)
      (case cjt25 => kernel_rfl)
      case hit25 =>
        have hc := HC0.out
        go_simp
        refine hK4 _ _ trivial (fun hS4 => ?_)
        clear hc hK4 K4
        refine held_one (i := 6) (oi := ?ot6) (by kernel_rfl) ?at6 ?ct6 (fun K6 hK6 => ?_)
        (case at6 => (simp only [List.getElem?_toArray, List.getElem?_cons_zero, List.getElem?_cons_succ]; rfl))
        (case ct6 => kernel_rfl)
        go_simp
        refine hK6 _ _ trivial (fun hS6 => ?_)
        clear hK6 K6
        (refine held_take (i := 7) (oi := ?ot7) (v := ?vt7) ?at7 (by kernel_rfl) (by kernel_rfl) (by kernel_rfl) ?bt7 ?ct7 ?dt7 (by assumption) ?rt7; (case at7 => (simp only [List.getElem?_toArray, List.getElem?_cons_zero, List.getElem?_cons_succ]; rfl)); (case bt7 => exact fun _ _ _ h => h); (case ct7 => kernel_rfl); (case dt7 => (intro W hW; (try dsimp only at hW); go_split_ands; go_simp; (try with_reducible rfl))); (case' rt7 => simp only [Act.put, List.setIfInBounds_toArray, List.set_cons_zero, List.set_cons_succ]))
        refine held_one (i := 8) (oi := ?ot8) (by kernel_rfl) ?at8 ?ct8 (fun K8 hK8 => ?_)
        (case at8 => (simp only [List.getElem?_toArray, List.getElem?_cons_zero, List.getElem?_cons_succ]; rfl))
        (case ct8 => kernel_rfl)
        go_simp
        refine hK8 _ _ trivial (fun hS8 => ?_)
        clear hK8 K8
        refine held_one (i := 9) (oi := ?ot9) (by kernel_rfl) ?at9 ?ct9 (fun K9 hK9 => ?_)
        (case at9 => (simp only [List.getElem?_toArray, List.getElem?_cons_zero, List.getElem?_cons_succ]; rfl))
        (case ct9 => kernel_rfl)
        refine Lib.wp_append_run _ _ _ _ _ rfl _ _ rfl rfl _ _ HRUN.out ?_
        refine hK9 _ _ trivial (fun hS9 => ?_)
        clear hK9 K9
        (refine held_take (i := 10) (oi := ?ot10) (v := ?vt10) ?at10 (by kernel_rfl) (by kernel_rfl) (by kernel_rfl) ?bt10 ?ct10 ?dt10 (by assumption) ?rt10; (case at10 => (simp only [List.getElem?_toArray, List.getElem?_cons_zero, List.getElem?_cons_succ]; rfl)); (case bt10 => exact fun _ _ _ h => h); (case ct10 => kernel_rfl); (case dt10 => (intro W hW; (try dsimp only at hW); go_split_ands; go_simp; (try with_reducible rfl))); (case' rt10 => simp only [Act.put, List.setIfInBounds_toArray, List.set_cons_zero, List.set_cons_succ]))
        (refine held_take (i := 11) (oi := ?ot11) (v := ?vt11) ?at11 (by kernel_rfl) (by kernel_rfl) (by kernel_rfl) ?bt11 ?ct11 ?dt11 (by assumption) ?rt11; (case at11 => (simp only [List.getElem?_toArray, List.getElem?_cons_zero, List.getElem?_cons_succ]; rfl)); (case bt11 => exact fun _ _ _ h => h); (case ct11 => kernel_rfl); (case dt11 => (intro W hW; (try dsimp only at hW); go_split_ands; go_simp; (try with_reducible rfl))); (case' rt11 => simp only [Act.put, List.setIfInBounds_toArray, List.set_cons_zero, List.set_cons_succ]))
        refine held_one (i := 12) (oi := ?ot12) (by kernel_rfl) ?at12 ?ct12 (fun K12 hK12 => ?_)
        (case at12 => (simp only [List.getElem?_toArray, List.getElem?_cons_zero, List.getElem?_cons_succ]; rfl))
        (case ct12 => kernel_rfl)
        have hc := HC2.out.1
        have hf := HC2.out.2
        go_simp
        refine hK12 _ _ trivial (fun hS12 => ?_)
        clear hc hf hK12 K12
        refine wpAnyH_done (by kernel_rfl) ?_ _
        have hc := HC3.out
        clear hmk hbs
        go_wp2
        rw [HQ.out]
        exact ⟨by go_num, HFIN.out⟩
      case hjt25 =>
        go_simp
        refine hK6 _ _ trivial (fun hS6 => ?_)
        clear hK6 K6
        (refine held_take (i := 7) (oi := ?ot13) (v := ?vt13) ?at13 (by kernel_rfl) (by kernel_rfl) (by kernel_rfl) ?bt13 ?ct13 ?dt13 (by assumption) ?rt13; (case at13 => (simp only [List.getElem?_toArray, List.getElem?_cons_zero, List.getElem?_cons_succ]; rfl)); (case bt13 => exact fun _ _ _ h => h); (case ct13 => kernel_rfl); (case dt13 => (intro W hW; (try dsimp only at hW); go_split_ands; go_simp; (try with_reducible rfl))); (case' rt13 => simp only [Act.put, List.setIfInBounds_toArray, List.set_cons_zero, List.set_cons_succ]))
        refine held_two (i := 4) (j := 8) (oi := ?oit24) (oj := ?ojt24) (by kernel_rfl) ?ait24 ?ajt24 ?cit24 ?cjt24 (fun K4 hK4 => ?hit24) (fun K8 hK8 => ?hjt24)
        (case ait24 => (simp only [List.getElem?_toArray, List.getElem?_cons_zero, List.getElem?_cons_succ]; rfl))
        (case ajt24 => (simp only [List.getElem?_toArray, List.getElem?_cons_zero, List.getElem?_cons_succ]; rfl))
        (case cit24 => kernel_rfl)
        (case cjt24 => kernel_rfl)
        case hit24 =>
          have hc := HC1.out
          go_simp
          refine hK4 _ _ trivial (fun hS4 => ?_)
          clear hc hK4 K4
          refine held_one (i := 8) (oi := ?ot14) (by kernel_rfl) ?at14 ?ct14 (fun K8 hK8 => ?_)
          (case at14 => (simp only [List.getElem?_toArray, List.getElem?_cons_zero, List.getElem?_cons_succ]; rfl))
          (case ct14 => kernel_rfl)
          go_simp
          refine hK8 _ _ trivial (fun hS8 => ?_)
          clear hK8 K8
          refine held_one (i := 9) (oi := ?ot15) (by kernel_rfl) ?at15 ?ct15 (fun K9 hK9 => ?_)
          (case at15 => (simp only [List.getElem?_toArray, List.getElem?_cons_zero, List.getElem?_cons_succ]; rfl))
          (case ct15 => kernel_rfl)
          refine Lib.wp_append_run _ _ _ _ _ rfl _ _ rfl rfl _ _ HRUN.out ?_
          refine hK9 _ _ trivial (fun hS9 => ?_)
          clear hK9 K9
          (refine held_take (i := 10) (oi := ?ot16) (v := ?vt16) ?at16 (by kernel_rfl) (by kernel_rfl) (by kernel_rfl) ?bt16 ?ct16 ?dt16 (by assumption) ?rt16; (case at16 => (simp only [List.getElem?_toArray, List.getElem?_cons_zero, List.getElem?_cons_succ]; rfl)); (case bt16 => exact fun _ _ _ h => h); (case ct16 => kernel_rfl); (case dt16 => (intro W hW; (try dsimp only at hW); go_split_ands; go_simp; (try with_reducible rfl))); (case' rt16 => simp only [Act.put, List.setIfInBounds_toArray, List.set_cons_zero, List.set_cons_succ]))
          (refine held_take (i := 11) (oi := ?ot17) (v := ?vt17) ?at17 (by kernel_rfl) (by kernel_rfl) (by kernel_rfl) ?bt17 ?ct17 ?dt17 (by assumption) ?rt17; (case at17 => (simp only [List.getElem?_toArray, List.getElem?_cons_zero, List.getElem?_cons_succ]; rfl)); (case bt17 => exact fun _ _ _ h => h); (case ct17 => kernel_rfl); (case dt17 => (intro W hW; (try dsimp only at hW); go_split_ands; go_simp; (try with_reducible rfl))); (case' rt17 => simp only [Act.put, List.setIfInBounds_toArray, List.set_cons_zero, List.set_cons_succ]))
          refine held_one (i := 12) (oi := ?ot18) (by kernel_rfl) ?at18 ?ct18 (fun K12 hK12 => ?_)
          (case at18 => (simp only [List.getElem?_toArray, List.getElem?_cons_zero, List.getElem?_cons_succ]; rfl))
          (case ct18 => kernel_rfl)
          have hc := HC2.out.1
          have hf := HC2.out.2
          go_simp
          refine hK12 _ _ trivial (fun hS12 => ?_)
          clear hc hf hK12 K12
          refine wpAnyH_done (by kernel_rfl) ?_ _
          have hc := HC3.out
          clear hmk hbs
          go_wp2
          rw [HQ.out]
          exact ⟨by go_num, HFIN.out⟩
        case hjt24 =>
          go_simp
          refine hK8 _ _ trivial (fun hS8 => ?_)
          clear hK8 K8
          refine held_one (i := 4) (oi := ?ot19) (by kernel_rfl) ?at19 ?ct19 (fun K4 hK4 => ?_)
          (case at19 => (simp only [List.getElem?_toArray, List.getElem?_cons_zero, List.getElem?_cons_succ]; rfl))
          (case ct19 => kernel_rfl)
          have hc := HC1b.out
          go_simp
          refine hK4 _ _ trivial (fun hS4 => ?_)
          clear hc hK4 K4
          refine held_one (i := 9) (oi := ?ot20) (by kernel_rfl) ?at20 ?ct20 (fun K9 hK9 => ?_)
          (case at20 => (simp only [List.getElem?_toArray, List.getElem?_cons_zero, List.getElem?_cons_succ]; rfl))
          (case ct20 => kernel_rfl)
          refine Lib.wp_append_run _ _ _ _ _ rfl _ _ rfl rfl _ _ HRUN.out ?_
          refine hK9 _ _ trivial (fun hS9 => ?_)
          clear hK9 K9
          (refine held_take (i := 10) (oi := ?ot21) (v := ?vt21) ?at21 (by kernel_rfl) (by kernel_rfl) (by kernel_rfl) ?bt21 ?ct21 ?dt21 (by assumption) ?rt21; (case at21 => (simp only [List.getElem?_toArray, List.getElem?_cons_zero, List.getElem?_cons_succ]; rfl)); (case bt21 => exact fun _ _ _ h => h); (case ct21 => kernel_rfl); (case dt21 => (intro W hW; (try dsimp only at hW); go_split_ands; go_simp; (try with_reducible rfl))); (case' rt21 => simp only [Act.put, List.setIfInBounds_toArray, List.set_cons_zero, List.set_cons_succ]))
          (refine held_take (i := 11) (oi := ?ot22) (v := ?vt22) ?at22 (by kernel_rfl) (by kernel_rfl) (by kernel_rfl) ?bt22 ?ct22 ?dt22 (by assumption) ?rt22; (case at22 => (simp only [List.getElem?_toArray, List.getElem?_cons_zero, List.getElem?_cons_succ]; rfl)); (case bt22 => exact fun _ _ _ h => h); (case ct22 => kernel_rfl); (case dt22 => (intro W hW; (try dsimp only at hW); go_split_ands; go_simp; (try with_reducible rfl))); (case' rt22 => simp only [Act.put, List.setIfInBounds_toArray, List.set_cons_zero, List.set_cons_succ]))
          refine held_one (i := 12) (oi := ?ot23) (by kernel_rfl) ?at23 ?ct23 (fun K12 hK12 => ?_)
          (case at23 => (simp only [List.getElem?_toArray, List.getElem?_cons_zero, List.getElem?_cons_succ]; rfl))
          (case ct23 => kernel_rfl)
          have hc := HC2.out.1
          have hf := HC2.out.2
          go_simp
          refine hK12 _ _ trivial (fun hS12 => ?_)
          clear hc hf hK12 K12
          refine wpAnyH_done (by kernel_rfl) ?_ _
          have hc := HC3.out
          clear hmk hbs
          go_wp2
          rw [HQ.out]
          exact ⟨by go_num, HFIN.out⟩
end Go.Proofs.Ytbemphfijkcbhaa
