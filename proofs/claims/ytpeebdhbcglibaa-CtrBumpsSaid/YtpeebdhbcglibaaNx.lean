/- The program's store: Write. -/
import Derived.Test.YtpeebdhbcglibaaNs
namespace Go.Proofs.Ytpeebdhbcglibaa
open Go.RowKit

section
variable {w : World} {G : Nat → Prop} {p c : Nat} {s : St} {v : Value} {A : Option Addr}
theorem wr_off (s : St) (i : Int) (x : W32) (h : s.on = false) : s.wrE i = 100 ∧ s.wr i x = s := by unfold St.wrE St.wr; rw [if_pos h, if_pos h]; exact ⟨rfl, rfl⟩
theorem wr_out (s : St) (i : Int) (x : W32) (h : s.on = true) (h1 : ¬ (0 ≤ i ∧ i < (s.ws.length : Int))) : s.wrE i = 1 ∧ s.wr i x = s := by
  have e1 : ¬ s.on = false := by rw [h]; decide
  unfold St.wrE St.wr
  rw [if_neg e1, if_pos h1, if_neg e1, if_pos h1]; exact ⟨rfl, rfl⟩
theorem wr_hit (s : St) (k : Nat) (x m : W32) (h : s.on = true) (h1 : k < s.ws.length) (h2 : s.hit = some m) : s.wrE (k : Int) = 100 ∧ s.wr (k : Int) x = ⟨s.ws.set k (tornW (s.ws.getD k 0) x m), s.cs, s.cnt, false⟩ := by
  have e1 : ¬ s.on = false := by rw [h]; decide
  have e2 : ¬ ¬ (0 ≤ (k : Int) ∧ (k : Int) < (s.ws.length : Int)) := fun hh => hh ⟨by omega, by omega⟩
  unfold St.wrE St.wr
  rw [if_neg e1, if_neg e2, if_neg e1, if_neg e2, h2]; exact ⟨rfl, rfl⟩
theorem wr_ok (s : St) (k : Nat) (x : W32) (h : s.on = true) (h1 : k < s.ws.length) (h2 : s.hit = none) : s.wrE (k : Int) = 0 ∧ s.wr (k : Int) x = ⟨s.ws.set k x, s.cs, s.cnt + 1, true⟩ := by
  have e1 : ¬ s.on = false := by rw [h]; decide
  have e2 : ¬ ¬ (0 ≤ (k : Int) ∧ (k : Int) < (s.ws.length : Int)) := fun hh => hh ⟨by omega, by omega⟩
  unfold St.wrE St.wr
  rw [if_neg e1, if_neg e2, if_neg e1, if_neg e2, h2]; exact ⟨rfl, rfl⟩
/-- How Write ends. -/
def WrPost (w : World) (G : Nat → Prop) (p c : Nat) (s : St) (v : Value) (A : Option Addr) (i : Int) (x : W32) (e : Ending) (w' : World) : Prop :=
  e = .returned (.int .i64 (s.wrE i : Int)) ∧ NC w' G p (s.wr i x) v A c ∧ Turn G w w'
set_option maxRecDepth 100000 in
set_option maxHeartbeats 2000000 in
theorem write_any (h : NC w G p s v A c) (hn : s.cnt < 1000000) (i : Int) (x : W32) : Calls Try.prog 44 #[.pointer (some ⟨p, 0, none⟩), .int .i64 i, .int .u32 (num x)] w (WrPost w G p c s v A i x) := by
  obtain ⟨Q, hQ⟩ : ∃ Q, Q = WrPost w G p c s v A i x := ⟨_, rfl⟩
  rw [← hQ]
  have HQ := Lib.hid hQ
  have HD := Lib.hid (dead_any h)
  have HH := Lib.hid (has_any h i)
  have HS := Lib.hid (strike_any h)
  have HN := Lib.hid h
  clear hQ
  cases hon : s.on with
  | false =>
    have HW := Lib.hid (wr_off s i x hon)
    rw [hon] at HD
    clear hon h hn
    go_enter Try.func44, Try.ntmps44
    go_wp2_with (go_at_call 51; refine HD.out.mono ?_; rintro e w1 ⟨rfl, rfl⟩)
    rw [HQ.out]
    unfold WrPost
    rw [HW.out.1, HW.out.2]
    exact ⟨rfl, HN.out, Turn.refl _ _⟩
  | true =>
  rw [hon] at HD
  by_cases hi : 0 ≤ i ∧ i < (s.ws.length : Int)
  case neg =>
    have HW := Lib.hid (wr_out s i x hon hi)
    rw [decide_eq_false hi] at HH
    clear hon hi h hn
    go_enter Try.func44, Try.ntmps44
    go_wp2_with (first
      | (go_at_call 51; refine HD.out.mono ?_; rintro e w1 ⟨rfl, rfl⟩)
      | (go_at_call 52; refine HH.out.mono ?_; rintro e w1 ⟨rfl, rfl⟩))
    rw [HQ.out]
    unfold WrPost
    rw [HW.out.1, HW.out.2]
    exact ⟨rfl, HN.out, Turn.refl _ _⟩
  rw [decide_eq_true hi] at HH
  obtain ⟨k, rfl⟩ := Int.eq_ofNat_of_zero_le hi.1
  have hk : k < s.ws.length := by omega
  obtain ⟨g, d, hv, hnd, hGg, hgp, hcell, hfz⟩ := h.lay.at hk
  have hpl := h.lay.lt p h.lay.gp
  have hgl := h.lay.lt g hGg
  cases hht : s.hit with
  | some m =>
    have HS1 : Hid (Calls Try.prog 53 #[.pointer (some ⟨p, 0, none⟩)] w fun e w' => e = .returned (.tuple #[.int .u32 (num m), .bool true]) ∧ Below w.heap.size w w') := Lib.hid (HS.out.mono fun e w' ⟨h1, h2⟩ => by
      rw [hht] at h1
      rcases h1 with ⟨m', e1, e2⟩ | ⟨e1, _⟩
      · cases e1; exact ⟨e2, h2⟩
      · cases e1)
    have HW := Lib.hid (wr_hit s k x m hon hk hht)
    obtain ⟨o, ho⟩ : ∃ o, o = s.ws.getD k 0 := ⟨_, rfl⟩
    rw [← ho] at hcell HW
    obtain ⟨n, hnn⟩ : ∃ n, n = s.ws.length := ⟨_, rfl⟩
    have hkn : k < n := by omega
    have hblk := h.blk
    rw [hv, hon, ← hnn] at hblk
    have HFIN : Hid (∀ w1, Below w.heap.size w w1 → NC ((w1.drew.setCell ⟨g, k, none⟩ (.int .u32 (num (tornW o x m)))).setCell ⟨p, 0, none⟩ (.bool false)) G p ⟨s.ws.set k (tornW o x m), s.cs, s.cnt, false⟩ v A c ∧ Turn G w ((w1.drew.setCell ⟨g, k, none⟩ (.int .u32 (num (tornW o x m)))).setCell ⟨p, 0, none⟩ (.bool false))) := Lib.hid fun w1 hw1 => by
      have hd : Below w.heap.size w w1.drew := ⟨hw1.1, hw1.2, hw1.3, hw1.4, hw1.5⟩
      have h1 := h.under hd
      refine ⟨⟨(h1.lay.put hv k (tornW o x m) s.cnt s.on).own 0 (.bool false) s.cnt false, ?_⟩, ?_⟩
      · exact (h1.blk.far (q := ⟨g, k, none⟩) (Ne.symm hgp) _).set 0 (.bool false)
      · exact ((Turn.of_below hd).setCell (p := ⟨g, k, none⟩) (Or.inl hGg) _).setCell (p := ⟨p, 0, none⟩) (Or.inl h.lay.gp) _
    have HB : Hid (∀ w1, Below w.heap.size w w1 → Blk w1 p 66 #[.bool true, .int .i64 (s.cnt : Int), .slice (some ⟨g, 0, none⟩) n d, .slice A s.cs.length c, .bool true] ∧ w1.cell? ⟨g, k, none⟩ = some (.int .u32 (num o)) ∧ w1.frozen? ⟨g, k, none⟩ = false) := Lib.hid fun w1 hw1 =>
      ⟨hblk.under hw1, (hw1.cell hgl).trans hcell, (World.frozen?_of_block (hw1.block g hgl)).trans hfz⟩
    have hgpp : p ≠ g := Ne.symm hgp
    clear hblk hnn ho hht hpl hgl hcell hfz hnd hv hk hi hon h hn HS
    go_enter Try.func44, Try.ntmps44
    go_upto_region 7 with (first
      | (go_at_call 51; refine HD.out.mono ?_; rintro e w0 ⟨rfl, rfl⟩)
      | (go_at_call 52; refine HH.out.mono ?_; rintro e w0 ⟨rfl, rfl⟩)
      | (go_at_call 53; refine HS1.out.mono ?_; rintro e w1 ⟨rfl, hd⟩; have H1 := Lib.hid hd; clear hd))
    have HC : Hid (∀ Y, Save g w1 Y → Y.cell? ⟨p, 2, none⟩ = some (.slice (some ⟨g, 0, none⟩) n d)) := Lib.hid fun Y hY => ((HB.out w1 H1.out).1.save hY hgpp).cellAt 2 rfl
    have hx : w1.drew.cell? ⟨g, k, none⟩ = some (.int .u32 (num o)) := (HB.out w1 H1.out).2.1
    have hf : w1.drew.frozen? ⟨g, k, none⟩ = false := (HB.out w1 H1.out).2.2
    refine wp_region_held_drew (S := fun Y => Save g w1 Y) (by kernel_rfl) (show Save g w1 w1.drew from ⟨rfl, rfl, rfl, Nat.le_refl _, fun _ _ _ => rfl⟩) (fun hS => ?_)
    (refine held_take (i := 0) (oi := ?ot1) (v := ?vt1) ?at1 (by kernel_rfl) (by kernel_rfl) (by kernel_rfl) ?bt1 ?ct1 ?dt1 (by assumption) ?rt1; (case at1 => (simp only [List.getElem?_toArray, List.getElem?_cons_zero]; rfl)); (case bt1 => exact fun _ _ _ h => h); (case ct1 => kernel_rfl); (case dt1 => (intro W hW; (try dsimp only at hW); go_split_ands; go_simp; (try with_reducible rfl))); (case' rt1 => simp only [Act.put, List.setIfInBounds_toArray, List.set_cons_zero, List.set_cons_succ]))
    (refine held_take (i := 1) (oi := ?ot2) (v := ?vt2) ?at2 (by kernel_rfl) (by kernel_rfl) (by kernel_rfl) ?bt2 ?ct2 ?dt2 (by assumption) ?rt2; (case at2 => (simp only [List.getElem?_toArray, List.getElem?_cons_zero, List.getElem?_cons_succ]; rfl)); (case bt2 => exact fun _ _ _ h => h); (case ct2 => kernel_rfl); (case dt2 => (intro W hW; (try dsimp only at hW); go_split_ands; go_simp; (try with_reducible rfl))); (case' rt2 => simp only [Act.put, List.setIfInBounds_toArray, List.set_cons_zero, List.set_cons_succ]))
    (refine held_take (i := 2) (oi := ?ot3) (v := ?vt3) ?at3 (by kernel_rfl) (by kernel_rfl) (by kernel_rfl) ?bt3 ?ct3 ?dt3 (by assumption) ?rt3; (case at3 => (simp only [List.getElem?_toArray, List.getElem?_cons_zero, List.getElem?_cons_succ]; rfl)); (case bt3 => exact fun _ _ _ h => h); (case ct3 => kernel_rfl); (case dt3 => (intro W hW; (try dsimp only at hW); go_split_ands; go_simp; (try with_reducible rfl))); (case' rt3 => simp only [Act.put, List.setIfInBounds_toArray, List.set_cons_zero, List.set_cons_succ]))
    (refine held_take (i := 3) (oi := ?ot4) (v := .slice (some ⟨g, 0, none⟩) n d) ?at4 (by kernel_rfl) (by kernel_rfl) (by kernel_rfl) ?bt4 ?ct4 ?dt4 (by assumption) ?rt4; (case at4 => (simp only [List.getElem?_toArray, List.getElem?_cons_zero, List.getElem?_cons_succ]; rfl)); (case bt4 => exact fun _ _ _ h => h); (case ct4 => kernel_rfl); (case dt4 => (intro W hW; have c1 := HC.out W hW; clear hW; go_simp; (try with_reducible rfl))); (case' rt4 => simp only [Act.put, List.setIfInBounds_toArray, List.set_cons_zero, List.set_cons_succ]))
    (refine held_take (i := 4) (oi := ?ot5) (v := ?vt5) ?at5 (by kernel_rfl) (by kernel_rfl) (by kernel_rfl) ?bt5 ?ct5 ?dt5 (by assumption) ?rt5; (case at5 => (simp only [List.getElem?_toArray, List.getElem?_cons_zero, List.getElem?_cons_succ]; rfl)); (case bt5 => exact fun _ _ _ h => h); (case ct5 => kernel_rfl); (case dt5 => (intro W hW; (try dsimp only at hW); go_split_ands; go_simp; (try with_reducible rfl))); (case' rt5 => simp only [Act.put, List.setIfInBounds_toArray, List.set_cons_zero, List.set_cons_succ]))
    (refine held_take (i := 5) (oi := ?ot6) (v := ?vt6) ?at6 (by kernel_rfl) (by kernel_rfl) (by kernel_rfl) ?bt6 ?ct6 ?dt6 (by assumption) ?rt6; (case at6 => (simp only [List.getElem?_toArray, List.getElem?_cons_zero, List.getElem?_cons_succ]; rfl)); (case bt6 => exact fun _ _ _ h => h); (case ct6 => kernel_rfl); (case dt6 => (intro W hW; (try dsimp only at hW); go_split_ands; go_simp; (try with_reducible rfl))); (case' rt6 => simp only [Act.put, List.setIfInBounds_toArray, List.set_cons_zero, List.set_cons_succ]))
    (refine held_take (i := 6) (oi := ?ot7) (v := ?vt7) ?at7 (by kernel_rfl) (by kernel_rfl) (by kernel_rfl) ?bt7 ?ct7 ?dt7 (by assumption) ?rt7; (case at7 => (simp only [List.getElem?_toArray, List.getElem?_cons_zero, List.getElem?_cons_succ]; rfl)); (case bt7 => exact fun _ _ _ h => h); (case ct7 => kernel_rfl); (case dt7 => (intro W hW; (try dsimp only at hW); go_split_ands; go_simp; (try with_reducible rfl))); (case' rt7 => simp only [Act.put, List.setIfInBounds_toArray, List.set_cons_zero, List.set_cons_succ]))
    (refine held_take (i := 7) (oi := ?ot8) (v := ?vt8) ?at8 (by kernel_rfl) (by kernel_rfl) (by kernel_rfl) ?bt8 ?ct8 ?dt8 (by assumption) ?rt8; (case at8 => (simp only [List.getElem?_toArray, List.getElem?_cons_zero, List.getElem?_cons_succ]; rfl)); (case bt8 => exact fun _ _ _ h => h); (case ct8 => kernel_rfl); (case dt8 => (intro W hW; (try dsimp only at hW); go_split_ands; go_simp; (try with_reducible rfl))); (case' rt8 => simp only [Act.put, List.setIfInBounds_toArray, List.set_cons_zero, List.set_cons_succ]))
    (refine held_take (i := 8) (oi := ?ot9) (v := .slice (some ⟨g, 0, none⟩) n d) ?at9 (by kernel_rfl) (by kernel_rfl) (by kernel_rfl) ?bt9 ?ct9 ?dt9 (by assumption) ?rt9; (case at9 => (simp only [List.getElem?_toArray, List.getElem?_cons_zero, List.getElem?_cons_succ]; rfl)); (case bt9 => exact fun _ _ _ h => h); (case ct9 => kernel_rfl); (case dt9 => (intro W hW; have c1 := HC.out W hW; clear hW; go_simp; (try with_reducible rfl))); (case' rt9 => simp only [Act.put, List.setIfInBounds_toArray, List.set_cons_zero, List.set_cons_succ]))
    (refine held_take (i := 9) (oi := ?ot10) (v := ?vt10) ?at10 (by kernel_rfl) (by kernel_rfl) (by kernel_rfl) ?bt10 ?ct10 ?dt10 (by assumption) ?rt10; (case at10 => (simp only [List.getElem?_toArray, List.getElem?_cons_zero, List.getElem?_cons_succ]; rfl)); (case bt10 => exact fun _ _ _ h => h); (case ct10 => kernel_rfl); (case dt10 => (intro W hW; (try dsimp only at hW); go_split_ands; go_simp; (try with_reducible rfl))); (case' rt10 => simp only [Act.put, List.setIfInBounds_toArray, List.set_cons_zero, List.set_cons_succ]))
    (refine held_take (i := 10) (oi := ?ot11) (v := ?vt11) ?at11 (by kernel_rfl) (by kernel_rfl) (by kernel_rfl) ?bt11 ?ct11 ?dt11 (by assumption) ?rt11; (case at11 => (simp only [List.getElem?_toArray, List.getElem?_cons_zero, List.getElem?_cons_succ]; rfl)); (case bt11 => exact fun _ _ _ h => h); (case ct11 => kernel_rfl); (case dt11 => (intro W hW; (try dsimp only at hW); go_split_ands; go_simp; (try with_reducible rfl))); (case' rt11 => simp only [Act.put, List.setIfInBounds_toArray, List.set_cons_zero, List.set_cons_succ]))
    (refine held_take (i := 12) (oi := ?ot12) (v := ?vt12) ?at12 (by kernel_rfl) (by kernel_rfl) (by kernel_rfl) ?bt12 ?ct12 ?dt12 (by assumption) ?rt12; (case at12 => (simp only [List.getElem?_toArray, List.getElem?_cons_zero, List.getElem?_cons_succ]; rfl)); (case bt12 => exact fun _ _ _ h => h); (case ct12 => kernel_rfl); (case dt12 => (intro W hW; (try dsimp only at hW); go_split_ands; go_simp; (try with_reducible rfl))); (case' rt12 => simp only [Act.put, List.setIfInBounds_toArray, List.set_cons_zero, List.set_cons_succ]))
    (refine held_take (i := 13) (oi := ?ot13) (v := ?vt13) ?at13 (by kernel_rfl) (by kernel_rfl) (by kernel_rfl) ?bt13 ?ct13 ?dt13 (by assumption) ?rt13; (case at13 => (simp only [List.getElem?_toArray, List.getElem?_cons_zero, List.getElem?_cons_succ]; rfl)); (case bt13 => exact fun _ _ _ h => h); (case ct13 => kernel_rfl); (case dt13 => (intro W hW; (try dsimp only at hW); go_split_ands; go_simp; (try with_reducible rfl))); (case' rt13 => simp only [Act.put, List.setIfInBounds_toArray, List.set_cons_zero, List.set_cons_succ]))
    refine held_one (i := 11) (oi := ?ot14) (by kernel_rfl) ?at14 ?ct14 (fun K11 hK11 => ?_)
    (case at14 => (simp only [List.getElem?_toArray, List.getElem?_cons_zero, List.getElem?_cons_succ]; rfl))
    (case ct14 => kernel_rfl)
    go_simp
    refine hK11 _ _ hS (fun hS11 => ?_)
    clear hS hK11 K11
    refine held_one (i := 14) (oi := ?ot15) (by kernel_rfl) ?at15 ?ct15 (fun K14 hK14 => ?_)
    (case at15 => (simp only [List.getElem?_toArray, List.getElem?_cons_zero, List.getElem?_cons_succ]; rfl))
    (case ct15 => kernel_rfl)
    have hSb := hS11
    go_simp
    refine (torn_any o x m _).mono ?_
    rintro e y14 ⟨rfl, rfl⟩
    refine hK14 _ _ hSb (fun hS14 => ?_)
    clear hS11 hSb hK14 K14
    (refine held_take (i := 15) (oi := ?ot16) (v := ?vt16) ?at16 (by kernel_rfl) (by kernel_rfl) (by kernel_rfl) ?bt16 ?ct16 ?dt16 (by assumption) ?rt16; (case at16 => (simp only [List.getElem?_toArray, List.getElem?_cons_zero, List.getElem?_cons_succ]; rfl)); (case bt16 => exact fun _ _ _ h => h); (case ct16 => kernel_rfl); (case dt16 => (intro W hW; (try dsimp only at hW); go_split_ands; go_simp; (try with_reducible rfl))); (case' rt16 => simp only [Act.put, List.setIfInBounds_toArray, List.set_cons_zero, List.set_cons_succ]))
    refine held_one (i := 16) (oi := ?ot17) (by kernel_rfl) ?at17 ?ct17 (fun K16 hK16 => ?_)
    (case at17 => (simp only [List.getElem?_toArray, List.getElem?_cons_zero, List.getElem?_cons_succ]; rfl))
    (case ct17 => kernel_rfl)
    have hSb := hS14
    go_simp
    refine hK16 _ _ (hSb.setCell k _) (fun hS16 => ?_)
    clear hS14 hSb hK16 K16
    refine wpAnyH_done (by kernel_rfl) ?_ _
    have hb0 := (HB.out w1 H1.out).1.save hS16 hgpp
    have HLO := Lib.hid (lose_any p true _ (hb0.cellAt 0 rfl) (hb0.froz 0))
    clear hb0 hS16 hx hf
    go_wp2_with (go_at_call 55; refine HLO.out.mono ?_; rintro e w2 ⟨rfl, hw2⟩; have HW2 := Lib.hid hw2; clear hw2)
    rw [HQ.out]
    unfold WrPost
    rw [HW.out.1, HW.out.2, HW2.out]
    exact ⟨rfl, HFIN.out w1 H1.out⟩
  | none =>
    have HS1 : Hid (Calls Try.prog 53 #[.pointer (some ⟨p, 0, none⟩)] w fun e w' => e = .returned (.tuple #[.int .u32 0, .bool false]) ∧ Below w.heap.size w w') := Lib.hid (HS.out.mono fun e w' ⟨h1, h2⟩ => by
      rw [hht] at h1
      rcases h1 with ⟨m', e1, e2⟩ | ⟨_, e1⟩
      · cases e1
      · exact ⟨e1, h2⟩)
    have HW := Lib.hid (wr_ok s k x hon hk hht)
    obtain ⟨o, ho⟩ : ∃ o, o = s.ws.getD k 0 := ⟨_, rfl⟩
    rw [← ho] at hcell
    obtain ⟨n, hnn⟩ : ∃ n, n = s.ws.length := ⟨_, rfl⟩
    have hkn : k < n := by omega
    have hblk := h.blk
    rw [hv, hon, ← hnn] at hblk
    have HFIN : Hid (∀ w1, Below w.heap.size w w1 → NC ((w1.setCell ⟨g, k, none⟩ (.int .u32 (num x))).setCell ⟨p, 1, none⟩ (.int .i64 ((s.cnt + 1 : Nat) : Int))) G p ⟨s.ws.set k x, s.cs, s.cnt + 1, true⟩ v A c ∧ Turn G w ((w1.setCell ⟨g, k, none⟩ (.int .u32 (num x))).setCell ⟨p, 1, none⟩ (.int .i64 ((s.cnt + 1 : Nat) : Int)))) := Lib.hid fun w1 hd => by
      have h1 := h.under hd
      refine ⟨⟨(h1.lay.put hv k x s.cnt s.on).own 1 (.int .i64 ((s.cnt + 1 : Nat) : Int)) (s.cnt + 1) true, ?_⟩, ?_⟩
      · have := (h1.blk.far (q := ⟨g, k, none⟩) (Ne.symm hgp) (.int .u32 (num x))).set 1 (.int .i64 ((s.cnt + 1 : Nat) : Int))
        rw [hon] at this
        exact this
      · exact ((Turn.of_below hd).setCell (p := ⟨g, k, none⟩) (Or.inl hGg) _).setCell (p := ⟨p, 1, none⟩) (Or.inl h.lay.gp) _
    have HB : Hid (∀ w1, Below w.heap.size w w1 → w1.cell? ⟨p, 2, none⟩ = some (.slice (some ⟨g, 0, none⟩) n d) ∧ w1.cell? ⟨g, k, none⟩ = some (.int .u32 (num o)) ∧ w1.frozen? ⟨g, k, none⟩ = false) := Lib.hid fun w1 hw1 =>
      ⟨(hblk.under hw1).cellAt 2 rfl, (hw1.cell hgl).trans hcell, (World.frozen?_of_block (hw1.block g hgl)).trans hfz⟩
    have HCO : Hid (∀ w1, Below w.heap.size w w1 → Calls Try.prog 56 #[.pointer (some ⟨p, 0, none⟩)] (w1.setCell ⟨g, k, none⟩ (.int .u32 (num x))) fun e w' => e = .returned (.tuple #[]) ∧ w' = (w1.setCell ⟨g, k, none⟩ (.int .u32 (num x))).setCell ⟨p, 1, none⟩ (.int .i64 ((s.cnt + 1 : Nat) : Int))) := Lib.hid fun w1 hw1 =>
      have hb := (hblk.under hw1).far (q := ⟨g, k, none⟩) (Ne.symm hgp) (.int .u32 (num x))
      count_any p s.cnt hn _ (hb.cellAt 1 rfl) (hb.froz 1)
    clear hblk hnn ho hht hpl hgl hcell hfz hnd hv hk hi hon h hn HS
    go_enter Try.func44, Try.ntmps44
    go_wp2_with (first
      | (go_at_call 51; refine HD.out.mono ?_; rintro e w0 ⟨rfl, rfl⟩)
      | (go_at_call 52; refine HH.out.mono ?_; rintro e w0 ⟨rfl, rfl⟩)
      | (go_at_call 53; refine HS1.out.mono ?_; rintro e w1 ⟨rfl, hd⟩; have H1 := Lib.hid hd; obtain ⟨c2, cx, cf⟩ := HB.out w1 hd; clear hd)
      | (go_at_call 56; refine (HCO.out w1 H1.out).mono ?_; rintro e w2 ⟨rfl, hw2⟩; have HW2 := Lib.hid hw2; clear hw2))
    rw [HQ.out]
    unfold WrPost
    rw [HW.out.1, HW.out.2, HW2.out]
    exact ⟨rfl, HFIN.out w1 H1.out⟩
end
end Go.Proofs.Ytpeebdhbcglibaa
