/- mach.New. -/
import Derived.Test.YtbemphfijkcbhaaFitA
import Derived.Test.YtbemphfijkcbhaaFlash9
import Derived.Test.YtbemphfijkcbhaaFew9
import Derived.Test.YtbemphfijkcbhaaWa
namespace Go.Proofs.Ytbemphfijkcbhaa
open Go.RowKit

theorem fit_addr {r1 r2 l1 l2 : Nat} {i s c : Int} (h : fitE r1 r2 l1 l2 i s c = 0) : addrB (r1, r2) = true := by
  unfold fitE at h
  split at h
  · rename_i h1
    simp only [Bool.and_eq_true, memB] at h1
    exact h1.1.1
  · cases h
theorem fitE_lt (r1 r2 l1 l2 : Nat) (i s c : Int) : fitE r1 r2 l1 l2 i s c < 1000 := by unfold fitE; split <;> decide
/-- A machine's block. -/
def MachC (p g : Nat) (r1 r2 l1 l2 : Nat) (i s c : Int) : Array Value := #[.pointer (some ⟨p, 0, none⟩), .pointer (some ⟨g, 0, none⟩), .int .u64 (r1 : Int), .int .u64 (r2 : Int), .int .u64 (l1 : Int), .int .u64 (l2 : Int), .int .i64 i, .int .i64 s, .int .i64 c]
/-- How New ends. -/
def MakePost (w : World) (r1 r2 l1 l2 : Nat) (i s c : Int) (b : List UInt8) (l : List Ck) (e : Ending) (w' : World) : Prop := Below w.heap.size w w' ∧
  ((∃ E : Nat, E = (if fitE r1 r2 l1 l2 i s c = 0 then (ckRun (r1, r2) l zM).1 else fitE r1 r2 l1 l2 i s c) ∧ E ≠ 0 ∧ e = .returned (.tuple #[.pointer none, .int .i64 (E : Int)])) ∨
   (fitE r1 r2 l1 l2 i s c = 0 ∧ (ckRun (r1, r2) l zM).1 = 0 ∧ ∃ x p q g G D, e = .returned (.tuple #[.pointer (some ⟨x, 0, none⟩), .int .i64 0]) ∧ Blk w' x 72 (MachC p g r1 r2 l1 l2 i s c) ∧ MC w' G p q (r1, r2) (300 * l.length) D (ckRun (r1, r2) l zM).2 ∧ FlashAt w' g b))
set_option maxRecDepth 100000 in
set_option maxHeartbeats 4000000 in
theorem machnew_any (r1 r2 l1 l2 : Nat) (i s c : Int) (hr : fit (r1, r2)) (hl : fit (l1, l2)) (A : Option Addr) (ca : Nat) (b : List UInt8) (hb : b.length ≤ 3000) (B : Option Addr) (cb : Nat) (l : List Ck) (hk : l.length ≤ 1000) (w : World) (hA : Lies w w.heap.size 1 A b.length (u8s b)) (hC : CRow w w.heap.size B l) :
    Calls Try.prog 30 #[.agg #[.int .u64 (r1 : Int), .int .u64 (r2 : Int), .int .u64 (l1 : Int), .int .u64 (l2 : Int), .int .i64 i, .int .i64 s, .int .i64 c], .slice A b.length ca, .slice B l.length cb] w (MakePost w r1 r2 l1 l2 i s c b l) := by
  obtain ⟨V, hV⟩ : ∃ V, V = w.alloc (.cells (boxBd r1 r2 l1 l2 i s c) 26) := ⟨_, rfl⟩
  have hP0 : Blk V w.heap.size 26 (boxBd r1 r2 l1 l2 i s c) := by rw [hV]; exact Blk.new _ _ _ rfl
  have HB0 : Hid (Below w.heap.size w V) := Lib.hid (by rw [hV]; exact (Below.refl _ _).alloc (Nat.le_refl _) _)
  have HC0 : Hid (∀ v, Below V.heap.size V v → v.cell? ⟨w.heap.size, 0, none⟩ = some (.int .u64 (r1 : Int)) ∧ v.cell? ⟨w.heap.size, 1, none⟩ = some (.int .u64 (r2 : Int)) ∧ v.cell? ⟨w.heap.size, 2, none⟩ = some (.int .u64 (l1 : Int)) ∧ v.cell? ⟨w.heap.size, 3, none⟩ = some (.int .u64 (l2 : Int)) ∧ v.cell? ⟨w.heap.size, 4, none⟩ = some (.int .i64 i) ∧ v.cell? ⟨w.heap.size, 5, none⟩ = some (.int .i64 s) ∧ v.cell? ⟨w.heap.size, 6, none⟩ = some (.int .i64 c)) := Lib.hid fun v hv =>
    have h := hP0.under hv
    ⟨h.cellAt 0 rfl, h.cellAt 1 rfl, h.cellAt 2 rfl, h.cellAt 3 rfl, h.cellAt 4 rfl, h.cellAt 5 rfl, h.cellAt 6 rfl⟩
  have HCR : Hid (∀ W, Below w.heap.size w W → CRow W W.heap.size B l) := Lib.hid fun W hW => by
    have h := hC.below hW
    exact ⟨fun hn => by obtain ⟨a, e, h1, h2⟩ := h.1 hn; exact ⟨a, e, Nat.lt_of_lt_of_le h1 hW.size, h2⟩, fun y hy => ⟨(h.2 y hy).1, (h.2 y hy).2.1.wide hW.size, (h.2 y hy).2.2⟩⟩
  have HBL : Hid (∀ W, Below w.heap.size w W → Lies W W.heap.size 1 A b.length (u8s b)) := Lib.hid fun W hW => (hA.below hW).wide hW.size
  obtain ⟨Q, hQ⟩ : ∃ Q, Q = MakePost w r1 r2 l1 l2 i s c b l := ⟨_, rfl⟩
  rw [← hQ]
  have HQ := Lib.hid hQ
  obtain ⟨E, hE⟩ : ∃ E, E = fitE r1 r2 l1 l2 i s c := ⟨_, rfl⟩
  have CA := Lib.hid (fun W => fit_any r1 r2 l1 l2 i s c hr hl W)
  have hEl := fitE_lt r1 r2 l1 l2 i s c
  rw [← hE] at CA hEl
  have HP0 := Lib.hid hP0
  have hbi : b.length ≤ 3000 := hb
  have HV := Lib.hid hV
  clear hQ hA hC hP0 hV
  by_cases hE0 : E = 0
  · subst hE0
    have CA0 : Hid (∀ W, Calls Try.prog 11 #[.agg #[.int .u64 (r1 : Int), .int .u64 (r2 : Int), .int .u64 (l1 : Int), .int .u64 (l2 : Int), .int .i64 i, .int .i64 s, .int .i64 c]] W fun e w' => e = .returned (.int .i64 0) ∧ Below W.heap.size W w') := CA
    have hq1 : addrB (r1, r2) = true := fit_addr hE.symm
    by_cases hq2 : (ckRun (r1, r2) l zM).1 = 0
    · have HN := Lib.hid (fun W hW => new_yes r1 r2 hr B cb l (by omega) W (HCR.out W hW) hq1 hq2)
      have HE2 := Lib.hid (And.intro hE.symm hq2)
      clear hr hl hE hq1 hq2 hk hb CA
      go_enter Try.func30, Try.ntmps30
      go_upto_region 1 with fail
      have hV := HV.out
      simp only [boxBd] at hV
      rw [← hV]
      obtain ⟨c0, c1, c2, c3, c4, c5, c6⟩ := HC0.out V (Below.refl _ _)
      clear hV
      go_upto_region 9 with (first
        | (go_at_call 11; refine (CA0.out _).mono ?_; rintro e V1 ⟨rfl, hd⟩; have HD := Lib.hid hd; obtain ⟨d0, d1, _⟩ := HC0.out V1 hd; clear hd c0 c1 c2 c3 c4 c5 c6)
        | (go_at_call 14; refine (HN.out _ (HB0.out.trans (HD.out.mono HB0.out.size))).mono ?_; rintro e V2 ⟨p, q, G, D, rfl, hM, _, _, hd⟩; have HD2 := Lib.hid (HD.out.trans (hd.mono HD.out.size)); have HM := Lib.hid hM; clear hd hM d0 d1))
      have HQ2 : Hid (Blk V2 w.heap.size 26 (boxBd r1 r2 l1 l2 i s c)) := Lib.hid (HP0.out.under HD2.out)
      have HW2 := Lib.hid (HB0.out.trans (HD2.out.mono HB0.out.size))
      have HBU := Lib.hid (burn_any A ca b V2.drew ((HBL.out V2 HW2.out).drewN 1) (by omega))
      refine wp_region_held_drew (S := fun Y => VS V2 Y) (by kernel_rfl) (VS.begin V2) (fun hS => ?_)
      (refine held_take (i := 0) (oi := ?ot1) (v := ?vt1) ?at1 (by kernel_rfl) (by kernel_rfl) (by kernel_rfl) ?bt1 ?ct1 ?dt1 (by assumption) ?rt1; (case at1 => (simp only [List.getElem?_toArray, List.getElem?_cons_zero]; rfl)); (case bt1 => exact fun _ _ _ h => h); (case ct1 => kernel_rfl); (case dt1 => (intro W hW; (try dsimp only at hW); go_split_ands; go_simp; (try with_reducible rfl))); (case' rt1 => simp only [Act.put, List.setIfInBounds_toArray, List.set_cons_zero, List.set_cons_succ]))
      (refine held_take (i := 1) (oi := ?ot2) (v := ?vt2) ?at2 (by kernel_rfl) (by kernel_rfl) (by kernel_rfl) ?bt2 ?ct2 ?dt2 (by assumption) ?rt2; (case at2 => (simp only [List.getElem?_toArray, List.getElem?_cons_zero, List.getElem?_cons_succ]; rfl)); (case bt2 => exact fun _ _ _ h => h); (case ct2 => kernel_rfl); (case dt2 => (intro W hW; (try dsimp only at hW); go_split_ands; go_simp; (try with_reducible rfl))); (case' rt2 => simp only [Act.put, List.setIfInBounds_toArray, List.set_cons_zero, List.set_cons_succ]))
      (refine held_take (i := 3) (oi := ?ot3) (v := .agg #[.int .u64 (r1 : Int), .int .u64 (r2 : Int), .int .u64 (l1 : Int), .int .u64 (l2 : Int), .int .i64 i, .int .i64 s, .int .i64 c]) ?at3 (by kernel_rfl) (by kernel_rfl) (by kernel_rfl) ?bt3 ?ct3 ?dt3 (by assumption) ?rt3; (case at3 => (simp only [List.getElem?_toArray, List.getElem?_cons_zero, List.getElem?_cons_succ]; rfl)); (case bt3 => exact fun _ _ _ h => h); (case ct3 => kernel_rfl); (case dt3 => (intro W hW; exact exec_load 26 _ rfl w.heap.size rfl _ ((HQ2.out.under hW).load Try.underlying26 rfl (by kernel_rfl)))); (case' rt3 => simp only [Act.put, List.setIfInBounds_toArray, List.set_cons_zero, List.set_cons_succ]))
      refine held_one (i := 2) (oi := ?ot4) (by kernel_rfl) ?at4 ?ct4 (fun K2 hK2 => ?_)
      (case at4 => (simp only [List.getElem?_toArray, List.getElem?_cons_zero, List.getElem?_cons_succ]; rfl))
      (case ct4 => kernel_rfl)
      have hSb := hS
      go_simp
      refine HBU.out.mono ?_
      rintro e y2 ⟨g, rfl, hf, _, hd⟩
      have HF2 := Lib.hid hf
      have HS2 := Lib.hid (hSb.keep hd)
      refine hK2 _ _ (hSb.keep hd) (fun hS2 => ?_)
      clear hd hf hSb hK2 K2
      (refine held_take (i := 4) (oi := ?ot5) (v := ?vt5) ?at5 (by kernel_rfl) (by kernel_rfl) (by kernel_rfl) ?bt5 ?ct5 ?dt5 (by assumption) ?rt5; (case at5 => (simp only [List.getElem?_toArray, List.getElem?_cons_zero, List.getElem?_cons_succ]; rfl)); (case bt5 => exact fun _ _ _ h => h); (case ct5 => kernel_rfl); (case dt5 => (intro W hW; (try dsimp only at hW); go_split_ands; go_simp; (try with_reducible rfl))); (case' rt5 => simp only [Act.put, List.setIfInBounds_toArray, List.set_cons_zero, List.set_cons_succ]))
      refine held_one (i := 5) (oi := ?ot6) (by kernel_rfl) ?at6 ?ct6 (fun K5 hK5 => ?_)
      (case at6 => (simp only [List.getElem?_toArray, List.getElem?_cons_zero, List.getElem?_cons_succ]; rfl))
      (case ct6 => kernel_rfl)
      have hSb := hS2
      go_simp
      refine hK5 _ _ (hSb.keep ((Below.refl _ _).alloc (Nat.le_refl _) _)) (fun hS5 => ?_)
      clear hSb hK5 K5
      (refine held_take (i := 6) (oi := ?ot7) (v := ?vt7) ?at7 (by kernel_rfl) (by kernel_rfl) (by kernel_rfl) ?bt7 ?ct7 ?dt7 (by assumption) ?rt7; (case at7 => (simp only [List.getElem?_toArray, List.getElem?_cons_zero, List.getElem?_cons_succ]; rfl)); (case bt7 => exact fun _ _ _ h => h); (case ct7 => kernel_rfl); (case dt7 => (intro W hW; (try dsimp only at hW); go_split_ands; go_simp; (try with_reducible rfl))); (case' rt7 => simp only [Act.put, List.setIfInBounds_toArray, List.set_cons_zero, List.set_cons_succ]))
      (refine held_take (i := 7) (oi := ?ot8) (v := ?vt8) ?at8 (by kernel_rfl) (by kernel_rfl) (by kernel_rfl) ?bt8 ?ct8 ?dt8 (by assumption) ?rt8; (case at8 => (simp only [List.getElem?_toArray, List.getElem?_cons_zero, List.getElem?_cons_succ]; rfl)); (case bt8 => exact fun _ _ _ h => h); (case ct8 => kernel_rfl); (case dt8 => (intro W hW; (try dsimp only at hW); go_split_ands; go_simp; (try with_reducible rfl))); (case' rt8 => simp only [Act.put, List.setIfInBounds_toArray, List.set_cons_zero, List.set_cons_succ]))
      refine wpAnyH_done (by kernel_rfl) ?_ _
      go_wp2
      rw [HQ.out]
      have h2 := HS2.out
      have hb2 : Below w.heap.size w (y2.alloc (.cells (MachC p g r1 r2 l1 l2 i s c) 72)) := (h2.below0 HW2.out).alloc (h2.below0 HW2.out).size _
      exact ⟨hb2, Or.inr ⟨HE2.out.1, HE2.out.2, _, p, q, g, G, D, rfl, Blk.new _ _ _ rfl, (HM.out.under h2).under ((Below.refl _ _).alloc (Nat.le_refl _) _), HF2.out.below ((Below.refl _ _).alloc (Nat.le_refl _) _)⟩⟩

    · have HN := Lib.hid (fun W hW => new_no r1 r2 hr B cb l (by omega) W (HCR.out W hW) (Or.inr hq2))
      obtain ⟨E2, hE2⟩ : ∃ E2, E2 = (ckRun (r1, r2) l zM).1 := ⟨_, rfl⟩
      rw [if_pos hq1, ← hE2] at HN
      have HF : Hid (E2 = (if fitE r1 r2 l1 l2 i s c = 0 then (ckRun (r1, r2) l zM).1 else fitE r1 r2 l1 l2 i s c) ∧ E2 ≠ 0) := Lib.hid ⟨by rw [if_pos hE.symm, hE2], by rw [hE2]; exact hq2⟩
      have hE0 : E2 ≠ 0 := HF.out.2
      have g1 : ((E2 : Int) != 0) = true := by simp; omega
      have g2 : ¬ (E2 : Int) = 0 := by omega
      clear hr hl hE hq1 hq2 hk hb hE2 hE0 CA
      go_enter Try.func30, Try.ntmps30
      go_upto_region 1 with fail
      have hV := HV.out
      simp only [boxBd] at hV
      rw [← hV]
      obtain ⟨c0, c1, c2, c3, c4, c5, c6⟩ := HC0.out V (Below.refl _ _)
      clear hV
      go_wp2_with (first
        | (go_at_call 11; refine (CA0.out _).mono ?_; rintro e V1 ⟨rfl, hd⟩; have HD := Lib.hid hd; obtain ⟨d0, d1, _⟩ := HC0.out V1 hd; clear hd c0 c1 c2 c3 c4 c5 c6)
        | (go_at_call 14; refine (HN.out _ (HB0.out.trans (HD.out.mono HB0.out.size))).mono ?_; rintro e V2 ⟨rfl, hd⟩; have HD2 := Lib.hid (HD.out.trans (hd.mono HD.out.size)); clear hd d0 d1))
      rw [HQ.out]
      exact ⟨HB0.out.trans (HD2.out.mono HB0.out.size), Or.inl ⟨E2, HF.out.1, HF.out.2, rfl⟩⟩
  · have g1 : ((E : Int) != 0) = true := by simp; omega
    have g2 : ¬ (E : Int) = 0 := by omega
    have HF : Hid (E = (if fitE r1 r2 l1 l2 i s c = 0 then (ckRun (r1, r2) l zM).1 else fitE r1 r2 l1 l2 i s c) ∧ E ≠ 0) := Lib.hid ⟨by rw [if_neg (by rw [← hE]; exact hE0), hE], hE0⟩
    clear hr hl hE hk hb hE0
    go_enter Try.func30, Try.ntmps30
    go_upto_region 1 with fail
    have hV := HV.out
    simp only [boxBd] at hV
    rw [← hV]
    obtain ⟨c0, c1, c2, c3, c4, c5, c6⟩ := HC0.out V (Below.refl _ _)
    clear hV
    go_wp2_with (go_at_call 11; refine (CA.out _).mono ?_; rintro e V1 ⟨rfl, hd⟩; have HD := Lib.hid hd; clear hd c0 c1 c2 c3 c4 c5 c6)
    rw [HQ.out]
    exact ⟨HB0.out.trans (HD.out.mono HB0.out.size), Or.inl ⟨E, HF.out.1, HF.out.2, rfl⟩⟩
end Go.Proofs.Ytbemphfijkcbhaa
