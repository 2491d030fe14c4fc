/- The reference's store. -/
import Derived.Test.YtpeebdhbcglibaaNx
import Derived.Test.YtpeebdhbcglibaaNk
namespace Go.Proofs.Ytpeebdhbcglibaa
open Go.RowKit

/-- The reference's store. -/
structure NR (w : World) (G : Nat → Prop) (p : Nat) (s : St) (v : Value) (A : Option Addr) (c : Nat) : Prop where
  lay : Lay w G p s v A c
  blk : Blk w p 29 #[v, .slice A s.cs.length c, .int .i64 (s.cnt : Int), .bool (!s.on)]
section
variable {w w' : World} {G : Nat → Prop} {p c : Nat} {s : St} {v : Value} {A : Option Addr}
theorem NR.under (h : NR w G p s v A c) (k : Below w.heap.size w w') : NR w' G p s v A c := ⟨h.lay.under k, h.blk.under k⟩
theorem NR.turn {G' : Nat → Prop} (h : NR w G p s v A c) (k : Turn G' w w') (hd : ∀ i, G i → ¬ G' i) (hn : ∀ a, A = some a → s.cs.length ≠ 0 → ¬ G' a.block) : NR w' G p s v A c :=
  ⟨h.lay.turn k hd hn, h.blk.turn k (hd p h.lay.gp)⟩
attribute [local go_sem] num_and num_or num_andn
/-- How Write ends. -/
def RwPost (w : World) (G : Nat → Prop) (p c : Nat) (s : St) (v : Value) (A : Option Addr) (i : Int) (x : W32) (e : Ending) (w' : World) : Prop :=
  e = .returned (.int .i64 (s.wrE i : Int)) ∧ NR w' G p (s.wr i x) v A c ∧ Turn G w w'
set_option maxRecDepth 100000 in
set_option maxHeartbeats 4000000 in
theorem rwrite_any (h : NR w G p s v A c) (hn : s.cnt < 1000000) (i : Int) (x : W32) : Calls Try.prog 36 #[.pointer (some ⟨p, 0, none⟩), .int .i64 i, .int .u32 (num x)] w (RwPost w G p c s v A i x) := by
  obtain ⟨Q, hQ⟩ : ∃ Q, Q = RwPost w G p c s v A i x := ⟨_, rfl⟩
  rw [← hQ]
  have HQ := Lib.hid hQ
  have HN := Lib.hid h
  obtain ⟨n, hnn⟩ : ∃ n, n = s.ws.length := ⟨_, rfl⟩
  obtain ⟨K, hKK⟩ : ∃ K, K = s.cs.length := ⟨_, rfl⟩
  obtain ⟨ct, hct⟩ : ∃ ct, ct = s.cnt := ⟨_, rfl⟩
  have hblk := h.blk
  rw [← hKK, ← hct] at hblk
  obtain ⟨B, d, hv, hnd, _⟩ := h.lay.form
  rw [← hnn] at hv hnd
  have hblk0 := hblk
  rw [hv] at hblk0
  have c0 := hblk0.cellAt 0 rfl
  have c1 := hblk0.cellAt 1 rfl
  have c2 := hblk0.cellAt 2 rfl
  have c3 := hblk0.cellAt 3 rfl
  clear hQ
  cases hon : s.on with
  | false =>
    have HW := Lib.hid (wr_off s i x hon)
    rw [hon] at c3
    simp only [Bool.not_false] at c3
    clear hon h hn hblk hblk0 hv hnd hnn hKK hct
    go_enter Try.func36, Try.ntmps36
    go_wp2
    rw [HQ.out]
    unfold RwPost
    rw [HW.out.1, HW.out.2]
    exact ⟨rfl, HN.out, Turn.refl _ _⟩
  | true =>
  rw [hon] at c3
  simp only [Bool.not_true] at c3
  by_cases hi : 0 ≤ i ∧ i < (s.ws.length : Int)
  case neg =>
    have HW := Lib.hid (wr_out s i x hon hi)
    by_cases h0 : i < 0
    · clear hon h hn hblk hblk0 hv hnd hnn hKK hct hi
      go_enter Try.func36, Try.ntmps36
      go_wp2
      rw [HQ.out]
      unfold RwPost
      rw [HW.out.1, HW.out.2]
      exact ⟨rfl, HN.out, Turn.refl _ _⟩
    · have h1 : (n : Int) ≤ i := by omega
      clear hon h hn hblk hblk0 hv hnd hnn hKK hct hi
      go_enter Try.func36, Try.ntmps36
      go_wp2
      rw [HQ.out]
      unfold RwPost
      rw [HW.out.1, HW.out.2]
      exact ⟨rfl, HN.out, Turn.refl _ _⟩
  obtain ⟨k, rfl⟩ := Int.eq_ofNat_of_zero_le hi.1
  have hk : k < s.ws.length := by omega
  have hkn : k < n := by omega
  obtain ⟨g, d', hv', hnd', hGg, hgp, hcell, hfz⟩ := h.lay.at hk
  obtain ⟨rfl, rfl⟩ : B = some ⟨g, 0, none⟩ ∧ d = d' := by
    rw [hv] at hv'
    injection hv' with e1 e2 e3
    exact ⟨e1, e3⟩
  have hpl := h.lay.lt p h.lay.gp
  have hgl := h.lay.lt g hGg
  have hgpp : p ≠ g := Ne.symm hgp
  have hv2 : v = .slice (some ⟨g, 0, none⟩) s.ws.length d := by rw [hv, hnn]
  have g0 : ¬ ((k : Int) < 0) := by omega
  have g1 : ¬ ((n : Int) ≤ (k : Int)) := by omega
  obtain ⟨o, ho⟩ : ∃ o, o = s.ws.getD k 0 := ⟨_, rfl⟩
  rw [← ho] at hcell
  -- the words as they are written, where no cut strikes
  have okcase : s.hit = none → s.wrE (k : Int) = 0 ∧ ∀ w1, Below w.heap.size w w1 → NR ((w1.setCell ⟨g, k, none⟩ (.int .u32 (num x))).setCell ⟨p, 2, none⟩ (.int .i64 ((ct + 1 : Nat) : Int))) G p (s.wr (k : Int) x) v A c ∧ Turn G w ((w1.setCell ⟨g, k, none⟩ (.int .u32 (num x))).setCell ⟨p, 2, none⟩ (.int .i64 ((ct + 1 : Nat) : Int))) := fun hht => by
    have hw := wr_ok s k x hon hk hht
    refine ⟨hw.1, fun w1 hd => ?_⟩
    rw [hw.2, hct]
    have h1 := h.under hd
    refine ⟨⟨(h1.lay.put hv2 k x s.cnt s.on).own 2 (.int .i64 ((s.cnt + 1 : Nat) : Int)) (s.cnt + 1) true, ?_⟩, ?_⟩
    · have := (h1.blk.far (q := ⟨g, k, none⟩) hgpp (.int .u32 (num x))).set 2 (.int .i64 ((s.cnt + 1 : Nat) : Int))
      rw [hon] at this
      exact this
    · exact ((Turn.of_below hd).setCell (p := ⟨g, k, none⟩) (Or.inl hGg) _).setCell (p := ⟨p, 2, none⟩) (Or.inl h.lay.gp) _
  have hw0 : ∀ w1, Below w.heap.size w w1 → w1.cell? ⟨p, 0, none⟩ = some (.slice (some ⟨g, 0, none⟩) n d) ∧ w1.cell? ⟨p, 2, none⟩ = some (.int .i64 (ct : Int)) ∧ w1.cell? ⟨g, k, none⟩ = some (.int .u32 (num o)) ∧ w1.frozen? ⟨g, k, none⟩ = false ∧ w1.frozen? ⟨p, 2, none⟩ = false := fun w1 hw1 =>
    ⟨(hblk0.under hw1).cellAt 0 rfl, (hblk0.under hw1).cellAt 2 rfl, (hw1.cell hgl).trans hcell, (World.frozen?_of_block (hw1.block g hgl)).trans hfz, (hblk0.under hw1).froz 2⟩
  have hctb : ct < 1000000 := by omega
  obtain ⟨ct1, hct1⟩ : ∃ ct1, ct1 = ct + 1 := ⟨_, rfl⟩
  have e1 : (ct : Int) + 1 = (ct1 : Int) := by omega
  have hc1b : ct1 ≤ 1000000 := by omega
  rw [← hct1] at okcase
  have HBD : Hid (∀ q, Below w.heap.size w (w.drewN q)) := Lib.hid fun q => ⟨rfl, rfl, rfl, Nat.le_refl _, fun _ _ => rfl⟩
  cases hcs : s.cs with
  | nil =>
    have hK0 : K = 0 := by rw [hKK, hcs]; rfl
    subst hK0
    have HO := Lib.hid (okcase (by unfold St.hit; rw [hcs]))
    have HW0 := Lib.hid hw0
    clear okcase hw0 hcs hKK hon h hn hblk hblk0 hv hnd hnn hct hi hk hv' hnd' hpl hgl hgp hcell hfz ho hv2 hct1 hctb c2
    go_enter Try.func36, Try.ntmps36
    go_wp2
    go_quiet (fail)
    obtain ⟨d0, d2, dx, df, dp⟩ := HW0.out _ (HBD.out nq)
    have HF := Lib.hid (HO.out.2 _ (HBD.out nq))
    clear c0 c1 c3
    go_wp2
    rw [HQ.out]
    unfold RwPost
    rw [HO.out.1]
    exact ⟨rfl, HF.out⟩
  | cons y ys =>
    obtain ⟨q, rfl, q0, q1⟩ := h.lay.cut hcs
    obtain ⟨af, ms⟩ := y
    simp only at q0 q1
    have hKp : 0 < K := by rw [hKK, hcs]; simp
    have g2 : (0 : Int) < (K : Int) := by omega
    have hql : q.block < w.heap.size := World.block_lt_of_cell? w q q0
    by_cases ha : af = (ct : Int)
    · have hht : s.hit = some ms := by unfold St.hit; rw [hcs]; exact if_pos (by rw [← hct]; exact ha)
      have HW := Lib.hid (wr_hit s k x ms hon hk hht)
      rw [← ho] at HW
      have HFIN : Hid (∀ w1, Below w.heap.size w w1 → NR ((w1.drew.setCell ⟨g, k, none⟩ (.int .u32 (num (tornW o x ms)))).setCell ⟨p, 3, none⟩ (.bool true)) G p ⟨s.ws.set k (tornW o x ms), s.cs, s.cnt, false⟩ v (some q) c ∧ Turn G w ((w1.drew.setCell ⟨g, k, none⟩ (.int .u32 (num (tornW o x ms)))).setCell ⟨p, 3, none⟩ (.bool true))) := Lib.hid fun w1 hw1 => by
        have hd : Below w.heap.size w w1.drew := ⟨hw1.1, hw1.2, hw1.3, hw1.4, hw1.5⟩
        have h1 := h.under hd
        refine ⟨⟨(h1.lay.put hv2 k (tornW o x ms) s.cnt s.on).own 3 (.bool true) s.cnt false, ?_⟩, ?_⟩
        · exact (h1.blk.far (q := ⟨g, k, none⟩) hgpp _).set 3 (.bool true)
        · exact ((Turn.of_below hd).setCell (p := ⟨g, k, none⟩) (Or.inl hGg) _).setCell (p := ⟨p, 3, none⟩) (Or.inl h.lay.gp) _
      have HB : Hid (∀ w1, Below w.heap.size w w1 → Blk w1 p 29 #[.slice (some ⟨g, 0, none⟩) n d, .slice (some q) K c, .int .i64 (ct : Int), .bool false] ∧ w1.cell? ⟨g, k, none⟩ = some (.int .u32 (num o)) ∧ w1.frozen? ⟨g, k, none⟩ = false ∧ w1.cell? q = some (.int .i64 af) ∧ w1.cell? ⟨q.block, q.off + 1, none⟩ = some (.int .u32 (num ms))) := Lib.hid fun w1 hw1 => by
        have := hblk0.under hw1
        rw [hon] at this
        exact ⟨this, (hw1.cell hgl).trans hcell, (World.frozen?_of_block (hw1.block g hgl)).trans hfz, (hw1.cell hql).trans q0, (hw1.cell (p := ⟨q.block, q.off + 1, none⟩) hql).trans q1⟩
      subst ha
      obtain ⟨m, hm⟩ : ∃ m, m = ms := ⟨_, rfl⟩
      rw [← hm] at HW HFIN HB q1
      clear okcase hw0 hcs hKK hon h hn hblk hblk0 hv hnd hnn hct hi hk hv' hnd' hpl hgl hgp hcell hfz ho hv2 hct1 hctb hm hht hql
      go_enter Try.func36, Try.ntmps36
      go_upto_region 5 with fail
      go_quiet (fail)
      obtain ⟨hb, _, _, hq0, hq1⟩ := HB.out _ (HBD.out nq)
      have d1 := hb.cellAt 1 rfl
      clear hb c0 c1 c2 c3 q0 q1
      go_upto_region 7 with fail
      obtain ⟨w1, hw1⟩ : ∃ w1, w1 = w.drewN nq := ⟨_, rfl⟩
      rw [← hw1] at hq0 hq1 d1 ⊢
      have H1 : Hid (Below w.heap.size w w1) := Lib.hid (by rw [hw1]; exact HBD.out nq)
      clear hq0 hq1 d1 hw1
      have HC : Hid (∀ Y, Save g w1 Y → Y.cell? ⟨p, 0, none⟩ = some (.slice (some ⟨g, 0, none⟩) n d)) := Lib.hid fun Y hY => ((HB.out w1 H1.out).1.save hY hgpp).cellAt 0 rfl
      have hx : w1.drew.cell? ⟨g, k, none⟩ = some (.int .u32 (num o)) := (HB.out w1 H1.out).2.1
      have hf : w1.drew.frozen? ⟨g, k, none⟩ = false := (HB.out w1 H1.out).2.2.1
      refine wp_region_held_drew (S := fun Y => Save g w1 Y) (by kernel_rfl) (show Save g w1 w1.drew from ⟨rfl, rfl, rfl, Nat.le_refl _, fun _ _ _ => rfl⟩) (fun hS => ?_)
      (refine held_take (i := 0) (oi := ?ot1) (v := ?vt1) ?at1 (by kernel_rfl) (by kernel_rfl) (by kernel_rfl) ?bt1 ?ct1 ?dt1 (by assumption) ?rt1; (case at1 => (simp only [List.getElem?_toArray, List.getElem?_cons_zero]; rfl)); (case bt1 => exact fun _ _ _ h => h); (case ct1 => kernel_rfl); (case dt1 => (intro W hW; (try dsimp only at hW); go_split_ands; go_simp; (try with_reducible rfl))); (case' rt1 => simp only [Act.put, List.setIfInBounds_toArray, List.set_cons_zero, List.set_cons_succ]))
      (refine held_take (i := 1) (oi := ?ot2) (v := ?vt2) ?at2 (by kernel_rfl) (by kernel_rfl) (by kernel_rfl) ?bt2 ?ct2 ?dt2 (by assumption) ?rt2; (case at2 => (simp only [List.getElem?_toArray, List.getElem?_cons_zero, List.getElem?_cons_succ]; rfl)); (case bt2 => exact fun _ _ _ h => h); (case ct2 => kernel_rfl); (case dt2 => (intro W hW; (try dsimp only at hW); go_split_ands; go_simp; (try with_reducible rfl))); (case' rt2 => simp only [Act.put, List.setIfInBounds_toArray, List.set_cons_zero, List.set_cons_succ]))
      (refine held_take (i := 2) (oi := ?ot3) (v := ?vt3) ?at3 (by kernel_rfl) (by kernel_rfl) (by kernel_rfl) ?bt3 ?ct3 ?dt3 (by assumption) ?rt3; (case at3 => (simp only [List.getElem?_toArray, List.getElem?_cons_zero, List.getElem?_cons_succ]; rfl)); (case bt3 => exact fun _ _ _ h => h); (case ct3 => kernel_rfl); (case dt3 => (intro W hW; (try dsimp only at hW); go_split_ands; go_simp; (try with_reducible rfl))); (case' rt3 => simp only [Act.put, List.setIfInBounds_toArray, List.set_cons_zero, List.set_cons_succ]))
      (refine held_take (i := 3) (oi := ?ot4) (v := .slice (some ⟨g, 0, none⟩) n d) ?at4 (by kernel_rfl) (by kernel_rfl) (by kernel_rfl) ?bt4 ?ct4 ?dt4 (by assumption) ?rt4; (case at4 => (simp only [List.getElem?_toArray, List.getElem?_cons_zero, List.getElem?_cons_succ]; rfl)); (case bt4 => exact fun _ _ _ h => h); (case ct4 => kernel_rfl); (case dt4 => (intro W hW; have c1 := HC.out W hW; clear hW; go_simp; (try with_reducible rfl))); (case' rt4 => simp only [Act.put, List.setIfInBounds_toArray, List.set_cons_zero, List.set_cons_succ]))
      (refine held_take (i := 4) (oi := ?ot5) (v := ?vt5) ?at5 (by kernel_rfl) (by kernel_rfl) (by kernel_rfl) ?bt5 ?ct5 ?dt5 (by assumption) ?rt5; (case at5 => (simp only [List.getElem?_toArray, List.getElem?_cons_zero, List.getElem?_cons_succ]; rfl)); (case bt5 => exact fun _ _ _ h => h); (case ct5 => kernel_rfl); (case dt5 => (intro W hW; (try dsimp only at hW); go_split_ands; go_simp; (try with_reducible rfl))); (case' rt5 => simp only [Act.put, List.setIfInBounds_toArray, List.set_cons_zero, List.set_cons_succ]))
      (refine held_take (i := 5) (oi := ?ot6) (v := ?vt6) ?at6 (by kernel_rfl) (by kernel_rfl) (by kernel_rfl) ?bt6 ?ct6 ?dt6 (by assumption) ?rt6; (case at6 => (simp only [List.getElem?_toArray, List.getElem?_cons_zero, List.getElem?_cons_succ]; rfl)); (case bt6 => exact fun _ _ _ h => h); (case ct6 => kernel_rfl); (case dt6 => (intro W hW; (try dsimp only at hW); go_split_ands; go_simp; (try with_reducible rfl))); (case' rt6 => simp only [Act.put, List.setIfInBounds_toArray, List.set_cons_zero, List.set_cons_succ]))
      (refine held_take (i := 6) (oi := ?ot7) (v := ?vt7) ?at7 (by kernel_rfl) (by kernel_rfl) (by kernel_rfl) ?bt7 ?ct7 ?dt7 (by assumption) ?rt7; (case at7 => (simp only [List.getElem?_toArray, List.getElem?_cons_zero, List.getElem?_cons_succ]; rfl)); (case bt7 => exact fun _ _ _ h => h); (case ct7 => kernel_rfl); (case dt7 => (intro W hW; (try dsimp only at hW); go_split_ands; go_simp; (try with_reducible rfl))); (case' rt7 => simp only [Act.put, List.setIfInBounds_toArray, List.set_cons_zero, List.set_cons_succ]))
      (refine held_take (i := 7) (oi := ?ot8) (v := ?vt8) ?at8 (by kernel_rfl) (by kernel_rfl) (by kernel_rfl) ?bt8 ?ct8 ?dt8 (by assumption) ?rt8; (case at8 => (simp only [List.getElem?_toArray, List.getElem?_cons_zero, List.getElem?_cons_succ]; rfl)); (case bt8 => exact fun _ _ _ h => h); (case ct8 => kernel_rfl); (case dt8 => (intro W hW; (try dsimp only at hW); go_split_ands; go_simp; (try with_reducible rfl))); (case' rt8 => simp only [Act.put, List.setIfInBounds_toArray, List.set_cons_zero, List.set_cons_succ]))
      (refine held_take (i := 8) (oi := ?ot9) (v := ?vt9) ?at9 (by kernel_rfl) (by kernel_rfl) (by kernel_rfl) ?bt9 ?ct9 ?dt9 (by assumption) ?rt9; (case at9 => (simp only [List.getElem?_toArray, List.getElem?_cons_zero, List.getElem?_cons_succ]; rfl)); (case bt9 => exact fun _ _ _ h => h); (case ct9 => kernel_rfl); (case dt9 => (intro W hW; (try dsimp only at hW); go_split_ands; go_simp; (try with_reducible rfl))); (case' rt9 => simp only [Act.put, List.setIfInBounds_toArray, List.set_cons_zero, List.set_cons_succ]))
      (refine held_take (i := 9) (oi := ?ot10) (v := ?vt10) ?at10 (by kernel_rfl) (by kernel_rfl) (by kernel_rfl) ?bt10 ?ct10 ?dt10 (by assumption) ?rt10; (case at10 => (simp only [List.getElem?_toArray, List.getElem?_cons_zero, List.getElem?_cons_succ]; rfl)); (case bt10 => exact fun _ _ _ h => h); (case ct10 => kernel_rfl); (case dt10 => (intro W hW; (try dsimp only at hW); go_split_ands; go_simp; (try with_reducible rfl))); (case' rt10 => simp only [Act.put, List.setIfInBounds_toArray, List.set_cons_zero, List.set_cons_succ]))
      (refine held_take (i := 10) (oi := ?ot11) (v := ?vt11) ?at11 (by kernel_rfl) (by kernel_rfl) (by kernel_rfl) ?bt11 ?ct11 ?dt11 (by assumption) ?rt11; (case at11 => (simp only [List.getElem?_toArray, List.getElem?_cons_zero, List.getElem?_cons_succ]; rfl)); (case bt11 => exact fun _ _ _ h => h); (case ct11 => kernel_rfl); (case dt11 => (intro W hW; (try dsimp only at hW); go_split_ands; go_simp; (try with_reducible rfl))); (case' rt11 => simp only [Act.put, List.setIfInBounds_toArray, List.set_cons_zero, List.set_cons_succ]))
      (refine held_take (i := 11) (oi := ?ot12) (v := .slice (some ⟨g, 0, none⟩) n d) ?at12 (by kernel_rfl) (by kernel_rfl) (by kernel_rfl) ?bt12 ?ct12 ?dt12 (by assumption) ?rt12; (case at12 => (simp only [List.getElem?_toArray, List.getElem?_cons_zero, List.getElem?_cons_succ]; rfl)); (case bt12 => exact fun _ _ _ h => h); (case ct12 => kernel_rfl); (case dt12 => (intro W hW; have c1 := HC.out W hW; clear hW; go_simp; (try with_reducible rfl))); (case' rt12 => simp only [Act.put, List.setIfInBounds_toArray, List.set_cons_zero, List.set_cons_succ]))
      (refine held_take (i := 12) (oi := ?ot13) (v := ?vt13) ?at13 (by kernel_rfl) (by kernel_rfl) (by kernel_rfl) ?bt13 ?ct13 ?dt13 (by assumption) ?rt13; (case at13 => (simp only [List.getElem?_toArray, List.getElem?_cons_zero, List.getElem?_cons_succ]; rfl)); (case bt13 => exact fun _ _ _ h => h); (case ct13 => kernel_rfl); (case dt13 => (intro W hW; (try dsimp only at hW); go_split_ands; go_simp; (try with_reducible rfl))); (case' rt13 => simp only [Act.put, List.setIfInBounds_toArray, List.set_cons_zero, List.set_cons_succ]))
      (refine held_take (i := 13) (oi := ?ot14) (v := ?vt14) ?at14 (by kernel_rfl) (by kernel_rfl) (by kernel_rfl) ?bt14 ?ct14 ?dt14 (by assumption) ?rt14; (case at14 => (simp only [List.getElem?_toArray, List.getElem?_cons_zero, List.getElem?_cons_succ]; rfl)); (case bt14 => exact fun _ _ _ h => h); (case ct14 => kernel_rfl); (case dt14 => (intro W hW; (try dsimp only at hW); go_split_ands; go_simp; (try with_reducible rfl))); (case' rt14 => simp only [Act.put, List.setIfInBounds_toArray, List.set_cons_zero, List.set_cons_succ]))
      (refine held_take (i := 15) (oi := ?ot15) (v := ?vt15) ?at15 (by kernel_rfl) (by kernel_rfl) (by kernel_rfl) ?bt15 ?ct15 ?dt15 (by assumption) ?rt15; (case at15 => (simp only [List.getElem?_toArray, List.getElem?_cons_zero, List.getElem?_cons_succ]; rfl)); (case bt15 => exact fun _ _ _ h => h); (case ct15 => kernel_rfl); (case dt15 => (intro W hW; (try dsimp only at hW); go_split_ands; go_simp; (try with_reducible rfl))); (case' rt15 => simp only [Act.put, List.setIfInBounds_toArray, List.set_cons_zero, List.set_cons_succ]))
      refine held_one (i := 14) (oi := ?ot16) (by kernel_rfl) ?at16 ?ct16 (fun K14 hK14 => ?_)
      (case at16 => (simp only [List.getElem?_toArray, List.getElem?_cons_zero, List.getElem?_cons_succ]; rfl))
      (case ct16 => kernel_rfl)
      go_simp
      refine hK14 _ _ hS (fun hS14 => ?_)
      clear hS hK14 K14
      (refine held_take (i := 16) (oi := ?ot17) (v := ?vt17) ?at17 (by kernel_rfl) (by kernel_rfl) (by kernel_rfl) ?bt17 ?ct17 ?dt17 (by assumption) ?rt17; (case at17 => (simp only [List.getElem?_toArray, List.getElem?_cons_zero, List.getElem?_cons_succ]; rfl)); (case bt17 => exact fun _ _ _ h => h); (case ct17 => kernel_rfl); (case dt17 => (intro W hW; (try dsimp only at hW); go_split_ands; go_simp; (try with_reducible rfl))); (case' rt17 => simp only [Act.put, List.setIfInBounds_toArray, List.set_cons_zero, List.set_cons_succ]))
      (refine held_take (i := 17) (oi := ?ot18) (v := ?vt18) ?at18 (by kernel_rfl) (by kernel_rfl) (by kernel_rfl) ?bt18 ?ct18 ?dt18 (by assumption) ?rt18; (case at18 => (simp only [List.getElem?_toArray, List.getElem?_cons_zero, List.getElem?_cons_succ]; rfl)); (case bt18 => exact fun _ _ _ h => h); (case ct18 => kernel_rfl); (case dt18 => (intro W hW; (try dsimp only at hW); go_split_ands; go_simp; (try with_reducible rfl))); (case' rt18 => simp only [Act.put, List.setIfInBounds_toArray, List.set_cons_zero, List.set_cons_succ]))
      (refine held_take (i := 18) (oi := ?ot19) (v := ?vt19) ?at19 (by kernel_rfl) (by kernel_rfl) (by kernel_rfl) ?bt19 ?ct19 ?dt19 (by assumption) ?rt19; (case at19 => (simp only [List.getElem?_toArray, List.getElem?_cons_zero, List.getElem?_cons_succ]; rfl)); (case bt19 => exact fun _ _ _ h => h); (case ct19 => kernel_rfl); (case dt19 => (intro W hW; (try dsimp only at hW); go_split_ands; go_simp; (try with_reducible rfl))); (case' rt19 => simp only [Act.put, List.setIfInBounds_toArray, List.set_cons_zero, List.set_cons_succ]))
      refine held_one (i := 19) (oi := ?ot20) (by kernel_rfl) ?at20 ?ct20 (fun K19 hK19 => ?_)
      (case at20 => (simp only [List.getElem?_toArray, List.getElem?_cons_zero, List.getElem?_cons_succ]; rfl))
      (case ct20 => kernel_rfl)
      have hSb := hS14
      go_simp
      refine hK19 _ _ (hSb.setCell k _) (fun hS19 => ?_)
      clear hS14 hSb hK19 K19
      refine wpAnyH_done (by kernel_rfl) ?_ _
      have hb0 := (HB.out w1 H1.out).1.save hS19 hgpp
      have d3 := hb0.cellAt 3 rfl
      have f3 := hb0.froz 3
      clear hb0 hS19 hx hf
      go_wp2
      rw [HQ.out]
      unfold RwPost
      rw [HW.out.1, HW.out.2]
      exact ⟨rfl, HFIN.out w1 H1.out⟩
    · have HO := Lib.hid (okcase (by unfold St.hit; rw [hcs]; exact if_neg (by rw [← hct]; exact ha)))
      have HW0 := Lib.hid hw0
      have g3 : decide (af = (ct : Int)) = false := by simp [ha]
      clear okcase hw0 hcs hKK hon h hn hblk hblk0 hv hnd hnn hct hi hk hv' hnd' hpl hgl hgp hcell hfz ho hv2 hct1 hctb hql
      go_enter Try.func36, Try.ntmps36
      go_upto_region 5 with fail
      go_quiet (fail)
      obtain ⟨d0, d2, dx, df, dp⟩ := HW0.out _ (HBD.out nq)
      have HF := Lib.hid (HO.out.2 _ (HBD.out nq))
      clear c0 c1 c2 c3
      go_wp2
      rw [HQ.out]
      unfold RwPost
      rw [HO.out.1]
      exact ⟨rfl, HF.out⟩
/-- How Reboot ends. -/
def RbPost (w : World) (G : Nat → Prop) (p : Nat) (s : St) (v : Value) (A : Option Addr) (e : Ending) (w' : World) : Prop := e = .returned (.tuple #[]) ∧ (∃ B d, NR w' G p s.boot v B d ∧ (s.cs.length ≠ 0 → ∃ a, A = some a ∧ ∀ b, B = some b → b.block = a.block)) ∧ Turn G w w'
set_option maxRecDepth 100000 in
set_option maxHeartbeats 2000000 in
theorem rreboot_any (h : NR w G p s v A c) : Calls Try.prog 17 #[.pointer (some ⟨p, 0, none⟩)] w (RbPost w G p s v A) := by
  obtain ⟨Q, hQ⟩ : ∃ Q, Q = RbPost w G p s v A := ⟨_, rfl⟩
  rw [← hQ]
  have HQ := Lib.hid hQ
  clear hQ
  obtain ⟨V, hV⟩ : ∃ V, V = (w.setCell ⟨p, 3, none⟩ (.bool false)).setCell ⟨p, 2, none⟩ (.int .i64 0) := ⟨_, rfl⟩
  have hb : Blk V p 29 #[v, .slice A s.cs.length c, .int .i64 0, .bool false] := by
    rw [hV]; exact (h.blk.set 3 (.bool false)).set 2 (.int .i64 0)
  have hl : Lay V G p ⟨s.ws, s.cs, 0, true⟩ v A c := by
    rw [hV]; exact (h.lay.own 3 (.bool false) s.cnt true).own 2 (.int .i64 0) 0 true
  have ht : Turn G w V := by
    rw [hV]; exact ((Turn.refl G w).setCell (p := ⟨p, 3, none⟩) (Or.inl h.lay.gp) _).setCell (p := ⟨p, 2, none⟩) (Or.inl h.lay.gp) _
  have c2 := h.blk.cellAt 2 rfl
  have c3 := h.blk.cellAt 3 rfl
  have f2 := h.blk.froz 2
  have f3 := h.blk.froz 3
  obtain ⟨ct, hct⟩ : ∃ ct, ct = s.cnt := ⟨_, rfl⟩
  obtain ⟨bo, hbo⟩ : ∃ bo, bo = !s.on := ⟨_, rfl⟩
  rw [← hct] at c2
  rw [← hbo] at c3
  have HV := Lib.hid hV
  cases hcs : s.cs with
  | nil =>
    have HE : Hid (NR V G p s.boot v A c ∧ Turn G w V) := Lib.hid ⟨by
      have e : s.boot = ⟨s.ws, s.cs, 0, true⟩ := by unfold St.boot; rw [hcs]; rfl
      rw [e]; exact ⟨hl, hb⟩, ht⟩
    have HCC := Lib.hid (hb.cellAt 1 rfl)
    rw [hcs] at HCC
    have HZ : Hid (s.cs.length = 0) := Lib.hid (by rw [hcs]; rfl)
    clear h hV hb hl ht hcs hct hbo
    go_enter Try.func17, Try.ntmps17
    go_upto_region 1 with fail
    rw [← HV.out]
    have d1 := HCC.out
    simp only [List.length_nil] at d1
    clear c2 c3 f2 f3
    go_wp2
    go_end0
    rw [HQ.out]
    exact ⟨rfl, ⟨_, _, HE.out.1, fun hn => absurd HZ.out hn⟩, HE.out.2⟩
  | cons x xs =>
    obtain ⟨q, hA, _, _⟩ := hl.cut hcs
    have hK : s.cs.length = xs.length + 1 := by rw [hcs]; rfl
    obtain ⟨K, hKK⟩ : ∃ K, K = s.cs.length := ⟨_, rfl⟩
    have hKp : 0 < K := by omega
    obtain ⟨q2, hq2⟩ : ∃ q2, q2 = (if c = 1 then some q else some (q.add 2)) := ⟨_, rfl⟩
    obtain ⟨K2, hK2⟩ : ∃ K2, K2 = K - 1 := ⟨_, rfl⟩
    obtain ⟨c5, hc5⟩ : ∃ c5, c5 = c - 1 := ⟨_, rfl⟩
    have hsl : ∀ W, (Instr.sliceAt 27 (.slice (some q) K c) (some (.int .i64 1)) none none).run Try.prog W = .ok (.slice q2 K2 c5) W := fun W => by rw [hq2, hK2, hc5]; exact cuts_tail q K c hKp W
    have HE : Hid (NR (V.setCell ⟨p, 1, none⟩ (.slice q2 K2 c5)) G p s.boot v q2 c5 ∧ Turn G w (V.setCell ⟨p, 1, none⟩ (.slice q2 K2 c5))) := Lib.hid ⟨by
      have e : s.boot = ⟨s.ws, xs, 0, true⟩ := by unfold St.boot; rw [hcs]; rfl
      have e2 : K2 = xs.length := by omega
      have hca := h.lay.ca
      rw [e]
      refine ⟨?_, ?_⟩
      · have h1 := hl.own 1 (.slice q2 K2 c5) 0 true
        have h2 := h1.tail (x := x) (xs := xs) hcs q hA 0 true q2 (by
          rw [hq2]
          by_cases h1 : c = 1
          · exact Or.inr (List.eq_nil_of_length_eq_zero (by omega))
          · rw [if_neg h1]; exact Or.inl rfl)
        rw [← hc5] at h2
        exact h2
      · have h1 := hb.set 1 (.slice q2 K2 c5)
        rw [e2] at h1 ⊢
        exact h1, ht.setCell (p := ⟨p, 1, none⟩) (Or.inl h.lay.gp) _⟩
    have HZ : Hid (∃ a, A = some a ∧ ∀ b, q2 = some b → b.block = a.block) := Lib.hid ⟨q, hA, fun b hb => by
      rw [hq2] at hb
      split at hb
      · cases hb; rfl
      · cases hb; exact addr_add_block _ _⟩
    have hd1 := hb.cellAt 1 rfl
    rw [hA, ← hKK] at hd1
    have HCC := Lib.hid (And.intro hd1 (hb.froz 1))
    clear h hV hb hl ht hcs hA hK hKK hq2 hK2 hc5 hct hbo hd1
    go_enter Try.func17, Try.ntmps17
    go_upto_region 1 with fail
    rw [← HV.out]
    obtain ⟨d1, d2⟩ := HCC.out
    clear c2 c3 f2 f3
    go_wp2
    go_end0
    rw [HQ.out]
    exact ⟨rfl, ⟨_, _, HE.out.1, fun _ => HZ.out⟩, HE.out.2⟩
end
theorem u32_lies {w : World} {B : Nat} {A : Option Addr} {l : List W32} (h : Lies w B 1 A l.length (u32s l)) {k : Nat} (hk : k < l.length) : ∃ a, A = some a ∧ w.cell? (a.add k) = some (.int .u32 (num l[k])) := by
  obtain ⟨a, e, _, hc⟩ := h.2 (by omega)
  refine ⟨a, e, ?_⟩
  rw [hc k (by rw [u32s_length]; exact hk)]
  simp [u32s]
set_option maxRecDepth 100000 in
set_option maxHeartbeats 2000000 in
theorem samew_any (A B : Option Addr) (ca cb : Nat) (l : List W32) (w : World) (hl : l.length ≤ 1000000) (hA : Lies w w.heap.size 1 A l.length (u32s l)) (hB : Lies w w.heap.size 1 B l.length (u32s l)) :
    Calls Try.prog 20 #[.slice A l.length ca, .slice B l.length cb] w fun e w' => e = .returned (.bool true) ∧ Below w.heap.size w w' := by
  have HA := Lib.hid hA
  have HB := Lib.hid hB
  have HL := Lib.hid hl
  clear hA hB
  go_enter Try.func20, Try.ntmps20
  go_wp2
  go_loopw [13] (fun i wr => ∃ k : Nat, k ≤ l.length ∧ i = .int .i64 k ∧ Hid (Below w.heap.size w wr)) (fun i _ => l.length - (intOf i).toNat)
  case atStart => exact ⟨0, Nat.zero_le _, rfl, Lib.hid (Below.refl _ _)⟩
  case round =>
    obtain ⟨k, hk, rfl, hN⟩ := hrel
    by_cases hlt : k < l.length
    · obtain ⟨a, ha, hca⟩ := u32_lies (HA.out.below hN.out) hlt
      obtain ⟨b, hb, hcb⟩ := u32_lies (HB.out.below hN.out) hlt
      subst ha hb
      obtain ⟨x, hx⟩ : ∃ x, l[k] = x := ⟨_, rfl⟩
      rw [hx] at hca hcb
      have HK := Lib.hid hlt
      have h0 : (k : Int) < (l.length : Int) := by omega
      clear hx hk
      go_wp2
      go_quiet (fail)
      go_wp2
      go_roundw
      case rel => exact ⟨k + 1, HK.out, by go_num, Lib.hid ⟨hN.out.1, hN.out.2, hN.out.3, hN.out.4, hN.out.5⟩⟩
      case measure => have := HK.out; simp [intOf]; omega
    · obtain rfl : k = l.length := by omega
      clear hlt hk
      go_wp2
      go_ret
      exact ⟨rfl, hN.out⟩
end Go.Proofs.Ytpeebdhbcglibaa
