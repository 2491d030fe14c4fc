/- portreevelaw09.do: a deed of both memories. -/
import Derived.Test.YtbemphfijkcbhaaFew9
import Derived.Test.YtbemphfijkcbhaaRword9
import Derived.Test.YtbemphfijkcbhaaRzero9
import Derived.Test.YtbemphfijkcbhaaStr
namespace Go.Proofs.Ytbemphfijkcbhaa
open Go.RowKit

/-- The program's memory and the reference's read as m; neither has blocks of the other's, or below B. -/
structure Both (w : World) (B p r : Nat) (ram : Sp) (N : Nat) (m : Bytes8) (G H : Nat → Prop) (b : Nat) (D : DataW Unit) (v : Value) (ps : List RP) : Prop where
  mc : MC w G p b ram N D m
  mr : MR w H r ram N v ps m
  dj : ∀ i, G i → ¬ H i
  np : ¬ H p
  gb : ∀ i, G i → B ≤ i
  hb : ∀ i, H i → B ≤ i
def BothE (w : World) (B p r : Nat) (ram : Sp) (N : Nat) (m : Bytes8) : Prop := ∃ G H b D v ps, Both w B p r ram N m G H b D v ps
/-- What a deed makes of memory. -/
def doM (ram : Sp) (m : Bytes8) (d : Dd) : Bytes8 := if d.kind = 0 ∨ d.kind = 3 then m else if d.kind = 1 then wrR ram m d.at_ d.l else if d.kind = 2 then zrR ram m d.at_ d.n else wrW ram m d.at_ d.n
theorem MC.mono {w : World} {G : Nat → Prop} {p b n n' : Nat} {ram : Sp} {D : DataW Unit} {m : Bytes8} (h : MC w G p b ram n D m) (hn : n ≤ n') : MC w G p b ram n' D m := ⟨h.blk, h.off, h.pg.mono hn, h.ok⟩
set_option maxRecDepth 100000 in
set_option maxHeartbeats 8000000 in
theorem do_any {w : World} {B p r N : Nat} {ram : Sp} {m : Bytes8} {G H : Nat → Prop} {b : Nat} {D : DataW Unit} {v : Value} {ps : List RP} (h : Both w B p r ram N m G H b D v ps) (hN : N + 300 ≤ 900000) (hBw : B ≤ w.heap.size) (kind : Int) (at_ n : Nat) (A : Option Addr) (ca : Nat) (l : List UInt8)
    (hk : -9223372036854775808 ≤ kind ∧ kind ≤ 9223372036854775807) (ha : at_ < 18446744073709551616) (hn : n < 18446744073709551616) (hA : Lies w B 1 A l.length (u8s l)) (hca : l.length ≤ ca) (hcm : l.length ≤ 5000) :
    Calls Try.prog 16 #[.pointer (some ⟨p, 0, none⟩), .pointer (some ⟨r, 0, none⟩), .agg #[.int .i64 kind, .int .u64 (at_ : Int), .int .u64 (n : Int), .slice A l.length ca]] w fun e w' => e = .returned (.bool true) ∧ BothE w' B p r ram (N + 300) (doM ram m ⟨kind, at_, n, A, ca, l⟩) ∧ Below B w w' := by
  obtain ⟨GH, hGH⟩ : ∃ GH : Nat → Prop, GH = fun i => G i ∨ H i := ⟨_, rfl⟩
  obtain ⟨V, hV⟩ : ∃ V, V = w.alloc (.cells #[.int .i64 kind, .int .u64 (at_ : Int), .int .u64 (n : Int), .slice A l.length ca] 43) := ⟨_, rfl⟩
  have hBV : Below w.heap.size w V := by rw [hV]; exact (Below.refl _ _).alloc (Nat.le_refl _) _
  have hsV : V.heap.size = w.heap.size + 1 := by rw [hV]; simp
  have hP0 : Blk V w.heap.size 43 #[.int .i64 kind, .int .u64 (at_ : Int), .int .u64 (n : Int), .slice A l.length ca] := by rw [hV]; exact Blk.new _ _ _ rfl
  have hGl : ∀ i, GH i → i < w.heap.size := fun i hi => by rw [hGH] at hi; exact hi.elim (h.mc.pg.lt i) (h.mr.lt i)
  have hGb : ∀ i, GH i → B ≤ i := fun i hi => by rw [hGH] at hi; exact hi.elim (h.gb i) (h.hb i)
  have hcells : ∀ W, Turn GH V W → W.cell? ⟨w.heap.size, 0, none⟩ = some (.int .i64 kind) ∧ W.cell? ⟨w.heap.size, 1, none⟩ = some (.int .u64 (at_ : Int)) ∧ W.cell? ⟨w.heap.size, 2, none⟩ = some (.int .u64 (n : Int)) ∧ W.cell? ⟨w.heap.size, 3, none⟩ = some (.slice A l.length ca) := fun W hW => by
    have hb := hP0.turn hW fun hi => by have := hGl _ hi; omega
    exact ⟨hb.cellAt 0 rfl, hb.cellAt 1 rfl, hb.cellAt 2 rfl, hb.cellAt 3 rfl⟩
  -- a world in which both are as they were
  have hsame : ∀ W, Below V.heap.size V W → MC W G p b ram N D m ∧ MR W H r ram N v ps m := fun W hW => ⟨(h.mc.under hBV).under hW, (h.mr.under hBV).under hW⟩
  have hlies : ∀ W, Turn GH V W → Lies W W.heap.size 1 A l.length (u8s l) := fun W hW => by
    refine (((hA.below (hBV.mono hBw)).turn hW (by omega) fun q e h0 hi => ?_)).wide (by have := hW.size; omega)
    obtain ⟨q', e', hb, _⟩ := hA.2 h0
    rw [e] at e'
    cases e'
    have := hGb _ hi
    omega
  have hagG : ∀ q, A = some q → l.length ≠ 0 → ∀ i, i = q.block → ∀ X : Nat → Prop, (∀ j, X j → B ≤ j) → ¬ X i := fun q e h0 i hi X hX hx => by
    obtain ⟨q', e', hb, _⟩ := hA.2 h0
    rw [e] at e'
    cases e'
    have := hX _ hx
    omega
  have HV : Hid (V = w.alloc (.cells #[.int .i64 kind, .int .u64 (at_ : Int), .int .u64 (n : Int), .slice A l.length ca] 43)) := Lib.hid hV
  have HBV := Lib.hid (And.intro hBV (And.intro hBw hsV))
  have hc0 := hcells V (Turn.refl _ _)
  have HCE := Lib.hid hcells
  have HGB := Lib.hid (And.intro hGb hGl)
  -- the end, where nothing changed
  have HEND : Hid (∀ W, Below V.heap.size V W → BothE W B p r ram (N + 300) m ∧ Below B w W) := Lib.hid fun W hW => by
    obtain ⟨h1, h2⟩ := hsame W hW
    exact ⟨⟨G, H, b, D, v, ps, h1.mono (by omega), h2.mono (by omega), h.dj, h.np, h.gb, h.hb⟩, (hBV.trans (hW.mono (by omega))).mono hBw⟩
  have hMC := fun W hW => (hsame W hW).1
  have hMR := fun W hW => (hsame W hW).2
  by_cases k0 : kind = 0
  · subst k0
    obtain ⟨L, hL⟩ : ∃ L, L = rdL ram m at_ n := ⟨_, rfl⟩
    obtain ⟨E, hE⟩ : ∃ E, E = askR ram at_ n := ⟨_, rfl⟩
    have HR1 : Hid (∀ W, Below V.heap.size V W → Calls Try.prog 20 #[.pointer (some ⟨p, 0, none⟩), .int .u64 (at_ : Int), .int .u64 (n : Int)] W fun e w' => ∃ B, e = .returned (.tuple #[.slice B L.length L.length, .int .i64 (E : Int)]) ∧ Lies w' w'.heap.size 1 B L.length (u8s L) ∧ Below W.heap.size W w') := Lib.hid fun W hW => by
      rw [hL, hE]
      refine (mread_any (hMC W hW) at_ n ⟨ha, hn⟩).mono ?_
      rintro e w' ⟨B, rfl, h1, _, h2⟩
      exact ⟨B, rfl, h1, h2⟩
    have HR2 : Hid (∀ W, Below V.heap.size V W → Calls Try.prog 31 #[.pointer (some ⟨r, 0, none⟩), .int .u64 (at_ : Int), .int .u64 (n : Int)] W fun e w' => ∃ B cap, e = .returned (.tuple #[.slice B L.length cap, .int .i64 (E : Int)]) ∧ Lies w' w'.heap.size 1 B L.length (u8s L) ∧ Below W.heap.size W w') := Lib.hid fun W hW => by
      rw [hL, hE]
      exact rread_any (hMR W hW) (by omega) at_ n ⟨ha, hn⟩
    have hdm : doM ram m ⟨0, at_, n, A, ca, l⟩ = m := if_pos (Or.inl rfl)
    rw [hdm]
    obtain ⟨c0, c1, c2, c3⟩ := hc0
    clear h hN hBw hk ha hn hA hca hGH hV hBV hsV hP0 hGl hGb hcells hsame hlies hagG hMC hMR hL hE hdm
    go_enter Try.func16, Try.ntmps16
    go_upto_region 1 with fail
    rw [← HV.out]
    clear HV
    go_wp2_with (first
      | (go_at_call 20; refine (HR1.out _ (Below.refl _ _)).mono ?_; rintro e y1 ⟨B1, rfl, hl1, hd⟩; have H1 := Lib.hid hd; have HL1 := Lib.hid hl1; clear c0 c1 c2 c3; obtain ⟨c0, c1, c2, c3⟩ := HCE.out y1 (Turn.of_below hd); clear hl1 hd)
      | (go_at_call 31; refine (HR2.out _ H1.out).mono ?_; rintro e y2 ⟨B2, cap2, rfl, hl2, hd⟩; have H2 := Lib.hid (H1.out.trans (hd.mono H1.out.size)); have hs1 := conv_str y2 _ B1 _ L.length _ ((HL1.out.below hd).wide hd.size); have hs2 := conv_str y2 _ B2 _ cap2 _ hl2; clear hl2 hd))
    go_ret
    exact ⟨rfl, HEND.out _ H2.out⟩
  by_cases k3 : kind = 3
  · subst k3
    obtain ⟨L, hL⟩ : ∃ L, L = wordV ram m at_ := ⟨_, rfl⟩
    obtain ⟨E, hE⟩ : ∃ E, E = wordE ram at_ := ⟨_, rfl⟩
    have HR1 : Hid (∀ W, Below V.heap.size V W → Calls Try.prog 25 #[.pointer (some ⟨p, 0, none⟩), .int .u64 (at_ : Int)] W fun e w' => e = .returned (.tuple #[.int .u64 (L : Int), .int .i64 (E : Int)]) ∧ Below W.heap.size W w') := Lib.hid fun W hW => by
      rw [hL, hE]
      exact mword_any (hMC W hW) at_ ha
    have HR2 : Hid (∀ W, Below V.heap.size V W → Calls Try.prog 42 #[.pointer (some ⟨r, 0, none⟩), .int .u64 (at_ : Int)] W fun e w' => e = .returned (.tuple #[.int .u64 (L : Int), .int .i64 (E : Int)]) ∧ Below W.heap.size W w') := Lib.hid fun W hW => by
      rw [hL, hE]
      exact rword_any (hMR W hW) (by omega) at_ ha
    have hdm : doM ram m ⟨3, at_, n, A, ca, l⟩ = m := if_pos (Or.inr rfl)
    rw [hdm]
    obtain ⟨c0, c1, c2, c3⟩ := hc0
    clear h hN hBw hk ha hn hA hca hGH hV hBV hsV hP0 hGl hGb hcells hsame hlies hagG hMC hMR hL hE hdm k0
    go_enter Try.func16, Try.ntmps16
    go_upto_region 1 with fail
    rw [← HV.out]
    clear HV
    go_wp2_with (first
      | (go_at_call 25; refine (HR1.out _ (Below.refl _ _)).mono ?_; rintro e y1 ⟨rfl, hd⟩; have H1 := Lib.hid hd; clear c0 c1 c2 c3; obtain ⟨c0, c1, c2, c3⟩ := HCE.out y1 (Turn.of_below hd); clear hd)
      | (go_at_call 42; refine (HR2.out _ H1.out).mono ?_; rintro e y2 ⟨rfl, hd⟩; have H2 := Lib.hid (H1.out.trans (hd.mono H1.out.size)); clear hd))
    go_ret
    exact ⟨rfl, HEND.out _ H2.out⟩
  -- deeds that change memory: behind the program's, behind the reference's
  have fin : ∀ (y1 y2 : World) (G' H' : Nat → Prop) (b' : Nat) (D' : DataW Unit) (v' : Value) (ps' : List RP) (m' : Bytes8), MC y1 G' p b' ram (N + 300) D' m' → (∀ i, G' i → G i ∨ w.heap.size ≤ i) → (∀ i, G' i → i < y1.heap.size) → Turn H y1 y2 → MR y2 H' r ram (N + 300) v' ps' m' → (∀ i, H' i → H i ∨ y1.heap.size ≤ i) → Below B w y1 →
      BothE y2 B p r ram (N + 300) m' ∧ Below B w y2 := fun y1 y2 G' H' b' D' v' ps' m' h1 h2 h3 h4 h5 h6 h7 => by
    have hsz := h7.size
    have hd : ∀ i, G' i → ¬ H i := fun i hi hh => by
      rcases h2 i hi with h8 | h8
      · exact h.dj i h8 hh
      · have := h.mr.lt i hh; omega
    refine ⟨⟨G', H', b', D', v', ps', h1.turn h4 hd h.np, h5, fun i hi hh => ?_, fun hh => ?_, fun i hi => ?_, fun i hi => ?_⟩, h7.trans (h4.below h.hb (by omega))⟩
    · rcases h6 i hh with h8 | h8
      · exact hd i hi h8
      · have := h3 i hi; omega
    · rcases h6 p hh with h8 | h8
      · exact h.np h8
      · have := h1.blk.lt; omega
    · rcases h2 i hi with h8 | h8
      · exact h.gb i h8
      · omega
    · rcases h6 i hi with h8 | h8
      · exact h.hb i h8
      · omega
  by_cases k1 : kind = 1
  · subst k1
    obtain ⟨m', hm'⟩ : ∃ m', m' = wrR ram m at_ l := ⟨_, rfl⟩
    obtain ⟨E, hE⟩ : ∃ E, E = askR ram at_ l.length := ⟨_, rfl⟩
    have hdm : doM ram m ⟨1, at_, n, A, ca, l⟩ = m' := by unfold doM; simp [hm']
    rw [hdm]
    obtain ⟨wS, hwS⟩ : ∃ wS, wS = V := ⟨_, rfl⟩
    have HST : Hid (Turn GH V wS) := Lib.hid (by rw [hwS]; exact Turn.refl _ _)
    have HBX : Hid (∀ W, Turn GH V W → W.cell? ⟨w.heap.size, 0, none⟩ = some (.int .i64 1) ∧ W.cell? ⟨w.heap.size, 1, none⟩ = some (.int .u64 (at_ : Int)) ∧ W.cell? ⟨w.heap.size, 2, none⟩ = some (.int .u64 (n : Int)) ∧ W.cell? ⟨w.heap.size, 3, none⟩ = some (.slice A l.length ca)) := HCE
    have HCO : Hid (∀ Y, Y = wS.drew → Calls Try.prog 21 #[.pointer (some ⟨p, 0, none⟩), .int .u64 (at_ : Int), .slice A l.length ca] Y fun e y1 => e = .returned (.int .i64 (E : Int)) ∧ Turn GH V y1 ∧ ∃ G' b' D', MC y1 G' p b' ram (N + 300) D' m' ∧ (∀ i, G' i → G i ∨ w.heap.size ≤ i) ∧ Turn G V y1) := Lib.hid fun Y hY => by
      have hYV : Below V.heap.size V Y := by rw [hY, hwS]; exact ⟨rfl, rfl, rfl, Nat.le_refl _, fun _ _ => rfl⟩
      have hsY := hYV.size
      rw [hm', hE]
      refine (mwrite_any (hMC Y hYV) (by unfold maxLen; omega) at_ l A ca ha (by unfold maxLen; omega) (hlies Y (Turn.of_below hYV)) hca fun q e h0 => hagG q e h0 _ rfl G h.gb).mono ?_
      rintro e y1 ⟨rfl, G', D', h1, h2, h3⟩
      have t : Turn G V y1 := (Turn.of_below hYV).andThen h2
      refine ⟨rfl, t.mono fun i hi => by rw [hGH]; exact Or.inl hi, G', b, D', h1, fun i hi => (h3 i hi).imp id fun hh => by omega, t⟩
    have HRE : Hid (∀ y1, (Turn GH V y1 ∧ ∃ G' b' D', MC y1 G' p b' ram (N + 300) D' m' ∧ (∀ i, G' i → G i ∨ w.heap.size ≤ i) ∧ Turn G V y1) → Calls Try.prog 40 #[.pointer (some ⟨r, 0, none⟩), .int .u64 (at_ : Int), .slice A l.length ca] y1 fun e y2 => e = .returned (.int .i64 (E : Int)) ∧ Turn GH V y2 ∧ BothE y2 B p r ram (N + 300) m' ∧ Below B w y2) := Lib.hid fun y1 ⟨hT, G', b', D', h1, h2, h3⟩ => by
      have hr1 : MR y1 H r ram N v ps m := (h.mr.under hBV).turn h3 fun i hi hg => h.dj i hg hi
      have hbw : Below B w y1 := (hBV.mono hBw).trans (h3.below h.gb (by omega))
      rw [hE]
      refine (rwrite_any hr1 (by omega) at_ l A ca ha (by unfold maxLen; omega) (hlies y1 hT) hca fun q e h0 => hagG q e h0 _ rfl H h.hb).mono ?_
      rintro e y2 ⟨rfl, H', v', ps', h4, h5, h6⟩
      rw [← hm'] at h4
      exact ⟨rfl, hT.trans (h5.mono fun i hi => by rw [hGH]; exact Or.inr hi) fun i hi => Or.inl hi, fin y1 y2 G' H' b' D' v' ps' m' h1 h2 h1.pg.lt h5 h4 h6 hbw⟩
    obtain ⟨c0, c1, c2, c3⟩ := hc0
    have HWS := Lib.hid hwS
    clear h hN hBw hk ha hn hA hca hGH hV hBV hsV hP0 hGl hGb hcells hsame hlies hagG hMC hMR hm' hE hdm k0 k3 fin hwS HEND
    go_enter Try.func16, Try.ntmps16
    go_upto_region 1 with fail
    rw [← HV.out]
    clear HV
    go_upto_region 7 with fail
    rw [← HWS.out]
    refine wp_region_held_drew (S := fun Y => Turn GH V Y) (by kernel_rfl) (show Turn GH V wS.drew from HST.out.drew) (fun hS => ?_)
    (refine held_take (i := 0) (oi := ?ot1) (v := ?vt1) ?at1 (by kernel_rfl) (by kernel_rfl) (by kernel_rfl) ?bt1 ?ct1 ?dt1 (by assumption) ?rt1; (case at1 => (simp only [List.getElem?_toArray, List.getElem?_cons_zero]; rfl)); (case bt1 => exact fun _ _ _ h => h); (case ct1 => kernel_rfl); (case dt1 => (intro W hW; (try dsimp only at hW); go_split_ands; go_simp; (try with_reducible rfl))); (case' rt1 => simp only [Act.put, List.setIfInBounds_toArray, List.set_cons_zero, List.set_cons_succ]))
    (refine held_take (i := 1) (oi := ?ot2) (v := ?vt2) ?at2 (by kernel_rfl) (by kernel_rfl) (by kernel_rfl) ?bt2 ?ct2 ?dt2 (by assumption) ?rt2; (case at2 => (simp only [List.getElem?_toArray, List.getElem?_cons_zero, List.getElem?_cons_succ]; rfl)); (case bt2 => exact fun _ _ _ h => h); (case ct2 => kernel_rfl); (case dt2 => (intro W hW; (try dsimp only at hW); go_split_ands; go_simp; (try with_reducible rfl))); (case' rt2 => simp only [Act.put, List.setIfInBounds_toArray, List.set_cons_zero, List.set_cons_succ]))
    (refine held_take (i := 2) (oi := ?ot3) (v := .int .u64 (at_ : Int)) ?at3 (by kernel_rfl) (by kernel_rfl) (by kernel_rfl) ?bt3 ?ct3 ?dt3 (by assumption) ?rt3; (case at3 => (simp only [List.getElem?_toArray, List.getElem?_cons_zero, List.getElem?_cons_succ]; rfl)); (case bt3 => exact fun _ _ _ h => h); (case ct3 => kernel_rfl); (case dt3 => (intro W hW; obtain ⟨_, c1, _, _⟩ := HBX.out W hW; clear hW; go_simp; (try with_reducible rfl))); (case' rt3 => simp only [Act.put, List.setIfInBounds_toArray, List.set_cons_zero, List.set_cons_succ]))
    (refine held_take (i := 3) (oi := ?ot4) (v := ?vt4) ?at4 (by kernel_rfl) (by kernel_rfl) (by kernel_rfl) ?bt4 ?ct4 ?dt4 (by assumption) ?rt4; (case at4 => (simp only [List.getElem?_toArray, List.getElem?_cons_zero, List.getElem?_cons_succ]; rfl)); (case bt4 => exact fun _ _ _ h => h); (case ct4 => kernel_rfl); (case dt4 => (intro W hW; (try dsimp only at hW); go_split_ands; go_simp; (try with_reducible rfl))); (case' rt4 => simp only [Act.put, List.setIfInBounds_toArray, List.set_cons_zero, List.set_cons_succ]))
    (refine held_take (i := 4) (oi := ?ot5) (v := .slice A l.length ca) ?at5 (by kernel_rfl) (by kernel_rfl) (by kernel_rfl) ?bt5 ?ct5 ?dt5 (by assumption) ?rt5; (case at5 => (simp only [List.getElem?_toArray, List.getElem?_cons_zero, List.getElem?_cons_succ]; rfl)); (case bt5 => exact fun _ _ _ h => h); (case ct5 => kernel_rfl); (case dt5 => (intro W hW; obtain ⟨_, _, _, c3⟩ := HBX.out W hW; clear hW; go_simp; (try with_reducible rfl))); (case' rt5 => simp only [Act.put, List.setIfInBounds_toArray, List.set_cons_zero, List.set_cons_succ]))
    (refine held_take (i := 6) (oi := ?ot6) (v := ?vt6) ?at6 (by kernel_rfl) (by kernel_rfl) (by kernel_rfl) ?bt6 ?ct6 ?dt6 (by assumption) ?rt6; (case at6 => (simp only [List.getElem?_toArray, List.getElem?_cons_zero, List.getElem?_cons_succ]; rfl)); (case bt6 => exact fun _ _ _ h => h); (case ct6 => kernel_rfl); (case dt6 => (intro W hW; (try dsimp only at hW); go_split_ands; go_simp; (try with_reducible rfl))); (case' rt6 => simp only [Act.put, List.setIfInBounds_toArray, List.set_cons_zero, List.set_cons_succ]))
    (refine held_take (i := 7) (oi := ?ot7) (v := ?vt7) ?at7 (by kernel_rfl) (by kernel_rfl) (by kernel_rfl) ?bt7 ?ct7 ?dt7 (by assumption) ?rt7; (case at7 => (simp only [List.getElem?_toArray, List.getElem?_cons_zero, List.getElem?_cons_succ]; rfl)); (case bt7 => exact fun _ _ _ h => h); (case ct7 => kernel_rfl); (case dt7 => (intro W hW; (try dsimp only at hW); go_split_ands; go_simp; (try with_reducible rfl))); (case' rt7 => simp only [Act.put, List.setIfInBounds_toArray, List.set_cons_zero, List.set_cons_succ]))
    (refine held_take (i := 8) (oi := ?ot8) (v := .int .u64 (at_ : Int)) ?at8 (by kernel_rfl) (by kernel_rfl) (by kernel_rfl) ?bt8 ?ct8 ?dt8 (by assumption) ?rt8; (case at8 => (simp only [List.getElem?_toArray, List.getElem?_cons_zero, List.getElem?_cons_succ]; rfl)); (case bt8 => exact fun _ _ _ h => h); (case ct8 => kernel_rfl); (case dt8 => (intro W hW; obtain ⟨_, c1, _, _⟩ := HBX.out W hW; clear hW; go_simp; (try with_reducible rfl))); (case' rt8 => simp only [Act.put, List.setIfInBounds_toArray, List.set_cons_zero, List.set_cons_succ]))
    (refine held_take (i := 9) (oi := ?ot9) (v := ?vt9) ?at9 (by kernel_rfl) (by kernel_rfl) (by kernel_rfl) ?bt9 ?ct9 ?dt9 (by assumption) ?rt9; (case at9 => (simp only [List.getElem?_toArray, List.getElem?_cons_zero, List.getElem?_cons_succ]; rfl)); (case bt9 => exact fun _ _ _ h => h); (case ct9 => kernel_rfl); (case dt9 => (intro W hW; (try dsimp only at hW); go_split_ands; go_simp; (try with_reducible rfl))); (case' rt9 => simp only [Act.put, List.setIfInBounds_toArray, List.set_cons_zero, List.set_cons_succ]))
    (refine held_take (i := 10) (oi := ?ot10) (v := .slice A l.length ca) ?at10 (by kernel_rfl) (by kernel_rfl) (by kernel_rfl) ?bt10 ?ct10 ?dt10 (by assumption) ?rt10; (case at10 => (simp only [List.getElem?_toArray, List.getElem?_cons_zero, List.getElem?_cons_succ]; rfl)); (case bt10 => exact fun _ _ _ h => h); (case ct10 => kernel_rfl); (case dt10 => (intro W hW; obtain ⟨_, _, _, c3⟩ := HBX.out W hW; clear hW; go_simp; (try with_reducible rfl))); (case' rt10 => simp only [Act.put, List.setIfInBounds_toArray, List.set_cons_zero, List.set_cons_succ]))
    refine held_one (i := 5) (oi := ?ot11) (by kernel_rfl) ?at11 ?ct11 (fun K5 hK5 => ?_)
    (case at11 => (simp only [List.getElem?_toArray, List.getElem?_cons_zero, List.getElem?_cons_succ]; rfl))
    (case ct11 => kernel_rfl)
    go_simp
    refine (HCO.out _ rfl).mono ?_
    rintro e y1 ⟨rfl, hq⟩
    have HC1 := Lib.hid hq
    refine hK5 _ _ hq.1 (fun hS5 => ?_)
    clear hq hK5 K5
    refine held_one (i := 11) (oi := ?ot12) (by kernel_rfl) ?at12 ?ct12 (fun K11 hK11 => ?_)
    (case at12 => (simp only [List.getElem?_toArray, List.getElem?_cons_zero, List.getElem?_cons_succ]; rfl))
    (case ct12 => kernel_rfl)
    go_simp
    refine (HRE.out _ HC1.out).mono ?_
    rintro e y2 ⟨rfl, hq⟩
    have HC2 := Lib.hid hq
    refine hK11 _ _ hq.1 (fun hS11 => ?_)
    clear hq hK11 K11
    (refine held_take (i := 12) (oi := ?ot13) (v := .bool true) ?at13 (by kernel_rfl) (by kernel_rfl) (by kernel_rfl) ?bt13 ?ct13 ?dt13 (by assumption) ?rt13; (case at13 => (simp only [List.getElem?_toArray, List.getElem?_cons_zero, List.getElem?_cons_succ]; rfl)); (case bt13 => exact fun _ _ _ h => h); (case ct13 => kernel_rfl); (case dt13 => (intro W hW; clear hW; go_simp; (try with_reducible rfl))); (case' rt13 => simp only [Act.put, List.setIfInBounds_toArray, List.set_cons_zero, List.set_cons_succ]))
    (refine held_take (i := 13) (oi := ?ot14) (v := ?vt14) ?at14 (by kernel_rfl) (by kernel_rfl) (by kernel_rfl) ?bt14 ?ct14 ?dt14 (by assumption) ?rt14; (case at14 => (simp only [List.getElem?_toArray, List.getElem?_cons_zero, List.getElem?_cons_succ]; rfl)); (case bt14 => exact fun _ _ _ h => h); (case ct14 => kernel_rfl); (case dt14 => (intro W hW; (try dsimp only at hW); go_split_ands; go_simp; (try with_reducible rfl))); (case' rt14 => simp only [Act.put, List.setIfInBounds_toArray, List.set_cons_zero, List.set_cons_succ]))
    refine wpAnyH_done (by kernel_rfl) ?_ _
    go_wp2
    go_ret
    exact ⟨rfl, HC2.out.2⟩
  by_cases k2 : kind = 2
  · subst k2
    obtain ⟨m', hm'⟩ : ∃ m', m' = zrR ram m at_ n := ⟨_, rfl⟩
    obtain ⟨E, hE⟩ : ∃ E, E = zrE ram at_ n := ⟨_, rfl⟩
    have hdm : doM ram m ⟨2, at_, n, A, ca, l⟩ = m' := by unfold doM; simp [hm']
    rw [hdm]
    obtain ⟨wS, hwS⟩ : ∃ wS, wS = V.alloc (.cells #[.int .u64 (at_ : Int), .int .u64 (n : Int)] 24) := ⟨_, rfl⟩
    have hBS : Below V.heap.size V wS := by rw [hwS]; exact (Below.refl _ _).alloc (Nat.le_refl _) _
    have hsS : wS.heap.size = w.heap.size + 1 + 1 := by rw [hwS]; simp [hsV]
    have hPS : Blk wS (w.heap.size + 1) 24 #[.int .u64 (at_ : Int), .int .u64 (n : Int)] := by rw [hwS]; exact Blk.new _ _ _ hsV.symm
    have HST : Hid (Turn GH wS wS) := Lib.hid (Turn.refl _ _)
    have HBX : Hid (∀ W, Turn GH wS W → W.cell? ⟨w.heap.size + 1, 0, none⟩ = some (.int .u64 (at_ : Int)) ∧ W.cell? ⟨w.heap.size + 1, 1, none⟩ = some (.int .u64 (n : Int))) := Lib.hid fun W hW => by
      have hb := hPS.turn hW fun hi => by have := hGl _ hi; omega
      exact ⟨hb.cellAt 0 rfl, hb.cellAt 1 rfl⟩
    have HCO : Hid (∀ Y, Y = wS.drew → Calls Try.prog 32 #[.pointer (some ⟨p, 0, none⟩), .agg #[.int .u64 (at_ : Int), .int .u64 (n : Int)]] Y fun e y1 => e = .returned (.int .i64 (E : Int)) ∧ Turn GH wS y1 ∧ ∃ G' b' D', MC y1 G' p b' ram (N + 300) D' m' ∧ (∀ i, G' i → G i ∨ w.heap.size ≤ i) ∧ Turn G V y1) := Lib.hid fun Y hY => by
      have hYS : Below wS.heap.size wS Y := by rw [hY]; exact ⟨rfl, rfl, rfl, Nat.le_refl _, fun _ _ => rfl⟩
      have hYV : Below V.heap.size V Y := hBS.trans (hYS.mono hBS.size)
      have hsY := hYV.size
      rw [hm', hE]
      refine (mzero_any (hMC Y hYV) (by unfold maxLen; omega) at_ n ⟨ha, hn⟩).mono ?_
      rintro e y1 ⟨rfl, D', h1, h2⟩
      have t : Turn G V y1 := (Turn.of_below hYV).andThen h2
      exact ⟨rfl, ((Turn.of_below hYS).andThen h2).mono fun i hi => by rw [hGH]; exact Or.inl hi, G, b, D', h1.mono (by omega), fun i hi => Or.inl hi, t⟩
    have HRE : Hid (∀ y1, (Turn GH wS y1 ∧ ∃ G' b' D', MC y1 G' p b' ram (N + 300) D' m' ∧ (∀ i, G' i → G i ∨ w.heap.size ≤ i) ∧ Turn G V y1) → Calls Try.prog 41 #[.pointer (some ⟨r, 0, none⟩), .agg #[.int .u64 (at_ : Int), .int .u64 (n : Int)]] y1 fun e y2 => e = .returned (.int .i64 (E : Int)) ∧ Turn GH wS y2 ∧ BothE y2 B p r ram (N + 300) m' ∧ Below B w y2) := Lib.hid fun y1 ⟨hT, G', b', D', h1, h2, h3⟩ => by
      have hr1 : MR y1 H r ram N v ps m := (h.mr.under hBV).turn h3 fun i hi hg => h.dj i hg hi
      have hbw : Below B w y1 := (hBV.mono hBw).trans (h3.below h.gb (by omega))
      rw [hE]
      refine (rzero_any hr1 (by omega) at_ n ⟨ha, hn⟩).mono ?_
      rintro e y2 ⟨rfl, h4, h5⟩
      rw [← hm'] at h4
      exact ⟨rfl, hT.trans (h5.mono fun i hi => by rw [hGH]; exact Or.inr hi) fun i hi => Or.inl hi, fin y1 y2 G' H b' D' v ps m' h1 h2 h1.pg.lt h5 (h4.mono (by omega)) (fun i hi => Or.inl hi) hbw⟩
    obtain ⟨c0, c1, c2, c3⟩ := hc0
    have HWS := Lib.hid hwS
    clear h hN hBw hk ha hn hA hca hGH hV hBV hsV hP0 hGl hGb hcells hsame hlies hagG hMC hMR hm' hE hdm k0 k1 k3 fin hwS hBS hsS hPS HEND
    go_enter Try.func16, Try.ntmps16
    go_upto_region 1 with fail
    rw [← HV.out]
    clear HV
    go_upto_region 10 with fail
    have hws := HWS.out
    have hvs := HBV.out.2.2
    simp only [hvs] at hws ⊢
    rw [← hws]
    clear hws hvs
    refine wp_region_held_drew (S := fun Y => Turn GH wS Y) (by kernel_rfl) (show Turn GH wS wS.drew from HST.out.drew) (fun hS => ?_)
    (refine held_take (i := 0) (oi := ?ot15) (v := ?vt15) ?at15 (by kernel_rfl) (by kernel_rfl) (by kernel_rfl) ?bt15 ?ct15 ?dt15 (by assumption) ?rt15; (case at15 => (simp only [List.getElem?_toArray, List.getElem?_cons_zero]; rfl)); (case bt15 => exact fun _ _ _ h => h); (case ct15 => kernel_rfl); (case dt15 => (intro W hW; (try dsimp only at hW); go_split_ands; go_simp; (try with_reducible rfl))); (case' rt15 => simp only [Act.put, List.setIfInBounds_toArray, List.set_cons_zero, List.set_cons_succ]))
    (refine held_take (i := 1) (oi := ?ot16) (v := .agg #[.int .u64 (at_ : Int), .int .u64 (n : Int)]) ?at16 (by kernel_rfl) (by kernel_rfl) (by kernel_rfl) ?bt16 ?ct16 ?dt16 (by assumption) ?rt16; (case at16 => (simp only [List.getElem?_toArray, List.getElem?_cons_zero, List.getElem?_cons_succ]; rfl)); (case bt16 => exact fun _ _ _ h => h); (case ct16 => kernel_rfl); (case dt16 => (intro W hW; obtain ⟨s0, s1⟩ := HBX.out W hW; clear hW; go_simp; (try with_reducible rfl))); (case' rt16 => simp only [Act.put, List.setIfInBounds_toArray, List.set_cons_zero, List.set_cons_succ]))
    (refine held_take (i := 3) (oi := ?ot17) (v := ?vt17) ?at17 (by kernel_rfl) (by kernel_rfl) (by kernel_rfl) ?bt17 ?ct17 ?dt17 (by assumption) ?rt17; (case at17 => (simp only [List.getElem?_toArray, List.getElem?_cons_zero, List.getElem?_cons_succ]; rfl)); (case bt17 => exact fun _ _ _ h => h); (case ct17 => kernel_rfl); (case dt17 => (intro W hW; (try dsimp only at hW); go_split_ands; go_simp; (try with_reducible rfl))); (case' rt17 => simp only [Act.put, List.setIfInBounds_toArray, List.set_cons_zero, List.set_cons_succ]))
    (refine held_take (i := 4) (oi := ?ot18) (v := .agg #[.int .u64 (at_ : Int), .int .u64 (n : Int)]) ?at18 (by kernel_rfl) (by kernel_rfl) (by kernel_rfl) ?bt18 ?ct18 ?dt18 (by assumption) ?rt18; (case at18 => (simp only [List.getElem?_toArray, List.getElem?_cons_zero, List.getElem?_cons_succ]; rfl)); (case bt18 => exact fun _ _ _ h => h); (case ct18 => kernel_rfl); (case dt18 => (intro W hW; obtain ⟨s0, s1⟩ := HBX.out W hW; clear hW; go_simp; (try with_reducible rfl))); (case' rt18 => simp only [Act.put, List.setIfInBounds_toArray, List.set_cons_zero, List.set_cons_succ]))
    refine held_one (i := 2) (oi := ?ot19) (by kernel_rfl) ?at19 ?ct19 (fun K2 hK2 => ?_)
    (case at19 => (simp only [List.getElem?_toArray, List.getElem?_cons_zero, List.getElem?_cons_succ]; rfl))
    (case ct19 => kernel_rfl)
    go_simp
    refine (HCO.out _ rfl).mono ?_
    rintro e y1 ⟨rfl, hq⟩
    have HC1 := Lib.hid hq
    refine hK2 _ _ hq.1 (fun hS2 => ?_)
    clear hq hK2 K2
    refine held_one (i := 5) (oi := ?ot20) (by kernel_rfl) ?at20 ?ct20 (fun K5 hK5 => ?_)
    (case at20 => (simp only [List.getElem?_toArray, List.getElem?_cons_zero, List.getElem?_cons_succ]; rfl))
    (case ct20 => kernel_rfl)
    go_simp
    refine (HRE.out _ HC1.out).mono ?_
    rintro e y2 ⟨rfl, hq⟩
    have HC2 := Lib.hid hq
    refine hK5 _ _ hq.1 (fun hS5 => ?_)
    clear hq hK5 K5
    (refine held_take (i := 6) (oi := ?ot21) (v := .bool true) ?at21 (by kernel_rfl) (by kernel_rfl) (by kernel_rfl) ?bt21 ?ct21 ?dt21 (by assumption) ?rt21; (case at21 => (simp only [List.getElem?_toArray, List.getElem?_cons_zero, List.getElem?_cons_succ]; rfl)); (case bt21 => exact fun _ _ _ h => h); (case ct21 => kernel_rfl); (case dt21 => (intro W hW; clear hW; go_simp; (try with_reducible rfl))); (case' rt21 => simp only [Act.put, List.setIfInBounds_toArray, List.set_cons_zero, List.set_cons_succ]))
    (refine held_take (i := 7) (oi := ?ot22) (v := ?vt22) ?at22 (by kernel_rfl) (by kernel_rfl) (by kernel_rfl) ?bt22 ?ct22 ?dt22 (by assumption) ?rt22; (case at22 => (simp only [List.getElem?_toArray, List.getElem?_cons_zero, List.getElem?_cons_succ]; rfl)); (case bt22 => exact fun _ _ _ h => h); (case ct22 => kernel_rfl); (case dt22 => (intro W hW; (try dsimp only at hW); go_split_ands; go_simp; (try with_reducible rfl))); (case' rt22 => simp only [Act.put, List.setIfInBounds_toArray, List.set_cons_zero, List.set_cons_succ]))
    refine wpAnyH_done (by kernel_rfl) ?_ _
    go_wp2
    go_ret
    exact ⟨rfl, HC2.out.2⟩
  · obtain ⟨m', hm'⟩ : ∃ m', m' = wrW ram m at_ n := ⟨_, rfl⟩
    obtain ⟨E, hE⟩ : ∃ E, E = wordE ram at_ := ⟨_, rfl⟩
    have hdm : doM ram m ⟨kind, at_, n, A, ca, l⟩ = m' := by unfold doM; simp [hm', k0, k1, k2, k3]
    rw [hdm]
    obtain ⟨wS, hwS⟩ : ∃ wS, wS = V := ⟨_, rfl⟩
    have HST : Hid (Turn GH V wS) := Lib.hid (by rw [hwS]; exact Turn.refl _ _)
    have HBX : Hid (∀ W, Turn GH V W → W.cell? ⟨w.heap.size, 0, none⟩ = some (.int .i64 kind) ∧ W.cell? ⟨w.heap.size, 1, none⟩ = some (.int .u64 (at_ : Int)) ∧ W.cell? ⟨w.heap.size, 2, none⟩ = some (.int .u64 (n : Int)) ∧ W.cell? ⟨w.heap.size, 3, none⟩ = some (.slice A l.length ca)) := HCE
    have HCO : Hid (∀ Y, Y = wS.drew → Calls Try.prog 23 #[.pointer (some ⟨p, 0, none⟩), .int .u64 (at_ : Int), .int .u64 (n : Int)] Y fun e y1 => e = .returned (.int .i64 (E : Int)) ∧ Turn GH V y1 ∧ ∃ G' b' D', MC y1 G' p b' ram (N + 300) D' m' ∧ (∀ i, G' i → G i ∨ w.heap.size ≤ i) ∧ Turn G V y1) := Lib.hid fun Y hY => by
      have hYV : Below V.heap.size V Y := by rw [hY, hwS]; exact ⟨rfl, rfl, rfl, Nat.le_refl _, fun _ _ => rfl⟩
      have hsY := hYV.size
      rw [hm', hE]
      refine (mput_any (hMC Y hYV) (by unfold maxLen; omega) at_ n ha hn).mono ?_
      rintro e y1 ⟨rfl, G', D', h1, h2, h3⟩
      have t : Turn G V y1 := (Turn.of_below hYV).andThen h2
      refine ⟨rfl, t.mono fun i hi => by rw [hGH]; exact Or.inl hi, G', b, D', h1, fun i hi => (h3 i hi).imp id fun hh => by omega, t⟩
    have HRE : Hid (∀ y1, (Turn GH V y1 ∧ ∃ G' b' D', MC y1 G' p b' ram (N + 300) D' m' ∧ (∀ i, G' i → G i ∨ w.heap.size ≤ i) ∧ Turn G V y1) → Calls Try.prog 43 #[.pointer (some ⟨r, 0, none⟩), .int .u64 (at_ : Int), .int .u64 (n : Int)] y1 fun e y2 => e = .returned (.int .i64 (E : Int)) ∧ Turn GH V y2 ∧ BothE y2 B p r ram (N + 300) m' ∧ Below B w y2) := Lib.hid fun y1 ⟨hT, G', b', D', h1, h2, h3⟩ => by
      have hr1 : MR y1 H r ram N v ps m := (h.mr.under hBV).turn h3 fun i hi hg => h.dj i hg hi
      have hbw : Below B w y1 := (hBV.mono hBw).trans (h3.below h.gb (by omega))
      rw [hE]
      refine (rmput_any hr1 (by omega) at_ n ha).mono ?_
      rintro e y2 ⟨rfl, H', v', ps', h4, h5, h6⟩
      rw [← hm'] at h4
      exact ⟨rfl, hT.trans (h5.mono fun i hi => by rw [hGH]; exact Or.inr hi) fun i hi => Or.inl hi, fin y1 y2 G' H' b' D' v' ps' m' h1 h2 h1.pg.lt h5 h4 h6 hbw⟩
    obtain ⟨c0, c1, c2, c3⟩ := hc0
    have HWS := Lib.hid hwS
    clear h hN hBw hk ha hn hA hca hGH hV hBV hsV hP0 hGl hGb hcells hsame hlies hagG hMC hMR hm' hE hdm fin hwS HEND
    go_enter Try.func16, Try.ntmps16
    go_upto_region 1 with fail
    rw [← HV.out]
    clear HV
    go_upto_region 15 with fail
    rw [← HWS.out]
    refine wp_region_held_drew (S := fun Y => Turn GH V Y) (by kernel_rfl) (show Turn GH V wS.drew from HST.out.drew) (fun hS => ?_)
    (refine held_take (i := 0) (oi := ?ot23) (v := ?vt23) ?at23 (by kernel_rfl) (by kernel_rfl) (by kernel_rfl) ?bt23 ?ct23 ?dt23 (by assumption) ?rt23; (case at23 => (simp only [List.getElem?_toArray, List.getElem?_cons_zero]; rfl)); (case bt23 => exact fun _ _ _ h => h); (case ct23 => kernel_rfl); (case dt23 => (intro W hW; (try dsimp only at hW); go_split_ands; go_simp; (try with_reducible rfl))); (case' rt23 => simp only [Act.put, List.setIfInBounds_toArray, List.set_cons_zero, List.set_cons_succ]))
    (refine held_take (i := 1) (oi := ?ot24) (v := ?vt24) ?at24 (by kernel_rfl) (by kernel_rfl) (by kernel_rfl) ?bt24 ?ct24 ?dt24 (by assumption) ?rt24; (case at24 => (simp only [List.getElem?_toArray, List.getElem?_cons_zero, List.getElem?_cons_succ]; rfl)); (case bt24 => exact fun _ _ _ h => h); (case ct24 => kernel_rfl); (case dt24 => (intro W hW; (try dsimp only at hW); go_split_ands; go_simp; (try with_reducible rfl))); (case' rt24 => simp only [Act.put, List.setIfInBounds_toArray, List.set_cons_zero, List.set_cons_succ]))
    (refine held_take (i := 2) (oi := ?ot25) (v := .int .u64 (at_ : Int)) ?at25 (by kernel_rfl) (by kernel_rfl) (by kernel_rfl) ?bt25 ?ct25 ?dt25 (by assumption) ?rt25; (case at25 => (simp only [List.getElem?_toArray, List.getElem?_cons_zero, List.getElem?_cons_succ]; rfl)); (case bt25 => exact fun _ _ _ h => h); (case ct25 => kernel_rfl); (case dt25 => (intro W hW; obtain ⟨_, c1, _, _⟩ := HBX.out W hW; clear hW; go_simp; (try with_reducible rfl))); (case' rt25 => simp only [Act.put, List.setIfInBounds_toArray, List.set_cons_zero, List.set_cons_succ]))
    (refine held_take (i := 3) (oi := ?ot26) (v := ?vt26) ?at26 (by kernel_rfl) (by kernel_rfl) (by kernel_rfl) ?bt26 ?ct26 ?dt26 (by assumption) ?rt26; (case at26 => (simp only [List.getElem?_toArray, List.getElem?_cons_zero, List.getElem?_cons_succ]; rfl)); (case bt26 => exact fun _ _ _ h => h); (case ct26 => kernel_rfl); (case dt26 => (intro W hW; (try dsimp only at hW); go_split_ands; go_simp; (try with_reducible rfl))); (case' rt26 => simp only [Act.put, List.setIfInBounds_toArray, List.set_cons_zero, List.set_cons_succ]))
    (refine held_take (i := 4) (oi := ?ot27) (v := .int .u64 (n : Int)) ?at27 (by kernel_rfl) (by kernel_rfl) (by kernel_rfl) ?bt27 ?ct27 ?dt27 (by assumption) ?rt27; (case at27 => (simp only [List.getElem?_toArray, List.getElem?_cons_zero, List.getElem?_cons_succ]; rfl)); (case bt27 => exact fun _ _ _ h => h); (case ct27 => kernel_rfl); (case dt27 => (intro W hW; obtain ⟨_, _, c2, _⟩ := HBX.out W hW; clear hW; go_simp; (try with_reducible rfl))); (case' rt27 => simp only [Act.put, List.setIfInBounds_toArray, List.set_cons_zero, List.set_cons_succ]))
    (refine held_take (i := 6) (oi := ?ot28) (v := ?vt28) ?at28 (by kernel_rfl) (by kernel_rfl) (by kernel_rfl) ?bt28 ?ct28 ?dt28 (by assumption) ?rt28; (case at28 => (simp only [List.getElem?_toArray, List.getElem?_cons_zero, List.getElem?_cons_succ]; rfl)); (case bt28 => exact fun _ _ _ h => h); (case ct28 => kernel_rfl); (case dt28 => (intro W hW; (try dsimp only at hW); go_split_ands; go_simp; (try with_reducible rfl))); (case' rt28 => simp only [Act.put, List.setIfInBounds_toArray, List.set_cons_zero, List.set_cons_succ]))
    (refine held_take (i := 7) (oi := ?ot29) (v := ?vt29) ?at29 (by kernel_rfl) (by kernel_rfl) (by kernel_rfl) ?bt29 ?ct29 ?dt29 (by assumption) ?rt29; (case at29 => (simp only [List.getElem?_toArray, List.getElem?_cons_zero, List.getElem?_cons_succ]; rfl)); (case bt29 => exact fun _ _ _ h => h); (case ct29 => kernel_rfl); (case dt29 => (intro W hW; (try dsimp only at hW); go_split_ands; go_simp; (try with_reducible rfl))); (case' rt29 => simp only [Act.put, List.setIfInBounds_toArray, List.set_cons_zero, List.set_cons_succ]))
    (refine held_take (i := 8) (oi := ?ot30) (v := .int .u64 (at_ : Int)) ?at30 (by kernel_rfl) (by kernel_rfl) (by kernel_rfl) ?bt30 ?ct30 ?dt30 (by assumption) ?rt30; (case at30 => (simp only [List.getElem?_toArray, List.getElem?_cons_zero, List.getElem?_cons_succ]; rfl)); (case bt30 => exact fun _ _ _ h => h); (case ct30 => kernel_rfl); (case dt30 => (intro W hW; obtain ⟨_, c1, _, _⟩ := HBX.out W hW; clear hW; go_simp; (try with_reducible rfl))); (case' rt30 => simp only [Act.put, List.setIfInBounds_toArray, List.set_cons_zero, List.set_cons_succ]))
    (refine held_take (i := 9) (oi := ?ot31) (v := ?vt31) ?at31 (by kernel_rfl) (by kernel_rfl) (by kernel_rfl) ?bt31 ?ct31 ?dt31 (by assumption) ?rt31; (case at31 => (simp only [List.getElem?_toArray, List.getElem?_cons_zero, List.getElem?_cons_succ]; rfl)); (case bt31 => exact fun _ _ _ h => h); (case ct31 => kernel_rfl); (case dt31 => (intro W hW; (try dsimp only at hW); go_split_ands; go_simp; (try with_reducible rfl))); (case' rt31 => simp only [Act.put, List.setIfInBounds_toArray, List.set_cons_zero, List.set_cons_succ]))
    (refine held_take (i := 10) (oi := ?ot32) (v := .int .u64 (n : Int)) ?at32 (by kernel_rfl) (by kernel_rfl) (by kernel_rfl) ?bt32 ?ct32 ?dt32 (by assumption) ?rt32; (case at32 => (simp only [List.getElem?_toArray, List.getElem?_cons_zero, List.getElem?_cons_succ]; rfl)); (case bt32 => exact fun _ _ _ h => h); (case ct32 => kernel_rfl); (case dt32 => (intro W hW; obtain ⟨_, _, c2, _⟩ := HBX.out W hW; clear hW; go_simp; (try with_reducible rfl))); (case' rt32 => simp only [Act.put, List.setIfInBounds_toArray, List.set_cons_zero, List.set_cons_succ]))
    refine held_one (i := 5) (oi := ?ot33) (by kernel_rfl) ?at33 ?ct33 (fun K5 hK5 => ?_)
    (case at33 => (simp only [List.getElem?_toArray, List.getElem?_cons_zero, List.getElem?_cons_succ]; rfl))
    (case ct33 => kernel_rfl)
    go_simp
    refine (HCO.out _ rfl).mono ?_
    rintro e y1 ⟨rfl, hq⟩
    have HC1 := Lib.hid hq
    refine hK5 _ _ hq.1 (fun hS5 => ?_)
    clear hq hK5 K5
    refine held_one (i := 11) (oi := ?ot34) (by kernel_rfl) ?at34 ?ct34 (fun K11 hK11 => ?_)
    (case at34 => (simp only [List.getElem?_toArray, List.getElem?_cons_zero, List.getElem?_cons_succ]; rfl))
    (case ct34 => kernel_rfl)
    go_simp
    refine (HRE.out _ HC1.out).mono ?_
    rintro e y2 ⟨rfl, hq⟩
    have HC2 := Lib.hid hq
    refine hK11 _ _ hq.1 (fun hS11 => ?_)
    clear hq hK11 K11
    (refine held_take (i := 12) (oi := ?ot35) (v := .bool true) ?at35 (by kernel_rfl) (by kernel_rfl) (by kernel_rfl) ?bt35 ?ct35 ?dt35 (by assumption) ?rt35; (case at35 => (simp only [List.getElem?_toArray, List.getElem?_cons_zero, List.getElem?_cons_succ]; rfl)); (case bt35 => exact fun _ _ _ h => h); (case ct35 => kernel_rfl); (case dt35 => (intro W hW; clear hW; go_simp; (try with_reducible rfl))); (case' rt35 => simp only [Act.put, List.setIfInBounds_toArray, List.set_cons_zero, List.set_cons_succ]))
    (refine held_take (i := 13) (oi := ?ot36) (v := ?vt36) ?at36 (by kernel_rfl) (by kernel_rfl) (by kernel_rfl) ?bt36 ?ct36 ?dt36 (by assumption) ?rt36; (case at36 => (simp only [List.getElem?_toArray, List.getElem?_cons_zero, List.getElem?_cons_succ]; rfl)); (case bt36 => exact fun _ _ _ h => h); (case ct36 => kernel_rfl); (case dt36 => (intro W hW; (try dsimp only at hW); go_split_ands; go_simp; (try with_reducible rfl))); (case' rt36 => simp only [Act.put, List.setIfInBounds_toArray, List.set_cons_zero, List.set_cons_succ]))
    refine wpAnyH_done (by kernel_rfl) ?_ _
    go_wp2
    go_ret
    exact ⟨rfl, HC2.out.2⟩
end Go.Proofs.Ytbemphfijkcbhaa
