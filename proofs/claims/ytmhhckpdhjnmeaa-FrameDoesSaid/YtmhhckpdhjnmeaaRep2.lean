/- slices.Replace of one span by at most two: a new row; the last one; all ways together. -/
import Derived.Test.YtmhhckpdhjnmeaaRep
namespace Go.Proofs.Ytmhhckpdhjnmeaa
open Go.RowKit Go.Shelf
attribute [local go_sem ↓ high] builtin_appS

theorem copy_far {w : World} {b n g k o s dLen dCap sLen c m : Nat} {f F : Nat → Value} (h : Arr w b 24 n f) (hg : Arr w g 24 k F) (hm : m = Nat.min sLen dLen) (ho : o + m * 2 ≤ n) (hs : s + m * 2 ≤ k) (h1 : ∀ i, i < m * 2 → (F (s + i)).oneCell' = true) :
    ∃ w', (∀ ty, (Builtin.copy_ #[46, 46] ty #[.slice (some ⟨b, o, none⟩) dLen dCap, .slice (some ⟨g, s, none⟩) sLen c]).run Try.prog w = .ok (goInt (m : Nat)) w') ∧
      Arr w' b 24 n (spl o (m * 2) (fun j => F (s + j)) f) ∧ Save b w w' :=
  ⟨_, fun _ => run_copy2 m h hm (fun j hj => by rw [Addr.add_lit, hg.cell (by omega)]) ho h1, h.row _, (Save.refl b w).setRow _⟩
theorem app_zeros2 {w : World} {b n i kz : Nat} {F : Nat → Value} (hA : Arr w b 24 (n * 2) F) (hi : i ≤ n) (hk : n < i + kz) (hk0 : 0 < kz) (hkb : i + kz ≤ 1000000) :
    ∃ w1 C, (∀ ty, (appS #[46, 3] ty #[.slice (some ⟨b, 0, none⟩) i n, .int .i64 (kz : Int)]).run Try.prog w = .ok (.slice (some ⟨w.heap.size, 0, none⟩) (i + kz) C) w1) ∧
      i + kz ≤ C ∧ C ≤ maxLen ∧ Below w.heap.size w w1 ∧ w1.heap.size = w.heap.size + 1 ∧ ∃ F0, Arr w1 w.heap.size 24 (C * 2) F0 ∧ ∀ j, j < i * 2 → F0 j = F j := by
  obtain ⟨i0, hi0, hz0, hz1, hz2⟩ := info_parts infoS
  have hold : (Builtin.firstCells i0.size i (.slice (some ⟨b, 0, none⟩) i n)).run Try.prog w.drew = .ok ((List.range (i * 2)).map F).toArray w.drew := by
    rw [hz1]
    exact run_firstCells_some w.drew 2 i ⟨b, 0, none⟩ i n ((List.range (i * 2)).map F) (by simp) (fun j v hj => by
      obtain ⟨h1, rfl⟩ := List.getElem?_eq_some_iff.1 hj
      simp at h1 ⊢
      have := (show Arr w.drew b 24 (n * 2) F from hA).cell (i := j) (by omega)
      rw [show ((⟨b, 0, none⟩ : Addr).add j) = ⟨b, j, none⟩ by simp [Addr.add_lit]]
      exact this)
  have h := fun ty => Lib.run_append_grow_zeros (P := Try.prog) w 46 3 ty 24 i0 _ .i64 .i64 Try.underlying46 Try.underlying3 hi0 hz0 (some ⟨b, 0, none⟩) i n ((List.range (i * 2)).map F) hold kz hk0 (by omega) hk (by omega) (by rw [hz2]; omega) (by rw [hz2]; exact growslice_fits hk (by omega))
  refine ⟨_, _, h, grownCap_ge _ _ _ _, grownCap_le_maxLen _ _ _ _ (by unfold maxLen; omega), ?_, by simp, ?_⟩
  · exact (show Below w.heap.size w w.drew from below_drewN (Below.refl _ _) 1).alloc (Nat.le_refl _) _
  · have hge := grownCap_ge w (i + kz) n 24
    generalize grownCap w (i + kz) n 24 = C at hge ⊢
    obtain ⟨cs, hcs⟩ : ∃ cs, cs = ((List.range (i * 2)).map F).toArray ++ Builtin.zeroCells (Value.agg #[.int .u64 0, .int .u64 0]).cells kz ++ Builtin.zeroCells (Value.agg #[.int .u64 0, .int .u64 0]).cells (C - (i + kz)) := ⟨_, rfl⟩
    have hsz : cs.size = C * 2 := by
      rw [hcs, zeroCells2, zeroCells2]
      simp only [Array.size_append, vec_size, List.size_toArray, List.length_map, List.length_range]
      omega
    refine ⟨fun j => cs.getD j undef, ?_, fun j hj => ?_⟩
    · rw [← hcs]
      refine Arr.new' w.drew _ _ _ cs ?_
      rw [← hsz]
      exact blk_vec cs
    · have : cs[j]? = some (F j) := by
        rw [hcs, Array.append_assoc, Array.getElem?_append_left (by simp; omega)]
        simp [hj]
      show cs.getD j undef = _
      simp [this]
theorem new_plain (i n : Nat) (vs : List Sp) (F F0 : Nat → Value) (h0 : ∀ j, j < i * 2 → F0 j = F j) :
    (∀ j, j < i * 2 → spl ((i + 2) * 2) ((n - (i + 1)) * 2) (fun j => F ((i + 1) * 2 + j)) (spl (i * 2) (2 * 2) (spf vs) F0) j = F j) ∧
    (∀ j, j < 2 * 2 → spl ((i + 2) * 2) ((n - (i + 1)) * 2) (fun j => F ((i + 1) * 2 + j)) (spl (i * 2) (2 * 2) (spf vs) F0) (i * 2 + j) = spf vs j) ∧
    ∀ j, j < (n - (i + 1)) * 2 → spl ((i + 2) * 2) ((n - (i + 1)) * 2) (fun j => F ((i + 1) * 2 + j)) (spl (i * 2) (2 * 2) (spf vs) F0) ((i + 2) * 2 + j) = F ((i + 1) * 2 + j) := by
  refine ⟨fun j hj => ?_, fun j hj => ?_, fun j hj => ?_⟩
  · rw [spl_out (by omega), spl_out (by omega)]; exact h0 j hj
  · rw [spl_out (by omega), spl_in (by omega) (by omega), show i * 2 + j - i * 2 = j by omega]
  · rw [spl_in (by omega) (by omega), show (i + 1) * 2 + ((i + 2) * 2 + j - (i + 2) * 2) = (i + 1) * 2 + j by omega]
set_option maxHeartbeats 4000000 in
set_option maxRecDepth 100000 in
/-- Two in the place of one, not at the end, and there is no room: a new row. -/
theorem rep_new (i n b g k : Nat) (G : Nat → Value) (vc : Nat) (vs l : List Sp) (hl : l.length = n) (hvs : vs.length = 2) (hi : i + 1 < n) (hn : n ≤ 100000) (F : Nat → Value) (hF : ∀ j, j < n * 2 → F j = spf l j) (w : World) (hA : Arr w b 24 (n * 2) F)
    (hG : Arr w g 24 k G) (hgk : 4 ≤ k) (hGv : ∀ j, j < 4 → G j = spf vs j) :
    Calls Try.prog 39 #[.slice (some ⟨b, 0, none⟩) n n, .int .i64 (i : Int), .int .i64 ((i : Int) + 1), .slice (some ⟨g, 0, none⟩) 2 vc] w fun e w' =>
      ∃ F' C, n + 1 ≤ C ∧ C ≤ maxLen ∧ e = .returned (.slice (some ⟨w.heap.size, 0, none⟩) (i + 2 + (n - (i + 1))) C) ∧ Arr w' w.heap.size 24 (C * 2) F' ∧ Below w.heap.size w w' ∧ (∀ j, j < i * 2 → F' j = F j) ∧ (∀ j, j < 2 * 2 → F' (i * 2 + j) = spf vs j) ∧ ∀ j, j < (n - (i + 1)) * 2 → F' ((i + 2) * 2 + j) = F ((i + 1) * 2 + j) := by
  have hz1 : ¬ ((i : Int) = (i : Int) + 1) := by omega
  have hz2 : ¬ ((i : Int) + 1 = (n : Int)) := by omega
  have hb1 : (i : Int) + 1 ≤ (n : Int) := by omega
  have hb3 : (i : Int) < (n : Int) := by omega
  go_enter Try.func39, Try.ntmps39
  go_wp2_with fail
  have HA := Lib.hid hA
  have HG := Lib.hid hG
  have HN := Lib.hid (And.intro hvs (And.intro hi (And.intro hF (And.intro hgk (And.intro hGv hl)))))
  clear hA hvs hG hF hgk hGv hl
  go_quiet (fail)
  rename Nat => nq
  obtain ⟨w0, hw0⟩ : ∃ w0, w0 = w.drewN nq := ⟨_, rfl⟩
  have HS0 : Hid (Below w.heap.size w w0 ∧ w0.heap.size = w.heap.size) := Lib.hid (by rw [hw0]; exact ⟨below_drewN (Below.refl _ _) nq, rfl⟩)
  have HA0 : Hid (Arr w0 b 24 (n * 2) F) := Lib.hid (by rw [hw0]; exact HA.out)
  have HG0 : Hid (Arr w0 g 24 k G) := Lib.hid (by rw [hw0]; exact HG.out)
  rw [← hw0]
  have hkk : IntKind.i64.wrap ((i : Int) + 2 + ((n - (i + 1) : Nat) : Int) - (i : Int)) = ((2 + (n - (i + 1)) : Nat) : Int) := by rw [IntKind.wrap_i64]; omega
  have hgt : (n : Int) < (i : Int) + 2 + ((n - (i + 1) : Nat) : Int) := by omega
  clear hw0
  obtain ⟨w1, C, e0, hC, hCm, hb1', hs1, F0, hA1, hF0⟩ := app_zeros2 (i := i) (kz := 2 + (n - (i + 1))) HA0.out (by omega) (by omega) (by omega) (by omega)
  rw [show ((2 + (n - (i + 1)) : Nat) : Int) = 2 + ((n - (i + 1) : Nat) : Int) by omega, HS0.out.2] at e0
  rw [HS0.out.2] at hA1
  have hgl := HG0.out.lt
  have hbl := HA0.out.lt
  rw [HS0.out.2] at hgl hbl
  obtain ⟨M, hM⟩ : ∃ M, M = i + (2 + (n - (i + 1))) := ⟨_, rfl⟩
  rw [← hM] at e0 hC
  have HM : Hid (M = i + 2 + (n - (i + 1)) ∧ C ≤ maxLen) := Lib.hid ⟨by omega, hCm⟩
  have hM1 : i + 2 ≤ M := by omega
  have hM2 : M - (i + 2) = n - (i + 1) := by omega
  have HA1 := Lib.hid hA1
  have HB1 := Lib.hid hb1'
  have hG1 : Arr w1 g 24 k G := HG0.out.below hb1' (by rw [HS0.out.2]; exact hgl)
  have hA1b : Arr w1 b 24 (n * 2) F := HA0.out.below hb1' (by rw [HS0.out.2]; exact hbl)
  have HS : Hid (Src2 w1 w.heap.size (some ⟨g, 0, none⟩) vs) := Lib.hid (.inr ⟨g, k, G, rfl, by omega, hG1, by rw [HN.out.1]; exact HN.out.2.2.2.1, by rw [HN.out.1]; exact HN.out.2.2.2.2.1⟩)
  have HA1b := Lib.hid hA1b
  have HF0 := Lib.hid hF0
  clear hM hCm hb1' hs1 hA1 hF0 hG1 hA1b
  have k1 : ¬ (C = i) := by omega
  have k2 : ¬ (C = i + 2) := by omega
  have k3 : (i : Int) ≤ (M : Int) := by omega
  have k4 : ¬ (n = i + 1) := by omega
  obtain ⟨w2, e2, h2, h3⟩ := copy_src (n := C * 2) (o := i * 2) (dLen := M - i) (dCap := C - i) (c := vc) HA1.out HS.out HN.out.1 (by omega) (by omega)
  have HA2 := Lib.hid h2
  have HS2 := Lib.hid h3
  have HA2b : Hid (Arr w2 b 24 (n * 2) F) := Lib.hid (HA1b.out.save h3 (by omega))
  clear h2 h3
  go_wp2_with fail
  have hq0 : (0 : Int) ≤ (i : Int) + 2 := by omega
  have hq1 : (i : Int) + 2 ≤ (M : Int) := by omega
  have htn : ((i : Int) + 2).toNat = i + 2 := by omega
  have hw1 : IntKind.i64.wrap ((i : Int) + 2) = (i : Int) + 2 := by rw [IntKind.wrap_i64]; omega
  have hq2 : (0 : Int) ≤ (i : Int) + 1 := by omega
  have hq3 : (i : Int) + 1 ≤ (n : Int) := by omega
  have mixed : Try.prog.follows .mixedOrders = true := by kernel_rfl
  obtain ⟨w3, e3, h2, h3⟩ := copy_far (n := C * 2) (o := (i + 2) * 2) (s := (i + 1) * 2) (m := n - (i + 1)) (dLen := n - (i + 1)) (dCap := C - (i + 2)) (sLen := n - (i + 1)) (c := n - (i + 1)) (show Arr w2.drew w.heap.size 24 (C * 2) _ from HA2.out) (show Arr w2.drew b 24 (n * 2) F from HA2b.out) (Nat.min_self _).symm (by omega) (by omega)
    (fun j hj => by rw [HN.out.2.2.1 _ (by omega)]; exact spf_one l _ (by rw [HN.out.2.2.2.2.2]; omega))
  have HA3 := Lib.hid h2
  have HS3 := Lib.hid h3
  clear h2 h3 e0 e2
  go_region_law_o (refine step_copy_runI rfl _ _ 46 46 rfl (.slice (some ⟨w.heap.size, (i + 2) * 2, none⟩) (n - (i + 1)) (C - (i + 2))) (.slice (some ⟨b, (i + 1) * 2, none⟩) (n - (i + 1)) (n - (i + 1))) (by simp [Act.eval, Act.put]) (by simp [Act.eval, Act.put]) (e3 _) ?_)
  go_wp2_with fail
  go_ret
  refine ⟨_, C, by have := HM.out.1; omega, HM.out.2, by rw [← HM.out.1]; rfl, HA3.out, ?_, new_plain i n vs F F0 HF0.out⟩
  have b1 : Below w.heap.size w w1 := HS0.out.1.trans (by rw [← HS0.out.2]; exact HB1.out)
  have z1 : w.heap.size ≤ w1.heap.size := b1.size
  have b2 : Below w.heap.size w w2 := b1.trans (HS2.out.below (Nat.le_refl _) z1)
  exact b2.trans ((((Save.refl w.heap.size w2).drewN 1).trans HS3.out).below (Nat.le_refl _) b2.size)

set_option maxHeartbeats 4000000 in
set_option maxRecDepth 100000 in
/-- Some in the place of the last one. -/
theorem rep_end (i c m b : Nat) (A : Option Addr) (vc base : Nat) (vs l : List Sp) (hl : l.length = i) (hvs : vs.length = m) (hm : 0 < m) (hm2 : m ≤ 2) (hic : i + 1 ≤ c) (hn : i ≤ 100000) (hcm : c ≤ maxLen) (hbb : base ≤ b) (w : World) (hb : base ≤ w.heap.size) (F : Nat → Value) (hA : Arr w b 24 (c * 2) F) (hF : ∀ j, j < i * 2 → F j = spf l j) (hR : Row w w.heap.size A vs) :
    Calls Try.prog 39 #[.slice (some ⟨b, 0, none⟩) (i + 1) c, .int .i64 (i : Int), .int .i64 ((i : Int) + 1), .slice A m vc] w fun e w' =>
      ∃ v, e = .returned v ∧ OwnS w' base v (l ++ vs) ∧ w.grownBy w' (some b) ∧ (v.ownBlock = some b ∨ v.ownBlock = some w.heap.size) := by
  have hown : OwnS w base (.slice (some ⟨b, 0, none⟩) l.length c) l := OwnS.of_arr hA (by rw [hl]; exact hF) (by omega) hcm hbb
  obtain ⟨v', w', e1, h2, h3, h4⟩ : ∃ v' w', (∀ ty, (appS #[46, 46] ty #[.slice (some ⟨b, 0, none⟩) i c, .slice A m vc]).run Try.prog w = .ok v' w') ∧ OwnS w' base v' (l ++ vs) ∧ w.grownBy w' (some b) ∧ (v'.ownBlock = some b ∨ v'.ownBlock = some w.heap.size) := by
    obtain ⟨i0, hi, hz0, hz1, hz2⟩ := info_parts infoS
    obtain ⟨a, rfl, _, hc⟩ := hR (fun e => by rw [e] at hvs; simp at hvs; omega)
    have hnews : ∀ j u, (cells2 vs)[j]? = some u → w.cell? (a.add j) = some u := by
      intro j u hu
      have hj : j < vs.length * 2 := by
        have := (List.getElem?_eq_some_iff.1 hu).1
        rwa [cells2_length] at this
      have g := cells2_get vs (j / 2) (by omega)
      have hcj := hc (j / 2) (by omega)
      rcases Nat.mod_two_eq_zero_or_one j with h | h
      · have e3 : j / 2 * 2 = j := by omega
        rw [e3] at g hcj
        rw [hcj.1]
        exact g.1.symm.trans hu
      · have e3 : j / 2 * 2 + 1 = j := by omega
        rw [e3] at g hcj
        rw [hcj.2]
        exact g.2.symm.trans hu
    obtain ⟨v', w', q1, q2, q3, _, q5⟩ := run_append_own_at (P := Try.prog) w base 46 46 24 i0 (.agg #[.int .u64 0, .int .u64 0]) 2 16 Try.underlying46 hi hz0 hz1 hz2 rfl (by decide) _ l.length (cells2 l) hown a m vc (cells2 vs) (by rw [cells2_length, hvs]) hnews (cells2_one _) (by unfold maxLen; omega) (by omega) hb
    rw [hl] at q1
    exact ⟨v', w', fun _ => q1, by unfold OwnS; rw [cells2_append, List.length_append, hvs]; exact q2, q3, q5⟩
  have hl2 : (l ++ vs).length = (i + m - 1) + 1 := by rw [List.length_append]; omega
  obtain ⟨g2, c2, hv'⟩ : ∃ g2 c2, v' = .slice (some ⟨g2, 0, none⟩) (i + m) c2 := by
    have := h2
    unfold OwnS at this
    rw [hl2] at this
    obtain ⟨g2, c2, e⟩ := ownsRow_succ this
    exact ⟨g2, c2, by rw [e]; congr 1; omega⟩
  subst hv'
  have HO := Lib.hid (And.intro h2 (And.intro h3 h4))
  have hz1 : ¬ ((i : Int) = (i : Int) + 1) := by omega
  have hz2 : ¬ ((i : Int) + (m : Int) < (i : Int) + 1) := by omega
  have hb1 : (i : Int) + 1 ≤ (c : Int) := by omega
  have hb2 : (i : Int) ≤ (c : Int) := by omega
  clear hl hvs hn hcm hbb hb hA hF hR hown h2 h3 h4 hl2
  go_enter Try.func39, Try.ntmps39
  go_wp2_with fail
  go_ret
  exact ⟨_, rfl, HO.out.1, HO.out.2.1, HO.out.2.2⟩
set_option maxHeartbeats 4000000 in
set_option maxRecDepth 100000 in
/-- None in the place of the last one. -/
theorem rep_drop (i c b : Nat) (A : Option Addr) (vc : Nat) (hic : i + 1 ≤ c) (w : World) (F : Nat → Value) (hA : Arr w b 24 (c * 2) F) :
    Calls Try.prog 39 #[.slice (some ⟨b, 0, none⟩) (i + 1) c, .int .i64 (i : Int), .int .i64 ((i : Int) + 1), .slice A 0 vc] w fun e w' =>
      ∃ F', e = .returned (.slice (some ⟨b, 0, none⟩) i c) ∧ Arr w' b 24 (c * 2) F' ∧ Save b w w' ∧ ∀ j, j < i * 2 → F' j = F j := by
  obtain ⟨w', e1, h2, h3⟩ : ∃ w', (∀ ty, (appS #[46, 46] ty #[.slice (some ⟨b, 0, none⟩) i c, .slice A 0 vc]).run Try.prog w = .ok (.slice (some ⟨b, 0, none⟩) i c) w') ∧ Arr w' b 24 (c * 2) F ∧ Save b w w' := by
    obtain ⟨i0, hi, hz0, hz1, hz2⟩ := info_parts infoS
    have hun := Try.underlying46
    have hle : i ≤ c := by omega
    refine ⟨w, fun ty => ?_, hA, Save.refl _ _⟩
    show (Builtin.append_ #[46, 46] ty #[_, _]).run Try.prog w = _
    cases A <;> simp [Builtin.append_, Builtin.lenOf, Builtin.firstCells, run_underlying hun, sizeOf, typeInfo, hi, hle, storeCells, loadCells, loadCellsFrom]
  obtain ⟨w3, e3, h4, h5⟩ := clear_self (n := c * 2) (o := i * 2) (m := 1) (c := c - i) h2 (by omega)
  have HO := Lib.hid (And.intro h4 (h3.trans h5))
  have hz1 : ¬ ((i : Int) = (i : Int) + 1) := by omega
  have hb1 : (i : Int) + 1 ≤ (c : Int) := by omega
  have hb2 : (i : Int) ≤ (c : Int) := by omega
  have hb4 : ¬ (c = i) := by omega
  clear hA h2 h3 h4 h5
  go_enter Try.func39, Try.ntmps39
  go_wp2_with fail
  go_ret
  exact ⟨_, rfl, HO.out.1, HO.out.2, fun j hj => spl_out (by omega)⟩

theorem join_arr {l vs : List Sp} {i : Nat} (hi : i < l.length) {F F' : Nat → Value} (hF : ∀ j, j < l.length * 2 → F j = spf l j) (p1 : ∀ j, j < i * 2 → F' j = F j) (p2 : ∀ j, j < vs.length * 2 → F' (i * 2 + j) = spf vs j)
    (p3 : ∀ j, j < (l.length - (i + 1)) * 2 → F' ((i + vs.length) * 2 + j) = F ((i + 1) * 2 + j)) : ∀ j, j < (l.take i ++ vs ++ l.drop (i + 1)).length * 2 → F' j = spf (l.take i ++ vs ++ l.drop (i + 1)) j := by
  intro j hj
  have ht : (l.take i).length = i := by rw [List.length_take]; omega
  have hd : (l.drop (i + 1)).length = l.length - (i + 1) := List.length_drop ..
  rw [spf_app _ _ hj]
  rw [List.length_append, List.length_append, ht, hd] at hj
  rw [List.length_append, ht]
  split
  · rename_i h
    rw [spf_app _ _ (by rw [List.length_append, ht]; exact h), ht]
    split
    · rename_i h2
      rw [p1 j h2, hF j (by omega), spf_take l (by omega) h2]
    · rename_i h2
      have := p2 (j - i * 2) (by omega)
      rw [show i * 2 + (j - i * 2) = j by omega] at this
      exact this
  · rename_i h
    have := p3 (j - (i + vs.length) * 2) (by omega)
    rw [show (i + vs.length) * 2 + (j - (i + vs.length) * 2) = j by omega] at this
    rw [this, hF _ (by omega), spf_drop l (by omega) (by omega)]
theorem OwnS.src {w : World} {base b : Nat} {v : Value} {l : List Sp} (h : OwnS w base v l) (hl : 0 < l.length) (hb : v.ownBlock ≠ some b) :
    ∃ g c k G, v = .slice (some ⟨g, 0, none⟩) l.length c ∧ b ≠ g ∧ Arr w g 24 k G ∧ l.length * 2 ≤ k ∧ ∀ j, j < l.length * 2 → G j = spf l j := by
  obtain ⟨g, c, G, rfl, _, hn, _, hA, hG⟩ := h.arr (fun e => by rw [e] at hl; simp at hl)
  exact ⟨g, c, c * 2, G, rfl, fun e => hb (by rw [e]; rfl), hA, by omega, hG⟩
set_option maxHeartbeats 1000000 in
theorem replace_any (i : Nat) (l vs : List Sp) (hi : i < l.length) (hm : vs.length ≤ 2) (hl : l.length ≤ 100000) (base base2 : Nat) (s v : Value) (w : World) (hs : OwnS w base s l) (hb : base ≤ w.heap.size) (hv : OwnS w base2 v vs) (hsep : ∀ g, s.ownBlock = some g → v.ownBlock ≠ some g) :
    Calls Try.prog 39 #[s, .int .i64 (i : Int), .int .i64 ((i : Int) + 1), v] w fun e w' =>
      ∃ u, e = .returned u ∧ OwnS w' base u (l.take i ++ vs ++ l.drop (i + 1)) ∧ w.grownBy w' s.ownBlock ∧ (u.ownBlock = s.ownBlock ∨ u.ownBlock = some w.heap.size) := by
  obtain ⟨b, c, F, rfl, hbb, hnc, hcm, hA, hF⟩ := hs.arr (fun e => by rw [e] at hi; cases hi)
  have hvb := hsep b rfl
  have hlen : (l.take i ++ vs ++ l.drop (i + 1)).length = i + vs.length + (l.length - (i + 1)) := by simp; omega
  have h1 : ∀ j, j < l.length * 2 → (F j).oneCell' = true := fun j hj => by rw [hF j hj]; exact spf_one l j hj
  have hown : ∀ (w' : World) (C : Nat) (F' : Nat → Value), Arr w' b 24 (C * 2) F' → i + vs.length + (l.length - (i + 1)) ≤ C → C ≤ maxLen →
      (∀ j, j < i * 2 → F' j = F j) → (∀ j, j < vs.length * 2 → F' (i * 2 + j) = spf vs j) → (∀ j, j < (l.length - (i + 1)) * 2 → F' ((i + vs.length) * 2 + j) = F ((i + 1) * 2 + j)) →
      OwnS w' base (.slice (some ⟨b, 0, none⟩) (i + vs.length + (l.length - (i + 1))) C) (l.take i ++ vs ++ l.drop (i + 1)) := fun w' C F' hA' hC hCm p1 p2 p3 => by
    have := OwnS.of_arr hA' (join_arr hi hF p1 p2 p3) (by rw [hlen]; exact hC) hCm hbb
    rw [hlen] at this
    exact this
  by_cases hlast : i + 1 < l.length
  · by_cases hless : vs.length ≤ 1
    · obtain ⟨A, vc, rfl, hS⟩ := Src2.of hv hvb
      refine (rep_less i l.length vs.length c b A vc vs rfl hless hlast hnc hl F h1 w hA hS).mono ?_
      rintro e w' ⟨F', rfl, hA', hSv, p1, p2, p3⟩
      exact ⟨_, rfl, hown w' c F' hA' (by omega) hcm p1 p2 p3, hSv.grown, .inl rfl⟩
    · have h2 : vs.length = 2 := by omega
      obtain ⟨g, vc, k, G, rfl, hbg, hG, hk, hGv⟩ := hv.src (b := b) (by omega) hvb
      rw [h2] at hk hGv hown ⊢
      by_cases hroom : l.length + 1 ≤ c
      · refine (rep_more i l.length c b g k G vc vs h2 hlast hroom hl F h1 w hA hG hbg (by omega) (.inr ⟨g, k, G, rfl, Ne.symm hbg, hG, by omega, by rw [h2]; exact hGv⟩)).mono ?_
        rintro e w' ⟨F', rfl, hA', hSv, p1, p2, p3⟩
        exact ⟨_, rfl, hown w' c F' hA' (by omega) hcm p1 p2 p3, hSv.grown, .inl rfl⟩
      · obtain rfl : c = l.length := by omega
        refine (rep_new i l.length b g k G vc vs l rfl h2 hlast hl F hF w hA hG (by omega) hGv).mono ?_
        rintro e w' ⟨F', C, hC, hCm, rfl, hA', hBl, p1, p2, p3⟩
        refine ⟨_, rfl, ?_, ⟨hBl.os, hBl.tape, hBl.output, hBl.size, fun k hk _ => hBl.block k hk⟩, .inr rfl⟩
        have := OwnS.of_arr (base := base) hA' (join_arr hi hF p1 (by rw [h2]; exact p2) (by rw [h2]; exact p3)) (by rw [hlen]; omega) hCm hb
        rw [hlen, h2] at this
        exact this
  · have hl1 : l.length = i + 1 := by omega
    have hdrop : l.drop (i + 1) = [] := List.drop_eq_nil_of_le (by omega)
    have ht : (l.take i).length = i := by rw [List.length_take]; omega
    rw [hl1, hdrop, List.append_nil]
    by_cases h0 : vs.length = 0
    · obtain rfl := List.eq_nil_of_length_eq_zero h0
      obtain ⟨A, vc, rfl, hS⟩ := Src2.of hv hvb
      refine (rep_drop i c b A vc (by omega) w F hA).mono ?_
      rintro e w' ⟨F', rfl, hA', hSv, p1⟩
      refine ⟨_, rfl, ?_, hSv.grown, .inl rfl⟩
      have := OwnS.of_arr (base := base) (l := l.take i) hA' (fun j hj => by rw [ht] at hj; rw [p1 j hj, hF j (by omega), spf_take l (by omega) hj]) (by omega) hcm hbb
      rw [ht] at this
      rw [List.append_nil]
      exact this
    · obtain ⟨A, vc, rfl, hrow⟩ := hv.row
      exact rep_end i c vs.length b A vc base vs (l.take i) ht rfl (by omega) hm (by omega) (by omega) hcm hbb w hb F hA (fun j hj => by rw [hF j (by omega), spf_take l (by omega) hj]) (hrow.wide (Nat.le_refl _))
end Go.Proofs.Ytmhhckpdhjnmeaa
