/- Split: the parts of an image. -/
import Derived.Test.YtgoblolbkchggaaDoorHx
namespace Go.Proofs.YtgoblolbkchggaaDoor
open Go.RowKit
attribute [local go_sem ↓ high] zeroHv zeroHd

theorem tail_of {T A G : Prop} (h : (Nat → T) → A → G) (t : T) : A → G := h fun _ => t
theorem SpP.no {o : Except Nat (Hd × By × By × By)} {n : Nat} {w w' : World} (h : o = .error n) (hb : Below w.heap.size w w') : SpP o w (.returned (.tuple #[.agg (vec 35 (hdF zHd)), .slice none 0 0, .slice none 0 0, .slice none 0 0, .int .i64 (n : Int)])) w' := by subst h; exact ⟨rfl, hb⟩
theorem SpP.yes {o : Except Nat (Hd × By × By × By)} {h : Hd} {x y z : By} {v1 v2 v3 : Value} {w w' : World} (ho : o = .ok (h, x, y, z)) (h1 : SliB w' v1 x) (h2 : SliB w' v2 y) (h3 : SliB w' v3 z) (hb : Below w.heap.size w w') : SpP o w (.returned (.tuple #[.agg (vec 35 (hdF h)), v1, v2, v3, .int .i64 0])) w' := by
  subst ho; exact ⟨⟨v1, v2, v3, rfl, h1, h2, h3⟩, hb⟩
set_option maxHeartbeats 1000000 in
set_option maxRecDepth 100000 in
/-- Split where there is no such kind, or the region is too short. -/
theorem split_short (b : By) (A : Option Addr) (c : Nat) (hbl : b.length ≤ 1000000) (oid : Nat) (ho : oid < 4294967296) (w : World) (hs : isO oid = false ∨ b.length < 64 + sigN oid) : Calls Tryd.prog 12 #[.slice A b.length c, .int .u32 (oid : Int)] w (SpP (splitP b oid) w) := by
  obtain ⟨g0, hg0⟩ : ∃ g, g = w.heap.size := ⟨_, rfl⟩
  obtain ⟨V, hV⟩ : ∃ V, V = w.alloc (.cells (vec 35 (hdF zHd)) 26) := ⟨_, rfl⟩
  have k0 : Arr V g0 26 35 (hdF zHd) := by rw [hV, hg0]; exact Arr.new w _ _ _
  have hB : Below w.heap.size w V := by rw [hV]; exact (Below.refl _ _).alloc (Nat.le_refl _) _
  have HG := Lib.hid hg0
  have HW := Lib.hid hV
  have HK := Lib.hid (And.intro k0 hB)
  have HSZ := Lib.hid (fun W => size_any oid ho W)
  obtain ⟨N, hN⟩ : ∃ n, n = b.length := ⟨_, rfl⟩
  have HNO : Hid (∀ (n : Nat) (z : Int) (W : World), splitP b oid = .error n → z = (n : Int) → Below w.heap.size w W → SpP (splitP b oid) w (.returned (.tuple #[.agg (vec 35 (hdF zHd)), .slice none 0 0, .slice none 0 0, .slice none 0 0, .int .i64 z])) W) := Lib.hid (fun n z W h1 hz h2 => by subst hz; exact SpP.no h1 h2)
  have h80 : isO oid = false → splitP b oid = .error 80 := split_no
  have h150 : isO oid = true → N < 64 + sigN oid → splitP b oid = .error 150 := fun h1 h2 => split_len h1 (by rw [← hN]; exact h2)
  obtain ⟨Q, hQ⟩ : ∃ Q, Q = SpP (splitP b oid) w := ⟨_, rfl⟩
  rw [← hQ] at HNO ⊢
  obtain ⟨S, hS⟩ : ∃ n, n = sigN oid := ⟨_, rfl⟩
  have hSn : S ≤ 10000 := by rw [hS]; unfold sigN hgtO; split <;> (try split) <;> (try split) <;> omega
  rw [← hN]
  have hN2 : N ≤ 1000000 := by rw [hN]; exact hbl
  rw [← hN, ← hS] at hs
  rw [← hS] at HSZ h150
  obtain ⟨is, his⟩ : ∃ is, is = isO oid := ⟨_, rfl⟩
  rw [← his] at HSZ h80 h150 hs
  clear hV k0 hB hg0 hN hQ hS his hbl
  cases is
  · have HE := Lib.hid (h80 rfl)
    clear h80 h150 hs
    go_enter Tryd.func12, Tryd.ntmps12
    go_upto_region 1 with fail
    rw [← HW.out, ← HG.out]
    clear HW
    go_wp2_with (first
        | (go_at_call 24; refine (HSZ.out _).mono ?_; rintro e w1 ⟨rfl, hw1⟩; rw [← hw1]; clear hw1)
        | ((with_reducible show wpList _ _ _ (Oper.mk _ (.build _ _) _ _ _ _ :: _) _ _); refine wl_build rfl 26 _ rfl (vec 35 (hdF zHd)) (by kernel_rfl) ?_)
        | ((with_reducible show wpList _ _ _ (Oper.mk _ (.store 26 _ _) _ _ _ _ :: _) _ _); refine wl_store rfl 26 _ _ rfl g0 rfl _ rfl (run_store_arr HK.out.1 (hdF zHd) infoHd (hdF_one _ _)) ?_))
    refine bodyPost_ret (results_c4 rfl _ _ _ rfl (run_load_arr (HK.out.1.row _) Tryd.underlying26 rfl infoHd)) rfl ?_
    exact HNO.out 80 80 _ HE.out rfl (below_row HK.out.2 (by have := HG.out; omega) _)
  · have hlt : N < 64 + S := by rcases hs with h | h; exact absurd h (by decide); exact h
    have HE := Lib.hid (h150 rfl hlt)
    have hlI : (N : Int) < 64 + (S : Int) := by omega
    clear h80 h150 hs hlt
    go_enter Tryd.func12, Tryd.ntmps12
    go_upto_region 1 with fail
    rw [← HW.out, ← HG.out]
    clear HW
    go_wp2_with (first
        | (go_at_call 24; refine (HSZ.out _).mono ?_; rintro e w1 ⟨rfl, hw1⟩; rw [← hw1]; clear hw1)
        | ((with_reducible show wpList _ _ _ (Oper.mk _ (.build _ _) _ _ _ _ :: _) _ _); refine wl_build rfl 26 _ rfl (vec 35 (hdF zHd)) (by kernel_rfl) ?_)
        | ((with_reducible show wpList _ _ _ (Oper.mk _ (.store 26 _ _) _ _ _ _ :: _) _ _); refine wl_store rfl 26 _ _ rfl g0 rfl _ rfl (run_store_arr HK.out.1 (hdF zHd) infoHd (hdF_one _ _)) ?_))
    refine bodyPost_ret (results_c4 rfl _ _ _ rfl (run_load_arr (HK.out.1.row _) Tryd.underlying26 rfl infoHd)) rfl ?_
    exact HNO.out 150 150 _ HE.out rfl (below_row HK.out.2 (by have := HG.out; omega) _)
set_option maxHeartbeats 4000000 in
set_option maxRecDepth 100000 in
theorem split_any (b : By) (A : Option Addr) (c : Nat) (hc : b.length ≤ c) (hbl : b.length ≤ 1000000) (oid : Nat) (ho : oid < 4294967296) (w : World) (hl : Lies w w.heap.size 1 A b.length (u8s b)) : Calls Tryd.prog 12 #[.slice A b.length c, .int .u32 (oid : Int)] w (SpP (splitP b oid) w) := by
  by_cases hio : isO oid = false
  · exact split_short b A c hbl oid ho w (Or.inl hio)
  by_cases hlo : b.length < 64 + sigN oid
  · exact split_short b A c hbl oid ho w (Or.inr hlo)
  have hio : isO oid = true := by simpa using hio
  obtain ⟨g0, hg0⟩ : ∃ g, g = w.heap.size := ⟨_, rfl⟩
  obtain ⟨V, hV⟩ : ∃ V, V = w.alloc (.cells (vec 35 (hdF zHd)) 26) := ⟨_, rfl⟩
  have k0 : Arr V g0 26 35 (hdF zHd) := by rw [hV, hg0]; exact Arr.new w _ _ _
  have hB : Below w.heap.size w V := by rw [hV]; exact (Below.refl _ _).alloc (Nat.le_refl _) _
  have HG := Lib.hid hg0
  have HW := Lib.hid hV
  have HSZ := Lib.hid (fun W => size_any oid ho W)
  have hsp := split_is hio hlo
  rw [hio, if_pos rfl] at HSZ
  obtain ⟨S, hS⟩ : ∃ n, n = sigN oid := ⟨_, rfl⟩
  have hSn : S ≤ 10000 ∧ 0 < S := by rw [hS]; unfold sigN hgtO; split <;> (try split) <;> (try split) <;> omega
  obtain ⟨N, hN⟩ : ∃ n, n = b.length := ⟨_, rfl⟩
  rw [← hN] at hl hc hbl hlo hsp ⊢
  rw [← hS] at HSZ hlo hsp
  obtain ⟨a, rfl, hab, hc64⟩ := lies_cells hl hN.symm (show 64 ≤ N by omega) (by decide)
  obtain ⟨B1, hB1⟩ : ∃ p, p = cutA a c 64 := ⟨_, rfl⟩
  have hl1 : Lies w w.heap.size 1 (some B1) (N - 64) (u8s (b.drop 64)) := by rw [hB1]; exact lies_from hl hN.symm (by omega) hc
  obtain ⟨M, hM⟩ : ∃ n, n = N - 64 := ⟨_, rfl⟩
  obtain ⟨C1, hC1⟩ : ∃ n, n = c - 64 := ⟨_, rfl⟩
  rw [← hM] at hl1
  have hd64 : (b.drop 64).length = M := by rw [List.length_drop]; omega
  obtain ⟨B2, hB2⟩ : ∃ p, p = cutA B1 C1 S := ⟨_, rfl⟩
  obtain ⟨PL, hPL⟩ : ∃ n, n = M - S := ⟨_, rfl⟩
  obtain ⟨C2, hC2⟩ : ∃ n, n = C1 - S := ⟨_, rfl⟩
  have hl3 : Lies w w.heap.size 1 (some B2) PL (u8s (b.drop (64 + S))) := by
    have := lies_from hl1 hd64 (show S ≤ M by omega) (show M ≤ C1 by omega)
    rw [← hB2, ← hPL, List.drop_drop] at this
    exact this
  have hl2 : Lies w w.heap.size 1 (some B1) S (u8s (cutB b 64 S)) := lies_take hl1 (by omega) hd64
  obtain ⟨H64, hH⟩ : ∃ l, l = b.take 64 := ⟨_, rfl⟩
  have hHl : H64.length = 64 := by rw [hH, List.length_take]; omega
  have hcV : ∀ i, i < 64 → V.cell? (a.add i) = some (bys (kF H64) i) := fun i hi => by
    rw [(hB.cell (by rw [addr_add_block]; exact hab)).trans (hc64 i hi), hH]
    simp [bys, kF, List.getD_eq_getElem?_getD, hi]
  obtain ⟨sg, hsg⟩ : ∃ l, l = cutB b 64 S := ⟨_, rfl⟩
  obtain ⟨py, hpy⟩ : ∃ l, l = b.drop (64 + S) := ⟨_, rfl⟩
  have hsl : sg.length = S := by rw [hsg]; exact cutB_len _ _ _ (by omega)
  have hpl : py.length = PL := by rw [hpy, List.length_drop]; omega
  have hpl2 : PL ≤ 1000000 := by omega
  rw [← hsg] at hl2
  rw [← hpy] at hl3
  obtain ⟨R, hR⟩ : ∃ R, R = readH H64 := ⟨_, rfl⟩
  rw [← hH, ← hsg, ← hpy, ← hR, show N - 64 - S = PL by omega] at hsp
  have HPS : Hid (Value.slice (some B1) S C1 = partV (some B1, C1, sg)) := Lib.hid (by show _ = Value.slice _ sg.length _; rw [hsl])
  have HPP : Hid (Value.slice (some B2) PL C2 = partV (some B2, C2, py)) := Lib.hid (by show _ = Value.slice _ py.length _; rw [hpl])
  have hpt := fun W => arr_at64 a N c (by omega) W
  have HS1 := Lib.hid (fun W => slice_lo a N c 64 (by omega) W)
  have HS2 := Lib.hid (fun W => slice_hi B1 M C1 S (by omega) (by omega) W)
  have HS3 := Lib.hid (fun W => slice_lo B1 M C1 S (by omega) W)
  rw [← hB1, ← hM, ← hC1] at HS1
  rw [← hB2, ← hPL, ← hC2] at HS3
  have HRD := Lib.hid (fun W => read_any H64 hHl W)
  have HWH : Hid (∀ h : Hd, HdB h → h.name.length ≤ 16 → (nameOk h.name && decide (layL h = H64)) = isH H64 → ∀ W, Calls Tryd.prog 21 #[.agg (vec 99 (hvF h H64))] W (EqV (isH H64) W)) := Lib.hid (fun h h1 h2 h3 W => by
    have := whole_any h H64 h1 hHl (by omega) W
    rw [h3] at this
    exact this)
  have HSD : Hid (∀ h : Hd, HdB h → h = R → ∀ W, Calls Tryd.prog 25 #[.agg (vec 99 (hvF h H64)), .slice (some B2) PL C2] W (EqV (decide ((PL : Int) = R.size)) W)) := Lib.hid (fun h h1 h2 W => by subst h2; exact sized_any h h1 H64 (some B2) PL C2 hpl2 W)
  have HAH : Hid (∀ (h : Hd) W, Calls Tryd.prog 17 #[.agg (vec 99 (hvF h H64)), .slice none 0 0] W (Bytes W H64)) := Lib.hid (fun h W => by
    have := ahead_any h H64 hHl [] none 0 W (Lies.nil _ _ _ _) (fun _ h => nomatch h) (by simp [catAll]) (by simp)
    simpa [catAll] using this)
  have HCS : Hid (∀ (p : Addr) W, Below w.heap.size w W → Lies W W.heap.size 1 (some p) 1 (List.map partV [(some B1, C1, sg)]) → Calls Tryd.prog 26 #[.slice (some p) 1 1] W (Bytes W sg)) := Lib.hid (fun p W hW hq => by
    have := cat_any [(some B1, C1, sg)] (some p) 1 W.heap.size W (Nat.le_refl _) hq (allc (by show Lies W _ 1 _ sg.length (u8s sg); rw [hsl]; exact (hl2.below hW).wide hW.size) (fun _ h => nomatch h)) (by simp [catAll]; omega) (by simp [maxLen])
    simpa [catAll] using this)
  have HCP : Hid (∀ (p : Addr) W, Below w.heap.size w W → Lies W W.heap.size 1 (some p) 1 (List.map partV [(some B2, C2, py)]) → Calls Tryd.prog 26 #[.slice (some p) 1 1] W (Bytes W py)) := Lib.hid (fun p W hW hq => by
    have := cat_any [(some B2, C2, py)] (some p) 1 W.heap.size W (Nat.le_refl _) hq (allc (by show Lies W _ 1 _ py.length (u8s py); rw [hpl]; exact (hl3.below hW).wide hW.size) (fun _ h => nomatch h)) (by simp [catAll]; omega) (by simp [maxLen])
    simpa [catAll] using this)
  have HNO : Hid (∀ (n : Nat) (z : Int) (W : World), splitP b oid = .error n → z = (n : Int) → Below w.heap.size w W → SpP (splitP b oid) w (.returned (.tuple #[.agg (vec 35 (hdF zHd)), .slice none 0 0, .slice none 0 0, .slice none 0 0, .int .i64 z])) W) := Lib.hid (fun n z W h1 hz h2 => by subst hz; exact SpP.no h1 h2)
  have HYES : Hid (∀ (h : Hd) (v1 v2 v3 : Value) (W : World), splitP b oid = .ok (h, H64, sg, py) → SliB W v1 H64 → SliB W v2 sg → SliB W v3 py → Below w.heap.size w W → SpP (splitP b oid) w (.returned (.tuple #[.agg (vec 35 (hdF h)), v1, v2, v3, .int .i64 0])) W) := Lib.hid (fun h v1 v2 v3 W h1 h2 h3 h4 h5 => SpP.yes h1 h2 h3 h4 h5)
  obtain ⟨O, hO⟩ : ∃ O, O = splitP b oid := ⟨_, rfl⟩
  rw [← hO] at hsp HNO HYES ⊢
  obtain ⟨Q, hQ⟩ : ∃ Q, Q = SpP O w := ⟨_, rfl⟩
  rw [← hQ] at HNO HYES ⊢
  obtain ⟨q, hq⟩ : ∃ q, q = isH H64 := ⟨_, rfl⟩
  obtain ⟨s, hs⟩ : ∃ s, s = decide ((PL : Int) = R.size) := ⟨_, rfl⟩
  rw [← hs] at HSD hsp
  rw [← hq] at HWH hsp
  unfold ReP at HRD
  rw [← hR, ← hq] at HRD
  have HSP := Lib.hid hsp
  have hNI : ¬ (N : Int) < 64 + (S : Int) := by omega
  have HK := Lib.hid (And.intro k0 (And.intro hB hcV))
  have hNc : N ≤ c := hc
  have hN64 : 64 ≤ N := by omega
  have hSM : S ≤ M ∧ M ≤ C1 := by omega
  clear hV k0 hB hg0 hS hN hl hl1 hl2 hl3 hB1 hM hC1 hd64 hB2 hPL hC2 hH hHl hcV hsg hpy hsl hpl hpl2 hR hO hQ hq hs hsp hab hc64 hlo hio hc
  go_enter Tryd.func12, Tryd.ntmps12
  go_upto_region 1 with fail
  rw [← HW.out, ← HG.out]
  clear HW
  go_upto_region 6 with (go_at_call 24; refine (HSZ.out _).mono ?_; rintro e w1 ⟨rfl, hw1⟩; rw [← hw1]; clear hw1)
  refine wp_region_held_drew (S := fun Y => VS V Y) (by kernel_rfl) (VS.begin V) (fun hS => ?_)
  revert hS
  apply tail_of
  case h =>
    intro tail hS
    (refine held_take (i := 0) (oi := ?ot1) (v := ?vt1) ?at1 (by kernel_rfl) (by kernel_rfl) (by kernel_rfl) ?bt1 ?ct1 ?dt1 (by assumption) ?rt1; (case at1 => (simp only [List.getElem?_toArray, List.getElem?_cons_zero]; rfl)); (case bt1 => exact fun _ _ _ h => h); (case ct1 => kernel_rfl); (case dt1 => (intro W hW; (try dsimp only at hW); go_split_ands; go_simp; (try with_reducible rfl))); (case' rt1 => simp only [Act.put, List.setIfInBounds_toArray, List.set_cons_zero, List.set_cons_succ]))
    (refine held_take (i := 1) (oi := ?ot2) (v := .pointer (some a)) ?at2 (by kernel_rfl) (by kernel_rfl) (by kernel_rfl) ?bt2 ?ct2 ?dt2 (by assumption) ?rt2; (case at2 => (simp only [List.getElem?_toArray, List.getElem?_cons_zero, List.getElem?_cons_succ]; rfl)); (case bt2 => exact fun _ _ _ h => h); (case ct2 => kernel_rfl); (case dt2 => (intro W hW; clear hW; have har := hpt W; go_simp; (try with_reducible rfl))); (case' rt2 => simp only [Act.put, List.setIfInBounds_toArray, List.set_cons_zero, List.set_cons_succ]))
    (refine held_take (i := 2) (oi := ?ot3) (v := .agg (vec 64 (bys (kF H64)))) ?at3 (by kernel_rfl) (by kernel_rfl) (by kernel_rfl) ?bt3 ?ct3 ?dt3 (by assumption) ?rt3; (case at3 => (simp only [List.getElem?_toArray, List.getElem?_cons_zero, List.getElem?_cons_succ]; rfl)); (case bt3 => exact fun _ _ _ h => h); (case ct3 => kernel_rfl); (case dt3 => (intro W hW; exact exec_load_q 47 _ rfl a rfl _ (run_load_q (fun i hi => ((show Below V.heap.size V W from hW).cell (World.block_lt_of_cell? V _ (HK.out.2.2 i hi))).trans (HK.out.2.2 i hi)) Tryd.underlying47 rfl info64))); (case' rt3 => simp only [Act.put, List.setIfInBounds_toArray, List.set_cons_zero, List.set_cons_succ]))
    (refine held_take (i := 4) (oi := ?ot4) (v := ?vt4) ?at4 (by kernel_rfl) (by kernel_rfl) (by kernel_rfl) ?bt4 ?ct4 ?dt4 (by assumption) ?rt4; (case at4 => (simp only [List.getElem?_toArray, List.getElem?_cons_zero, List.getElem?_cons_succ]; rfl)); (case bt4 => exact fun _ _ _ h => h); (case ct4 => kernel_rfl); (case dt4 => (intro W hW; (try dsimp only at hW); go_split_ands; go_simp; (try with_reducible rfl))); (case' rt4 => simp only [Act.put, List.setIfInBounds_toArray, List.set_cons_zero, List.set_cons_succ]))
    (refine held_take (i := 5) (oi := ?ot5) (v := .slice (some B1) M C1) ?at5 (by kernel_rfl) (by kernel_rfl) (by kernel_rfl) ?bt5 ?ct5 ?dt5 (by assumption) ?rt5; (case at5 => (simp only [List.getElem?_toArray, List.getElem?_cons_zero, List.getElem?_cons_succ]; rfl)); (case bt5 => exact fun _ _ _ h => h); (case ct5 => kernel_rfl); (case dt5 => (intro W hW; exact exec_slice_lo 27 _ _ rfl (.slice (some a) N c) (.int .i64 ((64 : Nat) : Int)) rfl rfl (HS1.out W))); (case' rt5 => simp only [Act.put, List.setIfInBounds_toArray, List.set_cons_zero, List.set_cons_succ]))
    refine held_two (i := 3) (j := 6) (oi := ?oit10) (oj := ?ojt10) (by kernel_rfl) ?ait10 ?ajt10 ?cit10 ?cjt10 (fun K3 hK3 => ?hit10) (fun K6 hK6 => ?hjt10)
    (case ait10 => (simp only [List.getElem?_toArray, List.getElem?_cons_zero, List.getElem?_cons_succ]; rfl))
    (case ajt10 => (simp only [List.getElem?_toArray, List.getElem?_cons_zero, List.getElem?_cons_succ]; rfl))
    (case cit10 => kernel_rfl)
    (case cjt10 => kernel_rfl)
    case hit10 =>
      go_simp
      refine (HRD.out _).mono ?_
      rintro e y3 ⟨h, rfl, hhb, hhn, hhw, hhe, hd⟩
      have HH3 := Lib.hid (And.intro hhb (And.intro hhn (And.intro hhw hhe)))
      refine hK3 _ _ ((show VS V _ from hS).keep hd) (fun hS3 => ?_)
      clear hhb hhn hhw hhe hd hS hK3 K3
      refine held_one (i := 6) (oi := ?ot6) (by kernel_rfl) ?at6 ?ct6 (fun K6 hK6 => ?_)
      (case at6 => (simp only [List.getElem?_toArray, List.getElem?_cons_zero, List.getElem?_cons_succ]; rfl))
      (case ct6 => kernel_rfl)
      go_simp
      obtain ⟨y6, hy⟩ : ∃ y, y = World.alloc y3 (.cells (vec 99 (hvF zHd (zs 64))) 49) := ⟨_, rfl⟩
      have hd : Below (World.heap y3).size y3 y6 := by rw [hy]; exact (Below.refl _ _).alloc (Nat.le_refl _) _
      obtain ⟨g, hg⟩ : ∃ g, g = (World.heap y3).size := ⟨_, rfl⟩
      have hgl : V.heap.size ≤ (World.heap y3).size := (show Below V.heap.size V _ from hS3).size
      have hga : Arr y6 g 49 99 (hvF zHd (zs 64)) := by rw [hy, hg]; exact Arr.new _ _ _ _
      have HGA := Lib.hid (And.intro hga (by rw [hg]; exact hgl : V.heap.size ≤ g))
      have hSb := (show VS V _ from hS3).keep hd
      rw [← hy, ← hg]
      clear hd hga hgl
      clear hy hg
      refine hK6 _ _ hSb (fun hS6 => ?_)
      clear hSb hK6 K6 hS3
      refine held_one (i := 7) (oi := ?ot7) (by kernel_rfl) ?at7 ?ct7 (fun K7 hK7 => ?_)
      (case at7 => (simp only [List.getElem?_toArray, List.getElem?_cons_zero, List.getElem?_cons_succ]; rfl))
      (case ct7 => kernel_rfl)
      refine ow_store 49 _ _ rfl _ rfl _ rfl (run_store_arr HGA.out.1 (hvF h H64) infoHv (hvF_one _ _ _)) ?_
      have hga := HGA.out.1.row (hvF h H64)
      have hSb := below_row (show Below V.heap.size V _ from hS6) HGA.out.2 (vec 99 (hvF h H64))
      obtain ⟨Z, hZ⟩ : ∃ Z, Z = World.setRow y6 g (vec 99 (hvF h H64)) := ⟨_, rfl⟩
      rw [← hZ] at hga hSb
      have HZ := Lib.hid (And.intro hga HGA.out.2)
      rw [← hZ]
      clear hZ hga
      refine hK7 _ _ hSb (fun hS7 => ?_)
      clear hSb hK7 K7 hS6
      clear HGA
      revert hS7
      revert HZ
      revert HH3
      revert Z
      revert g
      revert h
      exact tail 0
    case hjt10 =>
      go_simp
      obtain ⟨y6, hy⟩ : ∃ y, y = World.alloc V.drew (.cells (vec 99 (hvF zHd (zs 64))) 49) := ⟨_, rfl⟩
      have hd : Below (World.heap V.drew).size V.drew y6 := by rw [hy]; exact (Below.refl _ _).alloc (Nat.le_refl _) _
      obtain ⟨g, hg⟩ : ∃ g, g = (World.heap V.drew).size := ⟨_, rfl⟩
      have hgl : V.heap.size ≤ (World.heap V.drew).size := (show Below V.heap.size V _ from hS).size
      have hga : Arr y6 g 49 99 (hvF zHd (zs 64)) := by rw [hy, hg]; exact Arr.new _ _ _ _
      have HGA := Lib.hid (And.intro hga (by rw [hg]; exact hgl : V.heap.size ≤ g))
      have hSb := (show VS V _ from hS).keep hd
      rw [show (World.alloc V (.cells (vec 99 (hvF zHd (zs 64))) 49)).drew = y6 from hy.symm, show V.heap.size = g from hg.symm]
      clear hd hga hgl
      clear hy hg
      refine hK6 _ _ hSb (fun hS6 => ?_)
      clear hSb hK6 K6 hS
      refine held_one (i := 3) (oi := ?ot8) (by kernel_rfl) ?at8 ?ct8 (fun K3 hK3 => ?_)
      (case at8 => (simp only [List.getElem?_toArray, List.getElem?_cons_zero, List.getElem?_cons_succ]; rfl))
      (case ct8 => kernel_rfl)
      go_simp
      refine (HRD.out _).mono ?_
      rintro e y3 ⟨h, rfl, hhb, hhn, hhw, hhe, hd⟩
      have HH3 := Lib.hid (And.intro hhb (And.intro hhn (And.intro hhw hhe)))
      replace HGA := Lib.hid (And.intro (HGA.out.1.under hd) HGA.out.2)
      refine hK3 _ _ ((show VS V _ from hS6).keep hd) (fun hS3 => ?_)
      clear hhb hhn hhw hhe hd hS6 hK3 K3
      refine held_one (i := 7) (oi := ?ot9) (by kernel_rfl) ?at9 ?ct9 (fun K7 hK7 => ?_)
      (case at9 => (simp only [List.getElem?_toArray, List.getElem?_cons_zero, List.getElem?_cons_succ]; rfl))
      (case ct9 => kernel_rfl)
      refine ow_store 49 _ _ rfl _ rfl _ rfl (run_store_arr HGA.out.1 (hvF h H64) infoHv (hvF_one _ _ _)) ?_
      have hga := HGA.out.1.row (hvF h H64)
      have hSb := below_row (show Below V.heap.size V _ from hS3) HGA.out.2 (vec 99 (hvF h H64))
      obtain ⟨Z, hZ⟩ : ∃ Z, Z = World.setRow y3 g (vec 99 (hvF h H64)) := ⟨_, rfl⟩
      rw [← hZ] at hga hSb
      have HZ := Lib.hid (And.intro hga HGA.out.2)
      rw [← hZ]
      clear hZ hga
      refine hK7 _ _ hSb (fun hS7 => ?_)
      clear hSb hK7 K7 hS3
      clear HGA
      revert hS7
      revert HZ
      revert HH3
      revert Z
      revert g
      revert h
      exact tail 0
  case t =>
    intro h g Z HH3 HZ hS7
    (refine held_take (i := 8) (oi := ?ot11) (v := ?vt11) ?at11 (by kernel_rfl) (by kernel_rfl) (by kernel_rfl) ?bt11 ?ct11 ?dt11 (by assumption) ?rt11; (case at11 => (simp only [List.getElem?_toArray, List.getElem?_cons_zero, List.getElem?_cons_succ]; rfl)); (case bt11 => exact fun _ _ _ h => h); (case ct11 => kernel_rfl); (case dt11 => (intro W hW; (try dsimp only at hW); go_split_ands; go_simp; (try with_reducible rfl))); (case' rt11 => simp only [Act.put, List.setIfInBounds_toArray, List.set_cons_zero, List.set_cons_succ]))
    refine wpAnyH_done (by kernel_rfl) ?_ _
    have hzv : VS V Z := hS7
    have z0 : Arr Z g0 26 35 (hdF zHd) := HK.out.1.under hzv
    have hwZ : Below w.heap.size w Z := HK.out.2.1.trans ((show Below V.heap.size V Z from hzv).mono HK.out.2.1.size)
    have hgz : g0 ≠ g ∧ g0 < Z.heap.size := by have := HK.out.1.lt; have := HZ.out.2; have := z0.lt; omega
    have HA := Lib.hid (And.intro z0 (And.intro HZ.out.1 (And.intro hwZ hgz)))
    clear hzv z0 hwZ hgz HZ hS7 HK
    go_upto_region 7 with fail
    cases q
    · refine wp_region_held_drew (S := fun Y => VS Z Y) (by kernel_rfl) (VS.begin Z) (fun hS => ?_)
      (refine held_take (i := 0) (oi := ?ot12) (v := .agg (vec 99 (hvF h H64))) ?at12 (by kernel_rfl) (by kernel_rfl) (by kernel_rfl) ?bt12 ?ct12 ?dt12 (by assumption) ?rt12; (case at12 => (simp only [List.getElem?_toArray, List.getElem?_cons_zero]; rfl)); (case bt12 => exact fun _ _ _ h => h); (case ct12 => kernel_rfl); (case dt12 => (intro W hW; exact exec_load_at 49 _ rfl _ _ rfl _ (run_load_arr (HA.out.2.1.under (show Below Z.heap.size Z W from hW)) Tryd.underlying49 rfl infoHv))); (case' rt12 => simp only [Act.put, List.setIfInBounds_toArray, List.set_cons_zero, List.set_cons_succ]))
      refine held_one (i := 1) (oi := ?ot13) (by kernel_rfl) ?at13 ?ct13 (fun K1 hK1 => ?_)
      (case at13 => (simp only [List.getElem?_toArray, List.getElem?_cons_zero, List.getElem?_cons_succ]; rfl))
      (case ct13 => kernel_rfl)
      go_simp
      refine (HWH.out h HH3.out.1 HH3.out.2.1 HH3.out.2.2.1 _).mono ?_
      rintro e y1 ⟨rfl, hd⟩
      refine hK1 _ _ ((show VS Z _ from hS).keep hd) (fun hS1 => ?_)
      clear hd hS hK1 K1
      (refine held_take (i := 2) (oi := ?ot14) (v := ?vt14) ?at14 (by kernel_rfl) (by kernel_rfl) (by kernel_rfl) ?bt14 ?ct14 ?dt14 (by assumption) ?rt14; (case at14 => (simp only [List.getElem?_toArray, List.getElem?_cons_zero, List.getElem?_cons_succ]; rfl)); (case bt14 => exact fun _ _ _ h => h); (case ct14 => kernel_rfl); (case dt14 => (intro W hW; (try dsimp only at hW); go_split_ands; go_simp; (try with_reducible rfl))); (case' rt14 => simp only [Act.put, List.setIfInBounds_toArray, List.set_cons_zero, List.set_cons_succ]))
      (refine held_take (i := 3) (oi := ?ot15) (v := ?vt15) ?at15 (by kernel_rfl) (by kernel_rfl) (by kernel_rfl) ?bt15 ?ct15 ?dt15 (by assumption) ?rt15; (case at15 => (simp only [List.getElem?_toArray, List.getElem?_cons_zero, List.getElem?_cons_succ]; rfl)); (case bt15 => exact fun _ _ _ h => h); (case ct15 => kernel_rfl); (case dt15 => (intro W hW; (try dsimp only at hW); go_split_ands; go_simp; (try with_reducible rfl))); (case' rt15 => simp only [Act.put, List.setIfInBounds_toArray, List.set_cons_zero, List.set_cons_succ]))
      (refine held_skip (i := 4) (oi := ?ot16) ?at16 (by kernel_rfl) (by kernel_rfl) (by kernel_rfl) ?bt16 ?ct16 (by assumption) ?rt16; (case at16 => (simp only [List.getElem?_toArray, List.getElem?_cons_zero, List.getElem?_cons_succ]; rfl)); (case bt16 => exact fun _ _ _ h => h); (case ct16 => kernel_rfl); (case' rt16 => simp only [Act.put, List.setIfInBounds_toArray, List.set_cons_zero, List.set_cons_succ]))
      (refine held_skip (i := 5) (oi := ?ot17) ?at17 (by kernel_rfl) (by kernel_rfl) (by kernel_rfl) ?bt17 ?ct17 (by assumption) ?rt17; (case at17 => (simp only [List.getElem?_toArray, List.getElem?_cons_zero, List.getElem?_cons_succ]; rfl)); (case bt17 => exact fun _ _ _ h => h); (case ct17 => kernel_rfl); (case' rt17 => simp only [Act.put, List.setIfInBounds_toArray, List.set_cons_zero, List.set_cons_succ]))
      (refine held_skip (i := 6) (oi := ?ot18) ?at18 (by kernel_rfl) (by kernel_rfl) (by kernel_rfl) ?bt18 ?ct18 (by assumption) ?rt18; (case at18 => (simp only [List.getElem?_toArray, List.getElem?_cons_zero, List.getElem?_cons_succ]; rfl)); (case bt18 => exact fun _ _ _ h => h); (case ct18 => kernel_rfl); (case' rt18 => simp only [Act.put, List.setIfInBounds_toArray, List.set_cons_zero, List.set_cons_succ]))
      (refine held_skip (i := 7) (oi := ?ot19) ?at19 (by kernel_rfl) (by kernel_rfl) (by kernel_rfl) ?bt19 ?ct19 (by assumption) ?rt19; (case at19 => (simp only [List.getElem?_toArray, List.getElem?_cons_zero, List.getElem?_cons_succ]; rfl)); (case bt19 => exact fun _ _ _ h => h); (case ct19 => kernel_rfl); (case' rt19 => simp only [Act.put, List.setIfInBounds_toArray, List.set_cons_zero, List.set_cons_succ]))
      (refine held_skip (i := 8) (oi := ?ot20) ?at20 (by kernel_rfl) (by kernel_rfl) (by kernel_rfl) ?bt20 ?ct20 (by assumption) ?rt20; (case at20 => (simp only [List.getElem?_toArray, List.getElem?_cons_zero, List.getElem?_cons_succ]; rfl)); (case bt20 => exact fun _ _ _ h => h); (case ct20 => kernel_rfl); (case' rt20 => simp only [Act.put, List.setIfInBounds_toArray, List.set_cons_zero, List.set_cons_succ]))
      (refine held_skip (i := 9) (oi := ?ot21) ?at21 (by kernel_rfl) (by kernel_rfl) (by kernel_rfl) ?bt21 ?ct21 (by assumption) ?rt21; (case at21 => (simp only [List.getElem?_toArray, List.getElem?_cons_zero, List.getElem?_cons_succ]; rfl)); (case bt21 => exact fun _ _ _ h => h); (case ct21 => kernel_rfl); (case' rt21 => simp only [Act.put, List.setIfInBounds_toArray, List.set_cons_zero, List.set_cons_succ]))
      (refine held_take (i := 10) (oi := ?ot22) (v := ?vt22) ?at22 (by kernel_rfl) (by kernel_rfl) (by kernel_rfl) ?bt22 ?ct22 ?dt22 (by assumption) ?rt22; (case at22 => (simp only [List.getElem?_toArray, List.getElem?_cons_zero, List.getElem?_cons_succ]; rfl)); (case bt22 => exact fun _ _ _ h => h); (case ct22 => kernel_rfl); (case dt22 => (intro W hW; (try dsimp only at hW); go_split_ands; go_simp; (try with_reducible rfl))); (case' rt22 => simp only [Act.put, List.setIfInBounds_toArray, List.set_cons_zero, List.set_cons_succ]))
      refine wpAnyH_done (by kernel_rfl) ?_ _
      have hzy : Below Z.heap.size Z y1 := hS1
      have HQ := Lib.hid (And.intro (HA.out.1.under hzy) (HA.out.2.2.1.trans (hzy.mono HA.out.2.2.1.size)))
      clear hzy hS1
      go_wp2_with (first
        | ((with_reducible show wpList _ _ _ (Oper.mk _ (.build _ _) _ _ _ _ :: _) _ _); refine wl_build rfl 26 _ rfl (vec 35 (hdF zHd)) (by kernel_rfl) ?_)
        | ((with_reducible show wpList _ _ _ (Oper.mk _ (.store 26 _ _) _ _ _ _ :: _) _ _); refine wl_store rfl 26 _ _ rfl g0 rfl _ rfl (run_store_arr HQ.out.1 (hdF zHd) infoHd (hdF_one _ _)) ?_))
      refine bodyPost_ret (results_c4 rfl _ _ _ rfl (run_load_arr (HQ.out.1.row _) Tryd.underlying26 rfl infoHd)) rfl ?_
      exact HNO.out 150 150 _ (by rw [HSP.out]; rfl) rfl (below_row HQ.out.2 (by have := HG.out; omega) _)
    · have HHR : Hid (h = R) := Lib.hid (HH3.out.2.2.2 (by first | rfl | trivial))
      cases s
      · refine wp_region_held_drew (S := fun Y => VS Z Y) (by kernel_rfl) (VS.begin Z) (fun hS => ?_)
        (refine held_take (i := 0) (oi := ?ot23) (v := .agg (vec 99 (hvF h H64))) ?at23 (by kernel_rfl) (by kernel_rfl) (by kernel_rfl) ?bt23 ?ct23 ?dt23 (by assumption) ?rt23; (case at23 => (simp only [List.getElem?_toArray, List.getElem?_cons_zero]; rfl)); (case bt23 => exact fun _ _ _ h => h); (case ct23 => kernel_rfl); (case dt23 => (intro W hW; exact exec_load_at 49 _ rfl _ _ rfl _ (run_load_arr (HA.out.2.1.under (show Below Z.heap.size Z W from hW)) Tryd.underlying49 rfl infoHv))); (case' rt23 => simp only [Act.put, List.setIfInBounds_toArray, List.set_cons_zero, List.set_cons_succ]))
        refine held_one (i := 1) (oi := ?ot24) (by kernel_rfl) ?at24 ?ct24 (fun K1 hK1 => ?_)
        (case at24 => (simp only [List.getElem?_toArray, List.getElem?_cons_zero, List.getElem?_cons_succ]; rfl))
        (case ct24 => kernel_rfl)
        go_simp
        refine (HWH.out h HH3.out.1 HH3.out.2.1 HH3.out.2.2.1 _).mono ?_
        rintro e y1 ⟨rfl, hd⟩
        refine hK1 _ _ ((show VS Z _ from hS).keep hd) (fun hS1 => ?_)
        clear hd hS hK1 K1
        (refine held_take (i := 2) (oi := ?ot25) (v := ?vt25) ?at25 (by kernel_rfl) (by kernel_rfl) (by kernel_rfl) ?bt25 ?ct25 ?dt25 (by assumption) ?rt25; (case at25 => (simp only [List.getElem?_toArray, List.getElem?_cons_zero, List.getElem?_cons_succ]; rfl)); (case bt25 => exact fun _ _ _ h => h); (case ct25 => kernel_rfl); (case dt25 => (intro W hW; (try dsimp only at hW); go_split_ands; go_simp; (try with_reducible rfl))); (case' rt25 => simp only [Act.put, List.setIfInBounds_toArray, List.set_cons_zero, List.set_cons_succ]))
        (refine held_take (i := 3) (oi := ?ot26) (v := ?vt26) ?at26 (by kernel_rfl) (by kernel_rfl) (by kernel_rfl) ?bt26 ?ct26 ?dt26 (by assumption) ?rt26; (case at26 => (simp only [List.getElem?_toArray, List.getElem?_cons_zero, List.getElem?_cons_succ]; rfl)); (case bt26 => exact fun _ _ _ h => h); (case ct26 => kernel_rfl); (case dt26 => (intro W hW; (try dsimp only at hW); go_split_ands; go_simp; (try with_reducible rfl))); (case' rt26 => simp only [Act.put, List.setIfInBounds_toArray, List.set_cons_zero, List.set_cons_succ]))
        (refine held_take (i := 4) (oi := ?ot27) (v := .agg (vec 99 (hvF h H64))) ?at27 (by kernel_rfl) (by kernel_rfl) (by kernel_rfl) ?bt27 ?ct27 ?dt27 (by assumption) ?rt27; (case at27 => (simp only [List.getElem?_toArray, List.getElem?_cons_zero, List.getElem?_cons_succ]; rfl)); (case bt27 => exact fun _ _ _ h => h); (case ct27 => kernel_rfl); (case dt27 => (intro W hW; exact exec_load_at 49 _ rfl _ _ rfl _ (run_load_arr (HA.out.2.1.under (show Below Z.heap.size Z W from hW)) Tryd.underlying49 rfl infoHv))); (case' rt27 => simp only [Act.put, List.setIfInBounds_toArray, List.set_cons_zero, List.set_cons_succ]))
        (refine held_take (i := 5) (oi := ?ot28) (v := ?vt28) ?at28 (by kernel_rfl) (by kernel_rfl) (by kernel_rfl) ?bt28 ?ct28 ?dt28 (by assumption) ?rt28; (case at28 => (simp only [List.getElem?_toArray, List.getElem?_cons_zero, List.getElem?_cons_succ]; rfl)); (case bt28 => exact fun _ _ _ h => h); (case ct28 => kernel_rfl); (case dt28 => (intro W hW; (try dsimp only at hW); go_split_ands; go_simp; (try with_reducible rfl))); (case' rt28 => simp only [Act.put, List.setIfInBounds_toArray, List.set_cons_zero, List.set_cons_succ]))
        (refine held_take (i := 6) (oi := ?ot29) (v := ?vt29) ?at29 (by kernel_rfl) (by kernel_rfl) (by kernel_rfl) ?bt29 ?ct29 ?dt29 (by assumption) ?rt29; (case at29 => (simp only [List.getElem?_toArray, List.getElem?_cons_zero, List.getElem?_cons_succ]; rfl)); (case bt29 => exact fun _ _ _ h => h); (case ct29 => kernel_rfl); (case dt29 => (intro W hW; (try dsimp only at hW); go_split_ands; go_simp; (try with_reducible rfl))); (case' rt29 => simp only [Act.put, List.setIfInBounds_toArray, List.set_cons_zero, List.set_cons_succ]))
        (refine held_take (i := 7) (oi := ?ot30) (v := .slice (some B2) PL C2) ?at30 (by kernel_rfl) (by kernel_rfl) (by kernel_rfl) ?bt30 ?ct30 ?dt30 (by assumption) ?rt30; (case at30 => (simp only [List.getElem?_toArray, List.getElem?_cons_zero, List.getElem?_cons_succ]; rfl)); (case bt30 => exact fun _ _ _ h => h); (case ct30 => kernel_rfl); (case dt30 => (intro W hW; exact exec_slice_lo 27 _ _ rfl (.slice (some B1) M C1) (.int .i64 (S : Int)) rfl rfl (HS3.out W))); (case' rt30 => simp only [Act.put, List.setIfInBounds_toArray, List.set_cons_zero, List.set_cons_succ]))
        refine held_one (i := 8) (oi := ?ot31) (by kernel_rfl) ?at31 ?ct31 (fun K8 hK8 => ?_)
        (case at31 => (simp only [List.getElem?_toArray, List.getElem?_cons_zero, List.getElem?_cons_succ]; rfl))
        (case ct31 => kernel_rfl)
        go_simp
        refine (HSD.out h HH3.out.1 HHR.out _).mono ?_
        rintro e y8 ⟨rfl, hd⟩
        refine hK8 _ _ ((show VS Z _ from hS1).keep hd) (fun hS8 => ?_)
        clear hd hS1 hK8 K8
        (refine held_take (i := 9) (oi := ?ot32) (v := ?vt32) ?at32 (by kernel_rfl) (by kernel_rfl) (by kernel_rfl) ?bt32 ?ct32 ?dt32 (by assumption) ?rt32; (case at32 => (simp only [List.getElem?_toArray, List.getElem?_cons_zero, List.getElem?_cons_succ]; rfl)); (case bt32 => exact fun _ _ _ h => h); (case ct32 => kernel_rfl); (case dt32 => (intro W hW; (try dsimp only at hW); go_split_ands; go_simp; (try with_reducible rfl))); (case' rt32 => simp only [Act.put, List.setIfInBounds_toArray, List.set_cons_zero, List.set_cons_succ]))
        (refine held_take (i := 10) (oi := ?ot33) (v := ?vt33) ?at33 (by kernel_rfl) (by kernel_rfl) (by kernel_rfl) ?bt33 ?ct33 ?dt33 (by assumption) ?rt33; (case at33 => (simp only [List.getElem?_toArray, List.getElem?_cons_zero, List.getElem?_cons_succ]; rfl)); (case bt33 => exact fun _ _ _ h => h); (case ct33 => kernel_rfl); (case dt33 => (intro W hW; (try dsimp only at hW); go_split_ands; go_simp; (try with_reducible rfl))); (case' rt33 => simp only [Act.put, List.setIfInBounds_toArray, List.set_cons_zero, List.set_cons_succ]))
        refine wpAnyH_done (by kernel_rfl) ?_ _
        have hzy : Below Z.heap.size Z y8 := hS8
        have HQ := Lib.hid (And.intro (HA.out.1.under hzy) (HA.out.2.2.1.trans (hzy.mono HA.out.2.2.1.size)))
        clear hzy hS8
        go_wp2_with (first
          | ((with_reducible show wpList _ _ _ (Oper.mk _ (.build _ _) _ _ _ _ :: _) _ _); refine wl_build rfl 26 _ rfl (vec 35 (hdF zHd)) (by kernel_rfl) ?_)
          | ((with_reducible show wpList _ _ _ (Oper.mk _ (.store 26 _ _) _ _ _ _ :: _) _ _); refine wl_store rfl 26 _ _ rfl g0 rfl _ rfl (run_store_arr HQ.out.1 (hdF zHd) infoHd (hdF_one _ _)) ?_))
        refine bodyPost_ret (results_c4 rfl _ _ _ rfl (run_load_arr (HQ.out.1.row _) Tryd.underlying26 rfl infoHd)) rfl ?_
        exact HNO.out 150 150 _ (by rw [HSP.out]; rfl) rfl (below_row HQ.out.2 (by have := HG.out; omega) _)
      · refine wp_region_held_drew (S := fun Y => VS Z Y) (by kernel_rfl) (VS.begin Z) (fun hS => ?_)
        (refine held_take (i := 0) (oi := ?ot34) (v := .agg (vec 99 (hvF h H64))) ?at34 (by kernel_rfl) (by kernel_rfl) (by kernel_rfl) ?bt34 ?ct34 ?dt34 (by assumption) ?rt34; (case at34 => (simp only [List.getElem?_toArray, List.getElem?_cons_zero]; rfl)); (case bt34 => exact fun _ _ _ h => h); (case ct34 => kernel_rfl); (case dt34 => (intro W hW; exact exec_load_at 49 _ rfl _ _ rfl _ (run_load_arr (HA.out.2.1.under (show Below Z.heap.size Z W from hW)) Tryd.underlying49 rfl infoHv))); (case' rt34 => simp only [Act.put, List.setIfInBounds_toArray, List.set_cons_zero, List.set_cons_succ]))
        refine held_one (i := 1) (oi := ?ot35) (by kernel_rfl) ?at35 ?ct35 (fun K1 hK1 => ?_)
        (case at35 => (simp only [List.getElem?_toArray, List.getElem?_cons_zero, List.getElem?_cons_succ]; rfl))
        (case ct35 => kernel_rfl)
        go_simp
        refine (HWH.out h HH3.out.1 HH3.out.2.1 HH3.out.2.2.1 _).mono ?_
        rintro e y1 ⟨rfl, hd⟩
        refine hK1 _ _ ((show VS Z _ from hS).keep hd) (fun hS1 => ?_)
        clear hd hS hK1 K1
        (refine held_take (i := 2) (oi := ?ot36) (v := ?vt36) ?at36 (by kernel_rfl) (by kernel_rfl) (by kernel_rfl) ?bt36 ?ct36 ?dt36 (by assumption) ?rt36; (case at36 => (simp only [List.getElem?_toArray, List.getElem?_cons_zero, List.getElem?_cons_succ]; rfl)); (case bt36 => exact fun _ _ _ h => h); (case ct36 => kernel_rfl); (case dt36 => (intro W hW; (try dsimp only at hW); go_split_ands; go_simp; (try with_reducible rfl))); (case' rt36 => simp only [Act.put, List.setIfInBounds_toArray, List.set_cons_zero, List.set_cons_succ]))
        (refine held_take (i := 3) (oi := ?ot37) (v := ?vt37) ?at37 (by kernel_rfl) (by kernel_rfl) (by kernel_rfl) ?bt37 ?ct37 ?dt37 (by assumption) ?rt37; (case at37 => (simp only [List.getElem?_toArray, List.getElem?_cons_zero, List.getElem?_cons_succ]; rfl)); (case bt37 => exact fun _ _ _ h => h); (case ct37 => kernel_rfl); (case dt37 => (intro W hW; (try dsimp only at hW); go_split_ands; go_simp; (try with_reducible rfl))); (case' rt37 => simp only [Act.put, List.setIfInBounds_toArray, List.set_cons_zero, List.set_cons_succ]))
        (refine held_take (i := 4) (oi := ?ot38) (v := .agg (vec 99 (hvF h H64))) ?at38 (by kernel_rfl) (by kernel_rfl) (by kernel_rfl) ?bt38 ?ct38 ?dt38 (by assumption) ?rt38; (case at38 => (simp only [List.getElem?_toArray, List.getElem?_cons_zero, List.getElem?_cons_succ]; rfl)); (case bt38 => exact fun _ _ _ h => h); (case ct38 => kernel_rfl); (case dt38 => (intro W hW; exact exec_load_at 49 _ rfl _ _ rfl _ (run_load_arr (HA.out.2.1.under (show Below Z.heap.size Z W from hW)) Tryd.underlying49 rfl infoHv))); (case' rt38 => simp only [Act.put, List.setIfInBounds_toArray, List.set_cons_zero, List.set_cons_succ]))
        (refine held_take (i := 5) (oi := ?ot39) (v := ?vt39) ?at39 (by kernel_rfl) (by kernel_rfl) (by kernel_rfl) ?bt39 ?ct39 ?dt39 (by assumption) ?rt39; (case at39 => (simp only [List.getElem?_toArray, List.getElem?_cons_zero, List.getElem?_cons_succ]; rfl)); (case bt39 => exact fun _ _ _ h => h); (case ct39 => kernel_rfl); (case dt39 => (intro W hW; (try dsimp only at hW); go_split_ands; go_simp; (try with_reducible rfl))); (case' rt39 => simp only [Act.put, List.setIfInBounds_toArray, List.set_cons_zero, List.set_cons_succ]))
        (refine held_take (i := 6) (oi := ?ot40) (v := ?vt40) ?at40 (by kernel_rfl) (by kernel_rfl) (by kernel_rfl) ?bt40 ?ct40 ?dt40 (by assumption) ?rt40; (case at40 => (simp only [List.getElem?_toArray, List.getElem?_cons_zero, List.getElem?_cons_succ]; rfl)); (case bt40 => exact fun _ _ _ h => h); (case ct40 => kernel_rfl); (case dt40 => (intro W hW; (try dsimp only at hW); go_split_ands; go_simp; (try with_reducible rfl))); (case' rt40 => simp only [Act.put, List.setIfInBounds_toArray, List.set_cons_zero, List.set_cons_succ]))
        (refine held_take (i := 7) (oi := ?ot41) (v := .slice (some B2) PL C2) ?at41 (by kernel_rfl) (by kernel_rfl) (by kernel_rfl) ?bt41 ?ct41 ?dt41 (by assumption) ?rt41; (case at41 => (simp only [List.getElem?_toArray, List.getElem?_cons_zero, List.getElem?_cons_succ]; rfl)); (case bt41 => exact fun _ _ _ h => h); (case ct41 => kernel_rfl); (case dt41 => (intro W hW; exact exec_slice_lo 27 _ _ rfl (.slice (some B1) M C1) (.int .i64 (S : Int)) rfl rfl (HS3.out W))); (case' rt41 => simp only [Act.put, List.setIfInBounds_toArray, List.set_cons_zero, List.set_cons_succ]))
        refine held_one (i := 8) (oi := ?ot42) (by kernel_rfl) ?at42 ?ct42 (fun K8 hK8 => ?_)
        (case at42 => (simp only [List.getElem?_toArray, List.getElem?_cons_zero, List.getElem?_cons_succ]; rfl))
        (case ct42 => kernel_rfl)
        go_simp
        refine (HSD.out h HH3.out.1 HHR.out _).mono ?_
        rintro e y8 ⟨rfl, hd⟩
        refine hK8 _ _ ((show VS Z _ from hS1).keep hd) (fun hS8 => ?_)
        clear hd hS1 hK8 K8
        (refine held_take (i := 9) (oi := ?ot43) (v := ?vt43) ?at43 (by kernel_rfl) (by kernel_rfl) (by kernel_rfl) ?bt43 ?ct43 ?dt43 (by assumption) ?rt43; (case at43 => (simp only [List.getElem?_toArray, List.getElem?_cons_zero, List.getElem?_cons_succ]; rfl)); (case bt43 => exact fun _ _ _ h => h); (case ct43 => kernel_rfl); (case dt43 => (intro W hW; (try dsimp only at hW); go_split_ands; go_simp; (try with_reducible rfl))); (case' rt43 => simp only [Act.put, List.setIfInBounds_toArray, List.set_cons_zero, List.set_cons_succ]))
        (refine held_take (i := 10) (oi := ?ot44) (v := ?vt44) ?at44 (by kernel_rfl) (by kernel_rfl) (by kernel_rfl) ?bt44 ?ct44 ?dt44 (by assumption) ?rt44; (case at44 => (simp only [List.getElem?_toArray, List.getElem?_cons_zero, List.getElem?_cons_succ]; rfl)); (case bt44 => exact fun _ _ _ h => h); (case ct44 => kernel_rfl); (case dt44 => (intro W hW; (try dsimp only at hW); go_split_ands; go_simp; (try with_reducible rfl))); (case' rt44 => simp only [Act.put, List.setIfInBounds_toArray, List.set_cons_zero, List.set_cons_succ]))
        refine wpAnyH_done (by kernel_rfl) ?_ _
        obtain ⟨X, hX⟩ : ∃ X, X = y8 := ⟨_, rfl⟩
        have hzx : Below Z.heap.size Z X := by rw [hX]; exact hS8
        have hwX : Below w.heap.size w X := HA.out.2.2.1.trans (hzx.mono HA.out.2.2.1.size)
        have HX := Lib.hid (And.intro (HA.out.1.under hzx) (And.intro (HA.out.2.1.under hzx) (And.intro hwX (And.intro HA.out.2.2.2.1 (Nat.lt_of_lt_of_le HA.out.2.2.2.2 hzx.size)))))
        have HWG : Hid (w.heap.size ≤ g0) := Lib.hid (by have := HG.out; omega)
        rw [← hX]
        clear hX hzx hwX HA hS8
        go_upto_region 9 with fail
        refine wp_region_held_drew (S := fun Y => Save g0 X Y ∧ ∃ f, Arr Y g0 26 35 f) (by kernel_rfl) ⟨Save.of_below (VS.begin X), _, HX.out.1⟩ (fun hS => ?_)
        revert hS
        apply tail_of
        case h =>
          intro tail hS
          (refine held_take (i := 0) (oi := ?ot45) (v := ?vt45) ?at45 (by kernel_rfl) (by kernel_rfl) (by kernel_rfl) ?bt45 ?ct45 ?dt45 (by assumption) ?rt45; (case at45 => (simp only [List.getElem?_toArray, List.getElem?_cons_zero]; rfl)); (case bt45 => exact fun _ _ _ h => h); (case ct45 => kernel_rfl); (case dt45 => (intro W hW; (try dsimp only at hW); go_split_ands; go_simp; (try with_reducible rfl))); (case' rt45 => simp only [Act.put, List.setIfInBounds_toArray, List.set_cons_zero, List.set_cons_succ]))
          (refine held_take (i := 1) (oi := ?ot46) (v := .agg (vec 35 (hdF h))) ?at46 (by kernel_rfl) (by kernel_rfl) (by kernel_rfl) ?bt46 ?ct46 ?dt46 (by assumption) ?rt46; (case at46 => (simp only [List.getElem?_toArray, List.getElem?_cons_zero, List.getElem?_cons_succ]; rfl)); (case bt46 => exact fun _ _ _ h => h); (case ct46 => kernel_rfl); (case dt46 => (intro W hW; exact exec_load_at 26 _ rfl g 0 rfl _ (run_load_spl (hv_hd (HX.out.2.1.save hW.1 (Ne.symm HX.out.2.2.2.1))) Tryd.underlying26 rfl infoHd))); (case' rt46 => simp only [Act.put, List.setIfInBounds_toArray, List.set_cons_zero, List.set_cons_succ]))
          (refine held_take (i := 2) (oi := ?ot47) (v := .agg (vec 99 (hvF h H64))) ?at47 (by kernel_rfl) (by kernel_rfl) (by kernel_rfl) ?bt47 ?ct47 ?dt47 (by assumption) ?rt47; (case at47 => (simp only [List.getElem?_toArray, List.getElem?_cons_zero, List.getElem?_cons_succ]; rfl)); (case bt47 => exact fun _ _ _ h => h); (case ct47 => kernel_rfl); (case dt47 => (intro W hW; exact exec_load_at 49 _ rfl _ _ rfl _ (run_load_arr (HX.out.2.1.save hW.1 (Ne.symm HX.out.2.2.2.1)) Tryd.underlying49 rfl infoHv))); (case' rt47 => simp only [Act.put, List.setIfInBounds_toArray, List.set_cons_zero, List.set_cons_succ]))
          (refine held_take (i := 4) (oi := ?ot48) (v := ?vt48) ?at48 (by kernel_rfl) (by kernel_rfl) (by kernel_rfl) ?bt48 ?ct48 ?dt48 (by assumption) ?rt48; (case at48 => (simp only [List.getElem?_toArray, List.getElem?_cons_zero, List.getElem?_cons_succ]; rfl)); (case bt48 => exact fun _ _ _ h => h); (case ct48 => kernel_rfl); (case dt48 => (intro W hW; (try dsimp only at hW); go_split_ands; go_simp; (try with_reducible rfl))); (case' rt48 => simp only [Act.put, List.setIfInBounds_toArray, List.set_cons_zero, List.set_cons_succ]))
          (refine held_take (i := 5) (oi := ?ot49) (v := ?vt49) ?at49 (by kernel_rfl) (by kernel_rfl) (by kernel_rfl) ?bt49 ?ct49 ?dt49 (by assumption) ?rt49; (case at49 => (simp only [List.getElem?_toArray, List.getElem?_cons_zero, List.getElem?_cons_succ]; rfl)); (case bt49 => exact fun _ _ _ h => h); (case ct49 => kernel_rfl); (case dt49 => (intro W hW; (try dsimp only at hW); go_split_ands; go_simp; (try with_reducible rfl))); (case' rt49 => simp only [Act.put, List.setIfInBounds_toArray, List.set_cons_zero, List.set_cons_succ]))
          (refine held_take (i := 6) (oi := ?ot50) (v := .slice (some B1) S C1) ?at50 (by kernel_rfl) (by kernel_rfl) (by kernel_rfl) ?bt50 ?ct50 ?dt50 (by assumption) ?rt50; (case at50 => (simp only [List.getElem?_toArray, List.getElem?_cons_zero, List.getElem?_cons_succ]; rfl)); (case bt50 => exact fun _ _ _ h => h); (case ct50 => kernel_rfl); (case dt50 => (intro W hW; exact exec_slice_hi 27 _ _ rfl (.slice (some B1) M C1) (.int .i64 (S : Int)) rfl rfl (HS2.out W))); (case' rt50 => simp only [Act.put, List.setIfInBounds_toArray, List.set_cons_zero, List.set_cons_succ]))
          (refine held_take (i := 9) (oi := ?ot51) (v := ?vt51) ?at51 (by kernel_rfl) (by kernel_rfl) (by kernel_rfl) ?bt51 ?ct51 ?dt51 (by assumption) ?rt51; (case at51 => (simp only [List.getElem?_toArray, List.getElem?_cons_zero, List.getElem?_cons_succ]; rfl)); (case bt51 => exact fun _ _ _ h => h); (case ct51 => kernel_rfl); (case dt51 => (intro W hW; (try dsimp only at hW); go_split_ands; go_simp; (try with_reducible rfl))); (case' rt51 => simp only [Act.put, List.setIfInBounds_toArray, List.set_cons_zero, List.set_cons_succ]))
          (refine held_take (i := 10) (oi := ?ot52) (v := ?vt52) ?at52 (by kernel_rfl) (by kernel_rfl) (by kernel_rfl) ?bt52 ?ct52 ?dt52 (by assumption) ?rt52; (case at52 => (simp only [List.getElem?_toArray, List.getElem?_cons_zero, List.getElem?_cons_succ]; rfl)); (case bt52 => exact fun _ _ _ h => h); (case ct52 => kernel_rfl); (case dt52 => (intro W hW; (try dsimp only at hW); go_split_ands; go_simp; (try with_reducible rfl))); (case' rt52 => simp only [Act.put, List.setIfInBounds_toArray, List.set_cons_zero, List.set_cons_succ]))
          (refine held_take (i := 11) (oi := ?ot53) (v := .slice (some B2) PL C2) ?at53 (by kernel_rfl) (by kernel_rfl) (by kernel_rfl) ?bt53 ?ct53 ?dt53 (by assumption) ?rt53; (case at53 => (simp only [List.getElem?_toArray, List.getElem?_cons_zero, List.getElem?_cons_succ]; rfl)); (case bt53 => exact fun _ _ _ h => h); (case ct53 => kernel_rfl); (case dt53 => (intro W hW; exact exec_slice_lo 27 _ _ rfl (.slice (some B1) M C1) (.int .i64 (S : Int)) rfl rfl (HS3.out W))); (case' rt53 => simp only [Act.put, List.setIfInBounds_toArray, List.set_cons_zero, List.set_cons_succ]))
          refine held_three (i := 3) (j := 7) (k := 12) (oi := ?oit79) (oj := ?ojt79) (ok := ?okt79) (by kernel_rfl) ?ait79 ?ajt79 ?akt79 ?cit79 ?cjt79 ?ckt79 (fun K3 hK3 => ?hit79) (fun K7 hK7 => ?hjt79) (fun K12 hK12 => ?hkt79)
          (case ait79 => (simp only [List.getElem?_toArray, List.getElem?_cons_zero, List.getElem?_cons_succ]; rfl))
          (case ajt79 => (simp only [List.getElem?_toArray, List.getElem?_cons_zero, List.getElem?_cons_succ]; rfl))
          (case akt79 => (simp only [List.getElem?_toArray, List.getElem?_cons_zero, List.getElem?_cons_succ]; rfl))
          (case cit79 => kernel_rfl)
          (case cjt79 => kernel_rfl)
          (case ckt79 => kernel_rfl)
          case hit79 =>
            go_simp
            refine (HAH.out h _).mono ?_
            rintro e y3 ⟨v3, rfl, hv, hd⟩
            have F3 := Lib.hid (OwnE.low (own_of hv) (show Save g0 X _ from hS.1).size)
            refine hK3 _ _ ⟨Save.on (show Save g0 X _ from hS.1) hd (show Save g0 X _ from hS.1).size, hS.2.elim fun f hf => ⟨f, hf.under hd⟩⟩ (fun hS3 => ?_)
            clear hv hd hS hK3 K3
            refine held_two (i := 7) (j := 12) (oi := ?oit62) (oj := ?ojt62) (by kernel_rfl) ?ait62 ?ajt62 ?cit62 ?cjt62 (fun K7 hK7 => ?hit62) (fun K12 hK12 => ?hjt62)
            (case ait62 => (simp only [List.getElem?_toArray, List.getElem?_cons_zero, List.getElem?_cons_succ]; rfl))
            (case ajt62 => (simp only [List.getElem?_toArray, List.getElem?_cons_zero, List.getElem?_cons_succ]; rfl))
            (case cit62 => kernel_rfl)
            (case cjt62 => kernel_rfl)
            case hit62 =>
              refine ow_pt_1 _ rfl (some B1, C1, sg) HPS.out ?_
              intro y7 p7 hl hd
              replace F3 := Lib.hid (OwnE.on F3.out hd (Nat.le_refl _))
              have F7 := Lib.hid hl
              refine hK7 _ _ ⟨Save.on (show Save g0 X _ from hS3.1) hd (show Save g0 X _ from hS3.1).size, hS3.2.elim fun f hf => ⟨f, hf.under hd⟩⟩ (fun hS7 => ?_)
              clear hl hd hS3 hK7 K7
              refine held_two (i := 8) (j := 12) (oi := ?oit58) (oj := ?ojt58) (by kernel_rfl) ?ait58 ?ajt58 ?cit58 ?cjt58 (fun K8 hK8 => ?hit58) (fun K12 hK12 => ?hjt58)
              (case ait58 => (simp only [List.getElem?_toArray, List.getElem?_cons_zero, List.getElem?_cons_succ]; rfl))
              (case ajt58 => (simp only [List.getElem?_toArray, List.getElem?_cons_zero, List.getElem?_cons_succ]; rfl))
              (case cit58 => kernel_rfl)
              (case cjt58 => kernel_rfl)
              case hit58 =>
                go_simp
                refine (HCS.out _ _ (HX.out.2.2.1.trans ((show Save g0 X _ from hS7.1).below HWG.out HX.out.2.2.1.size)) F7.out).mono ?_
                rintro e y8 ⟨v8, rfl, hv, hd⟩
                replace F3 := Lib.hid (OwnE.on F3.out hd (Nat.le_refl _))
                clear F7
                have F8 := Lib.hid (OwnE.low (own_of hv) (show Save g0 X _ from hS7.1).size)
                refine hK8 _ _ ⟨Save.on (show Save g0 X _ from hS7.1) hd (show Save g0 X _ from hS7.1).size, hS7.2.elim fun f hf => ⟨f, hf.under hd⟩⟩ (fun hS8 => ?_)
                clear hv hd hS7 hK8 K8
                refine held_one (i := 12) (oi := ?ot54) (by kernel_rfl) ?at54 ?ct54 (fun K12 hK12 => ?_)
                (case at54 => (simp only [List.getElem?_toArray, List.getElem?_cons_zero, List.getElem?_cons_succ]; rfl))
                (case ct54 => kernel_rfl)
                refine ow_pt_1 _ rfl (some B2, C2, py) HPP.out ?_
                intro y12 p12 hl hd
                replace F3 := Lib.hid (OwnE.on F3.out hd (Nat.le_refl _))
                replace F8 := Lib.hid (OwnE.on F8.out hd (Nat.le_refl _))
                have F12 := Lib.hid hl
                refine hK12 _ _ ⟨Save.on (show Save g0 X _ from hS8.1) hd (show Save g0 X _ from hS8.1).size, hS8.2.elim fun f hf => ⟨f, hf.under hd⟩⟩ (fun hS12 => ?_)
                clear hl hd hS8 hK12 K12
                refine held_one (i := 13) (oi := ?ot55) (by kernel_rfl) ?at55 ?ct55 (fun K13 hK13 => ?_)
                (case at55 => (simp only [List.getElem?_toArray, List.getElem?_cons_zero, List.getElem?_cons_succ]; rfl))
                (case ct55 => kernel_rfl)
                go_simp
                refine (HCP.out _ _ (HX.out.2.2.1.trans ((show Save g0 X _ from hS12.1).below HWG.out HX.out.2.2.1.size)) F12.out).mono ?_
                rintro e y13 ⟨v13, rfl, hv, hd⟩
                replace F3 := Lib.hid (OwnE.on F3.out hd (Nat.le_refl _))
                replace F8 := Lib.hid (OwnE.on F8.out hd (Nat.le_refl _))
                clear F12
                have F13 := Lib.hid (OwnE.low (own_of hv) (show Save g0 X _ from hS12.1).size)
                refine hK13 _ _ ⟨Save.on (show Save g0 X _ from hS12.1) hd (show Save g0 X _ from hS12.1).size, hS12.2.elim fun f hf => ⟨f, hf.under hd⟩⟩ (fun hS13 => ?_)
                clear hv hd hS12 hK13 K13
                revert hS13
                revert F13
                revert F8
                revert F3
                revert v13
                revert v8
                revert v3
                revert p12
                revert p7
                revert y13
                exact tail 0
              case hjt58 =>
                refine ow_pt_1 _ rfl (some B2, C2, py) HPP.out ?_
                intro y12 p12 hl hd
                replace F3 := Lib.hid (OwnE.on F3.out hd (Nat.le_refl _))
                replace F7 := Lib.hid (lies_on2 F7.out hd)
                have F12 := Lib.hid hl
                refine hK12 _ _ ⟨Save.on (show Save g0 X _ from hS7.1) hd (show Save g0 X _ from hS7.1).size, hS7.2.elim fun f hf => ⟨f, hf.under hd⟩⟩ (fun hS12 => ?_)
                clear hl hd hS7 hK12 K12
                refine held_one (i := 8) (oi := ?ot56) (by kernel_rfl) ?at56 ?ct56 (fun K8 hK8 => ?_)
                (case at56 => (simp only [List.getElem?_toArray, List.getElem?_cons_zero, List.getElem?_cons_succ]; rfl))
                (case ct56 => kernel_rfl)
                go_simp
                refine (HCS.out _ _ (HX.out.2.2.1.trans ((show Save g0 X _ from hS12.1).below HWG.out HX.out.2.2.1.size)) F7.out).mono ?_
                rintro e y8 ⟨v8, rfl, hv, hd⟩
                replace F3 := Lib.hid (OwnE.on F3.out hd (Nat.le_refl _))
                replace F12 := Lib.hid (lies_on2 F12.out hd)
                clear F7
                have F8 := Lib.hid (OwnE.low (own_of hv) (show Save g0 X _ from hS12.1).size)
                refine hK8 _ _ ⟨Save.on (show Save g0 X _ from hS12.1) hd (show Save g0 X _ from hS12.1).size, hS12.2.elim fun f hf => ⟨f, hf.under hd⟩⟩ (fun hS8 => ?_)
                clear hv hd hS12 hK8 K8
                refine held_one (i := 13) (oi := ?ot57) (by kernel_rfl) ?at57 ?ct57 (fun K13 hK13 => ?_)
                (case at57 => (simp only [List.getElem?_toArray, List.getElem?_cons_zero, List.getElem?_cons_succ]; rfl))
                (case ct57 => kernel_rfl)
                go_simp
                refine (HCP.out _ _ (HX.out.2.2.1.trans ((show Save g0 X _ from hS8.1).below HWG.out HX.out.2.2.1.size)) F12.out).mono ?_
                rintro e y13 ⟨v13, rfl, hv, hd⟩
                replace F3 := Lib.hid (OwnE.on F3.out hd (Nat.le_refl _))
                replace F8 := Lib.hid (OwnE.on F8.out hd (Nat.le_refl _))
                clear F12
                have F13 := Lib.hid (OwnE.low (own_of hv) (show Save g0 X _ from hS8.1).size)
                refine hK13 _ _ ⟨Save.on (show Save g0 X _ from hS8.1) hd (show Save g0 X _ from hS8.1).size, hS8.2.elim fun f hf => ⟨f, hf.under hd⟩⟩ (fun hS13 => ?_)
                clear hv hd hS8 hK13 K13
                revert hS13
                revert F13
                revert F8
                revert F3
                revert v13
                revert v8
                revert v3
                revert p12
                revert p7
                revert y13
                exact tail 0
            case hjt62 =>
              refine ow_pt_1 _ rfl (some B2, C2, py) HPP.out ?_
              intro y12 p12 hl hd
              replace F3 := Lib.hid (OwnE.on F3.out hd (Nat.le_refl _))
              have F12 := Lib.hid hl
              refine hK12 _ _ ⟨Save.on (show Save g0 X _ from hS3.1) hd (show Save g0 X _ from hS3.1).size, hS3.2.elim fun f hf => ⟨f, hf.under hd⟩⟩ (fun hS12 => ?_)
              clear hl hd hS3 hK12 K12
              refine held_one (i := 7) (oi := ?ot59) (by kernel_rfl) ?at59 ?ct59 (fun K7 hK7 => ?_)
              (case at59 => (simp only [List.getElem?_toArray, List.getElem?_cons_zero, List.getElem?_cons_succ]; rfl))
              (case ct59 => kernel_rfl)
              refine ow_pt_1 _ rfl (some B1, C1, sg) HPS.out ?_
              intro y7 p7 hl hd
              replace F3 := Lib.hid (OwnE.on F3.out hd (Nat.le_refl _))
              replace F12 := Lib.hid (lies_on2 F12.out hd)
              have F7 := Lib.hid hl
              refine hK7 _ _ ⟨Save.on (show Save g0 X _ from hS12.1) hd (show Save g0 X _ from hS12.1).size, hS12.2.elim fun f hf => ⟨f, hf.under hd⟩⟩ (fun hS7 => ?_)
              clear hl hd hS12 hK7 K7
              refine held_one (i := 8) (oi := ?ot60) (by kernel_rfl) ?at60 ?ct60 (fun K8 hK8 => ?_)
              (case at60 => (simp only [List.getElem?_toArray, List.getElem?_cons_zero, List.getElem?_cons_succ]; rfl))
              (case ct60 => kernel_rfl)
              go_simp
              refine (HCS.out _ _ (HX.out.2.2.1.trans ((show Save g0 X _ from hS7.1).below HWG.out HX.out.2.2.1.size)) F7.out).mono ?_
              rintro e y8 ⟨v8, rfl, hv, hd⟩
              replace F3 := Lib.hid (OwnE.on F3.out hd (Nat.le_refl _))
              replace F12 := Lib.hid (lies_on2 F12.out hd)
              clear F7
              have F8 := Lib.hid (OwnE.low (own_of hv) (show Save g0 X _ from hS7.1).size)
              refine hK8 _ _ ⟨Save.on (show Save g0 X _ from hS7.1) hd (show Save g0 X _ from hS7.1).size, hS7.2.elim fun f hf => ⟨f, hf.under hd⟩⟩ (fun hS8 => ?_)
              clear hv hd hS7 hK8 K8
              refine held_one (i := 13) (oi := ?ot61) (by kernel_rfl) ?at61 ?ct61 (fun K13 hK13 => ?_)
              (case at61 => (simp only [List.getElem?_toArray, List.getElem?_cons_zero, List.getElem?_cons_succ]; rfl))
              (case ct61 => kernel_rfl)
              go_simp
              refine (HCP.out _ _ (HX.out.2.2.1.trans ((show Save g0 X _ from hS8.1).below HWG.out HX.out.2.2.1.size)) F12.out).mono ?_
              rintro e y13 ⟨v13, rfl, hv, hd⟩
              replace F3 := Lib.hid (OwnE.on F3.out hd (Nat.le_refl _))
              replace F8 := Lib.hid (OwnE.on F8.out hd (Nat.le_refl _))
              clear F12
              have F13 := Lib.hid (OwnE.low (own_of hv) (show Save g0 X _ from hS8.1).size)
              refine hK13 _ _ ⟨Save.on (show Save g0 X _ from hS8.1) hd (show Save g0 X _ from hS8.1).size, hS8.2.elim fun f hf => ⟨f, hf.under hd⟩⟩ (fun hS13 => ?_)
              clear hv hd hS8 hK13 K13
              revert hS13
              revert F13
              revert F8
              revert F3
              revert v13
              revert v8
              revert v3
              revert p12
              revert p7
              revert y13
              exact tail 0
          case hjt79 =>
            refine ow_pt_1 _ rfl (some B1, C1, sg) HPS.out ?_
            intro y7 p7 hl hd
            have F7 := Lib.hid hl
            refine hK7 _ _ ⟨Save.on (show Save g0 X _ from hS.1) hd (show Save g0 X _ from hS.1).size, hS.2.elim fun f hf => ⟨f, hf.under hd⟩⟩ (fun hS7 => ?_)
            clear hl hd hS hK7 K7
            refine held_two (i := 3) (j := 12) (oi := ?oit71) (oj := ?ojt71) (by kernel_rfl) ?ait71 ?ajt71 ?cit71 ?cjt71 (fun K3 hK3 => ?hit71) (fun K12 hK12 => ?hjt71)
            (case ait71 => (simp only [List.getElem?_toArray, List.getElem?_cons_zero, List.getElem?_cons_succ]; rfl))
            (case ajt71 => (simp only [List.getElem?_toArray, List.getElem?_cons_zero, List.getElem?_cons_succ]; rfl))
            (case cit71 => kernel_rfl)
            (case cjt71 => kernel_rfl)
            case hit71 =>
              go_simp
              refine (HAH.out h _).mono ?_
              rintro e y3 ⟨v3, rfl, hv, hd⟩
              replace F7 := Lib.hid (lies_on2 F7.out hd)
              have F3 := Lib.hid (OwnE.low (own_of hv) (show Save g0 X _ from hS7.1).size)
              refine hK3 _ _ ⟨Save.on (show Save g0 X _ from hS7.1) hd (show Save g0 X _ from hS7.1).size, hS7.2.elim fun f hf => ⟨f, hf.under hd⟩⟩ (fun hS3 => ?_)
              clear hv hd hS7 hK3 K3
              refine held_two (i := 8) (j := 12) (oi := ?oit67) (oj := ?ojt67) (by kernel_rfl) ?ait67 ?ajt67 ?cit67 ?cjt67 (fun K8 hK8 => ?hit67) (fun K12 hK12 => ?hjt67)
              (case ait67 => (simp only [List.getElem?_toArray, List.getElem?_cons_zero, List.getElem?_cons_succ]; rfl))
              (case ajt67 => (simp only [List.getElem?_toArray, List.getElem?_cons_zero, List.getElem?_cons_succ]; rfl))
              (case cit67 => kernel_rfl)
              (case cjt67 => kernel_rfl)
              case hit67 =>
                go_simp
                refine (HCS.out _ _ (HX.out.2.2.1.trans ((show Save g0 X _ from hS3.1).below HWG.out HX.out.2.2.1.size)) F7.out).mono ?_
                rintro e y8 ⟨v8, rfl, hv, hd⟩
                replace F3 := Lib.hid (OwnE.on F3.out hd (Nat.le_refl _))
                clear F7
                have F8 := Lib.hid (OwnE.low (own_of hv) (show Save g0 X _ from hS3.1).size)
                refine hK8 _ _ ⟨Save.on (show Save g0 X _ from hS3.1) hd (show Save g0 X _ from hS3.1).size, hS3.2.elim fun f hf => ⟨f, hf.under hd⟩⟩ (fun hS8 => ?_)
                clear hv hd hS3 hK8 K8
                refine held_one (i := 12) (oi := ?ot63) (by kernel_rfl) ?at63 ?ct63 (fun K12 hK12 => ?_)
                (case at63 => (simp only [List.getElem?_toArray, List.getElem?_cons_zero, List.getElem?_cons_succ]; rfl))
                (case ct63 => kernel_rfl)
                refine ow_pt_1 _ rfl (some B2, C2, py) HPP.out ?_
                intro y12 p12 hl hd
                replace F3 := Lib.hid (OwnE.on F3.out hd (Nat.le_refl _))
                replace F8 := Lib.hid (OwnE.on F8.out hd (Nat.le_refl _))
                have F12 := Lib.hid hl
                refine hK12 _ _ ⟨Save.on (show Save g0 X _ from hS8.1) hd (show Save g0 X _ from hS8.1).size, hS8.2.elim fun f hf => ⟨f, hf.under hd⟩⟩ (fun hS12 => ?_)
                clear hl hd hS8 hK12 K12
                refine held_one (i := 13) (oi := ?ot64) (by kernel_rfl) ?at64 ?ct64 (fun K13 hK13 => ?_)
                (case at64 => (simp only [List.getElem?_toArray, List.getElem?_cons_zero, List.getElem?_cons_succ]; rfl))
                (case ct64 => kernel_rfl)
                go_simp
                refine (HCP.out _ _ (HX.out.2.2.1.trans ((show Save g0 X _ from hS12.1).below HWG.out HX.out.2.2.1.size)) F12.out).mono ?_
                rintro e y13 ⟨v13, rfl, hv, hd⟩
                replace F3 := Lib.hid (OwnE.on F3.out hd (Nat.le_refl _))
                replace F8 := Lib.hid (OwnE.on F8.out hd (Nat.le_refl _))
                clear F12
                have F13 := Lib.hid (OwnE.low (own_of hv) (show Save g0 X _ from hS12.1).size)
                refine hK13 _ _ ⟨Save.on (show Save g0 X _ from hS12.1) hd (show Save g0 X _ from hS12.1).size, hS12.2.elim fun f hf => ⟨f, hf.under hd⟩⟩ (fun hS13 => ?_)
                clear hv hd hS12 hK13 K13
                revert hS13
                revert F13
                revert F8
                revert F3
                revert v13
                revert v8
                revert v3
                revert p12
                revert p7
                revert y13
                exact tail 0
              case hjt67 =>
                refine ow_pt_1 _ rfl (some B2, C2, py) HPP.out ?_
                intro y12 p12 hl hd
                replace F3 := Lib.hid (OwnE.on F3.out hd (Nat.le_refl _))
                replace F7 := Lib.hid (lies_on2 F7.out hd)
                have F12 := Lib.hid hl
                refine hK12 _ _ ⟨Save.on (show Save g0 X _ from hS3.1) hd (show Save g0 X _ from hS3.1).size, hS3.2.elim fun f hf => ⟨f, hf.under hd⟩⟩ (fun hS12 => ?_)
                clear hl hd hS3 hK12 K12
                refine held_one (i := 8) (oi := ?ot65) (by kernel_rfl) ?at65 ?ct65 (fun K8 hK8 => ?_)
                (case at65 => (simp only [List.getElem?_toArray, List.getElem?_cons_zero, List.getElem?_cons_succ]; rfl))
                (case ct65 => kernel_rfl)
                go_simp
                refine (HCS.out _ _ (HX.out.2.2.1.trans ((show Save g0 X _ from hS12.1).below HWG.out HX.out.2.2.1.size)) F7.out).mono ?_
                rintro e y8 ⟨v8, rfl, hv, hd⟩
                replace F3 := Lib.hid (OwnE.on F3.out hd (Nat.le_refl _))
                replace F12 := Lib.hid (lies_on2 F12.out hd)
                clear F7
                have F8 := Lib.hid (OwnE.low (own_of hv) (show Save g0 X _ from hS12.1).size)
                refine hK8 _ _ ⟨Save.on (show Save g0 X _ from hS12.1) hd (show Save g0 X _ from hS12.1).size, hS12.2.elim fun f hf => ⟨f, hf.under hd⟩⟩ (fun hS8 => ?_)
                clear hv hd hS12 hK8 K8
                refine held_one (i := 13) (oi := ?ot66) (by kernel_rfl) ?at66 ?ct66 (fun K13 hK13 => ?_)
                (case at66 => (simp only [List.getElem?_toArray, List.getElem?_cons_zero, List.getElem?_cons_succ]; rfl))
                (case ct66 => kernel_rfl)
                go_simp
                refine (HCP.out _ _ (HX.out.2.2.1.trans ((show Save g0 X _ from hS8.1).below HWG.out HX.out.2.2.1.size)) F12.out).mono ?_
                rintro e y13 ⟨v13, rfl, hv, hd⟩
                replace F3 := Lib.hid (OwnE.on F3.out hd (Nat.le_refl _))
                replace F8 := Lib.hid (OwnE.on F8.out hd (Nat.le_refl _))
                clear F12
                have F13 := Lib.hid (OwnE.low (own_of hv) (show Save g0 X _ from hS8.1).size)
                refine hK13 _ _ ⟨Save.on (show Save g0 X _ from hS8.1) hd (show Save g0 X _ from hS8.1).size, hS8.2.elim fun f hf => ⟨f, hf.under hd⟩⟩ (fun hS13 => ?_)
                clear hv hd hS8 hK13 K13
                revert hS13
                revert F13
                revert F8
                revert F3
                revert v13
                revert v8
                revert v3
                revert p12
                revert p7
                revert y13
                exact tail 0
            case hjt71 =>
              refine ow_pt_1 _ rfl (some B2, C2, py) HPP.out ?_
              intro y12 p12 hl hd
              replace F7 := Lib.hid (lies_on2 F7.out hd)
              have F12 := Lib.hid hl
              refine hK12 _ _ ⟨Save.on (show Save g0 X _ from hS7.1) hd (show Save g0 X _ from hS7.1).size, hS7.2.elim fun f hf => ⟨f, hf.under hd⟩⟩ (fun hS12 => ?_)
              clear hl hd hS7 hK12 K12
              refine held_one (i := 3) (oi := ?ot68) (by kernel_rfl) ?at68 ?ct68 (fun K3 hK3 => ?_)
              (case at68 => (simp only [List.getElem?_toArray, List.getElem?_cons_zero, List.getElem?_cons_succ]; rfl))
              (case ct68 => kernel_rfl)
              go_simp
              refine (HAH.out h _).mono ?_
              rintro e y3 ⟨v3, rfl, hv, hd⟩
              replace F7 := Lib.hid (lies_on2 F7.out hd)
              replace F12 := Lib.hid (lies_on2 F12.out hd)
              have F3 := Lib.hid (OwnE.low (own_of hv) (show Save g0 X _ from hS12.1).size)
              refine hK3 _ _ ⟨Save.on (show Save g0 X _ from hS12.1) hd (show Save g0 X _ from hS12.1).size, hS12.2.elim fun f hf => ⟨f, hf.under hd⟩⟩ (fun hS3 => ?_)
              clear hv hd hS12 hK3 K3
              refine held_one (i := 8) (oi := ?ot69) (by kernel_rfl) ?at69 ?ct69 (fun K8 hK8 => ?_)
              (case at69 => (simp only [List.getElem?_toArray, List.getElem?_cons_zero, List.getElem?_cons_succ]; rfl))
              (case ct69 => kernel_rfl)
              go_simp
              refine (HCS.out _ _ (HX.out.2.2.1.trans ((show Save g0 X _ from hS3.1).below HWG.out HX.out.2.2.1.size)) F7.out).mono ?_
              rintro e y8 ⟨v8, rfl, hv, hd⟩
              replace F3 := Lib.hid (OwnE.on F3.out hd (Nat.le_refl _))
              replace F12 := Lib.hid (lies_on2 F12.out hd)
              clear F7
              have F8 := Lib.hid (OwnE.low (own_of hv) (show Save g0 X _ from hS3.1).size)
              refine hK8 _ _ ⟨Save.on (show Save g0 X _ from hS3.1) hd (show Save g0 X _ from hS3.1).size, hS3.2.elim fun f hf => ⟨f, hf.under hd⟩⟩ (fun hS8 => ?_)
              clear hv hd hS3 hK8 K8
              refine held_one (i := 13) (oi := ?ot70) (by kernel_rfl) ?at70 ?ct70 (fun K13 hK13 => ?_)
              (case at70 => (simp only [List.getElem?_toArray, List.getElem?_cons_zero, List.getElem?_cons_succ]; rfl))
              (case ct70 => kernel_rfl)
              go_simp
              refine (HCP.out _ _ (HX.out.2.2.1.trans ((show Save g0 X _ from hS8.1).below HWG.out HX.out.2.2.1.size)) F12.out).mono ?_
              rintro e y13 ⟨v13, rfl, hv, hd⟩
              replace F3 := Lib.hid (OwnE.on F3.out hd (Nat.le_refl _))
              replace F8 := Lib.hid (OwnE.on F8.out hd (Nat.le_refl _))
              clear F12
              have F13 := Lib.hid (OwnE.low (own_of hv) (show Save g0 X _ from hS8.1).size)
              refine hK13 _ _ ⟨Save.on (show Save g0 X _ from hS8.1) hd (show Save g0 X _ from hS8.1).size, hS8.2.elim fun f hf => ⟨f, hf.under hd⟩⟩ (fun hS13 => ?_)
              clear hv hd hS8 hK13 K13
              revert hS13
              revert F13
              revert F8
              revert F3
              revert v13
              revert v8
              revert v3
              revert p12
              revert p7
              revert y13
              exact tail 0
          case hkt79 =>
            refine ow_pt_1 _ rfl (some B2, C2, py) HPP.out ?_
            intro y12 p12 hl hd
            have F12 := Lib.hid hl
            refine hK12 _ _ ⟨Save.on (show Save g0 X _ from hS.1) hd (show Save g0 X _ from hS.1).size, hS.2.elim fun f hf => ⟨f, hf.under hd⟩⟩ (fun hS12 => ?_)
            clear hl hd hS hK12 K12
            refine held_two (i := 3) (j := 7) (oi := ?oit78) (oj := ?ojt78) (by kernel_rfl) ?ait78 ?ajt78 ?cit78 ?cjt78 (fun K3 hK3 => ?hit78) (fun K7 hK7 => ?hjt78)
            (case ait78 => (simp only [List.getElem?_toArray, List.getElem?_cons_zero, List.getElem?_cons_succ]; rfl))
            (case ajt78 => (simp only [List.getElem?_toArray, List.getElem?_cons_zero, List.getElem?_cons_succ]; rfl))
            (case cit78 => kernel_rfl)
            (case cjt78 => kernel_rfl)
            case hit78 =>
              go_simp
              refine (HAH.out h _).mono ?_
              rintro e y3 ⟨v3, rfl, hv, hd⟩
              replace F12 := Lib.hid (lies_on2 F12.out hd)
              have F3 := Lib.hid (OwnE.low (own_of hv) (show Save g0 X _ from hS12.1).size)
              refine hK3 _ _ ⟨Save.on (show Save g0 X _ from hS12.1) hd (show Save g0 X _ from hS12.1).size, hS12.2.elim fun f hf => ⟨f, hf.under hd⟩⟩ (fun hS3 => ?_)
              clear hv hd hS12 hK3 K3
              refine held_one (i := 7) (oi := ?ot72) (by kernel_rfl) ?at72 ?ct72 (fun K7 hK7 => ?_)
              (case at72 => (simp only [List.getElem?_toArray, List.getElem?_cons_zero, List.getElem?_cons_succ]; rfl))
              (case ct72 => kernel_rfl)
              refine ow_pt_1 _ rfl (some B1, C1, sg) HPS.out ?_
              intro y7 p7 hl hd
              replace F3 := Lib.hid (OwnE.on F3.out hd (Nat.le_refl _))
              replace F12 := Lib.hid (lies_on2 F12.out hd)
              have F7 := Lib.hid hl
              refine hK7 _ _ ⟨Save.on (show Save g0 X _ from hS3.1) hd (show Save g0 X _ from hS3.1).size, hS3.2.elim fun f hf => ⟨f, hf.under hd⟩⟩ (fun hS7 => ?_)
              clear hl hd hS3 hK7 K7
              refine held_one (i := 8) (oi := ?ot73) (by kernel_rfl) ?at73 ?ct73 (fun K8 hK8 => ?_)
              (case at73 => (simp only [List.getElem?_toArray, List.getElem?_cons_zero, List.getElem?_cons_succ]; rfl))
              (case ct73 => kernel_rfl)
              go_simp
              refine (HCS.out _ _ (HX.out.2.2.1.trans ((show Save g0 X _ from hS7.1).below HWG.out HX.out.2.2.1.size)) F7.out).mono ?_
              rintro e y8 ⟨v8, rfl, hv, hd⟩
              replace F3 := Lib.hid (OwnE.on F3.out hd (Nat.le_refl _))
              replace F12 := Lib.hid (lies_on2 F12.out hd)
              clear F7
              have F8 := Lib.hid (OwnE.low (own_of hv) (show Save g0 X _ from hS7.1).size)
              refine hK8 _ _ ⟨Save.on (show Save g0 X _ from hS7.1) hd (show Save g0 X _ from hS7.1).size, hS7.2.elim fun f hf => ⟨f, hf.under hd⟩⟩ (fun hS8 => ?_)
              clear hv hd hS7 hK8 K8
              refine held_one (i := 13) (oi := ?ot74) (by kernel_rfl) ?at74 ?ct74 (fun K13 hK13 => ?_)
              (case at74 => (simp only [List.getElem?_toArray, List.getElem?_cons_zero, List.getElem?_cons_succ]; rfl))
              (case ct74 => kernel_rfl)
              go_simp
              refine (HCP.out _ _ (HX.out.2.2.1.trans ((show Save g0 X _ from hS8.1).below HWG.out HX.out.2.2.1.size)) F12.out).mono ?_
              rintro e y13 ⟨v13, rfl, hv, hd⟩
              replace F3 := Lib.hid (OwnE.on F3.out hd (Nat.le_refl _))
              replace F8 := Lib.hid (OwnE.on F8.out hd (Nat.le_refl _))
              clear F12
              have F13 := Lib.hid (OwnE.low (own_of hv) (show Save g0 X _ from hS8.1).size)
              refine hK13 _ _ ⟨Save.on (show Save g0 X _ from hS8.1) hd (show Save g0 X _ from hS8.1).size, hS8.2.elim fun f hf => ⟨f, hf.under hd⟩⟩ (fun hS13 => ?_)
              clear hv hd hS8 hK13 K13
              revert hS13
              revert F13
              revert F8
              revert F3
              revert v13
              revert v8
              revert v3
              revert p12
              revert p7
              revert y13
              exact tail 0
            case hjt78 =>
              refine ow_pt_1 _ rfl (some B1, C1, sg) HPS.out ?_
              intro y7 p7 hl hd
              replace F12 := Lib.hid (lies_on2 F12.out hd)
              have F7 := Lib.hid hl
              refine hK7 _ _ ⟨Save.on (show Save g0 X _ from hS12.1) hd (show Save g0 X _ from hS12.1).size, hS12.2.elim fun f hf => ⟨f, hf.under hd⟩⟩ (fun hS7 => ?_)
              clear hl hd hS12 hK7 K7
              refine held_one (i := 3) (oi := ?ot75) (by kernel_rfl) ?at75 ?ct75 (fun K3 hK3 => ?_)
              (case at75 => (simp only [List.getElem?_toArray, List.getElem?_cons_zero, List.getElem?_cons_succ]; rfl))
              (case ct75 => kernel_rfl)
              go_simp
              refine (HAH.out h _).mono ?_
              rintro e y3 ⟨v3, rfl, hv, hd⟩
              replace F12 := Lib.hid (lies_on2 F12.out hd)
              replace F7 := Lib.hid (lies_on2 F7.out hd)
              have F3 := Lib.hid (OwnE.low (own_of hv) (show Save g0 X _ from hS7.1).size)
              refine hK3 _ _ ⟨Save.on (show Save g0 X _ from hS7.1) hd (show Save g0 X _ from hS7.1).size, hS7.2.elim fun f hf => ⟨f, hf.under hd⟩⟩ (fun hS3 => ?_)
              clear hv hd hS7 hK3 K3
              refine held_one (i := 8) (oi := ?ot76) (by kernel_rfl) ?at76 ?ct76 (fun K8 hK8 => ?_)
              (case at76 => (simp only [List.getElem?_toArray, List.getElem?_cons_zero, List.getElem?_cons_succ]; rfl))
              (case ct76 => kernel_rfl)
              go_simp
              refine (HCS.out _ _ (HX.out.2.2.1.trans ((show Save g0 X _ from hS3.1).below HWG.out HX.out.2.2.1.size)) F7.out).mono ?_
              rintro e y8 ⟨v8, rfl, hv, hd⟩
              replace F3 := Lib.hid (OwnE.on F3.out hd (Nat.le_refl _))
              replace F12 := Lib.hid (lies_on2 F12.out hd)
              clear F7
              have F8 := Lib.hid (OwnE.low (own_of hv) (show Save g0 X _ from hS3.1).size)
              refine hK8 _ _ ⟨Save.on (show Save g0 X _ from hS3.1) hd (show Save g0 X _ from hS3.1).size, hS3.2.elim fun f hf => ⟨f, hf.under hd⟩⟩ (fun hS8 => ?_)
              clear hv hd hS3 hK8 K8
              refine held_one (i := 13) (oi := ?ot77) (by kernel_rfl) ?at77 ?ct77 (fun K13 hK13 => ?_)
              (case at77 => (simp only [List.getElem?_toArray, List.getElem?_cons_zero, List.getElem?_cons_succ]; rfl))
              (case ct77 => kernel_rfl)
              go_simp
              refine (HCP.out _ _ (HX.out.2.2.1.trans ((show Save g0 X _ from hS8.1).below HWG.out HX.out.2.2.1.size)) F12.out).mono ?_
              rintro e y13 ⟨v13, rfl, hv, hd⟩
              replace F3 := Lib.hid (OwnE.on F3.out hd (Nat.le_refl _))
              replace F8 := Lib.hid (OwnE.on F8.out hd (Nat.le_refl _))
              clear F12
              have F13 := Lib.hid (OwnE.low (own_of hv) (show Save g0 X _ from hS8.1).size)
              refine hK13 _ _ ⟨Save.on (show Save g0 X _ from hS8.1) hd (show Save g0 X _ from hS8.1).size, hS8.2.elim fun f hf => ⟨f, hf.under hd⟩⟩ (fun hS13 => ?_)
              clear hv hd hS8 hK13 K13
              revert hS13
              revert F13
              revert F8
              revert F3
              revert v13
              revert v8
              revert v3
              revert p12
              revert p7
              revert y13
              exact tail 0
        case t =>
          intro y13 p7 p12 v3 v8 v13 F3 F8 F13 hS13
          refine held_one (i := 14) (oi := ?ot80) (by kernel_rfl) ?at80 ?ct80 (fun K14 hK14 => ?_)
          (case at80 => (simp only [List.getElem?_toArray, List.getElem?_cons_zero, List.getElem?_cons_succ]; rfl))
          (case ct80 => kernel_rfl)
          obtain ⟨fR, hR⟩ := hS13.2
          refine ow_store 26 _ _ rfl _ rfl _ rfl (run_store_arr hR (hdF h) infoHd (hdF_one _ _)) ?_
          have hRR := hR.row (hdF h)
          have hsv := (Save.refl g0 y13).setRow (vec 35 (hdF h))
          replace F3 := Lib.hid (OwnE.save F3.out hsv HX.out.2.2.2.2)
          replace F8 := Lib.hid (OwnE.save F8.out hsv HX.out.2.2.2.2)
          replace F13 := Lib.hid (OwnE.save F13.out hsv HX.out.2.2.2.2)
          refine hK14 _ _ ⟨hS13.1.setRow _, _, hRR⟩ (fun hS14 => ?_)
          have HF := Lib.hid (And.intro hRR hS14.1)
          clear hK14 K14 hRR hsv hS13
          (refine held_take (i := 15) (oi := ?ot81) (v := ?vt81) ?at81 (by kernel_rfl) (by kernel_rfl) (by kernel_rfl) ?bt81 ?ct81 ?dt81 (by assumption) ?rt81; (case at81 => (simp only [List.getElem?_toArray, List.getElem?_cons_zero, List.getElem?_cons_succ]; rfl)); (case bt81 => exact fun _ _ _ h => h); (case ct81 => kernel_rfl); (case dt81 => (intro W hW; (try dsimp only at hW); go_split_ands; go_simp; (try with_reducible rfl))); (case' rt81 => simp only [Act.put, List.setIfInBounds_toArray, List.set_cons_zero, List.set_cons_succ]))
          (refine held_take (i := 16) (oi := ?ot82) (v := ?vt82) ?at82 (by kernel_rfl) (by kernel_rfl) (by kernel_rfl) ?bt82 ?ct82 ?dt82 (by assumption) ?rt82; (case at82 => (simp only [List.getElem?_toArray, List.getElem?_cons_zero, List.getElem?_cons_succ]; rfl)); (case bt82 => exact fun _ _ _ h => h); (case ct82 => kernel_rfl); (case dt82 => (intro W hW; (try dsimp only at hW); go_split_ands; go_simp; (try with_reducible rfl))); (case' rt82 => simp only [Act.put, List.setIfInBounds_toArray, List.set_cons_zero, List.set_cons_succ]))
          (refine held_take (i := 17) (oi := ?ot83) (v := ?vt83) ?at83 (by kernel_rfl) (by kernel_rfl) (by kernel_rfl) ?bt83 ?ct83 ?dt83 (by assumption) ?rt83; (case at83 => (simp only [List.getElem?_toArray, List.getElem?_cons_zero, List.getElem?_cons_succ]; rfl)); (case bt83 => exact fun _ _ _ h => h); (case ct83 => kernel_rfl); (case dt83 => (intro W hW; (try dsimp only at hW); go_split_ands; go_simp; (try with_reducible rfl))); (case' rt83 => simp only [Act.put, List.setIfInBounds_toArray, List.set_cons_zero, List.set_cons_succ]))
          (refine held_take (i := 18) (oi := ?ot84) (v := ?vt84) ?at84 (by kernel_rfl) (by kernel_rfl) (by kernel_rfl) ?bt84 ?ct84 ?dt84 (by assumption) ?rt84; (case at84 => (simp only [List.getElem?_toArray, List.getElem?_cons_zero, List.getElem?_cons_succ]; rfl)); (case bt84 => exact fun _ _ _ h => h); (case ct84 => kernel_rfl); (case dt84 => (intro W hW; (try dsimp only at hW); go_split_ands; go_simp; (try with_reducible rfl))); (case' rt84 => simp only [Act.put, List.setIfInBounds_toArray, List.set_cons_zero, List.set_cons_succ]))
          refine wpAnyH_done (by kernel_rfl) ?_ _
          go_wp2
          refine bodyPost_ret (results_c4 rfl _ _ _ rfl (run_load_arr HF.out.1 Tryd.underlying26 rfl infoHd)) rfl ?_
          exact HYES.out _ _ _ _ _ (by rw [HSP.out, ← HHR.out]; rfl) (OwnE.sli F3.out) (OwnE.sli F8.out) (OwnE.sli F13.out) (HX.out.2.2.1.trans (HF.out.2.below HWG.out HX.out.2.2.1.size))
end Go.Proofs.YtgoblolbkchggaaDoor
