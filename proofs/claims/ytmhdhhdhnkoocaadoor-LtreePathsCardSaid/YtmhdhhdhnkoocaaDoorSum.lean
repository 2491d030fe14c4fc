/- sha.begin, (sha.state).end, sha.Sum. -/
import Derived.Test.YtmhdhhdhnkoocaaDoorNode
import Derived.Test.YtmhdhhdhnkoocaaDoorPad
import Derived.Test.YtmhdhhdhnkoocaaDoorRTab
namespace Go.Proofs.YtmhdhhdhnkoocaaDoor
open Go.RowKit

def nf : Nat → Value := fun _ => undef
def SZ : St := ⟨zw, zb, 0⟩
def S0 : St := ⟨H0, zb, 0⟩
set_option maxRecDepth 100000 in
theorem info53 : (Tryd.prog.info? 96).map (·.size) = some 73 := by kernel_rfl
set_option maxRecDepth 100000 in
theorem zeroV53 (w : World) : (zeroValue 96).run Tryd.prog w = .ok (.agg (vec 73 (stf SZ nf))) w :=
  (zero_of_info (P := Tryd.prog) (t := 96) (v := .agg (vec 73 (stf SZ nf))) (n := 73) (by kernel_rfl)).1 w
set_option maxRecDepth 100000 in
theorem st_one (s : St) : ∀ i, i < 73 → (stf s nf i).oneCell' = true := by
  intro i hi
  unfold stf
  by_cases h1 : i < 8
  · simp only [h1, if_true]; rfl
  · by_cases h2 : i < 72
    · simp only [h1, h2, if_true, if_false]; rfl
    · have : i = 72 := by omega
      subst this; rfl
attribute [local go_sem ↓ high] zeroV53 zeroV26 zeroV32 zeroV34
set_option maxRecDepth 100000 in
theorem tab_lt {w : World} (h : Tabs w) : 1 < w.heap.size ∧ 0 < w.heap.size :=
  ⟨World.block_lt_of_cell? w _ (h.1 0 (by decide)), World.block_lt_of_cell? w _ (h.2 0 (by decide))⟩
set_option maxRecDepth 100000 in
theorem begin_any (w : World) (hT : Tabs w) :
    Calls Tryd.prog 60 #[] w fun e w' => e = .returned (.agg (vec 73 (stf S0 nf))) ∧ Below w.heap.size w w' := by
  have hA : Arr (w.alloc (.cells (vec 73 (stf SZ nf)) 96)) w.heap.size 96 73 (stf SZ nf) := Arr.new w _ _ _
  have hb0 : Below w.heap.size w (w.alloc (.cells (vec 73 (stf SZ nf)) 96)) := (Below.refl _ _).alloc (Nat.le_refl _) _
  obtain ⟨W0, hW0⟩ : ∃ W0, W0 = w.alloc (.cells (vec 73 (stf SZ nf)) 96) := ⟨_, rfl⟩
  rw [← hW0] at hA hb0
  have HA := Lib.hid hA
  have HI := Lib.hid (init_any W0 (tabs_below hT hb0))
  have HB := Lib.hid hb0
  have HW := Lib.hid hW0
  clear hA hT hb0 hW0
  go_enter Tryd.func60, Tryd.ntmps60
  go_upto_region 1 with fail
  rw [← HW.out]
  clear HW
  go_wp2_with (first
    | (go_at_call 64; refine HI.out.mono ?_; rintro e w1 ⟨rfl, hd⟩; have HD := Lib.hid hd; clear hd)
    | (refine wl_build rfl 96 _ rfl (vec 73 (stf S0 nf)) (by kernel_rfl) ?_)
    | (refine wl_store rfl 96 _ _ rfl _ rfl _ rfl (run_store_arr (HA.out.under HD.out) (stf S0 nf) info53 (st_one _)) ?_))
  refine bodyPost_ret (results_cell1 rfl _ _ _ rfl (run_load_arr ((HA.out.under HD.out).row _) Tryd.underlying96 rfl info53)) rfl ⟨rfl, ?_⟩
  exact below_row (HB.out.trans (HD.out.mono HB.out.size)) (Nat.le_refl _) _

/-- The words' bytes. -/
def outB (h : Nat → W32) : Nat → UInt8 := fun i => UInt8.ofNat ((h (i / 4)).toNat / 2 ^ (24 - 8 * (i % 4)) % 256)
def wns (h : Nat → W32) : List Nat := (List.range 8).map fun j => (h j).toNat
set_option maxRecDepth 100000 in
theorem put_out (h : Nat → W32) : [] ++ putAll 0 4 (wns h) = (List.range 32).map (outB h) := by rfl
set_option maxRecDepth 100000 in
theorem wns_lt (h : Nat → W32) : ∀ n ∈ wns h, n < 4294967296 := by
  intro n hn
  obtain ⟨j, _, rfl⟩ := List.mem_map.1 hn
  exact (h j).isLt
def fin (s : St) : St := feed s (padL s.t)

set_option maxHeartbeats 1000000 in
set_option maxRecDepth 100000 in
theorem end_any (s : St) (hs : s.t < 549755813888) (w : World) (hT : Tabs w) :
    Calls Tryd.prog 62 #[.agg (vec 73 (stf s nf))] w fun e w' => e = .returned (.agg (vec 32 (bys (outB (fin s).h)))) ∧ Below w.heap.size w w' := by
  obtain ⟨W0, hW0⟩ : ∃ W0, W0 = (w.alloc (.cells (vec 73 (stf s nf)) 96)).alloc (.cells (vec 32 (bys zb)) 24) := ⟨_, rfl⟩
  have hA : Arr W0 w.heap.size 96 73 (stf s nf) := by rw [hW0]; exact (Arr.new w _ _ _).alloc _
  have hR : Arr W0 (w.heap.size + 1) 24 32 (bys zb) := by rw [hW0]; exact Arr.newAt (w.alloc (.cells (vec 73 (stf s nf)) 96)) 24 32 (bys zb) (by simp)
  have hB : Below w.heap.size w W0 := by rw [hW0]; exact ((Below.refl _ _).alloc (Nat.le_refl _) _).alloc (by simp) _
  have hsz : W0.heap.size = w.heap.size + 1 + 1 := by rw [hW0]; simp
  have hc := hA.cell (i := 72) (by decide)
  rw [stf_t] at hc
  have hlt := tab_lt hT
  have HA := Lib.hid (And.intro hA (And.intro hR (And.intro hB (And.intro hsz hlt))))
  have HT := Lib.hid (tabs_below hT hB)
  have HP := Lib.hid (pad_any s.t (by omega) W0)
  have HS := Lib.hid hs
  have HW := Lib.hid hW0
  clear hA hR hB hT hs hW0 hsz hlt
  go_enter Tryd.func62, Tryd.ntmps62
  go_upto_region 1 with fail
  rw [← HW.out]
  clear HW
  go_upto_region 2 with (first
    | (go_at_call 66; refine HP.out.mono ?_; rintro e w1 ⟨v, rfl, hv1, hv2⟩; obtain ⟨A, c, rfl, hcap, hbase, hli⟩ := owns_cap hv1
       have HV := Lib.hid (And.intro hcap (And.intro hbase (And.intro hli hv2)))
       clear hv1 hv2 hcap hbase hli hc)
    | (go_at_call 61
       refine (take_any s (padL s.t) A c w.heap.size 96 73 nf w1 (by decide) (by have := HS.out; rw [padL_length]; unfold zeros; omega) HV.out.1 (HA.out.1.under HV.out.2.2.2) HV.out.2.2.1
          (fun a ha _ => by have := HV.out.2.1 a ha; have := HA.out.2.2.2.1; omega) (tabs_below HT.out HV.out.2.2.2) (by have := HA.out.2.2.2.2; omega) (by have := HA.out.2.2.2.2; omega)).mono ?_
       rintro e w2 ⟨rfl, h1, h2⟩
       have H2 := Lib.hid (And.intro h1 h2)
       clear h1 h2))
  have hst : Arr w2 w.heap.size 96 73 (stf (fin s) nf) := H2.out.1
  have hR2 : Arr w2 (w.heap.size + 1) 24 32 (bys zb) := (HA.out.2.1.under HV.out.2.2.2).save H2.out.2 (by omega)
  have hB1 : Below w.heap.size w w1 := HA.out.2.2.1.trans (HV.out.2.2.2.mono HA.out.2.2.1.size)
  have hB2 : Below w.heap.size w w2 := hB1.trans (H2.out.2.below (Nat.le_refl _) hB1.size)
  have hli2 : Lies w2 w2.heap.size 1 (some ⟨w.heap.size, 0, none⟩) (wns (fin s).h).length (u32s (wns (fin s).h)) := by
    have := hst.lies hst.lt 0 8 (by decide)
    exact this
  have hC := putBe32_any [] (wns (fin s).h) (wns_lt _) none (some ⟨w.heap.size, 0, none⟩) 0 8 w2.heap.size w2 (Nat.le_refl _) (Lies.nil _ _ _ _) hli2 (by simp [wns])
  rw [put_out] at hC
  have HC := Lib.hid hC
  have HE := Lib.hid (And.intro hR2 hB2)
  clear hst hR2 hB1 hB2 hli2 hC HV H2 HA HP HT
  go_wp2_with (first
    | (go_at_call 59; refine HC.out.mono ?_; rintro e w3 ⟨v, rfl, hv1, hv2⟩; obtain ⟨g3, c3, rfl, hb3, hc3, hcell⟩ := owns_blk hv1 (by simp)
       have hat := arr_at g3 c3 (by simpa using hc3)
       have HV3 := Lib.hid (And.intro hcell hv2)
       clear hv1 hv2 hcell)
    | (refine wl_load_at rfl 24 _ rfl g3 0 rfl (.agg (vec 32 (bys (outB (fin s).h)))) (run_load_spl (fun i hi => by have := HV3.out.1 i (by simp [u8s, hi]); rw [this]; simp [u8s, bys]) Tryd.underlying24 rfl info26) ?_)
    | (refine wl_store rfl 24 _ _ rfl _ rfl _ rfl (run_store_arr (HE.out.1.under HV3.out.2) (bys (outB (fin s).h)) info26 (bys_one _ _)) ?_))
  refine bodyPost_ret (results_cell1 rfl _ _ _ rfl (run_load_arr ((HE.out.1.under HV3.out.2).row _) Tryd.underlying24 rfl info26)) rfl ⟨rfl, ?_⟩
  exact below_row (HE.out.2.trans (HV3.out.2.mono HE.out.2.size)) (by omega) _

/-- The sum of bytes. -/
def shaL (l : List UInt8) : Nat → UInt8 := outB (feed S0 (l ++ padL l.length)).h
set_option maxRecDepth 100000 in
theorem fin_feed (l : List UInt8) : outB (fin (feed S0 l)).h = shaL l := by
  unfold fin shaL
  rw [feed_append, feed_t]
  simp [S0]
/-- A row of parts, as a call gets them. -/
structure Parts (w : World) (A : Option Addr) (ps : List Part) : Prop where
  row : Lies w w.heap.size 1 A ps.length (ps.map partV)
  each : ∀ p ∈ ps, Lies w w.heap.size 1 p.1 p.2.2.length (u8s p.2.2)
  cap : ∀ p ∈ ps, p.2.2.length ≤ p.2.1
set_option maxRecDepth 100000 in
theorem Parts.below {w w' : World} {A : Option Addr} {ps : List Part} (h : Parts w A ps) (hb : Below w.heap.size w w') : Parts w' A ps :=
  ⟨(h.row.below hb).wide hb.size, fun p hp => ((h.each p hp).below hb).wide hb.size, h.cap⟩

set_option maxHeartbeats 1000000 in
set_option maxRecDepth 100000 in
theorem sum_any (ps : List Part) (A : Option Addr) (c : Nat) (w : World) (hP : Parts w A ps) (hn : ps.length ≤ 1000000) (htot : (catAll ps).length < 549755813888) (hT : Tabs w) :
    Calls Tryd.prog 54 #[.slice A ps.length c] w fun e w' => e = .returned (.agg (vec 32 (bys (shaL (catAll ps))))) ∧ Below w.heap.size w w' := by
  have hR0 : Arr (w.alloc (.cells (vec 32 (bys zb)) 24)) w.heap.size 24 32 (bys zb) := Arr.new w _ _ _
  have hB0 : Below w.heap.size w (w.alloc (.cells (vec 32 (bys zb)) 24)) := (Below.refl _ _).alloc (Nat.le_refl _) _
  obtain ⟨W0, hW0⟩ : ∃ W0, W0 = w.alloc (.cells (vec 32 (bys zb)) 24) := ⟨_, rfl⟩
  have hsz : W0.heap.size = w.heap.size + 1 := by rw [hW0]; simp
  rw [← hW0] at hR0 hB0
  have HI := Lib.hid (begin_any W0 (tabs_below hT hB0))
  have HA := Lib.hid (And.intro hR0 (And.intro hB0 (And.intro hsz (And.intro hP (And.intro hT htot)))))
  have HW := Lib.hid hW0
  clear hR0 hB0 hsz hW0 hP hT htot
  go_enter Tryd.func54, Tryd.ntmps54
  go_upto_region 1 with fail
  rw [← HW.out]
  clear HW
  go_upto_region 2 with (first
    | (go_at_call 60; refine HI.out.mono ?_; rintro e w1 ⟨rfl, hd⟩; have HD := Lib.hid hd; clear hd)
    | (refine wl_store rfl 96 _ _ rfl _ rfl _ rfl (run_store_arr (Arr.new w1 _ _ _) (stf S0 nf) info53 (st_one _)) ?_))
  obtain ⟨g, hg⟩ : ∃ g, g = w1.heap.size := ⟨_, rfl⟩
  obtain ⟨V, hV⟩ : ∃ V, V = (w1.alloc (.cells (vec 73 (stf SZ nf)) 96)).setRow w1.heap.size (vec 73 (stf S0 nf)) := ⟨_, rfl⟩
  have hAV : Arr V g 96 73 (stf S0 nf) := by rw [hV, hg]; exact (Arr.new w1 _ _ _).row _
  have hszV : V.heap.size = g + 1 := by rw [hV, hg]; simp
  have hgt : w.heap.size < g := by have := HA.out.2.2.1; have := HD.out.size; omega
  have hRV : Arr V w.heap.size 24 32 (bys zb) := by
    rw [hV]; exact ((HA.out.1.under HD.out).alloc _).rowFar (by omega) _
  have hB1 : Below w.heap.size w w1 := HA.out.2.1.trans (HD.out.mono HA.out.2.1.size)
  have hBV : Below w.heap.size w V := by rw [hV]; exact below_row (hB1.alloc hB1.size _) (by omega) _
  rw [← hV, ← hg]
  have hP := HA.out.2.2.2.1
  have hT := HA.out.2.2.2.2.1
  have htot := HA.out.2.2.2.2.2
  have HAV := Lib.hid (And.intro hAV (And.intro hszV (And.intro hgt (And.intro hRV hBV))))
  have HP := Lib.hid hP
  have HT := Lib.hid hT
  have HTot := Lib.hid htot
  clear hV hg hAV hszV hgt hRV hB1 hBV hP hT htot HA HI HD
  go_wp2
  go_loopw [9] (fun i W => ∃ k : Nat, k ≤ ps.length ∧ i = .int .i64 k ∧ Hid (Arr W g 96 73 (stf (feed S0 (catAll (ps.take k))) nf)) ∧ Hid (Save g V W)) (fun i _ => ps.length - (intOf i).toNat)
  case atStart => exact ⟨0, Nat.zero_le _, rfl, Lib.hid HAV.out.1, Lib.hid (Save.refl _ _)⟩
  case round =>
    obtain ⟨k, hk, rfl, hA, hsv⟩ := hrel
    have hBW : Below w.heap.size w wr := by
      have h := HAV.out
      exact h.2.2.2.2.trans (hsv.out.below (Nat.le_of_lt h.2.2.1) h.2.2.2.2.size)
    have HBW := Lib.hid hBW
    clear hBW
    by_cases hlt : k < ps.length
    · obtain ⟨a, hx, rfl, hab, hc⟩ := (HP.out.row.below HBW.out).atMap hlt
      have hmem := List.getElem_mem hlt
      have hle : (catAll (ps.take (k + 1))).length ≤ (catAll ps).length := cat_take_le ps (k + 1)
      have hs : catAll (ps.take (k + 1)) = catAll (ps.take k) ++ ps[k].2.2 := cat_succ ps k hlt
      have hli := (HP.out.each _ hmem)
      have hcp := HP.out.cap _ hmem
      obtain ⟨p, hp⟩ : ∃ p, p = ps[k] := ⟨_, rfl⟩
      rw [← hp] at hc hs hli hcp
      obtain ⟨A1, c1, l1⟩ := p
      unfold partV at hc
      simp only at hc hs hli hcp
      have hb := fun a (ha : A1 = some a) (hl : l1.length ≠ 0) => (show a.block < w.heap.size by obtain ⟨a2, h2, hb2, _⟩ := hli.2 hl; rw [ha] at h2; injection h2 with h2; rw [h2]; exact hb2)
      have HC1 := Lib.hid (And.intro hs (And.intro hle (And.intro ((hli.below HBW.out).wide HBW.out.size) (And.intro hcp hb))))
      clear hs hle hli hcp hb hp hmem
      have htk := take_any (feed S0 (catAll (ps.take k))) l1 A1 c1 g 96 73 nf wr (by decide)
        (by rw [feed_t]; have h1 := HC1.out.1; have h2 := HC1.out.2.1; rw [h1, List.length_append] at h2; have := HTot.out; simp [S0]; omega)
        HC1.out.2.2.2.1 hA.out HC1.out.2.2.1 (fun a ha hl => by have := HC1.out.2.2.2.2 a ha hl; have := HAV.out.2.2.1; omega) (tabs_below HT.out HBW.out)
        (by have := (tab_lt HT.out).1; have := HAV.out.2.2.1; omega) (by have := (tab_lt HT.out).2; have := HAV.out.2.2.1; omega)
      have HTk := Lib.hid htk
      clear htk hA
      go_wp2_with (go_at_call 61; refine HTk.out.mono ?_; rintro e w2 ⟨rfl, h1, h2⟩; have H2 := Lib.hid (And.intro h1 h2); clear h1 h2)
      go_roundw
      case rel => exact ⟨k + 1, by omega, by go_num, Lib.hid (by rw [HC1.out.1, feed_append]; exact H2.out.1), Lib.hid (hsv.out.trans H2.out.2)⟩
      case measure => simp [intOf]; omega
    · obtain rfl : k = ps.length := by omega
      rw [List.take_length] at hA
      have HE := Lib.hid (end_any (feed S0 (catAll ps)) (by rw [feed_t]; have := HTot.out; simp [S0]; omega) wr (tabs_below HT.out HBW.out))
      have HL := Lib.hid (run_load_arr (P := Tryd.prog) hA.out Tryd.underlying96 rfl info53)
      have hR : Arr wr w.heap.size 24 32 (bys zb) := HAV.out.2.2.2.1.save hsv.out (by have := HAV.out.2.2.1; omega)
      have HR := Lib.hid hR
      clear hA hR hlt hk
      go_wp2_with (first
        | (refine wl_load rfl 96 _ rfl _ rfl _ HL.out ?_)
        | (go_at_call 62; refine HE.out.mono ?_; rintro e w2 ⟨rfl, hd⟩; have HD := Lib.hid hd; clear hd)
        | (refine wl_store rfl 24 _ _ rfl _ rfl _ rfl (run_store_arr (HR.out.under HD.out) (bys (outB (fin (feed S0 (catAll ps))).h)) info26 (bys_one _ _)) ?_))
      refine bodyPost_ret (results_cell1 rfl _ _ _ rfl (run_load_arr ((HR.out.under HD.out).row _) Tryd.underlying24 rfl info26)) rfl ⟨by rw [fin_feed], ?_⟩
      exact below_row (HBW.out.trans (HD.out.mono HBW.out.size)) (Nat.le_refl _) _
end Go.Proofs.YtmhdhhdhnkoocaaDoor
