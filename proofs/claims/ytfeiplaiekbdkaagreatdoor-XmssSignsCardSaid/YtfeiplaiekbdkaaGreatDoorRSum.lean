/- portreeveref03.Cat, portreeveref03.Sum. -/
import Derived.Test.YtfeiplaiekbdkaaGreatDoorWc
import Derived.Test.YtfeiplaiekbdkaaGreatDoorRBlk
namespace Go.Proofs.YtfeiplaiekbdkaaGreatDoor
open Go.RowKit
attribute [local go_sem ↓ high] zeroV53 zeroV26 zeroV32 zeroV34

set_option maxRecDepth 100000 in
theorem mW_congr {b c : Nat → UInt8} (h : ∀ i, i < 64 → b i = c i) (j : Nat) (hj : j < 16) : mW b j = mW c j := by
  unfold mW
  rw [accN_congr 0 4 4294967296 _ _ 4 fun i hi => h (4 * j + i) (by omega)]
set_option maxRecDepth 100000 in
theorem sch_congr {m m' : Nat → W32} (h : ∀ j, j < 16 → m j = m' j) : ∀ n, sch m n = sch m' n
  | 0 => by
    funext j
    unfold sch
    by_cases hj : j < 16
    · simp [hj, h j hj]
    · simp [hj]
  | n + 1 => by rw [sch, sch, sch_congr h n]
set_option maxRecDepth 100000 in
theorem comp_congr {b c : Nat → UInt8} (h : Nat → W32) (hb : ∀ i, i < 64 → b i = c i) : comp h b = comp h c := by
  unfold comp
  rw [sch_congr (fun j hj => mW_congr hb j hj) 48]
/-- The words behind k whole blocks. -/
def rh (M : List UInt8) : Nat → Nat → W32
  | 0 => H0
  | k + 1 => comp (rh M k) fun i => M.getD (64 * k + i) 0
set_option maxRecDepth 100000 in
theorem feed_blocks (M : List UInt8) : ∀ k, 64 * k ≤ M.length → (feed S0 (M.take (64 * k))).h = rh M k
  | 0, _ => rfl
  | k + 1, hk => by
    have ih := feed_blocks M k (by omega)
    have e : M.take (64 * (k + 1)) = M.take (64 * k) ++ (M.drop (64 * k)).take 64 := by
      rw [show 64 * (k + 1) = 64 * k + 64 by omega, List.take_add]
    have hl : ((M.drop (64 * k)).take 64).length = 64 := by rw [List.length_take, List.length_drop]; omega
    have ht : (feed S0 (M.take (64 * k))).t = 64 * k := by rw [feed_t, List.length_take]; simp [S0]; omega
    rw [e, feed_append]
    obtain ⟨q, hq⟩ : ∃ q, q = feed S0 (M.take (64 * k)) := ⟨_, rfl⟩
    rw [← hq] at ih ht ⊢
    have := feed_full ((M.drop (64 * k)).take 64) q.h q.b q.t (by rw [hl, ht]; omega)
    rw [show q = ⟨q.h, q.b, q.t⟩ from rfl, this]
    show comp q.h _ = _
    rw [ih, rh]
    apply comp_congr
    intro i hi
    unfold lay
    rw [ht, if_pos (by rw [hl]; omega)]
    rw [show 64 * k % 64 = 0 by omega, Nat.sub_zero, List.getD_eq_getElem?_getD, List.getElem?_take, if_pos hi, List.getElem?_drop, List.getD_eq_getElem?_getD]
set_option maxRecDepth 100000 in
theorem rh_all (M : List UInt8) (K : Nat) (hK : M.length = 64 * K) : (feed S0 M).h = rh M K := by
  have := feed_blocks M K (by omega)
  rwa [← hK, List.take_length] at this

/-- The first n bytes of the words. -/
def partO (h : Nat → W32) (n : Nat) : Nat → UInt8 := fun j => if j < n then outB h j else 0
set_option maxRecDepth 100000 in
theorem partO_upd (h : Nat → W32) (n : Nat) : upd (partO h n) n (outB h n) = partO h (n + 1) := by
  funext j
  unfold upd partO
  by_cases e : j = n
  · subst e; simp
  · by_cases h2 : j < n
    · simp [e, h2, show j < n + 1 by omega]
    · simp [e, h2, show ¬ j < n + 1 by omega]
set_option maxRecDepth 100000 in
theorem outB_num (h : Nat → W32) (i k : Nat) (hk : k < 4) : IntKind.u8.wrap (num (h i) / 2 ^ (24 - 8 * k)) = ((outB h (4 * i + k)).toNat : Int) := by
  unfold outB num
  rw [toNat_ofNat_mod, show (4 * i + k) / 4 = i by omega, show (4 * i + k) % 4 = k by omega, IntKind.wrap_u8]
  simp

set_option maxHeartbeats 1000000 in
set_option maxRecDepth 100000 in
theorem rsum_any (b : List UInt8) (A : Option Addr) (c : Nat) (w : World) (hb : Lies w w.heap.size 1 A b.length (u8s b)) (hlen : b.length ≤ 549755813888) :
    Calls Tryz.prog 72 #[.slice A b.length c] w fun e w' => e = .returned (.agg (vec 32 (bys (shaL b)))) ∧ Below w.heap.size w w' := by
  obtain ⟨i0, hi, hz0, hz1, hz2⟩ := info_parts u8_info
  have Hi := Lib.hid (And.intro hi (And.intro hz0 (And.intro hz1 hz2)))
  have hR0 : Arr (w.alloc (.cells (vec 32 (bys zb)) 30)) w.heap.size 30 32 (bys zb) := Arr.new w _ _ _
  have hB0 : Below w.heap.size w (w.alloc (.cells (vec 32 (bys zb)) 30)) := (Below.refl _ _).alloc (Nat.le_refl _) _
  obtain ⟨W0, hW0⟩ : ∃ W0, W0 = w.alloc (.cells (vec 32 (bys zb)) 30) := ⟨_, rfl⟩
  have hsz : W0.heap.size = w.heap.size + 1 := by rw [hW0]; simp
  rw [← hW0] at hR0 hB0
  have hb1 : Lies W0 W0.heap.size 1 A b.length (u8s b) := (hb.below hB0).wide (by omega)
  have HA := Lib.hid (And.intro hR0 (And.intro hB0 (And.intro hsz (And.intro hb1 hlen))))
  have HW := Lib.hid hW0
  have hlp : (padL b.length).length ≤ 72 := by rw [padL_length]; unfold zeros; omega
  have HLP := Lib.hid hlp
  have e64 : IntKind.u64.wrap (b.length : Int) = (b.length : Int) := by rw [IntKind.wrap_u64]; omega
  have hpb := fun W => pad_any b.length (by omega) W
  have HPb := Lib.hid hpb
  clear hR0 hB0 hsz hW0 hb hb1 hi hz0 hz1 hz2 hlp hpb
  go_enter Tryz.func72, Tryz.ntmps72
  go_upto_region 1 with fail
  rw [← HW.out]
  clear HW
  obtain ⟨hi0, hz0, hz1, hz2⟩ := Hi.out
  go_upto_region 2 with (first
    | (go_at_call 103; fail)
    | (go_at_call 96; refine (rpad_any b.length (by have := HA.out.2.2.2.2; omega) _).mono ?_; rintro e w2 ⟨v2, rfl, hv1, hv2⟩
       obtain ⟨A2, c2, rfl, hcap2, hbase2, hli2⟩ := owns_cap hv1
       have HV2 := Lib.hid (And.intro hli2 hv2)
       clear hv1 hv2 hcap2 hbase2 hli2)
    | (at_builtin; refine wpList_app rfl (.const (.slice none 0 0)) (.tmp 8) 22 rfl W0.heap.size 5 i0 (.int .u8 0) 1 Tryz.underlying22 hi0 hz0 hz1 hz2 rfl (.slice none 0 0) 0 [] rfl (World.ownsRow_nil _ _ _ _) _ _ _ _ (u8s b) rfl HA.out.2.2.2.1 (u8s_one _) (by have := HA.out.2.2.2.2; unfold maxLen; omega) (by have := HA.out.2.2.2.2; omega) (Nat.le_refl _) ?_; intro v1 w1 h1 h2 h3
       have H1 := Lib.hid (And.intro h1 (And.intro h2 h3))
       clear h1 h2 h3)
    | (at_builtin; refine wpList_app rfl (.tmp 9) (.tmp 13) 22 rfl W0.heap.size 5 i0 (.int .u8 0) 1 Tryz.underlying22 hi0 hz0 hz1 hz2 rfl v1 (0 + b.length) (u8s b) rfl (owns_below H1.out.1 HV2.out.2) _ _ _ _ (u8s (padL b.length)) rfl HV2.out.1 (u8s_one _) (by have := HA.out.2.2.2.2; have := HLP.out; unfold maxLen; omega) (by have := HA.out.2.2.2.2; have := HLP.out; omega) (by have := H1.out.2.1.size; have := HV2.out.2.size; omega) ?_; intro v3 w3 h1 h2 h3
       have H3 := Lib.hid (And.intro h1 (And.intro h2 h3))
       clear h1 h2 h3))
  obtain ⟨M, hM⟩ : ∃ M, M = b ++ padL b.length := ⟨_, rfl⟩
  have hMl : M.length = b.length + (padL b.length).length := by rw [hM, List.length_append]
  have hMw := padL_whole b.length
  obtain ⟨K, hK⟩ : ∃ K, K = M.length / 64 := ⟨_, rfl⟩
  have hMK : M.length = 64 * K := by omega
  have hsum : outB (rh M K) = shaL b := by unfold shaL; rw [← hM, rh_all M K hMK]
  have hown3 : w3.ownsRow W0.heap.size 5 1 v3 M.length (u8s M) := by
    have := H3.out.1
    rw [u8s_append, ← hM, Nat.zero_add, ← hMl] at this
    exact this
  have hb01 : Below W0.heap.size W0 w1 := (Below.refl _ _).grown H1.out.2.1 (Nat.le_refl _) (by simp [Value.ownBlock])
  have hb02 : Below W0.heap.size W0 w2 := hb01.trans (HV2.out.2.mono hb01.size)
  have hb03 : Below W0.heap.size W0 w3 := hb02.grown H3.out.2.1 hb02.size (fun g hg => ((owns_below H1.out.1 HV2.out.2).lt g hg).1)
  have hKpos : 0 < K := by have := padL_length b.length; omega
  obtain ⟨gm, c3, rfl, hgm, hc3, hcell⟩ := owns_blk hown3 (by omega)
  have hgm3 : gm < w3.heap.size := World.block_lt_of_cell? w3 ⟨gm, 0 + 0, none⟩ (hcell 0 (by simp [u8s]; omega))
  have hby : ∀ j, j < M.length → w3.cell? ⟨gm, j, none⟩ = some (.int .u8 ((M.getD j 0).toNat : Int)) := fun j hj => by
    have := hcell j (by simpa [u8s] using hj)
    rw [Nat.zero_add] at this
    rw [this, List.getD_eq_getElem?_getD, List.getElem?_eq_getElem hj]
    simp [u8s]
  have HM := Lib.hid (And.intro hMK (And.intro hsum (And.intro hc3 (And.intro hby (And.intro hgm3 (And.intro hgm hb03))))))
  have HI := Lib.hid (rinit_any w3)
  clear hM hMl hMw hK hMK hsum hown3 hb01 hb02 hb03 hKpos hc3 hcell hgm3 hgm hby H1 HV2 H3 e64 HPb
  go_upto_region 3 with (first
    | (go_at_call 97; refine HI.out.mono ?_; rintro e w4 ⟨rfl, hd⟩; have HD := Lib.hid hd; clear hd)
    | (refine wl_store rfl 129 _ _ rfl _ rfl _ rfl (run_store_arr (Arr.new w4 _ _ _) (wds H0) info34 (wds_one _ _)) ?_))
  obtain ⟨g4, hg4⟩ : ∃ g4, g4 = w4.heap.size := ⟨_, rfl⟩
  obtain ⟨V, hV⟩ : ∃ V, V = (w4.alloc (.cells (vec 8 (wds zw)) 129)).setRow w4.heap.size (vec 8 (wds H0)) := ⟨_, rfl⟩
  have hAV : Arr V g4 129 8 (wds H0) := by rw [hV, hg4]; exact (Arr.new w4 _ _ _).row _
  obtain ⟨hMK, hsum, hc3, hby, hgm3, hgm, hb03⟩ := HM.out
  have hb4 : Below W0.heap.size W0 w4 := hb03.trans (HD.out.mono hb03.size)
  have hgm4 : gm < g4 := by have := HD.out.size; omega
  have hg04 : w.heap.size < g4 := by have := HA.out.2.2.1; have := hb4.size; omega
  have hbV : Below W0.heap.size W0 V := by rw [hV]; exact below_row (hb4.alloc hb4.size _) hb4.size _
  have hbyV : ∀ j, j < M.length → V.cell? ⟨gm, j, none⟩ = some (.int .u8 ((M.getD j 0).toNat : Int)) := fun j hj => by
    have h1 : w4.cell? ⟨gm, j, none⟩ = _ := (HD.out.cell (show (⟨gm, j, none⟩ : Addr).block < w3.heap.size from hgm3)).trans (hby j hj)
    rw [← h1, hV, cell_setRow_other _ _ _ _ (show gm ≠ w4.heap.size by omega)]
    exact World.cell?_alloc_lt w4 _ _ (by show gm < w4.heap.size; omega)
  have hRV : Arr V w.heap.size 30 32 (bys zb) := HA.out.1.under hbV
  have hBV : Below w.heap.size w V := HA.out.2.1.trans (hbV.mono (by have := HA.out.2.2.1; omega))
  have hszV : V.heap.size = g4 + 1 := by rw [hV, hg4]; simp
  have hlw : w.heap.size < V.heap.size := by omega
  rw [← hV, ← hg4]
  have HMK := Lib.hid hMK
  have HSum := Lib.hid hsum
  have HV := Lib.hid (And.intro hAV (And.intro hRV (And.intro hBV (And.intro hgm4 (And.intro hg04 hszV)))))
  have HBy := Lib.hid hbyV
  have HC3 := Lib.hid hc3
  clear hV hg4 hAV hMK hsum hc3 hby hgm3 hgm hb03 hb4 hgm4 hg04 hbV hbyV hRV hBV hszV hlw HM HI HD HA
  simp only [Act.put]
  go_wp2_with fail
  go_loopw [3] (fun u W => ∃ (k : Nat) (A' : Option Addr) (c' : Nat), k ≤ K ∧ u = .slice A' (M.length - 64 * k) c' ∧ M.length - 64 * k ≤ c' ∧ Hid (k < K → A' = some ⟨gm, 64 * k, none⟩) ∧ Hid (Arr W g4 129 8 (wds (rh M k))) ∧ Hid (Save g4 V W)) (fun u _ => match u with | .slice _ m _ => m | _ => 0)
  case atStart => exact ⟨0, some ⟨gm, 0, none⟩, c3, Nat.zero_le _, rfl, HC3.out, Lib.hid fun _ => rfl, Lib.hid HV.out.1, Lib.hid (Save.refl _ _)⟩
  case round =>
    obtain ⟨k, A', c', hk, rfl, hc', hA', hA, hsv⟩ := hrel
    have hMK := HMK.out
    by_cases hlt : k < K
    · obtain rfl := hA'.out hlt
      obtain ⟨n, hn⟩ : ∃ n, n = M.length - 64 * k := ⟨_, rfl⟩
      have hn64 : 64 ≤ n := by omega
      have hnc : n ≤ c' := by omega
      rw [← hn]
      have hp0 : (0 : Int) < (n : Int) := by omega
      have hp1 : (64 : Int) ≤ (n : Int) := by omega
      have hp2 : (64 : Int) ≤ (c' : Int) := by omega
      have hli : Lies wr wr.heap.size 1 (some ⟨gm, 64 * k, none⟩) 64 (u8s (l64 fun i => M.getD (64 * k + i) 0)) := by
        refine ⟨by simp [u8s, l64], fun _ => ⟨_, rfl, ?_, fun j hj => ?_⟩⟩
        · show gm < wr.heap.size
          have := HV.out.2.2.2.1; have := hsv.out.size; have := HV.out.2.2.2.2.2; omega
        · simp [u8s, l64] at hj
          have e : ((⟨gm, 64 * k, none⟩ : Addr).add j) = ⟨gm, 64 * k + j, none⟩ := by unfold Addr.add; by_cases h0 : j = 0 <;> simp [h0]
          rw [e, hsv.out.cell (p := ⟨gm, 64 * k + j, none⟩) (by show gm < V.heap.size; have := HV.out.2.2.2.1; have := HV.out.2.2.2.2.2; omega) (by show gm ≠ g4; have := HV.out.2.2.2.1; omega), HBy.out (64 * k + j) (by omega)]
          simp [u8s, l64]
      have HRB := Lib.hid (rblock_any (rh M k) (fun i => M.getD (64 * k + i) 0) (some ⟨gm, 64 * k, none⟩) c' wr.drew hli)
      have HLd := Lib.hid (run_load_arr (P := Tryz.prog) (hA.out.drewN 1) Tryz.underlying129 rfl info34)
      have HN := Lib.hid (And.intro hn (And.intro hn64 (And.intro hnc (And.intro hMK hlt))))
      clear hn hli hMK hn64 hnc
      go_wp2_with fail
      refine wp_region_held_drew (S := fun Y => True) (by kernel_rfl) trivial (fun hS => ?_)
      (refine held_take (i := 1) (oi := ?ot1) (v := ?vt1) ?at1 (by kernel_rfl) (by kernel_rfl) (by kernel_rfl) ?bt1 ?ct1 ?dt1 (by assumption) ?rt1; (case at1 => (simp only [List.getElem?_toArray, List.getElem?_cons_zero, List.getElem?_cons_succ]; rfl)); (case bt1 => exact fun _ _ _ h => h); (case ct1 => kernel_rfl); (case dt1 => (intro W hW; (try dsimp only at hW); go_split_ands; go_simp; (try with_reducible rfl))); (case' rt1 => simp only [Act.put, List.setIfInBounds_toArray, List.set_cons_zero, List.set_cons_succ]))
      (refine held_take (i := 2) (oi := ?ot2) (v := ?vt2) ?at2 (by kernel_rfl) (by kernel_rfl) (by kernel_rfl) ?bt2 ?ct2 ?dt2 (by assumption) ?rt2; (case at2 => (simp only [List.getElem?_toArray, List.getElem?_cons_zero, List.getElem?_cons_succ]; rfl)); (case bt2 => exact fun _ _ _ h => h); (case ct2 => kernel_rfl); (case dt2 => (intro W hW; (try dsimp only at hW); go_split_ands; go_simp; (try with_reducible rfl))); (case' rt2 => simp only [Act.put, List.setIfInBounds_toArray, List.set_cons_zero, List.set_cons_succ]))
      refine held_one (i := 0) (oi := ?ot3) (by kernel_rfl) ?at3 ?ct3 (fun K0 hK0 => ?_)
      (case at3 => (simp only [List.getElem?_toArray, List.getElem?_cons_zero]; rfl))
      (case ct3 => kernel_rfl)
      refine ow_load 129 _ rfl _ _ rfl _ HLd.out ?_
      refine hK0 _ _ hS (fun hS0 => ?_)
      clear hS hK0 K0
      refine held_one (i := 3) (oi := ?ot4) (by kernel_rfl) ?at4 ?ct4 (fun K3 hK3 => ?_)
      (case at4 => (simp only [List.getElem?_toArray, List.getElem?_cons_zero, List.getElem?_cons_succ]; rfl))
      (case ct4 => kernel_rfl)
      go_simp
      refine HRB.out.mono ?_
      rintro e w6 ⟨rfl, hd⟩
      have HD6 := Lib.hid hd
      refine hK3 _ _ hS0 (fun hS3 => ?_)
      clear hS0 hd hK3 K3
      refine held_one (i := 4) (oi := ?ot5) (by kernel_rfl) ?at5 ?ct5 (fun K4 hK4 => ?_)
      (case at5 => (simp only [List.getElem?_toArray, List.getElem?_cons_zero, List.getElem?_cons_succ]; rfl))
      (case ct5 => kernel_rfl)
      refine ow_store _ _ _ rfl _ rfl _ rfl (run_store_arr ((hA.out.drewN 1).under HD6.out) (wds (rh M (k + 1))) info34 (wds_one _ _)) ?_
      refine hK4 _ _ hS3 (fun hS4 => ?_)
      clear hS3 hK4 K4
      refine wpAnyH_done (by kernel_rfl) ?_ _
      clear hS4
      go_wp2_with fail
      go_roundw
      case rel =>
        obtain ⟨hn, hn64, hnc, hMK, hlt⟩ := HN.out
        refine ⟨k + 1, _, c' - 64, by omega, by rw [show M.length - 64 * (k + 1) = n - 64 by omega], by omega, Lib.hid fun hk1 => ?_, Lib.hid (((hA.out.drewN 1).under HD6.out).row _), Lib.hid (((hsv.out.drewN 1).trans (Save.of_below HD6.out)).setRow _)⟩
        rw [if_neg (by omega), show 64 * (k + 1) = 64 * k + 64 by omega]
      case measure => have := HN.out; show n - 64 < n; omega
    · obtain rfl : k = K := by omega
      have hno : ¬ (0 : Int) < ((M.length - 64 * k : Nat) : Int) := by omega
      obtain ⟨z, hz⟩ : ∃ z, z = M.length - 64 * k := ⟨_, rfl⟩
      rw [← hz] at hno
      rw [← hz]
      have hBW : Below w.heap.size w wr := HV.out.2.2.1.trans (hsv.out.below (Nat.le_of_lt HV.out.2.2.2.2.1) HV.out.2.2.1.size)
      have hRW : Arr wr w.heap.size 30 32 (bys zb) := HV.out.2.1.save hsv.out (by have := HV.out.2.2.2.2.1; omega)
      obtain ⟨h, hh⟩ : ∃ h, h = rh M k := ⟨_, rfl⟩
      have hA1 := hA.out
      rw [← hh] at hA1
      obtain ⟨g5, hg5⟩ : ∃ g5, g5 = wr.heap.size := ⟨_, rfl⟩
      obtain ⟨U, hU⟩ : ∃ U, U = wr.alloc (.cells (vec 32 (bys zb)) 30) := ⟨_, rfl⟩
      have hlt4 : g4 < g5 := by rw [hg5]; exact hA1.lt
      have hlt0 : w.heap.size < g5 := by rw [hg5]; exact hRW.lt
      have HU : Hid (Arr U g4 129 8 (wds h) ∧ Arr U w.heap.size 30 32 (bys zb) ∧ Arr U g5 30 32 (bys (partO h 0)) ∧ Below w.heap.size w U) := by
        refine Lib.hid ⟨by rw [hU]; exact hA1.alloc _, by rw [hU]; exact hRW.alloc _, ?_, by rw [hU]; exact hBW.alloc hBW.size _⟩
        rw [hU]; exact (Arr.newAt wr 30 32 (bys zb) hg5).congr (fun i _ => by simp [bys, partO, zb])
      have HH := Lib.hid hh
      have HW5 := Lib.hid (And.intro hg5 hU)
      clear hz hBW hRW hh hA1 hg5 hU hA hA' hsv hlt hk hc' hMK
      go_wp2_with fail
      rw [← HW5.out.1, ← HW5.out.2]
      clear HW5
      go_loopw [6] (fun u W => ∃ i : Nat, i ≤ 8 ∧ u = .int .i64 i ∧ Arr W g4 129 8 (wds h) ∧ Arr W w.heap.size 30 32 (bys zb) ∧ Arr W g5 30 32 (bys (partO h (4 * i))) ∧ Below w.heap.size w W) (fun i _ => 8 - (intOf i).toNat)
      case atStart => exact ⟨0, by decide, rfl, HU.out⟩
      case round =>
        obtain ⟨i, hi, rfl, hA, hR, hO, hB⟩ := hrel
        clear HU
        by_cases hlt : i < 8
        · have hi8 : (i : Int) < 8 := by omega
          have HI2 : Hid (Arr wr g4 129 8 (wds h) ∧ Arr wr w.heap.size 30 32 (bys zb) ∧ Arr wr g5 30 32 (bys (partO h (4 * i + 0))) ∧ Below w.heap.size w wr) := Lib.hid ⟨hA, hR, hO, hB⟩
          clear hA hR hO hB hi
          go_wp2
          obtain ⟨Wo, rfl⟩ : ∃ Wo : World, Wo = wr := ⟨_, rfl⟩
          go_loopw [7] (fun u W => ∃ k : Nat, k ≤ 4 ∧ u = .int .i64 k ∧ Arr W g4 129 8 (wds h) ∧ Arr W w.heap.size 30 32 (bys zb) ∧ Arr W g5 30 32 (bys (partO h (4 * i + k))) ∧ Below w.heap.size w W) (fun i _ => 4 - (intOf i).toNat)
          case atStart => exact ⟨0, by decide, rfl, HI2.out⟩
          case round =>
            obtain ⟨k, hk, rfl, hA, hR, hO, hB⟩ := hrel
            clear HI2
            by_cases hlt2 : k < 4
            · have hc : wr.cell? ⟨g4, i, none⟩ = some (.int .u32 (num (h i))) := hA.cell hlt
              have hc2 := hO.cell (i := 4 * i + k) (by omega)
              have hf2 := hO.frozen (4 * i + k)
              obtain ⟨sh, hsh⟩ : ∃ sh, sh = 24 - 8 * k := ⟨_, rfl⟩
              obtain ⟨o, ho⟩ : ∃ o, o = 4 * i + k := ⟨_, rfl⟩
              have hsh32 : sh ≤ 32 := by omega
              have e5 : IntKind.u8.wrap (num (h i) / 2 ^ min sh 32) = ((outB h o).toNat : Int) := by
                rw [Nat.min_eq_left hsh32, hsh, ho]; exact outB_num h i k hlt2
              have e6 : (24 : Int) - 8 * (k : Int) = (sh : Int) := by omega
              have e7 : 4 * (i : Int) + (k : Int) = (o : Int) := by omega
              have ho32 : (o : Int) < 32 := by omega
              rw [← ho] at hc2 hf2 hO
              have e9 : num (h i) / 2 ^ sh % 256 = ((outB h o).toNat : Int) := by rw [← e5, IntKind.wrap_u8, Nat.min_eq_left hsh32]
              have HAl := Lib.hid (And.intro hA (And.intro hR (And.intro hO (And.intro hB (And.intro ho e9)))))
              clear hA hR hO hB hsh ho hk e9
              go_wp2
              go_roundw
              case rel =>
                obtain ⟨hA, hR, hO, hB, ho, e9⟩ := HAl.out
                have hO2 := hO.set o (.int .u8 ((outB h o).toNat : Int))
                rw [bys_upd, partO_upd, ← e9] at hO2
                refine ⟨k + 1, by omega, by go_num, hA.far (p := ⟨g5, o, none⟩) (show g4 ≠ g5 by omega) _, hR.far (p := ⟨g5, o, none⟩) (show w.heap.size ≠ g5 by omega) _, ?_, hB.setCell (show w.heap.size ≤ g5 by omega) _⟩
                rw [show 4 * i + (k + 1) = o + 1 by omega]; exact hO2
              case measure => simp [intOf]; omega
            · obtain rfl : k = 4 := by omega
              have HI2 := Lib.hid (And.intro hA (And.intro hR (And.intro hO hB)))
              clear hA hR hO hB hk
              go_wp2
              go_roundw
              case rel => exact ⟨i + 1, by omega, by go_num, HI2.out⟩
              case measure => simp [intOf]; omega
        · obtain rfl : i = 8 := by omega
          have hO2 : Arr wr g5 30 32 (bys (shaL b)) := hO.congr (fun j hj => by
            rw [← HSum.out, ← HH.out]
            simp [bys, partO, hj])
          have HL := Lib.hid (run_load_arr (P := Tryz.prog) hO2 Tryz.underlying30 rfl info26)
          have HW6 := Lib.hid (run_store_arr (P := Tryz.prog) hR (bys (shaL b)) info26 (bys_one _ _))
          have HR2 := Lib.hid (run_load_arr (P := Tryz.prog) (hR.row (bys (shaL b))) Tryz.underlying30 rfl info26)
          have HB := Lib.hid (below_row hB (Nat.le_refl _) (vec 32 (bys (shaL b))))
          clear hA hR hO hB hO2 hlt hi
          go_wp2_with (first
            | (refine wl_load rfl 30 _ rfl _ rfl _ HL.out ?_)
            | (refine wl_store rfl 30 _ _ rfl _ rfl _ rfl HW6.out ?_))
          exact bodyPost_ret (results_cell1 rfl _ _ _ rfl HR2.out) rfl ⟨rfl, HB.out⟩
end Go.Proofs.YtfeiplaiekbdkaaGreatDoor
