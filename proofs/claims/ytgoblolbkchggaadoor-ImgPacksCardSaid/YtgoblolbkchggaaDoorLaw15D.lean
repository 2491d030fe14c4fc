/- The law ImgPacks: what is packed is split as it was. -/
import Derived.Test.YtgoblolbkchggaaDoorLw15
namespace Go.Proofs.YtgoblolbkchggaaDoor
open Go.RowKit
attribute [local go_sem ↓ high] zeroHd

theorem split_err {b : By} {oid e : Nat} (h : splitP b oid = .error e) : e ≠ 0 := by
  by_cases h1 : isO oid = false
  · rw [split_no h1] at h; cases h; decide
  have h1 : isO oid = true := by simpa using h1
  by_cases h2 : b.length < 64 + sigN oid
  · rw [split_len h1 h2] at h; cases h; decide
  rw [split_is h1 h2] at h
  by_cases h3 : isH (b.take 64) = true
  · rw [if_pos h3] at h
    split at h
    · cases h
    · cases h; decide
  · rw [if_neg h3] at h; cases h; decide
theorem strOf_app (a b : By) : strOf a ++ strOf b = strOf (a ++ b) := by
  apply ByteArray.ext
  show (ByteArray.append (strOf a) (strOf b)).data = _
  rw [ByteArray.append_eq, ByteArray.data_append]
  simp [strOf]
/-- Split tells the parts, or it fails. -/
theorem pack_split (h : Hd) (hb : HdB h) (sig pay : By) (oid : Nat) (hn : nameOk h.name = true) (hs : h.size = (pay.length : Int)) :
    (isO oid = true ∧ sig.length = sigN oid ∧ splitP (layH h ++ sig ++ pay) oid = .ok (h, layH h, sig, pay)) ∨ ((isO oid = false ∨ sig.length ≠ sigN oid) ∧ ∃ e, e ≠ 0 ∧ splitP (layH h ++ sig ++ pay) oid = .error e) := by
  have hp : packP h sig pay = some (layH h ++ sig ++ pay) := by unfold packP; rw [if_pos ⟨hn, hs⟩]
  by_cases ho : isO oid = true
  · by_cases hl : sig.length = sigN oid
    · exact Or.inl ⟨ho, hl, split_pack hb hp ho hl⟩
    · obtain ⟨e, he⟩ := split_off (oid := oid) hb hp (Or.inr hl)
      exact Or.inr ⟨Or.inr hl, e, split_err he, he⟩
  · obtain ⟨e, he⟩ := split_off (oid := oid) hb hp (Or.inl (by simpa using ho))
    exact Or.inr ⟨Or.inl (by simpa using ho), e, split_err he, he⟩
theorem sigN_1 : sigN 1 = 2500 := rfl
theorem sigN_2 : sigN 2 = 2692 := rfl
theorem sigN_3 : sigN 3 = 2820 := rfl
set_option maxHeartbeats 2000000 in
set_option maxRecDepth 100000 in
theorem imgPacks_walk (h : Hd) (A1 : Option Addr) (c1 : Nat) (sig : By) (A2 : Option Addr) (c2 : Nat) (pay : By) (oid : Nat) (w : World) (hb : HdB h) (_hc1 : sig.length ≤ c1) (l1 : Lies w w.heap.size 1 A1 sig.length (u8s sig)) (_hc2 : pay.length ≤ c2) (l2 : Lies w w.heap.size 1 A2 pay.length (u8s pay)) (ho : oid < 4294967296) :
    Calls Tryd.prog 6 #[.agg (vec 35 (hdF h)), .slice A1 sig.length c1, .slice A2 pay.length c2, .int .u32 (oid : Int)] w fun e w' => e = .returned (.bool true) ∧ Below w.heap.size w w' := by
  obtain ⟨q, hq⟩ : ∃ q, q = w.heap.size := ⟨_, rfl⟩
  obtain ⟨V0, hV0⟩ : ∃ V, V = w.alloc (.cells (vec 35 (hdF h)) 26) := ⟨_, rfl⟩
  have k0 : Arr V0 q 26 35 (hdF h) := by rw [hV0, hq]; exact Arr.new w _ _ _
  have hB : Below w.heap.size w V0 := by rw [hV0]; exact (Below.refl _ _).alloc (Nat.le_refl _) _
  obtain ⟨S0, hS0, hsz⟩ := strS h.name
  have k2 : V0.cell? ⟨q, 2, none⟩ = some (.string S0) := by rw [hS0]; exact k0.cell (i := 2) (by decide)
  obtain ⟨NN, hNN⟩ : ∃ n, n = h.name.length := ⟨_, rfl⟩
  rw [← hNN] at hsz
  have k1 : V0.cell? ⟨q, 1, none⟩ = some (.int .u32 h.size) := k0.cell (i := 1) (by decide)
  obtain ⟨N1, hN1⟩ : ∃ n, n = sig.length := ⟨_, rfl⟩
  obtain ⟨N2, hN2⟩ : ∃ n, n = pay.length := ⟨_, rfl⟩
  have HPK : Hid (NN ≤ 200 → N1 ≤ 3000 → N2 ≤ 2000 → ∀ W, Below w.heap.size w W → Calls Tryd.prog 14 #[.agg (vec 35 (hdF h)), .slice A1 N1 c1, .slice A2 N2 c2] W (BytesE (oL (packP h sig pay)) (oL (packP h sig pay)).length (oE (packP h sig pay)) W)) := Lib.hid (fun q1 q2 q3 W hW => by
    rw [hN1, hN2]
    exact (pack_any h hb (by omega) sig pay A1 A2 c1 c2 (by omega) (by omega) W ((l1.below hW).wide hW.size) ((l2.below hW).wide hW.size)).mono fun e w' => OptP.gen)
  have HRP : Hid (NN ≤ 200 → ∀ W, Calls Tryd.prog 9 #[.agg (vec 35 (hdF h))] W (BytesE (oL (putP h)) (oL (putP h)).length (oE (putP h)) W)) := Lib.hid (fun hn W => (rput_h h hb (by omega) W).mono fun e w' => OptP.gen)
  have HLS : Hid (∀ W, Below w.heap.size w W → Lies W W.heap.size 1 A1 N1 (u8s sig) ∧ Lies W W.heap.size 1 A2 N2 (u8s pay)) := Lib.hid (fun W hW => by rw [hN1, hN2]; exact ⟨(l1.below hW).wide hW.size, (l2.below hW).wide hW.size⟩)
  obtain ⟨z, hz⟩ : ∃ z, z = h.size := ⟨_, rfl⟩
  have hzb := hb.size
  rw [← hz] at k1 hzb
  have wz : IntKind.u64.wrap z = z := by rw [IntKind.wrap_u64]; omega
  have H0 := Lib.hid (And.intro k0 (And.intro hB (And.intro k2 k1)))
  have HW := Lib.hid hV0
  have HQ := Lib.hid hq
  have HB := Lib.hid hb
  rw [← hN1, ← hN2]
  have HN12 := Lib.hid (And.intro hN1 hN2)
  clear hV0 k0 hB l1 l2 hq hb hS0 hNN hN1 hN2 k1 k2
  by_cases hgood : nameOk h.name = true ∧ h.size = (pay.length : Int)
  · obtain ⟨hn, hs⟩ := hgood
    have hp : packP h sig pay = some (layH h ++ sig ++ pay) := by unfold packP; rw [if_pos ⟨hn, hs⟩]
    have hpt : putP h = some (layH h) := by unfold putP; rw [if_pos hn]
    have hps := pack_split h HB.out sig pay oid hn hs
    rw [hp] at HPK
    rw [hpt] at HRP
    unfold oL oE at HPK HRP
    simp only [Option.getD_some] at HPK HRP
    unfold BytesE at HPK HRP
    obtain ⟨L, hL⟩ : ∃ x, x = layH h := ⟨_, rfl⟩
    rw [← hL] at HPK HRP hps
    obtain ⟨PB, hPB⟩ : ∃ x, x = L ++ sig ++ pay := ⟨_, rfl⟩
    rw [← hPB] at HPK hps
    obtain ⟨PN, hPN⟩ : ∃ x, x = PB.length := ⟨_, rfl⟩
    obtain ⟨LN, hLN⟩ : ∃ x, x = L.length := ⟨_, rfl⟩
    have hPNb : NN ≤ 200 → N1 ≤ 3000 → N2 ≤ 2000 → PB.length ≤ 1000000 := fun _ q2 q3 => by
      have e1 : L.length = 64 := by rw [hL]; exact layH_len HB.out hn
      rw [hPB, List.length_append, List.length_append, e1]
      have := HN12.out.1
      have := HN12.out.2
      omega
    have HSPL : Hid (NN ≤ 200 → N1 ≤ 3000 → N2 ≤ 2000 → ∀ W A' c', PN ≤ c' → Lies W W.heap.size 1 A' PN (u8s PB) → Calls Tryd.prog 12 #[.slice A' PN c', .int .u32 (oid : Int)] W (PartsE (sH (splitP PB oid)) (s1 (splitP PB oid)) (s2 (splitP PB oid)) (s3 (splitP PB oid)) (s1 (splitP PB oid)).length (s2 (splitP PB oid)).length (s3 (splitP PB oid)).length (sE (splitP PB oid)) W)) := Lib.hid (fun q1 q2 q3 W A' c' q4 q5 => by
      rw [hPN] at q4 q5 ⊢
      exact (split_any PB A' c' q4 (hPNb q1 q2 q3) oid ho W q5).mono fun e w' => SpP.gen)
    obtain ⟨SB, hSB⟩ : ∃ S, S = strOf PB := ⟨_, rfl⟩
    obtain ⟨Sh, hSh⟩ : ∃ S, S = strOf L := ⟨_, rfl⟩
    obtain ⟨Ss, hSs⟩ : ∃ S, S = strOf sig := ⟨_, rfl⟩
    obtain ⟨Sp, hSp⟩ : ∃ S, S = strOf pay := ⟨_, rfl⟩
    have hcat : Sh ++ Ss ++ Sp = SB := by rw [hSh, hSs, hSp, strOf_app, strOf_app, hSB, hPB]
    have hz1 : Sh.size = 64 := by rw [hSh, strOf_size, hL]; exact layH_len HB.out hn
    have hz2 : Ss.size = N1 := by rw [hSs, strOf_size]; exact HN12.out.1.symm
    have hz3 : Sp.size = N2 := by rw [hSp, strOf_size]; exact HN12.out.2.symm
    have HSZ := Lib.hid (And.intro hz1 (And.intro hz2 hz3))
    clear hz1 hz2 hz3
    have HST := Lib.hid (And.intro hSB (And.intro hSh (And.intro hSs hSp)))
    have HCAT := Lib.hid hcat
    rw [← hPN] at HPK
    rw [← hLN] at HRP
    have hzN : z = (N2 : Int) := by rw [hz, HN12.out.2]; exact hs
    have HL := Lib.hid (And.intro hL hLN)
    have HNS : Hid (N1 = sig.length) := Lib.hid HN12.out.1
    clear hp hpt hn hs hPB hPN hSB hSh hSs hSp hcat hPNb hL hLN hz
    subst hzN
    go_enter Tryd.func6, Tryd.ntmps6
    go_upto_region 1 with fail
    rw [← HW.out, ← HQ.out]
    clear HW
    go_upto_region 3 with (go_at_call 7; refine (awake_any _).mono ?_; rintro e0 V ⟨rfl, hd⟩; have HAW := Lib.hid hd; clear hd)
    have HV : Hid (Below w.heap.size w V) := Lib.hid (H0.out.2.1.trans (HAW.out.mono H0.out.2.1.size))
    have HA := Lib.hid (H0.out.1.under HAW.out)
    have c2' : V.cell? ⟨q, 2, none⟩ = some (.string S0) := (HAW.out.cell (World.block_lt_of_cell? V0 _ H0.out.2.2.1)).trans H0.out.2.2.1
    have HZ : Hid (V.cell? ⟨q, 1, none⟩ = some (.int .u32 (N2 : Int))) := Lib.hid ((HAW.out.cell (World.block_lt_of_cell? V0 _ H0.out.2.2.2)).trans H0.out.2.2.2)
    clear H0 HAW
    by_cases t1 : (200 : Int) < (NN : Int)
    · clear HPK HRP HSPL HCAT hps
      go_wp2_with fail
      go_ret
      exact ⟨rfl, HV.out⟩
    by_cases t2 : (3000 : Int) < (N1 : Int)
    · clear HPK HRP HSPL HCAT hps
      go_wp2_with fail
      go_ret
      exact ⟨rfl, HV.out⟩
    by_cases t3 : (2000 : Int) < (N2 : Int)
    · clear HPK HRP HSPL HCAT hps
      go_wp2_with fail
      go_ret
      exact ⟨rfl, HV.out⟩
    have HPK := Lib.hid (HPK.out (by omega) (by omega) (by omega))
    have HRP := Lib.hid (HRP.out (by omega))
    have HSPL := Lib.hid (HSPL.out (by omega) (by omega) (by omega))
    go_upto_region 5 with fail
    have hb1 : N1 ≤ 3000 := by omega
    have hb2 : N2 ≤ 2000 := by omega
    have wN : IntKind.u64.wrap (N2 : Int) = (N2 : Int) := by rw [IntKind.wrap_u64]; omega
    clear t1 t2 t3 c2' hsz
    go_upto_region 6 with (first
      | ((with_reducible show wpList _ _ _ (Oper.mk (some 36) (.load _ _) _ _ _ _ :: _) _ _); refine wl_load rfl 26 _ rfl q rfl _ (run_load_arr HA.out Tryd.underlying26 rfl infoHd) ?_)
      | (go_at_call 14; refine (HPK.out _ HV.out).mono ?_; rintro e0 w1 ⟨B1, d1, rfl, hd1, hl1, hd⟩; have HD := Lib.hid hd; have HL1 := Lib.hid hl1; clear hd hl1))
    go_upto_region 7 with (first
      | ((with_reducible show wpList _ _ _ (Oper.mk (some 43) (.load _ _) _ _ _ _ :: _) _ _); refine wl_load rfl 26 _ rfl q rfl _ (run_load_arr (HA.out.under HD.out) Tryd.underlying26 rfl infoHd) ?_)
      | (go_at_call 9; refine (HRP.out _).mono ?_; rintro e0 w2 ⟨B2, d2, rfl, -, hl2, hd⟩; have HL1 := Lib.hid (lies_on2 HL1.out hd); have HD := Lib.hid (HD.out.trans (hd.mono HD.out.size)); have HL2 := Lib.hid hl2; clear hd hl2))
    have HV2 := Lib.hid (HV.out.trans (HD.out.mono HV.out.size))
    have x1 : w2.cell? ⟨q, 1, none⟩ = some (.int .u32 (N2 : Int)) := (HD.out.cell (World.block_lt_of_cell? V _ HZ.out)).trans HZ.out
    clear HZ HPK HRP
    go_upto_region 9 with fail
    have cv1 := conv_str w2 w2.heap.size B1 PN d1 PB HL1.out
    have cv2 := conv_str w2 w2.heap.size B2 LN d2 L HL2.out
    have cv3 := conv_str w2 w2.heap.size A1 N1 c1 sig (HLS.out _ HV2.out).1
    have cv4 := conv_str w2 w2.heap.size A2 N2 c2 pay (HLS.out _ HV2.out).2
    rw [← HST.out.1] at cv1
    rw [← HST.out.2.1] at cv2
    rw [← HST.out.2.2.1] at cv3
    rw [← HST.out.2.2.2] at cv4
    have hcat := HCAT.out
    have za : (Sh.size : Int) ≤ 8388608 := by rw [HSZ.out.1]; decide
    have zb : (Ss.size : Int) ≤ 8388608 := by rw [HSZ.out.2.1]; omega
    have zc : ((Sh ++ Ss).size : Int) ≤ 8388608 := by rw [ByteArray.size_append, HSZ.out.1, HSZ.out.2.1]; omega
    have zd : (Sp.size : Int) ≤ 8388608 := by rw [HSZ.out.2.2]; omega
    go_upto_region 11 with fail
    clear cv1 cv2 cv3 cv4 hcat HCAT x1 za zb zc zd HSZ
    rcases hps with ⟨ho1, hn1, hsp⟩ | ⟨hoff, e, he, hsp⟩
    · rw [hsp] at HSPL
      clear hsp
      unfold sH s1 s2 s3 sE at HSPL
      simp only at HSPL
      rw [← HNS.out, ← HN12.out.2, ← HL.out.2] at HSPL
      unfold PartsE at HSPL
      have hcase : oid = 1 ∨ oid = 2 ∨ oid = 3 := by unfold isO at ho1; have := of_decide_eq_true ho1; omega
      have hn1 : N1 = sigN oid := by rw [HNS.out]; exact hn1
      clear ho1
      rcases hcase with rfl | rfl | rfl
      · rw [sigN_1] at hn1
        have hn2 : (N1 : Int) = 2500 := by omega
        have hn3 : ((N1 : Int) != 2500) = false := by rw [hn2]; rfl
        clear hn1
        go_upto_region 12 with (first
          | (go_at_call 12; refine (HSPL.out _ _ _ hd1 HL1.out).mono ?_; rintro e0 w3 ⟨B3, d3, B4, d4, B5, d5, rfl, l3, l4, l5, hd⟩; have HD3 := Lib.hid hd; have HM := Lib.hid (And.intro l4 l5); clear hd l3 l4 l5)
          | ((with_reducible show wpList _ _ _ (Oper.mk _ (.store _ _ _) _ _ _ _ :: _) _ _); refine wl_store rfl 26 _ _ rfl _ rfl _ rfl (run_store_arr (Arr.new w3 _ _ _) (hdF h) infoHd (hdF_one _ _)) ?_))
        obtain ⟨r3, X3, hX3, hr3, y1, y2, y3, y4⟩ := hd_new (h := h) HD3.out
        rw [← hX3, ← hr3]
        have HX3 := Lib.hid (And.intro y1 ((HA.out.under HD.out).under y2))
        have HV3 := Lib.hid (HV2.out.trans (y2.mono HV2.out.size))
        have cv1 := conv_str X3 X3.heap.size B4 N1 d4 sig (lies_on2 HM.out.1 y3)
        have cv2 := conv_str X3 X3.heap.size A1 N1 c1 sig (HLS.out _ HV3.out).1
        have cv3 := conv_str X3 X3.heap.size B5 N2 d5 pay (lies_on2 HM.out.2 y3)
        have cv4 := conv_str X3 X3.heap.size A2 N2 c2 pay (HLS.out _ HV3.out).2
        rw [← HST.out.2.2.1] at cv1 cv2
        rw [← HST.out.2.2.2] at cv3 cv4
        clear hX3 hr3 y1 y2 y3 y4 HD3 HM HSPL
        go_wp2_with (first
          | ((with_reducible show wpList _ _ _ (Oper.mk (some 109) (.load _ _) _ _ _ _ :: _) _ _); refine wl_execG (by kernel_rfl) (exec_load_at 26 _ rfl r3 0 rfl _ (run_load_arr HX3.out.1 Tryd.underlying26 rfl infoHd)) ?_)
          | ((with_reducible show wpList _ _ _ (Oper.mk (some 110) (.load _ _) _ _ _ _ :: _) _ _); refine wl_execG (by kernel_rfl) (exec_load_at 26 _ rfl q 0 rfl _ (run_load_arr HX3.out.2 Tryd.underlying26 rfl infoHd)) ?_)
          | ((with_reducible show wpList _ _ _ (Oper.mk _ (.binOp _ 26 _ _ _) _ _ _ _ :: _) _ _); refine wl_execG (by kernel_rfl) (exec_eql_hd _ _ _ rfl h rfl rfl _) ?_))
        go_ret
        exact ⟨rfl, HV3.out⟩
      · rw [sigN_2] at hn1
        have hn2 : (N1 : Int) = 2692 := by omega
        have hn3 : ((N1 : Int) != 2692) = false := by rw [hn2]; rfl
        clear hn1
        go_upto_region 12 with (first
          | (go_at_call 12; refine (HSPL.out _ _ _ hd1 HL1.out).mono ?_; rintro e0 w3 ⟨B3, d3, B4, d4, B5, d5, rfl, l3, l4, l5, hd⟩; have HD3 := Lib.hid hd; have HM := Lib.hid (And.intro l4 l5); clear hd l3 l4 l5)
          | ((with_reducible show wpList _ _ _ (Oper.mk _ (.store _ _ _) _ _ _ _ :: _) _ _); refine wl_store rfl 26 _ _ rfl _ rfl _ rfl (run_store_arr (Arr.new w3 _ _ _) (hdF h) infoHd (hdF_one _ _)) ?_))
        obtain ⟨r3, X3, hX3, hr3, y1, y2, y3, y4⟩ := hd_new (h := h) HD3.out
        rw [← hX3, ← hr3]
        have HX3 := Lib.hid (And.intro y1 ((HA.out.under HD.out).under y2))
        have HV3 := Lib.hid (HV2.out.trans (y2.mono HV2.out.size))
        have cv1 := conv_str X3 X3.heap.size B4 N1 d4 sig (lies_on2 HM.out.1 y3)
        have cv2 := conv_str X3 X3.heap.size A1 N1 c1 sig (HLS.out _ HV3.out).1
        have cv3 := conv_str X3 X3.heap.size B5 N2 d5 pay (lies_on2 HM.out.2 y3)
        have cv4 := conv_str X3 X3.heap.size A2 N2 c2 pay (HLS.out _ HV3.out).2
        rw [← HST.out.2.2.1] at cv1 cv2
        rw [← HST.out.2.2.2] at cv3 cv4
        clear hX3 hr3 y1 y2 y3 y4 HD3 HM HSPL
        go_wp2_with (first
          | ((with_reducible show wpList _ _ _ (Oper.mk (some 109) (.load _ _) _ _ _ _ :: _) _ _); refine wl_execG (by kernel_rfl) (exec_load_at 26 _ rfl r3 0 rfl _ (run_load_arr HX3.out.1 Tryd.underlying26 rfl infoHd)) ?_)
          | ((with_reducible show wpList _ _ _ (Oper.mk (some 110) (.load _ _) _ _ _ _ :: _) _ _); refine wl_execG (by kernel_rfl) (exec_load_at 26 _ rfl q 0 rfl _ (run_load_arr HX3.out.2 Tryd.underlying26 rfl infoHd)) ?_)
          | ((with_reducible show wpList _ _ _ (Oper.mk _ (.binOp _ 26 _ _ _) _ _ _ _ :: _) _ _); refine wl_execG (by kernel_rfl) (exec_eql_hd _ _ _ rfl h rfl rfl _) ?_))
        go_ret
        exact ⟨rfl, HV3.out⟩
      · rw [sigN_3] at hn1
        have hn2 : (N1 : Int) = 2820 := by omega
        have hn3 : ((N1 : Int) != 2820) = false := by rw [hn2]; rfl
        clear hn1
        go_upto_region 12 with (first
          | (go_at_call 12; refine (HSPL.out _ _ _ hd1 HL1.out).mono ?_; rintro e0 w3 ⟨B3, d3, B4, d4, B5, d5, rfl, l3, l4, l5, hd⟩; have HD3 := Lib.hid hd; have HM := Lib.hid (And.intro l4 l5); clear hd l3 l4 l5)
          | ((with_reducible show wpList _ _ _ (Oper.mk _ (.store _ _ _) _ _ _ _ :: _) _ _); refine wl_store rfl 26 _ _ rfl _ rfl _ rfl (run_store_arr (Arr.new w3 _ _ _) (hdF h) infoHd (hdF_one _ _)) ?_))
        obtain ⟨r3, X3, hX3, hr3, y1, y2, y3, y4⟩ := hd_new (h := h) HD3.out
        rw [← hX3, ← hr3]
        have HX3 := Lib.hid (And.intro y1 ((HA.out.under HD.out).under y2))
        have HV3 := Lib.hid (HV2.out.trans (y2.mono HV2.out.size))
        have cv1 := conv_str X3 X3.heap.size B4 N1 d4 sig (lies_on2 HM.out.1 y3)
        have cv2 := conv_str X3 X3.heap.size A1 N1 c1 sig (HLS.out _ HV3.out).1
        have cv3 := conv_str X3 X3.heap.size B5 N2 d5 pay (lies_on2 HM.out.2 y3)
        have cv4 := conv_str X3 X3.heap.size A2 N2 c2 pay (HLS.out _ HV3.out).2
        rw [← HST.out.2.2.1] at cv1 cv2
        rw [← HST.out.2.2.2] at cv3 cv4
        clear hX3 hr3 y1 y2 y3 y4 HD3 HM HSPL
        go_wp2_with (first
          | ((with_reducible show wpList _ _ _ (Oper.mk (some 109) (.load _ _) _ _ _ _ :: _) _ _); refine wl_execG (by kernel_rfl) (exec_load_at 26 _ rfl r3 0 rfl _ (run_load_arr HX3.out.1 Tryd.underlying26 rfl infoHd)) ?_)
          | ((with_reducible show wpList _ _ _ (Oper.mk (some 110) (.load _ _) _ _ _ _ :: _) _ _); refine wl_execG (by kernel_rfl) (exec_load_at 26 _ rfl q 0 rfl _ (run_load_arr HX3.out.2 Tryd.underlying26 rfl infoHd)) ?_)
          | ((with_reducible show wpList _ _ _ (Oper.mk _ (.binOp _ 26 _ _ _) _ _ _ _ :: _) _ _); refine wl_execG (by kernel_rfl) (exec_eql_hd _ _ _ rfl h rfl rfl _) ?_))
        go_ret
        exact ⟨rfl, HV3.out⟩
    · rw [hsp] at HSPL
      clear hsp
      unfold sH s1 s2 s3 sE at HSPL
      simp only [List.length_nil] at HSPL
      unfold PartsE at HSPL
      have e1 : ((e : Int) != 0) = true := bne_iff_ne.2 (by omega)
      have e2 : ¬ (e : Int) = 0 := by omega
      have e3 : ((e : Int) == 0) = false := by simpa using e2
      clear he
      by_cases o1 : oid = 1
      · subst o1
        have hn1 : N1 ≠ 2500 := by rcases hoff with hf | hf; exact absurd hf (by decide); rw [HNS.out]; exact hf
        have hn2 : ¬ (N1 : Int) = 2500 := by omega
        have hn3 : ((N1 : Int) != 2500) = true := bne_iff_ne.2 hn2
        clear hn1 hoff
        go_upto_region 12 with (first
          | (go_at_call 12; refine (HSPL.out _ _ _ hd1 HL1.out).mono ?_; rintro e0 w3 ⟨B3, d3, B4, d4, B5, d5, rfl, l3, l4, l5, hd⟩; have HD3 := Lib.hid hd; clear hd l3 l4 l5)
          | ((with_reducible show wpList _ _ _ (Oper.mk _ (.store _ _ _) _ _ _ _ :: _) _ _); refine wl_store rfl 26 _ _ rfl _ rfl _ rfl (run_store_arr (Arr.new w3 _ _ _) (hdF zHd) infoHd (hdF_one _ _)) ?_))
        obtain ⟨r3, X3, hX3, hr3, y1, y2, y3, y4⟩ := hd_new (h := zHd) HD3.out
        rw [← hX3, ← hr3]
        have HV3 := Lib.hid (HV2.out.trans (y2.mono HV2.out.size))
        clear hX3 hr3 y1 y2 y3 y4 HD3 HSPL
        go_wp2_with fail
        go_ret
        exact ⟨rfl, HV3.out⟩
      by_cases o2 : oid = 2
      · subst o2
        have hn1 : N1 ≠ 2692 := by rcases hoff with hf | hf; exact absurd hf (by decide); rw [HNS.out]; exact hf
        have hn2 : ¬ (N1 : Int) = 2692 := by omega
        have hn3 : ((N1 : Int) != 2692) = true := bne_iff_ne.2 hn2
        clear hn1 hoff
        go_upto_region 12 with (first
          | (go_at_call 12; refine (HSPL.out _ _ _ hd1 HL1.out).mono ?_; rintro e0 w3 ⟨B3, d3, B4, d4, B5, d5, rfl, l3, l4, l5, hd⟩; have HD3 := Lib.hid hd; clear hd l3 l4 l5)
          | ((with_reducible show wpList _ _ _ (Oper.mk _ (.store _ _ _) _ _ _ _ :: _) _ _); refine wl_store rfl 26 _ _ rfl _ rfl _ rfl (run_store_arr (Arr.new w3 _ _ _) (hdF zHd) infoHd (hdF_one _ _)) ?_))
        obtain ⟨r3, X3, hX3, hr3, y1, y2, y3, y4⟩ := hd_new (h := zHd) HD3.out
        rw [← hX3, ← hr3]
        have HV3 := Lib.hid (HV2.out.trans (y2.mono HV2.out.size))
        clear hX3 hr3 y1 y2 y3 y4 HD3 HSPL
        go_wp2_with fail
        go_ret
        exact ⟨rfl, HV3.out⟩
      by_cases o3 : oid = 3
      · subst o3
        have hn1 : N1 ≠ 2820 := by rcases hoff with hf | hf; exact absurd hf (by decide); rw [HNS.out]; exact hf
        have hn2 : ¬ (N1 : Int) = 2820 := by omega
        have hn3 : ((N1 : Int) != 2820) = true := bne_iff_ne.2 hn2
        clear hn1 hoff
        go_upto_region 12 with (first
          | (go_at_call 12; refine (HSPL.out _ _ _ hd1 HL1.out).mono ?_; rintro e0 w3 ⟨B3, d3, B4, d4, B5, d5, rfl, l3, l4, l5, hd⟩; have HD3 := Lib.hid hd; clear hd l3 l4 l5)
          | ((with_reducible show wpList _ _ _ (Oper.mk _ (.store _ _ _) _ _ _ _ :: _) _ _); refine wl_store rfl 26 _ _ rfl _ rfl _ rfl (run_store_arr (Arr.new w3 _ _ _) (hdF zHd) infoHd (hdF_one _ _)) ?_))
        obtain ⟨r3, X3, hX3, hr3, y1, y2, y3, y4⟩ := hd_new (h := zHd) HD3.out
        rw [← hX3, ← hr3]
        have HV3 := Lib.hid (HV2.out.trans (y2.mono HV2.out.size))
        clear hX3 hr3 y1 y2 y3 y4 HD3 HSPL
        go_wp2_with fail
        go_ret
        exact ⟨rfl, HV3.out⟩
      have f1 : ¬ (oid : Int) = 1 := by omega
      have f2 : ¬ (oid : Int) = 2 := by omega
      have f3 : ¬ (oid : Int) = 3 := by omega
      have g1 : ((oid : Int) == 1) = false := by simpa using f1
      have g2 : ((oid : Int) == 2) = false := by simpa using f2
      have g3 : ((oid : Int) == 3) = false := by simpa using f3
      clear o1 o2 o3 hoff
      go_upto_region 12 with (first
        | (go_at_call 12; refine (HSPL.out _ _ _ hd1 HL1.out).mono ?_; rintro e0 w3 ⟨B3, d3, B4, d4, B5, d5, rfl, l3, l4, l5, hd⟩; have HD3 := Lib.hid hd; clear hd l3 l4 l5)
        | ((with_reducible show wpList _ _ _ (Oper.mk _ (.store _ _ _) _ _ _ _ :: _) _ _); refine wl_store rfl 26 _ _ rfl _ rfl _ rfl (run_store_arr (Arr.new w3 _ _ _) (hdF zHd) infoHd (hdF_one _ _)) ?_))
      obtain ⟨r3, X3, hX3, hr3, y1, y2, y3, y4⟩ := hd_new (h := zHd) HD3.out
      rw [← hX3, ← hr3]
      have HV3 := Lib.hid (HV2.out.trans (y2.mono HV2.out.size))
      clear hX3 hr3 y1 y2 y3 y4 HD3 HSPL
      go_wp2_with fail
      go_ret
      exact ⟨rfl, HV3.out⟩
  · have hp : packP h sig pay = none := by unfold packP; rw [if_neg hgood]
    rw [hp] at HPK
    unfold oL oE at HPK
    simp only [Option.getD_none, List.length_nil] at HPK
    unfold BytesE at HPK HRP
    obtain ⟨L, hL⟩ : ∃ x, x = oL (putP h) := ⟨_, rfl⟩
    by_cases hn : nameOk h.name = true
    · have hpt : oE (putP h) = 0 := by unfold putP; rw [if_pos hn]; rfl
      have hs : ¬ z = (N2 : Int) := by rw [hz, HN12.out.2]; exact fun e => hgood ⟨hn, e⟩
      have hs2 : (z != (N2 : Int)) = true := bne_iff_ne.2 hs
      have hs3 : (z == (N2 : Int)) = false := by simpa using hs
      rw [hpt] at HRP
      rw [← hL] at HRP
      obtain ⟨LN, hLN⟩ : ∃ x, x = L.length := ⟨_, rfl⟩
      rw [← hLN] at HRP
      clear hp hgood hn hpt hL hLN hz
      go_enter Tryd.func6, Tryd.ntmps6
      go_upto_region 1 with fail
      rw [← HW.out, ← HQ.out]
      clear HW
      go_upto_region 3 with (go_at_call 7; refine (awake_any _).mono ?_; rintro e0 V ⟨rfl, hd⟩; have HAW := Lib.hid hd; clear hd)
      have HV : Hid (Below w.heap.size w V) := Lib.hid (H0.out.2.1.trans (HAW.out.mono H0.out.2.1.size))
      have HA := Lib.hid (H0.out.1.under HAW.out)
      have c2' : V.cell? ⟨q, 2, none⟩ = some (.string S0) := (HAW.out.cell (World.block_lt_of_cell? V0 _ H0.out.2.2.1)).trans H0.out.2.2.1
      have HZ : Hid (V.cell? ⟨q, 1, none⟩ = some (.int .u32 z)) := Lib.hid ((HAW.out.cell (World.block_lt_of_cell? V0 _ H0.out.2.2.2)).trans H0.out.2.2.2)
      clear H0 HAW
      by_cases t1 : (200 : Int) < (NN : Int)
      · clear HPK HRP
        go_wp2_with fail
        go_ret
        exact ⟨rfl, HV.out⟩
      by_cases t2 : (3000 : Int) < (N1 : Int)
      · clear HPK HRP
        go_wp2_with fail
        go_ret
        exact ⟨rfl, HV.out⟩
      by_cases t3 : (2000 : Int) < (N2 : Int)
      · clear HPK HRP
        go_wp2_with fail
        go_ret
        exact ⟨rfl, HV.out⟩
      have HPK := Lib.hid (HPK.out (by omega) (by omega) (by omega))
      have HRP := Lib.hid (HRP.out (by omega))
      go_upto_region 5 with fail
      have hb1 : N1 ≤ 3000 := by omega
      have hb2 : N2 ≤ 2000 := by omega
      have wN : IntKind.u64.wrap (N2 : Int) = (N2 : Int) := by rw [IntKind.wrap_u64]; omega
      clear t1 t2 t3 c2' hsz
      go_upto_region 6 with (first
        | ((with_reducible show wpList _ _ _ (Oper.mk (some 36) (.load _ _) _ _ _ _ :: _) _ _); refine wl_load rfl 26 _ rfl q rfl _ (run_load_arr HA.out Tryd.underlying26 rfl infoHd) ?_)
        | (go_at_call 14; refine (HPK.out _ HV.out).mono ?_; rintro e0 w1 ⟨B1, d1, rfl, hd1, hl1, hd⟩; have HD := Lib.hid hd; have HL1 := Lib.hid hl1; clear hd hl1))
      go_upto_region 7 with (first
        | ((with_reducible show wpList _ _ _ (Oper.mk (some 43) (.load _ _) _ _ _ _ :: _) _ _); refine wl_load rfl 26 _ rfl q rfl _ (run_load_arr (HA.out.under HD.out) Tryd.underlying26 rfl infoHd) ?_)
        | (go_at_call 9; refine (HRP.out _).mono ?_; rintro e0 w2 ⟨B2, d2, rfl, -, hl2, hd⟩; have HL1 := Lib.hid (lies_on2 HL1.out hd); have HD := Lib.hid (HD.out.trans (hd.mono HD.out.size)); have HL2 := Lib.hid hl2; clear hd hl2))
      have HV2 := Lib.hid (HV.out.trans (HD.out.mono HV.out.size))
      have x1 : w2.cell? ⟨q, 1, none⟩ = some (.int .u32 z) := (HD.out.cell (World.block_lt_of_cell? V _ HZ.out)).trans HZ.out
      clear HZ HPK HRP
      go_wp2_with fail
      go_ret
      exact ⟨rfl, HV2.out⟩
    · have hpt : oE (putP h) = 150 := by unfold putP; rw [if_neg hn]; rfl
      rw [hpt] at HRP
      rw [← hL] at HRP
      obtain ⟨LN, hLN⟩ : ∃ x, x = L.length := ⟨_, rfl⟩
      rw [← hLN] at HRP
      clear hp hgood hn hpt hL hLN hz
      go_enter Tryd.func6, Tryd.ntmps6
      go_upto_region 1 with fail
      rw [← HW.out, ← HQ.out]
      clear HW
      go_upto_region 3 with (go_at_call 7; refine (awake_any _).mono ?_; rintro e0 V ⟨rfl, hd⟩; have HAW := Lib.hid hd; clear hd)
      have HV : Hid (Below w.heap.size w V) := Lib.hid (H0.out.2.1.trans (HAW.out.mono H0.out.2.1.size))
      have HA := Lib.hid (H0.out.1.under HAW.out)
      have c2' : V.cell? ⟨q, 2, none⟩ = some (.string S0) := (HAW.out.cell (World.block_lt_of_cell? V0 _ H0.out.2.2.1)).trans H0.out.2.2.1
      have HZ : Hid (V.cell? ⟨q, 1, none⟩ = some (.int .u32 z)) := Lib.hid ((HAW.out.cell (World.block_lt_of_cell? V0 _ H0.out.2.2.2)).trans H0.out.2.2.2)
      clear H0 HAW
      by_cases t1 : (200 : Int) < (NN : Int)
      · clear HPK HRP
        go_wp2_with fail
        go_ret
        exact ⟨rfl, HV.out⟩
      by_cases t2 : (3000 : Int) < (N1 : Int)
      · clear HPK HRP
        go_wp2_with fail
        go_ret
        exact ⟨rfl, HV.out⟩
      by_cases t3 : (2000 : Int) < (N2 : Int)
      · clear HPK HRP
        go_wp2_with fail
        go_ret
        exact ⟨rfl, HV.out⟩
      have HPK := Lib.hid (HPK.out (by omega) (by omega) (by omega))
      have HRP := Lib.hid (HRP.out (by omega))
      go_upto_region 5 with fail
      have hb1 : N1 ≤ 3000 := by omega
      have hb2 : N2 ≤ 2000 := by omega
      have wN : IntKind.u64.wrap (N2 : Int) = (N2 : Int) := by rw [IntKind.wrap_u64]; omega
      clear t1 t2 t3 c2' hsz
      go_upto_region 6 with (first
        | ((with_reducible show wpList _ _ _ (Oper.mk (some 36) (.load _ _) _ _ _ _ :: _) _ _); refine wl_load rfl 26 _ rfl q rfl _ (run_load_arr HA.out Tryd.underlying26 rfl infoHd) ?_)
        | (go_at_call 14; refine (HPK.out _ HV.out).mono ?_; rintro e0 w1 ⟨B1, d1, rfl, hd1, hl1, hd⟩; have HD := Lib.hid hd; have HL1 := Lib.hid hl1; clear hd hl1))
      go_upto_region 7 with (first
        | ((with_reducible show wpList _ _ _ (Oper.mk (some 43) (.load _ _) _ _ _ _ :: _) _ _); refine wl_load rfl 26 _ rfl q rfl _ (run_load_arr (HA.out.under HD.out) Tryd.underlying26 rfl infoHd) ?_)
        | (go_at_call 9; refine (HRP.out _).mono ?_; rintro e0 w2 ⟨B2, d2, rfl, -, hl2, hd⟩; have HL1 := Lib.hid (lies_on2 HL1.out hd); have HD := Lib.hid (HD.out.trans (hd.mono HD.out.size)); have HL2 := Lib.hid hl2; clear hd hl2))
      have HV2 := Lib.hid (HV.out.trans (HD.out.mono HV.out.size))
      have x1 : w2.cell? ⟨q, 1, none⟩ = some (.int .u32 z) := (HD.out.cell (World.block_lt_of_cell? V _ HZ.out)).trans HZ.out
      clear HZ HPK HRP
      go_wp2_with fail
      go_ret
      exact ⟨rfl, HV2.out⟩
end Go.Proofs.YtgoblolbkchggaaDoor
