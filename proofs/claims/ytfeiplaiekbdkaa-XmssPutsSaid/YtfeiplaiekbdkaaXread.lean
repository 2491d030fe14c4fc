/- read. -/
import Derived.Test.YtfeiplaiekbdkaaXsz
import Derived.Test.YtfeiplaiekbdkaaXnds
namespace Go.Proofs.Ytfeiplaiekbdkaa
open Go.RowKit
attribute [local go_sem ↓ high] zeroV26 zeroSig zeroSz

set_option maxHeartbeats 1000000 in
set_option maxRecDepth 100000 in
theorem read_any (A : Option Addr) (c : Nat) (idx : Nat) (r : Nd) (ots auth : List Nd) (h n : Nat) (hidx : idx < 4294967296) (hot : ots.length = 67) (hau : auth.length = h) (hh : h ≤ 20) (hn : n = 36 + 32 * (67 + h)) (w : World) (hc : n ≤ c) (hl : Lies w w.heap.size 1 A n (u8s (sigL idx r ots auth))) :
    Calls Try.prog 28 #[.slice A n c, .int .i64 (h : Int)] w fun e w' => ∃ A1 c1 A2 c2, e = .returned (.agg (vec 36 (szF (idx : Int) r (.slice A1 67 c1) (.slice A2 h c2) (h : Int)))) ∧ OwnN w' w.heap.size (.slice A1 67 c1) ots ∧ OwnN w' w.heap.size (.slice A2 h c2) auth ∧ Below w.heap.size w w' := by
  obtain ⟨V, hV⟩ : ∃ V, V = w.alloc (.cells (vec 36 (szF 0 zb (.slice none 0 0) (.slice none 0 0) 0)) 67) := ⟨_, rfl⟩
  have h0 : Arr V w.heap.size 67 36 (szF 0 zb (.slice none 0 0) (.slice none 0 0) 0) := by rw [hV]; exact Arr.new w _ _ _
  have hB : Below w.heap.size w V := by rw [hV]; exact (Below.refl _ _).alloc (Nat.le_refl _) _
  have e : sigL idx r ots auth = numBytes 0 4 idx ++ (nodeL r ++ (nodesL ots ++ (nodesL auth ++ []))) := by rw [sigL, List.append_nil]
  have hlen : (sigL idx r ots auth).length = n := by rw [sigL_length, hot, hau, hn]
  have hcut := cutter_any A c (sigL idx r ots auth) V (by rw [hlen]; exact hc) (by rw [hlen]; exact (hl.below hB).wide hB.size)
  rw [hlen, e] at hcut
  have HCut := Lib.hid hcut
  have HA := Lib.hid (And.intro h0 hB)
  have HW := Lib.hid hV
  have HO := Lib.hid (And.intro hidx (And.intro (show ots.length ≤ 1000 by omega) (show auth.length ≤ 1000 by omega)))
  have HN := Lib.hid (And.intro hot hau)
  clear hV h0 hB hcut e hl hlen hidx hot hau hn hc
  go_enter Try.func28, Try.ntmps28
  go_upto_region 1 with fail
  rw [← HW.out]
  clear HW
  go_upto_region 2 with (go_at_call 20; refine HCut.out.mono ?_; rintro e w1 ⟨rfl, hct, hd, hsz⟩; have HC := Lib.hid hct; have HD := Lib.hid (And.intro hd hsz); clear hct hd hsz)
  obtain ⟨g, hg⟩ : ∃ g, g = V.heap.size := ⟨_, rfl⟩
  have HS : Hid (Save g w1 w1) := Lib.hid (Save.refl _ _)
  rw [← hg] at HC
  rw [← hg]
  have HG := Lib.hid hg
  clear hg HCut
  have N1 := nodes_cut ots HO.out.2.1
  have N2 := nodes_cut auth HO.out.2.2
  rw [HN.out.1] at N1
  rw [HN.out.2] at N2
  have HN1 := Lib.hid N1
  have HN2 := Lib.hid N2
  clear N1 N2
  go_upto_region 3 with (first
    | (go_at_call 21; refine (number_cut idx HO.out.1 _ _ _ _ HC.out).mono ?_; rintro e wx ⟨rfl, hct, hs⟩; have HC := Lib.hid hct; have HS := Lib.hid (HS.out.trans hs); clear hct hs)
    | (go_at_call 22; refine (node_cut _ _ _ _ _ HC.out).mono ?_; rintro e wx ⟨rfl, hct, hs⟩; have HC := Lib.hid hct; have HS := Lib.hid (HS.out.trans hs); clear hct hs)
    | ((with_reducible show Calls _ _ #[_, .int .i64 67] _ _); refine (HN1.out _ _ _ _ HC.out).mono ?_; rintro e wy ⟨v, rfl, ho, hct, hs⟩; obtain ⟨A1, c1, rfl, -, -⟩ := ho.row; have HR1 := Lib.hid (And.intro ho HC.out.lt); have HC := Lib.hid hct; have HS := Lib.hid (HS.out.trans hs); clear ho hct hs)
    | ((with_reducible show Calls _ _ #[_, .int .i64 _] _ _); refine (HN2.out _ _ _ _ HC.out).mono ?_; rintro e wz ⟨v, rfl, ho, hct, hs⟩; obtain ⟨A2, c2, rfl, -, -⟩ := ho.row; have HR2 := Lib.hid (And.intro ho HC.out.lt); have HR1 := Lib.hid (And.intro (ownN_save HR1.out.1 hs HR1.out.2) HR1.out.2); have HS := Lib.hid (HS.out.trans hs); clear ho hct hs)
    | ((with_reducible show wpList _ _ _ (Oper.mk _ (.build _ _) _ _ _ _ :: _) _ _); refine wl_build rfl 44 _ rfl (vec 35 (sigF (idx : Int) r (.slice A1 ots.length c1) (.slice A2 auth.length c2))) (by kernel_rfl) ?_)
    | ((with_reducible show wpList _ _ _ (Oper.mk _ (.store _ _ _) _ _ _ _ :: _) _ _); refine wl_store rfl 44 _ _ rfl _ rfl _ rfl (run_store_arr (Arr.new wz _ _ _) (sigF (idx : Int) r (.slice A1 ots.length c1) (.slice A2 auth.length c2)) infoSig (sigF_one _ _ _ _ rfl rfl _)) ?_))
  obtain ⟨q, hq⟩ : ∃ q, q = wz.heap.size := ⟨_, rfl⟩
  obtain ⟨X, hX⟩ : ∃ X, X = (wz.alloc (.cells (vec 35 (sigF 0 zb (.slice none 0 0) (.slice none 0 0))) 44)).setRow wz.heap.size (vec 35 (sigF (idx : Int) r (.slice A1 ots.length c1) (.slice A2 auth.length c2))) := ⟨_, rfl⟩
  have hK : Arr X q 44 35 (sigF (idx : Int) r (.slice A1 ots.length c1) (.slice A2 auth.length c2)) := by rw [hX, hq]; exact (Arr.new wz _ _ _).row _
  have hb : Below wz.heap.size wz X := by rw [hX]; exact below_row ((Below.refl _ _).alloc (Nat.le_refl _) _) (Nat.le_refl _) _
  have hR : Arr X w.heap.size 67 36 (szF 0 zb (.slice none 0 0) (.slice none 0 0) 0) := ((HA.out.1.under HD.out.1).save HS.out (by have := HG.out; have := HA.out.1.lt; omega)).under hb
  have hB : Below w.heap.size w X := HA.out.2.trans ((HD.out.1.mono HA.out.2.size).trans ((HS.out.below (by have := HG.out; have := HA.out.2.size; omega) (Nat.le_trans HA.out.2.size HD.out.1.size)).trans (hb.mono (Nat.le_trans (Nat.le_trans HA.out.2.size HD.out.1.size) HS.out.size))))
  have hr1 := HR1.out.1.below hb
  have hr2 := HR2.out.1.below hb
  rw [HN.out.1] at hr1
  rw [HN.out.2] at hr2
  have r1 : OwnN X wx.heap.size (.slice A1 67 c1) ots ∧ w.heap.size < wx.heap.size := ⟨hr1, Nat.lt_trans (Nat.lt_of_lt_of_le HA.out.1.lt (by rw [HG.out]; exact Nat.le_refl _)) HR1.out.2⟩
  have r2 : OwnN X wy.heap.size (.slice A2 h c2) auth ∧ w.heap.size < wy.heap.size := ⟨hr2, Nat.lt_trans (Nat.lt_of_lt_of_le HA.out.1.lt (by rw [HG.out]; exact Nat.le_refl _)) HR2.out.2⟩
  rw [HN.out.1, HN.out.2] at hK
  have HX := Lib.hid (And.intro hK (And.intro hR (And.intro hB (And.intro r1 r2))))
  rw [← hX, ← hq]
  clear hX hq hK hb hR hB r1 r2 hr1 hr2 HR1 HR2 HC HS HD HG
  go_wp2_with (first
    | ((with_reducible show wpList _ _ _ (Oper.mk _ (.load _ _) _ _ _ _ :: _) _ _); refine wl_load rfl 44 _ rfl q rfl _ (run_load_arr HX.out.1 Try.underlying44 rfl infoSig) ?_)
    | ((with_reducible show wpList _ _ _ (Oper.mk _ (.build _ _) _ _ _ _ :: _) _ _); refine wl_build rfl 67 _ rfl (vec 36 (szF (idx : Int) r (.slice A1 67 c1) (.slice A2 h c2) (h : Int))) (by kernel_rfl) ?_)
    | ((with_reducible show wpList _ _ _ (Oper.mk _ (.store _ _ _) _ _ _ _ :: _) _ _); refine wl_store rfl 67 _ _ rfl _ rfl _ rfl (run_store_arr HX.out.2.1 (szF (idx : Int) r (.slice A1 67 c1) (.slice A2 h c2) (h : Int)) infoSz (szF_one _ _ _ _ _ rfl rfl _)) ?_))
  refine bodyPost_ret (results_cell1 rfl _ _ _ rfl (run_load_arr (HX.out.2.1.row _) Try.underlying67 rfl infoSz)) rfl ⟨A1, c1, A2, c2, rfl, ?_, ?_, below_row HX.out.2.2.1 (Nat.le_refl _) _⟩
  · exact (ownN_save (g := w.heap.size) HX.out.2.2.2.1.1 ((Save.refl _ _).setRow _) HX.out.2.2.2.1.2).low (Nat.le_of_lt HX.out.2.2.2.1.2)
  · exact (ownN_save (g := w.heap.size) HX.out.2.2.2.2.1 ((Save.refl _ _).setRow _) HX.out.2.2.2.2.2).low (Nat.le_of_lt HX.out.2.2.2.2.2)
end Go.Proofs.Ytfeiplaiekbdkaa
