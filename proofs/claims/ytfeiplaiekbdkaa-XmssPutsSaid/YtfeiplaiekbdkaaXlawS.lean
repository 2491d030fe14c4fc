/- SameSig, of signatures that are alike; the walk of XmssSigs. -/
import Derived.Test.YtfeiplaiekbdkaaXrsigd
import Derived.Test.YtfeiplaiekbdkaaXawake
import Derived.Test.YtfeiplaiekbdkaaSame
namespace Go.Proofs.Ytfeiplaiekbdkaa
open Go.RowKit
attribute [local go_sem ↓ high] zeroV26 zeroSig

theorem wl_execG {P : Program} {ops : Array Oper} {Q : Exit → Act → World → Prop} {a : Act} {w : World} {rest : List Oper} {o : Oper} {v : Value} (hw : Region.wanted o (yielded ops a.tmps) = true)
    (he : (execOp a.eval o).run P w = .ok (.value v) w) (h : wpList P ops Q rest (a.put o.dst v) w) : wpList P ops Q (o :: rest) a w :=
  wpList_step fun K hK => by
    simp only [hw, if_true]
    unfold Oper.wp
    rw [he]
    exact hK _ _ h
set_option maxHeartbeats 1000000 in
set_option maxRecDepth 100000 in
theorem sameSig_any (idx : Nat) (r : Nd) (ots auth : List Nd) (ho : ots.length ≤ 1000) (ha : auth.length ≤ 1000) (A1 A2 B1 B2 : Option Addr) (n1 n2 c1 c2 d1 d2 : Nat) (hn1 : n1 = ots.length) (hn2 : n2 = auth.length) (w : World)
    (h1 : NRow w w.heap.size A1 ots) (h2 : NRow w w.heap.size A2 auth) (h3 : NRow w w.heap.size B1 ots) (h4 : NRow w w.heap.size B2 auth) :
    Calls Try.prog 17 #[.agg (vec 35 (sigF (idx : Int) r (.slice A1 n1 c1) (.slice A2 n2 c2))), .agg (vec 35 (sigF (idx : Int) r (.slice B1 n1 d1) (.slice B2 n2 d2)))] w fun e w' => e = .returned (.bool true) ∧ Below w.heap.size w w' := by
  obtain ⟨V, hV⟩ : ∃ V, V = (w.alloc (.cells (vec 35 (sigF (idx : Int) r (.slice A1 n1 c1) (.slice A2 n2 c2))) 44)).alloc (.cells (vec 35 (sigF (idx : Int) r (.slice B1 n1 d1) (.slice B2 n2 d2))) 44) := ⟨_, rfl⟩
  have k1 : Arr V w.heap.size 44 35 (sigF (idx : Int) r (.slice A1 n1 c1) (.slice A2 n2 c2)) := by rw [hV]; exact (Arr.new w _ _ _).alloc _
  have k2 : Arr V (w.heap.size + 1) 44 35 (sigF (idx : Int) r (.slice B1 n1 d1) (.slice B2 n2 d2)) := by rw [hV]; exact Arr.newAt _ _ _ _ (by simp)
  have hB : Below w.heap.size w V := by rw [hV]; exact ((Below.refl _ _).alloc (by simp <;> omega) _).alloc (by simp <;> omega) _
  have a0 := k1.cell (i := 0) (by decide)
  have b0 := k2.cell (i := 0) (by decide)
  have a33 : V.cell? ⟨w.heap.size, 33, none⟩ = some (.slice A1 n1 c1) := k1.cell (i := 33) (by decide)
  have b33 : V.cell? ⟨w.heap.size + 1, 33, none⟩ = some (.slice B1 n1 d1) := k2.cell (i := 33) (by decide)
  have HK := Lib.hid (And.intro k1 (And.intro k2 hB))
  have HR := Lib.hid (And.intro ((h1.below hB).wide hB.size) (And.intro ((h2.below hB).wide hB.size) (And.intro ((h3.below hB).wide hB.size) ((h4.below hB).wide hB.size))))
  have HN := Lib.hid (And.intro hn1 hn2)
  have HS1 := Lib.hid (fun W q1 q2 => same_any A1 B1 c1 d1 ots ho W q1 q2)
  have HS2 := Lib.hid (fun W q1 q2 => same_any A2 B2 c2 d2 auth ha W q1 q2)
  rw [← hn1] at HS1
  rw [← hn2] at HS2
  have HW := Lib.hid hV
  clear hV k1 k2 hB h1 h2 h3 h4 hn1 hn2
  simp only [sigF] at a0 b0
  go_enter Try.func17, Try.ntmps17
  go_upto_region 1 with fail
  rw [← HW.out]
  clear HW
  go_wp2_with (first
    | ((with_reducible show wpList _ _ _ (Oper.mk _ (.load 29 (.tmp 11)) _ _ _ _ :: _) _ _); refine wl_execG (by kernel_rfl) (exec_load_at 29 _ rfl _ _ rfl _ (sig_r HK.out.1 (fun _ _ => rfl) (by decide))) ?_)
    | ((with_reducible show wpList _ _ _ (Oper.mk _ (.load 29 (.tmp 13)) _ _ _ _ :: _) _ _); refine wl_execG (by kernel_rfl) (exec_load_at 29 _ rfl _ _ rfl _ (sig_r HK.out.2.1 (fun _ _ => rfl) (by decide))) ?_)
    | ((with_reducible show wpList _ _ _ (Oper.mk _ (.binOp _ _ (.tmp 12) (.tmp 14) _) _ _ _ _ :: _) _ _); refine wl_execG (by kernel_rfl) (exec_eql32 _ _ _ rfl r rfl rfl _) ?_)
    | ((with_reducible show Calls _ _ #[.slice A1 _ _, _] _ _); refine (HS1.out _ HR.out.1 HR.out.2.2.1).mono ?_; rintro e w1 ⟨rfl, hd⟩
       have a34 : w1.cell? ⟨w.heap.size, 34, none⟩ = some (.slice A2 n2 c2) := (HK.out.1.under hd).cell (i := 34) (by decide)
       have b34 : w1.cell? ⟨w.heap.size + 1, 34, none⟩ = some (.slice B2 n2 d2) := (HK.out.2.1.under hd).cell (i := 34) (by decide)
       have HD := Lib.hid hd; clear hd)
    | ((with_reducible show Calls _ _ #[.slice A2 _ _, _] _ _); refine (HS2.out _ ((HR.out.2.1.below HD.out).wide HD.out.size) ((HR.out.2.2.2.below HD.out).wide HD.out.size)).mono ?_; rintro e w2 ⟨rfl, hd⟩; have HD2 := Lib.hid hd; clear hd))
  go_ret
  exact ⟨rfl, HK.out.2.2.trans ((HD.out.trans (HD2.out.mono HD.out.size)).mono HK.out.2.2.size)⟩
/-- What both SigOf answer of bytes. -/
theorem sigOf_both (b : List UInt8) (hb : b.length ≤ 3000) (oid : Nat) (hoid : oid < 4294967296) : ∃ idx r ots auth k, ots.length ≤ 1000 ∧ auth.length ≤ 1000 ∧ SigAns 15 b oid idx r ots auth k ∧ SigAns 16 b oid idx r ots auth k := by
  cases his : isO oid with
  | false => exact ⟨0, zb, [], [], 80, by decide, by decide, sigOf_a b oid hoid his, rsigOf_a b oid hoid his⟩
  | true =>
    by_cases hl : b.length = 36 + 32 * (67 + hgtO oid)
    · obtain ⟨idx, r, ots, auth, hidx, hot, hau, rfl⟩ := sig_of b _ hl
      have hle := hgtO_le oid
      by_cases hi : idx < 2 ^ hgtO oid
      · exact ⟨idx, r, ots, auth, 0, by omega, by omega, (sigOf_cd oid idx r ots auth hoid his hidx hot hau).2 hi, (rsigOf_cd oid idx r ots auth hoid his hidx hot hau).2 hi⟩
      · exact ⟨0, zb, [], [], 81, by decide, by decide, (sigOf_cd oid idx r ots auth hoid his hidx hot hau).1 hi, (rsigOf_cd oid idx r ots auth hoid his hidx hot hau).1 hi⟩
    · exact ⟨0, zb, [], [], 81, by decide, by decide, sigOf_b b oid hoid his hl, rsigOf_b b oid hb hoid his hl⟩
set_option maxHeartbeats 2000000 in
set_option maxRecDepth 100000 in
theorem xmssSigs_walk (A : Option Addr) (c : Nat) (b : List UInt8) (oid : Nat) (w : World) (hc : b.length ≤ c) (hl : Lies w w.heap.size 1 A b.length (u8s b)) (hoid : oid < 4294967296) :
    Calls Try.prog 5 #[.slice A b.length c, .int .u32 (oid : Int)] w fun e w' => e = .returned (.bool true) ∧ Below w.heap.size w w' := by
  have HL := Lib.hid (And.intro hl hc)
  clear hl hc
  by_cases hlen : b.length ≤ 3000
  · have t1 : ¬ (3000 : Int) < (b.length : Int) := by omega
    obtain ⟨idx, r, ots, auth, k, ho, ha, hs1, hs2⟩ := sigOf_both b hlen oid hoid
    have HS := Lib.hid (And.intro hs1 (And.intro hs2 (And.intro ho ha)))
    obtain ⟨n1, hn1⟩ : ∃ n1, n1 = ots.length := ⟨_, rfl⟩
    obtain ⟨n2, hn2⟩ : ∃ n2, n2 = auth.length := ⟨_, rfl⟩
    have HN := Lib.hid (And.intro hn1 hn2)
    clear hs1 hs2 ho ha hn1 hn2
    go_enter Try.func5, Try.ntmps5
    go_upto_region 6 with (first
      | (go_at_call 7; refine (awake8_any _).mono ?_; rintro e w0 ⟨rfl, hd⟩; have HD := Lib.hid hd; clear hd)
      | (go_at_call 15; refine (HS.out.1 A c _ HL.out.2 ((HL.out.1.below HD.out).wide HD.out.size)).mono ?_; rintro e w1 ⟨A1, c1, A2, c2, rfl, q1, q2, hd⟩; have HD := Lib.hid (HD.out.trans (hd.mono HD.out.size)); have HQ := Lib.hid (And.intro q1 q2); clear hd q1 q2)
      | ((with_reducible show wpList _ _ _ (Oper.mk _ (.store _ _ _) _ _ _ _ :: _) _ _); refine wl_store rfl 44 _ _ rfl _ rfl _ rfl (run_store_arr (Arr.new w1 _ _ _) (sigF (idx : Int) r (.slice A1 ots.length c1) (.slice A2 auth.length c2)) infoSig (sigF_one _ _ _ _ rfl rfl _)) ?_))
    obtain ⟨g1, hg1⟩ : ∃ g, g = w1.heap.size := ⟨_, rfl⟩
    obtain ⟨V1, hV1⟩ : ∃ X, X = (w1.alloc (.cells (vec 35 (sigF 0 zb (.slice none 0 0) (.slice none 0 0))) 44)).setRow w1.heap.size (vec 35 (sigF (idx : Int) r (.slice A1 ots.length c1) (.slice A2 auth.length c2))) := ⟨_, rfl⟩
    have hb1 : Below w1.heap.size w1 V1 := by rw [hV1]; exact below_row ((Below.refl _ _).alloc (Nat.le_refl _) _) (Nat.le_refl _) _
    have HX : Hid (Arr V1 g1 44 35 (sigF (idx : Int) r (.slice A1 ots.length c1) (.slice A2 auth.length c2))) := Lib.hid (by rw [hV1, hg1]; exact (Arr.new w1 _ _ _).row _)
    have HD := Lib.hid (HD.out.trans (hb1.mono HD.out.size))
    have HQ := Lib.hid (And.intro ((HQ.out.1.below hb1).wide hb1.size) ((HQ.out.2.below hb1).wide hb1.size))
    rw [← hV1, ← hg1]
    clear hV1 hg1 hb1
    go_upto_region 7 with (first
      | (go_at_call 16; refine (HS.out.2.1 A c _ HL.out.2 ((HL.out.1.below HD.out).wide HD.out.size)).mono ?_; rintro e w2 ⟨B1, d1, B2, d2, rfl, q1, q2, hd⟩; have HD := Lib.hid (HD.out.trans (hd.mono HD.out.size)); have HX := Lib.hid (HX.out.under hd); have HQ := Lib.hid (And.intro ((HQ.out.1.below hd).wide hd.size) ((HQ.out.2.below hd).wide hd.size)); have HP := Lib.hid (And.intro q1 q2); clear hd q1 q2)
      | ((with_reducible show wpList _ _ _ (Oper.mk _ (.store _ _ _) _ _ _ _ :: _) _ _); refine wl_store rfl 44 _ _ rfl _ rfl _ rfl (run_store_arr (Arr.new w2 _ _ _) (sigF (idx : Int) r (.slice B1 ots.length d1) (.slice B2 auth.length d2)) infoSig (sigF_one _ _ _ _ rfl rfl _)) ?_))
    obtain ⟨g2, hg2⟩ : ∃ g, g = w2.heap.size := ⟨_, rfl⟩
    obtain ⟨V2, hV2⟩ : ∃ X, X = (w2.alloc (.cells (vec 35 (sigF 0 zb (.slice none 0 0) (.slice none 0 0))) 44)).setRow w2.heap.size (vec 35 (sigF (idx : Int) r (.slice B1 ots.length d1) (.slice B2 auth.length d2))) := ⟨_, rfl⟩
    have hb2 : Below w2.heap.size w2 V2 := by rw [hV2]; exact below_row ((Below.refl _ _).alloc (Nat.le_refl _) _) (Nat.le_refl _) _
    have HY : Hid (Arr V2 g2 44 35 (sigF (idx : Int) r (.slice B1 ots.length d1) (.slice B2 auth.length d2))) := Lib.hid (by rw [hV2, hg2]; exact (Arr.new w2 _ _ _).row _)
    have HD := Lib.hid (HD.out.trans (hb2.mono HD.out.size))
    have HX := Lib.hid (HX.out.under hb2)
    have HSm := Lib.hid (sameSig_any idx r ots auth HS.out.2.2.1 HS.out.2.2.2 A1 A2 B1 B2 ots.length auth.length c1 c2 d1 d2 rfl rfl V2 ((HQ.out.1.below hb2).wide hb2.size) ((HQ.out.2.below hb2).wide hb2.size) ((HP.out.1.below hb2).wide hb2.size) ((HP.out.2.below hb2).wide hb2.size))
    rw [← hV2, ← hg2]
    clear hV2 hg2 hb2 HQ HP HL HS
    go_wp2_with (first
      | ((with_reducible show wpList _ _ _ (Oper.mk _ (.load _ (.tmp 5)) _ _ _ _ :: _) _ _); refine wl_execG (by kernel_rfl) (exec_load 44 _ rfl _ rfl _ (run_load_arr HX.out Try.underlying44 rfl infoSig)) ?_)
      | ((with_reducible show wpList _ _ _ (Oper.mk _ (.load _ (.tmp 7)) _ _ _ _ :: _) _ _); refine wl_execG (by kernel_rfl) (exec_load 44 _ rfl _ rfl _ (run_load_arr HY.out Try.underlying44 rfl infoSig)) ?_)
      | (go_at_call 17; refine HSm.out.mono ?_; rintro e w4 ⟨rfl, hd⟩; have H4 := Lib.hid hd; clear hd))
    go_ret
    exact ⟨rfl, HD.out.trans (H4.out.mono HD.out.size)⟩
  · have t1 : (3000 : Int) < (b.length : Int) := by omega
    go_enter Try.func5, Try.ntmps5
    go_wp2_with (go_at_call 7; refine (awake8_any _).mono ?_; rintro e w0 ⟨rfl, hd⟩; have HD := Lib.hid hd; clear hd)
    go_ret
    exact ⟨rfl, HD.out⟩
end Go.Proofs.Ytfeiplaiekbdkaa
