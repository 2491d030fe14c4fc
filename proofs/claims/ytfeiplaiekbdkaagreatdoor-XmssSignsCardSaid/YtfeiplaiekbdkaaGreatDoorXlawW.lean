/- The walk of XmssSigns: the walk itself. -/
import Derived.Test.YtfeiplaiekbdkaaGreatDoorXlawZ
namespace Go.Proofs.YtfeiplaiekbdkaaGreatDoor
open Go.RowKit
attribute [local go_sem ↓ high] zeroV26 zeroKey

/-- What Make answered, and what comes of it. -/
structure ZOk (oid : Nat) (secret seed : Nd) (idx : Nat) (auth : List Nd) (rr : Nd) (msg : List UInt8) (o : Nat) (R s : Nd) : Prop where
  lt : o < 4294967296
  mkd : mkF oid secret seed idx auth = keyF (o : Int) R s
  good : psE oid idx 67 auth.length = 0 → psE o idx 67 auth.length = 0 ∧ keyE o = 0 ∧ pkL o R s = keyL o R s ∧
    psL o idx rr (endsF secret s idx (digN (msgF rr R idx msg))) auth = sigL idx rr (endsF secret s idx (digN (msgF rr R idx msg))) auth ∧ VerAns 6 (keyL o R s) (sigL idx rr (endsF secret s idx (digN (msgF rr R idx msg))) auth) msg 0
  bad : psE oid idx 67 auth.length ≠ 0 → psE o idx 67 auth.length = 80 ∧ psL o idx rr (endsF secret s idx (digN (msgF rr R idx msg))) auth = []
theorem zok (oid : Nat) (secret seed : Nd) (idx : Nat) (auth : List Nd) (rr : Nd) (msg : List UInt8) (hoid : oid < 4294967296) (hidx : idx < 4294967296) : ∃ o R s, ZOk oid secret seed idx auth rr msg o R s := by
  by_cases h : psE oid idx 67 auth.length = 0
  · refine ⟨oid, mkR oid secret seed idx auth, seed, ⟨hoid, mkF_good h, fun _ => ⟨h, ?_, ?_, psL_good (endsF_length _ _ _ _) h, ver_signed oid secret seed idx auth rr msg hoid hidx h⟩, fun h2 => absurd h h2⟩⟩
    · unfold keyE; rw [(psE_good h).1]; rfl
    · unfold pkL; rw [(psE_good h).1]; rfl
  · exact ⟨0, zb, zb, ⟨by decide, mkF_bad h, fun h2 => absurd h2 h, fun _ => ⟨rfl, rfl⟩⟩⟩

set_option maxHeartbeats 8000000 in
set_option maxRecDepth 100000 in
theorem xmssSigns_walk (oid : Nat) (secret seed : Nd) (idx : Nat) (A : Option Addr) (c : Nat) (auth : List Nd) (rr : Nd) (M : Option Addr) (mc : Nat) (msg : List UInt8) (w : World) (hoid : oid < 4294967296) (hidx : idx < 4294967296) (_hl : auth.length ≤ maxLen) (h1 : NRow w w.heap.size A auth) (hmc : msg.length ≤ mc) (hm : Lies w w.heap.size 1 M msg.length (u8s msg)) (hT : Tabs w) :
    Calls Tryz.prog 4 #[.int .u32 (oid : Int), .agg (vec 32 (bys secret)), .agg (vec 32 (bys seed)), .int .u32 (idx : Int), .slice A auth.length c, .agg (vec 32 (bys rr)), .slice M msg.length mc] w fun e w' => e = .returned (.bool true) ∧ Below w.heap.size w w' := by
  obtain ⟨o, R, s, hz⟩ := zok oid secret seed idx auth rr msg hoid hidx
  have HZ := Lib.hid hz
  obtain ⟨n2, hn2⟩ : ∃ n2, n2 = auth.length := ⟨_, rfl⟩
  obtain ⟨mn, hmn⟩ : ∃ mn, mn = msg.length := ⟨_, rfl⟩
  rw [← hmn] at hmc hm
  rw [← hn2, ← hmn]
  obtain ⟨V, hV⟩ : ∃ V, V = ((w.alloc (.cells (vec 32 (bys secret)) 30)).alloc (.cells (vec 32 (bys seed)) 30)).alloc (.cells (vec 32 (bys rr)) 30) := ⟨_, rfl⟩
  have k0 : Arr V w.heap.size 30 32 (bys secret) := by rw [hV]; exact ((Arr.newAt _ _ _ _ (by simp)).alloc _).alloc _
  have k1 : Arr V (w.heap.size + 1) 30 32 (bys seed) := by rw [hV]; exact (Arr.newAt _ _ _ _ (by simp)).alloc _
  have k2 : Arr V (w.heap.size + 2) 30 32 (bys rr) := by rw [hV]; exact Arr.newAt _ _ _ _ (by simp)
  have hB : Below w.heap.size w V := by rw [hV]; exact (((Below.refl _ _).alloc (by simp <;> omega) _).alloc (by simp <;> omega) _).alloc (by simp <;> omega) _
  have HA := Lib.hid (And.intro k0 (And.intro k1 (And.intro k2 hB)))
  have HR := Lib.hid (And.intro ((h1.below hB).wide hB.size) (And.intro ((hm.below hB).wide hB.size) (tabs_below hT hB)))
  have HW := Lib.hid hV
  have HN := Lib.hid (And.intro hn2 (And.intro hmn hmc))
  clear hV k0 k1 k2 hB h1 hm hT hn2 hmn hmc hz
  have AW : Hid (∀ W, Calls Tryz.prog 5 #[] W fun e w' => e = .returned (.bool true) ∧ Below W.heap.size W w') := Lib.hid awake8_any
  by_cases g1 : mn ≤ 500
  · have t1 : ¬ (500 : Int) < (mn : Int) := by omega
    by_cases g2 : n2 ≤ 30
    · have t2 : ¬ (30 : Int) < (n2 : Int) := by omega
      have hl2 : auth.length ≤ 1000 := by have := HN.out.1; omega
      have HMk := Lib.hid (fun W q1 q2 => And.intro (make_x oid secret seed idx A n2 c auth W hoid hidx hl2 HN.out.1 q1 q2) (rmake_x oid secret seed idx A n2 c auth W hoid hidx hl2 HN.out.1 q1 q2))
      have HSg := Lib.hid (fun W q1 q2 q3 => sign_x o R s secret idx A n2 c auth rr M mn mc msg W HZ.out.lt hidx hl2 HN.out.1 q1 HN.out.2.1 q2 HN.out.2.2 (by omega) q3)
      have HPk := Lib.hid (fun W => putKey_any o R s W HZ.out.lt)
      have hgood := HZ.out.good
      have hbad := HZ.out.bad
      rw [← HN.out.1] at hgood hbad
      obtain ⟨ke, hke⟩ : ∃ ke, ke = psE oid idx 67 n2 := ⟨_, rfl⟩
      obtain ⟨ks, hks⟩ : ∃ ks, ks = psE o idx 67 n2 := ⟨_, rfl⟩
      obtain ⟨sl, hsl⟩ : ∃ sl, sl = psL o idx rr (endsF secret s idx (digN (msgF rr R idx msg))) auth := ⟨_, rfl⟩
      obtain ⟨kk, hkk⟩ : ∃ kk, kk = keyE o := ⟨_, rfl⟩
      obtain ⟨pk, hpk⟩ : ∃ pk, pk = pkL o R s := ⟨_, rfl⟩
      rw [← hke, HZ.out.mkd] at HMk
      rw [← hks, ← hsl] at HSg
      rw [← hkk, ← hpk] at HPk
      rw [← hke] at hgood hbad
      rw [← hks] at hgood hbad
      rw [← hsl] at hgood hbad
      rw [← hkk, ← hpk] at hgood
      have HGd := Lib.hid (And.intro hgood hbad)
      clear hgood hbad hke hks hsl hkk hpk hl2 g2
      have hm5 : mn ≤ 100000000 := by omega
      have HM5 := Lib.hid hm5
      clear hm5 g1
      go_enter Tryz.func4, Tryz.ntmps4
      go_upto_region 1 with fail
      rw [← HW.out]
      clear HW
      go_upto_region 5 with (go_at_call 5; refine (AW.out _).mono ?_; rintro e w0 ⟨rfl, hd⟩; have HD := Lib.hid (HA.out.2.2.2.trans (hd.mono HA.out.2.2.2.size)); have HQ := Lib.hid (And.intro (HA.out.1.under hd) (And.intro (HA.out.2.1.under hd) (HA.out.2.2.1.under hd))); have HV := Lib.hid (And.intro ((HR.out.1.below hd).wide hd.size) (And.intro ((HR.out.2.1.below hd).wide hd.size) (tabs_below HR.out.2.2 hd))); clear hd)
      clear t1 t2 AW HA HR
      go_upto_region 6 with (first
        | ((with_reducible show wpList _ _ _ (Oper.mk _ (.load _ (.tmp 8)) _ _ _ _ :: _) _ _); refine wl_load rfl 30 _ rfl _ rfl _ (run_load_arr HQ.out.1 Tryz.underlying30 rfl info26) ?_)
        | ((with_reducible show wpList _ _ _ (Oper.mk _ (.load _ (.tmp 9)) _ _ _ _ :: _) _ _); refine wl_load rfl 30 _ rfl _ rfl _ (run_load_arr HQ.out.2.1 Tryz.underlying30 rfl info26) ?_)
        | (go_at_call 8; refine (HMk.out _ HV.out.1 HV.out.2.2).1.mono ?_; rintro e w1 ⟨rfl, hd⟩; have HD := Lib.hid (HD.out.trans (hd.mono HD.out.size)); have HQ := Lib.hid (And.intro (HQ.out.1.under hd) (And.intro (HQ.out.2.1.under hd) (HQ.out.2.2.under hd))); have HV := Lib.hid (And.intro ((HV.out.1.below hd).wide hd.size) (And.intro ((HV.out.2.1.below hd).wide hd.size) (tabs_below HV.out.2.2 hd))); clear hd)
        | ((with_reducible show wpList _ _ _ (Oper.mk _ (.store _ _ _) _ _ _ _ :: _) _ _); refine wl_store rfl 33 _ _ rfl _ rfl _ rfl (run_store_arr (Arr.new w1 _ _ _) (keyF (o : Int) R s) infoKey (keyF_one _ _ _ _)) ?_))
      obtain ⟨g15, hg15⟩ : ∃ g, g = w1.heap.size := ⟨_, rfl⟩
      obtain ⟨V1, hV1⟩ : ∃ X, X = (w1.alloc (.cells (vec 65 (keyF 0 zb zb)) 33)).setRow w1.heap.size (vec 65 (keyF (o : Int) R s)) := ⟨_, rfl⟩
      have hd : Below w1.heap.size w1 V1 := by rw [hV1]; exact below_row ((Below.refl _ _).alloc (Nat.le_refl _) _) (Nat.le_refl _) _
      have HX : Hid (Arr V1 g15 33 65 (keyF (o : Int) R s)) := Lib.hid (by rw [hV1, hg15]; exact (Arr.new w1 _ _ _).row _)
      have HD := Lib.hid (HD.out.trans (hd.mono HD.out.size))
      have HQ := Lib.hid (And.intro (HQ.out.1.under hd) (And.intro (HQ.out.2.1.under hd) (HQ.out.2.2.under hd)))
      have HV := Lib.hid (And.intro ((HV.out.1.below hd).wide hd.size) (And.intro ((HV.out.2.1.below hd).wide hd.size) (tabs_below HV.out.2.2 hd)))
      rw [← hV1, ← hg15]
      clear hV1 hg15 hd
      go_upto_region 7 with (first
        | ((with_reducible show wpList _ _ _ (Oper.mk _ (.load _ (.tmp 8)) _ _ _ _ :: _) _ _); refine wl_load rfl 30 _ rfl _ rfl _ (run_load_arr HQ.out.1 Tryz.underlying30 rfl info26) ?_)
        | ((with_reducible show wpList _ _ _ (Oper.mk _ (.load _ (.tmp 9)) _ _ _ _ :: _) _ _); refine wl_load rfl 30 _ rfl _ rfl _ (run_load_arr HQ.out.2.1 Tryz.underlying30 rfl info26) ?_)
        | (go_at_call 9; refine (HMk.out _ HV.out.1 HV.out.2.2).2.mono ?_; rintro e w2 ⟨rfl, hd⟩; have HD := Lib.hid (HD.out.trans (hd.mono HD.out.size)); have HQ := Lib.hid (And.intro (HQ.out.1.under hd) (And.intro (HQ.out.2.1.under hd) (HQ.out.2.2.under hd))); have HV := Lib.hid (And.intro ((HV.out.1.below hd).wide hd.size) (And.intro ((HV.out.2.1.below hd).wide hd.size) (tabs_below HV.out.2.2 hd))); have HX := Lib.hid (HX.out.under hd); clear hd)
        | ((with_reducible show wpList _ _ _ (Oper.mk _ (.store _ _ _) _ _ _ _ :: _) _ _); refine wl_store rfl 33 _ _ rfl _ rfl _ rfl (run_store_arr (Arr.new w2 _ _ _) (keyF (o : Int) R s) infoKey (keyF_one _ _ _ _)) ?_))
      obtain ⟨g17, hg17⟩ : ∃ g, g = w2.heap.size := ⟨_, rfl⟩
      obtain ⟨V2, hV2⟩ : ∃ X, X = (w2.alloc (.cells (vec 65 (keyF 0 zb zb)) 33)).setRow w2.heap.size (vec 65 (keyF (o : Int) R s)) := ⟨_, rfl⟩
      have hd : Below w2.heap.size w2 V2 := by rw [hV2]; exact below_row ((Below.refl _ _).alloc (Nat.le_refl _) _) (Nat.le_refl _) _
      have HY : Hid (Arr V2 g17 33 65 (keyF (o : Int) R s)) := Lib.hid (by rw [hV2, hg17]; exact (Arr.new w2 _ _ _).row _)
      have HX := Lib.hid (HX.out.under hd)
      have HD := Lib.hid (HD.out.trans (hd.mono HD.out.size))
      have HQ := Lib.hid (And.intro (HQ.out.1.under hd) (And.intro (HQ.out.2.1.under hd) (HQ.out.2.2.under hd)))
      have HV := Lib.hid (And.intro ((HV.out.1.below hd).wide hd.size) (And.intro ((HV.out.2.1.below hd).wide hd.size) (tabs_below HV.out.2.2 hd)))
      rw [← hV2, ← hg17]
      clear hV2 hg17 hd HMk
      go_upto_region 10 with (first
        | ((with_reducible show wpList _ _ _ (Oper.mk _ (.load _ (.tmp 15)) _ _ _ _ :: _) _ _); refine wl_execZ (by kernel_rfl) (exec_load 33 _ rfl _ rfl _ (run_load_arr HX.out Tryz.underlying33 rfl infoKey)) ?_)
        | ((with_reducible show wpList _ _ _ (Oper.mk _ (.load _ (.tmp 17)) _ _ _ _ :: _) _ _); refine wl_execZ (by kernel_rfl) (exec_load 33 _ rfl _ rfl _ (run_load_arr HY.out Tryz.underlying33 rfl infoKey)) ?_)
        | ((with_reducible show wpList _ _ _ (Oper.mk _ (.binOp _ _ (.tmp 54) (.tmp 55) _) _ _ _ _ :: _) _ _); refine wl_execZ (by kernel_rfl) (exec_neqKey _ _ _ rfl (o : Int) R s rfl rfl _) ?_)
        | ((with_reducible show wpList _ _ _ (Oper.mk _ (.load _ (.tmp 8)) _ _ _ _ :: _) _ _); refine wl_load rfl 30 _ rfl _ rfl _ (run_load_arr HQ.out.1 Tryz.underlying30 rfl info26) ?_)
        | ((with_reducible show wpList _ _ _ (Oper.mk _ (.load _ (.tmp 12)) _ _ _ _ :: _) _ _); refine wl_load rfl 30 _ rfl _ rfl _ (run_load_arr HQ.out.2.2 Tryz.underlying30 rfl info26) ?_)
        | (go_at_call 10; refine (HSg.out _ HV.out.1 HV.out.2.1 HV.out.2.2).mono ?_; rintro e w3 ⟨v3, rfl, ho, hd⟩; obtain ⟨E3, d3, rfl, hc3, hl3⟩ := row_part ho; have HD := Lib.hid (HD.out.trans (hd.mono HD.out.size)); have HV := Lib.hid (And.intro ((HV.out.1.below hd).wide hd.size) (And.intro ((HV.out.2.1.below hd).wide hd.size) (tabs_below HV.out.2.2 hd))); have HX := Lib.hid (HX.out.under hd); have H3 := Lib.hid (And.intro hc3 hl3); clear hd ho hc3 hl3))
      clear HSg HY HQ
      by_cases hk0 : ke = 0
      · obtain ⟨e1, e2, e3, e4, e5⟩ := HGd.out.1 hk0
        rw [← e3, ← e4] at e5
        have HVer := Lib.hid e5
        subst hk0 e1 e2
        clear e3 e4 e5
        unfold VerAns at HVer
        rw [← HN.out.2.1] at HVer
        go_wp2_with (first
          | ((with_reducible show wpList _ _ _ (Oper.mk _ (.load _ (.tmp 15)) _ _ _ _ :: _) _ _); refine wl_load rfl 33 _ rfl _ rfl _ (run_load_arr HX.out Tryz.underlying33 rfl infoKey) ?_)
          | (go_at_call 11; refine (HPk.out _).mono ?_; rintro e w4 ⟨v4, rfl, ho, hd⟩; obtain ⟨E4, d4, rfl, hc4, hl4⟩ := row_part ho; have HD := Lib.hid (HD.out.trans (hd.mono HD.out.size)); have HV := Lib.hid (And.intro ((HV.out.2.1.below hd).wide hd.size) (tabs_below HV.out.2.2 hd)); have H3 := Lib.hid (And.intro H3.out.1 ((H3.out.2.below hd).wide hd.size)); have H4 := Lib.hid (And.intro hc4 hl4); clear hd ho hc4 hl4)
          | (go_at_call 6; refine (HVer.out E4 M E3 d4 mc d3 _ H4.out.1 H3.out.1 HN.out.2.2 HM5.out H4.out.2 HV.out.1 H3.out.2 HV.out.2).mono ?_; rintro e w5 ⟨rfl, hd⟩; have HD := Lib.hid (HD.out.trans (hd.mono HD.out.size)); clear hd))
        go_ret
        exact ⟨rfl, HD.out⟩
      · obtain ⟨e1, e2⟩ := HGd.out.2 hk0
        have t3 : ((ke : Int) != 0) = true := bne_iff_ne.2 (by omega)
        subst e1 e2
        clear hk0
        unfold partV
        simp only [List.length_nil]
        go_wp2
        go_ret
        exact ⟨rfl, HD.out⟩
    · have t2 : (30 : Int) < (n2 : Int) := by omega
      go_enter Tryz.func4, Tryz.ntmps4
      go_upto_region 1 with fail
      rw [← HW.out]
      clear HW
      go_wp2_with (go_at_call 5; refine (AW.out _).mono ?_; rintro e w0 ⟨rfl, hd⟩; have HD := Lib.hid (HA.out.2.2.2.trans (hd.mono HA.out.2.2.2.size)); clear hd)
      go_ret
      exact ⟨rfl, HD.out⟩
  · have t1 : (500 : Int) < (mn : Int) := by omega
    go_enter Tryz.func4, Tryz.ntmps4
    go_upto_region 1 with fail
    rw [← HW.out]
    clear HW
    go_wp2_with (go_at_call 5; refine (AW.out _).mono ?_; rintro e w0 ⟨rfl, hd⟩; have HD := Lib.hid (HA.out.2.2.2.trans (hd.mono HA.out.2.2.2.size)); clear hd)
    go_ret
    exact ⟨rfl, HD.out⟩
end Go.Proofs.YtfeiplaiekbdkaaGreatDoor
