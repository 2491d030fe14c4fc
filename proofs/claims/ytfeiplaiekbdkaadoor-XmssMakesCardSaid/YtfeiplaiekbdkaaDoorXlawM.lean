/- The walk of XmssMakes. -/
import Derived.Test.YtfeiplaiekbdkaaDoorXrsign
import Derived.Test.YtfeiplaiekbdkaaDoorXawake
import Derived.Test.YtfeiplaiekbdkaaDoorStr
namespace Go.Proofs.YtfeiplaiekbdkaaDoor
open Go.RowKit
attribute [local go_sem ↓ high] zeroV26 zeroKey

set_option maxHeartbeats 4000000 in
set_option maxRecDepth 100000 in
theorem xmssMakes_walk (oid : Nat) (root seed secret : Nd) (idx : Nat) (A : Option Addr) (c : Nat) (auth : List Nd) (rr : Nd) (M : Option Addr) (mc : Nat) (msg : List UInt8) (w : World) (hoid : oid < 4294967296) (hidx : idx < 4294967296) (_hl : auth.length ≤ maxLen) (h1 : NRow w w.heap.size A auth) (hmc : msg.length ≤ mc) (hm : Lies w w.heap.size 1 M msg.length (u8s msg)) (hT : Tabs w) :
    Calls Tryd.prog 3 #[.agg (vec 65 (keyF (oid : Int) root seed)), .agg (vec 32 (bys secret)), .int .u32 (idx : Int), .slice A auth.length c, .agg (vec 32 (bys rr)), .slice M msg.length mc] w fun e w' => e = .returned (.bool true) ∧ Below w.heap.size w w' := by
  obtain ⟨n2, hn2⟩ : ∃ n2, n2 = auth.length := ⟨_, rfl⟩
  obtain ⟨mn, hmn⟩ : ∃ mn, mn = msg.length := ⟨_, rfl⟩
  rw [← hmn] at hmc hm
  rw [← hn2, ← hmn]
  obtain ⟨V, hV⟩ : ∃ V, V = ((w.alloc (.cells (vec 65 (keyF (oid : Int) root seed)) 26)).alloc (.cells (vec 32 (bys secret)) 24)).alloc (.cells (vec 32 (bys rr)) 24) := ⟨_, rfl⟩
  have k0 : Arr V w.heap.size 26 65 (keyF (oid : Int) root seed) := by rw [hV]; exact ((Arr.newAt _ _ _ _ (by simp)).alloc _).alloc _
  have k1 : Arr V (w.heap.size + 1) 24 32 (bys secret) := by rw [hV]; exact (Arr.newAt _ _ _ _ (by simp)).alloc _
  have k2 : Arr V (w.heap.size + 2) 24 32 (bys rr) := by rw [hV]; exact Arr.newAt _ _ _ _ (by simp)
  have hB : Below w.heap.size w V := by rw [hV]; exact (((Below.refl _ _).alloc (by simp <;> omega) _).alloc (by simp <;> omega) _).alloc (by simp <;> omega) _
  have HA := Lib.hid (And.intro k0 (And.intro k1 (And.intro k2 hB)))
  have HR := Lib.hid (And.intro ((h1.below hB).wide hB.size) (And.intro ((hm.below hB).wide hB.size) (tabs_below hT hB)))
  have HW := Lib.hid hV
  have HN := Lib.hid (And.intro hn2 (And.intro hmn hmc))
  clear hV k0 k1 k2 hB h1 hm hT hn2 hmn hmc
  by_cases g1 : mn ≤ 500
  · have t1 : ¬ (500 : Int) < (mn : Int) := by omega
    by_cases g2 : n2 ≤ 30
    · have t2 : ¬ (30 : Int) < (n2 : Int) := by omega
      have hl2 : auth.length ≤ 1000 := by have := HN.out.1; omega
      have HP := Lib.hid (fun W q1 q2 q3 => And.intro (sign_x oid root seed secret idx A n2 c auth rr M mn mc msg W hoid hidx hl2 HN.out.1 q1 HN.out.2.1 q2 HN.out.2.2 (by omega) q3) (rsign_x oid root seed secret idx A n2 c auth rr M mn mc msg W hoid hidx hl2 HN.out.1 q1 HN.out.2.1 q2 HN.out.2.2 (by omega) q3))
      obtain ⟨ke, hke⟩ : ∃ ke, ke = psE oid idx 67 n2 := ⟨_, rfl⟩
      obtain ⟨pk, hpk⟩ : ∃ pk, pk = psL oid idx rr (endsF secret seed idx (digN (msgF rr root idx msg))) auth := ⟨_, rfl⟩
      rw [← hke, ← hpk] at HP
      clear hke hpk hl2 g1 g2
      go_enter Tryd.func3, Tryd.ntmps3
      go_upto_region 1 with fail
      rw [← HW.out]
      clear HW
      go_upto_region 5 with (go_at_call 4; refine (awake8_any _).mono ?_; rintro e w0 ⟨rfl, hd⟩; have HD := Lib.hid (HA.out.2.2.2.trans (hd.mono HA.out.2.2.2.size)); have HQ := Lib.hid (And.intro (HA.out.1.under hd) (And.intro (HA.out.2.1.under hd) (HA.out.2.2.1.under hd))); have HAV := Lib.hid hd; clear hd)
      clear t1 t2
      have HV := Lib.hid (And.intro ((HR.out.1.below (HAV.out)).wide HAV.out.size) (And.intro ((HR.out.2.1.below HAV.out).wide HAV.out.size) (tabs_below HR.out.2.2 HAV.out)))
      go_upto_region 7 with (first
        | ((with_reducible show wpList _ _ _ (Oper.mk _ (.load 26 _) _ _ _ _ :: _) _ _); refine wl_load rfl 26 _ rfl _ rfl _ (run_load_arr HQ.out.1 Tryd.underlying26 rfl infoKey) ?_)
        | ((with_reducible show wpList _ _ _ (Oper.mk _ (.load _ (.tmp 7)) _ _ _ _ :: _) _ _); refine wl_load rfl 24 _ rfl _ rfl _ (run_load_arr HQ.out.2.1 Tryd.underlying24 rfl info26) ?_)
        | ((with_reducible show wpList _ _ _ (Oper.mk _ (.load _ (.tmp 10)) _ _ _ _ :: _) _ _); refine wl_load rfl 24 _ rfl _ rfl _ (run_load_arr HQ.out.2.2 Tryd.underlying24 rfl info26) ?_)
        | (go_at_call 5; refine (HP.out _ HV.out.1 HV.out.2.1 HV.out.2.2).1.mono ?_; rintro e w3 ⟨v3, rfl, ho, hd⟩; obtain ⟨E3, d3, rfl, -, hl3⟩ := row_part ho; have HD := Lib.hid (HD.out.trans (hd.mono HD.out.size)); have HQ := Lib.hid (And.intro (HQ.out.1.under hd) (And.intro (HQ.out.2.1.under hd) (HQ.out.2.2.under hd))); have HV := Lib.hid (And.intro ((HV.out.1.below hd).wide hd.size) (And.intro ((HV.out.2.1.below hd).wide hd.size) (tabs_below HV.out.2.2 hd))); have H3 := Lib.hid hl3; clear hd ho hl3)
        | (go_at_call 6; refine (HP.out _ HV.out.1 HV.out.2.1 HV.out.2.2).2.mono ?_; rintro e w4 ⟨v4, rfl, ho, hd⟩; obtain ⟨E4, d4, rfl, -, hl4⟩ := row_part ho; have HD := Lib.hid (HD.out.trans (hd.mono HD.out.size)); have H3 := Lib.hid ((H3.out.below hd).wide hd.size); have H4 := Lib.hid hl4; clear hd ho hl4))
      obtain ⟨st, hst⟩ : ∃ st, st = strOf pk := ⟨_, rfl⟩
      have cv3 := conv_str w4 _ E3 pk.length d3 pk H3.out
      have cv4 := conv_str w4 _ E4 pk.length d4 pk H4.out
      rw [← hst] at cv3 cv4
      obtain ⟨n, hn⟩ : ∃ n, n = pk.length := ⟨_, rfl⟩
      unfold partV
      simp only []
      rw [← hn] at cv3 cv4 ⊢
      clear hst hn H3 H4 HP
      go_wp2
      go_ret
      exact ⟨rfl, HD.out⟩
    · have t2 : (30 : Int) < (n2 : Int) := by omega
      go_enter Tryd.func3, Tryd.ntmps3
      go_upto_region 1 with fail
      rw [← HW.out]
      clear HW
      go_wp2_with (go_at_call 4; refine (awake8_any _).mono ?_; rintro e w0 ⟨rfl, hd⟩; have HD := Lib.hid (HA.out.2.2.2.trans (hd.mono HA.out.2.2.2.size)); have HQ := Lib.hid (And.intro (HA.out.1.under hd) (And.intro (HA.out.2.1.under hd) (HA.out.2.2.1.under hd))); have HAV := Lib.hid hd; clear hd)
      go_ret
      exact ⟨rfl, HD.out⟩
  · have t1 : (500 : Int) < (mn : Int) := by omega
    go_enter Tryd.func3, Tryd.ntmps3
    go_upto_region 1 with fail
    rw [← HW.out]
    clear HW
    go_wp2_with (go_at_call 4; refine (awake8_any _).mono ?_; rintro e w0 ⟨rfl, hd⟩; have HD := Lib.hid (HA.out.2.2.2.trans (hd.mono HA.out.2.2.2.size)); have HQ := Lib.hid (And.intro (HA.out.1.under hd) (And.intro (HA.out.2.1.under hd) (HA.out.2.2.1.under hd))); have HAV := Lib.hid hd; clear hd)
    go_ret
    exact ⟨rfl, HD.out⟩
end Go.Proofs.YtfeiplaiekbdkaaDoor
