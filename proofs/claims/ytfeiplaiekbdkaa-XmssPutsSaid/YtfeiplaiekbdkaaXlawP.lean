/- The walk of XmssPuts. -/
import Derived.Test.YtfeiplaiekbdkaaXrps
import Derived.Test.YtfeiplaiekbdkaaXlawS
import Derived.Test.YtfeiplaiekbdkaaStr
namespace Go.Proofs.Ytfeiplaiekbdkaa
open Go.RowKit
attribute [local go_sem ↓ high] zeroV26 zeroSig

/-- What SigOf answers of what PutSig put. -/
theorem sigOf_put (oid idx : Nat) (r : Nd) (ots auth : List Nd) (hoid : oid < 4294967296) (hidx : idx < 4294967296) : ∃ idx' r' ots' auth' k', ots'.length ≤ 1000 ∧ auth'.length ≤ 1000 ∧ SigAns 15 (psL oid idx r ots auth) oid idx' r' ots' auth' k' ∧
    (psE oid idx ots.length auth.length = 0 → k' = 0 ∧ idx' = idx ∧ r' = r ∧ ots' = ots ∧ auth' = auth) := by
  cases hq : isO oid && psOk oid idx ots.length auth.length with
  | true =>
    have his : isO oid = true := (Bool.and_eq_true_iff.1 hq).1
    have hok := (Bool.and_eq_true_iff.1 hq).2
    have hle := hgtO_le oid
    unfold psOk plcd at hok
    simp only [Bool.and_eq_true, decide_eq_true_eq] at hok
    have e : psL oid idx r ots auth = sigL idx r ots auth := by unfold psL; rw [hq]; rfl
    rw [e]
    exact ⟨idx, r, ots, auth, 0, by omega, by omega, (sigOf_cd oid idx r ots auth hoid his hidx hok.2 hok.1.2).2 hok.1.1, fun _ => ⟨rfl, rfl, rfl, rfl, rfl⟩⟩
  | false =>
    have e : psL oid idx r ots auth = [] := by unfold psL; rw [hq]; rfl
    obtain ⟨i', r', o', a', k', h1, h2, h3, _⟩ := sigOf_both [] (by decide) oid hoid
    rw [e]
    refine ⟨i', r', o', a', k', h1, h2, h3, fun h => ?_⟩
    unfold psE at h
    cases hi : isO oid with
    | false => rw [hi] at h; cases h
    | true =>
      rw [hi, Bool.true_and] at hq
      rw [hi, hq] at h
      cases h
set_option maxHeartbeats 4000000 in
set_option maxRecDepth 100000 in
theorem xmssPuts_walk (idx : Nat) (r : Nd) (A1 : Option Addr) (c1 : Nat) (ots : List Nd) (A2 : Option Addr) (c2 : Nat) (auth : List Nd) (oid : Nat) (w : World) (hidx : idx < 4294967296) (_l1 : ots.length ≤ maxLen) (h1 : NRow w w.heap.size A1 ots) (_l2 : auth.length ≤ maxLen) (h2 : NRow w w.heap.size A2 auth) (hoid : oid < 4294967296) :
    Calls Try.prog 6 #[.agg (vec 35 (sigF (idx : Int) r (.slice A1 ots.length c1) (.slice A2 auth.length c2))), .int .u32 (oid : Int)] w fun e w' => e = .returned (.bool true) ∧ Below w.heap.size w w' := by
  obtain ⟨n1, hn1⟩ : ∃ n1, n1 = ots.length := ⟨_, rfl⟩
  obtain ⟨n2, hn2⟩ : ∃ n2, n2 = auth.length := ⟨_, rfl⟩
  rw [← hn1, ← hn2]
  obtain ⟨V, hV⟩ : ∃ V, V = w.alloc (.cells (vec 35 (sigF (idx : Int) r (.slice A1 n1 c1) (.slice A2 n2 c2))) 44) := ⟨_, rfl⟩
  have h0 : Arr V w.heap.size 44 35 (sigF (idx : Int) r (.slice A1 n1 c1) (.slice A2 n2 c2)) := by rw [hV]; exact Arr.new w _ _ _
  have hB : Below w.heap.size w V := by rw [hV]; exact (Below.refl _ _).alloc (Nat.le_refl _) _
  have HA := Lib.hid (And.intro h0 (And.intro hB (And.intro ((h1.below hB).wide hB.size) ((h2.below hB).wide hB.size))))
  have HW := Lib.hid hV
  have HN := Lib.hid (And.intro hn1 hn2)
  clear hV h0 hB h1 h2 hn1 hn2 _l1 _l2
  have AW : Hid (∀ W, Calls Try.prog 7 #[] W fun e w' => e = .returned (.bool true) ∧ Below W.heap.size W w') := Lib.hid awake8_any
  by_cases g1 : n1 ≤ 70
  · have t1 : ¬ (70 : Int) < (n1 : Int) := by omega
    by_cases g2 : n2 ≤ 30
    · have t2 : ¬ (30 : Int) < (n2 : Int) := by omega
      have hl1 : ots.length ≤ 1000 := by have := HN.out.1; omega
      have hl2 : auth.length ≤ 1000 := by have := HN.out.2; omega
      have HP := Lib.hid (fun W q1 q2 => And.intro (putSig_any oid idx r ots auth A1 A2 n1 n2 c1 c2 W hoid hidx hl1 hl2 HN.out.1 HN.out.2 q1 q2) (rputSig_any oid idx r ots auth A1 A2 n1 n2 c1 c2 W hoid hidx hl1 hl2 HN.out.1 HN.out.2 q1 q2))
      obtain ⟨idx', r', ots', auth', k', hl1', hl2', hsa, hiff⟩ := sigOf_put oid idx r ots auth hoid hidx
      rw [← HN.out.1, ← HN.out.2] at hiff
      obtain ⟨ke, hke⟩ : ∃ ke, ke = psE oid idx n1 n2 := ⟨_, rfl⟩
      obtain ⟨pk, hpk⟩ : ∃ pk, pk = psL oid idx r ots auth := ⟨_, rfl⟩
      rw [← hke, ← hpk] at HP
      rw [← hke] at hiff
      rw [← hpk] at hsa
      have HSA := Lib.hid (And.intro hsa (And.intro hiff (And.intro hl1' hl2')))
      have HO := Lib.hid (And.intro hl1 hl2)
      clear hsa hiff hke hpk hl1 hl2 hl1' hl2' g1 g2
      go_enter Try.func6, Try.ntmps6
      go_upto_region 1 with fail
      rw [← HW.out]
      clear HW
      go_upto_region 3 with (go_at_call 7; refine (AW.out _).mono ?_; rintro e w0 ⟨rfl, hd⟩; have HD := Lib.hid (HA.out.2.1.trans (hd.mono HA.out.2.1.size)); have HQ := Lib.hid (HA.out.1.under hd); have HR := Lib.hid (And.intro ((HA.out.2.2.1.below hd).wide hd.size) ((HA.out.2.2.2.below hd).wide hd.size)); clear hd)
      have c33 : w0.cell? ⟨w.heap.size, 33, none⟩ = some (.slice A1 n1 c1) := HQ.out.cell (i := 33) (by decide)
      have c34 : w0.cell? ⟨w.heap.size, 34, none⟩ = some (.slice A2 n2 c2) := HQ.out.cell (i := 34) (by decide)
      go_upto_region 5 with fail
      clear c33 c34 HA AW t1 t2
      go_upto_region 7 with (first
        | ((with_reducible show wpList _ _ _ (Oper.mk _ (.load _ _) _ _ _ _ :: _) _ _); refine wl_load rfl 44 _ rfl _ rfl _ (run_load_arr HQ.out Try.underlying44 rfl infoSig) ?_)
        | (go_at_call 18; refine (HP.out _ HR.out.1 HR.out.2).1.mono ?_; rintro e w3 ⟨v3, rfl, ho, hd⟩; obtain ⟨E3, d3, rfl, hc3, hl3⟩ := row_part ho; have HD := Lib.hid (HD.out.trans (hd.mono HD.out.size)); have HQ := Lib.hid (HQ.out.under hd); have HR := Lib.hid (And.intro ((HR.out.1.below hd).wide hd.size) ((HR.out.2.below hd).wide hd.size)); have H3 := Lib.hid hl3; clear hd ho hl3)
        | (go_at_call 19; refine (HP.out _ HR.out.1 HR.out.2).2.mono ?_; rintro e w4 ⟨v4, rfl, ho, hd⟩; obtain ⟨E4, d4, rfl, -, hl4⟩ := row_part ho; have HD := Lib.hid (HD.out.trans (hd.mono HD.out.size)); have HQ := Lib.hid (HQ.out.under hd); have HR := Lib.hid (And.intro ((HR.out.1.below hd).wide hd.size) ((HR.out.2.below hd).wide hd.size)); have H3 := Lib.hid ((H3.out.below hd).wide hd.size); have H4 := Lib.hid hl4; clear hd ho hl4))
      obtain ⟨st, hst⟩ : ∃ st, st = strOf pk := ⟨_, rfl⟩
      have cv3 := conv_str w4 _ E3 pk.length d3 pk H3.out
      have cv4 := conv_str w4 _ E4 pk.length d4 pk H4.out
      have hsg := HSA.out.1 E3 d3 w4 hc3 H3.out
      rw [← hst] at cv3 cv4
      obtain ⟨n, hn⟩ : ∃ n, n = pk.length := ⟨_, rfl⟩
      unfold partV
      simp only []
      rw [← hn] at cv3 cv4 hsg ⊢
      have HSG := Lib.hid hsg
      clear hst hn H3 H4 HP hsg hc3
      go_upto_region 10 with (first
        | (go_at_call 15; refine HSG.out.mono ?_; rintro e w5 ⟨B1, b1, B2, b2, rfl, q1, q2, hd⟩; have HD := Lib.hid (HD.out.trans (hd.mono HD.out.size)); have HQ := Lib.hid (HQ.out.under hd); have HR := Lib.hid (And.intro ((HR.out.1.below hd).wide hd.size) ((HR.out.2.below hd).wide hd.size)); have HS := Lib.hid (And.intro q1 q2); clear hd q1 q2)
        | ((with_reducible show wpList _ _ _ (Oper.mk _ (.store _ _ _) _ _ _ _ :: _) _ _); refine wl_store rfl 44 _ _ rfl _ rfl _ rfl (run_store_arr (Arr.new w5 _ _ _) (sigF (idx' : Int) r' (.slice B1 ots'.length b1) (.slice B2 auth'.length b2)) infoSig (sigF_one _ _ _ _ rfl rfl _)) ?_))
      obtain ⟨g, hg⟩ : ∃ g, g = w5.heap.size := ⟨_, rfl⟩
      obtain ⟨X, hX⟩ : ∃ X, X = (w5.alloc (.cells (vec 35 (sigF 0 zb (.slice none 0 0) (.slice none 0 0))) 44)).setRow w5.heap.size (vec 35 (sigF (idx' : Int) r' (.slice B1 ots'.length b1) (.slice B2 auth'.length b2))) := ⟨_, rfl⟩
      have hb : Below w5.heap.size w5 X := by rw [hX]; exact below_row ((Below.refl _ _).alloc (Nat.le_refl _) _) (Nat.le_refl _) _
      have HX : Hid (Arr X g 44 35 (sigF (idx' : Int) r' (.slice B1 ots'.length b1) (.slice B2 auth'.length b2))) := Lib.hid (by rw [hX, hg]; exact (Arr.new w5 _ _ _).row _)
      have HD := Lib.hid (HD.out.trans (hb.mono HD.out.size))
      have HQ := Lib.hid (HQ.out.under hb)
      have HR := Lib.hid (And.intro ((HR.out.1.below hb).wide hb.size) ((HR.out.2.below hb).wide hb.size))
      have HS := Lib.hid (And.intro ((HS.out.1.below hb).wide hb.size) ((HS.out.2.below hb).wide hb.size))
      rw [← hX, ← hg]
      clear hX hg hb HSG cv3 cv4
      by_cases hk0 : ke = 0
      · obtain ⟨rfl, rfl, rfl, rfl, rfl⟩ := HSA.out.2.1 hk0
        subst hk0
        have HSm := Lib.hid (sameSig_any idx' r' ots' auth' HO.out.1 HO.out.2 B1 B2 A1 A2 ots'.length auth'.length b1 b2 c1 c2 rfl rfl X HS.out.1 HS.out.2 HR.out.1 HR.out.2)
        rw [← HN.out.1, ← HN.out.2] at HX HSm
        go_wp2_with (first
          | ((with_reducible show wpList _ _ _ (Oper.mk _ (.load _ (.tmp 9)) _ _ _ _ :: _) _ _); refine wl_execG (by kernel_rfl) (exec_load 44 _ rfl _ rfl _ (run_load_arr HX.out Try.underlying44 rfl infoSig)) ?_)
          | ((with_reducible show wpList _ _ _ (Oper.mk _ (.load _ (.tmp 2)) _ _ _ _ :: _) _ _); refine wl_execG (by kernel_rfl) (exec_load 44 _ rfl _ rfl _ (run_load_arr HQ.out Try.underlying44 rfl infoSig)) ?_)
          | (go_at_call 17; refine HSm.out.mono ?_; rintro e w6 ⟨rfl, hd⟩; have H6 := Lib.hid hd; clear hd))
        go_ret
        exact ⟨rfl, HD.out.trans (H6.out.mono HD.out.size)⟩
      · have t3 : ((ke : Int) != 0) = true := bne_iff_ne.2 (by omega)
        go_wp2
        go_ret
        exact ⟨rfl, HD.out⟩
    · have t2 : (30 : Int) < (n2 : Int) := by omega
      go_enter Try.func6, Try.ntmps6
      go_upto_region 1 with fail
      rw [← HW.out]
      clear HW
      go_upto_region 3 with (go_at_call 7; refine (AW.out _).mono ?_; rintro e w0 ⟨rfl, hd⟩; have HD := Lib.hid (HA.out.2.1.trans (hd.mono HA.out.2.1.size)); have HQ := Lib.hid (HA.out.1.under hd); clear hd)
      have c33 : w0.cell? ⟨w.heap.size, 33, none⟩ = some (.slice A1 n1 c1) := HQ.out.cell (i := 33) (by decide)
      have c34 : w0.cell? ⟨w.heap.size, 34, none⟩ = some (.slice A2 n2 c2) := HQ.out.cell (i := 34) (by decide)
      go_wp2
      go_ret
      exact ⟨rfl, HD.out⟩
  · have t1 : (70 : Int) < (n1 : Int) := by omega
    go_enter Try.func6, Try.ntmps6
    go_upto_region 1 with fail
    rw [← HW.out]
    clear HW
    go_upto_region 3 with (go_at_call 7; refine (AW.out _).mono ?_; rintro e w0 ⟨rfl, hd⟩; have HD := Lib.hid (HA.out.2.1.trans (hd.mono HA.out.2.1.size)); have HQ := Lib.hid (HA.out.1.under hd); clear hd)
    have c33 : w0.cell? ⟨w.heap.size, 33, none⟩ = some (.slice A1 n1 c1) := HQ.out.cell (i := 33) (by decide)
    go_wp2
    go_ret
    exact ⟨rfl, HD.out⟩
end Go.Proofs.Ytfeiplaiekbdkaa
