import Derived.Test.YtkaipknkjocfiaaGreatZa19
namespace Go.Proofs.YtkaipknkjocfiaaGreat
open Go.RowKit Go.Shelf Go.Lib Go.Sort Go.Proofs
variable {α : Type} [Inhabited α]
theorem merge_skip {lt : α → α → Bool} {d : Array α} {a c b : Nat} {q : Bool} (hq : q = decide (a < c ∧ c < b)) (h : q = false) (h1 : SortedIn lt a c d) (h2 : SortedIn lt c b d) : MergeP lt d d a b :=
 merge_none h1 h2 (by rw [hq] at h; exact of_decide_eq_false h)
theorem dec_tt {p q : Prop} [Decidable p] [Decidable q] (h1 : p) (h2 : q) : decide (p ∧ q) = true := decide_eq_true ⟨h1, h2⟩
theorem dec_tf {p q : Prop} [Decidable p] [Decidable q] (h2 : ¬ q) : decide (p ∧ q) = false := decide_eq_false fun h => h2 h.2
theorem dec_f {p q : Prop} [Decidable p] [Decidable q] (h1 : ¬ p) : decide (p ∧ q) = false := decide_eq_false fun h => h1 h.1
theorem sym_bounds {a m b : Nat} (h1 : a + 1 < m) (h2 : m + 1 < b) : loS a m b ≤ hiS a m b ∧ hiS a m b ≤ m ∧ a ≤ loS a m b ∧ (a + b) / 2 + m < b + hiS a m b ∧ (a + b) / 2 + m ≤ b + loS a m b ∧ hiS a m b ≤ (a + b) / 2 := by
 unfold loS hiS
 split <;> omega
set_option maxHeartbeats 16000000 in
set_option maxRecDepth 1000000 in
theorem sym_main (k : Nat) (zE : ∀ w, (Go.sizeOf 145).run Tryz.prog w = .ok k w) (enc : α → List Value) (cf : α → α → Int) (hO : SWO (ltOf cf)) (g : Nat) (cb : Array Value) (blk off cap : Nat) (d0 : Array α) (w0 : World)
  (eg : ∀ args w, (callFunc g args).run Tryz.prog w = .ok (.enter g args) w) (hcmp : CmpLays Tryz.prog g cb enc k cf blk off d0.size w0) (R : RowK enc k w0 blk off d0) (N : Nat)
  (ih : ∀ (a m b : Nat) (d : Array α) (w : World), b - a < N → d0.size = d.size → SWK enc k w0 blk off d w → a < m → m < b → b ≤ d.size → d.size < 4611686018427387904 → SortedIn (ltOf cf) a m d → SortedIn (ltOf cf) m b d →
    Calls Tryz.prog 185 #[.slice (some ⟨blk, off, none⟩) d.size cap, .int .i64 (a : Int), .int .i64 (m : Int), .int .i64 (b : Int), .func (.func g) #[] cb] w fun e w' => e = .returned (.tuple #[]) ∧ ∃ d', MergeP (ltOf cf) d d' a b ∧ SWK enc k w0 blk off d' w')
  (a m b : Nat) (d : Array α) (w : World) (hN : b - a < N + 1) (hs : d0.size = d.size) (S : SWK enc k w0 blk off d w) (ham : a + 1 < m) (hmb : m + 1 < b) (hb : b ≤ d.size) (hsz : d.size < 4611686018427387904) (hsA : SortedIn (ltOf cf) a m d) (hsB : SortedIn (ltOf cf) m b d) :
  Calls Tryz.prog 185 #[.slice (some ⟨blk, off, none⟩) d.size cap, .int .i64 (a : Int), .int .i64 (m : Int), .int .i64 (b : Int), .func (.func g) #[] cb] w fun e w' => e = .returned (.tuple #[]) ∧ ∃ d', MergeP (ltOf cf) d d' a b ∧ SWK enc k w0 blk off d' w' := by
 have mixed : Tryz.prog.follows Departure.mixedOrders = true := by kernel_rfl
 have aE := Tryz.isAgg145
 have HC : Aside (CmpLays Tryz.prog g cb enc k cf blk off d0.size w0) := hcmp
 have S0 : Aside (SWK enc k w0 blk off d w) := S
 have HA := Lib.hid hsA
 have HB := Lib.hid hsB
 have HON := Lib.hid hO
 have IH := Lib.hid ih
 have HAM : Hid (a < m ∧ m < b) := Lib.hid (by omega)
 obtain ⟨md, hmd⟩ : ∃ x : Nat, x = (a + b) / 2 := ⟨_, rfl⟩
 obtain ⟨lo, hlo⟩ : ∃ x : Nat, x = loS a m b := ⟨_, rfl⟩
 obtain ⟨hi, hhi⟩ : ∃ x : Nat, x = hiS a m b := ⟨_, rfl⟩
 have l1 : md < m → (lo : Int) = (md : Int) + (m : Int) - (b : Int) := fun h => by rw [hlo]; unfold loS; rw [← hmd, if_pos h]; omega
 have l2 : ¬ md < m → lo = a := fun h => by rw [hlo]; unfold loS; rw [← hmd, if_neg h]
 have l3 : md < m → hi = md := fun h => by rw [hhi]; unfold hiS; rw [← hmd, if_pos h]
 have l4 : ¬ md < m → hi = m := fun h => by rw [hhi]; unfold hiS; rw [← hmd, if_neg h]
 have hbd := sym_bounds ham hmb
 rw [← hmd, ← hlo, ← hhi] at hbd
 obtain ⟨hlh, hhm, hla, hb1, hb2, hb3⟩ := hbd
 have amd : a < md := by omega
 have mdb : md < b := by omega
 have HL : Hid ((md < m → (lo : Int) = (md : Int) + (m : Int) - (b : Int)) ∧ (¬ md < m → lo = a) ∧ (md < m → hi = md) ∧ (¬ md < m → hi = m)) := Lib.hid ⟨l1, l2, l3, l4⟩
 have HX : Hid (md = (a + b) / 2 ∧ lo = loS a m b ∧ hi = hiS a m b) := Lib.hid ⟨hmd, hlo, hhi⟩
 have hz1 : ¬ (m : Int) - (a : Int) = 1 := by omega
 have hz3 : ((m : Int) - (a : Int) == 1) = false := by simp; omega
 have hz2 : ¬ (b : Int) - (m : Int) = 1 := by omega
 have hz4 : ((b : Int) - (m : Int) == 1) = false := by simp; omega
 have w1 : IntKind.i64.wrap ((a : Int) + (b : Int)) = (a : Int) + (b : Int) := by rw [IntKind.wrap_i64] <;> omega
 have w2 : IntKind.u64.wrap ((a : Int) + (b : Int)) = (a : Int) + (b : Int) := by simp [IntKind.wrap, IntKind.bits, IntKind.signed]; omega
 have w3 : ((a : Int) + (b : Int)) / 2 = (md : Int) := by omega
 have HW3 := Lib.hid w3
 clear hcmp S hsA hsB hO ih w3 hmd hlo hhi l1 l2 l3 l4
 go_enter Tryz.func185, Tryz.ntmps185
 go_upto_region 25 with fail
 rw [HW3.out]
 clear w1 w2
 go_upto_if 140 with fail
 go_cut [20, 21] from 140 to 146 (fun s20 s21 wx => s20 = .int .i64 (lo : Int) ∧ s21 = .int .i64 (hi : Int) ∧ wx = w)
 case first =>
  by_cases hm : md < m
  · have hmz : (md : Int) < (m : Int) := by omega
    have e1 := HL.out.1 hm
    have e2 := HL.out.2.2.1 hm
    go_wp2_with fail
    go_meet
    exact ⟨by rw [e1], by rw [e2], rfl⟩
  · have hmz : ¬ (md : Int) < (m : Int) := by omega
    have e1 := HL.out.2.1 hm
    have e2 := HL.out.2.2.2 hm
    go_wp2_with fail
    go_meet
    exact ⟨by rw [e1], by rw [e2], rfl⟩
 obtain ⟨rfl, rfl, rfl⟩ := hcut
 rename World => w
 go_wp2_with fail
 go_loopg [20, 21] (hi - lo) (fun kx s1 s2 wr => ∃ (st r : Nat), s1 = .int .i64 (st : Int) ∧ s2 = .int .i64 (r : Int) ∧ lo ≤ st ∧ st ≤ r ∧ r ≤ hi ∧ r - st ≤ kx ∧ Aside (CutS (ltOf cf) d a m b (loS a m b) (hiS a m b) st r) ∧ Aside (SWK enc k w0 blk off d wr))
 case atStart => exact ⟨lo, hi, rfl, rfl, Nat.le_refl _, hlh, Nat.le_refl _, Nat.le_refl _, (by show CutS _ _ _ _ _ _ _ _ _; rw [HX.out.2.1, HX.out.2.2]; exact CutS.start (by rw [← HX.out.2.1, ← HX.out.2.2]; exact hlh)), S0⟩
 case round =>
  clear S0
  obtain ⟨st, r, rfl, rfl, hls, hsr, hrh, hkx, HCS, S1⟩ := hrel
  by_cases hlt : st < r
  · have hltz : (st : Int) < (r : Int) := by omega
    obtain ⟨c, hc⟩ : ∃ h : Nat, h = (st + r) / 2 := ⟨_, rfl⟩
    have w1c : IntKind.i64.wrap ((st : Int) + (r : Int)) = (st : Int) + (r : Int) := by rw [IntKind.wrap_i64] <;> omega
    have w2c : IntKind.u64.wrap ((st : Int) + (r : Int)) = (st : Int) + (r : Int) := by simp [IntKind.wrap, IntKind.bits, IntKind.signed]; omega
    go_upto_region 35 with fail
    have w3c : ((st : Int) + (r : Int)) / 2 = (c : Int) := by omega
    rw [w3c]
    have c1 : st ≤ c := by omega
    have c2 : c < r := by omega
    have HHC := Lib.hid hc
    clear w1c w2c w3c hc
    obtain ⟨q, hq⟩ : ∃ q : Nat, q = md + m - 1 - c := ⟨_, rfl⟩
    have wq : IntKind.i64.wrap ((md : Int) + (m : Int) - 1 - (c : Int)) = (q : Int) := by rw [IntKind.wrap_i64] <;> omega
    have eaq : ((q : Int)).toNat = q := by omega
    have paq : (0 : Int) ≤ (q : Int) := by omega
    have baq : (q : Int) < (d.size : Int) := by omega
    have eac : ((c : Int)).toNat = c := by omega
    have pac : (0 : Int) ≤ (c : Int) := by omega
    have bac : (c : Int) < (d.size : Int) := by omega
    have HQ := Lib.hid hq
    have hqs : q < d.size := by omega
    clear hq
    by_cases hv : cf d[q]! d[c]! < 0
    · have HV : Aside (CutS (ltOf cf) d a m b (loS a m b) (hiS a m b) st c) := by
        show CutS _ _ _ _ _ _ _ _ _
        rw [HHC.out]
        refine HCS.out.down hlt ?_
        rw [← HX.out.1, ← HHC.out, ← HQ.out]
        exact lt_true hv
      have la := S1.out.ld R (by omega) Tryz.prog q (by omega)
      have lb := S1.out.ld R (by omega) Tryz.prog c (by omega)
      have hcx := S1.out.cmp HC.out (by omega) d[q]! d[c]!
      generalize d[q]! = x at la hcx hv
      generalize d[c]! = y at lb hcx hv
      have hdv : decide (cf x y < 0) = true := decide_eq_true hv
      go_wp2_with fail
      go_quiet_grown (first | (go_at_fn g; refine Calls.grown_of (hcx _ _)))
      have S2 : Aside (SWK enc k w0 blk off d (grow (wr.drewN nq) osq)) := S1.out.grown nq osq
      clear la lb hcx S1
      generalize grow (wr.drewN nq) osq = w2 at S2 ⊢
      clear nq osq
      go_wp2_with fail
      go_roundg (c - st)
      case measure => omega
      case rel => exact ⟨st, c, rfl, by first | rfl | go_num, hls, by omega, by omega, Nat.le_refl _, HV, S2⟩
    · have HV : Aside (CutS (ltOf cf) d a m b (loS a m b) (hiS a m b) (c + 1) r) := by
        show CutS _ _ _ _ _ _ _ _ _
        rw [HHC.out]
        refine HCS.out.up hlt ?_
        rw [← HX.out.1, ← HHC.out, ← HQ.out]
        exact lt_false hv
      have la := S1.out.ld R (by omega) Tryz.prog q (by omega)
      have lb := S1.out.ld R (by omega) Tryz.prog c (by omega)
      have hcx := S1.out.cmp HC.out (by omega) d[q]! d[c]!
      generalize d[q]! = x at la hcx hv
      generalize d[c]! = y at lb hcx hv
      have hdv : decide (cf x y < 0) = false := decide_eq_false hv
      go_wp2_with fail
      go_quiet_grown (first | (go_at_fn g; refine Calls.grown_of (hcx _ _)))
      have S2 : Aside (SWK enc k w0 blk off d (grow (wr.drewN nq) osq)) := S1.out.grown nq osq
      clear la lb hcx S1
      generalize grow (wr.drewN nq) osq = w2 at S2 ⊢
      clear nq osq
      go_wp2_with fail
      go_roundg (r - (c + 1))
      case measure => omega
      case rel => exact ⟨c + 1, r, by first | rfl | go_num, rfl, by omega, by omega, hrh, Nat.le_refl _, HV, S2⟩
  · obtain rfl : st = r := by omega
    obtain ⟨e, he⟩ : ∃ e : Nat, e = md + m - st := ⟨_, rfl⟩
    have hcp := HCS.out.done HON.out HAM.out.1 HAM.out.2 HA.out HB.out
    rw [← HX.out.1, ← he] at hcp
    have we : IntKind.i64.wrap ((md : Int) + (m : Int) - (st : Int)) = (md : Int) + (m : Int) - (st : Int) := by rw [IntKind.wrap_i64] <;> omega
    have ee : (md : Int) + (m : Int) - (st : Int) = (e : Int) := by omega
    have HEE := Lib.hid ee
    have c1 := hcp.s1
    have c2 := hcp.s2
    have c3 := hcp.e1
    have c4 := hcp.e2
    have c5 : st ≤ md := by have := hcp.m1; rw [← HX.out.1] at this; omega
    have c6 : md ≤ e := by have := hcp.m2; rw [← HX.out.1] at this; omega
    have HCP := Lib.hid hcp
    have hem : (st < m ∧ m < e) → st < m ∧ m < e := id
    clear he ee hcp HCS
    go_upto_region 39 with fail
    rw [HEE.out]
    obtain ⟨q1, hq1⟩ : ∃ q, q = decide (st < m ∧ m < e) := ⟨_, rfl⟩
    have HQ1 := Lib.hid hq1
    clear hq1 we
    go_cut [185] from 178 to 185 (fun s wx => s = .bool q1 ∧ wx = wr)
    case first =>
      by_cases h1 : st < m
      · have h1z : (st : Int) < (m : Int) := by omega
        have z1 : decide ((st : Int) < (m : Int)) = true := decide_eq_true h1z
        by_cases h2 : m < e
        · have h2z : (m : Int) < (e : Int) := by omega
          have z2 : decide ((m : Int) < (e : Int)) = true := decide_eq_true h2z
          go_wp2_with fail
          go_meet
          exact ⟨by rw [HQ1.out, dec_tt h1 h2], rfl⟩
        · have h2z : ¬ (m : Int) < (e : Int) := by omega
          have z2 : decide ((m : Int) < (e : Int)) = false := decide_eq_false h2z
          go_wp2_with fail
          go_meet
          exact ⟨by rw [HQ1.out, dec_tf h2], rfl⟩
      · have h1z : ¬ (st : Int) < (m : Int) := by omega
        have z1 : decide ((st : Int) < (m : Int)) = false := decide_eq_false h1z
        go_wp2_with fail
        go_meet
        exact ⟨by rw [HQ1.out, dec_f h1], rfl⟩
    obtain ⟨rfl, rfl⟩ := hcut
    rename World => wr
    go_upto_if 185 with fail
    go_cut [] from 186 to 191 (fun wx => ∃ d1, Aside (RotP d d1 st m e ∧ SWK enc k w0 blk off d1 wx))
    case first =>
      cases q1
      · go_wp2_with fail
        go_meet
        refine ⟨d, ?_, S1.out⟩
        have h := of_decide_eq_false HQ1.out.symm
        by_cases h1 : st < m
        · obtain rfl : m = e := by omega
          exact RotP.same_r d
        · obtain rfl : st = m := by omega
          exact RotP.same_l d c3
      · have h := of_decide_eq_true HQ1.out.symm
        have hc := rot_k k zE enc g cb blk off cap st m e d0 d w0 wr R hs S1.out h.1 h.2 (by omega) hsz
        have HCC := Lib.hid hc
        clear hc h
        go_wp2_with (go_at_call 194; refine HCC.out.mono ?_; rintro x w1 ⟨rfl, d1, hr, hS⟩; have HR1 : Aside (RotP d d1 st m e ∧ SWK enc k w0 blk off d1 w1) := ⟨hr, hS⟩; clear hr hS)
        go_meet
        exact ⟨d1, HR1⟩
    obtain ⟨d1, HR1⟩ := hcut
    rename World => w1
    have z1 := HR1.out.1.size
    have hrt := HCP.out.rotd HA.out HB.out HR1.out.1
    rw [← HX.out.1] at hrt
    have HRT := Lib.hid hrt
    have HP1 : Hid (PermIn a b d d1) := Lib.hid (permIn_mono _ _ _ _ _ _ c1 c4 hb HR1.out.1.perm)
    clear hrt S1 HQ1
    obtain ⟨q2, hq2⟩ : ∃ q, q = decide (a < st ∧ st < md) := ⟨_, rfl⟩
    have HQ2 := Lib.hid hq2
    clear hq2
    go_upto_region 41 with fail
    go_cut [199] from 192 to 199 (fun s wx => s = .bool q2 ∧ wx = w1)
    case first =>
      by_cases h1 : a < st
      · have h1z : (a : Int) < (st : Int) := by omega
        have z1 : decide ((a : Int) < (st : Int)) = true := decide_eq_true h1z
        by_cases h2 : st < md
        · have h2z : (st : Int) < (md : Int) := by omega
          have z2 : decide ((st : Int) < (md : Int)) = true := decide_eq_true h2z
          go_wp2_with fail
          go_meet
          exact ⟨by rw [HQ2.out, dec_tt h1 h2], rfl⟩
        · have h2z : ¬ (st : Int) < (md : Int) := by omega
          have z2 : decide ((st : Int) < (md : Int)) = false := decide_eq_false h2z
          go_wp2_with fail
          go_meet
          exact ⟨by rw [HQ2.out, dec_tf h2], rfl⟩
      · have h1z : ¬ (a : Int) < (st : Int) := by omega
        have z1 : decide ((a : Int) < (st : Int)) = false := decide_eq_false h1z
        go_wp2_with fail
        go_meet
        exact ⟨by rw [HQ2.out, dec_f h1], rfl⟩
    obtain ⟨rfl, rfl⟩ := hcut
    rename World => w1
    go_upto_if 199 with fail
    go_cut [] from 200 to 205 (fun wx => ∃ d2, Aside (MergeP (ltOf cf) d1 d2 a md ∧ SWK enc k w0 blk off d2 wx))
    case first =>
      cases q2
      · go_wp2_with fail
        go_meet
        exact ⟨d1, merge_skip HQ2.out rfl HRT.out.s1 HRT.out.s2, HR1.out.2⟩
      · have h := of_decide_eq_true HQ2.out.symm
        have hc := IH.out a st md d1 w1 (by omega) (by omega) HR1.out.2 h.1 h.2 (by omega) (by omega) HRT.out.s1 HRT.out.s2
        rw [z1] at hc
        have HCC := Lib.hid hc
        clear hc h
        go_wp2_with (go_at_call 185; refine HCC.out.mono ?_; rintro x w2 ⟨rfl, d2, hr, hS⟩; have HR2 : Aside (MergeP (ltOf cf) d1 d2 a md ∧ SWK enc k w0 blk off d2 w2) := ⟨hr, hS⟩; clear hr hS)
        go_meet
        exact ⟨d2, HR2⟩
    obtain ⟨d2, HR2⟩ := hcut
    rename World => w2
    have z2 := HR2.out.1.size
    have HS3 : Hid (SortedIn (ltOf cf) md e d2) := Lib.hid (sorted_out HRT.out.s3 HR2.out.1.perm (.inr (Nat.le_refl _)))
    have HS4 : Hid (SortedIn (ltOf cf) e b d2) := Lib.hid (sorted_out HRT.out.s4 HR2.out.1.perm (.inr c6))
    have HEND : Hid (∀ d3, MergeP (ltOf cf) d2 d3 md b → MergeP (ltOf cf) d d3 a b) := Lib.hid fun d3 h3 => merge_whole (by omega) (by omega) hb HP1.out HRT.out HR2.out.1 h3
    obtain ⟨q3, hq3⟩ : ∃ q, q = decide (md < e ∧ e < b) := ⟨_, rfl⟩
    have HQ3 := Lib.hid hq3
    clear hq3 HQ2
    go_upto_region 43 with fail
    go_cut [213] from 206 to 213 (fun s wx => s = .bool q3 ∧ wx = w2)
    case first =>
      by_cases h1 : md < e
      · have h1z : (md : Int) < (e : Int) := by omega
        have z1 : decide ((md : Int) < (e : Int)) = true := decide_eq_true h1z
        by_cases h2 : e < b
        · have h2z : (e : Int) < (b : Int) := by omega
          have z2 : decide ((e : Int) < (b : Int)) = true := decide_eq_true h2z
          go_wp2_with fail
          go_meet
          exact ⟨by rw [HQ3.out, dec_tt h1 h2], rfl⟩
        · have h2z : ¬ (e : Int) < (b : Int) := by omega
          have z2 : decide ((e : Int) < (b : Int)) = false := decide_eq_false h2z
          go_wp2_with fail
          go_meet
          exact ⟨by rw [HQ3.out, dec_tf h2], rfl⟩
      · have h1z : ¬ (md : Int) < (e : Int) := by omega
        have z1 : decide ((md : Int) < (e : Int)) = false := decide_eq_false h1z
        go_wp2_with fail
        go_meet
        exact ⟨by rw [HQ3.out, dec_f h1], rfl⟩
    obtain ⟨rfl, rfl⟩ := hcut
    rename World => w2
    cases q3
    · go_wp2_with fail
      go_end0
      exact ⟨rfl, d2, HEND.out d2 (merge_skip HQ3.out rfl HS3.out HS4.out), HR2.out.2⟩
    · have h := of_decide_eq_true HQ3.out.symm
      have hc := IH.out md e b d2 w2 (by omega) (by omega) HR2.out.2 h.1 h.2 (by omega) (by omega) HS3.out HS4.out
      rw [z2, z1] at hc
      have HCC := Lib.hid hc
      clear hc h
      go_wp2_with (go_at_call 185; refine HCC.out.mono ?_; rintro x w3 ⟨rfl, d3, hr, hS⟩; have HR3 : Aside (MergeP (ltOf cf) d2 d3 md b ∧ SWK enc k w0 blk off d3 w3) := ⟨hr, hS⟩; clear hr hS)
      go_end0
      exact ⟨rfl, d3, HEND.out d3 HR3.out.1, HR3.out.2⟩
theorem sym_any (k : Nat) (zE : ∀ w, (Go.sizeOf 145).run Tryz.prog w = .ok k w) (enc : α → List Value) (cf : α → α → Int) (hO : SWO (ltOf cf)) (g : Nat) (cb : Array Value) (blk off cap : Nat) (d0 : Array α) (w0 : World)
  (eg : ∀ args w, (callFunc g args).run Tryz.prog w = .ok (.enter g args) w) (hcmp : CmpLays Tryz.prog g cb enc k cf blk off d0.size w0) (R : RowK enc k w0 blk off d0) :
  ∀ (N a m b : Nat) (d : Array α) (w : World), b - a < N → d0.size = d.size → SWK enc k w0 blk off d w → a < m → m < b → b ≤ d.size → d.size < 4611686018427387904 → SortedIn (ltOf cf) a m d → SortedIn (ltOf cf) m b d →
  Calls Tryz.prog 185 #[.slice (some ⟨blk, off, none⟩) d.size cap, .int .i64 (a : Int), .int .i64 (m : Int), .int .i64 (b : Int), .func (.func g) #[] cb] w fun e w' => e = .returned (.tuple #[]) ∧ ∃ d', MergeP (ltOf cf) d d' a b ∧ SWK enc k w0 blk off d' w'
 | 0, _, _, _, _, _, h, _, _, _, _, _, _, _, _ => absurd h (Nat.not_lt_zero _)
 | N + 1, a, m, b, d, w, hN, hs, S, ham, hmb, hb, hsz, hsA, hsB => by
  by_cases h1 : m = a + 1
  · subst h1
    exact sym_one k zE enc cf hO g cb blk off cap d0 w0 eg hcmp R a b d w hs S hmb hb hsz hsB
  · by_cases h2 : b = m + 1
    · exact sym_last k zE enc cf hO g cb blk off cap d0 w0 eg hcmp R a m b h2 d w hs S (by omega) hb hsz hsA
    · exact sym_main k zE enc cf hO g cb blk off cap d0 w0 eg hcmp R N (sym_any k zE enc cf hO g cb blk off cap d0 w0 eg hcmp R N) a m b d w hN hs S (by omega) (by omega) hb hsz hsA hsB
end Go.Proofs.YtkaipknkjocfiaaGreat
