/- The walk of CfgCuts. -/
import Derived.Test.YtmcpmcicolpoeaaDoorMg
import Derived.Test.YtmcpmcicolpoeaaDoorFw
import Derived.Test.YtmcpmcicolpoeaaDoorWq
namespace Go.Proofs.YtmcpmcicolpoeaaDoor
open Go.RowKit
attribute [local go_sem ↓ high] zeroCf builtin_appS

theorem lies_tk {w : World} {B n : Nat} {A : Option Addr} {l : By} (h : Lies w B 1 A n (u8s l)) (m : Nat) (hm : m ≤ n) : Lies w B 1 A m (u8s (l.take m)) := by
  have hn : l.length = n := by have := h.1; simpa [u8s] using this
  refine ⟨by simp [u8s]; omega, fun h0 => ?_⟩
  obtain ⟨a, e, hb, hc⟩ := h.2 (by omega)
  refine ⟨a, e, hb, fun j hj => ?_⟩
  have hj2 : j < m := by simp [u8s] at hj; omega
  rw [hc j (by simp [u8s]; omega)]
  simp [u8s]
theorem build_b (x : Int) (w : World) : (Instr.buildSlice 22 1 #[(0, .int .u8 x)]).run Tryd.prog w = .ok (.slice (some ⟨w.heap.size, 0, none⟩) 1 1) (w.alloc (.cells #[.int .u8 x] 5)) := by
  obtain ⟨i0, hi, hz0, hz1, hz2⟩ := info_parts info_u8
  refine run_buildSlice (P := Tryd.prog) w 22 5 1 _ _ i0 (.int .u8 0) Tryd.underlying22 hi hz0 (by rw [hz1]; decide) (by rw [hz1]; decide) ?_
  rw [hz1]
  kernel_rfl
set_option maxRecDepth 100000 in
/-- Bytes copied by an append onto nothing, and one more. -/
theorem app_more (W : World) (a : Addr) (d N : Nat) (l : By) (x : UInt8) (hN : N = l.length) (hl : Lies W W.heap.size 1 (some a) N (u8s l)) (hb : N ≤ 1000000) :
    ∃ (B1 : Option Addr) (d1 : Nat) (w1 : World) (B2 : Option Addr) (d2 : Nat) (w2 : World), (appS #[22, 22] 22 #[.slice none 0 0, .slice (some a) N d]).run Tryd.prog W = .ok (.slice B1 N d1) w1 ∧
      (appS #[22, 22] 22 #[.slice B1 N d1, .slice (some ⟨w1.heap.size, 0, none⟩) 1 1]).run Tryd.prog (w1.alloc (.cells #[.int .u8 (x.toNat : Int)] 5)) = .ok (.slice B2 (N + 1) d2) w2 ∧
      (l ++ [x]).length ≤ d2 ∧ Lies w2 w2.heap.size 1 B2 (N + 1) (u8s (l ++ [x])) ∧ Below W.heap.size W w2 := by
  subst hN
  obtain ⟨i0, hi, hz0, hz1, hz2⟩ := info_parts info_u8
  obtain ⟨v1, w1, hr, h2, h3, _, _⟩ := run_append_own_at (P := Tryd.prog) W W.heap.size 22 22 5 i0 (.int .u8 0) 1 1 Tryd.underlying22 hi hz0 hz1 hz2 rfl (by decide) (.slice none 0 0) 0 [] (World.ownsRow_nil _ _ _ _)
    a l.length d (u8s l) (by simp [u8s]) (fun j u hu => by
      obtain ⟨hj, e⟩ := List.getElem?_eq_some_iff.1 hu
      obtain ⟨a', e', _, hc⟩ := hl.2 (by
        intro h0
        rw [List.eq_nil_of_length_eq_zero h0] at hj
        simp [u8s] at hj)
      injection e' with e'
      subst e'
      rw [hc j hj, e]) (by
      intro u hu
      obtain ⟨y, _, rfl⟩ := List.mem_map.1 hu
      rfl) (by unfold maxLen; omega) (by omega) (Nat.le_refl _)
  have hown : OwnB w1 W.heap.size v1 l := own_of (by simpa using h2)
  have hb1 : Below W.heap.size W w1 := (Below.refl _ _).grown h3 (Nat.le_refl _) (by simp [Value.ownBlock])
  obtain ⟨B1, d1, e1, _, _, _⟩ := hown.form
  subst e1
  obtain ⟨B2, d2, w2, hr2, ho2, hb2⟩ := app_E (P := Tryd.prog) (n := 1) (enc := eB) (ts := 22) (t := 5) (bytes := 1) (z := .int .u8 0) Tryd.underlying22 info_u8 rfl (by decide) (fun _ _ _ => rfl) x hown hb1.size hb (by decide) 22
  have ho3 : OwnB w2 W.heap.size (.slice B2 (l.length + 1) d2) (l ++ [x]) := ho2
  obtain ⟨A3, c3, e3, hc3, hl3⟩ := ho3.lies
  have hlen : (l ++ [x]).length = l.length + 1 := by simp
  rw [hlen] at e3 hl3 hc3
  injection e3 with e4 _ e5
  subst e4 e5
  refine ⟨B1, d1, w1, B2, d2, w2, hr, hr2, by rw [hlen]; exact hc3, hl3, hb1.trans hb2⟩
set_option maxHeartbeats 8000000 in
set_option maxRecDepth 100000 in
theorem cfgCuts_walk (x : Cf) (a c : Value) (z : Int) (mo : Nat) (w : World) (hx : CfR w w.heap.size x a c) (hb : CfB x) (hz : -9223372036854775808 ≤ z ∧ z ≤ 9223372036854775807) (hmo : mo < 256) :
    Calls Tryd.prog 5 #[.agg (vec 3 (cfE x.ver a c)), .int .i64 z, .int .u8 (mo : Int)] w fun e w' => e = .returned (.bool true) ∧ Below w.heap.size w w' := by
  obtain ⟨V0, hV0⟩ : ∃ V, V = w.alloc (.cells (vec 3 (cfE x.ver a c)) 28) := ⟨_, rfl⟩
  have k1 : Arr V0 w.heap.size 28 3 (cfE x.ver a c) := by rw [hV0]; exact Arr.new w _ _ _
  have hB : Below w.heap.size w V0 := by rw [hV0]; exact (Below.refl _ _).alloc (Nat.le_refl _) _
  have HW := Lib.hid hV0
  have H0 := Lib.hid (And.intro hB (And.intro k1 (hx.up hB)))
  have HCB := Lib.hid hb
  have HZB := Lib.hid (And.intro hz hmo)
  clear hV0 k1 hB hx hb hz hmo
  go_enter Tryd.func5, Tryd.ntmps5
  go_upto_region 1 with fail
  rw [← HW.out]
  clear HW
  go_upto_region 3 with (go_at_call 7; refine (awake_any _).mono ?_; rintro e V ⟨rfl, hd⟩; have HAW := Lib.hid hd; clear hd)
  have HV : Hid (Below w.heap.size w V) := Lib.hid (H0.out.1.trans (HAW.out.mono H0.out.1.size))
  have HA := Lib.hid (H0.out.2.1.under HAW.out)
  have HCX := Lib.hid (H0.out.2.2.up HAW.out)
  have HD : Hid (Below V.heap.size V V) := Lib.hid (Below.refl _ _)
  clear H0 HAW
  obtain ⟨fx, hfx⟩ : ∃ f, f = fewC x := ⟨_, rfl⟩
  have HFA : Hid (∀ Y, Below V.heap.size V Y → Calls Tryd.prog 12 #[.agg (vec 3 (cfE x.ver a c))] Y (FewP fx Y)) := Lib.hid (fun Y hY => by rw [hfx]; exact few_any x a c Y (HCX.out.up hY))
  cases fx
  · clear hfx
    go_wp2_with (first
      | ((with_reducible show wpList _ _ _ (Oper.mk _ (.load _ _) _ _ _ _ :: _) _ _); refine wl_load rfl 28 _ rfl _ rfl _ (run_load_arr HA.out Tryd.underlying28 rfl infoCf) ?_)
      | (go_at_call 12; refine (HFA.out _ HD.out).mono ?_; rintro e w1 ⟨rfl, hd⟩; have HD := Lib.hid hd; clear hd))
    go_ret
    exact ⟨rfl, HV.out.trans (HD.out.mono HV.out.size)⟩
  have HNK : Hid (∀ g ∈ x.gs, g.name.length ≤ 1000000) := Lib.hid (fun g hg => by
    have := (gFew_iff ((few_gs hfx.symm).2.2 g hg)).2.2.2.2
    omega)
  clear hfx
  go_upto_region 5 with (first
      | ((with_reducible show wpList _ _ _ (Oper.mk _ (.load _ _) _ _ _ _ :: _) _ _); refine wl_load rfl 28 _ rfl _ rfl _ (run_load_arr HA.out Tryd.underlying28 rfl infoCf) ?_)
      | (go_at_call 12; refine (HFA.out _ HD.out).mono ?_; rintro e w1 ⟨rfl, hd⟩; have HD := Lib.hid hd; clear hd))
  clear HFA
  by_cases he : errP x = 0
  rotate_left
  · have HP2 := Lib.hid (fun Y (hY : Below V.heap.size V Y) => rput_no (HCX.out.up hY) HCB.out HNK.out he)
    obtain ⟨n, hn⟩ : ∃ n, n = errP x := ⟨_, rfl⟩
    rw [← hn] at HP2 he
    have n1 : ((n : Int) != 0) = true := bne_iff_ne.2 (by omega)
    have n2 : ¬ (n : Int) = 0 := by omega
    clear he hn
    go_wp2_with (first
      | ((with_reducible show wpList _ _ _ (Oper.mk _ (.load _ _) _ _ _ _ :: _) _ _); refine wl_load rfl 28 _ rfl _ rfl _ (run_load_arr (HA.out.under HD.out) Tryd.underlying28 rfl infoCf) ?_)
      | (go_at_call 13; refine (HP2.out _ HD.out).mono ?_; rintro e w3 ⟨rfl, hd⟩; have HD := Lib.hid (HD.out.trans (hd.mono HD.out.size)); clear hd))
    go_ret
    exact ⟨rfl, HV.out.trans (HD.out.mono HV.out.size)⟩
  have HP2 := Lib.hid (fun Y (hY : Below V.heap.size V Y) => rput_yes (HCX.out.up hY) HCB.out HNK.out he)
  have HPC : Hid (putC kOk x = .ok (layC x)) := Lib.hid (by rw [putC_is HCB.out, if_pos he])
  obtain ⟨LZ, hLZ⟩ : ∃ l, l = layC x := ⟨_, rfl⟩
  obtain ⟨NZ, hNZ⟩ : ∃ n, n = LZ.length := ⟨_, rfl⟩
  rw [← hLZ, ← hNZ] at HP2
  rw [← hLZ] at HPC
  have HN := Lib.hid hNZ
  have HLE : Hid (NZ ≤ 65536) := Lib.hid (by
    have h := HPC.out
    unfold putC at h
    rw [hNZ]
    cases h1 : (cfC kOk).put x with
    | error e => rw [h1] at h; cases h
    | ok bs =>
      rw [h1] at h
      change (if bs.length ≤ 65536 then _ else _) = _ at h
      split at h
      · cases h; assumption
      · cases h)
  clear he hLZ hNZ
  go_upto_region 6 with (first
      | ((with_reducible show wpList _ _ _ (Oper.mk _ (.load _ _) _ _ _ _ :: _) _ _); refine wl_load rfl 28 _ rfl _ rfl _ (run_load_arr (HA.out.under HD.out) Tryd.underlying28 rfl infoCf) ?_)
      | (go_at_call 13; refine (HP2.out _ HD.out).mono ?_; rintro e w2 ⟨A2, d2, rfl, hc, hl, hd⟩; have HL := Lib.hid (And.intro hc hl); have HD := Lib.hid (HD.out.trans (hd.mono HD.out.size)); clear hd hc hl))
  clear HP2 HA HCX HCB HNK
  by_cases hneg : z < 0
  · have d0 : decide (z < 0) = true := decide_eq_true hneg
    clear hneg
    go_wp2_with fail
    go_ret
    exact ⟨rfl, HV.out.trans (HD.out.mono HV.out.size)⟩
  have d0 : decide (z < 0) = false := decide_eq_false hneg
  by_cases hge : (NZ : Int) ≤ z
  · have d1 : decide ((NZ : Int) ≤ z) = true := decide_eq_true hge
    clear hneg hge
    go_wp2_with fail
    go_ret
    exact ⟨rfl, HV.out.trans (HD.out.mono HV.out.size)⟩
  have d1 : decide ((NZ : Int) ≤ z) = false := decide_eq_false hge
  obtain ⟨k, rfl⟩ := Int.eq_ofNat_of_zero_le (show 0 ≤ z by omega)
  have hk : k < NZ := by omega
  obtain ⟨p, hg, hp⟩ := put_cut kOk HPC.out k (by rw [← HN.out]; exact hk)
  obtain ⟨a, ea, -, -⟩ := HL.out.2.2 (by omega)
  subst ea
  have htl : (LZ.take k).length = k := by rw [List.length_take, ← HN.out]; omega
  have hP := parse_err (A := some a) (c := d2) (b := LZ.take k) (w := w2) (by rw [htl]; have := HL.out.1; omega) (by rw [htl]; exact lies_tk HL.out.2 k (by omega)) hg
  rw [htl] at hP
  have HP := Lib.hid hP
  have hkd : (k : Int) ≤ (d2 : Int) := by have := HL.out.1; omega
  have hkn : k ≤ d2 := by have := HL.out.1; omega
  have d3 : decide (NZ ≤ k) = false := decide_eq_false (by omega)
  have HPK := Lib.hid hp
  clear hneg hge hg hp htl hP hk
  go_upto_region 9 with (first
    | (go_at_call 8; refine HP.out.mono ?_; rintro e w3 ⟨rfl, hd⟩; have HB3 := Lib.hid hd; clear hd)
    | ((with_reducible show wpList _ _ _ (Oper.mk _ (.store _ _ _) _ _ _ _ :: _) _ _); refine wl_store rfl 28 _ _ rfl _ rfl _ rfl (run_store_arr (Arr.new w3 _ _ _) (cfE 0 nilV nilV) infoCf (cfE_one _ _ _ rfl rfl _)) ?_))
  obtain ⟨W, hW⟩ : ∃ W, W = (w3.alloc (.cells (vec 3 (cfE 0 nilV nilV)) 28)).setRow w3.heap.size (vec 3 (cfE 0 nilV nilV)) := ⟨_, rfl⟩
  have hBW : Below w2.heap.size w2 W := by rw [hW]; exact below_row (HB3.out.alloc HB3.out.size _) HB3.out.size _
  rw [← hW]
  obtain ⟨x8, hx8⟩ : ∃ y, y = UInt8.ofNat mo := ⟨_, rfl⟩
  have hmx : (x8.toNat : Int) = (mo : Int) := by rw [hx8, UInt8.toNat_ofNat']; have := HZB.out.2; omega
  obtain ⟨B1, d4, w4, B2, d5, w5, q1, q2, q3, q4, q5⟩ := app_more W a d2 NZ LZ x8 HN.out ((HL.out.2.below hBW).wide hBW.size) (by have := HLE.out; omega)
  rw [hmx] at q2
  have hbt := build_b (mo : Int) w4
  have hmore := put_more kOk HPC.out x8
  have hlen : (LZ ++ [x8]).length = NZ + 1 := by rw [List.length_append, ← HN.out]; rfl
  have HQ : Hid (∀ er pl, getC kOk (LZ ++ [x8]) = .error (er, pl) → Calls Tryd.prog 8 #[.slice B2 (NZ + 1) d5] w5 fun e w' => e = .returned (.tuple #[.agg (vec 3 (cfE 0 nilV nilV)), .int .i64 (pl : Int), .int .i64 (er : Int)]) ∧ Below w5.heap.size w5 w') := Lib.hid (fun er pl hg => by
    have := parse_err (A := B2) (c := d5) (b := LZ ++ [x8]) (w := w5) q3 (by rw [hlen]; exact q4) hg
    rw [hlen] at this
    exact this)
  have HB5 : Hid (Below w2.heap.size w2 w5) := Lib.hid (hBW.trans (q5.mono hBW.size))
  have hpk : (p : Int) ≤ (k : Int) := by have := HPK.out; omega
  have hpn : p ≤ k := HPK.out
  have hnn : NZ ≤ 65536 := HLE.out
  clear hW hBW hx8 hmx q3 q4 q5 HP HPK HL hlen d0 d1
  rcases hmore with hm | hm
  · rw [← HN.out] at hm
    have HQ1 := Lib.hid (HQ.out 145 NZ hm)
    clear hm HQ
    go_wp2_with (first
      | (go_at_call 8; refine HQ1.out.mono ?_; rintro e w6 ⟨rfl, hd⟩; have HB6 := Lib.hid hd; clear hd)
      | ((with_reducible show wpList _ _ _ (Oper.mk _ (.store _ _ _) _ _ _ _ :: _) _ _); refine wl_store rfl 28 _ _ rfl _ rfl _ rfl (run_store_arr (Arr.new w6 _ _ _) (cfE 0 nilV nilV) infoCf (cfE_one _ _ _ rfl rfl _)) ?_))
    go_ret
    exact ⟨rfl, HV.out.trans ((HD.out.trans ((below_row ((HB5.out.trans (HB6.out.mono HB5.out.size)).alloc (HB5.out.trans (HB6.out.mono HB5.out.size)).size _) (HB5.out.trans (HB6.out.mono HB5.out.size)).size _).mono HD.out.size)).mono HV.out.size)⟩
  · have HQ1 := Lib.hid (HQ.out 2 0 hm)
    clear hm HQ
    go_wp2_with (first
      | (go_at_call 8; refine HQ1.out.mono ?_; rintro e w6 ⟨rfl, hd⟩; have HB6 := Lib.hid hd; clear hd)
      | ((with_reducible show wpList _ _ _ (Oper.mk _ (.store _ _ _) _ _ _ _ :: _) _ _); refine wl_store rfl 28 _ _ rfl _ rfl _ rfl (run_store_arr (Arr.new w6 _ _ _) (cfE 0 nilV nilV) infoCf (cfE_one _ _ _ rfl rfl _)) ?_))
    go_ret
    exact ⟨rfl, HV.out.trans ((HD.out.trans ((below_row ((HB5.out.trans (HB6.out.mono HB5.out.size)).alloc (HB5.out.trans (HB6.out.mono HB5.out.size)).size _) (HB5.out.trans (HB6.out.mono HB5.out.size)).size _).mono HD.out.size)).mono HV.out.size)⟩
end Go.Proofs.YtmcpmcicolpoeaaDoor
