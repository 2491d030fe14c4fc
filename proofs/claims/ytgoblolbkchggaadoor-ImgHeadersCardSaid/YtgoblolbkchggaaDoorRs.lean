/- The reference's Split. -/
import Derived.Test.YtgoblolbkchggaaDoorRo
import Derived.Test.YtgoblolbkchggaaDoorHt
namespace Go.Proofs.YtgoblolbkchggaaDoor
open Go.RowKit
attribute [local go_sem ↓ high] zeroHd

set_option maxHeartbeats 1000000 in
set_option maxRecDepth 100000 in
theorem rsplit_short (b : By) (A : Option Addr) (c : Nat) (hbl : b.length ≤ 1000000) (oid : Nat) (ho : oid < 4294967296) (w : World) (hs : isO oid = false ∨ b.length < 64 + sigN oid) : Calls Tryd.prog 13 #[.slice A b.length c, .int .u32 (oid : Int)] w (SpP (splitP b oid) w) := by
  obtain ⟨g0, hg0⟩ : ∃ g, g = w.heap.size := ⟨_, rfl⟩
  obtain ⟨V, hV⟩ : ∃ V, V = w.alloc (.cells (vec 35 (hdF zHd)) 26) := ⟨_, rfl⟩
  have k0 : Arr V g0 26 35 (hdF zHd) := by rw [hV, hg0]; exact Arr.new w _ _ _
  have hB : Below w.heap.size w V := by rw [hV]; exact (Below.refl _ _).alloc (Nat.le_refl _) _
  have HG := Lib.hid hg0
  have HW := Lib.hid hV
  have HK := Lib.hid (And.intro k0 hB)
  have HHT := Lib.hid (fun W => rheight_any oid ho W)
  obtain ⟨N, hN⟩ : ∃ n, n = b.length := ⟨_, rfl⟩
  have HNO : Hid (∀ (n : Nat) (z : Int) (W : World), splitP b oid = .error n → z = (n : Int) → Below w.heap.size w W → SpP (splitP b oid) w (.returned (.tuple #[.agg (vec 35 (hdF zHd)), .slice none 0 0, .slice none 0 0, .slice none 0 0, .int .i64 z])) W) := Lib.hid (fun n z W h1 hz h2 => by subst hz; exact SpP.no h1 h2)
  have h80 : isO oid = false → splitP b oid = .error 80 := split_no
  have h150 : isO oid = true → N < 64 + sigN oid → splitP b oid = .error 150 := fun h1 h2 => split_len h1 (by rw [← hN]; exact h2)
  obtain ⟨Q, hQ⟩ : ∃ Q, Q = SpP (splitP b oid) w := ⟨_, rfl⟩
  rw [← hQ] at HNO ⊢
  obtain ⟨S, hS⟩ : ∃ n, n = sigN oid := ⟨_, rfl⟩
  obtain ⟨k, hk⟩ : ∃ n, n = hgtO oid := ⟨_, rfl⟩
  have hkn : k ≤ 20 := by rw [hk]; unfold hgtO; split <;> (try split) <;> (try split) <;> omega
  have hSk : S = 36 + 32 * (67 + k) := by rw [hS, hk]; rfl
  rw [← hk] at HHT
  rw [← hN]
  have hN2 : N ≤ 1000000 := by rw [hN]; exact hbl
  rw [← hN, ← hS] at hs
  rw [← hS] at h150
  obtain ⟨is, his⟩ : ∃ is, is = isO oid := ⟨_, rfl⟩
  rw [← his] at HHT h80 h150 hs
  clear hV k0 hB hg0 hN hQ hS his hbl hk
  cases is
  · have HE := Lib.hid (h80 rfl)
    clear h80 h150 hs hSk
    go_enter Tryd.func13, Tryd.ntmps13
    go_upto_region 1 with fail
    rw [← HW.out, ← HG.out]
    clear HW
    go_wp2_with (first
      | (go_at_call 27; refine (HHT.out _).mono ?_; rintro e w1 ⟨rfl, hw1⟩; rw [← hw1]; clear hw1)
      | ((with_reducible show wpList _ _ _ (Oper.mk _ (.build _ _) _ _ _ _ :: _) _ _); refine wl_build rfl 26 _ rfl (vec 35 (hdF zHd)) (by kernel_rfl) ?_)
      | ((with_reducible show wpList _ _ _ (Oper.mk _ (.store 26 _ _) _ _ _ _ :: _) _ _); refine wl_store rfl 26 _ _ rfl g0 rfl _ rfl (run_store_arr (HK.out.1) (hdF zHd) infoHd (hdF_one _ _)) ?_))
    refine bodyPost_ret (results_c4 rfl _ _ _ rfl (run_load_arr (HK.out.1.row _) Tryd.underlying26 rfl infoHd)) rfl ?_
    exact HNO.out 80 80 _ HE.out rfl (below_row HK.out.2 (by have := HG.out; omega) _)
  · have hlt : N < 64 + S := by rcases hs with h | h; exact absurd h (by decide); exact h
    have HE := Lib.hid (h150 rfl hlt)
    have hlI : (N : Int) < 64 + (36 + 32 * (67 + (k : Int))) := by omega
    clear h80 h150 hs hlt hSk
    go_enter Tryd.func13, Tryd.ntmps13
    go_upto_region 1 with fail
    rw [← HW.out, ← HG.out]
    clear HW
    go_wp2_with (first
      | (go_at_call 27; refine (HHT.out _).mono ?_; rintro e w1 ⟨rfl, hw1⟩; rw [← hw1]; clear hw1)
      | ((with_reducible show wpList _ _ _ (Oper.mk _ (.build _ _) _ _ _ _ :: _) _ _); refine wl_build rfl 26 _ rfl (vec 35 (hdF zHd)) (by kernel_rfl) ?_)
      | ((with_reducible show wpList _ _ _ (Oper.mk _ (.store 26 _ _) _ _ _ _ :: _) _ _); refine wl_store rfl 26 _ _ rfl g0 rfl _ rfl (run_store_arr (HK.out.1) (hdF zHd) infoHd (hdF_one _ _)) ?_))
    refine bodyPost_ret (results_c4 rfl _ _ _ rfl (run_load_arr (HK.out.1.row _) Tryd.underlying26 rfl infoHd)) rfl ?_
    exact HNO.out 150 150 _ HE.out rfl (below_row HK.out.2 (by have := HG.out; omega) _)
set_option maxHeartbeats 1000000 in
set_option maxRecDepth 100000 in
theorem rsplit_any (b : By) (A : Option Addr) (c : Nat) (hc : b.length ≤ c) (hbl : b.length ≤ 1000000) (oid : Nat) (ho : oid < 4294967296) (w : World) (hl : Lies w w.heap.size 1 A b.length (u8s b)) : Calls Tryd.prog 13 #[.slice A b.length c, .int .u32 (oid : Int)] w (SpP (splitP b oid) w) := by
  by_cases hio : isO oid = false
  · exact rsplit_short b A c hbl oid ho w (Or.inl hio)
  by_cases hlo : b.length < 64 + sigN oid
  · exact rsplit_short b A c hbl oid ho w (Or.inr hlo)
  have hio : isO oid = true := by simpa using hio
  obtain ⟨g0, hg0⟩ : ∃ g, g = w.heap.size := ⟨_, rfl⟩
  obtain ⟨V, hV⟩ : ∃ V, V = w.alloc (.cells (vec 35 (hdF zHd)) 26) := ⟨_, rfl⟩
  have k0 : Arr V g0 26 35 (hdF zHd) := by rw [hV, hg0]; exact Arr.new w _ _ _
  have hB : Below w.heap.size w V := by rw [hV]; exact (Below.refl _ _).alloc (Nat.le_refl _) _
  have HG := Lib.hid hg0
  have HW := Lib.hid hV
  have HHT := Lib.hid (fun W => rheight_any oid ho W)
  have hsp := split_is hio hlo
  rw [hio] at HHT
  obtain ⟨S, hS⟩ : ∃ n, n = sigN oid := ⟨_, rfl⟩
  obtain ⟨k, hk⟩ : ∃ n, n = hgtO oid := ⟨_, rfl⟩
  have hkn : k ≤ 20 := by rw [hk]; unfold hgtO; split <;> (try split) <;> (try split) <;> omega
  have hSk : S = 36 + 32 * (67 + k) := by rw [hS, hk]; rfl
  rw [← hk] at HHT
  obtain ⟨N, hN⟩ : ∃ n, n = b.length := ⟨_, rfl⟩
  rw [← hN] at hl hc hbl hlo hsp ⊢
  rw [← hS] at hlo hsp
  obtain ⟨T, hT⟩ : ∃ n, n = 64 + S := ⟨_, rfl⟩
  obtain ⟨a, rfl, hab, hc64⟩ := lies_cells hl hN.symm (show 64 ≤ N by omega) (by decide)
  obtain ⟨H64, hH⟩ : ∃ l, l = b.take 64 := ⟨_, rfl⟩
  have hHl : H64.length = 64 := by rw [hH, List.length_take]; omega
  have l64 : Lies w w.heap.size 1 (some a) 64 (u8s H64) := by rw [hH]; exact lies_take hl (by omega) hN.symm
  obtain ⟨B1, hB1⟩ : ∃ p, p = cutA a c 64 := ⟨_, rfl⟩
  obtain ⟨C1, hC1⟩ : ∃ n, n = c - 64 := ⟨_, rfl⟩
  obtain ⟨B2, hB2⟩ : ∃ p, p = cutA a c T := ⟨_, rfl⟩
  obtain ⟨C2, hC2⟩ : ∃ n, n = c - T := ⟨_, rfl⟩
  obtain ⟨PL, hPL⟩ : ∃ n, n = N - 64 - S := ⟨_, rfl⟩
  obtain ⟨sg, hsg⟩ : ∃ l, l = cutB b 64 S := ⟨_, rfl⟩
  obtain ⟨py, hpy⟩ : ∃ l, l = b.drop (64 + S) := ⟨_, rfl⟩
  have hsl : sg.length = S := by rw [hsg]; exact cutB_len _ _ _ (by omega)
  have hpl : py.length = PL := by rw [hpy, List.length_drop]; omega
  have lsg : Lies w w.heap.size 1 (some B1) S (u8s sg) := by
    rw [hsg, hB1]
    exact lies_take (lies_from hl hN.symm (by omega) hc) (by omega) (by rw [List.length_drop]; omega)
  have lpy : Lies w w.heap.size 1 (some B2) PL (u8s py) := by
    have := lies_from hl hN.symm (show T ≤ N by omega) hc
    rw [hpy, hB2, ← hT, show PL = N - T by omega]
    exact this
  obtain ⟨R, hR⟩ : ∃ R, R = readH H64 := ⟨_, rfl⟩
  rw [← hH, ← hsg, ← hpy, ← hR, ← hPL] at hsp
  have HS1 := Lib.hid (fun W => slice_hi a N c 64 (by omega) (by omega) W)
  have HS2 := Lib.hid (fun W => slice_lh a N c 64 T (by omega) (by omega) (by omega) W)
  have HS3 := Lib.hid (fun W => slice_lo a N c T (by omega) W)
  rw [← hB1, ← hC1, show T - 64 = S by omega] at HS2
  rw [← hB2, ← hC2, show N - T = PL by omega] at HS3
  have HRF : Hid (∀ W, Below w.heap.size w W → Calls Tryd.prog 11 #[.slice (some a) 64 c] W (OfP (ofH H64) W)) := Lib.hid (fun W hW => by
    have := rof_any H64 (some a) c (by omega) W (by rw [hHl]; exact (l64.below hW).wide hW.size)
    rw [hHl] at this
    exact this)
  have HSLI : Hid (∀ W, Below w.heap.size w W → SliB W (.slice (some a) 64 c) H64 ∧ SliB W (.slice (some B1) S C1) sg ∧ SliB W (.slice (some B2) PL C2) py) := Lib.hid (fun W hW => by
    refine ⟨⟨some a, c, by rw [hHl], by omega, ?_⟩, ⟨some B1, C1, by rw [hsl], by omega, ?_⟩, ⟨some B2, C2, by rw [hpl], by omega, ?_⟩⟩
    · rw [hHl]; exact (l64.below hW).wide hW.size
    · rw [hsl]; exact (lsg.below hW).wide hW.size
    · rw [hpl]; exact (lpy.below hW).wide hW.size)
  have HNO : Hid (∀ (n : Nat) (z : Int) (W : World), splitP b oid = .error n → z = (n : Int) → Below w.heap.size w W → SpP (splitP b oid) w (.returned (.tuple #[.agg (vec 35 (hdF zHd)), .slice none 0 0, .slice none 0 0, .slice none 0 0, .int .i64 z])) W) := Lib.hid (fun n z W h1 hz h2 => by subst hz; exact SpP.no h1 h2)
  have HYES : Hid (∀ (h : Hd) (v1 v2 v3 : Value) (W : World), splitP b oid = .ok (h, H64, sg, py) → SliB W v1 H64 → SliB W v2 sg → SliB W v3 py → Below w.heap.size w W → SpP (splitP b oid) w (.returned (.tuple #[.agg (vec 35 (hdF h)), v1, v2, v3, .int .i64 0])) W) := Lib.hid (fun h v1 v2 v3 W h1 h2 h3 h4 h5 => SpP.yes h1 h2 h3 h4 h5)
  obtain ⟨O, hO⟩ : ∃ O, O = splitP b oid := ⟨_, rfl⟩
  rw [← hO] at hsp HNO HYES ⊢
  obtain ⟨Q, hQ⟩ : ∃ Q, Q = SpP O w := ⟨_, rfl⟩
  rw [← hQ] at HNO HYES ⊢
  obtain ⟨q, hq⟩ : ∃ q, q = isH H64 := ⟨_, rfl⟩
  obtain ⟨z, hz⟩ : ∃ z, z = R.size := ⟨_, rfl⟩
  have hzb : 0 ≤ z ∧ z < 4294967296 := by rw [hz, hR]; exact (readH_b hHl).size
  have HOF : Hid (ofH H64 = if q = true then some R else none) := Lib.hid (by rw [hq, hR]; rfl)
  rw [← hq, ← hz] at hsp
  have HSP := Lib.hid hsp
  have HZ := Lib.hid hz
  have hTI : (64 : Int) + (S : Int) = (T : Int) := by omega
  have hNI : ¬ (N : Int) < (T : Int) := by omega
  have hKS : (36 : Int) + 32 * (67 + (k : Int)) = (S : Int) := by omega
  have hPI : (N : Int) - 64 - (S : Int) = (PL : Int) := by omega
  have wP : IntKind.u64.wrap (PL : Int) = (PL : Int) := by rw [IntKind.wrap_u64]; omega
  have wz : IntKind.u64.wrap z = z := by rw [IntKind.wrap_u64]; omega
  have hSn : S ≤ 10000 := by omega
  have HWT : Hid (IntKind.i64.wrap (T : Int) = (T : Int)) := Lib.hid (by rw [IntKind.wrap_i64]; omega)
  have hTN : T ≤ N ∧ 64 ≤ N ∧ N ≤ c := by omega
  have HK := Lib.hid (And.intro k0 hB)
  have HLE : Hid (w.heap.size ≤ g0) := Lib.hid (by rw [hg0]; exact Nat.le_refl _)
  have HKS := Lib.hid hKS
  have HTI := Lib.hid hTI
  have HNI := Lib.hid hNI
  have HPI := Lib.hid (And.intro hPI wP)
  clear hV k0 hB hg0 hS hSk hN hl hB1 hC1 hB2 hC2 hPL hH hHl hsg hpy hsl hpl lsg lpy l64 hR hO hQ hq hz hsp hab hc64 hlo hio hk hT hTI hNI hKS hPI wP hc
  go_enter Tryd.func13, Tryd.ntmps13
  go_upto_region 1 with fail
  rw [← HW.out, ← HG.out]
  clear HW
  go_upto_region 5 with (go_at_call 27; refine (HHT.out _).mono ?_; rintro e w1 ⟨rfl, hw1⟩; rw [← hw1]; clear hw1)
  rw [HKS.out]
  have hTI := HTI.out
  have hNI := HNI.out
  clear HKS
  go_upto_region 7 with fail
  cases q
  · have hof : ofH H64 = none := by rw [HOF.out]; rfl
    rw [hof] at HRF
    clear hof HOF
    unfold OfP at HRF
    simp only at HRF
    go_upto_region 8 with (first
      | ((with_reducible show wpList _ _ _ (Oper.mk _ (.slice _ _ _ _ _) _ _ _ _ :: _) _ _); refine wl_execG (by kernel_rfl) (exec_slice_hi 27 _ _ rfl (.slice (some a) N c) (.int .i64 ((64 : Nat) : Int)) rfl rfl (HS1.out _)) ?_)
      | (go_at_call 11; refine (HRF.out _ HK.out.2).mono ?_; rintro e w2 ⟨rfl, hd⟩; have HD := Lib.hid hd; clear hd)
      | ((with_reducible show wpList _ _ _ (Oper.mk _ (.store 26 _ _) _ _ _ _ :: _) _ _); refine wl_store rfl 26 _ _ rfl _ rfl _ rfl (run_store_arr (Arr.new w2 _ _ _) (hdF zHd) infoHd (hdF_one _ _)) ?_))
    obtain ⟨X, hX⟩ : ∃ X, X = (w2.alloc (.cells (vec 35 (hdF zHd)) 26)).setRow w2.heap.size (vec 35 (hdF zHd)) := ⟨_, rfl⟩
    have hb2 : Below w2.heap.size w2 X := by rw [hX]; exact below_row ((Below.refl _ _).alloc (Nat.le_refl _) _) (Nat.le_refl _) _
    have hVX : Below V.heap.size V X := HD.out.trans (hb2.mono HD.out.size)
    have HX := Lib.hid (And.intro (HK.out.1.under hVX) (HK.out.2.trans (hVX.mono HK.out.2.size)))
    rw [← hX]
    clear hX hb2 hVX HD HRF
    go_wp2_with (first
      | ((with_reducible show wpList _ _ _ (Oper.mk _ (.build _ _) _ _ _ _ :: _) _ _); refine wl_build rfl 26 _ rfl (vec 35 (hdF zHd)) (by kernel_rfl) ?_)
      | ((with_reducible show wpList _ _ _ (Oper.mk _ (.store 26 _ _) _ _ _ _ :: _) _ _); refine wl_store rfl 26 _ _ rfl g0 rfl _ rfl (run_store_arr (HX.out.1) (hdF zHd) infoHd (hdF_one _ _)) ?_))
    refine bodyPost_ret (results_c4 rfl _ _ _ rfl (run_load_arr (HX.out.1.row _) Tryd.underlying26 rfl infoHd)) rfl ?_
    exact HNO.out 150 150 _ (by rw [HSP.out]; rfl) rfl (below_row HX.out.2 HLE.out _)
  · have hof : ofH H64 = some R := by rw [HOF.out]; rfl
    rw [hof] at HRF
    clear hof HOF
    unfold OfP at HRF
    simp only at HRF
    go_upto_region 8 with (first
      | ((with_reducible show wpList _ _ _ (Oper.mk _ (.slice _ _ _ _ _) _ _ _ _ :: _) _ _); refine wl_execG (by kernel_rfl) (exec_slice_hi 27 _ _ rfl (.slice (some a) N c) (.int .i64 ((64 : Nat) : Int)) rfl rfl (HS1.out _)) ?_)
      | (go_at_call 11; refine (HRF.out _ HK.out.2).mono ?_; rintro e w2 ⟨rfl, hd⟩; have HD := Lib.hid hd; clear hd)
      | ((with_reducible show wpList _ _ _ (Oper.mk _ (.store 26 _ _) _ _ _ _ :: _) _ _); refine wl_store rfl 26 _ _ rfl _ rfl _ rfl (run_store_arr (Arr.new w2 _ _ _) (hdF R) infoHd (hdF_one _ _)) ?_))
    obtain ⟨m, hm⟩ : ∃ k, k = w2.heap.size := ⟨_, rfl⟩
    obtain ⟨X, hX⟩ : ∃ X, X = (w2.alloc (.cells (vec 35 (hdF zHd)) 26)).setRow w2.heap.size (vec 35 (hdF R)) := ⟨_, rfl⟩
    have hb2 : Below w2.heap.size w2 X := by rw [hX]; exact below_row ((Below.refl _ _).alloc (Nat.le_refl _) _) (Nat.le_refl _) _
    have hVX : Below V.heap.size V X := HD.out.trans (hb2.mono HD.out.size)
    have x1 : Arr X m 26 35 (hdF R) := by rw [hX, hm]; exact (Arr.new w2 _ _ _).row _
    have c1 : X.cell? ⟨m, 1, none⟩ = some (.int .u32 z) := by rw [HZ.out]; exact x1.cell (i := 1) (by decide)
    have hgm : g0 ≠ m := by have := HK.out.1.lt; have := HD.out.size; omega
    have HX := Lib.hid (And.intro (HK.out.1.under hVX) (And.intro (HK.out.2.trans (hVX.mono HK.out.2.size)) (And.intro x1 hgm)))
    rw [← hX, ← hm]
    clear hX hb2 hVX HD HRF hm x1 hgm
    obtain ⟨s, hs⟩ : ∃ s, s = decide ((PL : Int) = z) := ⟨_, rfl⟩
    rw [← hs] at HSP
    have hPI := HPI.out.1
    have wP := HPI.out.2
    cases s
    · have n1 := of_decide_eq_false hs.symm
      have n2 : ((PL : Int) == z) = false := by simpa using n1
      have n3 : ((PL : Int) != z) = true := by simpa using n1
      clear hs
      go_wp2_with (first
        | ((with_reducible show wpList _ _ _ (Oper.mk _ (.build _ _) _ _ _ _ :: _) _ _); refine wl_build rfl 26 _ rfl (vec 35 (hdF zHd)) (by kernel_rfl) ?_)
        | ((with_reducible show wpList _ _ _ (Oper.mk _ (.store 26 _ _) _ _ _ _ :: _) _ _); refine wl_store rfl 26 _ _ rfl g0 rfl _ rfl (run_store_arr (HX.out.1) (hdF zHd) infoHd (hdF_one _ _)) ?_))
      refine bodyPost_ret (results_c4 rfl _ _ _ rfl (run_load_arr (HX.out.1.row _) Tryd.underlying26 rfl infoHd)) rfl ?_
      exact HNO.out 150 150 _ (by rw [HSP.out]; rfl) rfl (below_row HX.out.2.1 HLE.out _)
    · have n1 := of_decide_eq_true hs.symm
      subst n1
      clear hs
      go_upto_region 10 with fail
      clear hPI wP c1 wz
      refine wp_region_held_drew (S := fun Y => Save g0 X Y ∧ ∃ f, Arr Y g0 26 35 f) (by kernel_rfl) ⟨Save.of_below (VS.begin X), _, HX.out.1⟩ (fun hS => ?_)
      (refine held_take (i := 0) (oi := ?ot1) (v := .agg (vec 35 (hdF R))) ?at1 (by kernel_rfl) (by kernel_rfl) (by kernel_rfl) ?bt1 ?ct1 ?dt1 (by assumption) ?rt1; (case at1 => (simp only [List.getElem?_toArray, List.getElem?_cons_zero]; rfl)); (case bt1 => exact fun _ _ _ h => h); (case ct1 => kernel_rfl); (case dt1 => (intro W hW; exact exec_load_at 26 _ rfl _ _ rfl _ (run_load_arr (HX.out.2.2.1.save hW.1 (Ne.symm HX.out.2.2.2)) Tryd.underlying26 rfl infoHd))); (case' rt1 => simp only [Act.put, List.setIfInBounds_toArray, List.set_cons_zero, List.set_cons_succ]))
      (refine held_take (i := 1) (oi := ?ot2) (v := ?vt2) ?at2 (by kernel_rfl) (by kernel_rfl) (by kernel_rfl) ?bt2 ?ct2 ?dt2 (by assumption) ?rt2; (case at2 => (simp only [List.getElem?_toArray, List.getElem?_cons_zero, List.getElem?_cons_succ]; rfl)); (case bt2 => exact fun _ _ _ h => h); (case ct2 => kernel_rfl); (case dt2 => (intro W hW; (try dsimp only at hW); go_split_ands; go_simp; (try with_reducible rfl))); (case' rt2 => simp only [Act.put, List.setIfInBounds_toArray, List.set_cons_zero, List.set_cons_succ]))
      (refine held_take (i := 2) (oi := ?ot3) (v := .slice (some a) 64 c) ?at3 (by kernel_rfl) (by kernel_rfl) (by kernel_rfl) ?bt3 ?ct3 ?dt3 (by assumption) ?rt3; (case at3 => (simp only [List.getElem?_toArray, List.getElem?_cons_zero, List.getElem?_cons_succ]; rfl)); (case bt3 => exact fun _ _ _ h => h); (case ct3 => kernel_rfl); (case dt3 => (intro W hW; exact exec_slice_hi 27 _ _ rfl (.slice (some a) N c) (.int .i64 ((64 : Nat) : Int)) rfl rfl (HS1.out W))); (case' rt3 => simp only [Act.put, List.setIfInBounds_toArray, List.set_cons_zero, List.set_cons_succ]))
      (refine held_take (i := 3) (oi := ?ot4) (v := ?vt4) ?at4 (by kernel_rfl) (by kernel_rfl) (by kernel_rfl) ?bt4 ?ct4 ?dt4 (by assumption) ?rt4; (case at4 => (simp only [List.getElem?_toArray, List.getElem?_cons_zero, List.getElem?_cons_succ]; rfl)); (case bt4 => exact fun _ _ _ h => h); (case ct4 => kernel_rfl); (case dt4 => (intro W hW; (try dsimp only at hW); go_split_ands; go_simp; (try with_reducible rfl))); (case' rt4 => simp only [Act.put, List.setIfInBounds_toArray, List.set_cons_zero, List.set_cons_succ]))
      (refine held_take (i := 4) (oi := ?ot5) (v := ?vt5) ?at5 (by kernel_rfl) (by kernel_rfl) (by kernel_rfl) ?bt5 ?ct5 ?dt5 (by assumption) ?rt5; (case at5 => (simp only [List.getElem?_toArray, List.getElem?_cons_zero, List.getElem?_cons_succ]; rfl)); (case bt5 => exact fun _ _ _ h => h); (case ct5 => kernel_rfl); (case dt5 => (intro W hW; (try dsimp only at hW); go_split_ands; go_simp; (try with_reducible rfl))); (case' rt5 => simp only [Act.put, List.setIfInBounds_toArray, List.set_cons_zero, List.set_cons_succ]))
      (refine held_take (i := 5) (oi := ?ot6) (v := .int .i64 (T : Int)) ?at6 (by kernel_rfl) (by kernel_rfl) (by kernel_rfl) ?bt6 ?ct6 ?dt6 (by assumption) ?rt6; (case at6 => (simp only [List.getElem?_toArray, List.getElem?_cons_zero, List.getElem?_cons_succ]; rfl)); (case bt6 => exact fun _ _ _ h => h); (case ct6 => kernel_rfl); (case dt6 => (intro W hW; clear hW; have wT := HWT.out; go_simp; (try with_reducible rfl))); (case' rt6 => simp only [Act.put, List.setIfInBounds_toArray, List.set_cons_zero, List.set_cons_succ]))
      (refine held_take (i := 6) (oi := ?ot7) (v := .slice (some B1) S C1) ?at7 (by kernel_rfl) (by kernel_rfl) (by kernel_rfl) ?bt7 ?ct7 ?dt7 (by assumption) ?rt7; (case at7 => (simp only [List.getElem?_toArray, List.getElem?_cons_zero, List.getElem?_cons_succ]; rfl)); (case bt7 => exact fun _ _ _ h => h); (case ct7 => kernel_rfl); (case dt7 => (intro W hW; exact exec_slice_lh 27 _ _ _ rfl (.slice (some a) N c) (.int .i64 ((64 : Nat) : Int)) (.int .i64 (T : Int)) rfl rfl rfl (HS2.out W))); (case' rt7 => simp only [Act.put, List.setIfInBounds_toArray, List.set_cons_zero, List.set_cons_succ]))
      (refine held_take (i := 7) (oi := ?ot8) (v := ?vt8) ?at8 (by kernel_rfl) (by kernel_rfl) (by kernel_rfl) ?bt8 ?ct8 ?dt8 (by assumption) ?rt8; (case at8 => (simp only [List.getElem?_toArray, List.getElem?_cons_zero, List.getElem?_cons_succ]; rfl)); (case bt8 => exact fun _ _ _ h => h); (case ct8 => kernel_rfl); (case dt8 => (intro W hW; (try dsimp only at hW); go_split_ands; go_simp; (try with_reducible rfl))); (case' rt8 => simp only [Act.put, List.setIfInBounds_toArray, List.set_cons_zero, List.set_cons_succ]))
      (refine held_take (i := 8) (oi := ?ot9) (v := ?vt9) ?at9 (by kernel_rfl) (by kernel_rfl) (by kernel_rfl) ?bt9 ?ct9 ?dt9 (by assumption) ?rt9; (case at9 => (simp only [List.getElem?_toArray, List.getElem?_cons_zero, List.getElem?_cons_succ]; rfl)); (case bt9 => exact fun _ _ _ h => h); (case ct9 => kernel_rfl); (case dt9 => (intro W hW; (try dsimp only at hW); go_split_ands; go_simp; (try with_reducible rfl))); (case' rt9 => simp only [Act.put, List.setIfInBounds_toArray, List.set_cons_zero, List.set_cons_succ]))
      (refine held_take (i := 9) (oi := ?ot10) (v := .int .i64 (T : Int)) ?at10 (by kernel_rfl) (by kernel_rfl) (by kernel_rfl) ?bt10 ?ct10 ?dt10 (by assumption) ?rt10; (case at10 => (simp only [List.getElem?_toArray, List.getElem?_cons_zero, List.getElem?_cons_succ]; rfl)); (case bt10 => exact fun _ _ _ h => h); (case ct10 => kernel_rfl); (case dt10 => (intro W hW; clear hW; have wT := HWT.out; go_simp; (try with_reducible rfl))); (case' rt10 => simp only [Act.put, List.setIfInBounds_toArray, List.set_cons_zero, List.set_cons_succ]))
      (refine held_take (i := 10) (oi := ?ot11) (v := .slice (some B2) PL C2) ?at11 (by kernel_rfl) (by kernel_rfl) (by kernel_rfl) ?bt11 ?ct11 ?dt11 (by assumption) ?rt11; (case at11 => (simp only [List.getElem?_toArray, List.getElem?_cons_zero, List.getElem?_cons_succ]; rfl)); (case bt11 => exact fun _ _ _ h => h); (case ct11 => kernel_rfl); (case dt11 => (intro W hW; exact exec_slice_lo 27 _ _ rfl (.slice (some a) N c) (.int .i64 (T : Int)) rfl rfl (HS3.out W))); (case' rt11 => simp only [Act.put, List.setIfInBounds_toArray, List.set_cons_zero, List.set_cons_succ]))
      refine held_one (i := 11) (oi := ?ot12) (by kernel_rfl) ?at12 ?ct12 (fun K11 hK11 => ?_)
      (case at12 => (simp only [List.getElem?_toArray, List.getElem?_cons_zero, List.getElem?_cons_succ]; rfl))
      (case ct12 => kernel_rfl)
      obtain ⟨fR, hR⟩ := hS.2
      refine ow_store 26 _ _ rfl _ rfl _ rfl (run_store_arr hR (hdF R) infoHd (hdF_one _ _)) ?_
      have hRR := hR.row (hdF R)
      refine hK11 _ _ ⟨hS.1.setRow _, _, hRR⟩ (fun hS11 => ?_)
      have HF := Lib.hid (And.intro hRR hS11.1)
      clear hK11 K11 hRR
      (refine held_take (i := 12) (oi := ?ot13) (v := ?vt13) ?at13 (by kernel_rfl) (by kernel_rfl) (by kernel_rfl) ?bt13 ?ct13 ?dt13 (by assumption) ?rt13; (case at13 => (simp only [List.getElem?_toArray, List.getElem?_cons_zero, List.getElem?_cons_succ]; rfl)); (case bt13 => exact fun _ _ _ h => h); (case ct13 => kernel_rfl); (case dt13 => (intro W hW; (try dsimp only at hW); go_split_ands; go_simp; (try with_reducible rfl))); (case' rt13 => simp only [Act.put, List.setIfInBounds_toArray, List.set_cons_zero, List.set_cons_succ]))
      (refine held_take (i := 13) (oi := ?ot14) (v := ?vt14) ?at14 (by kernel_rfl) (by kernel_rfl) (by kernel_rfl) ?bt14 ?ct14 ?dt14 (by assumption) ?rt14; (case at14 => (simp only [List.getElem?_toArray, List.getElem?_cons_zero, List.getElem?_cons_succ]; rfl)); (case bt14 => exact fun _ _ _ h => h); (case ct14 => kernel_rfl); (case dt14 => (intro W hW; (try dsimp only at hW); go_split_ands; go_simp; (try with_reducible rfl))); (case' rt14 => simp only [Act.put, List.setIfInBounds_toArray, List.set_cons_zero, List.set_cons_succ]))
      (refine held_take (i := 14) (oi := ?ot15) (v := ?vt15) ?at15 (by kernel_rfl) (by kernel_rfl) (by kernel_rfl) ?bt15 ?ct15 ?dt15 (by assumption) ?rt15; (case at15 => (simp only [List.getElem?_toArray, List.getElem?_cons_zero, List.getElem?_cons_succ]; rfl)); (case bt15 => exact fun _ _ _ h => h); (case ct15 => kernel_rfl); (case dt15 => (intro W hW; (try dsimp only at hW); go_split_ands; go_simp; (try with_reducible rfl))); (case' rt15 => simp only [Act.put, List.setIfInBounds_toArray, List.set_cons_zero, List.set_cons_succ]))
      (refine held_take (i := 15) (oi := ?ot16) (v := ?vt16) ?at16 (by kernel_rfl) (by kernel_rfl) (by kernel_rfl) ?bt16 ?ct16 ?dt16 (by assumption) ?rt16; (case at16 => (simp only [List.getElem?_toArray, List.getElem?_cons_zero, List.getElem?_cons_succ]; rfl)); (case bt16 => exact fun _ _ _ h => h); (case ct16 => kernel_rfl); (case dt16 => (intro W hW; (try dsimp only at hW); go_split_ands; go_simp; (try with_reducible rfl))); (case' rt16 => simp only [Act.put, List.setIfInBounds_toArray, List.set_cons_zero, List.set_cons_succ]))
      refine wpAnyH_done (by kernel_rfl) ?_ _
      have hwF := HX.out.2.1.trans (HF.out.2.below HLE.out HX.out.2.1.size)
      have HFW := Lib.hid (And.intro hwF (HSLI.out _ hwF))
      clear hwF
      go_wp2
      refine bodyPost_ret (results_c4 rfl _ _ _ rfl (run_load_arr HF.out.1 Tryd.underlying26 rfl infoHd)) rfl ?_
      exact HYES.out R _ _ _ _ (by rw [HSP.out]; rfl) HFW.out.2.1 HFW.out.2.2.1 HFW.out.2.2.2 HFW.out.1
end Go.Proofs.YtgoblolbkchggaaDoor
