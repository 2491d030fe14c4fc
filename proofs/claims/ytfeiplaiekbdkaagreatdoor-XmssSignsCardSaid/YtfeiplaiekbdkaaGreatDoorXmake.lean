/- Make. -/
import Derived.Test.YtfeiplaiekbdkaaGreatDoorWk
import Derived.Test.YtfeiplaiekbdkaaGreatDoorWy
import Derived.Test.YtfeiplaiekbdkaaGreatDoorWx
import Derived.Test.YtfeiplaiekbdkaaGreatDoorWt
namespace Go.Proofs.YtfeiplaiekbdkaaGreatDoor
open Go.RowKit
attribute [local go_sem ↓ high] zeroV26 zeroKey zeroSig zeroSz

/-- The contract of Make, of each of the two. -/
def mkR (_oid : Nat) (secret seed : Nd) (idx : Nat) (auth : List Nd) : Nd := rootD (leafD (endsF secret seed idx d15) seed idx) idx auth seed
def mkF (oid : Nat) (secret seed : Nd) (idx : Nat) (auth : List Nd) : Nat → Value := if psE oid idx 67 auth.length = 0 then keyF (oid : Int) (mkR oid secret seed idx auth) seed else keyF 0 zb zb
def MakeAns (F : Nat) : Prop := ∀ (oid : Nat) (secret seed : Nd) (idx : Nat) (A : Option Addr) (n2 c : Nat) (auth : List Nd) (w : World), oid < 4294967296 → idx < 4294967296 → auth.length ≤ 1000 → n2 = auth.length → NRow w w.heap.size A auth → Tabs w →
  Calls Tryz.prog F #[.int .u32 (oid : Int), .agg (vec 32 (bys secret)), .agg (vec 32 (bys seed)), .int .u32 (idx : Int), .slice A n2 c] w fun e w' => e = .returned (.tuple #[.agg (vec 65 (mkF oid secret seed idx auth)), .int .i64 ((psE oid idx 67 n2 : Nat) : Int)]) ∧ Below w.heap.size w w'
theorem mkF_bad {oid : Nat} {secret seed : Nd} {idx : Nat} {auth : List Nd} (h : psE oid idx 67 auth.length ≠ 0) : mkF oid secret seed idx auth = keyF 0 zb zb := if_neg h
theorem mkF_good {oid : Nat} {secret seed : Nd} {idx : Nat} {auth : List Nd} (h : psE oid idx 67 auth.length = 0) : mkF oid secret seed idx auth = keyF (oid : Int) (mkR oid secret seed idx auth) seed := if_pos h
theorem psOk_67 (oid idx n2 : Nat) : psOk oid idx 67 n2 = plcd idx (hgtO oid) n2 := by unfold psOk; simp

set_option maxHeartbeats 4000000 in
set_option maxRecDepth 100000 in
theorem make_x : MakeAns 8 := by
  intro oid secret seed idx A n2 c auth w hoid hidx ha hn2 h1 hT
  obtain ⟨V, hV⟩ : ∃ V, V = ((w.alloc (.cells (vec 32 (bys secret)) 30)).alloc (.cells (vec 32 (bys seed)) 30)).alloc (.cells (vec 65 (keyF 0 zb zb)) 33) := ⟨_, rfl⟩
  have k0 : Arr V w.heap.size 30 32 (bys secret) := by rw [hV]; exact ((Arr.newAt _ _ _ _ (by simp)).alloc _).alloc _
  have k1 : Arr V (w.heap.size + 1) 30 32 (bys seed) := by rw [hV]; exact (Arr.newAt _ _ _ _ (by simp)).alloc _
  have k2 : Arr V (w.heap.size + 2) 33 65 (keyF 0 zb zb) := by rw [hV]; exact Arr.newAt _ _ _ _ (by simp)
  have hB : Below w.heap.size w V := by rw [hV]; exact (((Below.refl _ _).alloc (by simp <;> omega) _).alloc (by simp <;> omega) _).alloc (by simp <;> omega) _
  have HA := Lib.hid (And.intro k0 (And.intro k1 (And.intro k2 hB)))
  have HR := Lib.hid (And.intro ((h1.below hB).wide hB.size) (tabs_below hT hB))
  have HW := Lib.hid hV
  have HO := Lib.hid (And.intro hidx (And.intro hn2 ha))
  have HH := Lib.hid (fun W => height_any oid hoid W)
  cases his : isO oid with
  | false =>
    have e1 : psE oid idx 67 n2 = 80 := by unfold psE; rw [his]; rfl
    have e2 : mkF oid secret seed idx auth = keyF 0 zb zb := mkF_bad (by rw [← hn2, e1]; decide)
    rw [e1, e2]
    rw [his] at HH
    obtain ⟨h, hh⟩ : ∃ h, h = hgtO oid := ⟨_, rfl⟩
    rw [← hh] at HH
    have HK := Lib.hid (And.intro k2 hB)
    clear hV k0 k1 k2 hB h1 hT hn2 ha e1 e2 his hh
    go_enter Tryz.func8, Tryz.ntmps8
    go_upto_region 1 with fail
    rw [← HW.out]
    clear HW
    go_wp2_with (first
    | (go_at_call 24; refine (HH.out _).mono ?_; rintro e w1 ⟨rfl, hw1⟩; rw [← hw1]; clear hw1)
      | ((with_reducible show wpList _ _ _ (Oper.mk _ (.build 33 _) _ _ _ _ :: _) _ _); refine wl_build rfl 33 _ rfl (vec 65 (keyF 0 zb zb)) (by kernel_rfl) ?_)
      | ((with_reducible show wpList _ _ _ (Oper.mk _ (.store 33 _ _) _ _ _ _ :: _) _ _); refine wl_store rfl 33 _ _ rfl _ rfl _ rfl (run_store_arr HK.out.1 (keyF 0 zb zb) infoKey (keyF_one _ _ _ _)) ?_))
    exact bodyPost_ret (results_ct rfl _ _ _ rfl (run_load_arr (HK.out.1.row _) Tryz.underlying33 rfl infoKey)) rfl ⟨rfl, below_row HK.out.2 (by omega) _⟩
  | true =>
    have hh := hgtO_is8 his
    rw [his] at HH
    have hE : psE oid idx 67 n2 = (if plcd idx (hgtO oid) n2 then 0 else 81) := by unfold psE; rw [his, psOk_67]; rfl
    have HP := Lib.hid (fun W => szPlaced_any idx hidx zb (.slice none 0 0) A n2 c (hgtO oid) hh W)
    obtain ⟨q, hq⟩ : ∃ q, q = plcd idx (hgtO oid) n2 := ⟨_, rfl⟩
    rw [← hq] at HP hE
    obtain ⟨h, hh⟩ : ∃ h, h = hgtO oid := ⟨_, rfl⟩
    rw [← hh] at HH HP
    have hMK : mkF oid secret seed idx auth = (if q then keyF (oid : Int) (mkR oid secret seed idx auth) seed else keyF 0 zb zb) := by
      cases q
      · exact mkF_bad (by rw [← hn2, hE]; decide)
      · exact mkF_good (by rw [← hn2, hE]; rfl)
    obtain ⟨L, hL⟩ : ∃ L, L = endsF secret seed idx d15 := ⟨_, rfl⟩
    have hmr : mkR oid secret seed idx auth = rootD (leafD L seed idx) idx auth seed := by rw [hL]; rfl
    obtain ⟨RT, hRT⟩ : ∃ RT, RT = mkR oid secret seed idx auth := ⟨_, rfl⟩
    rw [← hRT] at hMK hmr
    have HEN := Lib.hid hL
    have HRT := Lib.hid hmr.symm
    rw [hE, hMK]
    clear hV k0 k1 k2 hB h1 hT hn2 ha his hh hq hE hMK hL hmr hRT
    go_enter Tryz.func8, Tryz.ntmps8
    go_upto_region 1 with fail
    rw [← HW.out]
    clear HW
    go_upto_region 5 with (first
      | (go_at_call 24; refine (HH.out _).mono ?_; rintro e w1 ⟨rfl, hw1⟩; rw [← hw1]; clear hw1)
      | ((with_reducible show wpList _ _ _ (Oper.mk _ (.build 46 _) _ _ _ _ :: _) _ _); refine wl_build rfl 46 _ rfl (vec 35 (sigF (idx : Int) zb (.slice none 0 0) (.slice A n2 c))) (by kernel_rfl) ?_)
      | ((with_reducible show wpList _ _ _ (Oper.mk _ (.build 58 _) _ _ _ _ :: _) _ _); refine wl_build rfl 58 _ rfl (vec 36 (szF (idx : Int) zb (.slice none 0 0) (.slice A n2 c) (h : Int))) (by kernel_rfl) ?_)
      | ((with_reducible show wpList _ _ _ (Oper.mk _ (.store _ _ _) _ _ _ _ :: _) _ _); refine wl_store rfl 58 _ _ rfl _ rfl _ rfl (run_store_arr (Arr.new V _ _ _) (szF (idx : Int) zb (.slice none 0 0) (.slice A n2 c) (h : Int)) infoSz (szF_one _ _ _ _ _ rfl rfl _)) ?_))
    obtain ⟨g14, hg14⟩ : ∃ g, g = V.heap.size := ⟨_, rfl⟩
    obtain ⟨X, hX⟩ : ∃ X, X = (V.alloc (.cells (vec 36 (szF 0 zb (.slice none 0 0) (.slice none 0 0) 0)) 58)).setRow V.heap.size (vec 36 (szF (idx : Int) zb (.slice none 0 0) (.slice A n2 c) (h : Int))) := ⟨_, rfl⟩
    have hK : Arr X g14 58 36 (szF (idx : Int) zb (.slice none 0 0) (.slice A n2 c) (h : Int)) := by rw [hX, hg14]; exact (Arr.new V _ _ _).row _
    have hb : Below V.heap.size V X := by rw [hX]; exact below_row ((Below.refl _ _).alloc (Nat.le_refl _) _) (Nat.le_refl _) _
    have HX := Lib.hid (And.intro hK (And.intro (HA.out.1.under hb) (And.intro (HA.out.2.1.under hb) (And.intro (HA.out.2.2.1.under hb) (And.intro (HA.out.2.2.2.trans (hb.mono HA.out.2.2.2.size)) (And.intro ((HR.out.1.below hb).wide hb.size) (tabs_below HR.out.2 hb)))))))
    rw [← hX, ← hg14]
    clear hX hg14 hK hb HA HR
    cases q
    · have HK := Lib.hid (And.intro HX.out.2.2.2.1 HX.out.2.2.2.2.1)
      go_wp2_with (first
        | ((with_reducible show wpList _ _ _ (Oper.mk _ (.load _ _) _ _ _ _ :: _) _ _); refine wl_load rfl 58 _ rfl g14 rfl _ (run_load_arr HX.out.1 Tryz.underlying58 rfl infoSz) ?_)
        | (go_at_call 25; refine (HP.out _).mono ?_; rintro e w3 ⟨rfl, hd⟩; have HK := Lib.hid (And.intro (HK.out.1.under hd) (HK.out.2.trans (hd.mono HK.out.2.size))); clear hd)
        | ((with_reducible show wpList _ _ _ (Oper.mk _ (.build 33 _) _ _ _ _ :: _) _ _); refine wl_build rfl 33 _ rfl (vec 65 (keyF 0 zb zb)) (by kernel_rfl) ?_)
        | ((with_reducible show wpList _ _ _ (Oper.mk _ (.store 33 _ _) _ _ _ _ :: _) _ _); refine wl_store rfl 33 _ _ rfl _ rfl _ rfl (run_store_arr HK.out.1 (keyF 0 zb zb) infoKey (keyF_one _ _ _ _)) ?_))
      exact bodyPost_ret (results_ct rfl _ _ _ rfl (run_load_arr (HK.out.1.row _) Tryz.underlying33 rfl infoKey)) rfl ⟨rfl, below_row HK.out.2 (by omega) _⟩
    · go_upto_region 7 with (first
        | ((with_reducible show wpList _ _ _ (Oper.mk _ (.load _ _) _ _ _ _ :: _) _ _); refine wl_load rfl 58 _ rfl g14 rfl _ (run_load_arr HX.out.1 Tryz.underlying58 rfl infoSz) ?_)
        | (go_at_call 25; refine (HP.out _).mono ?_; rintro e w3 ⟨rfl, hd⟩; have HY := Lib.hid (And.intro (HX.out.2.1.under hd) (And.intro (HX.out.2.2.1.under hd) (And.intro (HX.out.2.2.2.1.under hd) (And.intro (HX.out.2.2.2.2.1.trans (hd.mono HX.out.2.2.2.2.1.size)) (And.intro ((HX.out.2.2.2.2.2.1.below hd).wide hd.size) (tabs_below HX.out.2.2.2.2.2.2 hd)))))); clear hd))
      clear HX HP
      obtain ⟨n1, hn1⟩ : ∃ n1, n1 = L.length := ⟨_, rfl⟩
      clear hn1 n1
      refine wp_region_held_drew (S := fun Y => VS w3 Y) (by kernel_rfl) (VS.begin w3) (fun hS => ?_)
      (refine held_take (i := 0) (oi := ?ot1) (v := .agg (vec 32 (bys secret))) ?at1 (by kernel_rfl) (by kernel_rfl) (by kernel_rfl) ?bt1 ?ct1 ?dt1 (by assumption) ?rt1; (case at1 => (simp only [List.getElem?_toArray, List.getElem?_cons_zero]; rfl)); (case bt1 => exact fun _ _ _ h => h); (case ct1 => kernel_rfl); (case dt1 => (intro W hW; exact exec_load 30 _ rfl _ rfl _ (run_load_arr (HY.out.1.under (show Below w3.heap.size w3 W from hW)) Tryz.underlying30 rfl info26))); (case' rt1 => simp only [Act.put, List.setIfInBounds_toArray, List.set_cons_zero, List.set_cons_succ]))
      (refine held_take (i := 1) (oi := ?ot2) (v := .agg (vec 32 (bys seed))) ?at2 (by kernel_rfl) (by kernel_rfl) (by kernel_rfl) ?bt2 ?ct2 ?dt2 (by assumption) ?rt2; (case at2 => (simp only [List.getElem?_toArray, List.getElem?_cons_zero, List.getElem?_cons_succ]; rfl)); (case bt2 => exact fun _ _ _ h => h); (case ct2 => kernel_rfl); (case dt2 => (intro W hW; exact exec_load 30 _ rfl _ rfl _ (run_load_arr (HY.out.2.1.under (show Below w3.heap.size w3 W from hW)) Tryz.underlying30 rfl info26))); (case' rt2 => simp only [Act.put, List.setIfInBounds_toArray, List.set_cons_zero, List.set_cons_succ]))
      (refine held_take (i := 2) (oi := ?ot3) (v := ?vt3) ?at3 (by kernel_rfl) (by kernel_rfl) (by kernel_rfl) ?bt3 ?ct3 ?dt3 (by assumption) ?rt3; (case at3 => (simp only [List.getElem?_toArray, List.getElem?_cons_zero, List.getElem?_cons_succ]; rfl)); (case bt3 => exact fun _ _ _ h => h); (case ct3 => kernel_rfl); (case dt3 => (intro W hW; (try dsimp only at hW); go_split_ands; go_simp; (try with_reducible rfl))); (case' rt3 => simp only [Act.put, List.setIfInBounds_toArray, List.set_cons_zero, List.set_cons_succ]))
      (refine held_take (i := 4) (oi := ?ot4) (v := .agg (vec 32 (bys seed))) ?at4 (by kernel_rfl) (by kernel_rfl) (by kernel_rfl) ?bt4 ?ct4 ?dt4 (by assumption) ?rt4; (case at4 => (simp only [List.getElem?_toArray, List.getElem?_cons_zero, List.getElem?_cons_succ]; rfl)); (case bt4 => exact fun _ _ _ h => h); (case ct4 => kernel_rfl); (case dt4 => (intro W hW; exact exec_load 30 _ rfl _ rfl _ (run_load_arr (HY.out.2.1.under (show Below w3.heap.size w3 W from hW)) Tryz.underlying30 rfl info26))); (case' rt4 => simp only [Act.put, List.setIfInBounds_toArray, List.set_cons_zero, List.set_cons_succ]))
      (refine held_take (i := 5) (oi := ?ot5) (v := ?vt5) ?at5 (by kernel_rfl) (by kernel_rfl) (by kernel_rfl) ?bt5 ?ct5 ?dt5 (by assumption) ?rt5; (case at5 => (simp only [List.getElem?_toArray, List.getElem?_cons_zero, List.getElem?_cons_succ]; rfl)); (case bt5 => exact fun _ _ _ h => h); (case ct5 => kernel_rfl); (case dt5 => (intro W hW; (try dsimp only at hW); go_split_ands; go_simp; (try with_reducible rfl))); (case' rt5 => simp only [Act.put, List.setIfInBounds_toArray, List.set_cons_zero, List.set_cons_succ]))
      (refine held_take (i := 6) (oi := ?ot6) (v := ?vt6) ?at6 (by kernel_rfl) (by kernel_rfl) (by kernel_rfl) ?bt6 ?ct6 ?dt6 (by assumption) ?rt6; (case at6 => (simp only [List.getElem?_toArray, List.getElem?_cons_zero, List.getElem?_cons_succ]; rfl)); (case bt6 => exact fun _ _ _ h => h); (case ct6 => kernel_rfl); (case dt6 => (intro W hW; (try dsimp only at hW); go_split_ands; go_simp; (try with_reducible rfl))); (case' rt6 => simp only [Act.put, List.setIfInBounds_toArray, List.set_cons_zero, List.set_cons_succ]))
      refine held_two (i := 3) (j := 8) (oi := ?oit15) (oj := ?ojt15) (by kernel_rfl) ?ait15 ?ajt15 ?cit15 ?cjt15 (fun K3 hK3 => ?hit15) (fun K8 hK8 => ?hjt15)
      (case ait15 => (simp only [List.getElem?_toArray, List.getElem?_cons_zero, List.getElem?_cons_succ]; rfl))
      (case ajt15 => (simp only [List.getElem?_toArray, List.getElem?_cons_zero, List.getElem?_cons_succ]; rfl))
      (case cit15 => kernel_rfl)
      (case cjt15 => kernel_rfl)
      case hit15 =>
        have hcall := key_any secret seed idx HO.out.1 _ (tabs_below HY.out.2.2.2.2.2 (show Below w3.heap.size w3 _ from hS))
        rw [← HEN.out] at hcall
        go_simp
        refine hcall.mono ?_
        rintro e y3 ⟨v, rfl, ho, hd⟩
        (try have HE := Lib.hid ((HE.out.below hd).wide hd.size))
        (try have HG := Lib.hid (And.intro (HG.out.1.under hd) HG.out.2))
        obtain ⟨E, cE, rfl, -, hrow⟩ := ho.row
        have HE := Lib.hid hrow
        refine hK3 _ _ (hS.keep hd) (fun hS3 => ?_)
        clear hcall ho hrow hd hK3 K3
        refine held_two (i := 7) (j := 8) (oi := ?oit11) (oj := ?ojt11) (by kernel_rfl) ?ait11 ?ajt11 ?cit11 ?cjt11 (fun K7 hK7 => ?hit11) (fun K8 hK8 => ?hjt11)
        (case ait11 => (simp only [List.getElem?_toArray, List.getElem?_cons_zero, List.getElem?_cons_succ]; rfl))
        (case ajt11 => (simp only [List.getElem?_toArray, List.getElem?_cons_zero, List.getElem?_cons_succ]; rfl))
        (case cit11 => kernel_rfl)
        (case cjt11 => kernel_rfl)
        case hit11 =>
          have hcall := xroot_any E cE L seed idx HO.out.1 A c auth _ HE.out ((HY.out.2.2.2.2.1.below (show Below w3.heap.size w3 _ from hS3)).wide (show Below w3.heap.size w3 _ from hS3).size) (tabs_below HY.out.2.2.2.2.2 (show Below w3.heap.size w3 _ from hS3))
          rw [← HO.out.2.1, HRT.out] at hcall
          go_simp
          refine hcall.mono ?_
          rintro e y7 ⟨rfl, hd⟩
          (try have HE := Lib.hid ((HE.out.below hd).wide hd.size))
          (try have HG := Lib.hid (And.intro (HG.out.1.under hd) HG.out.2))
          refine hK7 _ _ (hS3.keep hd) (fun hS7 => ?_)
          clear hcall hd hK7 K7
          refine held_one (i := 8) (oi := ?ot7) (by kernel_rfl) ?at7 ?ct7 (fun K8 hK8 => ?_)
          (case at7 => (simp only [List.getElem?_toArray, List.getElem?_cons_zero, List.getElem?_cons_succ]; rfl))
          (case ct7 => kernel_rfl)
          go_simp
          obtain ⟨y8, hy⟩ : ∃ y, y = (y7.alloc (.cells (vec 32 (bys zb)) 30)) := ⟨_, rfl⟩
          have hd : Below y7.heap.size y7 y8 := by rw [hy]; exact (show Below y7.heap.size y7 (y7.alloc (.cells (vec 32 (bys zb)) 30)) from (Below.refl _ _).alloc (Nat.le_refl _) _)
          have hgl : w3.heap.size ≤ y7.heap.size := (show Below w3.heap.size w3 _ from hS7).size
          obtain ⟨g, hg⟩ : ∃ g, g = y7.heap.size := ⟨_, rfl⟩
          have hga : Arr y8 g 30 32 (bys zb) := by rw [hy, hg]; exact Arr.new y7 _ _ _
          have HG := Lib.hid (And.intro hga (by rw [hg]; exact hgl : w3.heap.size ≤ g))
          (try have HE := Lib.hid ((HE.out.below hd).wide hd.size))
          have hSb := VS.keep hS7 hd
          clear hd hgl hga
          rw [← hy, ← hg]
          clear hy hg
          refine hK8 _ _ hSb (fun hS8 => ?_)
          clear hSb hK8 K8
          refine held_one (i := 9) (oi := ?ot8) (by kernel_rfl) ?at8 ?ct8 (fun K9 hK9 => ?_)
          (case at8 => (simp only [List.getElem?_toArray, List.getElem?_cons_zero, List.getElem?_cons_succ]; rfl))
          (case ct8 => kernel_rfl)
          refine ow_store 30 _ _ rfl _ rfl _ rfl (run_store_arr HG.out.1 (bys (RT)) info26 (bys_one _ _)) ?_
          have hga := HG.out.1.row (bys (RT))
          have hSb := below_row (show Below w3.heap.size w3 _ from hS8) HG.out.2 (vec 32 (bys (RT)))
          obtain ⟨X9, hX9⟩ : ∃ Z, Z = World.setRow y8 g (vec 32 (bys (RT))) := ⟨_, rfl⟩
          rw [← hX9] at hga hSb
          have HG := Lib.hid hga
          rw [← hX9]
          clear hX9 hga
          refine hK9 _ _ hSb (fun hS9 => ?_)
          clear hSb hK9 K9
          refine wpAnyH_done (by kernel_rfl) ?_ _
          have HZ := Lib.hid (And.intro (HY.out.2.1.under (show Below w3.heap.size w3 X9 from hS9)) (And.intro (HY.out.2.2.1.under (show Below w3.heap.size w3 X9 from hS9)) (HY.out.2.2.2.1.trans ((show Below w3.heap.size w3 X9 from hS9).mono HY.out.2.2.2.1.size))))
          go_wp2_with (first
            | ((with_reducible show wpList _ _ _ (Oper.mk _ (.load _ (.tmp 15)) _ _ _ _ :: _) _ _); refine wl_load rfl 30 _ rfl g rfl _ (run_load_arr HG.out Tryz.underlying30 rfl info26) ?_)
            | ((with_reducible show wpList _ _ _ (Oper.mk _ (.load _ (.tmp 7)) _ _ _ _ :: _) _ _); refine wl_load rfl 30 _ rfl _ rfl _ (run_load_arr HZ.out.1 Tryz.underlying30 rfl info26) ?_)
            | ((with_reducible show wpList _ _ _ (Oper.mk _ (.build _ _) _ _ _ _ :: _) _ _); refine wl_build rfl 33 _ rfl (vec 65 (keyF (oid : Int) RT seed)) (by kernel_rfl) ?_)
            | ((with_reducible show wpList _ _ _ (Oper.mk _ (.store _ _ _) _ _ _ _ :: _) _ _); refine wl_store rfl 33 _ _ rfl _ rfl _ rfl (run_store_arr HZ.out.2.1 (keyF (oid : Int) RT seed) infoKey (keyF_one _ _ _ _)) ?_))
          exact bodyPost_ret (results_ct rfl _ _ _ rfl (run_load_arr (HZ.out.2.1.row _) Tryz.underlying33 rfl infoKey)) rfl ⟨rfl, below_row HZ.out.2.2 (by omega) _⟩
        case hjt11 =>
          go_simp
          obtain ⟨y8, hy⟩ : ∃ y, y = (y3.alloc (.cells (vec 32 (bys zb)) 30)) := ⟨_, rfl⟩
          have hd : Below y3.heap.size y3 y8 := by rw [hy]; exact (show Below y3.heap.size y3 (y3.alloc (.cells (vec 32 (bys zb)) 30)) from (Below.refl _ _).alloc (Nat.le_refl _) _)
          have hgl : w3.heap.size ≤ y3.heap.size := (show Below w3.heap.size w3 _ from hS3).size
          obtain ⟨g, hg⟩ : ∃ g, g = y3.heap.size := ⟨_, rfl⟩
          have hga : Arr y8 g 30 32 (bys zb) := by rw [hy, hg]; exact Arr.new y3 _ _ _
          have HG := Lib.hid (And.intro hga (by rw [hg]; exact hgl : w3.heap.size ≤ g))
          (try have HE := Lib.hid ((HE.out.below hd).wide hd.size))
          have hSb := VS.keep hS3 hd
          clear hd hgl hga
          rw [← hy, ← hg]
          clear hy hg
          refine hK8 _ _ hSb (fun hS8 => ?_)
          clear hSb hK8 K8
          refine held_one (i := 7) (oi := ?ot9) (by kernel_rfl) ?at9 ?ct9 (fun K7 hK7 => ?_)
          (case at9 => (simp only [List.getElem?_toArray, List.getElem?_cons_zero, List.getElem?_cons_succ]; rfl))
          (case ct9 => kernel_rfl)
          have hcall := xroot_any E cE L seed idx HO.out.1 A c auth _ HE.out ((HY.out.2.2.2.2.1.below (show Below w3.heap.size w3 _ from hS8)).wide (show Below w3.heap.size w3 _ from hS8).size) (tabs_below HY.out.2.2.2.2.2 (show Below w3.heap.size w3 _ from hS8))
          rw [← HO.out.2.1, HRT.out] at hcall
          go_simp
          refine hcall.mono ?_
          rintro e y7 ⟨rfl, hd⟩
          (try have HE := Lib.hid ((HE.out.below hd).wide hd.size))
          (try have HG := Lib.hid (And.intro (HG.out.1.under hd) HG.out.2))
          refine hK7 _ _ (hS8.keep hd) (fun hS7 => ?_)
          clear hcall hd hK7 K7
          refine held_one (i := 9) (oi := ?ot10) (by kernel_rfl) ?at10 ?ct10 (fun K9 hK9 => ?_)
          (case at10 => (simp only [List.getElem?_toArray, List.getElem?_cons_zero, List.getElem?_cons_succ]; rfl))
          (case ct10 => kernel_rfl)
          refine ow_store 30 _ _ rfl _ rfl _ rfl (run_store_arr HG.out.1 (bys (RT)) info26 (bys_one _ _)) ?_
          have hga := HG.out.1.row (bys (RT))
          have hSb := below_row (show Below w3.heap.size w3 _ from hS7) HG.out.2 (vec 32 (bys (RT)))
          obtain ⟨X9, hX9⟩ : ∃ Z, Z = World.setRow y7 g (vec 32 (bys (RT))) := ⟨_, rfl⟩
          rw [← hX9] at hga hSb
          have HG := Lib.hid hga
          rw [← hX9]
          clear hX9 hga
          refine hK9 _ _ hSb (fun hS9 => ?_)
          clear hSb hK9 K9
          refine wpAnyH_done (by kernel_rfl) ?_ _
          have HZ := Lib.hid (And.intro (HY.out.2.1.under (show Below w3.heap.size w3 X9 from hS9)) (And.intro (HY.out.2.2.1.under (show Below w3.heap.size w3 X9 from hS9)) (HY.out.2.2.2.1.trans ((show Below w3.heap.size w3 X9 from hS9).mono HY.out.2.2.2.1.size))))
          go_wp2_with (first
            | ((with_reducible show wpList _ _ _ (Oper.mk _ (.load _ (.tmp 15)) _ _ _ _ :: _) _ _); refine wl_load rfl 30 _ rfl g rfl _ (run_load_arr HG.out Tryz.underlying30 rfl info26) ?_)
            | ((with_reducible show wpList _ _ _ (Oper.mk _ (.load _ (.tmp 7)) _ _ _ _ :: _) _ _); refine wl_load rfl 30 _ rfl _ rfl _ (run_load_arr HZ.out.1 Tryz.underlying30 rfl info26) ?_)
            | ((with_reducible show wpList _ _ _ (Oper.mk _ (.build _ _) _ _ _ _ :: _) _ _); refine wl_build rfl 33 _ rfl (vec 65 (keyF (oid : Int) RT seed)) (by kernel_rfl) ?_)
            | ((with_reducible show wpList _ _ _ (Oper.mk _ (.store _ _ _) _ _ _ _ :: _) _ _); refine wl_store rfl 33 _ _ rfl _ rfl _ rfl (run_store_arr HZ.out.2.1 (keyF (oid : Int) RT seed) infoKey (keyF_one _ _ _ _)) ?_))
          exact bodyPost_ret (results_ct rfl _ _ _ rfl (run_load_arr (HZ.out.2.1.row _) Tryz.underlying33 rfl infoKey)) rfl ⟨rfl, below_row HZ.out.2.2 (by omega) _⟩
      case hjt15 =>
        go_simp
        obtain ⟨y8, hy⟩ : ∃ y, y = (w3.alloc (.cells (vec 32 (bys zb)) 30)).drew := ⟨_, rfl⟩
        have hd : Below w3.heap.size w3.drew y8 := by rw [hy]; exact (show Below w3.drew.heap.size w3.drew (w3.drew.alloc (.cells (vec 32 (bys zb)) 30)) from (Below.refl _ _).alloc (Nat.le_refl _) _)
        have hgl : w3.heap.size ≤ w3.heap.size := (show Below w3.heap.size w3 _ from hS).size
        obtain ⟨g, hg⟩ : ∃ g, g = w3.heap.size := ⟨_, rfl⟩
        have hga : Arr y8 g 30 32 (bys zb) := by rw [hy, hg]; exact Arr.new w3 _ _ _
        have HG := Lib.hid (And.intro hga (by rw [hg]; exact hgl : w3.heap.size ≤ g))
        (try have HE := Lib.hid ((HE.out.below hd).wide hd.size))
        have hSb := VS.keep hS hd
        clear hd hgl hga
        rw [← hy, ← hg]
        clear hy hg
        refine hK8 _ _ hSb (fun hS8 => ?_)
        clear hSb hK8 K8
        refine held_one (i := 3) (oi := ?ot12) (by kernel_rfl) ?at12 ?ct12 (fun K3 hK3 => ?_)
        (case at12 => (simp only [List.getElem?_toArray, List.getElem?_cons_zero, List.getElem?_cons_succ]; rfl))
        (case ct12 => kernel_rfl)
        have hcall := key_any secret seed idx HO.out.1 _ (tabs_below HY.out.2.2.2.2.2 (show Below w3.heap.size w3 _ from hS8))
        rw [← HEN.out] at hcall
        go_simp
        refine hcall.mono ?_
        rintro e y3 ⟨v, rfl, ho, hd⟩
        (try have HE := Lib.hid ((HE.out.below hd).wide hd.size))
        (try have HG := Lib.hid (And.intro (HG.out.1.under hd) HG.out.2))
        obtain ⟨E, cE, rfl, -, hrow⟩ := ho.row
        have HE := Lib.hid hrow
        refine hK3 _ _ (hS8.keep hd) (fun hS3 => ?_)
        clear hcall ho hrow hd hK3 K3
        refine held_one (i := 7) (oi := ?ot13) (by kernel_rfl) ?at13 ?ct13 (fun K7 hK7 => ?_)
        (case at13 => (simp only [List.getElem?_toArray, List.getElem?_cons_zero, List.getElem?_cons_succ]; rfl))
        (case ct13 => kernel_rfl)
        have hcall := xroot_any E cE L seed idx HO.out.1 A c auth _ HE.out ((HY.out.2.2.2.2.1.below (show Below w3.heap.size w3 _ from hS3)).wide (show Below w3.heap.size w3 _ from hS3).size) (tabs_below HY.out.2.2.2.2.2 (show Below w3.heap.size w3 _ from hS3))
        rw [← HO.out.2.1, HRT.out] at hcall
        go_simp
        refine hcall.mono ?_
        rintro e y7 ⟨rfl, hd⟩
        (try have HE := Lib.hid ((HE.out.below hd).wide hd.size))
        (try have HG := Lib.hid (And.intro (HG.out.1.under hd) HG.out.2))
        refine hK7 _ _ (hS3.keep hd) (fun hS7 => ?_)
        clear hcall hd hK7 K7
        refine held_one (i := 9) (oi := ?ot14) (by kernel_rfl) ?at14 ?ct14 (fun K9 hK9 => ?_)
        (case at14 => (simp only [List.getElem?_toArray, List.getElem?_cons_zero, List.getElem?_cons_succ]; rfl))
        (case ct14 => kernel_rfl)
        refine ow_store 30 _ _ rfl _ rfl _ rfl (run_store_arr HG.out.1 (bys (RT)) info26 (bys_one _ _)) ?_
        have hga := HG.out.1.row (bys (RT))
        have hSb := below_row (show Below w3.heap.size w3 _ from hS7) HG.out.2 (vec 32 (bys (RT)))
        obtain ⟨X9, hX9⟩ : ∃ Z, Z = World.setRow y7 g (vec 32 (bys (RT))) := ⟨_, rfl⟩
        rw [← hX9] at hga hSb
        have HG := Lib.hid hga
        rw [← hX9]
        clear hX9 hga
        refine hK9 _ _ hSb (fun hS9 => ?_)
        clear hSb hK9 K9
        refine wpAnyH_done (by kernel_rfl) ?_ _
        have HZ := Lib.hid (And.intro (HY.out.2.1.under (show Below w3.heap.size w3 X9 from hS9)) (And.intro (HY.out.2.2.1.under (show Below w3.heap.size w3 X9 from hS9)) (HY.out.2.2.2.1.trans ((show Below w3.heap.size w3 X9 from hS9).mono HY.out.2.2.2.1.size))))
        go_wp2_with (first
          | ((with_reducible show wpList _ _ _ (Oper.mk _ (.load _ (.tmp 15)) _ _ _ _ :: _) _ _); refine wl_load rfl 30 _ rfl g rfl _ (run_load_arr HG.out Tryz.underlying30 rfl info26) ?_)
          | ((with_reducible show wpList _ _ _ (Oper.mk _ (.load _ (.tmp 7)) _ _ _ _ :: _) _ _); refine wl_load rfl 30 _ rfl _ rfl _ (run_load_arr HZ.out.1 Tryz.underlying30 rfl info26) ?_)
          | ((with_reducible show wpList _ _ _ (Oper.mk _ (.build _ _) _ _ _ _ :: _) _ _); refine wl_build rfl 33 _ rfl (vec 65 (keyF (oid : Int) RT seed)) (by kernel_rfl) ?_)
          | ((with_reducible show wpList _ _ _ (Oper.mk _ (.store _ _ _) _ _ _ _ :: _) _ _); refine wl_store rfl 33 _ _ rfl _ rfl _ rfl (run_store_arr HZ.out.2.1 (keyF (oid : Int) RT seed) infoKey (keyF_one _ _ _ _)) ?_))
        exact bodyPost_ret (results_ct rfl _ _ _ rfl (run_load_arr (HZ.out.2.1.row _) Tryz.underlying33 rfl infoKey)) rfl ⟨rfl, below_row HZ.out.2.2 (by omega) _⟩
end Go.Proofs.YtfeiplaiekbdkaaGreatDoor
