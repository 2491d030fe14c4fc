/- Sign. -/
import Derived.Test.YtfeiplaiekbdkaaGreatDoorWy
import Derived.Test.YtfeiplaiekbdkaaGreatDoorWt
import Derived.Test.YtfeiplaiekbdkaaGreatDoorPrfM
namespace Go.Proofs.YtfeiplaiekbdkaaGreatDoor
open Go.RowKit
attribute [local go_sem ↓ high] zeroV26 zeroKey zeroSig

/-- The contract of Sign, of each of the two. -/
def SigMake (F : Nat) : Prop := ∀ (oid : Nat) (root seed secret : Nd) (idx : Nat) (A : Option Addr) (n2 c : Nat) (auth : List Nd) (rr : Nd) (M : Option Addr) (mn mc : Nat) (msg : List UInt8) (w : World), oid < 4294967296 → idx < 4294967296 → auth.length ≤ 1000 → n2 = auth.length → NRow w w.heap.size A auth →
    mn = msg.length → Lies w w.heap.size 1 M mn (u8s msg) → mn ≤ mc → mn ≤ 100000000 → Tabs w →
  Calls Tryz.prog F #[.agg (vec 65 (keyF (oid : Int) root seed)), .agg (vec 32 (bys secret)), .int .u32 (idx : Int), .slice A n2 c, .agg (vec 32 (bys rr)), .slice M mn mc] w fun e w' => ∃ v, e = .returned (.tuple #[v, .int .i64 ((psE oid idx 67 n2 : Nat) : Int)]) ∧
    w'.ownsRow w.heap.size 5 1 v (psL oid idx rr (endsF secret seed idx (digN (msgF rr root idx msg))) auth).length (u8s (psL oid idx rr (endsF secret seed idx (digN (msgF rr root idx msg))) auth)) ∧ Below w.heap.size w w'

set_option maxHeartbeats 2000000 in
set_option maxRecDepth 100000 in
theorem sign_x : SigMake 10 := by
  intro oid root seed secret idx A n2 c auth rr M mn mc msg w hoid hidx ha hn2 h1 hmn hm hmc hml hT
  obtain ⟨V, hV⟩ : ∃ V, V = ((w.alloc (.cells (vec 65 (keyF (oid : Int) root seed)) 33)).alloc (.cells (vec 32 (bys secret)) 30)).alloc (.cells (vec 32 (bys rr)) 30) := ⟨_, rfl⟩
  have k0 : Arr V w.heap.size 33 65 (keyF (oid : Int) root seed) := by rw [hV]; exact ((Arr.newAt _ _ _ _ (by simp)).alloc _).alloc _
  have k1 : Arr V (w.heap.size + 1) 30 32 (bys secret) := by rw [hV]; exact (Arr.newAt _ _ _ _ (by simp)).alloc _
  have k2 : Arr V (w.heap.size + 2) 30 32 (bys rr) := by rw [hV]; exact Arr.newAt _ _ _ _ (by simp)
  have hB : Below w.heap.size w V := by rw [hV]; exact (((Below.refl _ _).alloc (by simp <;> omega) _).alloc (by simp <;> omega) _).alloc (by simp <;> omega) _
  have HA := Lib.hid (And.intro k0 (And.intro k1 (And.intro k2 hB)))
  have HR := Lib.hid (And.intro ((h1.below hB).wide hB.size) (And.intro ((hm.below hB).wide hB.size) (tabs_below hT hB)))
  have HW := Lib.hid hV
  obtain ⟨L, hL⟩ : ∃ L, L = endsF secret seed idx (digN (msgF rr root idx msg)) := ⟨_, rfl⟩
  have hL67 : L.length = 67 := by rw [hL, endsF_length]
  rw [← hL]
  have HL := Lib.hid (And.intro hL hL67)
  have HM := Lib.hid (And.intro hmn (And.intro hmc hml))
  have HP := Lib.hid (fun E cE W q1 q2 => putSig_any oid idx rr L auth E A L.length n2 cE c W hoid hidx (by omega) ha rfl hn2 q1 q2)
  have HO := Lib.hid hidx
  clear hV k0 k1 k2 hB h1 hm hT hL hL67 hmn hmc hml hn2 ha
  go_enter Tryz.func10, Tryz.ntmps10
  go_upto_region 1 with fail
  rw [← HW.out]
  clear HW
  refine wp_region_held_drew (S := fun Y => VS V Y) (by kernel_rfl) (VS.begin V) (fun hS => ?_)
  (refine held_take (i := 0) (oi := ?ot1) (v := .agg (vec 32 (bys secret))) ?at1 (by kernel_rfl) (by kernel_rfl) (by kernel_rfl) ?bt1 ?ct1 ?dt1 (by assumption) ?rt1; (case at1 => (simp only [List.getElem?_toArray, List.getElem?_cons_zero]; rfl)); (case bt1 => exact fun _ _ _ h => h); (case ct1 => kernel_rfl); (case dt1 => (intro W hW; exact exec_load 30 _ rfl _ rfl _ (run_load_arr ((HA.out.2.1.under hW)) Tryz.underlying30 rfl info26))); (case' rt1 => simp only [Act.put, List.setIfInBounds_toArray, List.set_cons_zero, List.set_cons_succ]))
  (refine held_take (i := 1) (oi := ?ot2) (v := .agg (vec 32 (bys rr))) ?at2 (by kernel_rfl) (by kernel_rfl) (by kernel_rfl) ?bt2 ?ct2 ?dt2 (by assumption) ?rt2; (case at2 => (simp only [List.getElem?_toArray, List.getElem?_cons_zero, List.getElem?_cons_succ]; rfl)); (case bt2 => exact fun _ _ _ h => h); (case ct2 => kernel_rfl); (case dt2 => (intro W hW; exact exec_load 30 _ rfl _ rfl _ (run_load_arr ((HA.out.2.2.1.under hW)) Tryz.underlying30 rfl info26))); (case' rt2 => simp only [Act.put, List.setIfInBounds_toArray, List.set_cons_zero, List.set_cons_succ]))
  (refine held_take (i := 2) (oi := ?ot3) (v := ?vt3) ?at3 (by kernel_rfl) (by kernel_rfl) (by kernel_rfl) ?bt3 ?ct3 ?dt3 (by assumption) ?rt3; (case at3 => (simp only [List.getElem?_toArray, List.getElem?_cons_zero, List.getElem?_cons_succ]; rfl)); (case bt3 => exact fun _ _ _ h => h); (case ct3 => kernel_rfl); (case dt3 => (intro W hW; (try dsimp only at hW); go_split_ands; go_simp; (try with_reducible rfl))); (case' rt3 => simp only [Act.put, List.setIfInBounds_toArray, List.set_cons_zero, List.set_cons_succ]))
  (refine held_take (i := 3) (oi := ?ot4) (v := .agg (vec 32 (bys root))) ?at4 (by kernel_rfl) (by kernel_rfl) (by kernel_rfl) ?bt4 ?ct4 ?dt4 (by assumption) ?rt4; (case at4 => (simp only [List.getElem?_toArray, List.getElem?_cons_zero, List.getElem?_cons_succ]; rfl)); (case bt4 => exact fun _ _ _ h => h); (case ct4 => kernel_rfl); (case dt4 => (intro W hW; exact exec_load_at 30 _ rfl _ _ rfl _ (key_root (HA.out.1.under hW)))); (case' rt4 => simp only [Act.put, List.setIfInBounds_toArray, List.set_cons_zero, List.set_cons_succ]))
  (refine held_take (i := 4) (oi := ?ot5) (v := ?vt5) ?at5 (by kernel_rfl) (by kernel_rfl) (by kernel_rfl) ?bt5 ?ct5 ?dt5 (by assumption) ?rt5; (case at5 => (simp only [List.getElem?_toArray, List.getElem?_cons_zero, List.getElem?_cons_succ]; rfl)); (case bt5 => exact fun _ _ _ h => h); (case ct5 => kernel_rfl); (case dt5 => (intro W hW; (try dsimp only at hW); go_split_ands; go_simp; (try with_reducible rfl))); (case' rt5 => simp only [Act.put, List.setIfInBounds_toArray, List.set_cons_zero, List.set_cons_succ]))
  (refine held_take (i := 5) (oi := ?ot6) (v := ?vt6) ?at6 (by kernel_rfl) (by kernel_rfl) (by kernel_rfl) ?bt6 ?ct6 ?dt6 (by assumption) ?rt6; (case at6 => (simp only [List.getElem?_toArray, List.getElem?_cons_zero, List.getElem?_cons_succ]; rfl)); (case bt6 => exact fun _ _ _ h => h); (case ct6 => kernel_rfl); (case dt6 => (intro W hW; (try dsimp only at hW); go_split_ands; go_simp; (try with_reducible rfl))); (case' rt6 => simp only [Act.put, List.setIfInBounds_toArray, List.set_cons_zero, List.set_cons_succ]))
  (refine held_take (i := 7) (oi := ?ot7) (v := ?vt7) ?at7 (by kernel_rfl) (by kernel_rfl) (by kernel_rfl) ?bt7 ?ct7 ?dt7 (by assumption) ?rt7; (case at7 => (simp only [List.getElem?_toArray, List.getElem?_cons_zero, List.getElem?_cons_succ]; rfl)); (case bt7 => exact fun _ _ _ h => h); (case ct7 => kernel_rfl); (case dt7 => (intro W hW; (try dsimp only at hW); go_split_ands; go_simp; (try with_reducible rfl))); (case' rt7 => simp only [Act.put, List.setIfInBounds_toArray, List.set_cons_zero, List.set_cons_succ]))
  (refine held_take (i := 8) (oi := ?ot8) (v := .agg (vec 32 (bys seed))) ?at8 (by kernel_rfl) (by kernel_rfl) (by kernel_rfl) ?bt8 ?ct8 ?dt8 (by assumption) ?rt8; (case at8 => (simp only [List.getElem?_toArray, List.getElem?_cons_zero, List.getElem?_cons_succ]; rfl)); (case bt8 => exact fun _ _ _ h => h); (case ct8 => kernel_rfl); (case dt8 => (intro W hW; exact exec_load_at 30 _ rfl _ _ rfl _ (key_seed (HA.out.1.under hW)))); (case' rt8 => simp only [Act.put, List.setIfInBounds_toArray, List.set_cons_zero, List.set_cons_succ]))
  (refine held_take (i := 9) (oi := ?ot9) (v := ?vt9) ?at9 (by kernel_rfl) (by kernel_rfl) (by kernel_rfl) ?bt9 ?ct9 ?dt9 (by assumption) ?rt9; (case at9 => (simp only [List.getElem?_toArray, List.getElem?_cons_zero, List.getElem?_cons_succ]; rfl)); (case bt9 => exact fun _ _ _ h => h); (case ct9 => kernel_rfl); (case dt9 => (intro W hW; (try dsimp only at hW); go_split_ands; go_simp; (try with_reducible rfl))); (case' rt9 => simp only [Act.put, List.setIfInBounds_toArray, List.set_cons_zero, List.set_cons_succ]))
  refine held_one (i := 6) (oi := ?ot10) (by kernel_rfl) ?at10 ?ct10 (fun K6 hK6 => ?_)
  (case at10 => (simp only [List.getElem?_toArray, List.getElem?_cons_zero, List.getElem?_cons_succ]; rfl))
  (case ct10 => kernel_rfl)
  have hcall := msg_any rr root idx HO.out M mc msg _ (tabs_below HR.out.2.2 (show Below _ _ _ from hS)) (by rw [← HM.out.1]; exact (HR.out.2.1.below (show Below _ _ _ from hS)).wide (show Below _ _ _ from hS).size) (by rw [← HM.out.1]; exact HM.out.2.1) (by rw [← HM.out.1]; exact HM.out.2.2)
  rw [← HM.out.1] at hcall
  go_simp
  refine hcall.mono ?_
  rintro e y6 ⟨rfl, hd⟩
  refine hK6 _ _ (hS.keep hd) (fun hS6 => ?_)
  clear hcall hd hK6 K6
  refine held_one (i := 10) (oi := ?ot11) (by kernel_rfl) ?at11 ?ct11 (fun K10 hK10 => ?_)
  (case at11 => (simp only [List.getElem?_toArray, List.getElem?_cons_zero, List.getElem?_cons_succ]; rfl))
  (case ct11 => kernel_rfl)
  have hcall := sign_any secret (msgF rr root idx msg) seed idx HO.out _ (tabs_below HR.out.2.2 (show Below _ _ _ from hS6))
  rw [← HL.out.1] at hcall
  go_simp
  refine hcall.mono ?_
  rintro e y10 ⟨v, rfl, ho, hd⟩
  obtain ⟨E, cE, rfl, -, hrow⟩ := ho.row
  have HE := Lib.hid hrow
  refine hK10 _ _ (hS6.keep hd) (fun hS10 => ?_)
  clear hcall ho hrow hd hK10 K10
  (refine held_take (i := 11) (oi := ?ot12) (v := ?vt12) ?at12 (by kernel_rfl) (by kernel_rfl) (by kernel_rfl) ?bt12 ?ct12 ?dt12 (by assumption) ?rt12; (case at12 => (simp only [List.getElem?_toArray, List.getElem?_cons_zero, List.getElem?_cons_succ]; rfl)); (case bt12 => exact fun _ _ _ h => h); (case ct12 => kernel_rfl); (case dt12 => (intro W hW; (try dsimp only at hW); go_split_ands; go_simp; (try with_reducible rfl))); (case' rt12 => simp only [Act.put, List.setIfInBounds_toArray, List.set_cons_zero, List.set_cons_succ]))
  refine wpAnyH_done (by kernel_rfl) ?_ _
  have hVY : Below V.heap.size V y10 := hS10
  have c0 := key_oid (HA.out.1.under hVY)
  have HY := Lib.hid (And.intro (HA.out.2.2.1.under hVY) (And.intro (HA.out.2.2.2.trans (hVY.mono HA.out.2.2.2.size)) ((HR.out.1.below hVY).wide hVY.size)))
  clear hVY hS10
  go_wp2_with (first
    | ((with_reducible show wpList _ _ _ (Oper.mk _ (.load 30 _) _ _ _ _ :: _) _ _); refine wl_load rfl 30 _ rfl _ rfl _ (run_load_arr HY.out.1 Tryz.underlying30 rfl info26) ?_)
    | ((with_reducible show wpList _ _ _ (Oper.mk _ (.build _ _) _ _ _ _ :: _) _ _); refine wl_build rfl 46 _ rfl (vec 35 (sigF (idx : Int) rr (.slice E L.length cE) (.slice A n2 c))) (by kernel_rfl) ?_)
    | (go_at_call 30; refine (HP.out E cE _ HE.out HY.out.2.2).mono ?_; rintro e y12 ⟨v, rfl, ho, hd⟩; have H12 := Lib.hid (And.intro ho hd); clear ho hd))
  go_ret2
  have hrow := owns_mono H12.out.1 HY.out.2.1.size
  exact ⟨_, by rw [HL.out.2]; rfl, hrow, HY.out.2.1.trans (H12.out.2.mono HY.out.2.1.size)⟩
end Go.Proofs.YtfeiplaiekbdkaaGreatDoor
