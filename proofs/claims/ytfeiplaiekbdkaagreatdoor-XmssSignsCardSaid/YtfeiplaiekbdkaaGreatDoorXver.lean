/- Verify. -/
import Derived.Test.YtfeiplaiekbdkaaGreatDoorWk
import Derived.Test.YtfeiplaiekbdkaaGreatDoorWx
import Derived.Test.YtfeiplaiekbdkaaGreatDoorWt
import Derived.Test.YtfeiplaiekbdkaaGreatDoorPrfM
namespace Go.Proofs.YtfeiplaiekbdkaaGreatDoor
open Go.RowKit
attribute [local go_sem ↓ high] zeroV26 zeroKey zeroSig

/-- What a Verify answers of bytes. -/
def VerAns (F : Nat) (key sig msg : List UInt8) (k : Nat) : Prop := ∀ (A M S : Option Addr) (c mc sc : Nat) (W : World), key.length ≤ c → sig.length ≤ sc → msg.length ≤ mc → msg.length ≤ 100000000 →
    Lies W W.heap.size 1 A key.length (u8s key) → Lies W W.heap.size 1 M msg.length (u8s msg) → Lies W W.heap.size 1 S sig.length (u8s sig) → Tabs W →
  Calls Tryz.prog F #[.slice A key.length c, .slice M msg.length mc, .slice S sig.length sc] W fun e W' => e = .returned (.int .i64 ((k : Nat) : Int)) ∧ Below W.heap.size W W'
theorem exec_neq_q {o : Oper} {a : Act} (x y : Operand) (t : TypeId) (ho : o.op = .binOp .neq 30 x y t) (f g : Nat → UInt8) (q : Bool) (hq : nodeEq f g = q) (hx : a.eval x = .agg (vec 32 (bys f))) (hy : a.eval y = .agg (vec 32 (bys g))) (w : World) :
    (execOp a.eval o).run Tryz.prog w = .ok (.value (.bool (!q))) w := by
  subst hq
  exact exec_neq_two x y t ho f g hx hy w
def verK (k k2 : Nat) (q : Bool) : Nat := if k = 0 then (if k2 = 0 then (if q then 0 else 82) else k2) else k

set_option maxHeartbeats 4000000 in
set_option maxRecDepth 100000 in
theorem ver_any (key sig msg : List UInt8) (o : Nat) (r s : Nd) (k : Nat) (hk : KeyBoth 13 key o r s k) (idx : Nat) (rr : Nd) (ots auth : List Nd) (k2 : Nat) (hidx : idx < 4294967296) (hs : SigAns 14 sig o idx rr ots auth k2) :
    VerAns 6 key sig msg (verK k k2 (nodeEq (rootD (leafD (publicD ots (msgF rr r idx msg) s idx) s idx) idx auth s) r)) := by
  intro A M S c mc sc w hc hsc hmc hml hA hM hS hT
  have HL := Lib.hid (And.intro hA (And.intro hM (And.intro hS hT)))
  have HC := Lib.hid (And.intro hc (And.intro hsc (And.intro hmc hml)))
  have HK := Lib.hid hk
  have HS := Lib.hid hs
  have HM := Lib.hid (fun W q1 q2 => msg_any rr r idx hidx M mc msg W q2 q1 hmc hml)
  obtain ⟨kn, hkn⟩ : ∃ kn, kn = key.length := ⟨_, rfl⟩
  obtain ⟨mn, hmn⟩ : ∃ mn, mn = msg.length := ⟨_, rfl⟩
  obtain ⟨sn, hsn⟩ : ∃ sn, sn = sig.length := ⟨_, rfl⟩
  unfold KeyBoth at HK
  unfold SigAns at HS
  rw [← hkn] at HL HC HK ⊢
  rw [← hmn] at HL HC HM ⊢
  rw [← hsn] at HL HC HS ⊢
  obtain ⟨m, hm⟩ : ∃ m, m = msgF rr r idx msg := ⟨_, rfl⟩
  rw [← hm] at HM ⊢
  obtain ⟨pk, hpk⟩ : ∃ pk, pk = publicD ots m s idx := ⟨_, rfl⟩
  rw [← hpk]
  have HPK := Lib.hid hpk
  obtain ⟨q, hq⟩ : ∃ q, q = nodeEq (rootD (leafD pk s idx) idx auth s) r := ⟨_, rfl⟩
  have HQ := Lib.hid hq.symm
  rw [← hq]
  have HO := Lib.hid hidx
  clear hc hsc hmc hml hA hM hS hT hk hs hkn hmn hsn hm hpk hq
  by_cases g1 : k = 0
  · subst g1
    by_cases g2 : k2 = 0
    · subst g2
      have e0 : verK 0 0 q = (if q then 0 else 82) := rfl
      rw [e0]
      clear e0
      go_enter Tryz.func6, Tryz.ntmps6
      go_upto_region 2 with (first
        | (go_at_call 13; refine (HK.out A c _ HC.out.1 HL.out.1).mono ?_; rintro e w1 ⟨rfl, hd⟩; have H1 := Lib.hid hd; clear hd)
        | ((with_reducible show wpList _ _ _ (Oper.mk _ (.store 33 _ _) _ _ _ _ :: _) _ _); refine wl_store rfl 33 _ _ rfl _ rfl _ rfl (run_store_arr (Arr.new w1 _ _ _) (keyF (o : Int) r s) infoKey (keyF_one _ _ _ _)) ?_))
      obtain ⟨g7, hg7⟩ : ∃ g, g = w1.heap.size := ⟨_, rfl⟩
      obtain ⟨V1, hV1⟩ : ∃ X, X = (w1.alloc (.cells (vec 65 (keyF 0 zb zb)) 33)).setRow w1.heap.size (vec 65 (keyF (o : Int) r s)) := ⟨_, rfl⟩
      have hb1 : Below w1.heap.size w1 V1 := by rw [hV1]; exact below_row ((Below.refl _ _).alloc (Nat.le_refl _) _) (Nat.le_refl _) _
      have hbw : Below w.heap.size w V1 := H1.out.trans (hb1.mono H1.out.size)
      have hk7 : Arr V1 g7 33 65 (keyF (o : Int) r s) := by rw [hV1, hg7]; exact (Arr.new w1 _ _ _).row _
      have c7 := key_oid hk7
      have HV1 := Lib.hid (And.intro hk7 (And.intro hbw (And.intro ((HL.out.2.1.below hbw).wide hbw.size) (And.intro ((HL.out.2.2.1.below hbw).wide hbw.size) (tabs_below HL.out.2.2.2 hbw)))))
      rw [← hV1, ← hg7]
      clear hV1 hg7 hb1 hbw hk7 H1
      go_upto_region 5 with (first
        | (go_at_call 14; refine (HS.out S sc _ HC.out.2.1 HV1.out.2.2.2.1).mono ?_; rintro e w2 ⟨B1, b1, B2, b2, rfl, q1, q2, hd⟩; have H2 := Lib.hid (And.intro hd (And.intro q1 q2)); clear hd q1 q2)
        | ((with_reducible show wpList _ _ _ (Oper.mk _ (.store 46 _ _) _ _ _ _ :: _) _ _); refine wl_store rfl 46 _ _ rfl _ rfl _ rfl (run_store_arr (Arr.new w2 _ _ _) (sigF (idx : Int) rr (.slice B1 ots.length b1) (.slice B2 auth.length b2)) infoSig (sigF_one _ _ _ _ rfl rfl _)) ?_))
      obtain ⟨g9, hg9⟩ : ∃ g, g = w2.heap.size := ⟨_, rfl⟩
      obtain ⟨V2, hV2⟩ : ∃ X, X = (w2.alloc (.cells (vec 35 (sigF 0 zb (.slice none 0 0) (.slice none 0 0))) 46)).setRow w2.heap.size (vec 35 (sigF (idx : Int) rr (.slice B1 ots.length b1) (.slice B2 auth.length b2))) := ⟨_, rfl⟩
      have hb2 : Below w2.heap.size w2 V2 := by rw [hV2]; exact below_row ((Below.refl _ _).alloc (Nat.le_refl _) _) (Nat.le_refl _) _
      have hv2 : Below V1.heap.size V1 V2 := H2.out.1.trans (hb2.mono H2.out.1.size)
      have hk9 : Arr V2 g9 46 35 (sigF (idx : Int) rr (.slice B1 ots.length b1) (.slice B2 auth.length b2)) := by rw [hV2, hg9]; exact (Arr.new w2 _ _ _).row _
      have c9 : V2.cell? ⟨g9, 0, none⟩ = some (.int .u32 (idx : Int)) := hk9.cell (i := 0) (by decide)
      have HV2 := Lib.hid (And.intro (HV1.out.1.under hv2) (And.intro hk9 (And.intro (HV1.out.2.1.trans (hv2.mono HV1.out.2.1.size)) (And.intro ((HV1.out.2.2.1.below hv2).wide hv2.size) (And.intro ((H2.out.2.1.below hb2).wide hb2.size) (And.intro ((H2.out.2.2.below hb2).wide hb2.size) (tabs_below HV1.out.2.2.2.2 hv2)))))))
      rw [← hV2, ← hg9]
      clear hV2 hg9 hb2 hv2 hk9 c7 H2 HV1
      go_upto_region 8 with (first
        | ((with_reducible show wpList _ _ _ (Oper.mk _ (.load 30 (.tmp 29)) _ _ _ _ :: _) _ _); refine wl_load_at rfl 30 _ rfl _ _ rfl _ (sig_r HV2.out.2.1 (fun _ _ => rfl) (by decide)) ?_)
        | ((with_reducible show wpList _ _ _ (Oper.mk _ (.load 30 (.tmp 31)) _ _ _ _ :: _) _ _); refine wl_load_at rfl 30 _ rfl _ _ rfl _ (key_root HV2.out.1) ?_)
        | (go_at_call 15; refine (HM.out _ HV2.out.2.2.2.1 HV2.out.2.2.2.2.2.2).mono ?_; rintro e w3 ⟨rfl, hd⟩; have H3 := Lib.hid hd; clear hd)
        | ((with_reducible show wpList _ _ _ (Oper.mk _ (.store _ _ _) _ _ _ _ :: _) _ _); refine wl_store rfl 30 _ _ rfl _ rfl _ rfl (run_store_arr (Arr.new w3 _ _ _) (bys m) info26 (bys_one _ _)) ?_))
      obtain ⟨g10, hg10⟩ : ∃ g, g = w3.heap.size := ⟨_, rfl⟩
      obtain ⟨X, hX⟩ : ∃ X, X = (w3.alloc (.cells (vec 32 (bys zb)) 30)).setRow w3.heap.size (vec 32 (bys m)) := ⟨_, rfl⟩
      have hmX : Arr X g10 30 32 (bys m) := by rw [hX, hg10]; exact (Arr.new w3 _ _ _).row _
      have hb : Below V2.heap.size V2 X := by rw [hX]; exact below_row (H3.out.alloc H3.out.size _) H3.out.size _
      have HX := Lib.hid (And.intro (HV2.out.1.under hb) (And.intro (HV2.out.2.1.under hb) (And.intro hmX (And.intro (HV2.out.2.2.1.trans (hb.mono HV2.out.2.2.1.size)) (And.intro ((HV2.out.2.2.2.2.1.below hb).wide hb.size) (And.intro ((HV2.out.2.2.2.2.2.1.below hb).wide hb.size) (tabs_below HV2.out.2.2.2.2.2.2 hb)))))))
      rw [← hX, ← hg10]
      clear hX hg10 hmX hb c9 H3 HV2 HL HC HK HS HM
      refine wp_region_held_drew (S := fun Y => VS X Y) (by kernel_rfl) (VS.begin X) (fun hS => ?_)
      (refine held_take (i := 0) (oi := ?ot1) (v := ?vt1) ?at1 (by kernel_rfl) (by kernel_rfl) (by kernel_rfl) ?bt1 ?ct1 ?dt1 (by assumption) ?rt1; (case at1 => (simp only [List.getElem?_toArray, List.getElem?_cons_zero]; rfl)); (case bt1 => exact fun _ _ _ h => h); (case ct1 => kernel_rfl); (case dt1 => (intro W hW; (try dsimp only at hW); go_split_ands; go_simp; (try with_reducible rfl))); (case' rt1 => simp only [Act.put, List.setIfInBounds_toArray, List.set_cons_zero, List.set_cons_succ]))
      (refine held_take (i := 1) (oi := ?ot2) (v := .slice B1 ots.length b1) ?at2 (by kernel_rfl) (by kernel_rfl) (by kernel_rfl) ?bt2 ?ct2 ?dt2 (by assumption) ?rt2; (case at2 => (simp only [List.getElem?_toArray, List.getElem?_cons_zero, List.getElem?_cons_succ]; rfl)); (case bt2 => exact fun _ _ _ h => h); (case ct2 => kernel_rfl); (case dt2 => (intro W hW; have hc : W.cell? ⟨g9, 33, none⟩ = some (.slice B1 ots.length b1) := (HX.out.2.1.under (show Below X.heap.size X W from hW)).cell (i := 33) (by decide); clear hW; go_simp; (try with_reducible rfl))); (case' rt2 => simp only [Act.put, List.setIfInBounds_toArray, List.set_cons_zero, List.set_cons_succ]))
      (refine held_take (i := 2) (oi := ?ot3) (v := .agg (vec 32 (bys m))) ?at3 (by kernel_rfl) (by kernel_rfl) (by kernel_rfl) ?bt3 ?ct3 ?dt3 (by assumption) ?rt3; (case at3 => (simp only [List.getElem?_toArray, List.getElem?_cons_zero, List.getElem?_cons_succ]; rfl)); (case bt3 => exact fun _ _ _ h => h); (case ct3 => kernel_rfl); (case dt3 => (intro W hW; exact exec_load 30 _ rfl _ rfl _ (run_load_arr (HX.out.2.2.1.under (show Below X.heap.size X W from hW)) Tryz.underlying30 rfl info26))); (case' rt3 => simp only [Act.put, List.setIfInBounds_toArray, List.set_cons_zero, List.set_cons_succ]))
      (refine held_take (i := 3) (oi := ?ot4) (v := ?vt4) ?at4 (by kernel_rfl) (by kernel_rfl) (by kernel_rfl) ?bt4 ?ct4 ?dt4 (by assumption) ?rt4; (case at4 => (simp only [List.getElem?_toArray, List.getElem?_cons_zero, List.getElem?_cons_succ]; rfl)); (case bt4 => exact fun _ _ _ h => h); (case ct4 => kernel_rfl); (case dt4 => (intro W hW; (try dsimp only at hW); go_split_ands; go_simp; (try with_reducible rfl))); (case' rt4 => simp only [Act.put, List.setIfInBounds_toArray, List.set_cons_zero, List.set_cons_succ]))
      (refine held_take (i := 4) (oi := ?ot5) (v := .agg (vec 32 (bys s))) ?at5 (by kernel_rfl) (by kernel_rfl) (by kernel_rfl) ?bt5 ?ct5 ?dt5 (by assumption) ?rt5; (case at5 => (simp only [List.getElem?_toArray, List.getElem?_cons_zero, List.getElem?_cons_succ]; rfl)); (case bt5 => exact fun _ _ _ h => h); (case ct5 => kernel_rfl); (case dt5 => (intro W hW; exact exec_load_at 30 _ rfl _ _ rfl _ (key_seed (HX.out.1.under (show Below X.heap.size X W from hW))))); (case' rt5 => simp only [Act.put, List.setIfInBounds_toArray, List.set_cons_zero, List.set_cons_succ]))
      (refine held_take (i := 5) (oi := ?ot6) (v := ?vt6) ?at6 (by kernel_rfl) (by kernel_rfl) (by kernel_rfl) ?bt6 ?ct6 ?dt6 (by assumption) ?rt6; (case at6 => (simp only [List.getElem?_toArray, List.getElem?_cons_zero, List.getElem?_cons_succ]; rfl)); (case bt6 => exact fun _ _ _ h => h); (case ct6 => kernel_rfl); (case dt6 => (intro W hW; (try dsimp only at hW); go_split_ands; go_simp; (try with_reducible rfl))); (case' rt6 => simp only [Act.put, List.setIfInBounds_toArray, List.set_cons_zero, List.set_cons_succ]))
      (refine held_take (i := 6) (oi := ?ot7) (v := .int .u32 (idx : Int)) ?at7 (by kernel_rfl) (by kernel_rfl) (by kernel_rfl) ?bt7 ?ct7 ?dt7 (by assumption) ?rt7; (case at7 => (simp only [List.getElem?_toArray, List.getElem?_cons_zero, List.getElem?_cons_succ]; rfl)); (case bt7 => exact fun _ _ _ h => h); (case ct7 => kernel_rfl); (case dt7 => (intro W hW; have hc : W.cell? ⟨g9, 0, none⟩ = some (.int .u32 (idx : Int)) := (HX.out.2.1.under (show Below X.heap.size X W from hW)).cell (i := 0) (by decide); clear hW; go_simp; (try with_reducible rfl))); (case' rt7 => simp only [Act.put, List.setIfInBounds_toArray, List.set_cons_zero, List.set_cons_succ]))
      (refine held_take (i := 8) (oi := ?ot8) (v := ?vt8) ?at8 (by kernel_rfl) (by kernel_rfl) (by kernel_rfl) ?bt8 ?ct8 ?dt8 (by assumption) ?rt8; (case at8 => (simp only [List.getElem?_toArray, List.getElem?_cons_zero, List.getElem?_cons_succ]; rfl)); (case bt8 => exact fun _ _ _ h => h); (case ct8 => kernel_rfl); (case dt8 => (intro W hW; (try dsimp only at hW); go_split_ands; go_simp; (try with_reducible rfl))); (case' rt8 => simp only [Act.put, List.setIfInBounds_toArray, List.set_cons_zero, List.set_cons_succ]))
      (refine held_take (i := 9) (oi := ?ot9) (v := .agg (vec 32 (bys s))) ?at9 (by kernel_rfl) (by kernel_rfl) (by kernel_rfl) ?bt9 ?ct9 ?dt9 (by assumption) ?rt9; (case at9 => (simp only [List.getElem?_toArray, List.getElem?_cons_zero, List.getElem?_cons_succ]; rfl)); (case bt9 => exact fun _ _ _ h => h); (case ct9 => kernel_rfl); (case dt9 => (intro W hW; exact exec_load_at 30 _ rfl _ _ rfl _ (key_seed (HX.out.1.under (show Below X.heap.size X W from hW))))); (case' rt9 => simp only [Act.put, List.setIfInBounds_toArray, List.set_cons_zero, List.set_cons_succ]))
      (refine held_take (i := 10) (oi := ?ot10) (v := ?vt10) ?at10 (by kernel_rfl) (by kernel_rfl) (by kernel_rfl) ?bt10 ?ct10 ?dt10 (by assumption) ?rt10; (case at10 => (simp only [List.getElem?_toArray, List.getElem?_cons_zero, List.getElem?_cons_succ]; rfl)); (case bt10 => exact fun _ _ _ h => h); (case ct10 => kernel_rfl); (case dt10 => (intro W hW; (try dsimp only at hW); go_split_ands; go_simp; (try with_reducible rfl))); (case' rt10 => simp only [Act.put, List.setIfInBounds_toArray, List.set_cons_zero, List.set_cons_succ]))
      (refine held_take (i := 11) (oi := ?ot11) (v := .int .u32 (idx : Int)) ?at11 (by kernel_rfl) (by kernel_rfl) (by kernel_rfl) ?bt11 ?ct11 ?dt11 (by assumption) ?rt11; (case at11 => (simp only [List.getElem?_toArray, List.getElem?_cons_zero, List.getElem?_cons_succ]; rfl)); (case bt11 => exact fun _ _ _ h => h); (case ct11 => kernel_rfl); (case dt11 => (intro W hW; have hc : W.cell? ⟨g9, 0, none⟩ = some (.int .u32 (idx : Int)) := (HX.out.2.1.under (show Below X.heap.size X W from hW)).cell (i := 0) (by decide); clear hW; go_simp; (try with_reducible rfl))); (case' rt11 => simp only [Act.put, List.setIfInBounds_toArray, List.set_cons_zero, List.set_cons_succ]))
      (refine held_take (i := 12) (oi := ?ot12) (v := ?vt12) ?at12 (by kernel_rfl) (by kernel_rfl) (by kernel_rfl) ?bt12 ?ct12 ?dt12 (by assumption) ?rt12; (case at12 => (simp only [List.getElem?_toArray, List.getElem?_cons_zero, List.getElem?_cons_succ]; rfl)); (case bt12 => exact fun _ _ _ h => h); (case ct12 => kernel_rfl); (case dt12 => (intro W hW; (try dsimp only at hW); go_split_ands; go_simp; (try with_reducible rfl))); (case' rt12 => simp only [Act.put, List.setIfInBounds_toArray, List.set_cons_zero, List.set_cons_succ]))
      (refine held_take (i := 13) (oi := ?ot13) (v := .slice B2 auth.length b2) ?at13 (by kernel_rfl) (by kernel_rfl) (by kernel_rfl) ?bt13 ?ct13 ?dt13 (by assumption) ?rt13; (case at13 => (simp only [List.getElem?_toArray, List.getElem?_cons_zero, List.getElem?_cons_succ]; rfl)); (case bt13 => exact fun _ _ _ h => h); (case ct13 => kernel_rfl); (case dt13 => (intro W hW; have hc : W.cell? ⟨g9, 34, none⟩ = some (.slice B2 auth.length b2) := (HX.out.2.1.under (show Below X.heap.size X W from hW)).cell (i := 34) (by decide); clear hW; go_simp; (try with_reducible rfl))); (case' rt13 => simp only [Act.put, List.setIfInBounds_toArray, List.set_cons_zero, List.set_cons_succ]))
      (refine held_take (i := 15) (oi := ?ot14) (v := ?vt14) ?at14 (by kernel_rfl) (by kernel_rfl) (by kernel_rfl) ?bt14 ?ct14 ?dt14 (by assumption) ?rt14; (case at14 => (simp only [List.getElem?_toArray, List.getElem?_cons_zero, List.getElem?_cons_succ]; rfl)); (case bt14 => exact fun _ _ _ h => h); (case ct14 => kernel_rfl); (case dt14 => (intro W hW; (try dsimp only at hW); go_split_ands; go_simp; (try with_reducible rfl))); (case' rt14 => simp only [Act.put, List.setIfInBounds_toArray, List.set_cons_zero, List.set_cons_succ]))
      (refine held_take (i := 16) (oi := ?ot15) (v := .agg (vec 32 (bys r))) ?at15 (by kernel_rfl) (by kernel_rfl) (by kernel_rfl) ?bt15 ?ct15 ?dt15 (by assumption) ?rt15; (case at15 => (simp only [List.getElem?_toArray, List.getElem?_cons_zero, List.getElem?_cons_succ]; rfl)); (case bt15 => exact fun _ _ _ h => h); (case ct15 => kernel_rfl); (case dt15 => (intro W hW; exact exec_load_at 30 _ rfl _ _ rfl _ (key_root (HX.out.1.under (show Below X.heap.size X W from hW))))); (case' rt15 => simp only [Act.put, List.setIfInBounds_toArray, List.set_cons_zero, List.set_cons_succ]))
      refine held_one (i := 7) (oi := ?ot16) (by kernel_rfl) ?at16 ?ct16 (fun K7 hK7 => ?_)
      (case at16 => (simp only [List.getElem?_toArray, List.getElem?_cons_zero, List.getElem?_cons_succ]; rfl))
      (case ct16 => kernel_rfl)
      have hcall := public_any B1 b1 ots m s idx HO.out _ ((HX.out.2.2.2.2.1.below (show Below X.heap.size X _ from hS)).wide (show Below X.heap.size X _ from hS).size) (tabs_below HX.out.2.2.2.2.2.2 (show Below X.heap.size X _ from hS))
      rw [← HPK.out] at hcall
      go_simp
      refine hcall.mono ?_
      rintro e y7 ⟨v, rfl, ho, hd⟩
      obtain ⟨E, cE, rfl, -, hrow⟩ := ho.row
      have HN := Lib.hid hrow
      refine hK7 _ _ (hS.keep hd) (fun hS7 => ?_)
      clear hcall ho hrow hd hK7 K7
      refine held_one (i := 14) (oi := ?ot17) (by kernel_rfl) ?at17 ?ct17 (fun K14 hK14 => ?_)
      (case at17 => (simp only [List.getElem?_toArray, List.getElem?_cons_zero, List.getElem?_cons_succ]; rfl))
      (case ct17 => kernel_rfl)
      have hcall := xroot_any E cE pk s idx HO.out B2 b2 auth _ HN.out ((HX.out.2.2.2.2.2.1.below (show Below X.heap.size X _ from hS7)).wide (show Below X.heap.size X _ from hS7).size) (tabs_below HX.out.2.2.2.2.2.2 (show Below X.heap.size X _ from hS7))
      go_simp
      refine hcall.mono ?_
      rintro e y14 ⟨rfl, hd⟩
      (try have HU := Lib.hid ((HU.out.below hd).wide hd.size))
      (try have HN := Lib.hid ((HN.out.below hd).wide hd.size))
      (try have HN2 := Lib.hid ((HN2.out.below hd).wide hd.size))
      (try have HN3 := Lib.hid ((HN3.out.below hd).wide hd.size))
      (try have HP := Lib.hid ((HP.out.below hd).wide hd.size))
      (try have HL := Lib.hid ((HL.out.below hd).wide hd.size))
      (try have HL2 := Lib.hid ((HL2.out.below hd).wide hd.size))
      (try have HL3 := Lib.hid ((HL3.out.below hd).wide hd.size))
      (try have HR := Lib.hid ((HR.out.below hd).wide hd.size))
      refine hK14 _ _ (hS7.keep hd) (fun hS14 => ?_)
      clear hcall hd hK14 K14
      (refine held_take (i := 17) (oi := ?ot18) (v := .bool (!q)) ?at18 (by kernel_rfl) (by kernel_rfl) (by kernel_rfl) ?bt18 ?ct18 ?dt18 (by assumption) ?rt18; (case at18 => (simp only [List.getElem?_toArray, List.getElem?_cons_zero, List.getElem?_cons_succ]; rfl)); (case bt18 => exact fun _ _ _ h => h); (case ct18 => kernel_rfl); (case dt18 => (intro W hW; exact exec_neq_q _ _ _ rfl (rootD (leafD pk s idx) idx auth s) r q HQ.out rfl rfl W)); (case' rt18 => simp only [Act.put, List.setIfInBounds_toArray, List.set_cons_zero, List.set_cons_succ]))
      refine wpAnyH_done (by kernel_rfl) ?_ _
      cases q
      · go_wp2
        go_ret
        exact ⟨rfl, HX.out.2.2.2.1.trans ((show Below X.heap.size X _ from hS14).mono HX.out.2.2.2.1.size)⟩
      · go_wp2
        go_ret
        exact ⟨rfl, HX.out.2.2.2.1.trans ((show Below X.heap.size X _ from hS14).mono HX.out.2.2.2.1.size)⟩
    · have t2 : ((k2 : Int) != 0) = true := bne_iff_ne.2 (by omega)
      have e0 : verK 0 k2 q = k2 := by unfold verK; rw [if_pos rfl, if_neg g2]
      rw [e0]
      clear e0 g2
      go_enter Tryz.func6, Tryz.ntmps6
      go_upto_region 2 with (first
        | (go_at_call 13; refine (HK.out A c _ HC.out.1 HL.out.1).mono ?_; rintro e w1 ⟨rfl, hd⟩; have H1 := Lib.hid hd; clear hd)
        | ((with_reducible show wpList _ _ _ (Oper.mk _ (.store 33 _ _) _ _ _ _ :: _) _ _); refine wl_store rfl 33 _ _ rfl _ rfl _ rfl (run_store_arr (Arr.new w1 _ _ _) (keyF (o : Int) r s) infoKey (keyF_one _ _ _ _)) ?_))
      obtain ⟨g7, hg7⟩ : ∃ g, g = w1.heap.size := ⟨_, rfl⟩
      obtain ⟨V1, hV1⟩ : ∃ X, X = (w1.alloc (.cells (vec 65 (keyF 0 zb zb)) 33)).setRow w1.heap.size (vec 65 (keyF (o : Int) r s)) := ⟨_, rfl⟩
      have hb1 : Below w1.heap.size w1 V1 := by rw [hV1]; exact below_row ((Below.refl _ _).alloc (Nat.le_refl _) _) (Nat.le_refl _) _
      have hbw : Below w.heap.size w V1 := H1.out.trans (hb1.mono H1.out.size)
      have hk7 : Arr V1 g7 33 65 (keyF (o : Int) r s) := by rw [hV1, hg7]; exact (Arr.new w1 _ _ _).row _
      have c7 := key_oid hk7
      have HV1 := Lib.hid (And.intro hk7 (And.intro hbw (And.intro ((HL.out.2.1.below hbw).wide hbw.size) (And.intro ((HL.out.2.2.1.below hbw).wide hbw.size) (tabs_below HL.out.2.2.2 hbw)))))
      rw [← hV1, ← hg7]
      clear hV1 hg7 hb1 hbw hk7 H1
      go_upto_region 5 with (first
        | (go_at_call 14; refine (HS.out S sc _ HC.out.2.1 HV1.out.2.2.2.1).mono ?_; rintro e w2 ⟨B1, b1, B2, b2, rfl, q1, q2, hd⟩; have H2 := Lib.hid (And.intro hd (And.intro q1 q2)); clear hd q1 q2)
        | ((with_reducible show wpList _ _ _ (Oper.mk _ (.store 46 _ _) _ _ _ _ :: _) _ _); refine wl_store rfl 46 _ _ rfl _ rfl _ rfl (run_store_arr (Arr.new w2 _ _ _) (sigF (idx : Int) rr (.slice B1 ots.length b1) (.slice B2 auth.length b2)) infoSig (sigF_one _ _ _ _ rfl rfl _)) ?_))
      obtain ⟨g9, hg9⟩ : ∃ g, g = w2.heap.size := ⟨_, rfl⟩
      obtain ⟨V2, hV2⟩ : ∃ X, X = (w2.alloc (.cells (vec 35 (sigF 0 zb (.slice none 0 0) (.slice none 0 0))) 46)).setRow w2.heap.size (vec 35 (sigF (idx : Int) rr (.slice B1 ots.length b1) (.slice B2 auth.length b2))) := ⟨_, rfl⟩
      have hb2 : Below w2.heap.size w2 V2 := by rw [hV2]; exact below_row ((Below.refl _ _).alloc (Nat.le_refl _) _) (Nat.le_refl _) _
      have hv2 : Below V1.heap.size V1 V2 := H2.out.1.trans (hb2.mono H2.out.1.size)
      have hk9 : Arr V2 g9 46 35 (sigF (idx : Int) rr (.slice B1 ots.length b1) (.slice B2 auth.length b2)) := by rw [hV2, hg9]; exact (Arr.new w2 _ _ _).row _
      have c9 : V2.cell? ⟨g9, 0, none⟩ = some (.int .u32 (idx : Int)) := hk9.cell (i := 0) (by decide)
      have HV2 := Lib.hid (And.intro (HV1.out.1.under hv2) (And.intro hk9 (And.intro (HV1.out.2.1.trans (hv2.mono HV1.out.2.1.size)) (And.intro ((HV1.out.2.2.1.below hv2).wide hv2.size) (And.intro ((H2.out.2.1.below hb2).wide hb2.size) (And.intro ((H2.out.2.2.below hb2).wide hb2.size) (tabs_below HV1.out.2.2.2.2 hv2)))))))
      rw [← hV2, ← hg9]
      clear hV2 hg9 hb2 hv2 hk9 c7 H2 HV1
      go_wp2
      go_ret
      exact ⟨rfl, HV2.out.2.2.1⟩
  · have t1 : ((k : Int) != 0) = true := bne_iff_ne.2 (by omega)
    have e0 : verK k k2 q = k := by unfold verK; rw [if_neg g1]
    rw [e0]
    clear e0 g1
    go_enter Tryz.func6, Tryz.ntmps6
    go_upto_region 2 with (first
      | (go_at_call 13; refine (HK.out A c _ HC.out.1 HL.out.1).mono ?_; rintro e w1 ⟨rfl, hd⟩; have H1 := Lib.hid hd; clear hd)
      | ((with_reducible show wpList _ _ _ (Oper.mk _ (.store 33 _ _) _ _ _ _ :: _) _ _); refine wl_store rfl 33 _ _ rfl _ rfl _ rfl (run_store_arr (Arr.new w1 _ _ _) (keyF (o : Int) r s) infoKey (keyF_one _ _ _ _)) ?_))
    obtain ⟨g7, hg7⟩ : ∃ g, g = w1.heap.size := ⟨_, rfl⟩
    obtain ⟨V1, hV1⟩ : ∃ X, X = (w1.alloc (.cells (vec 65 (keyF 0 zb zb)) 33)).setRow w1.heap.size (vec 65 (keyF (o : Int) r s)) := ⟨_, rfl⟩
    have hb1 : Below w1.heap.size w1 V1 := by rw [hV1]; exact below_row ((Below.refl _ _).alloc (Nat.le_refl _) _) (Nat.le_refl _) _
    have hbw : Below w.heap.size w V1 := H1.out.trans (hb1.mono H1.out.size)
    have hk7 : Arr V1 g7 33 65 (keyF (o : Int) r s) := by rw [hV1, hg7]; exact (Arr.new w1 _ _ _).row _
    have c7 := key_oid hk7
    have HV1 := Lib.hid (And.intro hk7 (And.intro hbw (And.intro ((HL.out.2.1.below hbw).wide hbw.size) (And.intro ((HL.out.2.2.1.below hbw).wide hbw.size) (tabs_below HL.out.2.2.2 hbw)))))
    rw [← hV1, ← hg7]
    clear hV1 hg7 hb1 hbw hk7 H1
    go_wp2
    go_ret
    exact ⟨rfl, HV1.out.2.1⟩
end Go.Proofs.YtfeiplaiekbdkaaGreatDoor
