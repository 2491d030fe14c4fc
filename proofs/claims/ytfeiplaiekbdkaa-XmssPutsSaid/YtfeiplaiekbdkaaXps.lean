/- PutSig. -/
import Derived.Test.YtfeiplaiekbdkaaXbytes
namespace Go.Proofs.Ytfeiplaiekbdkaa
open Go.RowKit
attribute [local go_sem ↓ high] zeroV26 zeroSig zeroSz

/-- May it be put? What PutSig answers. -/
def psOk (oid idx n1 n2 : Nat) : Bool := plcd idx (hgtO oid) n2 && decide (n1 = 67)
def psE (oid idx n1 n2 : Nat) : Nat := if isO oid then (if psOk oid idx n1 n2 then 0 else 81) else 80
def psL (oid idx : Nat) (r : Nd) (ots auth : List Nd) : List UInt8 := if isO oid && psOk oid idx ots.length auth.length then sigL idx r ots auth else []
/-- The contract of PutSig, of each of the two. -/
def SigPut (F : Nat) : Prop := ∀ (oid idx : Nat) (r : Nd) (ots auth : List Nd) (A1 A2 : Option Addr) (n1 n2 c1 c2 : Nat) (w : World), oid < 4294967296 → idx < 4294967296 → ots.length ≤ 1000 → auth.length ≤ 1000 → n1 = ots.length → n2 = auth.length → NRow w w.heap.size A1 ots → NRow w w.heap.size A2 auth →
  Calls Try.prog F #[.agg (vec 35 (sigF (idx : Int) r (.slice A1 n1 c1) (.slice A2 n2 c2))), .int .u32 (oid : Int)] w fun e w' => ∃ v, e = .returned (.tuple #[v, .int .i64 ((psE oid idx n1 n2 : Nat) : Int)]) ∧ w'.ownsRow w.heap.size 5 1 v (psL oid idx r ots auth).length (u8s (psL oid idx r ots auth)) ∧ Below w.heap.size w w'
theorem hgtO_is8 {oid : Nat} (h : isO oid = true) : hgtO oid = 10 ∨ hgtO oid = 16 ∨ hgtO oid = 20 := by
  rcases isO_cases h with ⟨_, e⟩ | ⟨_, e⟩ | ⟨_, e⟩ <;> simp [e]

set_option maxHeartbeats 2000000 in
set_option maxRecDepth 100000 in
theorem putSig_any : SigPut 18 := by
  intro oid idx r ots auth A1 A2 n1 n2 c1 c2 w hoid hidx ho ha hn1 hn2 h1 h2
  obtain ⟨V, hV⟩ : ∃ V, V = w.alloc (.cells (vec 35 (sigF (idx : Int) r (.slice A1 n1 c1) (.slice A2 n2 c2))) 44) := ⟨_, rfl⟩
  have h0 : Arr V w.heap.size 44 35 (sigF (idx : Int) r (.slice A1 n1 c1) (.slice A2 n2 c2)) := by rw [hV]; exact Arr.new w _ _ _
  have hB : Below w.heap.size w V := by rw [hV]; exact (Below.refl _ _).alloc (Nat.le_refl _) _
  have HA := Lib.hid (And.intro h0 hB)
  have HW := Lib.hid hV
  have HR := Lib.hid (And.intro ((h1.below hB).wide hB.size) ((h2.below hB).wide hB.size))
  have HH := Lib.hid (fun W => height_any oid hoid W)
  cases his : isO oid with
  | false =>
    have e1 : psE oid idx n1 n2 = 80 := by unfold psE; rw [his]; rfl
    have e2 : psL oid idx r ots auth = [] := by unfold psL; rw [his]; rfl
    rw [e1, e2]
    rw [his] at HH
    obtain ⟨h, hh⟩ : ∃ h, h = hgtO oid := ⟨_, rfl⟩
    rw [← hh] at HH
    clear hV h0 hB h1 h2 e1 e2 his hh hn1 hn2
    go_enter Try.func18, Try.ntmps18
    go_upto_region 1 with fail
    rw [← HW.out]
    clear HW
    go_wp2_with (go_at_call 8; refine (HH.out _).mono ?_; rintro e w1 ⟨rfl, hw1⟩; rw [← hw1]; clear hw1)
    go_ret2
    exact ⟨_, rfl, World.ownsRow_nil _ _ _ _, HA.out.2⟩
  | true =>
    have hh := hgtO_is8 his
    rw [his] at HH
    have hE : psE oid idx n1 n2 = (if psOk oid idx n1 n2 then 0 else 81) := by unfold psE; rw [his]; rfl
    have hL : psL oid idx r ots auth = (if psOk oid idx n1 n2 then sigL idx r ots auth else []) := by unfold psL; rw [his, Bool.true_and, hn1, hn2]
    have HP := Lib.hid (fun W => whole_any idx hidx r A1 n1 c1 A2 n2 c2 (hgtO oid) hh W)
    have hok : (plcd idx (hgtO oid) n2 && decide (n1 = 67)) = psOk oid idx n1 n2 := rfl
    rw [hok] at HP
    obtain ⟨h, hh⟩ : ∃ h, h = hgtO oid := ⟨_, rfl⟩
    obtain ⟨q, hq⟩ : ∃ q, q = psOk oid idx n1 n2 := ⟨_, rfl⟩
    rw [← hh] at HH HP
    rw [← hq] at HP hE hL
    have HBy := Lib.hid (fun W q1 q2 => bytes_any idx hidx r ots auth ho ha A1 A2 n1 n2 c1 c2 hn1 hn2 (h : Int) W q1 q2)
    rw [hE, hL]
    clear hV h0 hB h1 h2 hE hL hok his hh hq hn1 hn2 ho ha
    go_enter Try.func18, Try.ntmps18
    go_upto_region 1 with fail
    rw [← HW.out]
    clear HW
    go_upto_region 5 with (first
      | (go_at_call 8; refine (HH.out _).mono ?_; rintro e w1 ⟨rfl, hw1⟩; rw [← hw1]; clear hw1)
      | ((with_reducible show wpList _ _ _ (Oper.mk _ (.load _ _) _ _ _ _ :: _) _ _); refine wl_load rfl 44 _ rfl _ rfl _ (run_load_arr HA.out.1 Try.underlying44 rfl infoSig) ?_)
      | ((with_reducible show wpList _ _ _ (Oper.mk _ (.build _ _) _ _ _ _ :: _) _ _); refine wl_build rfl 67 _ rfl (vec 36 (szF (idx : Int) r (.slice A1 n1 c1) (.slice A2 n2 c2) (h : Int))) (by kernel_rfl) ?_)
      | ((with_reducible show wpList _ _ _ (Oper.mk _ (.store _ _ _) _ _ _ _ :: _) _ _); refine wl_store rfl 67 _ _ rfl _ rfl _ rfl (run_store_arr (Arr.new V _ _ _) (szF (idx : Int) r (.slice A1 n1 c1) (.slice A2 n2 c2) (h : Int)) infoSz (szF_one _ _ _ _ _ rfl rfl _)) ?_))
    obtain ⟨g, hg⟩ : ∃ g, g = V.heap.size := ⟨_, rfl⟩
    obtain ⟨X, hX⟩ : ∃ X, X = (V.alloc (.cells (vec 36 (szF 0 zb (.slice none 0 0) (.slice none 0 0) 0)) 67)).setRow V.heap.size (vec 36 (szF (idx : Int) r (.slice A1 n1 c1) (.slice A2 n2 c2) (h : Int))) := ⟨_, rfl⟩
    have hK : Arr X g 67 36 (szF (idx : Int) r (.slice A1 n1 c1) (.slice A2 n2 c2) (h : Int)) := by rw [hX, hg]; exact (Arr.new V _ _ _).row _
    have hb : Below V.heap.size V X := by rw [hX]; exact below_row ((Below.refl _ _).alloc (Nat.le_refl _) _) (Nat.le_refl _) _
    have HX := Lib.hid (And.intro hK (And.intro (HA.out.2.trans (hb.mono HA.out.2.size)) (And.intro ((HR.out.1.below hb).wide hb.size) ((HR.out.2.below hb).wide hb.size))))
    rw [← hX, ← hg]
    clear hX hg hK hb
    cases q
    · go_wp2_with (first
        | ((with_reducible show wpList _ _ _ (Oper.mk _ (.load _ _) _ _ _ _ :: _) _ _); refine wl_load rfl 67 _ rfl g rfl _ (run_load_arr HX.out.1 Try.underlying67 rfl infoSz) ?_)
        | (go_at_call 29; refine (HP.out _).mono ?_; rintro e w3 ⟨rfl, hd⟩; have H3 := Lib.hid hd; clear hd))
      go_ret2
      exact ⟨_, rfl, World.ownsRow_nil _ _ _ _, HX.out.2.1.trans (H3.out.mono HX.out.2.1.size)⟩
    · go_wp2_with (first
        | (go_at_call 29; refine (HP.out _).mono ?_; rintro e w3 ⟨rfl, hd⟩; have H3 := Lib.hid hd; have HX := Lib.hid (And.intro (HX.out.1.under hd) (And.intro (HX.out.2.1.trans (hd.mono HX.out.2.1.size)) (And.intro ((HX.out.2.2.1.below hd).wide hd.size) ((HX.out.2.2.2.below hd).wide hd.size)))); clear hd)
        | ((with_reducible show wpList _ _ _ (Oper.mk _ (.load _ _) _ _ _ _ :: _) _ _); refine wl_load rfl 67 _ rfl g rfl _ (run_load_arr HX.out.1 Try.underlying67 rfl infoSz) ?_)
        | (go_at_call 31; refine (HBy.out _ HX.out.2.2.1 HX.out.2.2.2).mono ?_; rintro e w4 ⟨v, rfl, ho, hd⟩; have H4 := Lib.hid (And.intro (owns_mono ho HX.out.2.1.size) (HX.out.2.1.trans (hd.mono HX.out.2.1.size))); clear ho hd))
      go_ret2
      exact ⟨_, rfl, H4.out.1, H4.out.2⟩
end Go.Proofs.Ytfeiplaiekbdkaa
