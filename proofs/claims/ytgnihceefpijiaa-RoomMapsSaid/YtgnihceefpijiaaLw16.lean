/- The laws of rooms, over what the code's functions keep. -/
import Derived.Test.YtgnihceefpijiaaWq
namespace Go.Proofs.Ytgnihceefpijiaa
open Go.RowKit
attribute [local go_sem ↓ high] zeroCf

def Awake16 : Prop := ∀ W : World, Calls Try.prog 7 #[] W fun e V => e = .returned (.bool true) ∧ Below W.heap.size W V
/-- What the code's Maps tells: as MapsP, but with any empty slice where there is an error. -/
def MapsC (r : Except Nat (List Mp)) (w : World) (e : Ending) (w' : World) : Prop := match r with
  | .error n => ∃ A c, e = .returned (.tuple #[.slice A 0 c, .int .i64 (n : Nat)]) ∧ Below w.heap.size w w'
  | .ok l => ∃ v, e = .returned (.tuple #[v, .int .i64 0]) ∧ OwnM w' w.heap.size v l ∧ Below w.heap.size w w'
theorem MapsP.toC {r : Except Nat (List Mp)} {w w' : World} {e : Ending} (h : MapsP r w e w') : MapsC r w e w' := by
  cases r with
  | error n => exact ⟨none, 0, h⟩
  | ok l => exact h
def CodeMaps : Prop := ∀ (x : Cf) (a c : Value) (g : Int) (w : World), CfR w w.heap.size x a c → CfB x → fewC x = true → Calls Try.prog 9 #[cfVal x a c, .int .i64 g] w (MapsC (mapsP x g) w)
theorem eqL_mp (l : List Mp) : eqL mpEq l l = true := by
  unfold eqL eqTo
  rw [decide_eq_true rfl, Bool.true_and, List.all_eq_true]
  intro j hj
  rw [List.mem_range] at hj
  rw [List.getElem?_eq_getElem hj]
  exact mpEq_self _
theorem mapsP_is {x : Cf} {g : Int} {l : List Mp} (h : mapsP x g = .ok l) : ∃ (i : Nat) (hi : i < x.gs.length), g = (i : Int) ∧ l = sortP (partsP x.gs[i] x.chs g) ∧ okM l = true := by
  by_cases hno : g < 0 ∨ (x.gs.length : Int) ≤ g
  · unfold mapsP at h
    rw [guestAt_no hno] at h
    cases h
  · obtain ⟨i, rfl⟩ := Int.eq_ofNat_of_zero_le (show 0 ≤ g by omega)
    have hi : i < x.gs.length := by omega
    unfold mapsP at h
    rw [guestAt_yes hi] at h
    simp only at h
    split at h
    · injection h with h
      subst h
      exact ⟨i, hi, rfl, rfl, by assumption⟩
    · cases h
theorem mapsP_len {x : Cf} {g : Int} {l : List Mp} (h : mapsP x g = .ok l) (hf : fewC x = true) : l.length ≤ 120 := by
  obtain ⟨i, hi, rfl, rfl, -⟩ := mapsP_is h
  obtain ⟨hfg, hfc, hfa⟩ := few_gs hf
  have hfew := gFew_iff (hfa _ (List.getElem_mem hi))
  rw [sortP_len]
  unfold partsP
  rw [List.length_append, List.length_append, List.length_map, List.length_map]
  have := flat_len (i : Int) x.chs
  have := hfew.1
  have := hfew.2.1
  omega
theorem same_alike (l : List Mp) (hl : l.length ≤ 120) (A B : Option Addr) (c d : Nat) (w : World) (h1 : RowE 5 mpE w w.heap.size A l) (h2 : RowE 5 mpE w w.heap.size B l) : Calls Try.prog 11 #[.slice A l.length c, .slice B l.length d] w (EqQ true w) := by
  have h := sameMaps_any l l A B c d w (by omega) h1 h2
  rw [eqL_mp] at h
  exact h
theorem below_dq {B : Nat} {a w : World} (h : Below B a w) (q : Nat) : Below B a (w.drewN q) := ⟨h.os, h.tape, h.output, h.size, h.block⟩
set_option maxHeartbeats 8000000 in
set_option maxRecDepth 100000 in
theorem roomMaps_walk (HAWK : Awake16) (HCM : CodeMaps) (x : Cf) (a c : Value) (g : Int) (w : World) (hx : CfR w w.heap.size x a c) (hb : CfB x) :
    Calls Try.prog 3 #[cfVal x a c, .int .i64 g] w fun e w' => e = .returned (.bool true) ∧ Below w.heap.size w w' := by
  obtain ⟨V0, hV0⟩ : ∃ V, V = w.alloc (.cells (vec 3 (cfE x.ver a c)) 26) := ⟨_, rfl⟩
  have k1 : Arr V0 w.heap.size 26 3 (cfE x.ver a c) := by rw [hV0]; exact Arr.new w _ _ _
  have hB : Below w.heap.size w V0 := by rw [hV0]; exact (Below.refl _ _).alloc (Nat.le_refl _) _
  have HW := Lib.hid hV0
  have H0 := Lib.hid (And.intro hB (And.intro k1 (hx.up hB)))
  have HCB := Lib.hid hb
  clear hV0 k1 hB hx hb
  unfold cfVal
  go_enter Try.func3, Try.ntmps3
  go_upto_region 1 with fail
  rw [← HW.out]
  clear HW
  go_upto_region 3 with (go_at_call 7; refine (HAWK _).mono ?_; rintro e V ⟨rfl, hd⟩; have HAW := Lib.hid hd; clear hd)
  have HV : Hid (Below w.heap.size w V) := Lib.hid (H0.out.1.trans (HAW.out.mono H0.out.1.size))
  have HA := Lib.hid (H0.out.2.1.under HAW.out)
  have HCX := Lib.hid (H0.out.2.2.up HAW.out)
  have HD : Hid (Below V.heap.size V V) := Lib.hid (Below.refl _ _)
  clear H0 HAW
  obtain ⟨fx, hfx⟩ : ∃ f, f = fewC x := ⟨_, rfl⟩
  have HFA : Hid (∀ Y, Below V.heap.size V Y → Calls Try.prog 8 #[.agg (vec 3 (cfE x.ver a c))] Y (FewP fx Y)) := Lib.hid (fun Y hY => by rw [hfx]; exact few_any x a c Y (HCX.out.up hY))
  cases fx
  · clear hfx
    go_wp2_with (first
      | ((with_reducible show wpList _ _ _ (Oper.mk _ (.load _ _) _ _ _ _ :: _) _ _); refine wl_load rfl 26 _ rfl _ rfl _ (run_load_arr (HA.out.under HD.out) Try.underlying26 rfl infoCf) ?_)
      | (go_at_call 8; refine (HFA.out _ HD.out).mono ?_; rintro e w1 ⟨rfl, hd⟩; have HD := Lib.hid hd; clear hd))
    go_ret
    exact ⟨rfl, HV.out.trans (HD.out.mono HV.out.size)⟩
  have HFW := Lib.hid hfx.symm
  clear hfx
  go_upto_region 5 with (first
      | ((with_reducible show wpList _ _ _ (Oper.mk _ (.load _ _) _ _ _ _ :: _) _ _); refine wl_load rfl 26 _ rfl _ rfl _ (run_load_arr (HA.out.under HD.out) Try.underlying26 rfl infoCf) ?_)
      | (go_at_call 8; refine (HFA.out _ HD.out).mono ?_; rintro e w1 ⟨rfl, hd⟩; have HD := Lib.hid hd; clear hd))
  clear HFA
  obtain ⟨R, hR⟩ : ∃ R, R = mapsP x g := ⟨_, rfl⟩
  have HM1 := Lib.hid (fun Y (hY : Below V.heap.size V Y) => HCM x a c g Y (HCX.out.up hY) HCB.out HFW.out)
  have HM2 := Lib.hid (fun Y (hY : Below V.heap.size V Y) => rmaps_any x a c g Y (HCX.out.up hY) HCB.out HFW.out)
  rw [← hR] at HM1 HM2
  unfold cfVal at HM1 HM2
  cases R with
  | error n =>
    have HN1 : Hid (∀ Y, Below V.heap.size V Y → Calls Try.prog 9 #[.agg (vec 3 (cfE x.ver a c)), .int .i64 g] Y (fun e w' => ∃ A c, e = .returned (.tuple #[.slice A 0 c, .int .i64 (n : Nat)]) ∧ Below Y.heap.size Y w')) := HM1
    have HN2 : Hid (∀ Y, Below V.heap.size V Y → Calls Try.prog 10 #[.agg (vec 3 (cfE x.ver a c)), .int .i64 g] Y (fun e w' => e = .returned (.tuple #[.slice none 0 0, .int .i64 (n : Nat)]) ∧ Below Y.heap.size Y w')) := HM2
    have HS : Hid (∀ A c Y, Calls Try.prog 11 #[.slice A 0 c, .slice none 0 0] Y (EqQ true Y)) := Lib.hid (fun A c Y => same_alike [] (by simp) A none c 0 Y (fun h => absurd rfl h) (fun h => absurd rfl h))
    unfold EqQ at HS
    clear HM1 HM2 hR HAWK HCM
    go_upto_region 7 with (first
      | ((with_reducible show wpList _ _ _ (Oper.mk _ (.load _ _) _ _ _ _ :: _) _ _); refine wl_load rfl 26 _ rfl _ rfl _ (run_load_arr (HA.out.under HD.out) Try.underlying26 rfl infoCf) ?_)
      | (go_at_call 9; refine (HN1.out _ HD.out).mono ?_; rintro e w2 ⟨A1, c1, rfl, hd⟩; have HD := Lib.hid (HD.out.trans (hd.mono HD.out.size)); clear hd)
      | (go_at_call 10; refine (HN2.out _ HD.out).mono ?_; rintro e w3 ⟨rfl, hd⟩; have HD := Lib.hid (HD.out.trans (hd.mono HD.out.size)); clear hd))
    go_wp2_with (go_at_call 11; refine (HS.out _ _ _).mono ?_; rintro e w4 ⟨rfl, k4, rfl⟩)
    go_ret
    exact ⟨rfl, HV.out.trans ((below_dq HD.out _).mono HV.out.size)⟩
  | ok l =>
    have HN1 : Hid (∀ Y, Below V.heap.size V Y → Calls Try.prog 9 #[.agg (vec 3 (cfE x.ver a c)), .int .i64 g] Y (fun e w' => ∃ v, e = .returned (.tuple #[v, .int .i64 0]) ∧ OwnM w' Y.heap.size v l ∧ Below Y.heap.size Y w')) := HM1
    have HN2 : Hid (∀ Y, Below V.heap.size V Y → Calls Try.prog 10 #[.agg (vec 3 (cfE x.ver a c)), .int .i64 g] Y (fun e w' => ∃ v, e = .returned (.tuple #[v, .int .i64 0]) ∧ OwnM w' Y.heap.size v l ∧ Below Y.heap.size Y w')) := HM2
    have HS : Hid (∀ A B c d Y, RowE 5 mpE Y Y.heap.size A l → RowE 5 mpE Y Y.heap.size B l → Calls Try.prog 11 #[.slice A l.length c, .slice B l.length d] Y (EqQ true Y)) := Lib.hid (fun A B c d Y h1 h2 => same_alike l (mapsP_len hR.symm HFW.out) A B c d Y h1 h2)
    unfold EqQ at HS
    clear HM1 HM2 hR HAWK HCM
    go_upto_region 7 with (first
      | ((with_reducible show wpList _ _ _ (Oper.mk _ (.load _ _) _ _ _ _ :: _) _ _); refine wl_load rfl 26 _ rfl _ rfl _ (run_load_arr (HA.out.under HD.out) Try.underlying26 rfl infoCf) ?_)
      | (go_at_call 9; refine (HN1.out _ HD.out).mono ?_; rintro e w2 ⟨v1, rfl, ho, hd⟩; obtain ⟨A1, c1, rfl, -, hr1, -⟩ := ho.form; have HR1 := Lib.hid hr1; have HD := Lib.hid (HD.out.trans (hd.mono HD.out.size)); clear hd ho hr1)
      | (go_at_call 10; refine (HN2.out _ HD.out).mono ?_; rintro e w3 ⟨v2, rfl, ho, hd⟩; obtain ⟨A2, c2, rfl, -, hr2, -⟩ := ho.form; have HR2 := Lib.hid hr2; have HR1 := Lib.hid (HR1.out.up hd); have HD := Lib.hid (HD.out.trans (hd.mono HD.out.size)); clear hd ho hr2))
    go_wp2_with (go_at_call 11; refine (HS.out _ _ _ _ _ HR1.out HR2.out).mono ?_; rintro e w4 ⟨rfl, k4, rfl⟩)
    go_ret
    exact ⟨rfl, HV.out.trans ((below_dq HD.out _).mono HV.out.size)⟩
end Go.Proofs.Ytgnihceefpijiaa
