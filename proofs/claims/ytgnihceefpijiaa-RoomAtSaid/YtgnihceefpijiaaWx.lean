/- Merged: Sm, Lx16. -/
import Derived.Deep.QuietTactic
import Derived.BigQuiet
import Derived.Test.YtgnihceefpijiaaWp
import Derived.Test.YtgnihceefpijiaaProg
import Derived.Test.YtgnihceefpijiaaLw16
/- The reference's Same: two lists of spans. -/
namespace Go.Proofs.Ytgnihceefpijiaa
open Go.RowKit

theorem below_any {B : Nat} {a w : World} (h : Below B a w) (q : Nat) : Below B a (w.drewN q) := ⟨h.os, h.tape, h.output, h.size, h.block⟩
set_option maxHeartbeats 2000000 in
set_option maxRecDepth 100000 in
theorem same_any (A B : Option Addr) (c1 c2 : Nat) (l m : List Sp) (hl : l.length ≤ 1000000) (w : World) (hA : Row w w.heap.size A l) (hB : Row w w.heap.size B m) :
    Calls Try.prog 16 #[.slice A l.length c1, .slice B m.length c2] w fun e w' => e = .returned (.bool (decide (l = m))) ∧ Below w.heap.size w w' := by
  obtain ⟨v, hv⟩ : ∃ v, v = decide (l = m) := ⟨_, rfl⟩
  rw [← hv]
  have HV := Lib.hid hv
  have HA := Lib.hid hA
  have HB := Lib.hid hB
  have HL := Lib.hid hl
  clear hv hA hB hl
  by_cases hlen : l.length = m.length
  · have HE := Lib.hid hlen
    have hne : ((l.length : Int) != (m.length : Int)) = false := by simp; omega
    clear hlen
    go_enter Try.func16, Try.ntmps16
    go_wp2
    clear hne
    go_loopw [13] (fun i W => ∃ k : Nat, k ≤ l.length ∧ i = .int .i64 k ∧ Hid (∀ j, j < k → l[j]? = m[j]?) ∧ Below w.heap.size w W) (fun i _ => l.length - (intOf i).toNat)
    case atStart => exact ⟨0, Nat.zero_le _, rfl, Lib.hid fun _ h => absurd h (Nat.not_lt_zero _), Below.refl _ _⟩
    case round =>
      obtain ⟨k, hk, rfl, hall, hbel⟩ := hrel
      obtain ⟨W, rfl⟩ : ∃ W : World, W = wr := ⟨_, rfl⟩
      have hb3 : k + 1 ≤ 1000001 := by have := HL.out; omega
      by_cases hlt : k < l.length
      · have hlt2 : k < m.length := by have := HE.out; omega
        obtain ⟨a, p, rfl, hp, hpb, hc1, hc2⟩ := (HA.out.below hbel).at hlt
        obtain ⟨a', q, rfl, hq, hqb, hc3, hc4⟩ := (HB.out.below hbel).at hlt2
        have hstep : l[k] = m[k] → ∀ j, j < k + 1 → l[j]? = m[j]? := fun h j hj => by
          rcases Nat.lt_succ_iff_lt_or_eq.1 hj with h1 | rfl
          · exact hall.out j h1
          · rw [List.getElem?_eq_getElem hlt, List.getElem?_eq_getElem hlt2, h]
        have hno : l[k] ≠ m[k] → v = false := fun h => HV.out.trans (decide_eq_false fun e => h (by subst e; rfl))
        obtain ⟨x, hx⟩ : ∃ x, l[k] = x := ⟨_, rfl⟩
        obtain ⟨y, hy⟩ : ∃ y, m[k] = y := ⟨_, rfl⟩
        rw [hx] at hc1 hc2 hstep hno
        rw [hy] at hc3 hc4 hstep hno
        obtain ⟨b, s⟩ := x
        obtain ⟨c, d⟩ := y
        have HStep := Lib.hid hstep
        have HNo := Lib.hid hno
        have HBel := Lib.hid hbel
        clear hx hy hpb hqb hstep hno hbel
        simp only at hc1 hc2 hc3 hc4
        by_cases h1 : b = c
        · subst h1
          by_cases h2 : s = d
          · subst h2
            go_wp2_with fail
            go_quiet (fail)
            go_wp2
            go_roundw
            case rel => exact ⟨k + 1, by omega, by go_num, Lib.hid (HStep.out (by first | trivial | rfl)), below_any HBel.out _⟩
            case measure => simp [intOf]; omega
          · have h2z : ((s : Int) == (d : Int)) = false := by simp; omega
            have hv := HNo.out (fun e => h2 (by injection e))
            go_wp2_with fail
            go_quiet (fail)
            go_wp2
            go_ret
            exact ⟨by rw [hv]; rfl, below_any HBel.out _⟩
        · have h1z : ((b : Int) == (c : Int)) = false := by simp; omega
          have hv := HNo.out (fun e => h1 (by injection e))
          go_wp2_with fail
          go_quiet (fail)
          go_wp2
          go_ret
          exact ⟨by rw [hv]; rfl, below_any HBel.out _⟩
      · obtain rfl : k = l.length := by omega
        have hv : v = true := HV.out.trans (decide_eq_true (List.ext_getElem? fun j => by
          rcases Nat.lt_or_ge j l.length with h | h
          · exact hall.out j h
          · rw [List.getElem?_eq_none h, List.getElem?_eq_none (by have := HE.out; omega)]))
        have HBel := Lib.hid hbel
        clear hbel
        go_wp2
        go_ret
        exact ⟨by rw [hv]; rfl, HBel.out⟩
  · have hv : v = false := HV.out.trans (decide_eq_false fun e => hlen (by rw [e]))
    have hne : ((l.length : Int) != (m.length : Int)) = true := by simp; omega
    go_enter Try.func16, Try.ntmps16
    go_wp2
    go_ret
    exact ⟨by rw [hv]; rfl, Below.refl _ _⟩
end Go.Proofs.Ytgnihceefpijiaa
/- The law RoomSpans, over what the code's functions keep. -/
namespace Go.Proofs.Ytgnihceefpijiaa
open Go.RowKit
attribute [local go_sem ↓ high] zeroCf

def CodePhys : Prop := ∀ (x : Cf) (a c : Value) (g : Int) (w : World), CfR w w.heap.size x a c → CfB x → fewC x = true → Calls Try.prog 17 #[cfVal x a c, .int .i64 g] w (SpansP (physG x g) w)
def CodeShared : Prop := ∀ (x : Cf) (a c : Value) (g : Int) (w : World), CfR w w.heap.size x a c → CfB x → fewC x = true → Calls Try.prog 19 #[cfVal x a c, .int .i64 g] w (SpansP (sharedG x g) w)
theorem guestAt_is {x : Cf} {g : Int} {t : Gs} (h : guestAt x g = some t) : t ∈ x.gs := by
  unfold guestAt at h
  split at h
  · cases h
  · exact List.mem_of_getElem? h
theorem physG_len {x : Cf} (g : Int) (hf : fewC x = true) : (physG x g).length ≤ 1000000 := by
  unfold physG
  cases h : guestAt x g with
  | none => simp
  | some t =>
    obtain ⟨-, -, hfa⟩ := few_gs hf
    have hfew := gFew_iff (hfa _ (guestAt_is h))
    simp only
    rw [physP_is, List.length_append, List.length_map, List.length_map]
    have := hfew.1
    have := hfew.2.1
    omega
theorem sharedG_len {x : Cf} (g : Int) (hf : fewC x = true) : (sharedG x g).length ≤ 1000000 := by
  unfold sharedG
  cases h : guestAt x g with
  | none => simp
  | some t =>
    obtain ⟨-, hfc, -⟩ := few_gs hf
    simp only
    rw [sharedP_is, List.length_map]
    have := List.length_filter_le (namesC g) x.chs
    omega
theorem RowE.row {w : World} {B : Nat} {A : Option Addr} {l : List Sp} (h : RowE 2 spE w B A l) : Row w B A l := fun hne => by
  obtain ⟨a, rfl, hb, hc⟩ := h hne
  exact ⟨a, rfl, hb, fun j hj => ⟨hc j hj 0 (by decide), hc j hj 1 (by decide)⟩⟩
theorem same_spans (l : List Sp) (hl : l.length ≤ 1000000) (A B : Option Addr) (c d : Nat) (w : World) (h1 : RowE 2 spE w w.heap.size A l) (h2 : RowE 2 spE w w.heap.size B l) : Calls Try.prog 16 #[.slice A l.length c, .slice B l.length d] w (EqV true w) := by
  have h := same_any A B c d l l hl w h1.row h2.row
  rw [decide_eq_true rfl] at h
  exact h
set_option maxHeartbeats 8000000 in
set_option maxRecDepth 100000 in
theorem roomSpans_walk (HAWK : Awake16) (HCP : CodePhys) (HCS : CodeShared) (x : Cf) (a c : Value) (g : Int) (w : World) (hx : CfR w w.heap.size x a c) (hb : CfB x) :
    Calls Try.prog 5 #[cfVal x a c, .int .i64 g] w fun e w' => e = .returned (.bool true) ∧ Below w.heap.size w w' := by
  obtain ⟨V0, hV0⟩ : ∃ V, V = w.alloc (.cells (vec 3 (cfE x.ver a c)) 26) := ⟨_, rfl⟩
  have k1 : Arr V0 w.heap.size 26 3 (cfE x.ver a c) := by rw [hV0]; exact Arr.new w _ _ _
  have hB : Below w.heap.size w V0 := by rw [hV0]; exact (Below.refl _ _).alloc (Nat.le_refl _) _
  have HW := Lib.hid hV0
  have H0 := Lib.hid (And.intro hB (And.intro k1 (hx.up hB)))
  have HCB := Lib.hid hb
  clear hV0 k1 hB hx hb
  unfold cfVal
  go_enter Try.func5, Try.ntmps5
  go_upto_region 1 with fail
  rw [← HW.out]
  clear HW
  go_upto_region 3 with (go_at_call 7; refine (HAWK _).mono ?_; rintro e V ⟨rfl, hd⟩; have HAW := Lib.hid hd; clear hd)
  have HV : Hid (Below w.heap.size w V) := Lib.hid (H0.out.1.trans (HAW.out.mono H0.out.1.size))
  have HA := Lib.hid (H0.out.2.1.under HAW.out)
  have HCX := Lib.hid (H0.out.2.2.up HAW.out)
  have HD : Hid (Below V.heap.size V V) := Lib.hid (Below.refl _ _)
  clear H0 HAW
  obtain ⟨fx, hfx⟩ : ∃ f, f = fewC x := ⟨_, rfl⟩
  have HFA : Hid (∀ Y, Below V.heap.size V Y → Calls Try.prog 8 #[.agg (vec 3 (cfE x.ver a c))] Y (FewP fx Y)) := Lib.hid (fun Y hY => by rw [hfx]; exact few_any x a c Y (HCX.out.up hY))
  cases fx
  · clear hfx
    refine wp_region_held_drew (S := fun Y => VS V Y) (by kernel_rfl) (VS.begin V) (fun hS => ?_)
    (refine held_take (i := 0) (oi := ?ot1) (v := .agg (vec 3 (cfE x.ver a c))) ?at1 (by kernel_rfl) (by kernel_rfl) (by kernel_rfl) ?bt1 ?ct1 ?dt1 (by assumption) ?rt1; (case at1 => (simp only [List.getElem?_toArray, List.getElem?_cons_zero]; rfl)); (case bt1 => exact fun _ _ _ h => h); (case ct1 => kernel_rfl); (case dt1 => (intro W hW; exact exec_load_at 26 _ rfl _ _ rfl _ (run_load_arr (HA.out.under (show Below V.heap.size V W from hW)) Try.underlying26 rfl infoCf))); (case' rt1 => simp only [Act.put, List.setIfInBounds_toArray, List.set_cons_zero, List.set_cons_succ]))
    refine held_one (i := 1) (oi := ?ot2) (by kernel_rfl) ?at2 ?ct2 (fun K1 hK1 => ?_)
    (case at2 => (simp only [List.getElem?_toArray, List.getElem?_cons_zero, List.getElem?_cons_succ]; rfl))
    (case ct2 => kernel_rfl)
    go_simp
    refine (HFA.out _ (show Below V.heap.size V _ from hS)).mono ?_
    rintro e y1 ⟨rfl, hd⟩
    refine hK1 _ _ ((show VS V _ from hS).keep hd) (fun hS1 => ?_)
    clear hd hS hK1 K1
    (refine held_take (i := 2) (oi := ?ot3) (v := ?vt3) ?at3 (by kernel_rfl) (by kernel_rfl) (by kernel_rfl) ?bt3 ?ct3 ?dt3 (by assumption) ?rt3; (case at3 => (simp only [List.getElem?_toArray, List.getElem?_cons_zero, List.getElem?_cons_succ]; rfl)); (case bt3 => exact fun _ _ _ h => h); (case ct3 => kernel_rfl); (case dt3 => (intro W hW; (try dsimp only at hW); go_split_ands; go_simp; (try with_reducible rfl))); (case' rt3 => simp only [Act.put, List.setIfInBounds_toArray, List.set_cons_zero, List.set_cons_succ]))
    (refine held_take (i := 3) (oi := ?ot4) (v := ?vt4) ?at4 (by kernel_rfl) (by kernel_rfl) (by kernel_rfl) ?bt4 ?ct4 ?dt4 (by assumption) ?rt4; (case at4 => (simp only [List.getElem?_toArray, List.getElem?_cons_zero, List.getElem?_cons_succ]; rfl)); (case bt4 => exact fun _ _ _ h => h); (case ct4 => kernel_rfl); (case dt4 => (intro W hW; (try dsimp only at hW); go_split_ands; go_simp; (try with_reducible rfl))); (case' rt4 => simp only [Act.put, List.setIfInBounds_toArray, List.set_cons_zero, List.set_cons_succ]))
    (refine held_skip (i := 4) (oi := ?ot5) ?at5 (by kernel_rfl) (by kernel_rfl) (by kernel_rfl) ?bt5 ?ct5 (by assumption) ?rt5; (case at5 => (simp only [List.getElem?_toArray, List.getElem?_cons_zero, List.getElem?_cons_succ]; rfl)); (case bt5 => exact fun _ _ _ h => h); (case ct5 => kernel_rfl); (case' rt5 => simp only [Act.put, List.setIfInBounds_toArray, List.set_cons_zero, List.set_cons_succ]))
    (refine held_skip (i := 5) (oi := ?ot6) ?at6 (by kernel_rfl) (by kernel_rfl) (by kernel_rfl) ?bt6 ?ct6 (by assumption) ?rt6; (case at6 => (simp only [List.getElem?_toArray, List.getElem?_cons_zero, List.getElem?_cons_succ]; rfl)); (case bt6 => exact fun _ _ _ h => h); (case ct6 => kernel_rfl); (case' rt6 => simp only [Act.put, List.setIfInBounds_toArray, List.set_cons_zero, List.set_cons_succ]))
    (refine held_skip (i := 6) (oi := ?ot7) ?at7 (by kernel_rfl) (by kernel_rfl) (by kernel_rfl) ?bt7 ?ct7 (by assumption) ?rt7; (case at7 => (simp only [List.getElem?_toArray, List.getElem?_cons_zero, List.getElem?_cons_succ]; rfl)); (case bt7 => exact fun _ _ _ h => h); (case ct7 => kernel_rfl); (case' rt7 => simp only [Act.put, List.setIfInBounds_toArray, List.set_cons_zero, List.set_cons_succ]))
    (refine held_skip (i := 7) (oi := ?ot8) ?at8 (by kernel_rfl) (by kernel_rfl) (by kernel_rfl) ?bt8 ?ct8 (by assumption) ?rt8; (case at8 => (simp only [List.getElem?_toArray, List.getElem?_cons_zero, List.getElem?_cons_succ]; rfl)); (case bt8 => exact fun _ _ _ h => h); (case ct8 => kernel_rfl); (case' rt8 => simp only [Act.put, List.setIfInBounds_toArray, List.set_cons_zero, List.set_cons_succ]))
    (refine held_skip (i := 8) (oi := ?ot9) ?at9 (by kernel_rfl) (by kernel_rfl) (by kernel_rfl) ?bt9 ?ct9 (by assumption) ?rt9; (case at9 => (simp only [List.getElem?_toArray, List.getElem?_cons_zero, List.getElem?_cons_succ]; rfl)); (case bt9 => exact fun _ _ _ h => h); (case ct9 => kernel_rfl); (case' rt9 => simp only [Act.put, List.setIfInBounds_toArray, List.set_cons_zero, List.set_cons_succ]))
    (refine held_skip (i := 9) (oi := ?ot10) ?at10 (by kernel_rfl) (by kernel_rfl) (by kernel_rfl) ?bt10 ?ct10 (by assumption) ?rt10; (case at10 => (simp only [List.getElem?_toArray, List.getElem?_cons_zero, List.getElem?_cons_succ]; rfl)); (case bt10 => exact fun _ _ _ h => h); (case ct10 => kernel_rfl); (case' rt10 => simp only [Act.put, List.setIfInBounds_toArray, List.set_cons_zero, List.set_cons_succ]))
    (refine held_skip (i := 10) (oi := ?ot11) ?at11 (by kernel_rfl) (by kernel_rfl) (by kernel_rfl) ?bt11 ?ct11 (by assumption) ?rt11; (case at11 => (simp only [List.getElem?_toArray, List.getElem?_cons_zero, List.getElem?_cons_succ]; rfl)); (case bt11 => exact fun _ _ _ h => h); (case ct11 => kernel_rfl); (case' rt11 => simp only [Act.put, List.setIfInBounds_toArray, List.set_cons_zero, List.set_cons_succ]))
    (refine held_skip (i := 11) (oi := ?ot12) ?at12 (by kernel_rfl) (by kernel_rfl) (by kernel_rfl) ?bt12 ?ct12 (by assumption) ?rt12; (case at12 => (simp only [List.getElem?_toArray, List.getElem?_cons_zero, List.getElem?_cons_succ]; rfl)); (case bt12 => exact fun _ _ _ h => h); (case ct12 => kernel_rfl); (case' rt12 => simp only [Act.put, List.setIfInBounds_toArray, List.set_cons_zero, List.set_cons_succ]))
    (refine held_skip (i := 12) (oi := ?ot13) ?at13 (by kernel_rfl) (by kernel_rfl) (by kernel_rfl) ?bt13 ?ct13 (by assumption) ?rt13; (case at13 => (simp only [List.getElem?_toArray, List.getElem?_cons_zero, List.getElem?_cons_succ]; rfl)); (case bt13 => exact fun _ _ _ h => h); (case ct13 => kernel_rfl); (case' rt13 => simp only [Act.put, List.setIfInBounds_toArray, List.set_cons_zero, List.set_cons_succ]))
    (refine held_skip (i := 13) (oi := ?ot14) ?at14 (by kernel_rfl) (by kernel_rfl) (by kernel_rfl) ?bt14 ?ct14 (by assumption) ?rt14; (case at14 => (simp only [List.getElem?_toArray, List.getElem?_cons_zero, List.getElem?_cons_succ]; rfl)); (case bt14 => exact fun _ _ _ h => h); (case ct14 => kernel_rfl); (case' rt14 => simp only [Act.put, List.setIfInBounds_toArray, List.set_cons_zero, List.set_cons_succ]))
    (refine held_skip (i := 14) (oi := ?ot15) ?at15 (by kernel_rfl) (by kernel_rfl) (by kernel_rfl) ?bt15 ?ct15 (by assumption) ?rt15; (case at15 => (simp only [List.getElem?_toArray, List.getElem?_cons_zero, List.getElem?_cons_succ]; rfl)); (case bt15 => exact fun _ _ _ h => h); (case ct15 => kernel_rfl); (case' rt15 => simp only [Act.put, List.setIfInBounds_toArray, List.set_cons_zero, List.set_cons_succ]))
    (refine held_skip (i := 15) (oi := ?ot16) ?at16 (by kernel_rfl) (by kernel_rfl) (by kernel_rfl) ?bt16 ?ct16 (by assumption) ?rt16; (case at16 => (simp only [List.getElem?_toArray, List.getElem?_cons_zero, List.getElem?_cons_succ]; rfl)); (case bt16 => exact fun _ _ _ h => h); (case ct16 => kernel_rfl); (case' rt16 => simp only [Act.put, List.setIfInBounds_toArray, List.set_cons_zero, List.set_cons_succ]))
    (refine held_skip (i := 16) (oi := ?ot17) ?at17 (by kernel_rfl) (by kernel_rfl) (by kernel_rfl) ?bt17 ?ct17 (by assumption) ?rt17; (case at17 => (simp only [List.getElem?_toArray, List.getElem?_cons_zero, List.getElem?_cons_succ]; rfl)); (case bt17 => exact fun _ _ _ h => h); (case ct17 => kernel_rfl); (case' rt17 => simp only [Act.put, List.setIfInBounds_toArray, List.set_cons_zero, List.set_cons_succ]))
    (refine held_skip (i := 17) (oi := ?ot18) ?at18 (by kernel_rfl) (by kernel_rfl) (by kernel_rfl) ?bt18 ?ct18 (by assumption) ?rt18; (case at18 => (simp only [List.getElem?_toArray, List.getElem?_cons_zero, List.getElem?_cons_succ]; rfl)); (case bt18 => exact fun _ _ _ h => h); (case ct18 => kernel_rfl); (case' rt18 => simp only [Act.put, List.setIfInBounds_toArray, List.set_cons_zero, List.set_cons_succ]))
    (refine held_skip (i := 18) (oi := ?ot19) ?at19 (by kernel_rfl) (by kernel_rfl) (by kernel_rfl) ?bt19 ?ct19 (by assumption) ?rt19; (case at19 => (simp only [List.getElem?_toArray, List.getElem?_cons_zero, List.getElem?_cons_succ]; rfl)); (case bt19 => exact fun _ _ _ h => h); (case ct19 => kernel_rfl); (case' rt19 => simp only [Act.put, List.setIfInBounds_toArray, List.set_cons_zero, List.set_cons_succ]))
    (refine held_skip (i := 19) (oi := ?ot20) ?at20 (by kernel_rfl) (by kernel_rfl) (by kernel_rfl) ?bt20 ?ct20 (by assumption) ?rt20; (case at20 => (simp only [List.getElem?_toArray, List.getElem?_cons_zero, List.getElem?_cons_succ]; rfl)); (case bt20 => exact fun _ _ _ h => h); (case ct20 => kernel_rfl); (case' rt20 => simp only [Act.put, List.setIfInBounds_toArray, List.set_cons_zero, List.set_cons_succ]))
    (refine held_take (i := 20) (oi := ?ot21) (v := ?vt21) ?at21 (by kernel_rfl) (by kernel_rfl) (by kernel_rfl) ?bt21 ?ct21 ?dt21 (by assumption) ?rt21; (case at21 => (simp only [List.getElem?_toArray, List.getElem?_cons_zero, List.getElem?_cons_succ]; rfl)); (case bt21 => exact fun _ _ _ h => h); (case ct21 => kernel_rfl); (case dt21 => (intro W hW; (try dsimp only at hW); go_split_ands; go_simp; (try with_reducible rfl))); (case' rt21 => simp only [Act.put, List.setIfInBounds_toArray, List.set_cons_zero, List.set_cons_succ]))
    (refine held_take (i := 21) (oi := ?ot22) (v := ?vt22) ?at22 (by kernel_rfl) (by kernel_rfl) (by kernel_rfl) ?bt22 ?ct22 ?dt22 (by assumption) ?rt22; (case at22 => (simp only [List.getElem?_toArray, List.getElem?_cons_zero, List.getElem?_cons_succ]; rfl)); (case bt22 => exact fun _ _ _ h => h); (case ct22 => kernel_rfl); (case dt22 => (intro W hW; (try dsimp only at hW); go_split_ands; go_simp; (try with_reducible rfl))); (case' rt22 => simp only [Act.put, List.setIfInBounds_toArray, List.set_cons_zero, List.set_cons_succ]))
    refine wpAnyH_done (by kernel_rfl) ?_ _
    go_wp2
    go_ret
    exact ⟨rfl, HV.out.trans ((show Below V.heap.size V _ from hS1).mono HV.out.size)⟩
  · have HFW := hfx.symm
    have HP1 := Lib.hid (fun Y (hY : Below V.heap.size V Y) => HCP x a c g Y (HCX.out.up hY) HCB.out HFW)
    have HP2 := Lib.hid (fun Y (hY : Below V.heap.size V Y) => rphys_any x a c g Y (HCX.out.up hY) HCB.out HFW)
    have HS1 := Lib.hid (fun Y (hY : Below V.heap.size V Y) => HCS x a c g Y (HCX.out.up hY) HCB.out HFW)
    have HS2 := Lib.hid (fun Y (hY : Below V.heap.size V Y) => rshared_any x a c g Y (HCX.out.up hY) HCB.out HFW)
    have hl1 := physG_len g HFW
    have hl2 := sharedG_len g HFW
    obtain ⟨LP, hLP⟩ : ∃ l, l = physG x g := ⟨_, rfl⟩
    obtain ⟨LS, hLS⟩ : ∃ l, l = sharedG x g := ⟨_, rfl⟩
    rw [← hLP] at HP1 HP2 hl1
    rw [← hLS] at HS1 HS2 hl2
    unfold cfVal at HP1 HP2 HS1 HS2
    have HQ1 := Lib.hid (fun A B c d Y h1 h2 => same_spans LP hl1 A B c d Y h1 h2)
    have HQ2 := Lib.hid (fun A B c d Y h1 h2 => same_spans LS hl2 A B c d Y h1 h2)
    clear hfx HFW hl1 hl2 hLP hLS HAWK HCP HCS
    refine wp_region_held_drew (S := fun Y => VS V Y) (by kernel_rfl) (VS.begin V) (fun hS => ?_)
    (refine held_take (i := 0) (oi := ?ot23) (v := .agg (vec 3 (cfE x.ver a c))) ?at23 (by kernel_rfl) (by kernel_rfl) (by kernel_rfl) ?bt23 ?ct23 ?dt23 (by assumption) ?rt23; (case at23 => (simp only [List.getElem?_toArray, List.getElem?_cons_zero]; rfl)); (case bt23 => exact fun _ _ _ h => h); (case ct23 => kernel_rfl); (case dt23 => (intro W hW; exact exec_load_at 26 _ rfl _ _ rfl _ (run_load_arr (HA.out.under (show Below V.heap.size V W from hW)) Try.underlying26 rfl infoCf))); (case' rt23 => simp only [Act.put, List.setIfInBounds_toArray, List.set_cons_zero, List.set_cons_succ]))
    refine held_one (i := 1) (oi := ?ot24) (by kernel_rfl) ?at24 ?ct24 (fun K1 hK1 => ?_)
    (case at24 => (simp only [List.getElem?_toArray, List.getElem?_cons_zero, List.getElem?_cons_succ]; rfl))
    (case ct24 => kernel_rfl)
    go_simp
    refine (HFA.out _ (show Below V.heap.size V _ from hS)).mono ?_
    rintro e y1 ⟨rfl, hd⟩
    refine hK1 _ _ ((show VS V _ from hS).keep hd) (fun hS1 => ?_)
    clear hd hS hK1 K1
    (refine held_take (i := 2) (oi := ?ot25) (v := ?vt25) ?at25 (by kernel_rfl) (by kernel_rfl) (by kernel_rfl) ?bt25 ?ct25 ?dt25 (by assumption) ?rt25; (case at25 => (simp only [List.getElem?_toArray, List.getElem?_cons_zero, List.getElem?_cons_succ]; rfl)); (case bt25 => exact fun _ _ _ h => h); (case ct25 => kernel_rfl); (case dt25 => (intro W hW; (try dsimp only at hW); go_split_ands; go_simp; (try with_reducible rfl))); (case' rt25 => simp only [Act.put, List.setIfInBounds_toArray, List.set_cons_zero, List.set_cons_succ]))
    (refine held_take (i := 3) (oi := ?ot26) (v := ?vt26) ?at26 (by kernel_rfl) (by kernel_rfl) (by kernel_rfl) ?bt26 ?ct26 ?dt26 (by assumption) ?rt26; (case at26 => (simp only [List.getElem?_toArray, List.getElem?_cons_zero, List.getElem?_cons_succ]; rfl)); (case bt26 => exact fun _ _ _ h => h); (case ct26 => kernel_rfl); (case dt26 => (intro W hW; (try dsimp only at hW); go_split_ands; go_simp; (try with_reducible rfl))); (case' rt26 => simp only [Act.put, List.setIfInBounds_toArray, List.set_cons_zero, List.set_cons_succ]))
    (refine held_take (i := 4) (oi := ?ot27) (v := .agg (vec 3 (cfE x.ver a c))) ?at27 (by kernel_rfl) (by kernel_rfl) (by kernel_rfl) ?bt27 ?ct27 ?dt27 (by assumption) ?rt27; (case at27 => (simp only [List.getElem?_toArray, List.getElem?_cons_zero, List.getElem?_cons_succ]; rfl)); (case bt27 => exact fun _ _ _ h => h); (case ct27 => kernel_rfl); (case dt27 => (intro W hW; exact exec_load_at 26 _ rfl _ _ rfl _ (run_load_arr (HA.out.under (show Below V.heap.size V W from hW)) Try.underlying26 rfl infoCf))); (case' rt27 => simp only [Act.put, List.setIfInBounds_toArray, List.set_cons_zero, List.set_cons_succ]))
    (refine held_take (i := 5) (oi := ?ot28) (v := ?vt28) ?at28 (by kernel_rfl) (by kernel_rfl) (by kernel_rfl) ?bt28 ?ct28 ?dt28 (by assumption) ?rt28; (case at28 => (simp only [List.getElem?_toArray, List.getElem?_cons_zero, List.getElem?_cons_succ]; rfl)); (case bt28 => exact fun _ _ _ h => h); (case ct28 => kernel_rfl); (case dt28 => (intro W hW; (try dsimp only at hW); go_split_ands; go_simp; (try with_reducible rfl))); (case' rt28 => simp only [Act.put, List.setIfInBounds_toArray, List.set_cons_zero, List.set_cons_succ]))
    (refine held_take (i := 7) (oi := ?ot29) (v := .agg (vec 3 (cfE x.ver a c))) ?at29 (by kernel_rfl) (by kernel_rfl) (by kernel_rfl) ?bt29 ?ct29 ?dt29 (by assumption) ?rt29; (case at29 => (simp only [List.getElem?_toArray, List.getElem?_cons_zero, List.getElem?_cons_succ]; rfl)); (case bt29 => exact fun _ _ _ h => h); (case ct29 => kernel_rfl); (case dt29 => (intro W hW; exact exec_load_at 26 _ rfl _ _ rfl _ (run_load_arr (HA.out.under (show Below V.heap.size V W from hW)) Try.underlying26 rfl infoCf))); (case' rt29 => simp only [Act.put, List.setIfInBounds_toArray, List.set_cons_zero, List.set_cons_succ]))
    (refine held_take (i := 8) (oi := ?ot30) (v := ?vt30) ?at30 (by kernel_rfl) (by kernel_rfl) (by kernel_rfl) ?bt30 ?ct30 ?dt30 (by assumption) ?rt30; (case at30 => (simp only [List.getElem?_toArray, List.getElem?_cons_zero, List.getElem?_cons_succ]; rfl)); (case bt30 => exact fun _ _ _ h => h); (case ct30 => kernel_rfl); (case dt30 => (intro W hW; (try dsimp only at hW); go_split_ands; go_simp; (try with_reducible rfl))); (case' rt30 => simp only [Act.put, List.setIfInBounds_toArray, List.set_cons_zero, List.set_cons_succ]))
    refine held_one (i := 6) (oi := ?ot31) (by kernel_rfl) ?at31 ?ct31 (fun K6 hK6 => ?_)
    (case at31 => (simp only [List.getElem?_toArray, List.getElem?_cons_zero, List.getElem?_cons_succ]; rfl))
    (case ct31 => kernel_rfl)
    go_simp
    refine (HP1.out _ (show Below V.heap.size V _ from hS1)).mono ?_
    rintro e y6 ⟨v6, rfl, ho, hd⟩
    obtain ⟨A6, c6, rfl, -, hr, -⟩ := ho.form
    have R6 := Lib.hid hr
    refine hK6 _ _ ((show VS V _ from hS1).keep hd) (fun hS6 => ?_)
    clear hd ho hr hS1 hK6 K6
    refine held_one (i := 9) (oi := ?ot32) (by kernel_rfl) ?at32 ?ct32 (fun K9 hK9 => ?_)
    (case at32 => (simp only [List.getElem?_toArray, List.getElem?_cons_zero, List.getElem?_cons_succ]; rfl))
    (case ct32 => kernel_rfl)
    go_simp
    refine (HP2.out _ (show Below V.heap.size V _ from hS6)).mono ?_
    rintro e y9 ⟨v9, rfl, ho, hd⟩
    obtain ⟨A9, c9, rfl, -, hr, -⟩ := ho.form
    have R9 := Lib.hid hr
    replace R6 := Lib.hid (R6.out.up hd)
    refine hK9 _ _ ((show VS V _ from hS6).keep hd) (fun hS9 => ?_)
    clear hd ho hr hS6 hK9 K9
    refine held_one (i := 10) (oi := ?ot33) (by kernel_rfl) ?at33 ?ct33 (fun K10 hK10 => ?_)
    (case at33 => (simp only [List.getElem?_toArray, List.getElem?_cons_zero, List.getElem?_cons_succ]; rfl))
    (case ct33 => kernel_rfl)
    go_simp
    refine (HQ1.out _ _ _ _ _ R6.out R9.out).mono ?_
    rintro e y10 ⟨rfl, hd⟩
    refine hK10 _ _ ((show VS V _ from hS9).keep hd) (fun hS10 => ?_)
    clear hd hS9 hK10 K10
    (refine held_take (i := 11) (oi := ?ot34) (v := ?vt34) ?at34 (by kernel_rfl) (by kernel_rfl) (by kernel_rfl) ?bt34 ?ct34 ?dt34 (by assumption) ?rt34; (case at34 => (simp only [List.getElem?_toArray, List.getElem?_cons_zero, List.getElem?_cons_succ]; rfl)); (case bt34 => exact fun _ _ _ h => h); (case ct34 => kernel_rfl); (case dt34 => (intro W hW; (try dsimp only at hW); go_split_ands; go_simp; (try with_reducible rfl))); (case' rt34 => simp only [Act.put, List.setIfInBounds_toArray, List.set_cons_zero, List.set_cons_succ]))
    (refine held_take (i := 12) (oi := ?ot35) (v := .agg (vec 3 (cfE x.ver a c))) ?at35 (by kernel_rfl) (by kernel_rfl) (by kernel_rfl) ?bt35 ?ct35 ?dt35 (by assumption) ?rt35; (case at35 => (simp only [List.getElem?_toArray, List.getElem?_cons_zero, List.getElem?_cons_succ]; rfl)); (case bt35 => exact fun _ _ _ h => h); (case ct35 => kernel_rfl); (case dt35 => (intro W hW; exact exec_load_at 26 _ rfl _ _ rfl _ (run_load_arr (HA.out.under (show Below V.heap.size V W from hW)) Try.underlying26 rfl infoCf))); (case' rt35 => simp only [Act.put, List.setIfInBounds_toArray, List.set_cons_zero, List.set_cons_succ]))
    (refine held_take (i := 13) (oi := ?ot36) (v := ?vt36) ?at36 (by kernel_rfl) (by kernel_rfl) (by kernel_rfl) ?bt36 ?ct36 ?dt36 (by assumption) ?rt36; (case at36 => (simp only [List.getElem?_toArray, List.getElem?_cons_zero, List.getElem?_cons_succ]; rfl)); (case bt36 => exact fun _ _ _ h => h); (case ct36 => kernel_rfl); (case dt36 => (intro W hW; (try dsimp only at hW); go_split_ands; go_simp; (try with_reducible rfl))); (case' rt36 => simp only [Act.put, List.setIfInBounds_toArray, List.set_cons_zero, List.set_cons_succ]))
    (refine held_take (i := 15) (oi := ?ot37) (v := .agg (vec 3 (cfE x.ver a c))) ?at37 (by kernel_rfl) (by kernel_rfl) (by kernel_rfl) ?bt37 ?ct37 ?dt37 (by assumption) ?rt37; (case at37 => (simp only [List.getElem?_toArray, List.getElem?_cons_zero, List.getElem?_cons_succ]; rfl)); (case bt37 => exact fun _ _ _ h => h); (case ct37 => kernel_rfl); (case dt37 => (intro W hW; exact exec_load_at 26 _ rfl _ _ rfl _ (run_load_arr (HA.out.under (show Below V.heap.size V W from hW)) Try.underlying26 rfl infoCf))); (case' rt37 => simp only [Act.put, List.setIfInBounds_toArray, List.set_cons_zero, List.set_cons_succ]))
    (refine held_take (i := 16) (oi := ?ot38) (v := ?vt38) ?at38 (by kernel_rfl) (by kernel_rfl) (by kernel_rfl) ?bt38 ?ct38 ?dt38 (by assumption) ?rt38; (case at38 => (simp only [List.getElem?_toArray, List.getElem?_cons_zero, List.getElem?_cons_succ]; rfl)); (case bt38 => exact fun _ _ _ h => h); (case ct38 => kernel_rfl); (case dt38 => (intro W hW; (try dsimp only at hW); go_split_ands; go_simp; (try with_reducible rfl))); (case' rt38 => simp only [Act.put, List.setIfInBounds_toArray, List.set_cons_zero, List.set_cons_succ]))
    refine held_one (i := 14) (oi := ?ot39) (by kernel_rfl) ?at39 ?ct39 (fun K14 hK14 => ?_)
    (case at39 => (simp only [List.getElem?_toArray, List.getElem?_cons_zero, List.getElem?_cons_succ]; rfl))
    (case ct39 => kernel_rfl)
    go_simp
    refine (HS1.out _ (show Below V.heap.size V _ from hS10)).mono ?_
    rintro e y14 ⟨v14, rfl, ho, hd⟩
    obtain ⟨A14, c14, rfl, -, hr, -⟩ := ho.form
    have R14 := Lib.hid hr
    refine hK14 _ _ ((show VS V _ from hS10).keep hd) (fun hS14 => ?_)
    clear hd ho hr hS10 hK14 K14
    refine held_one (i := 17) (oi := ?ot40) (by kernel_rfl) ?at40 ?ct40 (fun K17 hK17 => ?_)
    (case at40 => (simp only [List.getElem?_toArray, List.getElem?_cons_zero, List.getElem?_cons_succ]; rfl))
    (case ct40 => kernel_rfl)
    go_simp
    refine (HS2.out _ (show Below V.heap.size V _ from hS14)).mono ?_
    rintro e y17 ⟨v17, rfl, ho, hd⟩
    obtain ⟨A17, c17, rfl, -, hr, -⟩ := ho.form
    have R17 := Lib.hid hr
    replace R14 := Lib.hid (R14.out.up hd)
    refine hK17 _ _ ((show VS V _ from hS14).keep hd) (fun hS17 => ?_)
    clear hd ho hr hS14 hK17 K17
    refine held_one (i := 18) (oi := ?ot41) (by kernel_rfl) ?at41 ?ct41 (fun K18 hK18 => ?_)
    (case at41 => (simp only [List.getElem?_toArray, List.getElem?_cons_zero, List.getElem?_cons_succ]; rfl))
    (case ct41 => kernel_rfl)
    go_simp
    refine (HQ2.out _ _ _ _ _ R14.out R17.out).mono ?_
    rintro e y18 ⟨rfl, hd⟩
    refine hK18 _ _ ((show VS V _ from hS17).keep hd) (fun hS18 => ?_)
    clear hd hS17 hK18 K18
    (refine held_take (i := 19) (oi := ?ot42) (v := ?vt42) ?at42 (by kernel_rfl) (by kernel_rfl) (by kernel_rfl) ?bt42 ?ct42 ?dt42 (by assumption) ?rt42; (case at42 => (simp only [List.getElem?_toArray, List.getElem?_cons_zero, List.getElem?_cons_succ]; rfl)); (case bt42 => exact fun _ _ _ h => h); (case ct42 => kernel_rfl); (case dt42 => (intro W hW; (try dsimp only at hW); go_split_ands; go_simp; (try with_reducible rfl))); (case' rt42 => simp only [Act.put, List.setIfInBounds_toArray, List.set_cons_zero, List.set_cons_succ]))
    (refine held_take (i := 20) (oi := ?ot43) (v := ?vt43) ?at43 (by kernel_rfl) (by kernel_rfl) (by kernel_rfl) ?bt43 ?ct43 ?dt43 (by assumption) ?rt43; (case at43 => (simp only [List.getElem?_toArray, List.getElem?_cons_zero, List.getElem?_cons_succ]; rfl)); (case bt43 => exact fun _ _ _ h => h); (case ct43 => kernel_rfl); (case dt43 => (intro W hW; (try dsimp only at hW); go_split_ands; go_simp; (try with_reducible rfl))); (case' rt43 => simp only [Act.put, List.setIfInBounds_toArray, List.set_cons_zero, List.set_cons_succ]))
    (refine held_take (i := 21) (oi := ?ot44) (v := ?vt44) ?at44 (by kernel_rfl) (by kernel_rfl) (by kernel_rfl) ?bt44 ?ct44 ?dt44 (by assumption) ?rt44; (case at44 => (simp only [List.getElem?_toArray, List.getElem?_cons_zero, List.getElem?_cons_succ]; rfl)); (case bt44 => exact fun _ _ _ h => h); (case ct44 => kernel_rfl); (case dt44 => (intro W hW; (try dsimp only at hW); go_split_ands; go_simp; (try with_reducible rfl))); (case' rt44 => simp only [Act.put, List.setIfInBounds_toArray, List.set_cons_zero, List.set_cons_succ]))
    refine wpAnyH_done (by kernel_rfl) ?_ _
    go_wp2
    go_ret
    exact ⟨rfl, HV.out.trans ((show Below V.heap.size V _ from hS18).mono HV.out.size)⟩
end Go.Proofs.Ytgnihceefpijiaa
