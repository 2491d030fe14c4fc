/- Same, in, Covers. -/
import Derived.Test.YthedpjlafapfeaaRcut
import Derived.Test.YthedpjlafapfeaaAwake2
import Derived.Deep.QuietTactic
import Derived.BigQuiet
namespace Go.Proofs.Ythedpjlafapfeaa
open Go.RowKit

theorem below_any {B : Nat} {a w : World} (h : Below B a w) (q : Nat) : Below B a (w.drewN q) := ⟨h.os, h.tape, h.output, h.size, h.block⟩

set_option maxHeartbeats 2000000 in
set_option maxRecDepth 100000 in
theorem same_any (A B : Option Addr) (c1 c2 : Nat) (l m : List Sp) (hl : l.length ≤ 1000000) (w : World) (hA : Row w w.heap.size A l) (hB : Row w w.heap.size B m) :
    Calls Try.prog 24 #[.slice A l.length c1, .slice B m.length c2] w fun e w' => e = .returned (.bool (decide (l = m))) ∧ Below w.heap.size w w' := by
  obtain ⟨v, hv⟩ : ∃ v, v = decide (l = m) := ⟨_, rfl⟩
  rw [← hv]
  have HV := Lib.hid hv
  have HA := Lib.hid hA
  have HB := Lib.hid hB
  have HL := Lib.hid hl
  clear hv hA hB hl
  by_cases hlen : l.length = m.length
  · have HE := Lib.hid hlen
    have hne : ((l.length : Int) != (m.length : Int)) = false := by simp; omega
    clear hlen
    go_enter Try.func24, Try.ntmps24
    go_wp2
    clear hne
    go_loopw [13] (fun i W => ∃ k : Nat, k ≤ l.length ∧ i = .int .i64 k ∧ Hid (∀ j, j < k → l[j]? = m[j]?) ∧ Below w.heap.size w W) (fun i _ => l.length - (intOf i).toNat)
    case atStart => exact ⟨0, Nat.zero_le _, rfl, Lib.hid fun _ h => absurd h (Nat.not_lt_zero _), Below.refl _ _⟩
    case round =>
      obtain ⟨k, hk, rfl, hall, hbel⟩ := hrel
      obtain ⟨W, rfl⟩ : ∃ W : World, W = wr := ⟨_, rfl⟩
      have hb3 : k + 1 ≤ 1000001 := by have := HL.out; omega
      by_cases hlt : k < l.length
      · have hlt2 : k < m.length := by have := HE.out; omega
        obtain ⟨a, p, rfl, hp, hpb, hc1, hc2⟩ := (HA.out.below hbel).at hlt
        obtain ⟨a', q, rfl, hq, hqb, hc3, hc4⟩ := (HB.out.below hbel).at hlt2
        have hstep : l[k] = m[k] → ∀ j, j < k + 1 → l[j]? = m[j]? := fun h j hj => by
          rcases Nat.lt_succ_iff_lt_or_eq.1 hj with h1 | rfl
          · exact hall.out j h1
          · rw [List.getElem?_eq_getElem hlt, List.getElem?_eq_getElem hlt2, h]
        have hno : l[k] ≠ m[k] → v = false := fun h => HV.out.trans (decide_eq_false fun e => h (by subst e; rfl))
        obtain ⟨x, hx⟩ : ∃ x, l[k] = x := ⟨_, rfl⟩
        obtain ⟨y, hy⟩ : ∃ y, m[k] = y := ⟨_, rfl⟩
        rw [hx] at hc1 hc2 hstep hno
        rw [hy] at hc3 hc4 hstep hno
        obtain ⟨b, s⟩ := x
        obtain ⟨c, d⟩ := y
        have HStep := Lib.hid hstep
        have HNo := Lib.hid hno
        have HBel := Lib.hid hbel
        clear hx hy hpb hqb hstep hno hbel
        simp only at hc1 hc2 hc3 hc4
        by_cases h1 : b = c
        · subst h1
          by_cases h2 : s = d
          · subst h2
            go_wp2_with fail
            go_quiet (fail)
            go_wp2
            go_roundw
            case rel => exact ⟨k + 1, by omega, by go_num, Lib.hid (HStep.out (by first | trivial | rfl)), below_any HBel.out _⟩
            case measure => simp [intOf]; omega
          · have h2z : ((s : Int) == (d : Int)) = false := by simp; omega
            have hv := HNo.out (fun e => h2 (by injection e))
            go_wp2_with fail
            go_quiet (fail)
            go_wp2
            go_ret
            exact ⟨by rw [hv]; rfl, below_any HBel.out _⟩
        · have h1z : ((b : Int) == (c : Int)) = false := by simp; omega
          have hv := HNo.out (fun e => h1 (by injection e))
          go_wp2_with fail
          go_quiet (fail)
          go_wp2
          go_ret
          exact ⟨by rw [hv]; rfl, below_any HBel.out _⟩
      · obtain rfl : k = l.length := by omega
        have hv : v = true := HV.out.trans (decide_eq_true (List.ext_getElem? fun j => by
          rcases Nat.lt_or_ge j l.length with h | h
          · exact hall.out j h
          · rw [List.getElem?_eq_none h, List.getElem?_eq_none (by have := HE.out; omega)]))
        have HBel := Lib.hid hbel
        clear hbel
        go_wp2
        go_ret
        exact ⟨by rw [hv]; rfl, HBel.out⟩
  · have hv : v = false := HV.out.trans (decide_eq_false fun e => hlen (by rw [e]))
    have hne : ((l.length : Int) != (m.length : Int)) = true := by simp; omega
    go_enter Try.func24, Try.ntmps24
    go_wp2
    go_ret
    exact ⟨by rw [hv]; rfl, Below.refl _ _⟩

set_option maxHeartbeats 2000000 in
set_option maxRecDepth 100000 in
theorem in_any (A : Option Addr) (cap : Nat) (l : List Sp) (hl : l.length ≤ 1000000) (hf : ∀ x ∈ l, fit x) (p : Nat) (hp : p < 18446744073709551616) (w : World) (hR : Row w w.heap.size A l) :
    Calls Try.prog 31 #[.slice A l.length cap, .int .u64 (p : Int)] w fun e w' => e = .returned (.bool (inn l p)) ∧ Below w.heap.size w w' := by
  obtain ⟨v, hv⟩ : ∃ v, v = inn l p := ⟨_, rfl⟩
  rw [← hv]
  have HV := Lib.hid hv
  have HR := Lib.hid hR
  have HL := Lib.hid hl
  have HF := Lib.hid hf
  have HP := Lib.hid hp
  clear hv hR hl hf hp
  go_enter Try.func31, Try.ntmps31
  go_wp2
  go_loopw [9] (fun i W => ∃ k : Nat, k ≤ l.length ∧ i = .int .i64 k ∧ Hid (inn (l.take k) p = false) ∧ Hid (Below w.heap.size w W)) (fun i _ => l.length - (intOf i).toNat)
  case atStart => exact ⟨0, Nat.zero_le _, rfl, Lib.hid rfl, Lib.hid (Below.refl _ _)⟩
  case round =>
    obtain ⟨k, hk, rfl, hall, hbel⟩ := hrel
    obtain ⟨W, rfl⟩ : ∃ W : World, W = wr := ⟨_, rfl⟩
    have hb3 : k + 1 ≤ 1000001 := by have := HL.out; omega
    by_cases hlt : k < l.length
    · obtain ⟨a, q, rfl, hq, hqb, hc1, hc2⟩ := (HR.out.below hbel.out).at hlt
      have hyes : has l[k] p = true → v = true := fun h => HV.out.trans ((inn_iff l p).2 ⟨_, List.getElem_mem hlt, h⟩)
      have hno : has l[k] p = false → inn (l.take (k + 1)) p = false := fun h => by
        have := hall.out
        rw [List.take_succ_eq_append_getElem hlt]
        simp only [inn, List.any_append] at this ⊢
        rw [this]; simp [h]
      have hfx := HF.out _ (List.getElem_mem hlt)
      obtain ⟨x, hx⟩ : ∃ x, l[k] = x := ⟨_, rfl⟩
      rw [hx] at hc1 hc2 hyes hno hfx
      obtain ⟨b, s⟩ := x
      simp only at hc1 hc2
      have hB1 := fun Y (hd : Below (W.alloc (spo b s)).heap.size (W.alloc (spo b s)) Y) => (show Below w.heap.size w Y from (hbel.out.alloc hbel.out.size _).trans (hd.mono (by have := hbel.out.size; simp; omega)))
      have HB1 := Lib.hid hB1
      have HH := Lib.hid (fun Y => rhas_any b s p hfx HP.out Y)
      have HYes := Lib.hid hyes
      have HNo := Lib.hid hno
      obtain ⟨o, ho⟩ : ∃ o, has (b, s) p = o := ⟨_, rfl⟩
      rw [ho] at HH HYes HNo
      clear hx hqb hyes hno hfx hB1 ho
      cases o
      · go_wp2_with (go_at_call 15; refine (HH.out _).mono ?_; rintro e w1 ⟨rfl, hd⟩; have HD := Lib.hid hd; clear hd)
        go_roundw
        case rel => exact ⟨k + 1, by omega, by go_num, Lib.hid (HNo.out (by first | trivial | rfl)), Lib.hid (HB1.out _ HD.out)⟩
        case measure => simp [intOf]; omega
      · have hv := HYes.out (by first | trivial | rfl)
        go_wp2_with (go_at_call 15; refine (HH.out _).mono ?_; rintro e w1 ⟨rfl, hd⟩; have HD := Lib.hid hd; clear hd)
        go_ret
        exact ⟨by rw [hv]; rfl, HB1.out _ HD.out⟩
    · obtain rfl : k = l.length := by omega
      have hv : v = false := by have := hall.out; rw [List.take_length] at this; exact HV.out.trans this
      go_wp2
      go_ret
      exact ⟨by rw [hv]; rfl, hbel.out⟩

set_option maxHeartbeats 2000000 in
set_option maxRecDepth 100000 in
theorem covers_any (a b : Nat) (A : Option Addr) (cap n m : Nat) (g : Bool) (w : World)
    (hg : ∀ Y, Calls Try.prog 10 #[.agg #[.int .u64 (a : Int), .int .u64 (b : Int)]] Y fun e w' => e = .returned (.bool g) ∧ Below Y.heap.size Y w')
    (hc : ∀ Y, Below w.heap.size w Y → Calls Try.prog 27 #[.agg #[.int .u64 (a : Int), .int .u64 (b : Int)], .slice A m cap] Y fun e w' => (∃ A' c', e = .returned (.slice A' n c')) ∧ Below Y.heap.size Y w') :
    Calls Try.prog 29 #[.agg #[.int .u64 (a : Int), .int .u64 (b : Int)], .slice A m cap] w fun e w' => e = .returned (.bool (g && decide (n = 0))) ∧ Below w.heap.size w w' := by
  have HG := Lib.hid hg
  have HC := Lib.hid hc
  have HB := Lib.hid (show ∀ Y, Below (w.alloc (spo a b)).heap.size (w.alloc (spo a b)) Y → Below w.heap.size w Y from fun Y hd => ((Below.refl _ w).alloc (Nat.le_refl _) _).trans (hd.mono (by simp)))
  have HAt := Lib.hid (show ∀ X, Below (w.alloc (spo a b)).heap.size (w.alloc (spo a b)) X → X.cell? ⟨w.heap.size, 0, none⟩ = some (.int .u64 (a : Int)) ∧ X.cell? ⟨w.heap.size, 1, none⟩ = some (.int .u64 (b : Int)) from fun X hd =>
    ⟨(hd.cell (p := ⟨w.heap.size, 0, none⟩) (by simp)).trans (by simp), (hd.cell (p := ⟨w.heap.size, 1, none⟩) (by simp)).trans (by simp)⟩)
  clear hg hc
  cases g
  · go_enter Try.func29, Try.ntmps29
    go_wp2_with (go_at_call 10; refine (HG.out _).mono ?_; rintro e w1 ⟨rfl, hd⟩; have HD := Lib.hid hd; clear hd)
    go_ret
    exact ⟨rfl, HB.out _ HD.out⟩
  · by_cases hn : n = 0
    · subst hn
      go_enter Try.func29, Try.ntmps29
      go_wp2_with (first
        | (go_at_call 10; refine (HG.out _).mono ?_; rintro e w1 ⟨rfl, hd⟩; obtain ⟨c0, c1⟩ := HAt.out _ hd; have HD := Lib.hid hd; clear hd)
        | (go_at_call 27; refine (HC.out w1 (HB.out _ HD.out)).mono ?_; rintro e w2 ⟨⟨A', c', rfl⟩, hd⟩; have HD2 := Lib.hid ((HB.out _ HD.out).trans (hd.mono (HB.out _ HD.out).size)); clear hd))
      go_ret
      exact ⟨by simp, HD2.out⟩
    · have hnz : ¬ ((n : Int) = 0) := by omega
      have hny : ((n : Int) == 0) = false := by simp; omega
      go_enter Try.func29, Try.ntmps29
      go_wp2_with (first
        | (go_at_call 10; refine (HG.out _).mono ?_; rintro e w1 ⟨rfl, hd⟩; obtain ⟨c0, c1⟩ := HAt.out _ hd; have HD := Lib.hid hd; clear hd)
        | (go_at_call 27; refine (HC.out w1 (HB.out _ HD.out)).mono ?_; rintro e w2 ⟨⟨A', c', rfl⟩, hd⟩; have HD2 := Lib.hid ((HB.out _ HD.out).trans (hd.mono (HB.out _ HD.out).size)); clear hd))
      go_ret
      exact ⟨by simp [hn], HD2.out⟩

set_option maxHeartbeats 2000000 in
set_option maxRecDepth 100000 in
theorem rcovers_any (a b : Nat) (A : Option Addr) (cap n m : Nat) (g : Bool) (w : World)
    (hg : ∀ Y, Calls Try.prog 11 #[.agg #[.int .u64 (a : Int), .int .u64 (b : Int)]] Y fun e w' => e = .returned (.bool g) ∧ Below Y.heap.size Y w')
    (hc : ∀ Y, Below w.heap.size w Y → Calls Try.prog 28 #[.agg #[.int .u64 (a : Int), .int .u64 (b : Int)], .slice A m cap] Y fun e w' => (∃ A' c', e = .returned (.slice A' n c')) ∧ Below Y.heap.size Y w') :
    Calls Try.prog 30 #[.agg #[.int .u64 (a : Int), .int .u64 (b : Int)], .slice A m cap] w fun e w' => e = .returned (.bool (g && decide (n = 0))) ∧ Below w.heap.size w w' := by
  have HG := Lib.hid hg
  have HC := Lib.hid hc
  have HB := Lib.hid (show ∀ Y, Below (w.alloc (spo a b)).heap.size (w.alloc (spo a b)) Y → Below w.heap.size w Y from fun Y hd => ((Below.refl _ w).alloc (Nat.le_refl _) _).trans (hd.mono (by simp)))
  have HAt := Lib.hid (show ∀ X, Below (w.alloc (spo a b)).heap.size (w.alloc (spo a b)) X → X.cell? ⟨w.heap.size, 0, none⟩ = some (.int .u64 (a : Int)) ∧ X.cell? ⟨w.heap.size, 1, none⟩ = some (.int .u64 (b : Int)) from fun X hd =>
    ⟨(hd.cell (p := ⟨w.heap.size, 0, none⟩) (by simp)).trans (by simp), (hd.cell (p := ⟨w.heap.size, 1, none⟩) (by simp)).trans (by simp)⟩)
  clear hg hc
  cases g
  · go_enter Try.func30, Try.ntmps30
    go_wp2_with (go_at_call 11; refine (HG.out _).mono ?_; rintro e w1 ⟨rfl, hd⟩; have HD := Lib.hid hd; clear hd)
    go_ret
    exact ⟨rfl, HB.out _ HD.out⟩
  · by_cases hn : n = 0
    · subst hn
      go_enter Try.func30, Try.ntmps30
      go_wp2_with (first
        | (go_at_call 11; refine (HG.out _).mono ?_; rintro e w1 ⟨rfl, hd⟩; obtain ⟨c0, c1⟩ := HAt.out _ hd; have HD := Lib.hid hd; clear hd)
        | (go_at_call 28; refine (HC.out w1 (HB.out _ HD.out)).mono ?_; rintro e w2 ⟨⟨A', c', rfl⟩, hd⟩; have HD2 := Lib.hid ((HB.out _ HD.out).trans (hd.mono (HB.out _ HD.out).size)); clear hd))
      go_ret
      exact ⟨by simp, HD2.out⟩
    · have hnz : ¬ ((n : Int) = 0) := by omega
      have hny : ((n : Int) == 0) = false := by simp; omega
      go_enter Try.func30, Try.ntmps30
      go_wp2_with (first
        | (go_at_call 11; refine (HG.out _).mono ?_; rintro e w1 ⟨rfl, hd⟩; obtain ⟨c0, c1⟩ := HAt.out _ hd; have HD := Lib.hid hd; clear hd)
        | (go_at_call 28; refine (HC.out w1 (HB.out _ HD.out)).mono ?_; rintro e w2 ⟨⟨A', c', rfl⟩, hd⟩; have HD2 := Lib.hid ((HB.out _ HD.out).trans (hd.mono (HB.out _ HD.out).size)); clear hd))
      go_ret
      exact ⟨by simp [hn], HD2.out⟩
end Go.Proofs.Ythedpjlafapfeaa
