/- The walk of PrfKeyed. -/
import Derived.Test.YtjmlelojilpcaaaDoorAwake5
namespace Go.Proofs.YtjmlelojilpcaaaDoor
open Go.RowKit
attribute [local go_sem ↓ high] zeroV26

/-- Whether parts are few and short. -/
def shortP (ps : List Part) : Bool := decide (ps.length ≤ 10) && ps.all fun p => decide (p.2.2.length ≤ 300)
theorem shortP_iff (ps : List Part) : shortP ps = true ↔ ps.length ≤ 10 ∧ ∀ p ∈ ps, p.2.2.length ≤ 300 := by simp [shortP]
theorem catAll_le (m : Nat) (ps : List Part) (h : ∀ p ∈ ps, p.2.2.length ≤ m) : (catAll ps).length ≤ m * ps.length := by
  induction ps with
  | nil => simp [catAll]
  | cons p ps ih =>
    have e : catAll (p :: ps) = p.2.2 ++ catAll ps := by simp [catAll]
    have := ih fun q hq => h q (by simp [hq])
    have := h p (by simp)
    rw [e, List.length_append, List.length_cons, Nat.mul_succ]; omega
set_option maxHeartbeats 1000000 in
set_option maxRecDepth 100000 in
theorem prfKeyed_walk (n : Nat) (A : Option Addr) (c : Nat) (ps : List Part) (w : World) (hn : n < 4294967296) (hm : ps.length ≤ maxLen) (hP : Parts w A ps) (hT : Tabs w) :
    Calls Tryd.prog 3 #[.int .u32 (n : Int), .slice A ps.length c] w fun e w' => e = .returned (.bool true) ∧ Below w.heap.size w w' := by
  have HA := Lib.hid (awake5_any w hT)
  have HP := Lib.hid hP
  have HT := Lib.hid hT
  unfold maxLen at hm
  clear hP hT
  by_cases hlen : ps.length ≤ 10
  · have h10 : ¬ (10 : Int) < (ps.length : Int) := by omega
    go_enter Tryd.func3, Tryd.ntmps3
    go_wp2_with (go_at_call 8; refine HA.out.mono ?_; rintro e w1 ⟨rfl, hd⟩; have H1 := Lib.hid hd; clear hd)
    clear h10
    obtain ⟨V, rfl⟩ : ∃ V : World, V = w1 := ⟨_, rfl⟩
    go_loop [14] (fun j => ∃ k : Nat, k ≤ ps.length ∧ j = .int .i64 k ∧ Hid (∀ p ∈ ps.take k, p.2.2.length ≤ 300)) (fun i => ps.length - (intOf i).toNat)
    case atStart => exact ⟨0, Nat.zero_le _, rfl, Lib.hid (by simp)⟩
    case round =>
      obtain ⟨k, hk, rfl, hall⟩ := hrel
      by_cases hlt : k < ps.length
      · obtain ⟨a, hx, rfl, hb, hc⟩ := (HP.out.row.below H1.out).atMap hlt
        obtain ⟨p, hp⟩ : ∃ p, p = ps[k] := ⟨_, rfl⟩
        rw [← hp] at hc
        have hall2 : p.2.2.length ≤ 300 → ∀ q ∈ ps.take (k + 1), q.2.2.length ≤ 300 := fun h q hq => by
          rw [List.take_succ_eq_append_getElem hlt] at hq
          rcases List.mem_append.1 hq with h1 | h1
          · exact hall.out q h1
          · simp at h1; rw [h1, ← hp]; exact h
        have HA2 := Lib.hid hall2
        obtain ⟨A1, c1, l1⟩ := p
        unfold partV at hc
        simp only at hc
        clear hall2 hp
        by_cases h3 : l1.length ≤ 300
        · have h300 : ¬ (300 : Int) < (l1.length : Int) := by omega
          go_wp2
          go_round
          case rel => exact ⟨k + 1, by omega, by go_num, Lib.hid (HA2.out h3)⟩
          case measure => simp [intOf]; omega
        · have h300 : (300 : Int) < (l1.length : Int) := by omega
          go_wp2
          go_ret
          exact ⟨rfl, H1.out⟩
      · obtain rfl : k = ps.length := by omega
        have hcl : (catAll ps).length ≤ 3000 := by
          have := catAll_le 300 ps (fun p hp => hall.out p (by rw [List.take_length]; exact hp))
          omega
        obtain ⟨f, hf⟩ : ∃ f, f = shaL (wideL n ++ catAll ps) := ⟨_, rfl⟩
        have HF := Lib.hid (And.intro hf hcl)
        have q1 := fun W => eql32 f W
        have q2 := fun x y W => eqg32 .eql x y f W
        clear hf hcl
        go_wp2_with (first
          | (go_at_call 9; refine (keyed_any n hn ps A c _ (HP.out.below H1.out) (by omega) (by have := HF.out.2; omega) (tabs_below HT.out H1.out)).mono ?_; rw [← HF.out.1]; rintro e w3 ⟨rfl, hd⟩; have H3 := Lib.hid (H1.out.trans (hd.mono H1.out.size)); clear hd)
          | (go_at_call 11; refine (rcat_any ps A c _ (HP.out.below H3.out) (by have := HF.out.2; omega) (by omega)).mono ?_; rintro e w4 ⟨v, rfl, hv1, hv2⟩; obtain ⟨E, ce, rfl, hl⟩ := owns_form hv1; have HL := Lib.hid hl; have H4 := Lib.hid (H3.out.trans (hv2.mono H3.out.size)); clear hl hv1 hv2)
          | (go_at_call 10; refine (rkeyed_any n hn (catAll ps) (catAll ps).length rfl E ce _ HL.out (by have := HF.out.2; omega)).mono ?_; rw [← HF.out.1]; rintro e w5 ⟨rfl, hd⟩; have H5 := Lib.hid (H4.out.trans (hd.mono H4.out.size)); clear hd))
        go_ret
        exact ⟨rfl, H5.out⟩
  · have h10 : (10 : Int) < (ps.length : Int) := by omega
    go_enter Tryd.func3, Tryd.ntmps3
    go_wp2_with (go_at_call 8; refine HA.out.mono ?_; rintro e w1 ⟨rfl, hd⟩; have H1 := Lib.hid hd; clear hd)
    go_ret
    exact ⟨rfl, H1.out⟩
end Go.Proofs.YtjmlelojilpcaaaDoor
