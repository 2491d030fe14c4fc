/- Pages: the program's, the reference's. -/
import Derived.Test.YtbemphfijkcbhaaWb
import Derived.Test.YtbemphfijkcbhaaWa
namespace Go.Proofs.Ytbemphfijkcbhaa
open Go.RowKit

set_option maxHeartbeats 400000 in
theorem rpages_any (a b : Nat) (hx : fit (a, b)) (w : World) :
    Calls Try.prog 37 #[.agg #[.int .u64 (a : Int), .int .u64 (b : Int)]] w fun e w' => e = .returned (.bool (paged (a, b))) ∧ Below w.heap.size w w' := by
  have Hx := Lib.hid hx
  by_cases h : good (a, b) = true
  · by_cases h1 : a % 4096 = 0
    · have h1' : (a : Int) % 4096 = 0 := by omega
      by_cases h2 : b % 4096 = 0
      · have h2' : (b : Int) % 4096 = 0 := by omega
        rw [show paged (a, b) = true from by simp [paged, h, h1, h2]]
        clear h1 h2
        go_enter Try.func37, Try.ntmps37
        go_wp2_with (go_at_call 49; refine (rgood_any a b Hx.out _).mono ?_; rintro e w1 ⟨rfl, rfl⟩)
        go_ret
        exact ⟨rfl, Laid.below ⟨[_, _], rfl⟩⟩
      · have h2' : ¬ (b : Int) % 4096 = 0 := by omega
        rw [show paged (a, b) = false from by simp [paged, h, h1, h2]]
        clear h1 h2
        go_enter Try.func37, Try.ntmps37
        go_wp2_with (go_at_call 49; refine (rgood_any a b Hx.out _).mono ?_; rintro e w1 ⟨rfl, rfl⟩)
        go_ret
        exact ⟨by simp [h2'], Laid.below ⟨[_, _], rfl⟩⟩
    · have h1' : ¬ (a : Int) % 4096 = 0 := by omega
      rw [show paged (a, b) = false from by simp [paged, h, h1]]
      clear h1
      go_enter Try.func37, Try.ntmps37
      go_wp2_with (go_at_call 49; refine (rgood_any a b Hx.out _).mono ?_; rintro e w1 ⟨rfl, rfl⟩)
      go_ret
      exact ⟨rfl, Laid.below ⟨[_, _], rfl⟩⟩
  · have h' : good (a, b) = false := by simpa using h
    rw [show paged (a, b) = false from by simp [paged, h']]
    go_enter Try.func37, Try.ntmps37
    go_wp2_with (go_at_call 49; refine (rgood_any a b Hx.out _).mono ?_; rintro e w1 ⟨rfl, rfl⟩)
    go_ret
    exact ⟨rfl, Laid.below ⟨[_, _], rfl⟩⟩

set_option maxHeartbeats 1000000 in
theorem pages_any (A : Option Addr) (c : Nat) (l : List Sp) (hl : l.length ≤ 1000000) (hf : ∀ x ∈ l, fit x) (w : World) (hR : Row w w.heap.size A l) :
    Calls Try.prog 34 #[.slice A l.length c] w fun e w' => e = .returned (.bool (l.all paged)) ∧ Below w.heap.size w w' := by
  have Hl := Lib.hid hl
  have Hf := Lib.hid hf
  have HR := Lib.hid hR
  obtain ⟨v, hv⟩ : ∃ v, v = l.all paged := ⟨_, rfl⟩
  rw [← hv]
  have Hv := Lib.hid hv
  clear hl hf hR hv
  go_enter Try.func34, Try.ntmps34
  go_wp2
  go_loopw [7] (fun i W => ∃ k : Nat, k ≤ l.length ∧ i = .int .i64 k ∧ (∀ j (h : j < l.length), j < k → paged l[j] = true) ∧ Below w.heap.size w W) (fun i _ => l.length - (intOf i).toNat)
  case atStart => exact ⟨0, Nat.zero_le _, rfl, fun _ _ h => absurd h (Nat.not_lt_zero _), Below.refl _ _⟩
  case round =>
    obtain ⟨k, hk, rfl, hall, hbel⟩ := hrel
    by_cases hlt : k < l.length
    · obtain ⟨a, p, rfl, hp, hpb, hc1, hc2⟩ := (HR.out.below hbel).at hlt
      have hfit := Hf.out _ (List.getElem_mem hlt)
      have hno : paged l[k] = false → l.all paged = false := fun h => by
        rw [Bool.eq_false_iff]
        intro h2
        rw [List.all_eq_true] at h2
        rw [h2 _ (List.getElem_mem hlt)] at h
        cases h
      have hyes : paged l[k] = true → ∀ j (h : j < l.length), j < k + 1 → paged l[j] = true := fun h j hj hjk => by
        rcases Nat.lt_succ_iff_lt_or_eq.1 hjk with h1 | rfl
        · exact hall j hj h1
        · exact h
      obtain ⟨x, hx⟩ : ∃ x, l[k] = x := ⟨_, rfl⟩
      rw [hx] at hc1 hc2 hfit hno hyes
      obtain ⟨b, s⟩ := x
      have Hx := Lib.hid hfit
      have HX := Lib.hid hx
      have Hbel := Lib.hid hbel
      have Hk := Lib.hid hk
      have hb3 : k + 1 ≤ 1000000 := by have := Hl.out; omega
      have Hb := Lib.hid (show Below w.heap.size w (wr.alloc (spo b s)) from hbel.alloc hbel.size _)
      have Hno := Lib.hid hno
      have Hyes := Lib.hid hyes
      clear hfit hx hpb hbel hall hno hyes
      by_cases h : good (b, s) = true
      · by_cases h1 : b % 4096 = 0
        · have h1' : (b : Int) % 4096 = 0 := by omega
          by_cases h2 : s % 4096 = 0
          · have h2' : (s : Int) % 4096 = 0 := by omega
            have Hy := Lib.hid (Hyes.out (by simp [paged, h, h1, h2]))
            clear Hno Hyes h1 h2
            go_wp2_with (go_at_call 59; refine (good_any b s Hx.out _).mono ?_; rintro e w3 ⟨rfl, rfl⟩)
            go_roundw
            case rel => exact ⟨k + 1, by omega, by go_num, Hy.out, Hb.out.trans ((Laid.below ⟨[_], rfl⟩).mono Hb.out.size)⟩
            case measure => simp [intOf]; omega
          · have h2' : ¬ (s : Int) % 4096 = 0 := by omega
            have Hv2 := Lib.hid (show v = false from Hv.out.trans (Hno.out (by simp [paged, h, h1, h2])))
            clear Hno Hyes
            go_wp2_with (go_at_call 59; refine (good_any b s Hx.out _).mono ?_; rintro e w3 ⟨rfl, rfl⟩)
            go_ret
            exact ⟨by rw [Hv2.out]; rfl, Hb.out.trans ((Laid.below ⟨[_], rfl⟩).mono Hb.out.size)⟩
        · have h1' : ¬ (b : Int) % 4096 = 0 := by omega
          have Hv2 := Lib.hid (show v = false from Hv.out.trans (Hno.out (by simp [paged, h, h1])))
          clear Hno Hyes
          go_wp2_with (go_at_call 59; refine (good_any b s Hx.out _).mono ?_; rintro e w3 ⟨rfl, rfl⟩)
          go_ret
          exact ⟨by rw [Hv2.out]; rfl, Hb.out.trans ((Laid.below ⟨[_], rfl⟩).mono Hb.out.size)⟩
      · have h' : good (b, s) = false := by simpa using h
        have Hv2 := Lib.hid (show v = false from Hv.out.trans (Hno.out (by simp [paged, h'])))
        clear Hno Hyes
        go_wp2_with (go_at_call 59; refine (good_any b s Hx.out _).mono ?_; rintro e w3 ⟨rfl, rfl⟩)
        go_ret
        exact ⟨by rw [Hv2.out]; rfl, Hb.out.trans ((Laid.below ⟨[_], rfl⟩).mono Hb.out.size)⟩
    · obtain rfl : k = l.length := by omega
      have hv : v = true := Hv.out.trans (List.all_eq_true.2 fun x hx => by
        obtain ⟨j, hj, rfl⟩ := List.getElem_of_mem hx
        exact hall j hj hj)
      have HV := Lib.hid hv
      have Hbel := Lib.hid hbel
      clear hbel hall hv
      go_wp2
      go_ret
      exact ⟨by rw [HV.out]; rfl, Hbel.out⟩
end Go.Proofs.Ytbemphfijkcbhaa
