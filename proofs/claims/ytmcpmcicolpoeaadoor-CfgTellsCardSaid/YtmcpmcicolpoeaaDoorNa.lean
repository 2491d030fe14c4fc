/- Names: of the code and of the reference. -/
import Derived.Test.YtmcpmcicolpoeaaDoorNm
namespace Go.Proofs.YtmcpmcicolpoeaaDoor
open Go.RowKit

theorem strOf_size (s : By) : (strOf s).size = s.length := by simp [strOf, ByteArray.size]
theorem all_take_succ (s : By) (k : Nat) (hk : k < s.length) : (s.take (k + 1)).all sign = ((s.take k).all sign && sign s[k]) := by
  rw [List.take_succ_eq_append_getElem hk, List.all_append]; simp
theorem all_take_no (s : By) (k : Nat) (h : (s.take k).all sign = false) : nameOk s = false := by
  unfold nameOk
  have : s.all sign = false := by
    rw [← List.take_append_drop k s, List.all_append, h]; rfl
  rw [this]; rfl
theorem nameOk_all (s : By) (h : s.all sign = true) : nameOk s = inB (s.length : Int) 1 16 := by
  unfold nameOk inB
  rw [h, Bool.true_and, ← Bool.decide_and]
  congr 1
  simp only [eq_iff_iff]
  omega
set_option maxRecDepth 100000 in
set_option maxHeartbeats 1000000 in
theorem name_any (s : By) (hl : s.length ≤ 1000000) (w : World) : Calls Tryd.prog 14 #[.string (strOf s)] w fun e w' => e = .returned (.bool (nameOk s)) ∧ w = w' := by
  obtain ⟨S, hS⟩ : ∃ S, S = strOf s := ⟨_, rfl⟩
  rw [← hS]
  have hsz : S.size = s.length := by rw [hS, strOf_size]
  have HS := Lib.hid hS
  have HZ := Lib.hid hsz
  clear hS
  go_enter Tryd.func14, Tryd.ntmps14
  go_wp2
  go_loopw [3, 6] (fun _ j W => ∃ k : Nat, k ≤ s.length ∧ j = .int .i64 k ∧ Hid ((s.take k).all sign = true) ∧ w = W) (fun _ i _ => s.length - (intOf i).toNat)
  case atStart => exact ⟨0, Nat.zero_le _, rfl, Lib.hid (by simp), rfl⟩
  case round =>
    obtain ⟨k, hk, rfl, HA, rfl⟩ := hrel
    by_cases hlt : k < s.length
    · have hkI : (k : Int) < (s.length : Int) := by omega
      have hkS : k < S.size := by omega
      have hc : S[k] = s[k] := by
        have h0 := HS.out
        subst h0
        rfl
      have HG := Lib.hid (sign_any (S[k]'hkS))
      have hall := all_take_succ s k hlt
      rw [HA.out, Bool.true_and] at hall
      rw [hc] at HG
      rw [← hc] at HG
      obtain ⟨r, hr⟩ : ∃ r, r = sign (S[k]'hkS) := ⟨_, rfl⟩
      rw [← hc, ← hr] at hall
      rw [← hr] at HG
      clear hr hc
      cases r
      · have HNO := Lib.hid (all_take_no s (k + 1) hall)
        clear hall
        go_wp2_with (go_at_call 32; refine (HG.out _).mono ?_; rintro e w1 ⟨rfl, rfl⟩)
        go_ret
        exact ⟨by rw [HNO.out]; rfl, rfl⟩
      · have HYE := Lib.hid hall
        clear hall
        go_wp2_with (go_at_call 32; refine (HG.out _).mono ?_; rintro e w1 ⟨rfl, rfl⟩)
        go_roundw
        case rel => exact ⟨k + 1, by omega, by go_num, HYE, trivial⟩
        case measure => simp [intOf]; omega
    · obtain rfl : k = s.length := by omega
      have hall := HA.out
      rw [List.take_length] at hall
      have HN := Lib.hid (nameOk_all s hall)
      have HAM := Lib.hid (among_any (s.length : Int) 1 16)
      obtain ⟨r, hr⟩ : ∃ r, r = nameOk s := ⟨_, rfl⟩
      rw [← hr] at HN
      rw [← HN.out] at HAM
      have HR := Lib.hid hr
      clear hall hr hlt HN
      go_wp2_with (go_at_call 33; refine (HAM.out _).mono ?_; rintro e w1 ⟨rfl, rfl⟩)
      go_ret
      exact ⟨by rw [← HR.out]; rfl, rfl⟩
set_option maxRecDepth 100000 in
set_option maxHeartbeats 1000000 in
theorem rname_any (s : By) (hl : s.length ≤ 1000000) (w : World) : Calls Tryd.prog 15 #[.string (strOf s)] w fun e w' => e = .returned (.bool (nameOk s)) ∧ w = w' := by
  obtain ⟨S, hS⟩ : ∃ S, S = strOf s := ⟨_, rfl⟩
  rw [← hS]
  have hsz : S.size = s.length := by rw [hS, strOf_size]
  have HS := Lib.hid hS
  have HZ := Lib.hid hsz
  clear hS
  go_enter Tryd.func15, Tryd.ntmps15
  go_wp2
  go_loopw [3, 4] (fun j _ W => ∃ k : Nat, k ≤ s.length ∧ j = .int .i64 k ∧ Hid ((s.take k).all sign = true) ∧ w = W) (fun i _ _ => s.length - (intOf i).toNat)
  case atStart => exact ⟨0, Nat.zero_le _, rfl, Lib.hid (by simp), rfl⟩
  case round =>
    obtain ⟨k, hk, rfl, HA, rfl⟩ := hrel
    by_cases hlt : k < s.length
    · have hkI : (k : Int) < (s.length : Int) := by omega
      have hkS : k < S.size := by omega
      have hc : S[k] = s[k] := by
        have h0 := HS.out
        subst h0
        rfl
      have hall := all_take_succ s k hlt
      rw [HA.out, Bool.true_and, ← hc] at hall
      have hcs := sign_cases (S[k]'hkS)
      clear hc
      rcases hcs with ⟨h1, h2, h⟩ | ⟨h1, h2, h⟩ | ⟨h1, h⟩ | ⟨h1, h⟩ | ⟨h1, h2, h⟩ | ⟨h1, h2, h⟩
      all_goals rw [h] at hall
      all_goals clear h
      · have da : decide ((97 : Int) ≤ ((S[k]'hkS).toNat : Int)) = true := by simp; omega
        have db : decide (((S[k]'hkS).toNat : Int) ≤ 122) = true := by simp; omega
        clear h1 h2
        have HYE := Lib.hid hall
        clear hall
        go_wp2_with fail
        go_roundw
        case rel => exact ⟨k + 1, by omega, by go_num, HYE, trivial⟩
        case measure => simp [intOf]; omega
      · have da : decide ((97 : Int) ≤ ((S[k]'hkS).toNat : Int)) = false := by simp; omega
        have dc : decide ((48 : Int) ≤ ((S[k]'hkS).toNat : Int)) = true := by simp; omega
        have dd : decide (((S[k]'hkS).toNat : Int) ≤ 57) = true := by simp; omega
        clear h1 h2
        have HYE := Lib.hid hall
        clear hall
        go_wp2_with fail
        go_roundw
        case rel => exact ⟨k + 1, by omega, by go_num, HYE, trivial⟩
        case measure => simp [intOf]; omega
      · have da : decide ((97 : Int) ≤ ((S[k]'hkS).toNat : Int)) = false := by simp; omega
        have dc : decide ((48 : Int) ≤ ((S[k]'hkS).toNat : Int)) = false := by simp; omega
        have de : (((S[k]'hkS).toNat : Int) == 45) = true := by simp; omega
        clear h1
        have HYE := Lib.hid hall
        clear hall
        go_wp2_with fail
        go_roundw
        case rel => exact ⟨k + 1, by omega, by go_num, HYE, trivial⟩
        case measure => simp [intOf]; omega
      · have da : decide ((97 : Int) ≤ ((S[k]'hkS).toNat : Int)) = true := by simp; omega
        have db : decide (((S[k]'hkS).toNat : Int) ≤ 122) = false := by simp; omega
        have dc : decide ((48 : Int) ≤ ((S[k]'hkS).toNat : Int)) = true := by simp; omega
        have dd : decide (((S[k]'hkS).toNat : Int) ≤ 57) = false := by simp; omega
        have de : (((S[k]'hkS).toNat : Int) == 45) = false := by simp; omega
        clear h1
        have HNO := Lib.hid (all_take_no s (k + 1) hall)
        clear hall
        go_wp2_with fail
        go_ret
        exact ⟨by rw [HNO.out]; rfl, rfl⟩
      · have da : decide ((97 : Int) ≤ ((S[k]'hkS).toNat : Int)) = false := by simp; omega
        have dc : decide ((48 : Int) ≤ ((S[k]'hkS).toNat : Int)) = true := by simp; omega
        have dd : decide (((S[k]'hkS).toNat : Int) ≤ 57) = false := by simp; omega
        have de : (((S[k]'hkS).toNat : Int) == 45) = false := by simp; omega
        clear h1 h2
        have HNO := Lib.hid (all_take_no s (k + 1) hall)
        clear hall
        go_wp2_with fail
        go_ret
        exact ⟨by rw [HNO.out]; rfl, rfl⟩
      · have da : decide ((97 : Int) ≤ ((S[k]'hkS).toNat : Int)) = false := by simp; omega
        have dc : decide ((48 : Int) ≤ ((S[k]'hkS).toNat : Int)) = false := by simp; omega
        have de : (((S[k]'hkS).toNat : Int) == 45) = false := by simp; omega
        clear h1 h2
        have HNO := Lib.hid (all_take_no s (k + 1) hall)
        clear hall
        go_wp2_with fail
        go_ret
        exact ⟨by rw [HNO.out]; rfl, rfl⟩
    · obtain rfl : k = s.length := by omega
      have hall := HA.out
      rw [List.take_length] at hall
      have hN := nameOk_all s hall
      unfold inB at hN
      obtain ⟨r, hr⟩ : ∃ r, r = nameOk s := ⟨_, rfl⟩
      rw [← hr] at hN
      have HR := Lib.hid hr
      clear hall hr hlt
      by_cases h1 : 1 ≤ s.length
      · by_cases h2 : s.length ≤ 16
        · obtain rfl : r = true := by rw [hN]; simp; omega
          have d1 : decide ((1 : Int) ≤ (s.length : Int)) = true := by simp; omega
          have d2 : decide ((s.length : Int) ≤ 16) = true := by simp; omega
          clear h1 h2 hN
          go_wp2_with fail
          go_ret
          exact ⟨by rw [← HR.out]; rfl, rfl⟩
        · obtain rfl : r = false := by rw [hN]; simp; omega
          have d1 : decide ((1 : Int) ≤ (s.length : Int)) = true := by simp; omega
          have d2 : decide ((s.length : Int) ≤ 16) = false := by simp; omega
          clear h1 h2 hN
          go_wp2_with fail
          go_ret
          exact ⟨by rw [← HR.out]; rfl, rfl⟩
      · obtain rfl : r = false := by rw [hN]; simp; omega
        have d1 : decide ((1 : Int) ≤ (s.length : Int)) = false := by simp; omega
        clear h1 hN
        go_wp2_with fail
        go_ret
        exact ⟨by rw [← HR.out]; rfl, rfl⟩
end Go.Proofs.YtmcpmcicolpoeaaDoor
