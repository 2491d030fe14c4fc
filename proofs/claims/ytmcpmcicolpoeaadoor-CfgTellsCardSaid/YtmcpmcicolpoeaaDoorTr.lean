/- bytes.TrimRight at one byte 0. -/
import Derived.Test.YtmcpmcicolpoeaaDoorNa
namespace Go.Proofs.YtmcpmcicolpoeaaDoor
open Go.RowKit

/-- m bytes are left of l: behind them stands nothing but 0, the last of them isn't 0. -/
structure Trim (l : By) (m : Nat) : Prop where
  le : m ≤ l.length
  zeros : ∀ j (h : j < l.length), m ≤ j → l[j] = 0
  last : ∀ (h : 0 < m), l[m - 1]'(by omega) ≠ 0
theorem Trim.drop {l : By} {m : Nat} (h : Trim l m) : (l.drop m).all (fun c => c == 0) = true := by
  rw [List.all_eq_true]
  intro x hx
  obtain ⟨j, hj, rfl⟩ := List.getElem_of_mem hx
  have hj2 : m + j < l.length := by simp at hj; omega
  have := h.zeros (m + j) hj2 (by omega)
  simp [this]
theorem nameOk_ne {s : By} (h : nameOk s = true) : (∀ c ∈ s, c ≠ 0) ∧ 1 ≤ s.length ∧ s.length ≤ 16 := by
  simp only [nameOk, Bool.and_eq_true, decide_eq_true_eq] at h
  exact ⟨fun c hc => sign_ne (List.all_eq_true.1 h.1.1 c hc), h.1.2, h.2⟩
/-- A trimmed name. -/
theorem trim_name {l : By} {m : Nat} (hl : l.length = 16) (h : Trim l m) :
    (if nameOk (nameD l) = true ∧ (l.drop (nameD l).length).all (fun c => c == 0) = true then (Except.ok (nameD l) : Except Nat By) else .error 143) = if nameOk (l.take m) = true then .ok (l.take m) else .error 143 := by
  have hz := h.drop
  have hm : (l.take m).length = m := by rw [List.length_take, Nat.min_eq_left h.le]
  by_cases h1 : nameOk (l.take m) = true
  · have hne := (nameOk_ne h1).1
    have e : l = l.take m ++ List.replicate (l.drop m).length 0 := by
      rw [← zeros_of _ hz, List.take_append_drop]
    have e2 : nameD l = l.take m := by
      conv => lhs; rw [e]
      exact nameD_of _ _ hne
    rw [e2, hm, if_pos ⟨h1, hz⟩, if_pos h1]
  · rw [if_neg h1]
    refine if_neg fun h2 => h1 ?_
    have e := takeWhile_pre (fun c => c != 0) l
    have hn := nameOk_ne h2.1
    have hle : (nameD l).length ≤ l.length := by
      have := congrArg List.length e
      rw [List.length_append, List.length_drop] at this
      unfold nameD at *
      omega
    have hget : ∀ j (hj : j < (nameD l).length), l[j]'(by omega) = (nameD l)[j] := fun j hj => by
      have e' : (nameD l ++ l.drop (nameD l).length) = l := e
      have h3 : (nameD l ++ l.drop (nameD l).length)[j]? = l[j]? := by rw [e']
      rw [List.getElem?_append_left hj, List.getElem?_eq_getElem hj, List.getElem?_eq_getElem (by omega)] at h3
      exact (Option.some.inj h3).symm
    have hrest : ∀ j (hj : j < l.length), (nameD l).length ≤ j → l[j] = 0 := fun j hj hle => by
      have h3 := List.all_eq_true.1 h2.2 (l[j]) (by
        rw [List.mem_iff_getElem]
        exact ⟨j - (nameD l).length, by simp; omega, by simp [Nat.add_sub_cancel' hle]⟩)
      simpa using h3
    have em : m = (nameD l).length := by
      rcases Nat.lt_trichotomy m (nameD l).length with hlt | heq | hgt
      · have h3 := h.zeros m (by omega) (Nat.le_refl _)
        rw [hget m hlt] at h3
        exact absurd h3 (hn.1 _ (List.getElem_mem _))
      · exact heq
      · exact absurd (hrest (m - 1) (by have := h.le; omega) (by omega)) (h.last (by omega))
    have e' : (nameD l ++ l.drop (nameD l).length) = l := e
    have e3 : l.take m = nameD l := by
      rw [em]
      exact (congrArg (List.take (nameD l).length) e'.symm).trans List.take_left
    rw [e3]
    exact h2.1
set_option maxRecDepth 100000 in
set_option maxHeartbeats 1000000 in
theorem trimByte_any (A : Option Addr) (c B : Nat) (l : By) (w : World) (hl : l.length ≤ 1000000) (hc : l.length ≤ c) (h : Lies w B 1 A l.length (u8s l)) :
    Calls Tryd.prog 120 #[.slice A l.length c, .int .u8 0] w fun e w' => ∃ m, e = .returned (.slice A m c) ∧ Trim l m ∧ w = w' := by
  have HL := Lib.hid h
  clear h
  go_enter Tryd.func120, Tryd.ntmps120
  go_wp2
  go_loopw [0] (fun v W => ∃ k : Nat, k ≤ l.length ∧ v = .slice A k c ∧ Hid (∀ j (h : j < l.length), k ≤ j → l[j] = 0) ∧ w = W) (fun v _ => match v with | .slice _ k _ => k | _ => 0)
  case atStart => exact ⟨l.length, Nat.le_refl _, rfl, Lib.hid (fun j h1 h2 => absurd h1 (by omega)), rfl⟩
  case round =>
    obtain ⟨k, hk, rfl, HZ, rfl⟩ := hrel
    by_cases h0 : k = 0
    · subst h0
      go_wp2_with fail
      go_ret
      exact ⟨0, rfl, ⟨Nat.zero_le _, HZ.out, fun h => absurd h (by omega)⟩, rfl⟩
    · obtain ⟨q, rfl⟩ : ∃ q, k = q + 1 := ⟨k - 1, by omega⟩
      obtain ⟨a, hx, rfl, hb, hcell⟩ := HL.out.atMap (f := fun b : UInt8 => Value.int .u8 (b.toNat : Int)) (k := q) (by omega)
      obtain ⟨x, hx2⟩ : ∃ x, x = l[q] := ⟨_, rfl⟩
      rw [← hx2] at hcell
      have e1 : (((q + 1 : Nat) : Int) - 1) = (q : Int) := by omega
      have e2 : (0 : Int) < ((q + 1 : Nat) : Int) := by omega
      have e3 : ((q : Nat) : Int) < ((q + 1 : Nat) : Int) := by omega
      have HX := Lib.hid hx2
      clear hx2 hb
      by_cases hz : x = 0
      · subst hz
        have HZ2 : Hid (∀ j (h : j < l.length), q ≤ j → l[j] = 0) := Lib.hid fun j h1 h2 => by
          rcases Nat.lt_or_ge q j with h3 | h3
          · exact HZ.out j h1 h3
          · obtain rfl : j = q := by omega
            exact HX.out.symm
        go_wp2_with fail
        go_roundw
        case rel => exact ⟨q, by omega, rfl, HZ2, trivial⟩
        case measure => simp
      · have d1 : ((x.toNat : Int) == 0) = false := by
          have : x.toNat ≠ 0 := fun h => hz (by rw [← UInt8.ofNat_toNat (x := x), h]; rfl)
          simp; omega
        have HNZ := Lib.hid hz
        clear hz
        go_wp2_with fail
        go_ret
        exact ⟨q + 1, rfl, ⟨by omega, HZ.out, fun h => by have := HNZ.out; rw [HX.out] at this; simpa using this⟩, rfl⟩
set_option maxRecDepth 100000 in
set_option maxHeartbeats 1000000 in
theorem trim_any (A : Option Addr) (c B : Nat) (l : By) (w : World) (hl : l.length = 16) (hc : 16 ≤ c) (h : Lies w B 1 A 16 (u8s l)) :
    Calls Tryd.prog 108 #[.slice A 16 c, .string ⟨#[0]⟩] w fun e w' => ∃ m, e = .returned (.slice A m c) ∧ Trim l m ∧ w = w' := by
  have HT := Lib.hid (trimByte_any A c B l w (by omega) (by omega) (by rw [hl]; exact h))
  rw [hl] at HT
  clear h
  go_enter Tryd.func108, Tryd.ntmps108
  go_wp2_with (go_at_call 120; refine HT.out.mono ?_; rintro e w1 ⟨m, rfl, hm, rfl⟩; have HM := Lib.hid hm; clear hm)
  go_ret
  exact ⟨m, rfl, HM.out, rfl⟩
end Go.Proofs.YtmcpmcicolpoeaaDoor
