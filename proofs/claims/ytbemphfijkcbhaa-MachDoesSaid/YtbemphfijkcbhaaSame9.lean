/- portreeveref09.SameAddresses at lists alike. -/
import Derived.Test.YtbemphfijkcbhaaColl9
namespace Go.Proofs.Ytbemphfijkcbhaa
open Go.RowKit

theorem u64_lies {w : World} {B : Nat} {A : Option Addr} {l : List Nat} (h : Lies w B 1 A l.length (u64s l)) {k : Nat} (hk : k < l.length) : ∃ a, A = some a ∧ w.cell? (a.add k) = some (.int .u64 (l[k] : Int)) := by
  obtain ⟨a, e, _, hc⟩ := h.2 (by omega)
  refine ⟨a, e, ?_⟩
  rw [hc k (by simp [u64s]; omega)]
  simp [u64s]
set_option maxRecDepth 100000 in
set_option maxHeartbeats 2000000 in
theorem same_any (A B : Option Addr) (ca cb : Nat) (l : List Nat) (w : World) (hl : l.length ≤ 1000000) (hA : Lies w w.heap.size 1 A l.length (u64s l)) (hB : Lies w w.heap.size 1 B l.length (u64s l)) :
    Calls Try.prog 17 #[.slice A l.length ca, .slice B l.length cb] w fun e w' => e = .returned (.bool true) ∧ Below w.heap.size w w' := by
  have HA := Lib.hid hA
  have HB := Lib.hid hB
  have HL := Lib.hid hl
  clear hA hB
  go_enter Try.func17, Try.ntmps17
  go_wp2
  go_loopw [13] (fun i wr => ∃ k : Nat, k ≤ l.length ∧ i = .int .i64 k ∧ Hid (Below w.heap.size w wr)) (fun i _ => l.length - (intOf i).toNat)
  case atStart => exact ⟨0, Nat.zero_le _, rfl, Lib.hid (Below.refl _ _)⟩
  case round =>
    obtain ⟨k, hk, rfl, hN⟩ := hrel
    by_cases hlt : k < l.length
    · obtain ⟨a, ha, hca⟩ := u64_lies (HA.out.below hN.out) hlt
      obtain ⟨b, hb, hcb⟩ := u64_lies (HB.out.below hN.out) hlt
      subst ha hb
      obtain ⟨x, hx⟩ : ∃ x, l[k] = x := ⟨_, rfl⟩
      rw [hx] at hca hcb
      have HK := Lib.hid hlt
      have h0 : (k : Int) < (l.length : Int) := by omega
      clear hx hk
      go_wp2
      go_quiet (fail)
      go_wp2
      go_roundw
      case rel => exact ⟨k + 1, HK.out, by go_num, Lib.hid ⟨hN.out.1, hN.out.2, hN.out.3, hN.out.4, hN.out.5⟩⟩
      case measure => have := HK.out; simp [intOf]; omega
    · obtain rfl : k = l.length := by omega
      clear hlt hk
      go_wp2
      go_ret
      exact ⟨rfl, hN.out⟩
end Go.Proofs.Ytbemphfijkcbhaa
