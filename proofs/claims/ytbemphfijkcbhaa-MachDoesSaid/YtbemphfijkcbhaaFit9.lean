/- mach.addressed, among, Fit. -/
import Derived.Test.YtbemphfijkcbhaaWord9
import Derived.Test.YtbemphfijkcbhaaPages
namespace Go.Proofs.Ytbemphfijkcbhaa
open Go.RowKit

theorem row_lit (w : World) (a b : Nat) : Row (w.alloc (spo a b)) (w.heap.size + 1) (some ⟨w.heap.size, 0, none⟩) [(a, b)] := fun _ =>
  ⟨_, rfl, Nat.lt_succ_self _, fun j hj => by
    simp only [List.length_cons, List.length_nil] at hj
    obtain rfl : j = 0 := by omega
    refine ⟨?_, ?_⟩ <;> simp [Addr.add]⟩
theorem pages1 (a b : Nat) (hx : fit (a, b)) (w : World) (g : Nat) (hg : g = w.heap.size) :
    Calls Try.prog 34 #[.slice (some ⟨g, 0, none⟩) 1 1] (w.alloc (spo a b)) fun e w' => e = .returned (.bool (paged (a, b))) ∧ Below w.heap.size w w' := by
  subst hg
  have h := pages_any (some ⟨w.heap.size, 0, none⟩) 1 [(a, b)] (by simp) (fun x hx' => by simp only [List.mem_cons, List.not_mem_nil, or_false] at hx'; subst hx'; exact hx) (w.alloc (spo a b)) ((row_lit w a b).wide (by simp))
  have e : [(a, b)].all paged = paged (a, b) := by simp
  rw [e] at h
  exact h.mono fun e w' ⟨h1, h2⟩ => ⟨h1, ((Below.refl _ w).alloc (Nat.le_refl _) _).trans (h2.mono (by simp))⟩
def addrB (r : Sp) : Bool := paged r && decide (last r < 1099511627776)
theorem paged_good {r : Sp} (h : paged r = true) : good r = true := by
  simp only [paged, Bool.and_eq_true] at h
  exact h.1
theorem addrB_iff (r : Sp) : addrB r = true ↔ RamOk r := by
  unfold addrB RamOk
  rw [Bool.and_eq_true, decide_eq_true_eq]
  constructor
  · rintro ⟨h1, h2⟩
    have := last_good (paged_good h1)
    exact ⟨h1, by omega⟩
  · rintro ⟨h1, h2⟩
    have := last_good (paged_good h1)
    exact ⟨h1, by omega⟩
set_option maxRecDepth 100000 in
set_option maxHeartbeats 1000000 in
theorem addressed_any (a b : Nat) (hx : fit (a, b)) (w : World) :
    Calls Try.prog 33 #[.agg #[.int .u64 (a : Int), .int .u64 (b : Int)]] w fun e w' => e = .returned (.bool (addrB (a, b))) ∧ Below w.heap.size w w' := by
  have hb : Below w.heap.size w (w.alloc (spo a b)) := (Below.refl _ _).alloc (Nat.le_refl _) _
  have hp := pages1 a b hx (w.alloc (spo a b)) (w.heap.size + 1) (by simp)
  obtain ⟨z, hz⟩ : ∃ z, z = addrB (a, b) := ⟨_, rfl⟩
  obtain ⟨l, hl⟩ : ∃ l, l = last (a, b) := ⟨_, rfl⟩
  have HL : Hid (∀ W, Calls Try.prog 58 #[.agg #[.int .u64 (a : Int), .int .u64 (b : Int)]] W fun e w' => e = .returned (.int .u64 (l : Int)) ∧ Below W.heap.size W w') := Lib.hid fun W => by rw [hl]; exact last_bel a b hx W
  have HBA : Hid (∀ v, Below (w.alloc (spo a b)).heap.size (w.alloc (spo a b)) v → v.cell? ⟨w.heap.size, 0, none⟩ = some (.int .u64 (a : Int)) ∧ v.cell? ⟨w.heap.size, 1, none⟩ = some (.int .u64 (b : Int))) := Lib.hid fun v hv => by
    have h : Blk v w.heap.size 24 (boxSp a b) := Blk.under (Blk.new _ _ _ rfl) hv
    exact ⟨h.cellAt 0 rfl, h.cellAt 1 rfl⟩
  have HB := Lib.hid hb
  rw [← hz]
  cases hpg : paged (a, b) with
  | false =>
    rw [hpg] at hp
    have hz0 : z = false := by rw [hz]; unfold addrB; rw [hpg]; rfl
    subst hz0
    have HP := Lib.hid hp
    clear hp hz hl hpg hx hb
    go_enter Try.func33, Try.ntmps33
    go_wp2_with (go_at_call 34; refine HP.out.mono ?_; rintro e w1 ⟨rfl, hd⟩; have HD := Lib.hid hd; clear hd)
    go_ret
    exact ⟨rfl, HB.out.trans (HD.out.mono HB.out.size)⟩
  | true =>
    rw [hpg] at hp
    have HP := Lib.hid hp
    by_cases hlt : l < 1099511627776
    · have hz0 : z = true := by rw [hz]; unfold addrB; rw [hpg, ← hl, decide_eq_true hlt]; rfl
      subst hz0
      have hlt' : (l : Int) < 1099511627776 := by omega
      clear hp hz hl hpg hx hb hlt
      go_enter Try.func33, Try.ntmps33
      go_wp2_with (first
        | (go_at_call 34; refine HP.out.mono ?_; rintro e w1 ⟨rfl, hd⟩; have HD := Lib.hid hd; obtain ⟨c0, c1⟩ := HBA.out w1 hd; clear hd)
        | (go_at_call 58; refine (HL.out _).mono ?_; rintro e w2 ⟨rfl, hd⟩; have HD2 := Lib.hid hd; clear hd))
      go_ret
      have h3 := HB.out.trans (HD.out.mono HB.out.size)
      exact ⟨rfl, h3.trans (HD2.out.mono h3.size)⟩
    · have hz0 : z = false := by rw [hz]; unfold addrB; rw [hpg, ← hl, decide_eq_false hlt]; rfl
      subst hz0
      have hlt' : ¬ (l : Int) < 1099511627776 := by omega
      have hlt2 : decide ((l : Int) < 1099511627776) = false := decide_eq_false hlt'
      have hlt3 : (1099511627776 : Int) ≤ l := by omega
      clear hp hz hl hpg hx hb hlt
      go_enter Try.func33, Try.ntmps33
      go_wp2_with (first
        | (go_at_call 34; refine HP.out.mono ?_; rintro e w1 ⟨rfl, hd⟩; have HD := Lib.hid hd; obtain ⟨c0, c1⟩ := HBA.out w1 hd; clear hd)
        | (go_at_call 58; refine (HL.out _).mono ?_; rintro e w2 ⟨rfl, hd⟩; have HD2 := Lib.hid hd; clear hd))
      go_ret
      have h3 := HB.out.trans (HD.out.mono HB.out.size)
      exact ⟨by rw [← hlt2]; rfl, h3.trans (HD2.out.mono h3.size)⟩
set_option maxRecDepth 100000 in
theorem among_any (n lo hi : Int) (w : World) :
    Calls Try.prog 36 #[.int .i64 n, .int .i64 lo, .int .i64 hi] w fun e w' => e = .returned (.bool (decide (lo ≤ n ∧ n ≤ hi))) ∧ w' = w := by
  by_cases h1 : lo ≤ n
  · by_cases h2 : n ≤ hi
    · rw [decide_eq_true ⟨h1, h2⟩]
      go_enter Try.func36, Try.ntmps36
      go_wp2
      go_ret
      exact ⟨rfl, rfl⟩
    · rw [decide_eq_false (fun h => h2 h.2)]
      go_enter Try.func36, Try.ntmps36
      go_wp2
      go_ret
      exact ⟨rfl, rfl⟩
  · rw [decide_eq_false (fun h => h1 h.1)]
    go_enter Try.func36, Try.ntmps36
    go_wp2
    go_ret
    exact ⟨rfl, rfl⟩
end Go.Proofs.Ytbemphfijkcbhaa
