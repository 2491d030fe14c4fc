/- awake: the chapter's examples hold. Pages. -/
import Derived.Test.YthedpjlafapfeaaCut
import Derived.Test.YthedpjlafapfeaaTwoA
import Derived.Test.YthedpjlafapfeaaTwoB
import Derived.Laws.StructEq
namespace Go.Proofs.Ythedpjlafapfeaa
open Go.RowKit

theorem row_lit (w : World) (a b : Nat) : Row (w.alloc (spo a b)) (w.heap.size + 1) (some ⟨w.heap.size, 0, none⟩) [(a, b)] := fun _ =>
  ⟨_, rfl, Nat.lt_succ_self _, fun j hj => by
    have : j = 0 := by simpa using hj
    subst this
    constructor <;> simp [Addr.add]⟩
theorem row_lit2 (w : World) (a b c d : Nat) : Row (w.alloc (.cells #[.int .u64 (a : Int), .int .u64 (b : Int), .int .u64 (c : Int), .int .u64 (d : Int)] 24)) (w.heap.size + 1) (some ⟨w.heap.size, 0, none⟩) [(a, b), (c, d)] := fun _ =>
  ⟨_, rfl, Nat.lt_succ_self _, fun j hj => by
    match j, hj with
    | 0, _ => constructor <;> simp [Addr.add]
    | 1, _ => constructor <;> simp [Addr.add]⟩
theorem cut_awake (w : World) (cap : Nat) : Calls Try.prog 27 #[.agg #[.int .u64 0, .int .u64 10], .slice (some ⟨w.heap.size, 0, none⟩) 1 cap] (w.alloc (.cells #[.int .u64 2, .int .u64 3] 24)) fun e w' => ∃ (a : Addr) (c : Nat), e = .returned (.slice (some a) 2 c) ∧
    w'.cell? (a.add 2) = some (.int .u64 5) ∧ w'.cell? (a.add 3) = some (.int .u64 5) ∧ Below w.heap.size w w' := by
  have hR := row_lit w 2 3
  have e0 : (w.alloc (spo 2 3)).heap.size = w.heap.size + 1 := by simp
  rw [← e0] at hR
  have h := cut_any 12 sorts12 0 10 (by decide) (some ⟨w.heap.size, 0, none⟩) cap [(2, 3)] (by decide) (by decide) (by decide) (w.alloc (spo 2 3)) hR
  refine h.mono ?_
  rintro e w' ⟨v, rfl, ho, hb⟩
  have ec : cutS (0, 10) [(2, 3)] = [(0, 2), (5, 5)] := by decide
  rw [ec] at ho
  obtain ⟨A, c, rfl, hrow⟩ := ho.row
  obtain ⟨a, rfl, _, hc⟩ := hrow (by simp)
  exact ⟨a, c, rfl, (hc 1 (by simp)).1, (hc 1 (by simp)).2, ((Below.refl _ w).alloc (Nat.le_refl _) (spo 2 3)).trans (hb.mono (by simp))⟩
theorem last_awake (w : World) : Calls Try.prog 12 #[.agg #[.int .u64 18446744073709551615, .int .u64 1]] w fun e w' => e = .returned (.int .u64 18446744073709551615) ∧ Below w.heap.size w w' := by
  have h := last_bel 18446744073709551615 1 (by decide) w
  have e : last (18446744073709551615, 1) = 18446744073709551615 := by decide
  rw [e] at h
  exact h
theorem good_awake (w : World) : Calls Try.prog 10 #[.agg #[.int .u64 18446744073709551615, .int .u64 2]] w fun e w' => e = .returned (.bool false) ∧ Below w.heap.size w w' := by
  have h := good_bel 18446744073709551615 2 (by decide) w
  have e : good (18446744073709551615, 2) = false := by decide
  rw [e] at h
  exact h
set_option maxRecDepth 100000 in
set_option maxHeartbeats 1000000 in
theorem awake_any (w : World) : Calls Try.prog 9 #[] w fun e w' => e = .returned (.bool true) ∧ Below w.heap.size w w' := by
  go_enter Try.func9, Try.ntmps9
  go_wp2_with (first
    | (go_at_call 27; refine (cut_awake w _).mono ?_; rintro e w1 ⟨a, c, rfl, h1, h2, hb⟩; have Hb := Lib.hid hb; have Nx := Lib.hid (show ∀ w2, Below w1.heap.size w1 w2 → w2.cell? ⟨a.block, a.off + 2, none⟩ = some (.int .u64 5) ∧ w2.cell? ⟨a.block, a.off + 2 + 1, none⟩ = some (.int .u64 5) from fun w2 hd => ⟨(hd.cell (World.block_lt_of_cell? w1 _ h1)).trans h1, (hd.cell (World.block_lt_of_cell? w1 _ h2)).trans h2⟩); clear hb h1 h2)
    | (go_at_call 12; refine (last_awake _).mono ?_; rintro e w2 ⟨rfl, hb⟩; have Hb2 := Lib.hid hb; clear hb)
    | (go_at_call 10; refine (good_awake _).mono ?_; rintro e w3 ⟨rfl, hb⟩; obtain ⟨k1, k2⟩ := Nx.out w3 (Hb2.out.trans (hb.mono Hb2.out.size)); have Hb3 := Lib.hid hb; clear hb))
  go_ret
  exact ⟨rfl, (Hb.out.trans (Hb2.out.mono Hb.out.size)).trans (Hb3.out.mono (Nat.le_trans Hb.out.size Hb2.out.size))⟩
end Go.Proofs.Ythedpjlafapfeaa
