/- slices.Clone of words and of cuts. -/
import Derived.Lib.SliceRun
import Derived.Test.YtpeebdhbcglibaaNv
namespace Go.Proofs.Ytpeebdhbcglibaa
open Go.RowKit

theorem infoU32 : (Try.prog.info? 30).map (fun i => (i.zero, i.size, i.bytes)) = some (some (.int .u32 0), 1, 4) := by kernel_rfl
theorem infoCut : (Try.prog.info? 53).map (fun i => (i.zero, i.size, i.bytes)) = some (some (.agg #[.int .i64 0, .int .u32 0]), 2, 16) := by kernel_rfl
theorem clone32_any (A : Option Addr) (c : Nat) (l : List W32) (hl : l.length ≤ 1000000) (w : World) (hA : Lies w w.heap.size 1 A l.length (u32s l)) :
    Calls Try.prog 25 #[.slice A l.length c] w fun e w' => ∃ v', e = .returned v' ∧ w'.ownsRow w.heap.size 30 1 v' l.length (u32s l) ∧ Below w.heap.size w w' := by
  have q22 : ∀ (w : World) (a : Option Addr) (n c n' c' : Nat), (binOp .eql 22 (.slice a n c) (.slice none n' c')).run Try.prog w = .ok (.bool a.isNone) w := fun w a n c n' c' => Lib.run_eql_slice_nil w _ _ a n c n' c' Try.underlying22
  cases A with
  | none =>
    obtain rfl : l = [] := by
      rcases Nat.eq_zero_or_pos l.length with h | h
      · exact List.eq_nil_of_length_eq_zero h
      · obtain ⟨_, e, _⟩ := hA.2 (by omega); cases e
    clear hA hl
    go_enter Try.func25, Try.ntmps25
    go_wp2
    go_ret
    exact ⟨_, rfl, World.ownsRow_nil _ _ _ _, Below.refl _ _⟩
  | some a =>
    obtain ⟨i0, hi, hz0, hz1, hz2⟩ := info_parts infoU32
    have HA := Lib.hid hA
    obtain ⟨n, hn⟩ : ∃ n, n = l.length := ⟨_, rfl⟩
    rw [← hn]
    have HN := Lib.hid hn
    clear hA hn
    go_enter Try.func25, Try.ntmps25
    go_wp2_with (at_builtin; refine wpList_append_own _ rfl _ _ 22 rfl w.heap.size 30 i0 (.int .u32 0) 1 4 Try.underlying22 hi hz0 hz1 hz2 rfl (by decide) _ _ _ rfl (World.ownsRow_made w #[] 0 (Nat.le_refl _) (Nat.zero_le _) (by simp)) a n c (u32s l) rfl ?qc1 ?qc2 ?qc3 ?qc4 ?qc5 ?qc6 ?_)
    case qc1 => rw [HN.out, u32s_length]; omega
    case qc2 =>
      intro j u hj
      obtain ⟨hj2, rfl⟩ := List.getElem?_eq_some_iff.1 hj
      rw [u32s_length] at hj2
      obtain ⟨a', e, _, hc⟩ := HA.out.2 (by omega)
      cases e
      exact Lib.cell?_alloc_some _ (hc j (by rw [u32s_length]; exact hj2))
    case qc3 => exact u32s_one l
    case qc4 => rw [Nat.zero_add, HN.out]; unfold maxLen; omega
    case qc5 => rw [Nat.zero_add, HN.out]; omega
    case qc6 => simp
    intro v' w1 hown hgrow hnil
    have H1 := Lib.hid (And.intro hown hgrow)
    clear hown hgrow hnil
    go_wp2
    go_ret
    refine ⟨v', rfl, by simpa using H1.out.1, ?_⟩
    exact ((Below.refl _ w).alloc (Nat.le_refl _) _).grown H1.out.2 (by simp) (by intro k hk; simp [Value.ownBlock] at hk; omega)
theorem cloneC_any (A : Option Addr) (c : Nat) (l : List Ct) (hl : l.length ≤ 1000000) (w : World) (hA : Lies w w.heap.size 2 A l.length (cellsC l)) :
    Calls Try.prog 26 #[.slice A l.length c] w fun e w' => ∃ v', e = .returned v' ∧ w'.ownsRow w.heap.size 53 2 v' l.length (cellsC l) ∧ Below w.heap.size w w' := by
  have q22 : ∀ (w : World) (a : Option Addr) (n c n' c' : Nat), (binOp .eql 27 (.slice a n c) (.slice none n' c')).run Try.prog w = .ok (.bool a.isNone) w := fun w a n c n' c' => Lib.run_eql_slice_nil w _ _ a n c n' c' Try.underlying27
  cases A with
  | none =>
    obtain rfl : l = [] := by
      rcases Nat.eq_zero_or_pos l.length with h | h
      · exact List.eq_nil_of_length_eq_zero h
      · obtain ⟨_, e, _⟩ := hA.2 (by omega); cases e
    clear hA hl
    go_enter Try.func26, Try.ntmps26
    go_wp2
    go_ret
    exact ⟨_, rfl, World.ownsRow_nil _ _ _ _, Below.refl _ _⟩
  | some a =>
    obtain ⟨i0, hi, hz0, hz1, hz2⟩ := info_parts infoCut
    have HA := Lib.hid hA
    obtain ⟨n, hn⟩ : ∃ n, n = l.length := ⟨_, rfl⟩
    rw [← hn]
    have HN := Lib.hid hn
    clear hA hn
    go_enter Try.func26, Try.ntmps26
    go_wp2_with (at_builtin; refine wpList_append_own _ rfl _ _ 27 rfl w.heap.size 53 i0 (.agg #[.int .i64 0, .int .u32 0]) 2 16 Try.underlying27 hi hz0 hz1 hz2 rfl (by decide) _ _ _ rfl (World.ownsRow_made w #[] 0 (Nat.le_refl _) (Nat.zero_le _) (by simp)) a n c (cellsC l) rfl ?qc1 ?qc2 ?qc3 ?qc4 ?qc5 ?qc6 ?_)
    case qc1 => rw [HN.out, cellsC_length]
    case qc2 =>
      intro j u hj
      obtain ⟨hj2, rfl⟩ := List.getElem?_eq_some_iff.1 hj
      have hj3 := hj2
      rw [cellsC_length] at hj3
      obtain ⟨a', e, _, hc⟩ := HA.out.2 (by omega)
      cases e
      exact Lib.cell?_alloc_some _ (hc j hj2)
    case qc3 => exact cellsC_one l
    case qc4 => rw [Nat.zero_add, HN.out]; unfold maxLen; omega
    case qc5 => rw [Nat.zero_add, HN.out]; omega
    case qc6 => simp
    intro v' w1 hown hgrow hnil
    have H1 := Lib.hid (And.intro hown hgrow)
    clear hown hgrow hnil
    go_wp2
    go_ret
    refine ⟨v', rfl, by simpa using H1.out.1, ?_⟩
    exact ((Below.refl _ w).alloc (Nat.le_refl _) _).grown H1.out.2 (by simp) (by intro k hk; simp [Value.ownBlock] at hk; omega)
/-- The first cut is cut off. -/
theorem cuts_tail (q : Addr) (K c : Nat) (hK : 0 < K) (W : World) : (Instr.sliceAt 27 (.slice (some q) K c) (some (.int .i64 1)) none none).run Try.prog W = .ok (.slice (if c = 1 then some q else some (q.add 2)) (K - 1) (c - 1)) W := by
  have he : Try.prog.underlying 27 = some (.slice (Try.prog.elem 27)) := by kernel_rfl

  rw [run_sliceAt_slice W _ _ _ _ _ he, run_slice_l W _ _ _ _ he .i64 (1 : Int) (by omega) (by omega)]
  have hs : (sizeOf (Try.prog.elem 27)).run Try.prog W = .ok 2 W := by kernel_rfl
  rw [hs]
  simp [Result.andThen_ok, sliced]
end Go.Proofs.Ytpeebdhbcglibaa
