/- A pool and a row of spans beside it, both made by a law: FrameApart. -/
import Derived.Test.YtmhhckpdhjnmeaaAk
import Derived.Test.YtmhhckpdhjnmeaaFirstA
namespace Go.Proofs.Ytmhhckpdhjnmeaa
open Go.RowKit
attribute [local go_sem ↓ high] builtin_appS

structure AP (w0 w : World) (p : Nat) (b : Sp) (L : List Sp) (v : Value) (H : List Sp) : Prop where
  pool : ∃ pv, PC w p pv b L ∧ (∀ k, FpC p pv k → w0.heap.size ≤ k) ∧ ∀ k, v.ownBlock = some k → ¬ FpC p pv k
  row : OwnS w w0.heap.size v H
  below : Below w0.heap.size w0 w
section
variable {w0 w w' : World} {p : Nat} {b : Sp} {L H : List Sp} {v : Value}
theorem AP.start (h : MP w0 w p b L) : AP w0 w p b L (.slice none 0 0) [] := by
  obtain ⟨pv, h1, h2, h3⟩ := h
  exact ⟨⟨pv, h1, h3, fun k hk => by simp [Value.ownBlock] at hk⟩, ⟨rfl, .inl ⟨rfl, rfl⟩⟩, h2⟩
theorem AP.under (h : AP w0 w p b L v H) (hb : Below w.heap.size w w') : AP w0 w' p b L v H := by
  obtain ⟨⟨pv, h1, h2, h3⟩, h4, h5⟩ := h
  exact ⟨⟨pv, h1.under hb, h2, h3⟩, h4.below hb, h5.trans (hb.mono h5.size)⟩
theorem AP.lift {w1 : World} (h : AP w1 w p b L v H) (hb : Below w0.heap.size w0 w1) : AP w0 w p b L v H := by
  obtain ⟨⟨pv, h1, h2, h3⟩, h4, h5⟩ := h
  exact ⟨⟨pv, h1, fun k hk => Nat.le_trans hb.size (h2 k hk), h3⟩, h4.low hb.size, hb.trans (h5.mono hb.size)⟩
/-- What Run leaves of what a law made itself, beside the pool. -/
def Beside (w0 w w' : World) : Prop := ∀ (g : Nat) (t : TypeId) (cs : Array Value), Blk w g t cs → t ≠ 58 → (t ≠ 24 ∨ g < w0.heap.size) → Blk w' g t cs
theorem ap_run (h : AP w0 w p b L v H) (hF : Fr b L) (hl : L.length ≤ 100000) (n : Int) (a : Nat) (ha : a < TT) :
    Calls Try.prog 11 #[.pointer (some ⟨p, 0, none⟩), .int .i64 n, .int .u64 (a : Int)] w fun e w' => e = .returned (.tuple #[.int .u64 (runV L n a : Nat), .int .i64 (runE L n a : Nat)]) ∧ AP w0 w' p b (runL L n a) v H ∧ Beside w0 w w' := by
  obtain ⟨⟨pv, h1, h2, h3⟩, h4, h5⟩ := h
  refine (run_any h1 hF hl n a ha).mono ?_
  rintro e w' ⟨u, rfl, k1, k2, k3⟩
  refine ⟨rfl, ⟨⟨u, k1, fun k hk => ?_, fun k hk hf => ?_⟩, owns_same h4 fun k hk => k2.block k (World.ownsRow.lt h4 k hk).2 (h3 k hk), h5.trans (k2.below h2 h5.size)⟩, fun g t cs hg ht hts => hg.turn k2 fun hf => ?_⟩
  · rcases hk with rfl | hk
    · exact h2 k (.inl rfl)
    · rcases k3 k hk with h | h
      · exact h2 k (.inr h)
      · exact Nat.le_trans h5.size h
  · have hkl := (World.ownsRow.lt h4 k hk).2
    rcases hf with rfl | hf
    · exact h3 k hk (.inl rfl)
    · rcases k3 k hf with h | h
      · exact h3 k hk (.inr h)
      · omega
  · rcases hts with hts | hts
    · exact fpc_type h1 hg ht hts hf
    · have := h2 g hf; omega
/-- An append of a span onto the row beside the pool. -/
theorem ap_app (h : AP w0 w p b L v H) (hl : H.length + 1 ≤ 1000000) (x n : Nat) :
    ∃ v' w', (∀ ty, (appS #[46, 46] ty #[v, .slice (some ⟨w.heap.size, 0, none⟩) 1 1]).run Try.prog (w.alloc (spo x n)) = .ok v' w') ∧ AP w0 w' p b L v' (H ++ [(x, n)]) ∧ Below w0.heap.size w w' ∧ ∃ g c, v' = .slice (some ⟨g, 0, none⟩) (H.length + 1) c := by
  obtain ⟨⟨pv, h1, h2, h3⟩, h4, h5⟩ := h
  have hb : Below w.heap.size w (w.alloc (spo x n)) := below_alloc1 _ _
  obtain ⟨i0, hi, hz0, hz1, hz2⟩ := info_parts infoS
  have hnews : ∀ j u, (cells2 [(x, n)])[j]? = some u → (w.alloc (spo x n)).cell? ((⟨w.heap.size, 0, none⟩ : Addr).add j) = some u := by
    intro j u hu
    have e : ((⟨w.heap.size, 0, none⟩ : Addr).add j) = ⟨w.heap.size, j, none⟩ := by unfold Addr.add; by_cases h0 : j = 0 <;> simp [h0]
    rw [e, cell_of_row _ w.heap.size j _ 24 (0, 0) (heap_alloc_new w _)]
    simpa [cells2] using hu
  obtain ⟨v', w', q1, q2, q3, _, q5⟩ := run_append_own_at (P := Try.prog) (w.alloc (spo x n)) w0.heap.size 46 46 24 i0 (.agg #[.int .u64 0, .int .u64 0]) 2 16 Try.underlying46 hi hz0 hz1 hz2 rfl (by decide) v H.length (cells2 H) (h4.below hb)
    ⟨w.heap.size, 0, none⟩ 1 1 (cells2 [(x, n)]) rfl hnews (cells2_one _) (by unfold maxLen; omega) (by omega) (by have := h5.size; simp; omega)
  obtain ⟨g, c, hv'⟩ := ownsRow_succ q2
  have h1' : PC (w.alloc (spo x n)) p pv b L := h1.under hb
  have hbl : Below w0.heap.size w w' := (hb.mono h5.size).trans ⟨q3.os, q3.tape, q3.output, q3.size, fun k hk => q3.block k (Nat.lt_of_lt_of_le hk (Nat.le_trans h5.size hb.size)) fun e => by
    have := (World.ownsRow.lt h4 k e.symm).1
    omega⟩
  refine ⟨v', w', fun _ => q1, ⟨⟨pv, h1'.same fun k hk => q3.block k (h1'.lt hk) fun e => h3 k e.symm hk, h2, fun k hk hf => ?_⟩, ?_, h5.trans hbl⟩, hbl, g, c, hv'⟩
  · rcases q5 with e | e
    · exact h3 k (e.symm.trans hk) hf
    · rw [hk] at e
      have e2 := Option.some.inj e
      simp only [World.size_alloc] at e2
      have := h1.lt hf
      omega
  · unfold OwnS
    rw [cells2_append, List.length_append]
    exact q2
end
/-- Where Run hands out: what the law asks of it. -/
theorem had_run {s : Sp} {L H : List Sp} {n : Int} {a : Nat} (hh : Had s (fB s) L H) (hF : Fr (fB s) L) (he : runE L n a = 0) :
    ∃ m : Nat, n = m ∧ 1 ≤ m ∧ m ≤ 4096 ∧ a ≠ 0 ∧ runV L n a % 4096 = 0 ∧ runV L n a % a = 0 ∧ within (runV L n a, m * 4096) s = true ∧ fit (runV L n a, m * 4096) ∧ Had s (fB s) (runL L n a) (H ++ [(runV L n a, m * 4096)]) := by
  unfold runE at he
  by_cases hk : askOk n a = true
  · obtain ⟨h1, h2, h3, h4⟩ := askOk_iff.1 hk
    obtain ⟨m, rfl⟩ := Int.eq_ofNat_of_zero_le (show 0 ≤ n by omega)
    rw [if_pos hk] at he
    have hm : (m : Int).toNat = m := rfl
    unfold takeE at he
    rw [hm] at he
    cases hi : idx L (m * 4096) a with
    | none => rw [hi] at he; simp at he
    | some i =>
      have hv : runV L (m : Int) a = at1 L i a := by unfold runV takeV; rw [if_pos hk, hm, hi]
      have hlr : runL L (m : Int) a = putL L i (m * 4096) a := by unfold runL takeL; rw [if_pos hk, hm, hi]
      have hit := hit_of (by omega) hi
      have hstep := hh.step hF (by omega) (by omega) (by unfold TT; omega) hi
      have ht := (hF.top hit.mem).1
      have hlo := hF.ins _ (hit.free (Nat.le_refl _) (by omega))
      have hhi := hF.ins (at1 L i a + m * 4096 - 1) (hit.free (by omega) (by omega))
      obtain ⟨g1, g2, g3⟩ := fB_in (s := s) (by omega)
      have hg := (hstep.gone (at1 L i a, m * 4096) (by simp))
      rw [hv, hlr]
      refine ⟨m, rfl, by omega, by omega, h3, mod_trans h4 hit.mod, hit.mod, ?_, hg.2.1, hstep⟩
      unfold within
      rw [g1, hg.1]
      simp only [Bool.true_and, Bool.and_eq_true, decide_eq_true_eq]
      omega
  · rw [if_neg hk] at he
    simp at he
theorem had_no {s : Sp} {L H : List Sp} {n : Int} {a : Nat} (hh : Had s (fB s) L H) (he : ¬ runE L n a = 0) : Had s (fB s) (runL L n a) H := by
  have : runL L n a = L := by
    unfold runL
    unfold runE at he
    split
    · rename_i hk
      rw [if_pos hk] at he
      unfold takeE at he
      unfold takeL
      cases hi : idx L (n.toNat * 4096) a with
      | none => rfl
      | some i => rw [hi] at he; exact absurd rfl he
    · rfl
  rw [this]
  exact hh
end Go.Proofs.Ytmhhckpdhjnmeaa
