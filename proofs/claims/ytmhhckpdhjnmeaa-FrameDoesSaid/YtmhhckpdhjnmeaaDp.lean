/- Two pools side by side: the code's and the reference's. -/
import Derived.Test.YtmhhckpdhjnmeaaRrun
namespace Go.Proofs.Ytmhhckpdhjnmeaa
open Go.RowKit

structure DP (w0 w : World) (p : Nat) (b : Sp) (L : List Sp) (q : Nat) (s : Sp) (U : List Nat) : Prop where
  both : ∃ pv u, PC w p pv b L ∧ RP w q s u U ∧ (∀ k, FpC p pv k → w0.heap.size ≤ k) ∧ (∀ k, FpC q u k → w0.heap.size ≤ k) ∧ ∀ k, FpC p pv k → ¬ FpC q u k
  below : Below w0.heap.size w0 w
section
variable {w0 w w' : World} {p q : Nat} {b s : Sp} {L : List Sp} {U : List Nat}
theorem DP.under (h : DP w0 w p b L q s U) (hb : Below w.heap.size w w') : DP w0 w' p b L q s U := by
  obtain ⟨⟨pv, u, h1, h2, h3, h4, h5⟩, h6⟩ := h
  exact ⟨⟨pv, u, h1.under hb, h2.under hb, h3, h4, h5⟩, h6.trans (hb.mono h6.size)⟩
theorem DP.lift {w1 : World} (h : DP w1 w p b L q s U) (hb : Below w0.heap.size w0 w1) : DP w0 w p b L q s U := by
  obtain ⟨⟨pv, u, h1, h2, h3, h4, h5⟩, h6⟩ := h
  exact ⟨⟨pv, u, h1, h2, fun k hk => Nat.le_trans hb.size (h3 k hk), fun k hk => Nat.le_trans hb.size (h4 k hk), h5⟩, hb.trans (h6.mono hb.size)⟩
theorem RP.new (w : World) (s : Sp) : RP (w.alloc (.cells #[.int .u64 (s.1 : Int), .int .u64 (s.2 : Int), .slice none 0 0] 33)) w.heap.size s (.slice none 0 0) [] :=
  ⟨Blk.new _ _ _ rfl, ⟨rfl, .inl ⟨rfl, rfl⟩⟩, fun e => by simp [Value.ownBlock] at e⟩
/-- Made, the code's ahead of the reference's; the other way round. -/
theorem DP.new1 (h : MP w0 w p b L) (s : Sp) : DP w0 (w.alloc (.cells #[.int .u64 (s.1 : Int), .int .u64 (s.2 : Int), .slice none 0 0] 33)) p b L w.heap.size s [] := by
  obtain ⟨pv, h1, h2, h3⟩ := h
  refine ⟨⟨pv, _, h1.under (below_alloc1 _ _), RP.new w s, h3, fun k hk => ?_, fun k hk hf => ?_⟩, h2.alloc h2.size _⟩
  · rcases hk with rfl | hk
    · exact h2.size
    · simp [Value.ownBlock] at hk
  · have := h1.lt hk
    rcases hf with rfl | hf
    · omega
    · simp [Value.ownBlock] at hf
theorem DP.new2 (hw : Below w0.heap.size w0 w) (h : MP (w.alloc (.cells #[.int .u64 (s.1 : Int), .int .u64 (s.2 : Int), .slice none 0 0] 33)) w' p b L) : DP w0 w' p b L w.heap.size s [] := by
  obtain ⟨pv, h1, h2, h3⟩ := h
  have hz : (w.alloc (.cells #[.int .u64 (s.1 : Int), .int .u64 (s.2 : Int), .slice none 0 0] 33)).heap.size = w.heap.size + 1 := by simp
  have hb : Below w0.heap.size w0 (w.alloc (.cells #[.int .u64 (s.1 : Int), .int .u64 (s.2 : Int), .slice none 0 0] 33)) := hw.alloc hw.size _
  refine ⟨⟨pv, _, h1, (RP.new w s).under h2, fun k hk => Nat.le_trans hb.size (h3 k hk), fun k hk => ?_, fun k hk hf => ?_⟩, hb.trans (h2.mono hb.size)⟩
  · rcases hk with rfl | hk
    · exact hw.size
    · simp [Value.ownBlock] at hk
  · have := h3 k hk
    rcases hf with rfl | hf
    · omega
    · simp [Value.ownBlock] at hf
theorem dp_run (h : DP w0 w p b L q s U) (hF : Fr b L) (hl : L.length ≤ 100000) (n : Int) (a : Nat) (ha : a < TT) :
    Calls Try.prog 11 #[.pointer (some ⟨p, 0, none⟩), .int .i64 n, .int .u64 (a : Int)] w fun e w' => e = .returned (.tuple #[.int .u64 (runV L n a : Nat), .int .i64 (runE L n a : Nat)]) ∧ DP w0 w' p b (runL L n a) q s U ∧ ∀ (g : Nat) (t : TypeId) (cs : Array Value), Blk w g t cs → t ≠ 58 → t ≠ 24 → Blk w' g t cs := by
  obtain ⟨⟨pv, u, h1, h2, h3, h4, h5⟩, h6⟩ := h
  refine (run_any h1 hF hl n a ha).mono ?_
  rintro e w' ⟨u2, rfl, k1, k2, k3⟩
  refine ⟨rfl, ⟨⟨u2, u, k1, h2.turn k2 (fun k hk hf => h5 k hf hk), fun k hk => ?_, h4, fun k hk hf => ?_⟩, h6.trans (k2.below h3 h6.size)⟩, fun g t cs hg ht hts => hg.turn k2 fun hf => fpc_type h1 hg ht hts hf⟩
  · rcases hk with rfl | hk
    · exact h3 k (.inl rfl)
    · rcases k3 k hk with h | h
      · exact h3 k (.inr h)
      · exact Nat.le_trans h6.size h
  · rcases hk with rfl | hk
    · exact h5 k (.inl rfl) hf
    · rcases k3 k hk with h | h
      · exact h5 k (.inr h) hf
      · have := h2.lt hf; omega
theorem dp_rrun {L' : List Sp} (h : DP w0 w p b L' q s U) (hs : fit s) (hR : Rel (fB s) L U) (n : Int) (a : Nat) (ha : a < 18446744073709551616) (hl : U.length + cnt n ≤ 1000) :
    Calls Try.prog 12 #[.pointer (some ⟨q, 0, none⟩), .int .i64 n, .int .u64 (a : Int)] w fun e w' => e = .returned (.tuple #[.int .u64 (runV L n a : Nat), .int .i64 (runE L n a : Nat)]) ∧ DP w0 w' p b L' q s (usedN L U n a) := by
  obtain ⟨⟨pv, u, h1, h2, h3, h4, h5⟩, h6⟩ := h
  refine (rrun_any h2 hs hR n a ha hl).mono ?_
  rintro e w' ⟨u2, rfl, k1, k2, k3⟩
  refine ⟨rfl, ⟨pv, u2, h1.turn k2 h5, k1, h3, fun k hk => ?_, fun k hk hf => ?_⟩, h6.trans (k2.below h4 h6.size)⟩
  · rcases hk with rfl | hk
    · exact h4 k (.inl rfl)
    · rcases k3 k hk with h | h
      · exact h4 k (.inr h)
      · exact Nat.le_trans h6.size h
  · rcases hf with rfl | hf
    · exact h5 k hk (.inl rfl)
    · rcases k3 k hf with h | h
      · exact h5 k hk (.inr h)
      · have := h1.lt hk; omega
theorem dp_has (h : DP w0 w p b L q s U) (hR : Rel b L U) (hl : L.length ≤ 100000) (x : Nat) :
    Calls Try.prog 13 #[.pointer (some ⟨p, 0, none⟩), .int .u64 (x : Int)] w fun e w' => e = .returned (.bool (decide (x / 4096 * 4096 ∈ U))) ∧ DP w0 w' p b L q s U := by
  obtain ⟨pv, u, h1, _⟩ := h.both
  rw [← hR.has]
  exact (has_of (HeldC.of h1) hl hR.fr.fits.fit hR.fr.fit x).mono fun _ _ ⟨e1, e2⟩ => ⟨e1, h.under e2⟩
theorem dp_rhas (h : DP w0 w p b L q s U) (hl : U.length ≤ 1000000) (x : Nat) (hx : x < TT) :
    Calls Try.prog 14 #[.pointer (some ⟨q, 0, none⟩), .int .u64 (x : Int)] w fun e w' => e = .returned (.bool (decide (x / 4096 * 4096 ∈ U))) ∧ w' = w := by
  obtain ⟨pv, u, _, h2, _⟩ := h.both
  exact rHas_any h2 hl x hx
theorem dp_frames (h : DP w0 w p b L q s U) (hs : fit s) :
    Calls Try.prog 10 #[.pointer (some ⟨q, 0, none⟩)] w fun e w' => e = .returned (.tuple #[.int .u64 ((fB s).1 : Int), .int .u64 (((fB s).2 / 4096 : Nat) : Int)]) ∧ DP w0 w' p b L q s U := by
  obtain ⟨pv, u, _, h2, _⟩ := h.both
  exact (rframes_any h2 hs).mono fun _ _ ⟨e1, e2⟩ => ⟨e1, h.under e2⟩
theorem dp_left (h : DP w0 w p b L q s U) (hF : Fr b L) (hl : L.length ≤ 100000) :
    Calls Try.prog 16 #[.pointer (some ⟨p, 0, none⟩)] w fun e w' => e = .returned (.int .u64 ((bytes L / 4096 : Nat) : Int)) ∧ Below w.heap.size w w' := by
  obtain ⟨pv, u, h1, _⟩ := h.both
  exact left_of (HeldC.of h1) hl (Nat.lt_of_le_of_lt hF.le hF.fits.lt)
theorem dp_used (h : DP w0 w p b L q s U) (hR : Rel b L U) (hl : L.length ≤ 100000) :
    Calls Try.prog 15 #[.pointer (some ⟨p, 0, none⟩)] w fun e w' => e = .returned (.int .u64 (U.length : Int)) ∧ Below w.heap.size w w' := by
  obtain ⟨pv, u, h1, _⟩ := h.both
  have := used_of (HeldC.of h1) hl hR.fr.le hR.fr.fits.fit
  have hm := Fr.bytes_mod (b := b) hR.fr.al
  have hs := hR.sum
  rw [show b.2 / 4096 - bytes L / 4096 = U.length by omega] at this
  exact this
theorem DP.cell (h : DP w0 w p b L q s U) : ∃ A c, w.cell? ⟨q, 2, none⟩ = some (.slice A U.length c) ∧ q < w.heap.size := by
  obtain ⟨pv, u, _, h2, _⟩ := h.both
  obtain ⟨A, c, rfl, _⟩ := h2.form
  exact ⟨A, c, h2.c2, h2.blk.lt⟩
end
/-- What the reference has handed out behind some asks. -/
def usedL : List Sp → List Nat → List Ak → List Nat
  | _, U, [] => U
  | L, U, x :: r => usedL (runL L x.n x.a) (usedN L U x.n x.a) r
theorem usedL_snoc : ∀ (l : List Ak) (L : List Sp) (U : List Nat) (x : Ak), usedL L U (l ++ [x]) = usedN (runsL L l) (usedL L U l) x.n x.a
  | [], _, _, _ => rfl
  | y :: r, L, U, x => usedL_snoc r (runL L y.n y.a) (usedN L U y.n y.a) x
theorem usedL_succ (L : List Sp) (U : List Nat) (l : List Ak) {k : Nat} (h : k < l.length) : usedL L U (l.take (k + 1)) = usedN (runsL L (l.take k)) (usedL L U (l.take k)) l[k].n l[k].a := by
  rw [List.take_succ_eq_append_getElem h, usedL_snoc]
theorem usedL_rel {b : Sp} : ∀ (l : List Ak) {L : List Sp} {U : List Nat}, Rel b L U → Rel b (runsL L l) (usedL L U l)
  | [], _, _, h => h
  | x :: r, _, _, h => usedL_rel r (h.run x.n x.a)
theorem usedL_len : ∀ (l : List Ak) (L : List Sp) (U : List Nat), (usedL L U l).length ≤ U.length + tot l
  | [], _, _ => Nat.le_refl _
  | x :: r, L, U => by
    have h1 := usedL_len r (runL L x.n x.a) (usedN L U x.n x.a)
    have h2 := used_len L U x.n x.a
    have h3 : tot (x :: r) = cnt x.n + tot r := by simp [tot]
    show (usedL (runL L x.n x.a) (usedN L U x.n x.a) r).length ≤ _
    omega
theorem runV_lt {b : Sp} {L : List Sp} (hF : Fr b L) (n : Int) (a : Nat) : runV L n a < TT := by
  unfold runV
  split
  · rename_i hk
    obtain ⟨h1, h2, h3, h4⟩ := askOk_iff.1 hk
    unfold takeV
    split
    · rename_i i hi
      have hit := hit_of (by omega) hi
      have ht := (hF.top hit.mem).1
      have := hit.hi
      have : 0 < n.toNat := by omega
      omega
    · decide
  · decide
end Go.Proofs.Ytmhhckpdhjnmeaa
