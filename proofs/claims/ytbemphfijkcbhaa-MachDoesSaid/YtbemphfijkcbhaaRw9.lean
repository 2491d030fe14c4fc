/- The reference's Mem: ask, Write. -/
import Derived.Test.YtbemphfijkcbhaaRfind9
import Derived.Test.YtbemphfijkcbhaaBack9
namespace Go.Proofs.Ytbemphfijkcbhaa
open Go.RowKit

set_option maxRecDepth 100000 in
set_option maxHeartbeats 1000000 in
theorem rask_any {w : World} {G : Nat → Prop} {r n : Nat} {ram : Sp} {v : Value} {ps : List RP} {m : Bytes8} (hM : MR w G r ram n v ps m) (a c : Nat) (ha : a < 18446744073709551616) (hc : c < 18446744073709551616) :
    Calls Try.prog 54 #[.pointer (some ⟨r, 0, none⟩), .int .u64 (a : Int), .int .u64 (c : Int)] w fun e w' => e = .returned (.int .i64 (askR ram a c : Nat)) ∧ Below w.heap.size w w' := by
  have c0 := hM.cell0
  have c1 := hM.cell1
  have hg := hM.ok.good
  obtain ⟨q, hq⟩ : ∃ q, q = askR ram a c := ⟨_, rfl⟩
  rw [← hq]
  obtain ⟨r1, r2⟩ := ram
  have HW := Lib.hid (fun W => rwithin_any a c r1 r2 ⟨ha, hc⟩ hM.ok.fit W)
  simp only at c0 c1
  clear hM
  by_cases h1 : 1048576 < c
  · have e1 : (1048576 : Int) < c := by omega
    have hq0 : q = 2 := by rw [hq]; unfold askR; rw [if_pos h1]
    subst hq0
    clear hq h1 hg
    go_enter Try.func54, Try.ntmps54
    go_wp2
    go_ret
    exact ⟨rfl, Below.refl _ _⟩
  · have e1 : ¬ (1048576 : Int) < c := by omega
    by_cases h2 : c = 0
    · subst h2
      have hq0 : q = 0 := by rw [hq]; unfold askR; rw [if_neg h1, if_pos ⟨rfl, hg⟩]
      subst hq0
      clear hq h1 hg
      go_enter Try.func54, Try.ntmps54
      go_wp2
      go_ret
      exact ⟨rfl, Below.refl _ _⟩
    · have e2 : (0 : Int) < c := by omega
      have hq0 : q = if within (a, c) (r1, r2) = true then 0 else 90 := by rw [hq]; unfold askR; rw [if_neg h1, if_neg (fun hh => h2 hh.1)]
      cases hi : within (a, c) (r1, r2)
      · rw [hi] at HW
        have hq1 : q = 90 := by rw [hq0, hi]; rfl
        subst hq1
        clear hq hq0 h1 h2 hg hi ha hc
        go_enter Try.func54, Try.ntmps54
        go_wp2_with (go_at_call 39; refine (HW.out _).mono ?_; rintro e w1 ⟨rfl, hd⟩; have HD := Lib.hid hd; clear hd)
        go_ret
        exact ⟨rfl, HD.out⟩
      · rw [hi] at HW
        have hq1 : q = 0 := by rw [hq0, hi]; rfl
        subst hq1
        clear hq hq0 h1 h2 hg hi ha hc
        go_enter Try.func54, Try.ntmps54
        go_wp2_with (go_at_call 39; refine (HW.out _).mono ?_; rintro e w1 ⟨rfl, hd⟩; have HD := Lib.hid hd; clear hd)
        go_ret
        exact ⟨rfl, HD.out⟩
/-- What is behind a place of a slice. -/
theorem tail_any (A : Option Addr) (c : Nat) (l : List UInt8) (j : Nat) (k : IntKind) (hj : j ≤ l.length) (hc : l.length ≤ c) (w : World) (hl : Lies w w.heap.size 1 A l.length (u8s l)) :
    ∃ B, (∀ W, (Instr.sliceAt 41 (.slice A l.length c) (some (.int k (j : Int))) none none).run Try.prog W = .ok (.slice B (l.drop j).length (c - j)) W) ∧ Lies w w.heap.size 1 B (l.drop j).length (u8s (l.drop j)) ∧
      ∀ q, B = some q → ∃ p, A = some p ∧ q.block = p.block := by
  have hlen : (l.drop j).length = l.length - j := by simp
  refine ⟨if c = j then A else A.map fun a => a.add (j * 1), fun W => ?_, ?_, fun q e => ?_⟩
  · rw [hlen]
    have he : Try.prog.underlying 41 = some (.slice (Try.prog.elem 41)) := by kernel_rfl
    rw [run_sliceAt_slice W _ _ _ _ _ he, run_slice_l W _ _ _ _ he k (j : Int) (by omega) (by omega)]
    have hs : (sizeOf (Try.prog.elem 41)).run Try.prog W = .ok 1 W := by kernel_rfl
    rw [hs]
    simp only [Result.andThen_ok, sliced, Int.toNat_natCast]
  · rw [hlen]
    by_cases h0 : l.length - j = 0
    · have hn : l.drop j = [] := List.eq_nil_of_length_eq_zero (by omega)
      rw [hn, h0]
      exact Lies.nil _ _ _ _
    · rw [if_neg (by omega)]
      have := hl.cut rfl j (l.length - j) (by omega)
      rw [List.take_of_length_le (by omega)] at this
      simpa using this
  · split at e
    · exact ⟨q, e, rfl⟩
    · cases A with
      | none => simp at e
      | some p =>
        simp at e
        exact ⟨p, rfl, by rw [← e, addr_add_block]⟩
/-- Bytes are being written. -/
structure WI (w wr : World) (G G' : Nat → Prop) (r n at_ : Nat) (ram : Sp) (v : Value) (ps : List RP) (m : Bytes8) (l : List UInt8) (B : Option Addr) (j cap : Nat) : Prop where
  mr : MR wr G' r ram (n + pcnt (at_, j)) v ps (wrM m at_ (l.take j))
  tu : Turn G w wr
  gs : ∀ i, G' i → G i ∨ w.heap.size ≤ i
  li : Lies w w.heap.size 1 B (l.drop j).length (u8s (l.drop j))
  ca : (l.drop j).length ≤ cap
  ng : ∀ q, B = some q → (l.drop j).length ≠ 0 → ¬ G q.block
  st : j = 0 ∨ (at_ + j) % 4096 = 0 ∨ j = l.length
theorem WI.src {w wr : World} {G G' : Nat → Prop} {r n at_ : Nat} {ram : Sp} {v : Value} {ps : List RP} {m : Bytes8} {l : List UInt8} {B : Option Addr} {j cap : Nat} (h : WI w wr G G' r n at_ ram v ps m l B j cap) :
    Lies wr wr.heap.size 1 B (l.drop j).length (u8s (l.drop j)) ∧ ∀ q, B = some q → (l.drop j).length ≠ 0 → ¬ G' q.block := by
  refine ⟨(h.li.turn h.tu (Nat.le_refl _) h.ng).wide h.tu.size, fun q e h0 hg => ?_⟩
  rcases h.gs _ hg with h1 | h1
  · exact h.ng q e h0 h1
  · obtain ⟨p, e2, hb, _⟩ := h.li.2 h0
    rw [e] at e2
    cases e2
    omega
theorem pcnt_step {a j s L : Nat} (hs : s = min (L - j) (4096 - (a + j) % 4096)) (hj : j < L) (hst : j = 0 ∨ (a + j) % 4096 = 0 ∨ j = L) : pcnt (a, j) + 1 ≤ pcnt (a, j + s) ∧ ((a + (j + s)) % 4096 = 0 ∨ j + s = L) ∧ 0 < s := by
  have h0 : 0 < s := by omega
  refine ⟨?_, by omega, h0⟩
  unfold pcnt
  simp only
  rw [if_neg (show ¬ j + s = 0 by omega)]
  by_cases hj0 : j = 0
  · rw [if_pos hj0]; omega
  · rw [if_neg hj0]
    have h2 : (a + j) % 4096 = 0 := by omega
    omega
theorem wrM_step (m : Bytes8) (a : Nat) (l : List UInt8) (j s : Nat) (hj : j + s ≤ l.length) : wrM m a (l.take (j + s)) = wrM (wrM m a (l.take j)) (a + j) ((l.drop j).take s) := by
  funext x
  unfold wrM
  have h1 : (l.take (j + s)).length = j + s := by simp; omega
  have h2 : ((l.drop j).take s).length = s := by simp; omega
  have h3 : (l.take j).length = j := by simp; omega
  rw [h1, h2, h3]
  by_cases c1 : a + j ≤ x ∧ x < a + j + s
  · rw [if_pos (by omega), if_pos c1]
    rw [List.getD_eq_getElem?_getD, List.getD_eq_getElem?_getD, List.getElem?_take, if_pos (by omega), List.getElem?_take, if_pos (by omega), List.getElem?_drop]
    congr 2; omega
  · rw [if_neg c1]
    by_cases c2 : a ≤ x ∧ x < a + j
    · rw [if_pos (by omega), if_pos c2, List.getD_eq_getElem?_getD, List.getD_eq_getElem?_getD, List.getElem?_take, if_pos (by omega), List.getElem?_take, if_pos (by omega)]
    · rw [if_neg (by omega), if_neg c2]
/-- A part of a page is written: what its block has then. -/
theorem page_spl (m : Bytes8) (k o s : Nat) (b : List UInt8) (hb : b.length = s) : ∀ i, i < 4096 → spl o s (fun i => .int .u8 ((b.getD i 0).toNat : Int)) (bys fun i => m (k + i)) i = bys (fun i => wrM m (k + o) b (k + i)) i := by
  intro i hi
  unfold spl bys wrM
  simp only
  rw [hb]
  by_cases c : o ≤ i ∧ i < o + s
  · rw [if_pos c, if_pos (by omega), show k + i - (k + o) = i - o by omega]
  · rw [if_neg c, if_neg (by omega)]
/-- find, where a page is to be. -/
theorem rfind_put {w : World} {G : Nat → Prop} {r n : Nat} {ram : Sp} {v : Value} {ps : List RP} {m : Bytes8} (hM : MR w G r ram n v ps m) (hn : n + 1 ≤ 1000000) (a : Nat) (ha : a % 4096 = 0) (ha2 : a < 18446744073709551616) :
    Calls Try.prog 55 #[.pointer (some ⟨r, 0, none⟩), .int .u64 (a : Int), .bool true] w fun e w' => ∃ (k : Nat) (G' : Nat → Prop) (v' : Value) (ps' : List RP), e = .returned (.int .i64 (k : Int)) ∧ MR w' G' r ram (n + 1) v' ps' m ∧ (∃ h : k < ps'.length, ps'[k].1 = a) ∧ Turn G w w' ∧ ∀ i, G' i → G i ∨ w.heap.size ≤ i := by
  cases hf : findR ps a with
  | none =>
    refine (rfind_made hM hn a ha ha2 hf).mono ?_
    rintro e w' ⟨rfl, G', v', g, h1, h2, h3⟩
    exact ⟨ps.length, G', v', _, rfl, h1, ⟨by simp, by simp⟩, h2, h3⟩
  | some j =>
    refine (rfind_some hM (by omega) a j true hf).mono ?_
    rintro e w' ⟨rfl, hd⟩
    exact ⟨j, G, v, ps, rfl, (hM.under hd).mono (by omega), findR_some hf, Turn.of_below hd, fun i hi => Or.inl hi⟩
end Go.Proofs.Ytbemphfijkcbhaa
