/- mach.Burn, Flash.Len, Flash.Get; portreeveref09.Get. -/
import Derived.Test.YtbemphfijkcbhaaWa
import Derived.Test.YtbemphfijkcbhaaWrite9
import Derived.Test.YtbemphfijkcbhaaCat
namespace Go.Proofs.Ytbemphfijkcbhaa
open Go.RowKit

/-- Cat of one part. -/
theorem cat_one (A : Option Addr) (c : Nat) (l : List UInt8) (W : World) (hl : Lies W W.heap.size 1 A l.length (u8s l)) (hm : l.length ≤ 70368744177664) :
    Calls Try.prog 53 #[.slice (some ⟨W.heap.size, 0, none⟩) 1 1] (W.alloc (.cells #[.slice A l.length c] 41)) fun e w' => ∃ E ce, e = .returned (.slice E l.length ce) ∧ l.length ≤ ce ∧ Lies w' w'.heap.size 1 E l.length (u8s l) ∧ (∀ q, E = some q → W.heap.size < q.block) ∧ Below W.heap.size W w' := by
  have hs : W.heap.size < (W.alloc (.cells #[.slice A l.length c] 41)).heap.size := by simp
  have hb : Below W.heap.size W (W.alloc (.cells #[.slice A l.length c] 41)) := (Below.refl _ _).alloc (Nat.le_refl _) _
  have h0 : Lies (W.alloc (.cells #[.slice A l.length c] 41)) (W.alloc (.cells #[.slice A l.length c] 41)).heap.size 1 (some ⟨W.heap.size, 0, none⟩) 1 ([(A, c, l)].map partV) := by
    have := lies_new W #[.slice A l.length c] 41 1 _ rfl rfl
    simpa [partV] using this
  have h := cat_any [(A, c, l)] (some ⟨W.heap.size, 0, none⟩) 1 (W.alloc (.cells #[.slice A l.length c] 41)).heap.size (W.alloc (.cells #[.slice A l.length c] 41)) (Nat.le_refl _) h0 (by
    intro p hp
    simp only [List.mem_cons, List.not_mem_nil, or_false] at hp
    subst hp
    exact (hl.below hb).wide hb.size) (by simpa [catAll] using hm) (by simp [maxLen])
  have e : catAll [(A, c, l)] = l := by simp [catAll]
  rw [e] at h
  refine h.mono ?_
  rintro e w' ⟨v, rfl, hown, hbel2⟩
  rcases hown.2 with ⟨rfl, hn⟩ | ⟨g, cap, cur, rfl, hg, _, hc, _⟩
  · have hq : Lies w' w'.heap.size 1 none l.length (u8s l) := by
      have : l = [] := List.eq_nil_of_length_eq_zero hn
      subst this
      exact Lies.nil _ _ _ _
    exact ⟨none, 0, by rw [hn], by omega, hq, (fun q e => by cases e), hb.trans (hbel2.mono hb.size)⟩
  · have hq := Lies.of_owns hown
    exact ⟨_, cap, rfl, hc, hq, (fun q e => by cases e; simp only; omega), hb.trans (hbel2.mono hb.size)⟩
/-- A flash: its box, its bytes. -/
structure FlashAt (w : World) (g : Nat) (l : List UInt8) : Prop where
  ex : ∃ E ce, Blk w g 111 #[.slice E l.length ce] ∧ l.length ≤ ce ∧ Lies w w.heap.size 1 E l.length (u8s l)
theorem FlashAt.below {w w' : World} {g : Nat} {l : List UInt8} (h : FlashAt w g l) (hd : Below w.heap.size w w') : FlashAt w' g l := by
  obtain ⟨E, ce, h1, h2, h3⟩ := h
  exact ⟨E, ce, h1.under hd, h2, (h3.below hd).wide hd.size⟩
set_option maxRecDepth 100000 in
set_option maxHeartbeats 1000000 in
theorem burn_any (A : Option Addr) (c : Nat) (l : List UInt8) (w : World) (hl : Lies w w.heap.size 1 A l.length (u8s l)) (hm : l.length ≤ 70368744177664) :
    Calls Try.prog 26 #[.slice A l.length c] w fun e w' => ∃ g, e = .returned (.pointer (some ⟨g, 0, none⟩)) ∧ FlashAt w' g l ∧ w.heap.size ≤ g ∧ Below w.heap.size w w' := by
  have HC := Lib.hid (cat_one A c l w hl hm)
  clear hl hm
  go_enter Try.func26, Try.ntmps26
  go_wp2_with (go_at_call 53; refine HC.out.mono ?_; rintro e w1 ⟨E, ce, rfl, h1, h2, h3, hd⟩; have H := Lib.hid (And.intro h1 (And.intro h2 (And.intro h3 hd))); clear h1 h2 h3 hd)
  go_ret
  obtain ⟨h1, h2, h3, hd⟩ := H.out
  have hb : Below w1.heap.size w1 (w1.alloc (.cells #[.slice E l.length ce] 111)) := (Below.refl _ _).alloc (Nat.le_refl _) _
  exact ⟨w1.heap.size, rfl, ⟨E, ce, Blk.new _ _ _ rfl, h1, (h2.below hb).wide hb.size⟩, hd.size, hd.trans (hb.mono hd.size)⟩
theorem len_none (w : World) : Calls Try.prog 27 #[.pointer none] w fun e w' => e = .returned (.int .i64 0) ∧ Below w.heap.size w w' := by
  go_enter Try.func27, Try.ntmps27
  go_wp2_with fail
  go_ret
  exact ⟨rfl, Below.refl _ _⟩
theorem len_any (g : Nat) (l : List UInt8) (w : World) (h : FlashAt w g l) : Calls Try.prog 27 #[.pointer (some ⟨g, 0, none⟩)] w fun e w' => e = .returned (.int .i64 (l.length : Nat)) ∧ Below w.heap.size w w' := by
  obtain ⟨E, ce, h1, -, -⟩ := h
  have hc : w.cell? ⟨g, 0, none⟩ = some (.slice E l.length ce) := h1.cellAt 0 rfl
  clear h1
  go_enter Try.func27, Try.ntmps27
  go_wp2_with fail
  go_ret
  exact ⟨rfl, Below.refl _ _⟩
/-- What a flash of these bytes answers: bytes, error. -/
def getL (l : List UInt8) (off n : Nat) : List UInt8 := if off + n ≤ l.length then (l.drop off).take n else []
def getE (l : List UInt8) (off n : Nat) : Nat := if n = 0 ∨ off + n ≤ l.length then 0 else 151
theorem u32_0 (n : Nat) (h : n ≠ 0) : ((n : Int) == 0) = false := by simp; omega
set_option maxRecDepth 100000 in
set_option maxHeartbeats 1000000 in
theorem get_zero (v : Value) (off : Nat) (w : World) : Calls Try.prog 28 #[v, .int .u32 (off : Int), .int .u32 0] w fun e w' => e = .returned (.tuple #[.slice none 0 0, .int .i64 0]) ∧ Below w.heap.size w w' := by
  go_enter Try.func28, Try.ntmps28
  go_wp2_with fail
  go_ret2
  exact ⟨rfl, Below.refl _ _⟩
set_option maxRecDepth 100000 in
set_option maxHeartbeats 1000000 in
theorem get_no (v : Value) (k off n : Nat) (w : World) (ho : off < 4294967296) (hn : n < 4294967296) (h0 : n ≠ 0) (hk : k < off + n) (hk2 : k ≤ 70368744177664)
    (hL : ∀ W, Below w.heap.size w W → Calls Try.prog 27 #[v] W fun e w' => e = .returned (.int .i64 (k : Nat)) ∧ Below W.heap.size W w') :
    Calls Try.prog 28 #[v, .int .u32 (off : Int), .int .u32 (n : Int)] w fun e w' => e = .returned (.tuple #[.slice none 0 0, .int .i64 151]) ∧ Below w.heap.size w w' := by
  have e0 := u32_0 n h0
  have e1 : ¬ (n : Int) = 0 := by omega
  have e2 : ((k : Int)) < (off : Int) + (n : Int) := by omega
  have HL := Lib.hid (hL w (Below.refl _ _))
  clear hL h0 hk
  go_enter Try.func28, Try.ntmps28
  go_wp2_with (go_at_call 27; refine HL.out.mono ?_; rintro e w1 ⟨rfl, hd⟩; have HD := Lib.hid hd; clear hd)
  go_ret2
  exact ⟨rfl, HD.out⟩
theorem cut_any (A : Option Addr) (c : Nat) (l : List UInt8) (i j : Nat) (k k2 : IntKind) (hij : i < j) (hj : j ≤ l.length) (hc : l.length ≤ c) (w : World) (hl : Lies w w.heap.size 1 A l.length (u8s l)) :
    ∃ B, (∀ W, (Instr.sliceAt 41 (.slice A l.length c) (some (.int k (i : Int))) (some (.int k2 (j : Int))) none).run Try.prog W = .ok (.slice B ((l.drop i).take (j - i)).length (c - i)) W) ∧ Lies w w.heap.size 1 B ((l.drop i).take (j - i)).length (u8s ((l.drop i).take (j - i))) := by
  obtain ⟨p, rfl, hb, hcell⟩ := hl.2 (by omega)
  have hlen : ((l.drop i).take (j - i)).length = j - i := by simp; omega
  refine ⟨some (p.add i), fun W => ?_, ?_⟩
  · rw [hlen]
    have he : Try.prog.underlying 41 = some (.slice (Try.prog.elem 41)) := by kernel_rfl
    rw [run_sliceAt_slice W _ _ _ _ _ he, run_slice_lh W _ _ _ _ he k k2 (i : Int) (j : Int) (by omega) (by omega) (by omega)]
    have hs : (sizeOf (Try.prog.elem 41)).run Try.prog W = .ok 1 W := by kernel_rfl
    rw [hs]
    simp only [Result.andThen_ok, sliced, Int.toNat_natCast]
    rw [if_neg (by omega)]
    simp
  · rw [hlen]
    exact hl.cut rfl i (j - i) (by omega)
set_option maxRecDepth 100000 in
set_option maxHeartbeats 1000000 in
theorem get_ok (g : Nat) (l : List UInt8) (off n : Nat) (w : World) (ho : off < 4294967296) (hn : n < 4294967296) (h0 : n ≠ 0) (hk : off + n ≤ l.length) (hk2 : l.length ≤ 70368744177664) (hF : FlashAt w g l) :
    Calls Try.prog 28 #[.pointer (some ⟨g, 0, none⟩), .int .u32 (off : Int), .int .u32 (n : Int)] w fun e w' => ∃ E ce, e = .returned (.tuple #[.slice E ((l.drop off).take n).length ce, .int .i64 0]) ∧ Lies w' w'.heap.size 1 E ((l.drop off).take n).length (u8s ((l.drop off).take n)) ∧ Below w.heap.size w w' := by
  obtain ⟨L, hL⟩ : ∃ L, L = (l.drop off).take n := ⟨_, rfl⟩
  rw [← hL]
  have e0 := u32_0 n h0
  have e1 : ¬ (n : Int) = 0 := by omega
  have e2 : ¬ ((l.length : Int)) < (off : Int) + (n : Int) := by omega
  have HL := Lib.hid (len_any g l w hF)
  have HF := Lib.hid hF
  obtain ⟨E, ce, -, -, -⟩ := hF
  have hC : Hid (∀ W, Below w.heap.size w W → ∃ E ce B, W.cell? ⟨g, 0, none⟩ = some (.slice E l.length ce) ∧ (∀ W, (Instr.sliceAt 41 (.slice E l.length ce) (some (.int .u32 (off : Int))) (some (.int .u64 ((off : Int) + (n : Int)))) none).run Try.prog W = .ok (.slice B L.length (ce - off)) W) ∧
      Lies W W.heap.size 1 B L.length (u8s L)) := Lib.hid fun W hW => by
    obtain ⟨E, ce, h1, h2, h3⟩ := HF.out.below hW
    obtain ⟨B, h4, h5⟩ := cut_any E ce l off (off + n) .u32 .u64 (by omega) hk h2 W h3
    rw [Nat.add_sub_cancel_left, ← hL] at h4 h5
    exact ⟨E, ce, B, h1.cellAt 0 rfl, by simpa using h4, h5⟩
  have hln : L.length = n := by rw [hL]; simp; omega
  have HLN := Lib.hid hln
  clear h0 hk hln hL
  go_enter Try.func28, Try.ntmps28
  go_upto_region 6 with (go_at_call 27; refine HL.out.mono ?_; rintro e w1 ⟨rfl, hd⟩; have HD := Lib.hid hd; clear hd)
  obtain ⟨E, ce, B, hc1, hc2, hc3⟩ := hC.out w1 HD.out
  have HC := Lib.hid (cat_one B (ce - off) L w1 hc3 (by rw [HLN.out]; omega))
  clear hc3
  go_wp2_with (go_at_call 53; refine HC.out.mono ?_; rintro e w2 ⟨E2, ce2, rfl, h1, h2, h3, hd⟩; have H := Lib.hid (And.intro h2 hd); clear h1 h2 h3 hd)
  go_ret2
  exact ⟨E2, ce2, rfl, H.out.1, HD.out.trans (H.out.2.mono HD.out.size)⟩
/-- Get, of a flash. -/
theorem get_any (g : Nat) (l : List UInt8) (off n : Nat) (w : World) (ho : off < 4294967296) (hn : n < 4294967296) (hk2 : l.length ≤ 70368744177664) (hF : FlashAt w g l) :
    Calls Try.prog 28 #[.pointer (some ⟨g, 0, none⟩), .int .u32 (off : Int), .int .u32 (n : Int)] w fun e w' => ∃ E ce, e = .returned (.tuple #[.slice E (getL l off n).length ce, .int .i64 (getE l off n : Nat)]) ∧ Lies w' w'.heap.size 1 E (getL l off n).length (u8s (getL l off n)) ∧ Below w.heap.size w w' := by
  unfold getL getE
  by_cases h0 : n = 0
  · subst h0
    refine (get_zero _ off w).mono ?_
    rintro e w' ⟨rfl, hd⟩
    have e1 : (if off + 0 ≤ l.length then (l.drop off).take 0 else []) = [] := by split <;> simp
    rw [e1]
    exact ⟨none, 0, rfl, Lies.nil _ _ _ _, hd⟩
  · by_cases hk : off + n ≤ l.length
    · rw [if_pos hk, if_pos (Or.inr hk)]
      exact get_ok g l off n w ho hn h0 hk hk2 hF
    · rw [if_neg hk, if_neg (by omega)]
      refine (get_no _ l.length off n w ho hn h0 (by omega) hk2 fun W hW => len_any g l W (hF.below hW)).mono ?_
      rintro e w' ⟨rfl, hd⟩
      exact ⟨none, 0, rfl, Lies.nil _ _ _ _, hd⟩
/-- The reference's. -/
theorem rget_any (A : Option Addr) (c : Nat) (l : List UInt8) (off n : Nat) (w : World) (ho : off < 4294967296) (hn : n < 4294967296) (hk2 : l.length ≤ 70368744177664) (hc : l.length ≤ c) (hl : Lies w w.heap.size 1 A l.length (u8s l)) :
    Calls Try.prog 29 #[.slice A l.length c, .int .u32 (off : Int), .int .u32 (n : Int)] w fun e w' => ∃ E ce, e = .returned (.tuple #[.slice E (getL l off n).length ce, .int .i64 (getE l off n : Nat)]) ∧ Lies w' w'.heap.size 1 E (getL l off n).length (u8s (getL l off n)) ∧ Below w.heap.size w w' := by
  unfold getL getE
  by_cases h0 : n = 0
  · subst h0
    have e1 : (if off + 0 ≤ l.length then (l.drop off).take 0 else []) = [] := by split <;> simp
    rw [e1, if_pos (Or.inl rfl)]
    clear e1
    go_enter Try.func29, Try.ntmps29
    go_wp2_with fail
    go_ret2
    exact ⟨none, 0, rfl, Lies.nil _ _ _ _, Below.refl _ _⟩
  · have e0 := u32_0 n h0
    have e1 : ¬ (n : Int) = 0 := by omega
    by_cases hk : off + n ≤ l.length
    · rw [if_pos hk, if_pos (Or.inr hk)]
      have e2 : ¬ ((l.length : Int)) < (off : Int) + (n : Int) := by omega
      obtain ⟨L, hL⟩ : ∃ L, L = (l.drop off).take n := ⟨_, rfl⟩
      rw [← hL]
      obtain ⟨B, h4, h5⟩ := cut_any A c l off (off + n) .u32 .u64 (by omega) hk hc w hl
      rw [Nat.add_sub_cancel_left, ← hL] at h4 h5
      have h4 : ∀ W, (Instr.sliceAt 41 (.slice A l.length c) (some (.int .u32 (off : Int))) (some (.int .u64 ((off : Int) + (n : Int)))) none).run Try.prog W = .ok (.slice B L.length (c - off)) W := by simpa using h4
      have H5 := Lib.hid h5
      clear h5 hl hk h0 hL
      go_enter Try.func29, Try.ntmps29
      go_wp2_with fail
      go_ret2
      exact ⟨B, ⟨_, rfl⟩, H5.out, Below.refl _ _⟩
    · rw [if_neg hk, if_neg (by omega)]
      have e2 : ((l.length : Int)) < (off : Int) + (n : Int) := by omega
      clear hl hk h0
      go_enter Try.func29, Try.ntmps29
      go_wp2_with fail
      go_ret2
      exact ⟨none, 0, rfl, Lies.nil _ _ _ _, Below.refl _ _⟩
end Go.Proofs.Ytbemphfijkcbhaa
