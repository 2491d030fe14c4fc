/- A pool that a law has made: its calls; portreevelaw11.awake: chapter 11's example. -/
import Derived.Test.YtmhhckpdhjnmeaaFl
namespace Go.Proofs.Ytmhhckpdhjnmeaa
open Go.RowKit

/-- The pool at p was made behind w0; b its bounds, L what is free. -/
def MP (w0 w : World) (p : Nat) (b : Sp) (L : List Sp) : Prop := ∃ v, PC w p v b L ∧ Below w0.heap.size w0 w ∧ ∀ k, FpC p v k → w0.heap.size ≤ k
section
variable {w0 w w' : World} {p : Nat} {b : Sp} {L : List Sp}
theorem MP.under (h : MP w0 w p b L) (hb : Below w.heap.size w w') : MP w0 w' p b L := by
  obtain ⟨v, h1, h2, h3⟩ := h
  exact ⟨v, h1.under hb, h2.trans (hb.mono h2.size), h3⟩
theorem MP.below (h : MP w0 w p b L) : Below w0.heap.size w0 w := h.elim fun _ h => h.2.1
theorem MP.lift {w1 : World} (h : MP w1 w p b L) (hb : Below w0.heap.size w0 w1) : MP w0 w p b L := by
  obtain ⟨v, h1, h2, h3⟩ := h
  exact ⟨v, h1, hb.trans (h2.mono hb.size), fun k hk => Nat.le_trans hb.size (h3 k hk)⟩
theorem MP.held (h : MP w0 w p b L) : HeldC (some ⟨p, 0, none⟩) b L w := h.elim fun _ h => HeldC.of h.1
theorem mp_new (s1 s2 : Nat) (hs : fit (s1, s2)) (w : World) :
    Calls Try.prog 9 #[.agg #[.int .u64 (s1 : Int), .int .u64 (s2 : Int)]] w fun e w' => ∃ p, e = .returned (.pointer (some ⟨p, 0, none⟩)) ∧ MP w w' p (fB (s1, s2)) (startL (fB (s1, s2))) :=
  (new_any s1 s2 hs w).mono fun _ _ ⟨p, v, h1, h2, h3, h4⟩ => ⟨p, h1, v, h2, h4, h3⟩
theorem mp_next {v u : Value} {L' : List Sp} {w0 : World} (h2 : Below w0.heap.size w0 w) (h3 : ∀ k, FpC p v k → w0.heap.size ≤ k) (h4 : PC w' p u b L') (h5 : Turn (FpC p v) w w') (h6 : ∀ k, u.ownBlock = some k → v.ownBlock = some k ∨ w.heap.size ≤ k) : MP w0 w' p b L' :=
  ⟨u, h4, h2.trans (h5.below h3 h2.size), fun k hk => by
    rcases hk with rfl | hk
    · exact h3 k (.inl rfl)
    · rcases h6 k hk with h | h
      · exact h3 k (.inr h)
      · exact Nat.le_trans h2.size h⟩
theorem mp_run (h : MP w0 w p b L) (hF : Fr b L) (hl : L.length ≤ 100000) (n : Int) (a : Nat) (ha : a < TT) :
    Calls Try.prog 11 #[.pointer (some ⟨p, 0, none⟩), .int .i64 n, .int .u64 (a : Int)] w fun e w' => e = .returned (.tuple #[.int .u64 (runV L n a : Nat), .int .i64 (runE L n a : Nat)]) ∧ MP w0 w' p b (runL L n a) := by
  obtain ⟨v, h1, h2, h3⟩ := h
  refine (run_any h1 hF hl n a ha).mono ?_
  rintro e w' ⟨u, rfl, h4, h5, h6⟩
  exact ⟨rfl, mp_next h2 h3 h4 h5 h6⟩
theorem mp_alloc (h : MP w0 w p b L) (hF : Fr b L) (hl : L.length ≤ 100000) :
    Calls Try.prog 19 #[.pointer (some ⟨p, 0, none⟩)] w fun e w' => e = .returned (.tuple #[.int .u64 (runV L 1 4096 : Nat), .int .i64 (runE L 1 4096 : Nat)]) ∧ MP w0 w' p b (runL L 1 4096) := by
  obtain ⟨v, h1, h2, h3⟩ := h
  refine (alloc_any h1 hF hl).mono ?_
  rintro e w' ⟨u, rfl, h4, h5, h6⟩
  exact ⟨rfl, mp_next h2 h3 h4 h5 h6⟩
theorem BOk.fit {b : Sp} (h : BOk b) : fit b := ⟨h.bl, h.lt⟩
theorem mp_left (h : MP w0 w p b L) (hF : Fr b L) (hl : L.length ≤ 100000) :
    Calls Try.prog 16 #[.pointer (some ⟨p, 0, none⟩)] w fun e w' => e = .returned (.int .u64 ((bytes L / 4096 : Nat) : Int)) ∧ MP w0 w' p b L :=
  (left_of h.held hl (Nat.lt_of_le_of_lt hF.le hF.fits.lt)).mono fun _ _ ⟨h1, h2⟩ => ⟨h1, h.under h2⟩
theorem mp_used (h : MP w0 w p b L) (hF : Fr b L) (hl : L.length ≤ 100000) :
    Calls Try.prog 15 #[.pointer (some ⟨p, 0, none⟩)] w fun e w' => e = .returned (.int .u64 ((b.2 / 4096 - bytes L / 4096 : Nat) : Int)) ∧ MP w0 w' p b L :=
  (used_of h.held hl hF.le hF.fits.fit).mono fun _ _ ⟨h1, h2⟩ => ⟨h1, h.under h2⟩
theorem mp_has (h : MP w0 w p b L) (hF : Fr b L) (hl : L.length ≤ 100000) (x : Nat) :
    Calls Try.prog 13 #[.pointer (some ⟨p, 0, none⟩), .int .u64 (x : Int)] w fun e w' => e = .returned (.bool (hasC b L x)) ∧ MP w0 w' p b L :=
  (has_of h.held hl hF.fits.fit hF.fit x).mono fun _ _ ⟨h1, h2⟩ => ⟨h1, h.under h2⟩
end
def aB : Sp := (4096, 16384)
def aL0 : List Sp := [(4096, 16384)]
def aL1 : List Sp := [(8192, 12288)]
def aL2 : List Sp := [(16384, 4096)]
theorem aw_b : fB (4096, 16384) = aB ∧ startL aB = aL0 := by decide
theorem aw_1 : runV aL0 1 4096 = 4096 ∧ runL aL0 1 4096 = aL1 := by decide +kernel
theorem aw_2 : runV aL1 2 8192 = 8192 ∧ runL aL1 2 8192 = aL2 := by decide +kernel
theorem aw_3 : runV aL2 1 4096 = 16384 ∧ runL aL2 1 4096 = [] := by decide +kernel
theorem aw_4 : runE [] 1 4096 = 110 := by decide +kernel
theorem aw_f : Fr aB aL0 := by
  have := Fr.start (b := aB) ⟨by decide, by decide, by decide, by decide, by decide⟩
  rw [aw_b.2] at this
  exact this
set_option maxRecDepth 100000 in
set_option maxHeartbeats 1000000 in
theorem awake_any (w : World) : Calls Try.prog 7 #[] w fun e w' => e = .returned (.bool true) ∧ Below w.heap.size w w' := by
  have f0 := aw_f
  have f1 := f0.run 1 4096
  rw [aw_1.2] at f1
  have f2 := f1.run 2 8192
  rw [aw_2.2] at f2
  have f3 := f2.run 1 4096
  rw [aw_3.2] at f3
  have HN : Hid (∀ X, Calls Try.prog 9 #[.agg #[.int .u64 4096, .int .u64 16384]] X fun e w' => ∃ p, e = .returned (.pointer (some ⟨p, 0, none⟩)) ∧ MP X w' p aB aL0) := Lib.hid fun X => by
    have := mp_new 4096 16384 (by decide) X
    rw [aw_b.1, aw_b.2] at this
    exact this
  have H1 : Hid (∀ X p, MP w X p aB aL0 → Calls Try.prog 19 #[.pointer (some ⟨p, 0, none⟩)] X fun e w' => ∃ y : Int, e = .returned (.tuple #[.int .u64 4096, .int .i64 y]) ∧ MP w w' p aB aL1) := Lib.hid fun X p h => by
    have := mp_alloc h f0 (by decide)
    rw [aw_1.1, aw_1.2] at this
    exact this.mono fun _ _ ⟨h1, h2⟩ => ⟨_, h1, h2⟩
  have H2 : Hid (∀ X p, MP w X p aB aL1 → Calls Try.prog 11 #[.pointer (some ⟨p, 0, none⟩), .int .i64 2, .int .u64 8192] X fun e w' => ∃ y : Int, e = .returned (.tuple #[.int .u64 8192, .int .i64 y]) ∧ MP w w' p aB aL2) := Lib.hid fun X p h => by
    have := mp_run h f1 (by decide) 2 8192 (by decide)
    rw [aw_2.1, aw_2.2] at this
    exact this.mono fun _ _ ⟨h1, h2⟩ => ⟨_, h1, h2⟩
  have H3 : Hid (∀ X p, MP w X p aB aL2 → Calls Try.prog 19 #[.pointer (some ⟨p, 0, none⟩)] X fun e w' => ∃ y : Int, e = .returned (.tuple #[.int .u64 16384, .int .i64 y]) ∧ MP w w' p aB []) := Lib.hid fun X p h => by
    have := mp_alloc h f2 (by decide)
    rw [aw_3.1, aw_3.2] at this
    exact this.mono fun _ _ ⟨h1, h2⟩ => ⟨_, h1, h2⟩
  have H4 : Hid (∀ X p, MP w X p aB [] → Calls Try.prog 19 #[.pointer (some ⟨p, 0, none⟩)] X fun e w' => ∃ y : Int, e = .returned (.tuple #[.int .u64 y, .int .i64 110]) ∧ Below w.heap.size w w') := Lib.hid fun X p h => by
    have := mp_alloc h f3 (by decide)
    rw [aw_4] at this
    exact this.mono fun _ _ ⟨h1, h2⟩ => ⟨_, h1, h2.below⟩
  clear f0 f1 f2 f3
  go_enter Try.func7, Try.ntmps7
  go_wp2_with (first
    | (go_at_call 9; refine (HN.out _).mono ?_; rintro e w1 ⟨p, rfl, hp⟩; have M0 := Lib.hid hp; clear hp)
    | (go_at_call 11; refine (H2.out _ _ M1.out).mono ?_; rintro e w3 ⟨y2, rfl, hp⟩; have M2 := Lib.hid hp; clear hp)
    | (go_at_call 19; refine (H4.out _ _ M3.out).mono ?_; rintro e w5 ⟨y4, rfl, hp⟩; have M4 := Lib.hid hp; clear hp)
    | (go_at_call 19; refine (H3.out _ _ M2.out).mono ?_; rintro e w4 ⟨y3, rfl, hp⟩; have M3 := Lib.hid hp; clear hp)
    | (go_at_call 19; refine (H1.out _ _ M0.out).mono ?_; rintro e w2 ⟨y1, rfl, hp⟩; have M1 := Lib.hid hp; clear hp))
  go_ret
  exact ⟨rfl, M4.out⟩
end Go.Proofs.Ytmhhckpdhjnmeaa
