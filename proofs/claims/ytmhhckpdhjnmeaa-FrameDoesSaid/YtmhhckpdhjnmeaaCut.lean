/- span.Merge, Cut, Covers. -/
import Derived.Test.YtmhhckpdhjnmeaaRuns
import Derived.Test.YtmhhckpdhjnmeaaAsk
import Derived.Test.YtmhhckpdhjnmeaaTwoC
import Derived.Laws.EntriesVeiled
namespace Go.Proofs.Ytmhhckpdhjnmeaa
open Go.RowKit
attribute [local go_sem ↓ high] builtin_appS

set_option maxHeartbeats 1000000 in
theorem merge_any (M : Nat) (hsort : SortsAt M) (A : Option Addr) (cap : Nat) (l : List Sp) (hl : ∀ x ∈ l, fit x) (hlen : l.length ≤ 100000) (hM : (allB l).length ≤ M) (w : World) (hR : Row w w.heap.size A l) :
    Calls Try.prog 21 #[.slice A l.length cap] w fun e w' => ∃ v, e = .returned v ∧ OwnS w' w.heap.size v (mergeS l) ∧ Below w.heap.size w w' := by
  have egc : ∀ args w, (callFunc 48 args).run Try.prog w = .ok (.enter 48 args) w := enters_of Try.func48 (by kernel_rfl) rfl
  have Hc := Lib.hid (covered_any A cap l hl hlen w hR)
  have Hr := Lib.hid (show ∀ (w1 : World) (r : List Sp) (bB bR : Nat), Rising (l.filter good) r → CovAt w1 r bB bR → Below w.heap.size w w1 →
      Calls Try.prog 36 #[.func (.func 48) #[] #[.pointer (some ⟨bB, 0, none⟩), .pointer (some ⟨bR, 0, none⟩)], .slice A l.length cap] w1 fun e w' => ∃ v, e = .returned v ∧ OwnS w' w.heap.size v (mergeS l) ∧ Below w.heap.size w w' from fun w1 r bB bR hri hcov hb => by
    refine (runs_any M hsort 48 #[.pointer (some ⟨bB, 0, none⟩), .pointer (some ⟨bR, 0, none⟩)] egc (inn l) A cap l hl hlen hM w1 ((hR.below hb).wide hb.size)
      (fun p _ W' hW => ask_any l r hri (by have := rising_len hri; omega) p bB bR W' (hcov.below hW))).mono ?_
    rintro e w' ⟨v, bs, rfl, hbo, ho, hbw⟩
    rw [merge_eq hl hbo] at ho
    exact ⟨v, rfl, ho.low hb.size, hb.trans (hbw.mono hb.size)⟩)
  clear hsort hl hlen hM hR egc
  go_enter Try.func21, Try.ntmps21
  go_wp2_with (first
    | (go_at_call 37; refine Hc.out.mono ?_; rintro e w1 ⟨r, bB, bR, hri, rfl, hcov, hb⟩; have HR := Lib.hid (Hr.out w1 r bB bR hri hcov hb); clear hri hcov hb)
    | (go_at_call 36; refine HR.out.mono ?_; rintro e w2 ⟨v, rfl, ho, hb⟩))
  go_ret
  exact ⟨v, rfl, ho, hb⟩

/-- Cut's own function value, where its boxes hold the span and what covered answered. -/
def CutAt (W : World) (s : Sp) (r : List Sp) (bS bC bB bR : Nat) : Prop :=
  Boxed2 W bS s ∧ Boxed W bC 43 (.func (.func 48) #[] #[.pointer (some ⟨bB, 0, none⟩), .pointer (some ⟨bR, 0, none⟩)]) ∧ CovAt W r bB bR
theorem CutAt.below {W W' : World} {s : Sp} {r : List Sp} {bS bC bB bR : Nat} (h : CutAt W s r bS bC bB bR) (hb : Below W.heap.size W W') : CutAt W' s r bS bC bB bR :=
  ⟨(hb.block _ (Array.getElem?_eq_some_iff.1 h.1).1).trans h.1, (hb.block _ h.2.1.lt).trans h.2.1, h.2.2.below hb⟩
set_option maxHeartbeats 1000000 in
theorem cutAsk_any (a b : Nat) (hx : fit (a, b)) (l r : List Sp) (hr : Rising (l.filter good) r) (hn : r.length ≤ 1000000) (p bS bC bB bR : Nat) (W : World) (h : CutAt W (a, b) r bS bC bB bR) :
    Calls Try.prog 56 #[.int .u64 (p : Int), .pointer (some ⟨bS, 0, none⟩), .pointer (some ⟨bC, 0, none⟩)] W fun e w' => e = .returned (.bool (leftS (a, b) l p)) ∧ Below W.heap.size W w' := by
  have c0 := h.1.cell0
  have c1 := h.1.cell1
  have Hh := Lib.hid (has_any a b p hx W)
  have Nx := Lib.hid (show ∀ w1, Below W.heap.size W w1 → w1.cell? ⟨bC, 0, none⟩ = some (.func (.func 48) #[] #[.pointer (some ⟨bB, 0, none⟩), .pointer (some ⟨bR, 0, none⟩)]) ∧
      Calls Try.prog 48 #[.int .u64 (p : Int), .pointer (some ⟨bB, 0, none⟩), .pointer (some ⟨bR, 0, none⟩)] w1 fun e w' => e = .returned (.bool (inn l p)) ∧ Below W.heap.size W w' from fun w1 hb => by
    have h1 := h.below hb
    exact ⟨h1.2.1.cell, (ask_any l r hr hn p bB bR w1 h1.2.2).mono fun e w' ⟨he, hw⟩ => ⟨he, hb.trans (hw.mono hb.size)⟩⟩)
  have hls : leftS (a, b) l p = (has (a, b) p && !inn l p) := rfl
  rw [hls]
  clear h hr hn hls hx
  cases hh : has (a, b) p <;> rw [hh] at Hh
  · rw [Bool.false_and]
    go_enter Try.func56, Try.ntmps56
    go_wp2_with (go_at_call 31; refine Hh.out.mono ?_; rintro e w1 ⟨rfl, hb⟩; have Hb := Lib.hid hb; clear hb)
    go_ret
    exact ⟨rfl, Hb.out⟩
  · rw [Bool.true_and]
    generalize inn l p = z at Nx ⊢
    go_enter Try.func56, Try.ntmps56
    go_wp2_with (first
      | (go_at_call 31; refine Hh.out.mono ?_; rintro e w1 ⟨rfl, hb⟩; obtain ⟨k1, k2⟩ := Nx.out w1 hb; have K2 := Lib.hid k2; clear hb k2)
      | (go_at_call 48; refine K2.out.mono ?_; rintro e w2 ⟨rfl, hb⟩; have Hb := Lib.hid hb; clear hb))
    go_ret
    exact ⟨rfl, Hb.out⟩

/-- An append of a row that was there, as an equation. -/
theorem app3_run (w : World) (base B : Nat) (v : Value) (l m : List Sp) (A : Option Addr) (c : Nat) (hm : Row w B A m) (hown : OwnS w base v l) (hb : base ≤ w.heap.size) (hk : l.length + m.length ≤ 1000000) (ty : TypeId) :
    ∃ v' w', (appS #[46, 46] ty #[v, .slice A m.length c]).run Try.prog w = .ok v' w' ∧ OwnS w' base v' (l ++ m) ∧ w.grownBy w' v.ownBlock := by
  obtain ⟨i0, hi, hz0, hz1, hz2⟩ := info_parts infoS
  have hun := Try.underlying46
  rcases A with _ | a
  · obtain rfl : m = [] := by
      rcases m with _ | ⟨x, r⟩
      · rfl
      · obtain ⟨_, h, _⟩ := hm (by simp)
        cases h
    refine ⟨v, w, ?_, by simpa using hown, World.grownBy.refl _ _⟩
    show (Builtin.append_ #[46, 46] ty #[v, .slice none ([] : List Sp).length c]).run Try.prog w = .ok v w
    rcases hown.2 with ⟨rfl, _⟩ | ⟨g, cap, cur, rfl, _, _, hle, _⟩
    · simp [Builtin.append_, Builtin.lenOf, Builtin.firstCells, run_underlying hun, sizeOf, typeInfo, hi]
    · simp [Builtin.append_, Builtin.lenOf, Builtin.firstCells, run_underlying hun, sizeOf, typeInfo, hi, hle, storeCells]
  · have hnews : ∀ j u, (cells2 m)[j]? = some u → w.cell? (a.add j) = some u := by
      intro j u hu
      have hj : j < m.length * 2 := by
        have := (List.getElem?_eq_some_iff.1 hu).1
        rwa [cells2_length] at this
      obtain ⟨a', h, _, hc⟩ := hm (fun e => by rw [e] at hj; simp at hj)
      obtain rfl := Option.some.inj h
      have g := cells2_get m (j / 2) (by omega)
      have hcj := hc (j / 2) (by omega)
      rcases Nat.mod_two_eq_zero_or_one j with h | h
      · have e3 : j / 2 * 2 = j := by omega
        rw [e3] at g hcj
        rw [hcj.1]
        exact g.1.symm.trans hu
      · have e3 : j / 2 * 2 + 1 = j := by omega
        rw [e3] at g hcj
        rw [hcj.2]
        exact g.2.symm.trans hu
    obtain ⟨v', w', h1, h2, h3, _, _⟩ := run_append_own_at (P := Try.prog) w base 46 ty 24 i0 (.agg #[.int .u64 0, .int .u64 0]) 2 16 hun hi hz0 hz1 hz2 rfl (by decide) v l.length (cells2 l) hown a m.length c (cells2 m) (cells2_length _) hnews (cells2_one _) (by unfold maxLen; omega) (by omega) hb
    exact ⟨v', w', h1, by unfold OwnS; rw [cells2_append, List.length_append]; exact h2, h3⟩

set_option maxRecDepth 100000 in
set_option maxHeartbeats 1000000 in
theorem cut_any (M : Nat) (hsort : SortsAt M) (a b : Nat) (hx : fit (a, b)) (A : Option Addr) (cap : Nat) (l : List Sp) (hl : ∀ x ∈ l, fit x) (hlen : l.length < 100000) (hM : (allB ((a, b) :: l)).length ≤ M) (w : World) (hR : Row w w.heap.size A l) :
    Calls Try.prog 40 #[.agg #[.int .u64 (a : Int), .int .u64 (b : Int)], .slice A l.length cap] w fun e w' => ∃ v, e = .returned v ∧ OwnS w' w.heap.size v (cutS (a, b) l) ∧ Below w.heap.size w w' := by
  have egk : ∀ args w, (callFunc 56 args).run Try.prog w = .ok (.enter 56 args) w := enters_of Try.func56 (by kernel_rfl) rfl
  obtain ⟨W0, hW0⟩ : ∃ W0, W0 = w.alloc (spo a b) := ⟨_, rfl⟩
  have hs0 : W0.heap.size = w.heap.size + 1 := by rw [hW0]; simp
  have hb0 : Below w.heap.size w W0 := by rw [hW0]; exact (Below.refl _ _).alloc (Nat.le_refl _) _
  have hx0 : Boxed2 W0 w.heap.size (a, b) := by rw [hW0]; exact World.alloc_heap_new w _
  have Hc := Lib.hid (covered_any A cap l hl (by omega) W0 ((hR.below hb0).wide (by omega)))
  -- behind covered: the box for its answer, the joined row, the runs
  have Hk := Lib.hid (show ∀ (w1 : World) (r : List Sp) (bB bR : Nat), Rising (l.filter good) r → CovAt w1 r bB bR → Below W0.heap.size W0 w1 →
      ∃ v w3, (w1.alloc (.cells #[.func (.func 48) #[] #[.pointer (some ⟨bB, 0, none⟩), .pointer (some ⟨bR, 0, none⟩)]] 43)).cell? ⟨w.heap.size, 0, none⟩ = some (.int .u64 (a : Int)) ∧
        (w1.alloc (.cells #[.func (.func 48) #[] #[.pointer (some ⟨bB, 0, none⟩), .pointer (some ⟨bR, 0, none⟩)]] 43)).cell? ⟨w.heap.size, 1, none⟩ = some (.int .u64 (b : Int)) ∧
        (appS #[46, 46] 46 #[.slice (some ⟨w1.heap.size + 1, 0, none⟩) 1 1, .slice A l.length cap]).run Try.prog ((w1.alloc (.cells #[.func (.func 48) #[] #[.pointer (some ⟨bB, 0, none⟩), .pointer (some ⟨bR, 0, none⟩)]] 43)).alloc (.cells #[.int .u64 (a : Int), .int .u64 (b : Int)] 24)) = .ok v w3 ∧
        Calls Try.prog 36 #[.func (.func 56) #[] #[.pointer (some ⟨w.heap.size, 0, none⟩), .pointer (some ⟨w1.heap.size, 0, none⟩)], v] w3 fun e w' => ∃ v, e = .returned v ∧ OwnS w' w.heap.size v (cutS (a, b) l) ∧ Below w.heap.size w w' from fun w1 r bB bR hri hcov hb => by
    obtain ⟨w2, hw2⟩ : ∃ w2, w2 = w1.alloc (.cells #[.func (.func 48) #[] #[.pointer (some ⟨bB, 0, none⟩), .pointer (some ⟨bR, 0, none⟩)]] 43) := ⟨_, rfl⟩
    have hb2 : Below w1.heap.size w1 w2 := by rw [hw2]; exact (Below.refl _ _).alloc (Nat.le_refl _) _
    have hs2 : w2.heap.size = w1.heap.size + 1 := by rw [hw2]; simp
    have hc2 : Boxed w2 w1.heap.size 43 (.func (.func 48) #[] #[.pointer (some ⟨bB, 0, none⟩), .pointer (some ⟨bR, 0, none⟩)]) := by rw [hw2]; exact Boxed.new w1 _ _
    have hx1 : Boxed2 w1 w.heap.size (a, b) := (hb.block _ (by omega)).trans hx0
    have hx2 : Boxed2 w2 w.heap.size (a, b) := (hb2.block _ (by have := hb.size; omega)).trans hx1
    have hcut2 : CutAt w2 (a, b) r w.heap.size w1.heap.size bB bR := ⟨hx2, hc2, hcov.below hb2⟩
    have hb02 : Below w.heap.size w w2 := hb0.trans ((hb.mono hb0.size).trans (hb2.mono (Nat.le_trans hb0.size hb.size)))
    have hR2 : Row w2 w2.heap.size A l := (hR.below hb02).wide hb02.size
    have hlit : OwnS (w2.alloc (.cells #[.int .u64 (a : Int), .int .u64 (b : Int)] 24)) w2.heap.size (.slice (some ⟨w2.heap.size, 0, none⟩) 1 1) [(a, b)] :=
      ⟨rfl, .inr ⟨w2.heap.size, 1, _, rfl, Nat.le_refl _, World.alloc_heap_new w2 _, Nat.le_refl _, by unfold maxLen; omega, rfl, rfl⟩⟩
    have hR3 := hR2.alloc (Nat.le_refl _) (.cells #[.int .u64 (a : Int), .int .u64 (b : Int)] 24)
    obtain ⟨v, w3, e1, e2, e3⟩ := app3_run _ w2.heap.size w2.heap.size (.slice (some ⟨w2.heap.size, 0, none⟩) 1 1) [(a, b)] l A cap hR3 hlit (by simp) (by simp; omega) 46
    rw [hs2] at e1
    rw [← hw2]
    refine ⟨v, w3, hx2.cell0, hx2.cell1, e1, ?_⟩
    have hb3 : Below w2.heap.size w2 w3 := ((Below.refl _ w2).alloc (Nat.le_refl _) _).grown e3 (by simp) (fun k hk => by simp [Value.ownBlock] at hk; omega)
    obtain ⟨A3, c3, rfl, hrow3⟩ := e2.row
    have hcut3 := hcut2.below hb3
    have hfull : ∀ x ∈ [(a, b)] ++ l, fit x := by
      intro x hx'
      rcases List.mem_cons.1 hx' with h | h
      · exact h ▸ hx
      · exact hl x h
    refine (runs_any M hsort 56 #[.pointer (some ⟨w.heap.size, 0, none⟩), .pointer (some ⟨w1.heap.size, 0, none⟩)] egk (leftS (a, b) l) A3 c3 ([(a, b)] ++ l) hfull (by simp; omega) hM w3 hrow3
      (fun p _ W' hW => cutAsk_any a b hx l r hri (by have := rising_len hri; omega) p _ _ bB bR W' (hcut3.below hW))).mono ?_
    rintro e w' ⟨v, bs, rfl, hbo, ho, hbw⟩
    rw [cut_eq' hx hl hbo] at ho
    have hb03 : Below w.heap.size w w3 := hb02.trans (hb3.mono hb02.size)
    exact ⟨v, rfl, ho.low hb03.size, hb03.trans (hbw.mono hb03.size)⟩)
  clear hsort hl hlen hM hR egk hs0 hb0 hx0 hx
  subst hW0
  go_enter Try.func40, Try.ntmps40
  go_wp2_with (first
    | (go_at_call 37; refine Hc.out.mono ?_; rintro e w1 ⟨r, bB, bR, hri, rfl, hcov, hb⟩; obtain ⟨v3, w3, q1, q2, q3, q4⟩ := Hk.out w1 r bB bR hri hcov hb; have Q4 := Lib.hid q4; clear hri hcov hb q4)
    | (go_at_call 36; refine Q4.out.mono ?_; rintro e w2 ⟨v, rfl, ho, hb⟩))
  go_ret
  exact ⟨v, rfl, ho, hb⟩
end Go.Proofs.Ytmhhckpdhjnmeaa
