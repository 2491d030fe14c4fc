/- mach.Mem: Word, Put. -/
import Derived.Test.YtbemphfijkcbhaaMem9
import Derived.Test.YtbemphfijkcbhaaWn
namespace Go.Proofs.Ytbemphfijkcbhaa
open Go.RowKit

theorem aligned8 (a : Nat) (ha : a < 18446744073709551616) (w : World) :
    Calls Try.prog 50 #[.int .u64 8, .slice (some ⟨w.heap.size, 0, none⟩) 1 1] (w.alloc (.cells #[.int .u64 (a : Int)] 22)) fun e w' => e = .returned (.bool (decide (a % 8 = 0))) ∧ w' = w.alloc (.cells #[.int .u64 (a : Int)] 22) := by
  have h := aligned_pos 8 (by decide) [a] (fun x hx => by simp only [List.mem_singleton] at hx; subst hx; exact ha) (some ⟨w.heap.size, 0, none⟩) 1 (w.heap.size + 1) (w.alloc (.cells #[.int .u64 (a : Int)] 22)) (by simp [maxLen]) (lies_new w _ _ 1 _ rfl rfl)
  have e : alignedB 8 [a] = decide (a % 8 = 0) := by simp [alignedB]
  rw [e] at h
  exact h.mono fun e w' ⟨h1, h2⟩ => ⟨h1, h2.symm⟩
/-- What the access of a word is told. -/
def wordE (r : Sp) (a : Nat) : Nat := if a % 8 = 0 then askR r a 8 else 90
def wordV (r : Sp) (m : Bytes8) (a : Nat) : Nat := if wordE r a = 0 then numOf (rdM m a 8) 0 8 true else 0
theorem wordE_no {r : Sp} {a : Nat} (h : ¬ a % 8 = 0) : wordE r a = 90 := if_neg h
theorem wordE_yes {r : Sp} {a : Nat} (h : a % 8 = 0) : wordE r a = askR r a 8 := if_pos h
set_option maxRecDepth 100000 in
set_option maxHeartbeats 1000000 in
theorem mword_no (v : Value) (r : Sp) (a : Nat) (w : World) (hr : fit r) (ha : a < 18446744073709551616) (hsp : SpaceAt w v r) (hq : wordE r a ≠ 0) :
    Calls Try.prog 25 #[v, .int .u64 (a : Int)] w fun e w' => e = .returned (.tuple #[.int .u64 0, .int .i64 (wordE r a : Nat)]) ∧ Below w.heap.size w w' := by
  have HA := Lib.hid (aligned8 a ha w)
  have hb : Below w.heap.size w (w.alloc (.cells #[.int .u64 (a : Int)] 22)) := (Below.refl _ _).alloc (Nat.le_refl _) _
  by_cases h8 : a % 8 = 0
  · rw [decide_eq_true h8] at HA
    rw [wordE_yes h8] at hq ⊢
    have hs : fit (a, 8) := ⟨ha, by simp only; omega⟩
    have hrd := mread_no v r a 8 (w.alloc (.cells #[.int .u64 (a : Int)] 22)) hr hs (fun W hW => hsp W (hb.trans (hW.mono (by simp)))) hq
    have hlt := ask_lt r a 8
    obtain ⟨q, hq0⟩ : ∃ q, q = askR r a 8 := ⟨_, rfl⟩
    rw [← hq0] at hq hlt hrd ⊢
    have h1 : ((q : Int) != 0) = true := by simp; omega
    have h2 : ¬ (q : Int) = 0 := by omega
    have HRD := Lib.hid hrd
    have HB := Lib.hid hb
    clear hsp hr hs hq0 hrd hb
    go_enter Try.func25, Try.ntmps25
    go_wp2_with (first
      | (go_at_call 50; refine HA.out.mono ?_; rintro e w1 ⟨rfl, rfl⟩)
      | (go_at_call 20; refine HRD.out.mono ?_; rintro e w2 ⟨rfl, hd⟩; have HD := Lib.hid hd; clear hd))
    go_ret2
    exact ⟨rfl, HB.out.trans (HD.out.mono HB.out.size)⟩
  · rw [decide_eq_false h8] at HA
    rw [wordE_no h8]
    have HB := Lib.hid hb
    clear hsp hr hq hb
    go_enter Try.func25, Try.ntmps25
    go_wp2_with (go_at_call 50; refine HA.out.mono ?_; rintro e w1 ⟨rfl, rfl⟩)
    go_ret2
    exact ⟨rfl, HB.out⟩
set_option maxRecDepth 100000 in
set_option maxHeartbeats 1000000 in
theorem mword_any {w : World} {G : Nat → Prop} {p b n : Nat} {ram : Sp} {D : DataW Unit} {m : Bytes8} (hM : MC w G p b ram n D m) (a : Nat) (ha : a < 18446744073709551616) :
    Calls Try.prog 25 #[.pointer (some ⟨p, 0, none⟩), .int .u64 (a : Int)] w fun e w' => e = .returned (.tuple #[.int .u64 (wordV ram m a : Nat), .int .i64 (wordE ram a : Nat)]) ∧ Below w.heap.size w w' := by
  by_cases hq : wordE ram a = 0
  · have h8 : a % 8 = 0 := Classical.byContradiction fun h => by rw [wordE_no h] at hq; cases hq
    have HA := Lib.hid (aligned8 a ha w)
    rw [decide_eq_true h8] at HA
    have hv : wordV ram m a = numOf (rdM m a 8) 0 8 true := if_pos hq
    rw [hv, hq]
    rw [wordE_yes h8] at hq
    have hb : Below w.heap.size w (w.alloc (.cells #[.int .u64 (a : Int)] 22)) := (Below.refl _ _).alloc (Nat.le_refl _) _
    have hs : fit (a, 8) := ⟨ha, by simp only; omega⟩
    obtain ⟨y, hy⟩ : ∃ y, y = numOf (rdM m a 8) 0 8 true := ⟨_, rfl⟩
    have HRD := Lib.hid (mread_ok (hM.under hb) a 8 hs hq)
    have HLE : Hid (∀ g W, Arr W g 5 8 (bys fun j => m (a + j)) → Calls Try.prog 52 #[.slice (some ⟨g, 0, none⟩) 8 8, .int .i64 0] W fun e w' => e = .returned (.tuple #[.int .u64 (y : Int), .bool true]) ∧ ∃ n, w' = W.drewN n) := Lib.hid fun g W hA => by
      have hl := arr_lies hA
      have hn : (rdM m a 8).length = 8 := rdM_length m a 8
      have := le64_any (rdM m a 8) (some ⟨g, 0, none⟩) 8 _ 0 W (by rw [hn]; decide) hl
      rw [hn, ← hy] at this
      exact this
    have HB := Lib.hid hb
    rw [← hy]
    clear hM hq h8 hv hb hs hy
    go_enter Try.func25, Try.ntmps25
    go_wp2_with (first
      | (go_at_call 50; refine HA.out.mono ?_; rintro e w1 ⟨rfl, rfl⟩)
      | (go_at_call 20; refine HRD.out.mono ?_; rintro e w2 ⟨g, rfl, hg, hA, hd⟩; have HD := Lib.hid hd; have HL := Lib.hid (HLE.out g w2 hA); clear hd hA hg)
      | (go_at_call 52; refine HL.out.mono ?_; rintro e w3 ⟨rfl, hn⟩; have HW3 := Lib.hid hn; clear hn))
    go_ret2
    obtain ⟨k, rfl⟩ := HW3.out
    exact ⟨rfl, HB.out.trans ((below_drewN HD.out k).mono HB.out.size)⟩
  · have hv : wordV ram m a = 0 := if_neg hq
    rw [hv]
    exact mword_no _ ram a w hM.ok.fit ha (fun W hW => hM.space W hW) hq
/-- The eight bytes of a word. -/
def pwL (v : Nat) : List UInt8 := putAll 1 8 [v]
theorem pwL_length (v : Nat) : (pwL v).length = 8 := by unfold pwL; rw [putAll_length]; rfl
theorem put8 (v : Nat) (hv : v < 18446744073709551616) (w : World) (g : Nat) (hg : g = w.heap.size) :
    Calls Try.prog 51 #[.slice none 0 0, .slice (some ⟨g, 0, none⟩) 1 1] (w.alloc (.cells #[.int .u64 (v : Int)] 22)) fun e w' => ∃ A c, e = .returned (.slice A 8 c) ∧ 8 ≤ c ∧ (∀ q, A = some q → w.heap.size ≤ q.block) ∧ Lies w' w'.heap.size 1 A 8 (u8s (pwL v)) ∧ Below w.heap.size w w' := by
  subst hg
  have hb : Below w.heap.size w (w.alloc (.cells #[.int .u64 (v : Int)] 22)) := (Below.refl _ _).alloc (Nat.le_refl _) _
  have h := putLe64_any [] [v] (fun n hn => by simp only [List.mem_singleton] at hn; subst hn; exact hv) none (some ⟨w.heap.size, 0, none⟩) 0 1 (w.heap.size + 1) (w.alloc (.cells #[.int .u64 (v : Int)] 22)) (by simp) (Lies.nil _ _ _ _) (lies_new w _ _ 1 _ rfl rfl) (by simp)
  refine h.mono ?_
  rintro e w' ⟨u, rfl, h1, h2⟩
  have hn : ([] ++ putAll 1 8 [v]).length = 8 := pwL_length v
  rw [hn] at h1
  obtain ⟨A, c, rfl, h3, h4, h5⟩ := owns_cap h1
  have hsz : (w.alloc (.cells #[.int .u64 (v : Int)] 22)).heap.size = w.heap.size + 1 := by simp
  exact ⟨A, c, rfl, h3, fun q e => by have := h4 q e; omega, h5, hb.trans (h2.mono (by omega))⟩
set_option maxRecDepth 100000 in
set_option maxHeartbeats 1000000 in
theorem mput_no (v : Value) (r : Sp) (a x : Nat) (w : World) (hr : fit r) (ha : a < 18446744073709551616) (hx : x < 18446744073709551616) (hsp : SpaceAt w v r) (hq : wordE r a ≠ 0) :
    Calls Try.prog 23 #[v, .int .u64 (a : Int), .int .u64 (x : Int)] w fun e w' => e = .returned (.int .i64 (wordE r a : Nat)) ∧ Below w.heap.size w w' := by
  have HA := Lib.hid (aligned8 a ha w)
  have hb : Below w.heap.size w (w.alloc (.cells #[.int .u64 (a : Int)] 22)) := (Below.refl _ _).alloc (Nat.le_refl _) _
  by_cases h8 : a % 8 = 0
  · rw [decide_eq_true h8] at HA
    rw [wordE_yes h8] at hq ⊢
    have HP := Lib.hid (put8 x hx (w.alloc (.cells #[.int .u64 (a : Int)] 22)) (w.heap.size + 1) (by simp))
    have HWR : Hid (∀ W A c, Below w.heap.size w W → Calls Try.prog 21 #[v, .int .u64 (a : Int), .slice A 8 c] W fun e w' => e = .returned (.int .i64 (askR r a 8 : Nat)) ∧ Below W.heap.size W w') := Lib.hid fun W A c hW => by
      have := mwrite_no v r a (pwL x) A c W hr ha (by rw [pwL_length]; decide) (fun Y hY => hsp Y (hW.trans (hY.mono hW.size))) (by rw [pwL_length]; exact hq)
      rw [pwL_length] at this
      exact this
    obtain ⟨q, hq0⟩ : ∃ q, q = askR r a 8 := ⟨_, rfl⟩
    rw [← hq0] at HWR ⊢
    have HB := Lib.hid hb
    clear hsp hr hq0 hb hq
    go_enter Try.func23, Try.ntmps23
    go_wp2_with (first
      | (go_at_call 50; refine HA.out.mono ?_; rintro e w1 ⟨rfl, rfl⟩)
      | (go_at_call 51; refine HP.out.mono ?_; rintro e w2 ⟨A, c, rfl, h3, h4, h5, hd⟩; have HD := Lib.hid (HB.out.trans (hd.mono HB.out.size)); clear h3 h4 h5 hd)
      | (go_at_call 21; refine (HWR.out _ _ _ HD.out).mono ?_; rintro e w3 ⟨rfl, hd⟩; have HD3 := Lib.hid (HD.out.trans (hd.mono HD.out.size)); clear hd))
    go_ret
    exact ⟨rfl, HD3.out⟩
  · rw [decide_eq_false h8] at HA
    rw [wordE_no h8]
    have HB := Lib.hid hb
    clear hsp hr hq hb
    go_enter Try.func23, Try.ntmps23
    go_wp2_with (go_at_call 50; refine HA.out.mono ?_; rintro e w1 ⟨rfl, rfl⟩)
    go_ret
    exact ⟨rfl, HB.out⟩
def wrW (r : Sp) (m : Bytes8) (a x : Nat) : Bytes8 := if wordE r a = 0 then wrM m a (pwL x) else m
set_option maxRecDepth 100000 in
set_option maxHeartbeats 1000000 in
theorem mput_any {w : World} {G : Nat → Prop} {p b n : Nat} {ram : Sp} {D : DataW Unit} {m : Bytes8} (hM : MC w G p b ram n D m) (hn : n + 300 < maxLen) (a x : Nat) (ha : a < 18446744073709551616) (hx : x < 18446744073709551616) :
    Calls Try.prog 23 #[.pointer (some ⟨p, 0, none⟩), .int .u64 (a : Int), .int .u64 (x : Int)] w fun e w' => e = .returned (.int .i64 (wordE ram a : Nat)) ∧
      ∃ G' D', MC w' G' p b ram (n + 300) D' (wrW ram m a x) ∧ Turn G w w' ∧ ∀ i, G' i → G i ∨ w.heap.size ≤ i := by
  by_cases hq : wordE ram a = 0
  · have h8 : a % 8 = 0 := Classical.byContradiction fun h => by rw [wordE_no h] at hq; cases hq
    have HA := Lib.hid (aligned8 a ha w)
    rw [decide_eq_true h8] at HA
    have hv : wrW ram m a x = wrM m a (pwL x) := if_pos hq
    rw [hv, hq]
    rw [wordE_yes h8] at hq
    have hb : Below w.heap.size w (w.alloc (.cells #[.int .u64 (a : Int)] 22)) := (Below.refl _ _).alloc (Nat.le_refl _) _
    have HP := Lib.hid (put8 x hx (w.alloc (.cells #[.int .u64 (a : Int)] 22)) (w.heap.size + 1) (by simp))
    have HWR : Hid (∀ W A c, Below w.heap.size w W → 8 ≤ c → (∀ q, A = some q → w.heap.size ≤ q.block) → Lies W W.heap.size 1 A 8 (u8s (pwL x)) → Calls Try.prog 21 #[.pointer (some ⟨p, 0, none⟩), .int .u64 (a : Int), .slice A 8 c] W fun e w' => e = .returned (.int .i64 0) ∧
        ∃ G' D', MC w' G' p b ram (n + 300) D' (wrM m a (pwL x)) ∧ Turn G w w' ∧ ∀ i, G' i → G i ∨ w.heap.size ≤ i) := Lib.hid fun W A c hW hc hA hL => by
      have := mwrite_ok (hM.under hW) hn a (pwL x) A c ha (by rw [pwL_length]; decide) (by rw [pwL_length]; exact hL) (by rw [pwL_length]; exact hc) (fun q e _ hg => by have h1 := hA q e; have h2 := hM.pg.lt _ hg; omega) (by rw [pwL_length]; exact hq)
      rw [pwL_length] at this
      refine this.mono ?_
      rintro e w' ⟨h1, G', D', h2, h3, h4⟩
      have hs := hW.size
      exact ⟨h1, G', D', h2, (Turn.of_below hW).andThen h3, fun i hi => (h4 i hi).imp id fun h => by omega⟩
    have HB := Lib.hid hb
    clear hM hq h8 hv hb hn
    go_enter Try.func23, Try.ntmps23
    go_wp2_with (first
      | (go_at_call 50; refine HA.out.mono ?_; rintro e w1 ⟨rfl, rfl⟩)
      | (go_at_call 51; refine HP.out.mono ?_; rintro e w2 ⟨A, c, rfl, h3, h4, h5, hd⟩; have HD := Lib.hid (HWR.out w2 A c (HB.out.trans (hd.mono HB.out.size)) h3 (fun q e => Nat.le_trans HB.out.size (h4 q e)) h5); clear h3 h4 h5 hd)
      | (go_at_call 21; refine HD.out.mono ?_; rintro e w3 ⟨rfl, hd⟩; have HD3 := Lib.hid hd; clear hd))
    go_ret
    exact ⟨rfl, HD3.out⟩
  · have hv : wrW ram m a x = m := if_neg hq
    rw [hv]
    refine (mput_no _ ram a x w hM.ok.fit ha hx (fun W hW => hM.space W hW) hq).mono ?_
    rintro e w' ⟨rfl, hd⟩
    have := hM.under hd
    exact ⟨rfl, G, D, ⟨this.blk, this.off, this.pg.mono (by omega), this.ok⟩, Turn.of_below hd, fun i hi => Or.inl hi⟩
end Go.Proofs.Ytbemphfijkcbhaa
