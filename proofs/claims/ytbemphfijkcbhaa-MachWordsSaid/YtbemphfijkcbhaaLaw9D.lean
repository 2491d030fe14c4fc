/- The walk of MachWords. -/
import Derived.Test.YtbemphfijkcbhaaBack9
import Derived.Test.YtbemphfijkcbhaaAwake9
namespace Go.Proofs.Ytbemphfijkcbhaa
open Go.RowKit

theorem new_empty (r1 r2 : Nat) (hr : fit (r1, r2)) (hq : addrB (r1, r2) = true) (W : World) :
    Calls Try.prog 14 #[.agg #[.int .u64 (r1 : Int), .int .u64 (r2 : Int)], .slice none 0 0] W fun e w' => ∃ p b G D, e = .returned (.tuple #[.pointer (some ⟨p, 0, none⟩), .int .i64 0]) ∧ MC w' G p b (r1, r2) 0 D zM ∧ (∀ i, G i → W.heap.size ≤ i) ∧ W.heap.size ≤ p ∧ Below W.heap.size W w' := by
  have h : Calls Try.prog 14 #[.agg #[.int .u64 (r1 : Int), .int .u64 (r2 : Int)], .slice none 0 0] W (NewPost W (r1, r2) []) := newmem_any r1 r2 hr none 0 [] (Nat.zero_le _) W (CRow.nil _ _ _)
  refine h.mono ?_
  rintro e w' ⟨hb, ⟨h1, _⟩ | ⟨_, h2, _⟩ | ⟨_, _, p, b, G, D, rfl, h3, h4, h5⟩⟩
  · rw [hq] at h1; cases h1
  · exact absurd rfl h2
  · exact ⟨p, b, G, D, rfl, h3, h4, h5, hb⟩
theorem new_empty_no (r1 r2 : Nat) (hr : fit (r1, r2)) (hq : addrB (r1, r2) = false) (W : World) :
    Calls Try.prog 14 #[.agg #[.int .u64 (r1 : Int), .int .u64 (r2 : Int)], .slice none 0 0] W fun e w' => e = .returned (.tuple #[.pointer none, .int .i64 1]) ∧ Below W.heap.size W w' := by
  have h : Calls Try.prog 14 #[.agg #[.int .u64 (r1 : Int), .int .u64 (r2 : Int)], .slice none 0 0] W (NewPost W (r1, r2) []) := newmem_any r1 r2 hr none 0 [] (Nat.zero_le _) W (CRow.nil _ _ _)
  refine h.mono ?_
  rintro e w' ⟨hb, ⟨_, h1⟩ | ⟨h1, _⟩ | ⟨h1, _⟩⟩
  · exact ⟨h1, hb⟩
  · rw [hq] at h1; cases h1
  · rw [hq] at h1; cases h1
set_option maxRecDepth 100000 in
set_option maxHeartbeats 2000000 in
theorem machWords_walk (r1 r2 at_ x : Nat) (w : World) (hr : fit (r1, r2)) (ha : at_ < 18446744073709551616) (hx : x < 18446744073709551616) :
    Calls Try.prog 6 #[.agg #[.int .u64 (r1 : Int), .int .u64 (r2 : Int)], .int .u64 (at_ : Int), .int .u64 (x : Int)] w fun e w' => e = .returned (.bool true) ∧ Below w.heap.size w w' := by
  have hb0 : Below w.heap.size w (w.alloc (spo r1 r2)) := (Below.refl _ _).alloc (Nat.le_refl _) _
  have HB0 := Lib.hid hb0
  have HBA : Hid (∀ v, Below (w.alloc (spo r1 r2)).heap.size (w.alloc (spo r1 r2)) v → v.cell? ⟨w.heap.size, 0, none⟩ = some (.int .u64 (r1 : Int)) ∧ v.cell? ⟨w.heap.size, 1, none⟩ = some (.int .u64 (r2 : Int))) := Lib.hid fun v hv => by
    have h : Blk v w.heap.size 24 (boxSp r1 r2) := Blk.under (Blk.new _ _ _ rfl) hv
    exact ⟨h.cellAt 0 rfl, h.cellAt 1 rfl⟩
  cases hz : addrB (r1, r2) with
  | false =>
    have HN := Lib.hid (fun W => new_empty_no r1 r2 hr hz W)
    clear hb0 hz hr ha hx
    go_enter Try.func6, Try.ntmps6
    go_wp2_with (first
      | (go_at_call 10; refine (awake_any _).mono ?_; rintro e w1 ⟨rfl, hd⟩; have H1 := Lib.hid (HB0.out.trans (hd.mono HB0.out.size)); obtain ⟨c0, c1⟩ := HBA.out w1 hd; clear hd)
      | (go_at_call 14; refine (HN.out _).mono ?_; rintro e w2 ⟨rfl, hd⟩; have H2 := Lib.hid (H1.out.trans (hd.mono H1.out.size)); clear hd))
    go_ret
    exact ⟨rfl, H2.out⟩
  | true =>
    have HN := Lib.hid (fun W => new_empty r1 r2 hr hz W)
    by_cases hq : wordE (r1, r2) at_ = 0
    · have h8 : at_ % 8 = 0 := Classical.byContradiction fun h => by rw [wordE_no h] at hq; cases hq
      have hq8 : askR (r1, r2) at_ 8 = 0 := by rw [← wordE_yes h8]; exact hq
      have e8 : (at_ : Int) % 8 = 0 := by omega
      have hrd : rdM (wrM zM at_ (pwL x)) at_ 8 = pwL x := by
        have := rdM_wrM zM at_ (pwL x)
        rwa [pwL_length] at this
      obtain ⟨m', hm'⟩ : ∃ m', m' = wrM zM at_ (pwL x) := ⟨_, rfl⟩
      rw [← hm'] at hrd
      have HP : Hid (∀ W G p b D, MC W G p b (r1, r2) 0 D zM → Calls Try.prog 23 #[.pointer (some ⟨p, 0, none⟩), .int .u64 (at_ : Int), .int .u64 (x : Int)] W fun e w' => e = .returned (.int .i64 0) ∧
          ∃ G' D', MC w' G' p b (r1, r2) (0 + 300) D' m' ∧ Turn G W w' ∧ ∀ i, G' i → G i ∨ W.heap.size ≤ i) := Lib.hid fun W G p b D h => by
        refine (mput_any h (by decide) at_ x ha hx).mono fun e w' ⟨h1, h2⟩ => ?_
        rw [hq] at h1
        have hv : wrW (r1, r2) zM at_ x = m' := by rw [hm']; exact if_pos hq
        rw [hv] at h2
        exact ⟨h1, h2⟩
      have HRD : Hid (∀ W G p b D, MC W G p b (r1, r2) (0 + 300) D m' → Calls Try.prog 20 #[.pointer (some ⟨p, 0, none⟩), .int .u64 (at_ : Int), .int .u64 8] W fun e w' => ∃ g, e = .returned (.tuple #[.slice (some ⟨g, 0, none⟩) 8 8, .int .i64 0]) ∧ Lies w' w'.heap.size 1 (some ⟨g, 0, none⟩) (pwL x).length (u8s (pwL x)) ∧ Below W.heap.size W w') := Lib.hid fun W G p b D h => by
        refine (mread_ok h at_ 8 ⟨ha, by simp only; omega⟩ hq8).mono ?_
        rintro e w' ⟨g, rfl, _, hA, hd⟩
        have := arr_lies hA
        rw [hrd] at this
        exact ⟨g, rfl, this, hd⟩
      have HNU : Hid (∀ W g, Lies W W.heap.size 1 (some ⟨g, 0, none⟩) (pwL x).length (u8s (pwL x)) → Calls Try.prog 24 #[.slice (some ⟨g, 0, none⟩) 8 8, .int .i64 0, .int .i64 8, .bool true] W fun e w' => e = .returned (.tuple #[.int .u64 (x : Int), .bool true]) ∧ W = w') := Lib.hid fun W g h => by
        have := number_any (pwL x) (some ⟨g, 0, none⟩) 8 W.heap.size 0 8 true (by decide) W (by rw [pwL_length]; decide) h
        rw [pwL_length, pwL_back x hx] at this
        exact this
      have HWD : Hid (∀ W G p b D, MC W G p b (r1, r2) (0 + 300) D m' → Calls Try.prog 25 #[.pointer (some ⟨p, 0, none⟩), .int .u64 (at_ : Int)] W fun e w' => e = .returned (.tuple #[.int .u64 (x : Int), .int .i64 0]) ∧ Below W.heap.size W w') := Lib.hid fun W G p b D h => by
        have := mword_any h at_ ha
        have hv : wordV (r1, r2) m' at_ = x := by
          unfold wordV
          rw [if_pos hq, hrd, pwL_back x hx]
        rw [hv, hq] at this
        exact this
      clear hb0 hz hr ha hx hq hq8 h8 hrd hm'
      go_enter Try.func6, Try.ntmps6
      go_wp2_with (first
        | (go_at_call 10; refine (awake_any _).mono ?_; rintro e w1 ⟨rfl, hd⟩; have H1 := Lib.hid (HB0.out.trans (hd.mono HB0.out.size)); obtain ⟨c0, c1⟩ := HBA.out w1 hd; clear hd)
        | (go_at_call 14; refine (HN.out _).mono ?_; rintro e w2 ⟨p, b, G, D, rfl, hM, hG, hp, hd⟩; have H2 := Lib.hid (And.intro hM (And.intro hG (And.intro hp (H1.out.trans (hd.mono H1.out.size))))); have hw12 := Lib.hid hd.size; clear hM hG hp hd)
        | (go_at_call 23; refine (HP.out _ G p b D H2.out.1).mono ?_; rintro e w3 ⟨rfl, G', D', h1, h2, h3⟩; have H3 := Lib.hid (And.intro h1 (H2.out.2.2.2.trans (h2.below (fun i hi => Nat.le_trans H1.out.size (H2.out.2.1 i hi)) H2.out.2.2.2.size))); clear h1 h2 h3)
        | (go_at_call 20; refine (HRD.out _ G' p b D' H3.out.1).mono ?_; rintro e w4 ⟨g, rfl, hL, hd⟩; have H4 := Lib.hid (And.intro hL (And.intro (H3.out.1.under hd) (H3.out.2.trans (hd.mono H3.out.2.size)))); clear hL hd)
        | (go_at_call 24; refine (HNU.out _ g H4.out.1).mono ?_; rintro e w5 ⟨rfl, rfl⟩)
        | (go_at_call 25; refine (HWD.out _ G' p b D' H4.out.2.1).mono ?_; rintro e w6 ⟨rfl, hd⟩; have H6 := Lib.hid (H4.out.2.2.trans (hd.mono H4.out.2.2.size)); clear hd))
      go_ret
      exact ⟨rfl, H6.out⟩
    · obtain ⟨E, hE⟩ : ∃ E, E = wordE (r1, r2) at_ := ⟨_, rfl⟩
      have HP : Hid (∀ W G p b D, MC W G p b (r1, r2) 0 D zM → Calls Try.prog 23 #[.pointer (some ⟨p, 0, none⟩), .int .u64 (at_ : Int), .int .u64 (x : Int)] W fun e w' => e = .returned (.int .i64 (E : Int)) ∧ Below W.heap.size W w') := Lib.hid fun W G p b D h => by
        rw [hE]
        exact mput_no _ (r1, r2) at_ x W h.ok.fit ha hx (fun W' hW => h.space W' hW) hq
      have hE0 : E ≠ 0 := by rw [hE]; exact hq
      have h1 : ((E : Int) != 0) = true := by simp; omega
      have h2 : ¬ (E : Int) = 0 := by omega
      clear hb0 hz hr ha hx hq hE
      go_enter Try.func6, Try.ntmps6
      go_wp2_with (first
        | (go_at_call 10; refine (awake_any _).mono ?_; rintro e w1 ⟨rfl, hd⟩; have H1 := Lib.hid (HB0.out.trans (hd.mono HB0.out.size)); obtain ⟨c0, c1⟩ := HBA.out w1 hd; clear hd)
        | (go_at_call 14; refine (HN.out _).mono ?_; rintro e w2 ⟨p, b, G, D, rfl, hM, hG, hp, hd⟩; have H2 := Lib.hid (And.intro hM (H1.out.trans (hd.mono H1.out.size))); clear hM hG hp hd)
        | (go_at_call 23; refine (HP.out _ G p b D H2.out.1).mono ?_; rintro e w3 ⟨rfl, hd⟩; have H3 := Lib.hid (H2.out.2.trans (hd.mono H2.out.2.size)); clear hd))
      go_ret
      exact ⟨rfl, H3.out⟩
end Go.Proofs.Ytbemphfijkcbhaa
