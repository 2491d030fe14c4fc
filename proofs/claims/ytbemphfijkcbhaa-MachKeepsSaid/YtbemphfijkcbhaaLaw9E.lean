/- The walk of MachKeeps. -/
import Derived.Test.YtbemphfijkcbhaaBack9
import Derived.Test.YtbemphfijkcbhaaFew9
import Derived.Test.YtbemphfijkcbhaaStr
import Derived.Test.YtbemphfijkcbhaaAwake9
namespace Go.Proofs.Ytbemphfijkcbhaa
open Go.RowKit

/-- NewMem, where it fails. -/
theorem new_no (r1 r2 : Nat) (hr : fit (r1, r2)) (A : Option Addr) (c : Nat) (l : List Ck) (hl : l.length ≤ 1000000) (W : World) (hC : CRow W W.heap.size A l) (hq : addrB (r1, r2) = false ∨ (ckRun (r1, r2) l zM).1 ≠ 0) :
    Calls Try.prog 14 #[.agg #[.int .u64 (r1 : Int), .int .u64 (r2 : Int)], .slice A l.length c] W fun e w' => e = .returned (.tuple #[.pointer none, .int .i64 ((if addrB (r1, r2) = true then (ckRun (r1, r2) l zM).1 else 1 : Nat) : Int)]) ∧ Below W.heap.size W w' := by
  refine (newmem_any r1 r2 hr A c l hl W hC).mono ?_
  rintro e w' ⟨hb, ⟨h1, h2⟩ | ⟨h1, h2, h3⟩ | ⟨h1, h2, _⟩⟩
  · rw [h1]; exact ⟨h2, hb⟩
  · rw [h1]; exact ⟨h3, hb⟩
  · rcases hq with h | h
    · rw [h] at h1; cases h1
    · exact absurd h2 h
/-- NewMem, where it doesn't. -/
theorem new_yes (r1 r2 : Nat) (hr : fit (r1, r2)) (A : Option Addr) (c : Nat) (l : List Ck) (hl : l.length ≤ 1000000) (W : World) (hC : CRow W W.heap.size A l) (h1 : addrB (r1, r2) = true) (h2 : (ckRun (r1, r2) l zM).1 = 0) :
    Calls Try.prog 14 #[.agg #[.int .u64 (r1 : Int), .int .u64 (r2 : Int)], .slice A l.length c] W fun e w' => ∃ p b G D, e = .returned (.tuple #[.pointer (some ⟨p, 0, none⟩), .int .i64 0]) ∧ MC w' G p b (r1, r2) (300 * l.length) D (ckRun (r1, r2) l zM).2 ∧ (∀ i, G i → W.heap.size ≤ i) ∧ W.heap.size ≤ p ∧ Below W.heap.size W w' := by
  refine (newmem_any r1 r2 hr A c l hl W hC).mono ?_
  rintro e w' ⟨hb, ⟨h, _⟩ | ⟨_, h, _⟩ | ⟨_, _, p, b, G, D, rfl, h3, h4, h5⟩⟩
  · rw [h1] at h; cases h
  · exact absurd h2 h
  · exact ⟨p, b, G, D, rfl, h3, h4, h5, hb⟩
theorem new_err {r1 r2 : Nat} {l : List Ck} (hq : addrB (r1, r2) = false ∨ (ckRun (r1, r2) l zM).1 ≠ 0) : (if addrB (r1, r2) = true then (ckRun (r1, r2) l zM).1 else 1) ≠ 0 := by
  split
  · rename_i h
    rcases hq with h2 | h2
    · rw [h] at h2; cases h2
    · exact h2
  · decide
theorem rdL_self {r : Sp} {m : Bytes8} {a : Nat} {b : List UInt8} (h : askR r a b.length = 0) : rdL r (wrM m a b) a b.length = b := by
  unfold rdL; rw [if_pos h, rdM_wrM]
theorem rdL_off {r : Sp} {m : Bytes8} {a x : Nat} {b : List UInt8} (ha : a < 18446744073709551616) (hr : RamOk r) (hq : askR r a b.length = 0) (h : has (a, b.length) x = false) : rdL r (wrM m a b) x 1 = rdL r m x 1 := by
  unfold rdL rdM
  have e : wrM m a b (x + 0) = m (x + 0) := wrM_off m a b _ fun hh => by
    have h2 := (ask_ok hr hq ha).2.2 (by omega)
    have : has (a, b.length) x = true := by
      unfold has good
      simp only [Bool.and_eq_true, decide_eq_true_eq]
      omega
    rw [this] at h
    cases h
  rw [Nat.add_zero] at e
  simp [List.range_succ, e]
set_option maxRecDepth 100000 in
set_option maxHeartbeats 4000000 in
theorem machKeeps_walk (r1 r2 : Nat) (A : Option Addr) (c : Nat) (l : List Ck) (at_ : Nat) (A3 : Option Addr) (c3 : Nat) (b : List UInt8) (x : Nat) (w : World) (hr : fit (r1, r2)) (_hl : l.length ≤ c ∧ c ≤ maxLen) (hC : CRow w w.heap.size A l) (ha : at_ < 18446744073709551616)
    (hb : b.length ≤ c3) (hB : Lies w w.heap.size 1 A3 b.length (u8s b)) (hx : x < 18446744073709551616) :
    Calls Try.prog 5 #[.agg #[.int .u64 (r1 : Int), .int .u64 (r2 : Int)], .slice A l.length c, .int .u64 (at_ : Int), .slice A3 b.length c3, .int .u64 (x : Int)] w fun e w' => e = .returned (.bool true) ∧ Below w.heap.size w w' := by
  have hb0 : Below w.heap.size w (w.alloc (spo r1 r2)) := (Below.refl _ _).alloc (Nat.le_refl _) _
  have HB0 := Lib.hid hb0
  have HBA : Hid (∀ v, Below (w.alloc (spo r1 r2)).heap.size (w.alloc (spo r1 r2)) v → v.cell? ⟨w.heap.size, 0, none⟩ = some (.int .u64 (r1 : Int)) ∧ v.cell? ⟨w.heap.size, 1, none⟩ = some (.int .u64 (r2 : Int))) := Lib.hid fun v hv => by
    have h : Blk v w.heap.size 24 (boxSp r1 r2) := Blk.under (Blk.new _ _ _ rfl) hv
    exact ⟨h.cellAt 0 rfl, h.cellAt 1 rfl⟩
  have HCR : Hid (∀ W, Below w.heap.size w W → CRow W W.heap.size A l) := Lib.hid fun W hW => by
    have h := hC.below hW
    exact ⟨fun hn => by obtain ⟨a, e, h1, h2⟩ := h.1 hn; exact ⟨a, e, Nat.lt_of_lt_of_le h1 hW.size, h2⟩, fun y hy => ⟨(h.2 y hy).1, (h.2 y hy).2.1.wide hW.size, (h.2 y hy).2.2⟩⟩
  have HBL : Hid (∀ W, Below w.heap.size w W → Lies W W.heap.size 1 A3 b.length (u8s b)) := Lib.hid fun W hW => (hB.below hW).wide hW.size
  have HBB : Hid (∀ q, A3 = some q → b.length ≠ 0 → q.block < w.heap.size) := Lib.hid fun q e h0 => by
    obtain ⟨a', e', hb', _⟩ := hB.2 h0
    rw [e] at e'
    cases e'
    exact hb'
  obtain ⟨F, hF⟩ : ∃ F, F = fewB [] l := ⟨_, rfl⟩
  have HFW : Hid (∀ W, Below w.heap.size w W → Calls Try.prog 13 #[.slice none 0 0, .slice A l.length c] W fun e w' => e = .returned (.bool F) ∧ Below W.heap.size W w') := Lib.hid fun W hW => by
    rw [hF]
    exact few_any none 0 [] A c l W (DRow.nil _ _ _) (HCR.out W hW)
  clear hC hB hb0

  cases F with
  | false =>
    clear hr hb ha hx hF
    go_enter Try.func5, Try.ntmps5
    go_wp2_with (first
      | (go_at_call 10; refine (awake_any _).mono ?_; rintro e w1 ⟨rfl, hd⟩; have H1 := Lib.hid (HB0.out.trans (hd.mono HB0.out.size)); obtain ⟨c0, c1⟩ := HBA.out w1 hd; have HD1 := Lib.hid hd; clear hd)
      | (go_at_call 13; refine (HFW.out _ H1.out).mono ?_; rintro e w2 ⟨rfl, hd⟩; have H2 := Lib.hid (H1.out.trans (hd.mono H1.out.size)); obtain ⟨d0, d1⟩ := HBA.out w2 (HD1.out.trans (hd.mono HD1.out.size)); clear hd))
    go_ret
    exact ⟨rfl, H2.out⟩
  | true =>
    by_cases h5 : 5000 < b.length
    · have e5 : (5000 : Int) < b.length := by omega
      clear hr hb ha hx hF h5
      go_enter Try.func5, Try.ntmps5
      go_wp2_with (first
        | (go_at_call 10; refine (awake_any _).mono ?_; rintro e w1 ⟨rfl, hd⟩; have H1 := Lib.hid (HB0.out.trans (hd.mono HB0.out.size)); obtain ⟨c0, c1⟩ := HBA.out w1 hd; have HD1 := Lib.hid hd; clear hd)
        | (go_at_call 13; refine (HFW.out _ H1.out).mono ?_; rintro e w2 ⟨rfl, hd⟩; have H2 := Lib.hid (H1.out.trans (hd.mono H1.out.size)); obtain ⟨d0, d1⟩ := HBA.out w2 (HD1.out.trans (hd.mono HD1.out.size)); clear hd))
      go_ret
      exact ⟨rfl, H2.out⟩
    have e5 : ¬ (5000 : Int) < b.length := by omega
    have hl : l.length ≤ 1000000 := by have := (few_iff hF.symm).2.1; omega
    have hl10 : l.length ≤ 10 := (few_iff hF.symm).2.1
    by_cases hq : addrB (r1, r2) = false ∨ (ckRun (r1, r2) l zM).1 ≠ 0
    · have HN := Lib.hid (fun W hW => new_no r1 r2 hr A c l hl W (HCR.out W hW) hq)
      have hE0 := new_err hq
      obtain ⟨E, hE⟩ : ∃ E, E = (if addrB (r1, r2) = true then (ckRun (r1, r2) l zM).1 else 1) := ⟨_, rfl⟩
      rw [← hE] at hE0 HN
      have g1 : ((E : Int) != 0) = true := by simp; omega
      have g2 : ¬ (E : Int) = 0 := by omega
      clear hr hb ha hx hF h5 hl hl10 hq hE
      go_enter Try.func5, Try.ntmps5
      go_wp2_with (first
        | (go_at_call 10; refine (awake_any _).mono ?_; rintro e w1 ⟨rfl, hd⟩; have H1 := Lib.hid (HB0.out.trans (hd.mono HB0.out.size)); obtain ⟨c0, c1⟩ := HBA.out w1 hd; have HD1 := Lib.hid hd; clear hd)
        | (go_at_call 13; refine (HFW.out _ H1.out).mono ?_; rintro e w2 ⟨rfl, hd⟩; have H2 := Lib.hid (H1.out.trans (hd.mono H1.out.size)); obtain ⟨d0, d1⟩ := HBA.out w2 (HD1.out.trans (hd.mono HD1.out.size)); clear hd)
        | (go_at_call 14; refine (HN.out _ H2.out).mono ?_; rintro e w3 ⟨rfl, hd⟩; have H3 := Lib.hid (H2.out.trans (hd.mono H2.out.size)); clear hd))
      go_ret
      exact ⟨rfl, H3.out⟩
    have hq1 : addrB (r1, r2) = true := by cases h : addrB (r1, r2); exact absurd (Or.inl h) hq; rfl
    have hq2 : (ckRun (r1, r2) l zM).1 = 0 := Classical.byContradiction fun h => hq (Or.inr h)
    have HN := Lib.hid (fun W hW => new_yes r1 r2 hr A c l hl W (HCR.out W hW) hq1 hq2)
    have hram : RamOk (r1, r2) := (addrB_iff _).1 hq1
    obtain ⟨m0, hm0⟩ : ∃ m0, m0 = (ckRun (r1, r2) l zM).2 := ⟨_, rfl⟩
    rw [← hm0] at HN
    obtain ⟨L1, hL1⟩ : ∃ L1, L1 = rdL (r1, r2) m0 x 1 := ⟨_, rfl⟩
    obtain ⟨L2, hL2⟩ : ∃ L2, L2 = rdL (r1, r2) (wrR (r1, r2) m0 at_ b) x 1 := ⟨_, rfl⟩
    obtain ⟨LX, hLX⟩ : ∃ LX, LX = rdL (r1, r2) (wrR (r1, r2) m0 at_ b) at_ b.length := ⟨_, rfl⟩
    obtain ⟨E, hE⟩ : ∃ E, E = askR (r1, r2) at_ b.length := ⟨_, rfl⟩
    obtain ⟨E1, hE1⟩ : ∃ E1, E1 = askR (r1, r2) x 1 := ⟨_, rfl⟩
    obtain ⟨I, hI⟩ : ∃ I, I = has (at_, b.length) x := ⟨_, rfl⟩
    have HR1 : Hid (∀ W G p b' D, MC W G p b' (r1, r2) (300 * l.length) D m0 → Calls Try.prog 20 #[.pointer (some ⟨p, 0, none⟩), .int .u64 (x : Int), .int .u64 1] W fun e w' => ∃ B, e = .returned (.tuple #[.slice B L1.length L1.length, .int .i64 (E1 : Int)]) ∧ Lies w' w'.heap.size 1 B L1.length (u8s L1) ∧ (∀ q, B = some q → W.heap.size ≤ q.block) ∧ Below W.heap.size W w') := Lib.hid fun W G p b' D h => by
      rw [hL1, hE1]
      exact mread_any h x 1 ⟨hx, by simp only; omega⟩
    have HR2 : Hid (∀ W G p b' D, MC W G p b' (r1, r2) (300 * l.length + 300) D (wrR (r1, r2) m0 at_ b) → Calls Try.prog 20 #[.pointer (some ⟨p, 0, none⟩), .int .u64 (x : Int), .int .u64 1] W fun e w' => ∃ B, e = .returned (.tuple #[.slice B L2.length L2.length, .int .i64 (E1 : Int)]) ∧ Lies w' w'.heap.size 1 B L2.length (u8s L2) ∧ Below W.heap.size W w') := Lib.hid fun W G p b' D h => by
      rw [hL2, hE1]
      refine (mread_any h x 1 ⟨hx, by simp only; omega⟩).mono ?_
      rintro e w' ⟨B, rfl, h1, _, h2⟩
      exact ⟨B, rfl, h1, h2⟩
    have HRX : Hid (∀ W G p b' D, MC W G p b' (r1, r2) (300 * l.length + 300) D (wrR (r1, r2) m0 at_ b) → Calls Try.prog 20 #[.pointer (some ⟨p, 0, none⟩), .int .u64 (at_ : Int), .int .u64 (b.length : Int)] W fun e w' => ∃ B, e = .returned (.tuple #[.slice B LX.length LX.length, .int .i64 (E : Int)]) ∧ Lies w' w'.heap.size 1 B LX.length (u8s LX) ∧ Below W.heap.size W w') := Lib.hid fun W G p b' D h => by
      rw [hLX, hE]
      refine (mread_any h at_ b.length ⟨ha, by simp only; omega⟩).mono ?_
      rintro e w' ⟨B, rfl, h1, _, h2⟩
      exact ⟨B, rfl, h1, h2⟩
    have HWR : Hid (∀ W G p b' D, MC W G p b' (r1, r2) (300 * l.length) D m0 → Below w.heap.size w W → (∀ i, G i → w.heap.size ≤ i) → Calls Try.prog 21 #[.pointer (some ⟨p, 0, none⟩), .int .u64 (at_ : Int), .slice A3 b.length c3] W fun e w' => e = .returned (.int .i64 (E : Int)) ∧
        ∃ G' D', MC w' G' p b' (r1, r2) (300 * l.length + 300) D' (wrR (r1, r2) m0 at_ b) ∧ Turn G W w' ∧ Below w.heap.size w w') := Lib.hid fun W G p b' D h hW hG => by
      rw [hE]
      refine (mwrite_any h (by unfold maxLen; omega) at_ b A3 c3 ha (by unfold maxLen; omega) (HBL.out W hW) hb fun q e h0 hg => by have := hG _ hg; have := HBB.out q e h0; omega).mono ?_
      rintro e w' ⟨rfl, G', D', h1, h2, h3⟩
      exact ⟨rfl, G', D', h1, h2, hW.trans (h2.below hG hW.size)⟩
    have HHS : Hid (∀ W, Calls Try.prog 22 #[.agg #[.int .u64 (at_ : Int), .int .u64 (b.length : Int)], .int .u64 (x : Int)] W fun e w' => e = .returned (.bool I) ∧ Below W.heap.size W w') := Lib.hid fun W => by
      rw [hI]
      exact rhas_any at_ b.length x ⟨ha, by simp only; omega⟩ hx W
    have hmain : (E ≠ 0 ∧ L2 = L1) ∨ (E = 0 ∧ LX = b ∧ I = true) ∨ (E = 0 ∧ LX = b ∧ I = false ∧ L2 = L1) := by
      by_cases h0 : E = 0
      · rw [hE] at h0
        have hwr : wrR (r1, r2) m0 at_ b = wrM m0 at_ b := if_pos h0
        have hX : LX = b := by rw [hLX, hwr]; exact rdL_self h0
        cases hI2 : I
        · refine Or.inr (Or.inr ⟨by rw [hE]; exact h0, hX, rfl, ?_⟩)
          rw [hL2, hL1, hwr]
          exact rdL_off ha hram h0 (by rw [← hI, hI2])
        · exact Or.inr (Or.inl ⟨by rw [hE]; exact h0, hX, rfl⟩)
      · refine Or.inl ⟨h0, ?_⟩
        have hwr : wrR (r1, r2) m0 at_ b = m0 := if_neg (by rw [← hE]; exact h0)
        rw [hL2, hL1, hwr]
    have hbl : b.length ≤ 5000 := by omega
    obtain ⟨m1, hm1⟩ : ∃ m1, m1 = wrR (r1, r2) m0 at_ b := ⟨_, rfl⟩
    obtain ⟨N, hN⟩ : ∃ N, N = 300 * l.length := ⟨_, rfl⟩
    rw [← hm1] at HR2 HRX HWR
    rw [← hN] at HN HR1 HR2 HRX HWR
    clear hr hb ha hx hF h5 hl hl10 hq hq1 hq2 hram hm0 hL1 hL2 hLX hE hE1 hI hm1 hN
    rcases hmain with ⟨h0, hLL⟩ | ⟨h0, hXX, hII⟩ | ⟨h0, hXX, hII, hLL⟩
    · rw [← hLL] at HR1
      have g1 : ((E : Int) != 0) = true := by simp; omega
      have g2 : ¬ (E : Int) = 0 := by omega
      clear h0 hLL
      go_enter Try.func5, Try.ntmps5
      go_wp2_with (first
        | (go_at_call 10; refine (awake_any _).mono ?_; rintro e w1 ⟨rfl, hd⟩; have H1 := Lib.hid (HB0.out.trans (hd.mono HB0.out.size)); obtain ⟨c0, c1⟩ := HBA.out w1 hd; have HD1 := Lib.hid hd; clear hd)
        | (go_at_call 13; refine (HFW.out _ H1.out).mono ?_; rintro e w2 ⟨rfl, hd⟩; have H2 := Lib.hid (H1.out.trans (hd.mono H1.out.size)); obtain ⟨d0, d1⟩ := HBA.out w2 (HD1.out.trans (hd.mono HD1.out.size)); clear hd)
        | (go_at_call 14; refine (HN.out _ H2.out).mono ?_; rintro e w3 ⟨p, b', G, D, rfl, hM, hG, hp, hd⟩; have H3 := Lib.hid (And.intro hM (And.intro (fun i hi => Nat.le_trans H2.out.size (hG i hi)) (H2.out.trans (hd.mono H2.out.size)))); clear hM hG hp hd)
        | (go_at_call 20; (with_reducible show Calls _ _ #[_, .int .u64 (x : Int), .int .u64 1] _ _); refine (HR2.out _ G' p b' D' H6.out.1).mono ?_; rintro e w7 ⟨B3, rfl, hy, hd⟩; have H7 := Lib.hid (And.intro ((H6.out.2.1.below hd).wide hd.size) (And.intro hy (And.intro ((H6.out.2.2.1.below hd).wide hd.size) (H6.out.2.2.2.trans (hd.mono H6.out.2.2.2.size))))); have hs1 := conv_str w7 _ B1 _ L2.length _ ((H6.out.2.2.1.below hd).wide hd.size); have hs2 := conv_str w7 _ B3 _ L2.length _ hy; clear hy hd)
        | (go_at_call 20; (with_reducible show Calls _ _ #[_, .int .u64 (at_ : Int), _] _ _); refine (HRX.out _ G' p b' D' H5.out.1).mono ?_; rintro e w6 ⟨B2, rfl, hy, hd⟩; have H6 := Lib.hid (And.intro (H5.out.1.under hd) (And.intro hy (And.intro ((H5.out.2.2.below hd).wide hd.size) (H5.out.2.1.trans (hd.mono H5.out.2.1.size))))); clear hy hd)
        | (go_at_call 21; refine (HWR.out _ G p b' D H4.out.1 H4.out.2.2.2 H3.out.2.1).mono ?_; rintro e w5 ⟨rfl, G', D', hM, ht, hd⟩; have H5 := Lib.hid (And.intro hM (And.intro hd ((H4.out.2.1.turn ht (Nat.le_refl _) (fun q e _ => H4.out.2.2.1 q e)).wide ht.size))); clear hM ht hd)
        | (go_at_call 20; (with_reducible show Calls _ _ #[_, .int .u64 (x : Int), .int .u64 1] _ _); refine (HR1.out _ G p b' D H3.out.1).mono ?_; rintro e w4 ⟨B1, rfl, hy, hz, hd⟩; have H4 := Lib.hid (And.intro (H3.out.1.under hd) (And.intro hy (And.intro (fun q (e : B1 = some q) (hg : G q.block) => (Nat.not_le.2 (H3.out.1.pg.lt _ hg) (hz q e) : False)) (H3.out.2.2.trans (hd.mono H3.out.2.2.size))))); clear hy hz hd))
      go_ret
      exact ⟨rfl, H7.out.2.2.2⟩
    · subst h0 hII
      rw [hXX] at HRX
      clear hXX
      go_enter Try.func5, Try.ntmps5
      go_wp2_with (first
        | (go_at_call 10; refine (awake_any _).mono ?_; rintro e w1 ⟨rfl, hd⟩; have H1 := Lib.hid (HB0.out.trans (hd.mono HB0.out.size)); obtain ⟨c0, c1⟩ := HBA.out w1 hd; have HD1 := Lib.hid hd; clear hd)
        | (go_at_call 13; refine (HFW.out _ H1.out).mono ?_; rintro e w2 ⟨rfl, hd⟩; have H2 := Lib.hid (H1.out.trans (hd.mono H1.out.size)); obtain ⟨d0, d1⟩ := HBA.out w2 (HD1.out.trans (hd.mono HD1.out.size)); clear hd)
        | (go_at_call 14; refine (HN.out _ H2.out).mono ?_; rintro e w3 ⟨p, b', G, D, rfl, hM, hG, hp, hd⟩; have H3 := Lib.hid (And.intro hM (And.intro (fun i hi => Nat.le_trans H2.out.size (hG i hi)) (H2.out.trans (hd.mono H2.out.size)))); clear hM hG hp hd)
        | (go_at_call 20; (with_reducible show Calls _ _ #[_, .int .u64 (x : Int), .int .u64 1] _ _); refine (HR2.out _ G' p b' D' H6.out.1).mono ?_; rintro e w7 ⟨B3, rfl, hy, hd⟩; have H7 := Lib.hid (And.intro ((H6.out.2.1.below hd).wide hd.size) (And.intro hy (And.intro ((H6.out.2.2.1.below hd).wide hd.size) (H6.out.2.2.2.trans (hd.mono H6.out.2.2.2.size))))); clear hy hd)
        | (go_at_call 20; (with_reducible show Calls _ _ #[_, .int .u64 (at_ : Int), _] _ _); refine (HRX.out _ G' p b' D' H5.out.1).mono ?_; rintro e w6 ⟨B2, rfl, hy, hd⟩; have H6 := Lib.hid (And.intro (H5.out.1.under hd) (And.intro hy (And.intro ((H5.out.2.2.below hd).wide hd.size) (H5.out.2.1.trans (hd.mono H5.out.2.1.size))))); clear hy hd)
        | (go_at_call 21; refine (HWR.out _ G p b' D H4.out.1 H4.out.2.2.2 H3.out.2.1).mono ?_; rintro e w5 ⟨rfl, G', D', hM, ht, hd⟩; have H5 := Lib.hid (And.intro hM (And.intro hd ((H4.out.2.1.turn ht (Nat.le_refl _) (fun q e _ => H4.out.2.2.1 q e)).wide ht.size))); clear hM ht hd)
        | (go_at_call 20; (with_reducible show Calls _ _ #[_, .int .u64 (x : Int), .int .u64 1] _ _); refine (HR1.out _ G p b' D H3.out.1).mono ?_; rintro e w4 ⟨B1, rfl, hy, hz, hd⟩; have H4 := Lib.hid (And.intro (H3.out.1.under hd) (And.intro hy (And.intro (fun q (e : B1 = some q) (hg : G q.block) => (Nat.not_le.2 (H3.out.1.pg.lt _ hg) (hz q e) : False)) (H3.out.2.2.trans (hd.mono H3.out.2.2.size))))); clear hy hz hd)
        | (go_at_call 22; refine (HHS.out _).mono ?_; rintro e w8 ⟨rfl, hd⟩; have H8 := Lib.hid (H7.out.2.2.2.trans (hd.mono H7.out.2.2.2.size)); have hs3 := conv_str w8 _ B2 _ b.length _ ((H7.out.1.below hd).wide hd.size); have hs4 := conv_str w8 _ A3 _ c3 _ (HBL.out w8 (H7.out.2.2.2.trans (hd.mono H7.out.2.2.2.size))); clear hd))
      go_ret
      exact ⟨rfl, H8.out⟩
    · subst h0 hII
      rw [hXX] at HRX
      rw [← hLL] at HR1
      clear hXX hLL
      go_enter Try.func5, Try.ntmps5
      go_wp2_with (first
        | (go_at_call 10; refine (awake_any _).mono ?_; rintro e w1 ⟨rfl, hd⟩; have H1 := Lib.hid (HB0.out.trans (hd.mono HB0.out.size)); obtain ⟨c0, c1⟩ := HBA.out w1 hd; have HD1 := Lib.hid hd; clear hd)
        | (go_at_call 13; refine (HFW.out _ H1.out).mono ?_; rintro e w2 ⟨rfl, hd⟩; have H2 := Lib.hid (H1.out.trans (hd.mono H1.out.size)); obtain ⟨d0, d1⟩ := HBA.out w2 (HD1.out.trans (hd.mono HD1.out.size)); clear hd)
        | (go_at_call 14; refine (HN.out _ H2.out).mono ?_; rintro e w3 ⟨p, b', G, D, rfl, hM, hG, hp, hd⟩; have H3 := Lib.hid (And.intro hM (And.intro (fun i hi => Nat.le_trans H2.out.size (hG i hi)) (H2.out.trans (hd.mono H2.out.size)))); clear hM hG hp hd)
        | (go_at_call 20; (with_reducible show Calls _ _ #[_, .int .u64 (x : Int), .int .u64 1] _ _); refine (HR2.out _ G' p b' D' H6.out.1).mono ?_; rintro e w7 ⟨B3, rfl, hy, hd⟩; have H7 := Lib.hid (And.intro ((H6.out.2.1.below hd).wide hd.size) (And.intro hy (And.intro ((H6.out.2.2.1.below hd).wide hd.size) (H6.out.2.2.2.trans (hd.mono H6.out.2.2.2.size))))); clear hy hd)
        | (go_at_call 20; (with_reducible show Calls _ _ #[_, .int .u64 (at_ : Int), _] _ _); refine (HRX.out _ G' p b' D' H5.out.1).mono ?_; rintro e w6 ⟨B2, rfl, hy, hd⟩; have H6 := Lib.hid (And.intro (H5.out.1.under hd) (And.intro hy (And.intro ((H5.out.2.2.below hd).wide hd.size) (H5.out.2.1.trans (hd.mono H5.out.2.1.size))))); clear hy hd)
        | (go_at_call 21; refine (HWR.out _ G p b' D H4.out.1 H4.out.2.2.2 H3.out.2.1).mono ?_; rintro e w5 ⟨rfl, G', D', hM, ht, hd⟩; have H5 := Lib.hid (And.intro hM (And.intro hd ((H4.out.2.1.turn ht (Nat.le_refl _) (fun q e _ => H4.out.2.2.1 q e)).wide ht.size))); clear hM ht hd)
        | (go_at_call 20; (with_reducible show Calls _ _ #[_, .int .u64 (x : Int), .int .u64 1] _ _); refine (HR1.out _ G p b' D H3.out.1).mono ?_; rintro e w4 ⟨B1, rfl, hy, hz, hd⟩; have H4 := Lib.hid (And.intro (H3.out.1.under hd) (And.intro hy (And.intro (fun q (e : B1 = some q) (hg : G q.block) => (Nat.not_le.2 (H3.out.1.pg.lt _ hg) (hz q e) : False)) (H3.out.2.2.trans (hd.mono H3.out.2.2.size))))); clear hy hz hd)
        | (go_at_call 22; refine (HHS.out _).mono ?_; rintro e w8 ⟨rfl, hd⟩; have H8 := Lib.hid (H7.out.2.2.2.trans (hd.mono H7.out.2.2.2.size)); have hs3 := conv_str w8 _ B2 _ b.length _ ((H7.out.1.below hd).wide hd.size); have hs4 := conv_str w8 _ A3 _ c3 _ (HBL.out w8 (H7.out.2.2.2.trans (hd.mono H7.out.2.2.2.size))); have hs1 := conv_str w8 _ B1 _ L2.length _ ((H7.out.2.2.1.below hd).wide hd.size); have hs2 := conv_str w8 _ B3 _ L2.length _ ((H7.out.2.1.below hd).wide hd.size); clear hd))
      go_ret
      exact ⟨rfl, H8.out⟩
end Go.Proofs.Ytbemphfijkcbhaa
