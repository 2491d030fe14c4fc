/- The walk of MachDoes. -/
import Derived.Test.YtbemphfijkcbhaaDo9
import Derived.Test.YtbemphfijkcbhaaTch9
import Derived.Test.YtbemphfijkcbhaaSame9
import Derived.Test.YtbemphfijkcbhaaAwake9
namespace Go.Proofs.Ytbemphfijkcbhaa
open Go.RowKit

theorem Both.under {w w' : World} {B p r N : Nat} {ram : Sp} {m : Bytes8} {G H : Nat → Prop} {b : Nat} {D : DataW Unit} {v : Value} {ps : List RP} (h : Both w B p r ram N m G H b D v ps) (hd : Below w.heap.size w w') : Both w' B p r ram N m G H b D v ps :=
  ⟨h.mc.under hd, h.mr.under hd, h.dj, h.np, h.gb, h.hb⟩
/-- The reference's NewMem, where it fails. -/
theorem rnew_no9 (r1 r2 : Nat) (hr : fit (r1, r2)) (A : Option Addr) (c : Nat) (l : List Ck) (hl : l.length ≤ 1000) (W : World) (hC : CRow W W.heap.size A l) (hq : addrB (r1, r2) = false ∨ (ckRun (r1, r2) l zM).1 ≠ 0) :
    Calls Try.prog 15 #[.agg #[.int .u64 (r1 : Int), .int .u64 (r2 : Int)], .slice A l.length c] W fun e w' => e = .returned (.tuple #[.pointer none, .int .i64 ((if addrB (r1, r2) = true then (ckRun (r1, r2) l zM).1 else 1 : Nat) : Int)]) ∧ Below W.heap.size W w' := by
  refine (rnewmem_any r1 r2 hr A c l hl W hC).mono ?_
  rintro e w' ⟨hb, ⟨h1, h2⟩ | ⟨h1, h2, h3⟩ | ⟨h1, h2, _⟩⟩
  · rw [h1]; exact ⟨h2, hb⟩
  · rw [h1]; exact ⟨h3, hb⟩
  · rcases hq with h | h
    · rw [h] at h1; cases h1
    · exact absurd h2 h
/-- The reference's NewMem, where it doesn't. -/
theorem rnew_yes9 (r1 r2 : Nat) (hr : fit (r1, r2)) (A : Option Addr) (c : Nat) (l : List Ck) (hl : l.length ≤ 1000) (W : World) (hC : CRow W W.heap.size A l) (h1 : addrB (r1, r2) = true) (h2 : (ckRun (r1, r2) l zM).1 = 0) :
    Calls Try.prog 15 #[.agg #[.int .u64 (r1 : Int), .int .u64 (r2 : Int)], .slice A l.length c] W fun e w' => ∃ p G v ps, e = .returned (.tuple #[.pointer (some ⟨p, 0, none⟩), .int .i64 0]) ∧ MR w' G p (r1, r2) (300 * l.length) v ps (ckRun (r1, r2) l zM).2 ∧ (∀ i, G i → W.heap.size ≤ i) ∧ Below W.heap.size W w' := by
  refine (rnewmem_any r1 r2 hr A c l hl W hC).mono ?_
  rintro e w' ⟨hb, ⟨h, _⟩ | ⟨_, h, _⟩ | ⟨_, _, p, G, v, ps, rfl, h3, h4⟩⟩
  · rw [h1] at h; cases h
  · exact absurd h2 h
  · exact ⟨p, G, v, ps, rfl, h3, h4, hb⟩
theorem new_err9 {r1 r2 : Nat} {l : List Ck} (hq : addrB (r1, r2) = false ∨ (ckRun (r1, r2) l zM).1 ≠ 0) : (if addrB (r1, r2) = true then (ckRun (r1, r2) l zM).1 else 1) ≠ 0 := by
  split
  · rename_i h
    rcases hq with h2 | h2
    · rw [h] at h2; cases h2
    · exact h2
  · decide
set_option maxRecDepth 100000 in
set_option maxHeartbeats 8000000 in
theorem machDoes_walk (r1 r2 : Nat) (A : Option Addr) (c : Nat) (cs : List Ck) (A2 : Option Addr) (c2 : Nat) (ds : List Dd) (w : World) (hr : fit (r1, r2)) (_hl : cs.length ≤ c ∧ c ≤ maxLen) (hC : CRow w w.heap.size A cs) (_hl2 : ds.length ≤ c2 ∧ c2 ≤ maxLen) (hD : DRow w w.heap.size A2 ds) :
    Calls Try.prog 4 #[.agg #[.int .u64 (r1 : Int), .int .u64 (r2 : Int)], .slice A cs.length c, .slice A2 ds.length c2] w fun e w' => e = .returned (.bool true) ∧ Below w.heap.size w w' := by
  have hb0 : Below w.heap.size w (w.alloc (spo r1 r2)) := (Below.refl _ _).alloc (Nat.le_refl _) _
  have HB0 := Lib.hid hb0
  have HBA : Hid (∀ v, Below (w.alloc (spo r1 r2)).heap.size (w.alloc (spo r1 r2)) v → v.cell? ⟨w.heap.size, 0, none⟩ = some (.int .u64 (r1 : Int)) ∧ v.cell? ⟨w.heap.size, 1, none⟩ = some (.int .u64 (r2 : Int))) := Lib.hid fun v hv => by
    have h : Blk v w.heap.size 24 (boxSp r1 r2) := Blk.under (Blk.new _ _ _ rfl) hv
    exact ⟨h.cellAt 0 rfl, h.cellAt 1 rfl⟩
  have HCR : Hid (∀ W, Below w.heap.size w W → CRow W W.heap.size A cs) := Lib.hid fun W hW => by
    have h := hC.below hW
    exact ⟨fun hn => by obtain ⟨a, e, h1, h2⟩ := h.1 hn; exact ⟨a, e, Nat.lt_of_lt_of_le h1 hW.size, h2⟩, fun y hy => ⟨(h.2 y hy).1, (h.2 y hy).2.1.wide hW.size, (h.2 y hy).2.2⟩⟩
  have HDR : Hid (∀ W, Below w.heap.size w W → DRow W W.heap.size A2 ds) := Lib.hid fun W hW => by
    have h := hD.below hW
    exact ⟨fun hn => by obtain ⟨a, e, h1, h2⟩ := h.1 hn; exact ⟨a, e, Nat.lt_of_lt_of_le h1 hW.size, h2⟩, fun y hy => ⟨(h.2 y hy).1, (h.2 y hy).2.1, (h.2 y hy).2.2.1, (h.2 y hy).2.2.2.1.wide hW.size, (h.2 y hy).2.2.2.2⟩⟩
  have HD0 := Lib.hid hD
  obtain ⟨F, hF⟩ : ∃ F, F = fewB ds cs := ⟨_, rfl⟩
  have HFW : Hid (∀ W, Below w.heap.size w W → Calls Try.prog 13 #[.slice A2 ds.length c2, .slice A cs.length c] W fun e w' => e = .returned (.bool F) ∧ Below W.heap.size W w') := Lib.hid fun W hW => by
    rw [hF]
    exact few_any A2 c2 ds A c cs W (HDR.out W hW) (HCR.out W hW)
  clear hC hD hb0
  cases F with
  | false =>
    clear hr hF
    go_enter Try.func4, Try.ntmps4
    go_wp2_with (first
      | (go_at_call 10; refine (awake_any _).mono ?_; rintro e w1 ⟨rfl, hd⟩; have H1 := Lib.hid (HB0.out.trans (hd.mono HB0.out.size)); have HD1 := Lib.hid hd; clear hd)
      | (go_at_call 13; refine (HFW.out _ H1.out).mono ?_; rintro e w2 ⟨rfl, hd⟩; have H2 := Lib.hid (H1.out.trans (hd.mono H1.out.size)); have HD2 := Lib.hid (HD1.out.trans (hd.mono HD1.out.size)); obtain ⟨d0, d1⟩ := HBA.out w2 HD2.out; clear hd))
    go_ret
    exact ⟨rfl, H2.out⟩
  | true =>
    obtain ⟨hf1, hf2, hf3, hf4⟩ := few_iff hF.symm
    have hk : cs.length ≤ 1000 := by omega
    have hk6 : cs.length ≤ 1000000 := by omega
    by_cases hq : addrB (r1, r2) = false ∨ (ckRun (r1, r2) cs zM).1 ≠ 0
    · have HN := Lib.hid (fun W hW => new_no r1 r2 hr A c cs hk6 W (HCR.out W hW) hq)
      have HRN := Lib.hid (fun W hW => rnew_no9 r1 r2 hr A c cs hk W (HCR.out W hW) hq)
      have hE0 := new_err9 hq
      obtain ⟨E, hE⟩ : ∃ E, E = (if addrB (r1, r2) = true then (ckRun (r1, r2) cs zM).1 else 1) := ⟨_, rfl⟩
      rw [← hE] at hE0 HN HRN
      clear hr hF hf1 hf2 hf3 hf4 hk hk6 hq hE hE0
      go_enter Try.func4, Try.ntmps4
      go_wp2_with (first
        | (go_at_call 10; refine (awake_any _).mono ?_; rintro e w1 ⟨rfl, hd⟩; have H1 := Lib.hid (HB0.out.trans (hd.mono HB0.out.size)); have HD1 := Lib.hid hd; clear hd)
        | (go_at_call 13; refine (HFW.out _ H1.out).mono ?_; rintro e w2 ⟨rfl, hd⟩; have H2 := Lib.hid (H1.out.trans (hd.mono H1.out.size)); have HD2 := Lib.hid (HD1.out.trans (hd.mono HD1.out.size)); obtain ⟨d0, d1⟩ := HBA.out w2 HD2.out; clear hd)
        | (go_at_call 14; refine (HN.out _ H2.out).mono ?_; rintro e w3 ⟨rfl, hd⟩; have H3 := Lib.hid (H2.out.trans (hd.mono H2.out.size)); have HD3 := Lib.hid (HD2.out.trans (hd.mono HD2.out.size)); clear d0 d1; obtain ⟨d0, d1⟩ := HBA.out w3 HD3.out; clear hd)
        | (go_at_call 15; refine (HRN.out _ H3.out).mono ?_; rintro e w4 ⟨rfl, hd⟩; have H4 := Lib.hid (H3.out.trans (hd.mono H3.out.size)); clear hd d0 d1))
      go_ret
      exact ⟨rfl, H4.out⟩
    have hq1 : addrB (r1, r2) = true := by cases h : addrB (r1, r2); exact absurd (Or.inl h) hq; rfl
    have hq2 : (ckRun (r1, r2) cs zM).1 = 0 := Classical.byContradiction fun h => hq (Or.inr h)
    have HN := Lib.hid (fun W hW => new_yes r1 r2 hr A c cs hk6 W (HCR.out W hW) hq1 hq2)
    have HRN := Lib.hid (fun W hW => rnew_yes9 r1 r2 hr A c cs hk W (HCR.out W hW) hq1 hq2)
    obtain ⟨m0, hm0⟩ : ∃ m0, m0 = (ckRun (r1, r2) cs zM).2 := ⟨_, rfl⟩
    rw [← hm0] at HN HRN
    obtain ⟨N, hN⟩ : ∃ N, N = 300 * cs.length := ⟨_, rfl⟩
    rw [← hN] at HN HRN
    have HNB : Hid (N ≤ 3000 ∧ ds.length ≤ 40 ∧ ∀ x ∈ ds, x.l.length ≤ 5000) := Lib.hid ⟨by omega, hf1, fun x hx => by
      have := hf3 x hx
      unfold dOk at this
      simp only [Bool.and_eq_true, decide_eq_true_eq] at this
      exact this.1⟩
    have hdl : ds.length ≤ 40 := hf1
    clear hr hF hf1 hf2 hf3 hf4 hk hk6 hq hq1 hq2 hm0 hN
    go_enter Try.func4, Try.ntmps4
    go_wp2_with (first
      | (go_at_call 10; refine (awake_any _).mono ?_; rintro e w1 ⟨rfl, hd⟩; have H1 := Lib.hid (HB0.out.trans (hd.mono HB0.out.size)); have HD1 := Lib.hid hd; clear hd)
      | (go_at_call 13; refine (HFW.out _ H1.out).mono ?_; rintro e w2 ⟨rfl, hd⟩; have H2 := Lib.hid (H1.out.trans (hd.mono H1.out.size)); have HD2 := Lib.hid (HD1.out.trans (hd.mono HD1.out.size)); obtain ⟨d0, d1⟩ := HBA.out w2 HD2.out; clear hd)
      | (go_at_call 14; refine (HN.out _ H2.out).mono ?_; rintro e w3 ⟨p, b, G, D, rfl, hM, hG, hp, hd⟩; have H3 := Lib.hid (H2.out.trans (hd.mono H2.out.size)); have HD3 := Lib.hid (HD2.out.trans (hd.mono HD2.out.size)); have H3m := Lib.hid (And.intro hM (fun i (hi : G i) => Nat.le_trans H2.out.size (hG i hi))); clear d0 d1; obtain ⟨d0, d1⟩ := HBA.out w3 HD3.out; clear hd hM hG hp)
      | (go_at_call 15; refine (HRN.out _ H3.out).mono ?_; rintro e w4 ⟨r, H, v, ps, rfl, hM, hH, hd⟩; have H4 := Lib.hid (H3.out.trans (hd.mono H3.out.size)); have H4b : Hid (BothE w4 w.heap.size p r (r1, r2) N m0) := Lib.hid ⟨G, H, b, D, v, ps, H3m.out.1.under hd, hM, fun i hi hh => Nat.not_le.2 (H3m.out.1.pg.lt i hi) (hH i hh), fun hh => Nat.not_le.2 H3m.out.1.blk.lt (hH p hh), H3m.out.2, fun i hi => Nat.le_trans H3.out.size (hH i hi)⟩; clear hd hM hH d0 d1))
    clear HN HRN
    go_loopw [57] (fun vi wr => ∃ (k : Nat) (m : Bytes8), k ≤ ds.length ∧ vi = .int .i64 k ∧ Hid (BothE wr w.heap.size p r (r1, r2) (N + 300 * k) m ∧ Below w.heap.size w wr)) (fun vi _ => ds.length - (intOf vi).toNat)
    case atStart => exact ⟨0, m0, Nat.zero_le _, rfl, Lib.hid ⟨H4b.out, H4.out⟩⟩
    case round =>
      obtain ⟨k, m, hk, rfl, hI⟩ := hrel
      by_cases hlt : k < ds.length
      · obtain ⟨a, q, rfl, hq, _, hc0, hc1, hc2, hc3⟩ := (HDR.out wr hI.out.2).at hlt
        have hat := HD0.out.2 _ (List.getElem_mem hlt)
        have h5 := HNB.out.2.2 _ (List.getElem_mem hlt)
        obtain ⟨x, hx⟩ : ∃ x, ds[k] = x := ⟨_, rfl⟩
        rw [hx] at hc0 hc1 hc2 hc3 hat h5
        obtain ⟨xk, xa, xn, xA, xc, xl⟩ := x
        obtain ⟨hx1, hx2, hx3, hx4, hx5, hx6⟩ := hat
        simp only at hc0 hc1 hc2 hc3 hx1 hx2 hx3 hx4 hx5 hx6 h5
        have HI := Lib.hid hlt
        have HDO : Hid (∀ W, Below wr.heap.size wr W → Calls Try.prog 16 #[.pointer (some ⟨p, 0, none⟩), .pointer (some ⟨r, 0, none⟩), .agg #[.int .i64 xk, .int .u64 (xa : Int), .int .u64 (xn : Int), .slice xA xl.length xc]] W fun e w' => e = .returned (.bool true) ∧
            ∃ m', BothE w' w.heap.size p r (r1, r2) (N + 300 * (k + 1)) m' ∧ Below w.heap.size w w') := Lib.hid fun W hW => by
          obtain ⟨⟨G, H, b, D, v, ps, hb⟩, hbl⟩ := hI.out
          have hbw := hbl.trans (hW.mono hbl.size)
          have h1 := HNB.out.1
          have h2 := HNB.out.2.1
          refine (do_any (hb.under hW) (by omega) hbw.size xk xa xn xA xc xl hx1 hx2 hx3 (hx4.below hbw) hx5 h5).mono ?_
          rintro e w' ⟨h3, h4, h5'⟩
          exact ⟨h3, _, h4, hbw.trans h5'⟩
        clear hx hx1 hx2 hx3 hx4 hx5 hx6 h5 hk hlt
        go_wp2_with (go_at_call 16; refine (HDO.out _ ((Below.refl _ _).alloc (Nat.le_refl _) _)).mono ?_; rintro e w5 ⟨rfl, hp5⟩; have HP5 := Lib.hid hp5; clear hp5)
        go_roundw
        case rel =>
          obtain ⟨m', h1, h2⟩ := HP5.out
          exact ⟨k + 1, m', HI.out, by go_num, Lib.hid ⟨h1, h2⟩⟩
        case measure => have := HI.out; simp [intOf]; omega
      · obtain rfl : k = ds.length := by omega
        obtain ⟨⟨G, H, b, D, v, ps, hb⟩, hbl⟩ := hI.out
        have HB := Lib.hid hb
        have HL := Lib.hid hbl
        have hNn : N + 300 * ds.length ≤ 900000 := by have := HNB.out; omega
        have HT1 := Lib.hid (mtouched_any hb.mc hNn)
        have HT2 := Lib.hid (fun W (hW : Below wr.heap.size wr W) => rtouched_any (hb.mr.under hW) hNn)
        clear hI hlt hk hb hbl hNn
        go_wp2_with (first
          | (go_at_call 18; refine HT1.out.mono ?_; rintro e w6 ⟨A6, c6, l6, rfl, h61, h62, h63, h64, h65⟩; have H6 := Lib.hid (And.intro h61 (And.intro h62 (And.intro h63 (And.intro h64 h65)))); clear h61 h62 h63 h64 h65)
          | (go_at_call 19; refine (HT2.out _ H6.out.2.2.2.2).mono ?_; rintro e w7 ⟨A7, c7, l7, rfl, h71, _, _, h72, h73, h74⟩; obtain rfl : l6 = l7 := touched_same HB.out.mc HB.out.mr H6.out.2.2.1 h72 H6.out.2.2.2.1 h73; have H7 := Lib.hid (And.intro ((H6.out.1.below h74).wide h74.size) (And.intro h71 (H6.out.2.2.2.2.trans (h74.mono H6.out.2.2.2.2.size)))); clear h71 h72 h73 h74)
          | (go_at_call 17; refine (same_any A6 A7 c6 c7 l6 _ (Nat.le_trans H6.out.2.1 (by decide)) H7.out.1 H7.out.2.1).mono ?_; rintro e w8 ⟨rfl, hd⟩; have H8 := Lib.hid (H7.out.2.2.trans (hd.mono H7.out.2.2.size)); clear hd))
        go_ret
        exact ⟨rfl, HL.out.trans (H8.out.mono HL.out.size)⟩
end Go.Proofs.Ytbemphfijkcbhaa
