/- The reference's Mem: any Read, any Write; NewMem. -/
import Derived.Test.YtbemphfijkcbhaaRwrite9
import Derived.Test.YtbemphfijkcbhaaRread9
import Derived.Test.YtbemphfijkcbhaaNew9
namespace Go.Proofs.Ytbemphfijkcbhaa
open Go.RowKit

set_option maxRecDepth 100000 in
set_option maxHeartbeats 1000000 in
theorem rread_any {w : World} {G : Nat → Prop} {r n : Nat} {ram : Sp} {v : Value} {ps : List RP} {m : Bytes8} (hM : MR w G r ram n v ps m) (hn : n ≤ 1000000) (at_ c : Nat) (hs : fit (at_, c)) :
    Calls Try.prog 31 #[.pointer (some ⟨r, 0, none⟩), .int .u64 (at_ : Int), .int .u64 (c : Int)] w fun e w' => ∃ A cap, e = .returned (.tuple #[.slice A (rdL ram m at_ c).length cap, .int .i64 (askR ram at_ c : Nat)]) ∧ Lies w' w'.heap.size 1 A (rdL ram m at_ c).length (u8s (rdL ram m at_ c)) ∧ Below w.heap.size w w' := by
  by_cases hq : askR ram at_ c = 0
  · refine (rread_ok hM hn at_ c hs hq).mono ?_
    rintro e w' ⟨A, cap, rfl, h1, h2⟩
    have e1 : rdL ram m at_ c = rdM m at_ c := if_pos hq
    rw [e1, hq, rdM_length]
    exact ⟨A, cap, rfl, h1, h2⟩
  · have HK := Lib.hid (rask_any hM at_ c hs.1 hs.2)
    have hlt := ask_lt ram at_ c
    have e1 : rdL ram m at_ c = [] := if_neg hq
    rw [e1]
    obtain ⟨q, hq0⟩ : ∃ q, q = askR ram at_ c := ⟨_, rfl⟩
    rw [← hq0] at hq HK hlt ⊢
    have h1 : ((q : Int) != 0) = true := by simp; omega
    have h2 : ¬ (q : Int) = 0 := by omega
    clear hM hn hs hq hq0 e1
    go_enter Try.func31, Try.ntmps31
    go_wp2_with (go_at_call 54; refine HK.out.mono ?_; rintro e w1 ⟨rfl, hd⟩; have HW1 := Lib.hid hd; clear hd)
    go_ret2
    exact ⟨none, 0, rfl, Lies.nil _ _ _ _, HW1.out⟩
set_option maxRecDepth 100000 in
set_option maxHeartbeats 1000000 in
theorem rwrite_any {w : World} {G : Nat → Prop} {r n : Nat} {ram : Sp} {v : Value} {ps : List RP} {m : Bytes8} (hM : MR w G r ram n v ps m) (hn : n + 300 ≤ 1000000) (at_ : Nat) (l : List UInt8) (A : Option Addr) (cap : Nat) (ha : at_ < 18446744073709551616) (hl : l.length ≤ maxLen)
    (hA : Lies w w.heap.size 1 A l.length (u8s l)) (hcap : l.length ≤ cap) (hag : ∀ q, A = some q → l.length ≠ 0 → ¬ G q.block) :
    Calls Try.prog 40 #[.pointer (some ⟨r, 0, none⟩), .int .u64 (at_ : Int), .slice A l.length cap] w fun e w' => e = .returned (.int .i64 (askR ram at_ l.length : Nat)) ∧
      ∃ G' v' ps', MR w' G' r ram (n + 300) v' ps' (wrR ram m at_ l) ∧ Turn G w w' ∧ ∀ i, G' i → G i ∨ w.heap.size ≤ i := by
  unfold maxLen at hl
  by_cases hq : askR ram at_ l.length = 0
  · have hv : wrR ram m at_ l = wrM m at_ l := if_pos hq
    rw [hv, hq]
    exact rwrite_ok hM hn at_ l A cap ha hA hcap hag hq
  · have hv : wrR ram m at_ l = m := if_neg hq
    rw [hv]
    have HK := Lib.hid (rask_any hM at_ l.length ha (by omega))
    have hlt := ask_lt ram at_ l.length
    have HM := Lib.hid hM
    obtain ⟨q, hq0⟩ : ∃ q, q = askR ram at_ l.length := ⟨_, rfl⟩
    rw [← hq0] at hq HK hlt ⊢
    have h1 : ((q : Int) != 0) = true := by simp; omega
    have h2 : ¬ (q : Int) = 0 := by omega
    clear hM hn hq hq0 hv hA hcap hag
    go_enter Try.func40, Try.ntmps40
    go_wp2_with (go_at_call 54; refine HK.out.mono ?_; rintro e w1 ⟨rfl, hd⟩; have HW1 := Lib.hid hd; clear hd)
    go_ret
    exact ⟨rfl, G, v, ps, (HM.out.under HW1.out).mono (by omega), Turn.of_below HW1.out, fun i hi => Or.inl hi⟩
theorem MR.made (w : World) (ram : Sp) (hr : RamOk ram) : MR (w.alloc (.cells #[.int .u64 (ram.1 : Int), .int .u64 (ram.2 : Int), .slice none 0 0] 90)) (fun i => i = w.heap.size) w.heap.size ram 0 (.slice none 0 0) [] zM :=
  ⟨Blk.new _ _ _ rfl, rfl, World.ownsRow_nil _ _ _ _, (fun k hk => by simp [Value.ownBlock] at hk), (fun i hi => by simp; omega), (fun x hx => by cases hx), (fun x hx => by cases hx), List.nodup_nil, (fun _ _ _ _ _ => rfl), Nat.le_refl _, hr⟩
/-- Chunks are being written. -/
structure NR (w wr : World) (G : Nat → Prop) (p : Nat) (r : Sp) (l : List Ck) (k : Nat) (v : Value) (ps : List RP) (m : Bytes8) : Prop where
  mr : MR wr G p r (300 * k) v ps m
  bel : Below w.heap.size w wr
  gs : ∀ i, G i → w.heap.size ≤ i
  run : ckRun r l zM = ckRun r (l.drop k) m
/-- How the reference's NewMem ends. -/
def NewPostR (w : World) (r : Sp) (l : List Ck) (e : Ending) (w' : World) : Prop := Below w.heap.size w w' ∧
  ((addrB r = false ∧ e = .returned (.tuple #[.pointer none, .int .i64 1])) ∨ (addrB r = true ∧ (ckRun r l zM).1 ≠ 0 ∧ e = .returned (.tuple #[.pointer none, .int .i64 ((ckRun r l zM).1 : Int)])) ∨
   (addrB r = true ∧ (ckRun r l zM).1 = 0 ∧ ∃ p G v ps, e = .returned (.tuple #[.pointer (some ⟨p, 0, none⟩), .int .i64 0]) ∧ MR w' G p r (300 * l.length) v ps (ckRun r l zM).2 ∧ (∀ i, G i → w.heap.size ≤ i)))
set_option maxRecDepth 100000 in
set_option maxHeartbeats 4000000 in
theorem rnewmem_any (r1 r2 : Nat) (hr : fit (r1, r2)) (A : Option Addr) (c : Nat) (l : List Ck) (hl : l.length ≤ 1000) (w : World) (hC : CRow w w.heap.size A l) :
    Calls Try.prog 15 #[.agg #[.int .u64 (r1 : Int), .int .u64 (r2 : Int)], .slice A l.length c] w (NewPostR w (r1, r2) l) := by
  have HPG := Lib.hid (rpages_any r1 r2 hr)
  have HLA := Lib.hid (rlast_bel r1 r2 hr)
  have HC := Lib.hid hC
  have HL := Lib.hid hl
  have hb0 : Below w.heap.size w (w.alloc (spo r1 r2)) := (Below.refl _ _).alloc (Nat.le_refl _) _
  have HB0 := Lib.hid hb0
  have HBA : Hid (∀ v, Below (w.alloc (spo r1 r2)).heap.size (w.alloc (spo r1 r2)) v → v.cell? ⟨w.heap.size, 0, none⟩ = some (.int .u64 (r1 : Int)) ∧ v.cell? ⟨w.heap.size, 1, none⟩ = some (.int .u64 (r2 : Int))) := Lib.hid fun v hv => by
    have h : Blk v w.heap.size 24 (boxSp r1 r2) := Blk.under (Blk.new _ _ _ rfl) hv
    exact ⟨h.cellAt 0 rfl, h.cellAt 1 rfl⟩
  obtain ⟨Q, hQ⟩ : ∃ Q, Q = NewPostR w (r1, r2) l := ⟨_, rfl⟩
  rw [← hQ]
  have HQ := Lib.hid hQ
  clear hC hl hb0 hQ
  cases hz : paged (r1, r2) with
  | false =>
    rw [hz] at HPG
    have HZ : Hid (addrB (r1, r2) = false) := Lib.hid (by unfold addrB; rw [hz]; rfl)
    clear hz hr
    go_enter Try.func15, Try.ntmps15
    go_wp2_with (go_at_call 37; refine (HPG.out _).mono ?_; rintro e w1 ⟨rfl, hd⟩; have HD := Lib.hid hd; clear hd)
    rw [HQ.out]
    exact ⟨HB0.out.trans (HD.out.mono HB0.out.size), Or.inl ⟨HZ.out, rfl⟩⟩
  | true =>
    rw [hz] at HPG
    obtain ⟨la, hla⟩ : ∃ la, la = last (r1, r2) := ⟨_, rfl⟩
    rw [← hla] at HLA
    by_cases hlt : la < 1099511627776
    · have hlt' : ¬ (1099511627776 : Int) ≤ la := by omega
      have hlt2 : decide ((1099511627776 : Int) ≤ la) = false := decide_eq_false hlt'
      have HZ : Hid (addrB (r1, r2) = true) := Lib.hid (by unfold addrB; rw [hz, ← hla, decide_eq_true hlt]; rfl)
      have HOK := Lib.hid ((addrB_iff _).1 HZ.out)
      clear hz hr hla hlt
      go_enter Try.func15, Try.ntmps15
      go_wp2_with (first
        | (go_at_call 37; refine (HPG.out _).mono ?_; rintro e w1 ⟨rfl, hd⟩; have HD1 := Lib.hid hd; obtain ⟨c0, c1⟩ := HBA.out w1 hd; clear hd)
        | (go_at_call 38; refine (HLA.out _).mono ?_; rintro e w2 ⟨rfl, hd⟩; have HD2 := Lib.hid (HD1.out.trans (hd.mono HD1.out.size)); obtain ⟨d0, d1⟩ := HBA.out w2 HD2.out; clear hd))
      obtain ⟨W0, hW0⟩ : ∃ W0, W0 = w2.alloc (.cells #[.int .u64 (r1 : Int), .int .u64 (r2 : Int), .slice none 0 0] 90) := ⟨_, rfl⟩
      have hb1 := HB0.out.trans (HD2.out.mono HB0.out.size)
      have hs1 := hb1.size
      have HN0 : Hid (NR w W0 (fun i => i = w2.heap.size) w2.heap.size (r1, r2) l 0 (.slice none 0 0) [] zM) := Lib.hid (by
        rw [hW0]
        exact ⟨MR.made w2 (r1, r2) HOK.out, hb1.alloc (by omega) _, fun i hi => by omega, rfl⟩)
      rw [← hW0]
      clear hW0 hb1 hs1 c0 c1 d0 d1
      obtain ⟨b, hb⟩ : ∃ b, b = w2.heap.size := ⟨_, rfl⟩
      rw [← hb] at HN0
      simp only [← hb]
      clear hb HD1 HD2
      go_loopw [23] (fun i wr => ∃ (k : Nat) (G : Nat → Prop) (v : Value) (ps : List RP) (m : Bytes8), k ≤ l.length ∧ i = .int .i64 k ∧ Hid (NR w wr G b (r1, r2) l k v ps m)) (fun i _ => l.length - (intOf i).toNat)
      case atStart => exact ⟨0, _, _, _, _, Nat.zero_le _, rfl, HN0⟩
      case round =>
        obtain ⟨k, G, v, ps, m, hk, rfl, hN⟩ := hrel
        have HK := Lib.hid hk
        by_cases hlt : k < l.length
        · obtain ⟨a, q, rfl, hq, hqb, hc1, hc2⟩ := (HC.out.below hN.out.bel).at hlt
          have hck := (HC.out.below hN.out.bel).2 _ (List.getElem_mem hlt)
          have hdr : l.drop k = l[k] :: l.drop (k + 1) := List.drop_eq_getElem_cons hlt
          obtain ⟨x, hx⟩ : ∃ x, l[k] = x := ⟨_, rfl⟩
          rw [hx] at hc1 hc2 hck hdr
          obtain ⟨xa, xA, xc, xl⟩ := x
          obtain ⟨hx1, hx2, hx3, hx4⟩ := hck
          simp only at hc1 hc2 hx1 hx2 hx3 hx4
          have hsz := hN.out.bel.size
          obtain ⟨E, hE⟩ : ∃ E, E = askR (r1, r2) xa xl.length := ⟨_, rfl⟩
          have HWR : Hid (∀ u, Below wr.heap.size wr u → Calls Try.prog 40 #[.pointer (some ⟨b, 0, none⟩), .int .u64 (xa : Int), .slice xA xl.length xc] u fun e w' => e = .returned (.int .i64 (E : Int)) ∧
              ∃ G' v' ps', MR w' G' b (r1, r2) (300 * (k + 1)) v' ps' (wrR (r1, r2) m xa xl) ∧ Below w.heap.size w w' ∧ ∀ i, G' i → w.heap.size ≤ i) := Lib.hid fun u hu => by
            have hgs := hN.out.gs
            have hl1 := HL.out
            refine (rwrite_any (hN.out.mr.under hu) (by omega) xa xl xA xc hx1 (by omega) ((hx2.below (hu.mono hsz)).wide (by have := hu.size; omega)) hx3 (fun q' e hn0 hg => ?_)).mono ?_
            · obtain ⟨a', e', hb', _⟩ := hx2.2 hn0
              rw [e] at e'
              cases e'
              have := hgs _ hg
              omega
            · rintro e w' ⟨rfl, G', v', ps', h1, h2, h3⟩
              have hvs := hu.size
              refine ⟨by rw [hE], G', v', ps', h1, (hN.out.bel.trans (hu.mono hsz)).trans (h2.below hgs (by omega)), fun i hi => ?_⟩
              rcases h3 i hi with h | h
              · exact hgs i h
              · omega
          have HRN : Hid (E = 0 → ckRun (r1, r2) l zM = ckRun (r1, r2) (l.drop (k + 1)) (wrR (r1, r2) m xa xl)) := Lib.hid fun h0 => by
            rw [hN.out.run, hdr, wrR_ok (by rw [← hE]; exact h0)]
            exact if_pos (by rw [← hE]; exact h0)
          have HRE : Hid (E ≠ 0 → (ckRun (r1, r2) l zM).1 = E) := Lib.hid fun h0 => by
            rw [hN.out.run, hdr]
            have e : ckRun (r1, r2) (⟨xa, xA, xc, xl⟩ :: l.drop (k + 1)) m = (askR (r1, r2) xa xl.length, m) := if_neg (by rw [← hE]; exact h0)
            rw [e, hE]
          have hlE := ask_lt (r1, r2) xa xl.length
          rw [← hE] at hlE
          have hb3 : k + 1 ≤ 1000 := by have := HL.out; omega
          have HLT := Lib.hid hlt
          clear hx hx1 hx2 hx3 hx4 hdr hk hE hsz hqb hN
          by_cases hE0 : E = 0
          · subst hE0
            have HRN2 := Lib.hid (HRN.out rfl)
            have HWR2 : Hid (∀ u, Below wr.heap.size wr u → Calls Try.prog 40 #[.pointer (some ⟨b, 0, none⟩), .int .u64 (xa : Int), .slice xA xl.length xc] u fun e w' => e = .returned (.int .i64 0) ∧
              ∃ G' v' ps', MR w' G' b (r1, r2) (300 * (k + 1)) v' ps' (wrR (r1, r2) m xa xl) ∧ Below w.heap.size w w' ∧ ∀ i, G' i → w.heap.size ≤ i) := HWR
            clear HWR HRN HRE hlE
            go_wp2_with (go_at_call 40; refine (HWR2.out _ ((Below.refl _ _).alloc (Nat.le_refl _) _)).mono ?_; rintro e w3 ⟨rfl, hp3⟩; have HP3 := Lib.hid hp3; clear hp3)
            go_roundw
            case rel =>
              obtain ⟨G', v', ps', h1, h2, h3⟩ := HP3.out
              exact ⟨k + 1, G', v', ps', _, HLT.out, by go_num, Lib.hid ⟨h1, h2, h3, HRN2.out⟩⟩
            case measure => have := HLT.out; simp [intOf]; omega
          · have h1 : ((E : Int) != 0) = true := by simp; omega
            have h2 : ¬ (E : Int) = 0 := by omega
            have HRE2 := Lib.hid (And.intro (HRE.out hE0) hE0)
            clear HRE HRN hE0
            go_wp2_with (go_at_call 40; refine (HWR.out _ ((Below.refl _ _).alloc (Nat.le_refl _) _)).mono ?_; rintro e w3 ⟨rfl, hp3⟩; have HP3 := Lib.hid hp3; clear hp3)
            rw [HQ.out]
            obtain ⟨G', v', ps', h3, h4, h5⟩ := HP3.out
            exact ⟨h4, Or.inr (Or.inl ⟨HZ.out, by rw [HRE2.out.1]; exact HRE2.out.2, by rw [HRE2.out.1]; rfl⟩)⟩
        · obtain rfl : k = l.length := by omega
          have HF := Lib.hid hN.out
          clear hN hlt hk
          go_wp2
          rw [HQ.out]
          have h0 := HF.out.run
          rw [List.drop_length] at h0
          have h1 : ckRun (r1, r2) l zM = (0, m) := h0
          exact ⟨HF.out.bel, Or.inr (Or.inr ⟨HZ.out, by rw [h1], b, G, v, ps, rfl, by rw [h1]; exact HF.out.mr, HF.out.gs⟩)⟩
    · have hlt' : (1099511627776 : Int) ≤ la := by omega
      have hlt2 : decide ((1099511627776 : Int) ≤ la) = true := decide_eq_true hlt'
      have HZ : Hid (addrB (r1, r2) = false) := Lib.hid (by unfold addrB; rw [hz, ← hla, decide_eq_false hlt]; rfl)
      clear hz hr hla hlt
      go_enter Try.func15, Try.ntmps15
      go_wp2_with (first
        | (go_at_call 37; refine (HPG.out _).mono ?_; rintro e w1 ⟨rfl, hd⟩; have HD1 := Lib.hid hd; obtain ⟨c0, c1⟩ := HBA.out w1 hd; clear hd)
        | (go_at_call 38; refine (HLA.out _).mono ?_; rintro e w2 ⟨rfl, hd⟩; have HD2 := Lib.hid (HD1.out.trans (hd.mono HD1.out.size)); clear hd))
      rw [HQ.out]
      exact ⟨HB0.out.trans (HD2.out.mono HB0.out.size), Or.inl ⟨HZ.out, rfl⟩⟩
end Go.Proofs.Ytbemphfijkcbhaa
