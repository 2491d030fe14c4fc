/- mach.NewMem. -/
import Derived.Test.YtbemphfijkcbhaaFit9
namespace Go.Proofs.Ytbemphfijkcbhaa
open Go.RowKit

/-- A chunk. -/
structure Ck where
  at_ : Nat
  A : Option Addr
  c : Nat
  l : List UInt8
def CkAt (w : World) (B : Nat) (x : Ck) : Prop := x.at_ < 18446744073709551616 ∧ Lies w B 1 x.A x.l.length (u8s x.l) ∧ x.l.length ≤ x.c ∧ x.c ≤ maxLen
/-- The slice at A holds these chunks. -/
def CRow (w : World) (B : Nat) (A : Option Addr) (l : List Ck) : Prop :=
  (l ≠ [] → ∃ a, A = some a ∧ a.block < B ∧ ∀ j (h : j < l.length), w.cell? (a.add (j * 2)) = some (.int .u64 (l[j].at_ : Int)) ∧ w.cell? (a.add (j * 2 + 1)) = some (.slice l[j].A l[j].l.length l[j].c)) ∧ ∀ x ∈ l, CkAt w B x
theorem CkAt.below {w w' : World} {B : Nat} {x : Ck} (h : CkAt w B x) (hb : Below B w w') : CkAt w' B x := ⟨h.1, h.2.1.below hb, h.2.2⟩
theorem CRow.below {w w' : World} {B : Nat} {A : Option Addr} {l : List Ck} (h : CRow w B A l) (hb : Below B w w') : CRow w' B A l :=
  ⟨fun hn => by
    obtain ⟨a, e, h1, h2⟩ := h.1 hn
    exact ⟨a, e, h1, fun j hj => ⟨(hb.cell (by rw [addr_add_block]; exact h1)).trans (h2 j hj).1, (hb.cell (by rw [addr_add_block]; exact h1)).trans (h2 j hj).2⟩⟩, fun x hx => (h.2 x hx).below hb⟩
theorem CRow.at {w : World} {B k : Nat} {A : Option Addr} {l : List Ck} (h : CRow w B A l) (hk : k < l.length) : ∃ a p, A = some a ∧ a.add (k * 2) = p ∧ p.block < B ∧ w.cell? p = some (.int .u64 (l[k].at_ : Int)) ∧ w.cell? ⟨p.block, p.off + 1, none⟩ = some (.slice l[k].A l[k].l.length l[k].c) := by
  obtain ⟨a, e, hb, hc⟩ := h.1 (fun hn => by subst hn; cases hk)
  refine ⟨a, _, e, rfl, by rw [addr_add_block]; exact hb, (hc k hk).1, ?_⟩
  have h2 := (hc k hk).2
  rw [← addr_add_add] at h2
  exact h2
theorem CRow.nil (w : World) (B : Nat) (A : Option Addr) : CRow w B A [] := ⟨fun h => absurd rfl h, fun x hx => by cases hx⟩
/-- Chunks, written one behind the other: the first error, what there is. -/
def ckRun (r : Sp) : List Ck → Bytes8 → Nat × Bytes8
  | [], m => (0, m)
  | x :: xs, m => if askR r x.at_ x.l.length = 0 then ckRun r xs (wrM m x.at_ x.l) else (askR r x.at_ x.l.length, m)
def zM : Bytes8 := fun _ => 0
/-- Chunks are being written. -/
structure NI (w wr : World) (G : Nat → Prop) (p b : Nat) (r : Sp) (l : List Ck) (k : Nat) (D : DataW Unit) (m : Bytes8) : Prop where
  mc : MC wr G p b r (300 * k) D m
  bel : Below w.heap.size w wr
  gs : ∀ i, G i → w.heap.size ≤ i
  run : ckRun r l zM = ckRun r (l.drop k) m
theorem wrR_ok {r : Sp} {m : Bytes8} {a : Nat} {l : List UInt8} (h : askR r a l.length = 0) : wrR r m a l = wrM m a l := if_pos h
/-- How NewMem ends. -/
def NewPost (w : World) (r : Sp) (l : List Ck) (e : Ending) (w' : World) : Prop := Below w.heap.size w w' ∧
  ((addrB r = false ∧ e = .returned (.tuple #[.pointer none, .int .i64 1])) ∨ (addrB r = true ∧ (ckRun r l zM).1 ≠ 0 ∧ e = .returned (.tuple #[.pointer none, .int .i64 ((ckRun r l zM).1 : Int)])) ∨
   (addrB r = true ∧ (ckRun r l zM).1 = 0 ∧ ∃ p b G D, e = .returned (.tuple #[.pointer (some ⟨p, 0, none⟩), .int .i64 0]) ∧ MC w' G p b r (300 * l.length) D (ckRun r l zM).2 ∧ (∀ i, G i → w.heap.size ≤ i) ∧ w.heap.size ≤ p))
set_option maxRecDepth 100000 in
set_option maxHeartbeats 2000000 in
theorem newmem_any (r1 r2 : Nat) (hr : fit (r1, r2)) (A : Option Addr) (c : Nat) (l : List Ck) (hl : l.length ≤ 1000000) (w : World) (hC : CRow w w.heap.size A l) :
    Calls Try.prog 14 #[.agg #[.int .u64 (r1 : Int), .int .u64 (r2 : Int)], .slice A l.length c] w (NewPost w (r1, r2) l) := by
  have HA := Lib.hid (addressed_any r1 r2 hr)
  have hmm := @run_makeMap Try.prog
  have HC := Lib.hid hC
  have HL := Lib.hid hl
  have hb0 : Below w.heap.size w (w.alloc (spo r1 r2)) := (Below.refl _ _).alloc (Nat.le_refl _) _
  have HB0 := Lib.hid hb0
  have HBA : Hid (∀ v, Below (w.alloc (spo r1 r2)).heap.size (w.alloc (spo r1 r2)) v → v.cell? ⟨w.heap.size, 0, none⟩ = some (.int .u64 (r1 : Int)) ∧ v.cell? ⟨w.heap.size, 1, none⟩ = some (.int .u64 (r2 : Int))) := Lib.hid fun v hv => by
    have h : Blk v w.heap.size 24 (boxSp r1 r2) := Blk.under (Blk.new _ _ _ rfl) hv
    exact ⟨h.cellAt 0 rfl, h.cellAt 1 rfl⟩
  obtain ⟨Q, hQ⟩ : ∃ Q, Q = NewPost w (r1, r2) l := ⟨_, rfl⟩
  rw [← hQ]
  have HQ := Lib.hid hQ
  clear hC hl hb0 hQ
  cases hz : addrB (r1, r2) with
  | false =>
    rw [hz] at HA
    have HZ := Lib.hid hz
    clear hz hr
    go_enter Try.func14, Try.ntmps14
    go_wp2_with (go_at_call 33; refine (HA.out _).mono ?_; rintro e w1 ⟨rfl, hd⟩; have HD := Lib.hid hd; clear hd)
    rw [HQ.out]
    exact ⟨HB0.out.trans (HD.out.mono HB0.out.size), Or.inl ⟨HZ.out, rfl⟩⟩
  | true =>
    rw [hz] at HA
    have HZ := Lib.hid hz
    have HOK := Lib.hid ((addrB_iff _).1 hz)
    clear hz hr
    go_enter Try.func14, Try.ntmps14
    go_wp2_with (go_at_call 33; refine (HA.out _).mono ?_; rintro e w1 ⟨rfl, hd⟩; have HD := Lib.hid hd; obtain ⟨c0, c1⟩ := HBA.out w1 hd; clear hd)
    obtain ⟨W0, hW0⟩ : ∃ W0, W0 = (w1.alloc (.map #[] 0)).alloc (.cells #[.int .u64 (r1 : Int), .int .u64 (r2 : Int), .map (some w1.heap.size)] 87) := ⟨_, rfl⟩
    have hb1 := HB0.out.trans (HD.out.mono HB0.out.size)
    have hs1 := hb1.size
    have HN0 : Hid (NI w W0 (fun i => i = w1.heap.size) (w1.heap.size + 1) w1.heap.size (r1, r2) l 0 (.map []) zM) := Lib.hid (by
      rw [hW0]
      refine ⟨⟨Blk.new _ _ _ (by simp), by simp, (Pg.made w1).alloc _, HOK.out⟩, (hb1.alloc (by omega) _).alloc (by simp; omega) _, fun i hi => by omega, rfl⟩)
    have HP : Hid (w.heap.size ≤ w1.heap.size + 1) := Lib.hid (by omega)
    rw [← hW0]
    clear hW0 hb1 hs1 c0 c1 hmm
    obtain ⟨b, hb⟩ : ∃ b, b = w1.heap.size := ⟨_, rfl⟩
    rw [← hb] at HN0 HP
    simp only [← hb]
    clear hb HD
    go_loopw [19] (fun i wr => ∃ (k : Nat) (G : Nat → Prop) (D : DataW Unit) (m : Bytes8), k ≤ l.length ∧ i = .int .i64 k ∧ Hid (NI w wr G (b + 1) b (r1, r2) l k D m)) (fun i _ => l.length - (intOf i).toNat)
    case atStart => exact ⟨0, _, _, _, Nat.zero_le _, rfl, HN0⟩
    case round =>
      obtain ⟨k, G, D, m, hk, rfl, hN⟩ := hrel
      have HK := Lib.hid hk
      by_cases hlt : k < l.length
      · obtain ⟨a, q, rfl, hq, hqb, hc1, hc2⟩ := (HC.out.below hN.out.bel).at hlt
        have hck := (HC.out.below hN.out.bel).2 _ (List.getElem_mem hlt)
        have hdr : l.drop k = l[k] :: l.drop (k + 1) := List.drop_eq_getElem_cons hlt
        obtain ⟨x, hx⟩ : ∃ x, l[k] = x := ⟨_, rfl⟩
        rw [hx] at hc1 hc2 hck hdr
        obtain ⟨xa, xA, xc, xl⟩ := x
        obtain ⟨hx1, hx2, hx3, hx4⟩ := hck
        simp only at hc1 hc2 hx1 hx2 hx3 hx4
        have hsz := hN.out.bel.size
        obtain ⟨E, hE⟩ : ∃ E, E = askR (r1, r2) xa xl.length := ⟨_, rfl⟩
        have HWR : Hid (∀ v, Below wr.heap.size wr v → Calls Try.prog 21 #[.pointer (some ⟨b + 1, 0, none⟩), .int .u64 (xa : Int), .slice xA xl.length xc] v fun e w' => e = .returned (.int .i64 (E : Int)) ∧
            ∃ G' D', MC w' G' (b + 1) b (r1, r2) (300 * (k + 1)) D' (wrR (r1, r2) m xa xl) ∧ Below w.heap.size w w' ∧ ∀ i, G' i → w.heap.size ≤ i) := Lib.hid fun v hv => by
          have hgs := hN.out.gs
          have hl1 := HL.out
          refine (mwrite_any (hN.out.mc.under hv) (by unfold maxLen; omega) xa xl xA xc hx1 (by omega) ((hx2.below (hv.mono hsz)).wide (by have := hv.size; omega)) hx3 (fun q' e hn0 hg => ?_)).mono ?_
          · obtain ⟨a', e', hb', _⟩ := hx2.2 hn0
            rw [e] at e'
            cases e'
            have := hgs _ hg
            omega
          · rintro e w' ⟨rfl, G', D', h1, h2, h3⟩
            have hvs := hv.size
            refine ⟨by rw [hE], G', D', h1, (hN.out.bel.trans (hv.mono hsz)).trans (h2.below hgs (by omega)), fun i hi => ?_⟩
            rcases h3 i hi with h | h
            · exact hgs i h
            · omega
        have HRN : Hid (E = 0 → ckRun (r1, r2) l zM = ckRun (r1, r2) (l.drop (k + 1)) (wrR (r1, r2) m xa xl)) := Lib.hid fun h0 => by
          rw [hN.out.run, hdr, wrR_ok (by rw [← hE]; exact h0)]
          exact if_pos (by rw [← hE]; exact h0)
        have HRE : Hid (E ≠ 0 → (ckRun (r1, r2) l zM).1 = E) := Lib.hid fun h0 => by
          rw [hN.out.run, hdr]
          have e : ckRun (r1, r2) (⟨xa, xA, xc, xl⟩ :: l.drop (k + 1)) m = (askR (r1, r2) xa xl.length, m) := if_neg (by rw [← hE]; exact h0)
          rw [e, hE]
        have hlE := ask_lt (r1, r2) xa xl.length
        rw [← hE] at hlE
        have HQB := Lib.hid hqb
        have hb3 : k + 1 ≤ 1000000 := by have := HL.out; omega
        have HLT := Lib.hid hlt
        have HBL := Lib.hid hN.out.bel
        clear hx hx1 hx2 hx3 hx4 hdr hk hE hsz hqb hN
        by_cases hE0 : E = 0
        · subst hE0
          have HRN2 := Lib.hid (HRN.out rfl)
          have HWR2 : Hid (∀ v, Below wr.heap.size wr v → Calls Try.prog 21 #[.pointer (some ⟨b + 1, 0, none⟩), .int .u64 (xa : Int), .slice xA xl.length xc] v fun e w' => e = .returned (.int .i64 0) ∧
            ∃ G' D', MC w' G' (b + 1) b (r1, r2) (300 * (k + 1)) D' (wrR (r1, r2) m xa xl) ∧ Below w.heap.size w w' ∧ ∀ i, G' i → w.heap.size ≤ i) := HWR
          clear HWR HRN HRE hlE
          go_wp2_with (go_at_call 21; refine (HWR2.out _ ((Below.refl _ _).alloc (Nat.le_refl _) _)).mono ?_; rintro e w3 ⟨rfl, hp3⟩; have HP3 := Lib.hid hp3; clear hp3)
          go_roundw
          case rel =>
            obtain ⟨G', D', h1, h2, h3⟩ := HP3.out
            exact ⟨k + 1, G', D', _, HLT.out, by go_num, Lib.hid ⟨h1, h2, h3, HRN2.out⟩⟩
          case measure => have := HLT.out; simp [intOf]; omega
        · have h1 : ((E : Int) != 0) = true := by simp; omega
          have h2 : ¬ (E : Int) = 0 := by omega
          have HRE2 := Lib.hid (And.intro (HRE.out hE0) hE0)
          clear HRE HRN hE0
          go_wp2_with (go_at_call 21; refine (HWR.out _ ((Below.refl _ _).alloc (Nat.le_refl _) _)).mono ?_; rintro e w3 ⟨rfl, hp3⟩; have HP3 := Lib.hid hp3; clear hp3)
          rw [HQ.out]
          obtain ⟨G', D', h3, h4, h5⟩ := HP3.out
          exact ⟨h4, Or.inr (Or.inl ⟨HZ.out, by rw [HRE2.out.1]; exact HRE2.out.2, by rw [HRE2.out.1]; rfl⟩)⟩
      · obtain rfl : k = l.length := by omega
        have HF := Lib.hid hN.out
        clear hN hlt hk
        go_wp2
        rw [HQ.out]
        have h0 := HF.out.run
        rw [List.drop_length] at h0
        have h1 : ckRun (r1, r2) l zM = (0, m) := h0
        exact ⟨HF.out.bel, Or.inr (Or.inr ⟨HZ.out, by rw [h1], b + 1, b, G, D, rfl, by rw [h1]; exact HF.out.mc, HF.out.gs, HP.out⟩)⟩
end Go.Proofs.Ytbemphfijkcbhaa
