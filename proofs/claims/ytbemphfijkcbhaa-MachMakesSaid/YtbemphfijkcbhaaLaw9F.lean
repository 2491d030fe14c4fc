/- The walk of MachMakes. -/
import Derived.Test.YtbemphfijkcbhaaMach9
import Derived.Test.YtbemphfijkcbhaaRnew9
import Derived.Test.YtbemphfijkcbhaaFitR
import Derived.Test.YtbemphfijkcbhaaStr
import Derived.Test.YtbemphfijkcbhaaAwake9
namespace Go.Proofs.Ytbemphfijkcbhaa
open Go.RowKit

theorem exec_convert {P : Program} {o : Oper} {a : Act} {w : World} (s d : TypeId) (x : Operand) (ho : o.op = .convert s d x) (vx : Value) (hx : a.eval x = vx) {v : Value} (hr : (convert s d vx).run P w = .ok v w) : (execOp a.eval o).run P w = .ok (.value v) w := by
  unfold execOp
  simp only [ho, hx, Sem.run_bind, hr, Result.andThen_ok, Sem.run_pure]
/-- The reference's NewMem, where it fails. -/
theorem rnew_no (r1 r2 : Nat) (hr : fit (r1, r2)) (A : Option Addr) (c : Nat) (l : List Ck) (hl : l.length ≤ 1000) (W : World) (hC : CRow W W.heap.size A l) (hq : addrB (r1, r2) = false ∨ (ckRun (r1, r2) l zM).1 ≠ 0) :
    Calls Try.prog 15 #[.agg #[.int .u64 (r1 : Int), .int .u64 (r2 : Int)], .slice A l.length c] W fun e w' => e = .returned (.tuple #[.pointer none, .int .i64 ((if addrB (r1, r2) = true then (ckRun (r1, r2) l zM).1 else 1 : Nat) : Int)]) ∧ Below W.heap.size W w' := by
  refine (rnewmem_any r1 r2 hr A c l hl W hC).mono ?_
  rintro e w' ⟨hb, ⟨h1, h2⟩ | ⟨h1, h2, h3⟩ | ⟨h1, h2, _⟩⟩
  · rw [h1]; exact ⟨h2, hb⟩
  · rw [h1]; exact ⟨h3, hb⟩
  · rcases hq with h | h
    · rw [h] at h1; cases h1
    · exact absurd h2 h
/-- The reference's NewMem, where it doesn't. -/
theorem rnew_yes (r1 r2 : Nat) (hr : fit (r1, r2)) (A : Option Addr) (c : Nat) (l : List Ck) (hl : l.length ≤ 1000) (W : World) (hC : CRow W W.heap.size A l) (h1 : addrB (r1, r2) = true) (h2 : (ckRun (r1, r2) l zM).1 = 0) :
    Calls Try.prog 15 #[.agg #[.int .u64 (r1 : Int), .int .u64 (r2 : Int)], .slice A l.length c] W fun e w' => ∃ p G v ps, e = .returned (.tuple #[.pointer (some ⟨p, 0, none⟩), .int .i64 0]) ∧ MR w' G p (r1, r2) (300 * l.length) v ps (ckRun (r1, r2) l zM).2 ∧ (∀ i, G i → W.heap.size ≤ i) ∧ Below W.heap.size W w' := by
  refine (rnewmem_any r1 r2 hr A c l hl W hC).mono ?_
  rintro e w' ⟨hb, ⟨h, _⟩ | ⟨_, h, _⟩ | ⟨_, _, p, G, v, ps, rfl, h3, h4⟩⟩
  · rw [h1] at h; cases h
  · exact absurd h2 h
  · exact ⟨p, G, v, ps, rfl, h3, h4, hb⟩
set_option maxRecDepth 100000 in
set_option maxHeartbeats 8000000 in
theorem machMakes_walk (r1 r2 l1 l2 : Nat) (i s c : Int) (A : Option Addr) (ca : Nat) (b : List UInt8) (B : Option Addr) (cb : Nat) (l : List Ck) (x off : Nat) (w : World) (hr : fit (r1, r2)) (hl : fit (l1, l2)) (hcb : b.length ≤ ca) (hA : Lies w w.heap.size 1 A b.length (u8s b)) (_hl : l.length ≤ cb ∧ cb ≤ maxLen) (hC : CRow w w.heap.size B l)
    (hx : x < 18446744073709551616) (ho : off < 4294967296) :
    Calls Try.prog 8 #[.agg #[.int .u64 (r1 : Int), .int .u64 (r2 : Int), .int .u64 (l1 : Int), .int .u64 (l2 : Int), .int .i64 i, .int .i64 s, .int .i64 c], .slice A b.length ca, .slice B l.length cb, .int .u64 (x : Int), .int .u32 (off : Int)] w fun e w' => e = .returned (.bool true) ∧ Below w.heap.size w w' := by
  obtain ⟨V, hV⟩ : ∃ V, V = w.alloc (.cells (boxBd r1 r2 l1 l2 i s c) 26) := ⟨_, rfl⟩
  have hP0 : Blk V w.heap.size 26 (boxBd r1 r2 l1 l2 i s c) := by rw [hV]; exact Blk.new _ _ _ rfl
  have HB0 : Hid (Below w.heap.size w V) := Lib.hid (by rw [hV]; exact (Below.refl _ _).alloc (Nat.le_refl _) _)
  have HC0 : Hid (∀ v, Below V.heap.size V v → v.cell? ⟨w.heap.size, 0, none⟩ = some (.int .u64 (r1 : Int)) ∧ v.cell? ⟨w.heap.size, 1, none⟩ = some (.int .u64 (r2 : Int)) ∧ v.cell? ⟨w.heap.size, 2, none⟩ = some (.int .u64 (l1 : Int)) ∧ v.cell? ⟨w.heap.size, 3, none⟩ = some (.int .u64 (l2 : Int)) ∧ v.cell? ⟨w.heap.size, 4, none⟩ = some (.int .i64 i) ∧ v.cell? ⟨w.heap.size, 5, none⟩ = some (.int .i64 s) ∧ v.cell? ⟨w.heap.size, 6, none⟩ = some (.int .i64 c)) := Lib.hid fun v hv =>
    have h := hP0.under hv
    ⟨h.cellAt 0 rfl, h.cellAt 1 rfl, h.cellAt 2 rfl, h.cellAt 3 rfl, h.cellAt 4 rfl, h.cellAt 5 rfl, h.cellAt 6 rfl⟩
  have HCR : Hid (∀ W, Below V.heap.size V W → CRow W W.heap.size B l) := Lib.hid fun W hW => by
    have hW2 := HB0.out.trans (hW.mono HB0.out.size)
    have h := hC.below hW2
    exact ⟨fun hn => by obtain ⟨a, e, h1, h2⟩ := h.1 hn; exact ⟨a, e, Nat.lt_of_lt_of_le h1 hW2.size, h2⟩, fun y hy => ⟨(h.2 y hy).1, (h.2 y hy).2.1.wide hW2.size, (h.2 y hy).2.2⟩⟩
  have HBL : Hid (∀ W, Below V.heap.size V W → Lies W W.heap.size 1 A b.length (u8s b)) := Lib.hid fun W hW => by
    have hW2 := HB0.out.trans (hW.mono HB0.out.size)
    exact (hA.below hW2).wide hW2.size
  obtain ⟨F, hF⟩ : ∃ F, F = fewB [] l := ⟨_, rfl⟩
  have HFW : Hid (∀ W, Below V.heap.size V W → Calls Try.prog 13 #[.slice none 0 0, .slice B l.length cb] W fun e w' => e = .returned (.bool F) ∧ Below W.heap.size W w') := Lib.hid fun W hW => by
    rw [hF]
    exact few_any none 0 [] B cb l W (DRow.nil _ _ _) (HCR.out W hW)
  have HP0 := Lib.hid hP0
  have HV : Hid (V = w.alloc (.cells #[.int .u64 (r1 : Int), .int .u64 (r2 : Int), .int .u64 (l1 : Int), .int .u64 (l2 : Int), .int .i64 i, .int .i64 s, .int .i64 c] 26)) := Lib.hid hV
  clear hA hC hP0 hV
  cases F with
  | false =>
    clear hr hl hcb hx ho hF
    go_enter Try.func8, Try.ntmps8
    go_upto_region 1 with fail
    rw [← HV.out]
    clear HV
    have H0 : Hid (Below V.heap.size V V) := Lib.hid (Below.refl _ _)
    go_wp2_with (first
      | (go_at_call 10; refine (awake_any _).mono ?_; rintro e w1 ⟨rfl, hd⟩; have H1 := Lib.hid hd; clear hd)
      | (go_at_call 13; refine (HFW.out _ H1.out).mono ?_; rintro e w2 ⟨rfl, hd⟩; have H2 := Lib.hid (H1.out.trans (hd.mono H1.out.size)); obtain ⟨c0, c1, c2, c3, c4, c5, c6⟩ := HC0.out w2 H2.out; clear hd))
    go_ret
    exact ⟨rfl, HB0.out.trans (H2.out.mono HB0.out.size)⟩
  | true =>
    by_cases h5 : 3000 < b.length
    · have e5 : (3000 : Int) < b.length := by omega
      clear hr hl hcb hx ho hF h5
      go_enter Try.func8, Try.ntmps8
      go_upto_region 1 with fail
      rw [← HV.out]
      clear HV
      have H0 : Hid (Below V.heap.size V V) := Lib.hid (Below.refl _ _)
      go_wp2_with (first
        | (go_at_call 10; refine (awake_any _).mono ?_; rintro e w1 ⟨rfl, hd⟩; have H1 := Lib.hid hd; clear hd)
        | (go_at_call 13; refine (HFW.out _ H1.out).mono ?_; rintro e w2 ⟨rfl, hd⟩; have H2 := Lib.hid (H1.out.trans (hd.mono H1.out.size)); obtain ⟨c0, c1, c2, c3, c4, c5, c6⟩ := HC0.out w2 H2.out; clear hd))
      go_ret
      exact ⟨rfl, HB0.out.trans (H2.out.mono HB0.out.size)⟩
    have e5 : ¬ (3000 : Int) < b.length := by omega
    have hk : l.length ≤ 1000 := by have := (few_iff hF.symm).2.1; omega
    have hk10 : l.length ≤ 10 := (few_iff hF.symm).2.1
    have HRF := Lib.hid (fun W => rfit_any r1 r2 l1 l2 i s c hr hl W)
    have HNM := Lib.hid (fun W hW => machnew_any r1 r2 l1 l2 i s c hr hl A ca b (by omega) B cb l hk W (HBL.out W hW) (HCR.out W hW))
    by_cases hE0 : fitE r1 r2 l1 l2 i s c = 0
    · by_cases hq2 : (ckRun (r1, r2) l zM).1 = 0
      · have hq1 : addrB (r1, r2) = true := fit_addr hE0
        have HN : Hid (∀ W, Below V.heap.size V W → Calls Try.prog 30 #[.agg #[.int .u64 (r1 : Int), .int .u64 (r2 : Int), .int .u64 (l1 : Int), .int .u64 (l2 : Int), .int .i64 i, .int .i64 s, .int .i64 c], .slice A b.length ca, .slice B l.length cb] W fun e w' => ∃ y p q g G D, e = .returned (.tuple #[.pointer (some ⟨y, 0, none⟩), .int .i64 0]) ∧ Blk w' y 72 (MachC p g r1 r2 l1 l2 i s c) ∧ MC w' G p q (r1, r2) (300 * l.length) D (ckRun (r1, r2) l zM).2 ∧ FlashAt w' g b ∧ Below W.heap.size W w') := Lib.hid fun W hW => by
          refine (HNM.out W hW).mono ?_
          rintro e w' ⟨hb, ⟨E, h1, h2, _⟩ | ⟨_, _, y, p, q, g, G, D, rfl, h3, h4, h5⟩⟩
          · rw [if_pos hE0] at h1
            exact absurd hq2 (h1 ▸ h2)
          · exact ⟨y, p, q, g, G, D, rfl, h3, h4, h5, hb⟩
        have HRN := Lib.hid (fun W hW => rnew_yes r1 r2 hr B cb l hk W (HCR.out W hW) hq1 hq2)
        obtain ⟨m0, hm0⟩ : ∃ m0, m0 = (ckRun (r1, r2) l zM).2 := ⟨_, rfl⟩
        rw [← hm0] at HN HRN
        rw [hE0] at HRF
        have HRF0 : Hid (∀ W, Calls Try.prog 12 #[.agg #[.int .u64 (r1 : Int), .int .u64 (r2 : Int), .int .u64 (l1 : Int), .int .u64 (l2 : Int), .int .i64 i, .int .i64 s, .int .i64 c]] W fun e w' => e = .returned (.int .i64 0) ∧ Below W.heap.size W w') := HRF
        obtain ⟨L1, hL1⟩ : ∃ L1, L1 = rdL (r1, r2) m0 x 3 := ⟨_, rfl⟩
        obtain ⟨E1, hE1⟩ : ∃ E1, E1 = askR (r1, r2) x 3 := ⟨_, rfl⟩
        obtain ⟨L2, hL2⟩ : ∃ L2, L2 = getL b off 3 := ⟨_, rfl⟩
        obtain ⟨E2, hE2⟩ : ∃ E2, E2 = getE b off 3 := ⟨_, rfl⟩
        obtain ⟨N, hN⟩ : ∃ N, N = 300 * l.length := ⟨_, rfl⟩
        rw [← hN] at HN HRN
        have hN1 : N ≤ 3000 := by omega
        have HR1 : Hid (∀ W G p q D, MC W G p q (r1, r2) N D m0 → Calls Try.prog 20 #[.pointer (some ⟨p, 0, none⟩), .int .u64 (x : Int), .int .u64 3] W fun e w' => ∃ B, e = .returned (.tuple #[.slice B L1.length L1.length, .int .i64 (E1 : Int)]) ∧ Lies w' w'.heap.size 1 B L1.length (u8s L1) ∧ Below W.heap.size W w') := Lib.hid fun W G p q D h => by
          rw [hL1, hE1]
          refine (mread_any h x 3 ⟨hx, by simp only; omega⟩).mono ?_
          rintro e w' ⟨B, rfl, h1, _, h2⟩
          exact ⟨B, rfl, h1, h2⟩
        have HR2 : Hid (∀ W G p v ps, MR W G p (r1, r2) N v ps m0 → Calls Try.prog 31 #[.pointer (some ⟨p, 0, none⟩), .int .u64 (x : Int), .int .u64 3] W fun e w' => ∃ B cap, e = .returned (.tuple #[.slice B L1.length cap, .int .i64 (E1 : Int)]) ∧ Lies w' w'.heap.size 1 B L1.length (u8s L1) ∧ Below W.heap.size W w') := Lib.hid fun W G p v ps h => by
          rw [hL1, hE1]
          exact rread_any h (by omega) x 3 ⟨hx, by simp only; omega⟩
        have HG1 : Hid (∀ W g, FlashAt W g b → Calls Try.prog 28 #[.pointer (some ⟨g, 0, none⟩), .int .u32 (off : Int), .int .u32 3] W fun e w' => ∃ B cap, e = .returned (.tuple #[.slice B L2.length cap, .int .i64 (E2 : Int)]) ∧ Lies w' w'.heap.size 1 B L2.length (u8s L2) ∧ Below W.heap.size W w') := Lib.hid fun W g h => by
          rw [hL2, hE2]
          exact get_any g b off 3 W ho (by decide) (by omega) h
        have HG2 : Hid (∀ W, Below V.heap.size V W → Calls Try.prog 29 #[.slice A b.length ca, .int .u32 (off : Int), .int .u32 3] W fun e w' => ∃ B cap, e = .returned (.tuple #[.slice B L2.length cap, .int .i64 (E2 : Int)]) ∧ Lies w' w'.heap.size 1 B L2.length (u8s L2) ∧ Below W.heap.size W w') := Lib.hid fun W hW => by
          rw [hL2, hE2]
          exact rget_any A ca b off 3 W ho (by decide) (by omega) hcb (HBL.out W hW)
        clear hr hl hcb hx ho hF h5 hk hk10 hE0 hq1 hq2 hm0 hL1 hE1 hL2 hE2 hN HRF HNM
        go_enter Try.func8, Try.ntmps8
        go_upto_region 1 with fail
        rw [← HV.out]
        clear HV
        have H0 : Hid (Below V.heap.size V V) := Lib.hid (Below.refl _ _)
        go_upto_region 16 with (first
          | (go_at_call 10; refine (awake_any _).mono ?_; rintro e w1 ⟨rfl, hd⟩; have H1 := Lib.hid hd; clear hd)
          | (go_at_call 13; refine (HFW.out _ H1.out).mono ?_; rintro e w2 ⟨rfl, hd⟩; have H2 := Lib.hid (H1.out.trans (hd.mono H1.out.size)); obtain ⟨c0, c1, c2, c3, c4, c5, c6⟩ := HC0.out w2 H2.out; clear hd)
          | (go_at_call 30; refine (HN.out _ H2.out).mono ?_; rintro e w3 ⟨y, p, q, g, G, D, rfl, hy, hM, hf, hd⟩; have H3 := Lib.hid (H2.out.trans (hd.mono H2.out.size)); have H3m := Lib.hid hM; have H3f := Lib.hid hf; have H3y := Lib.hid hy; clear hd hM hf hy c0 c1 c2 c3 c4 c5 c6; obtain ⟨c0, c1, c2, c3, c4, c5, c6⟩ := HC0.out w3 H3.out)
          | (go_at_call 12; refine (HRF0.out _).mono ?_; rintro e w4 ⟨rfl, hd⟩; have H4 := Lib.hid (H3.out.trans (hd.mono H3.out.size)); have H4m := Lib.hid (H3m.out.under hd); have H4f := Lib.hid (H3f.out.below hd); have H4y := Lib.hid (H3y.out.under hd); clear hd c0 c1 c2 c3 c4 c5 c6; obtain ⟨d0, d1, _⟩ := HC0.out w4 H4.out)
          | (go_at_call 15; refine (HRN.out _ H4.out).mono ?_; rintro e w5 ⟨pr, Gr, vr, psr, rfl, hM, _, hd⟩; have H5 := Lib.hid (H4.out.trans (hd.mono H4.out.size)); have H5m := Lib.hid (H4m.out.under hd); have H5f := Lib.hid (H4f.out.below hd); have H5y := Lib.hid (H4y.out.under hd); have H5r := Lib.hid hM; have hp0 := H5y.out.cellAt 0 rfl; clear hd hM d0 d1)
          | (go_at_call 20; refine (HR1.out _ G p q D H5m.out).mono ?_; rintro e w6 ⟨B1, rfl, hy, hd⟩; have H6 := Lib.hid (H5.out.trans (hd.mono H5.out.size)); have H6r := Lib.hid (H5r.out.under hd); have H6f := Lib.hid (H5f.out.below hd); have H6y := Lib.hid (H5y.out.under hd); have H6a := Lib.hid hy; clear hd hy hp0)
          | (go_at_call 31; refine (HR2.out _ Gr pr vr psr H6r.out).mono ?_; rintro e w7 ⟨B2, cap2, rfl, hy, hd⟩; have H7 := Lib.hid (H6.out.trans (hd.mono H6.out.size)); have H7f := Lib.hid (H6f.out.below hd); have H7y := Lib.hid (H6y.out.under hd); have H7a := Lib.hid ((H6a.out.below hd).wide hd.size); have H7b := Lib.hid hy; have hp1 := H7y.out.cellAt 1 rfl; clear hd hy)
          | (go_at_call 28; refine (HG1.out _ g H7f.out).mono ?_; rintro e w8 ⟨B3, cap3, rfl, hy, hd⟩; have H8 := Lib.hid (H7.out.trans (hd.mono H7.out.size)); have H8y := Lib.hid (H7y.out.under hd); have H8a := Lib.hid ((H7a.out.below hd).wide hd.size); have H8b := Lib.hid ((H7b.out.below hd).wide hd.size); have H8c := Lib.hid hy; clear hd hy hp1)
          | (go_at_call 29; refine (HG2.out _ H8.out).mono ?_; rintro e w9 ⟨B4, cap4, rfl, hy, hd⟩; have H9 := Lib.hid (H8.out.trans (hd.mono H8.out.size)); have H9y := Lib.hid (H8y.out.under hd); have H9a := Lib.hid ((H8a.out.below hd).wide hd.size); have H9b := Lib.hid ((H8b.out.below hd).wide hd.size); have H9c := Lib.hid ((H8c.out.below hd).wide hd.size); have H9d := Lib.hid hy; clear hd hy))
        have HMC : Hid (∀ W, VS w9 W → W.cell? ⟨y, 2, none⟩ = some (.int .u64 (r1 : Int)) ∧ W.cell? ⟨y, 3, none⟩ = some (.int .u64 (r2 : Int)) ∧ W.cell? ⟨y, 4, none⟩ = some (.int .u64 (l1 : Int)) ∧ W.cell? ⟨y, 5, none⟩ = some (.int .u64 (l2 : Int)) ∧ W.cell? ⟨y, 6, none⟩ = some (.int .i64 i) ∧ W.cell? ⟨y, 7, none⟩ = some (.int .i64 s) ∧ W.cell? ⟨y, 8, none⟩ = some (.int .i64 c)) := Lib.hid fun W hW =>
          have h := H9y.out.under hW
          ⟨h.cellAt 2 rfl, h.cellAt 3 rfl, h.cellAt 4 rfl, h.cellAt 5 rfl, h.cellAt 6 rfl, h.cellAt 7 rfl, h.cellAt 8 rfl⟩
        have HBD : Hid (∀ W, VS w9 W → W.cell? ⟨w.heap.size, 0, none⟩ = some (.int .u64 (r1 : Int)) ∧ W.cell? ⟨w.heap.size, 1, none⟩ = some (.int .u64 (r2 : Int)) ∧ W.cell? ⟨w.heap.size, 2, none⟩ = some (.int .u64 (l1 : Int)) ∧ W.cell? ⟨w.heap.size, 3, none⟩ = some (.int .u64 (l2 : Int)) ∧ W.cell? ⟨w.heap.size, 4, none⟩ = some (.int .i64 i) ∧ W.cell? ⟨w.heap.size, 5, none⟩ = some (.int .i64 s) ∧ W.cell? ⟨w.heap.size, 6, none⟩ = some (.int .i64 c)) := Lib.hid fun W hW => HC0.out W (H9.out.trans (Below.mono hW H9.out.size))
        refine wp_region_held_drew (S := fun Y => VS w9 Y) (by kernel_rfl) (VS.begin w9) (fun hS => ?_)
        (refine held_take (i := 0) (oi := ?ot1) (v := ?vt1) ?at1 (by kernel_rfl) (by kernel_rfl) (by kernel_rfl) ?bt1 ?ct1 ?dt1 (by assumption) ?rt1; (case at1 => (simp only [List.getElem?_toArray, List.getElem?_cons_zero]; rfl)); (case bt1 => exact fun _ _ _ h => h); (case ct1 => kernel_rfl); (case dt1 => (intro W hW; (try dsimp only at hW); go_split_ands; go_simp; (try with_reducible rfl))); (case' rt1 => simp only [Act.put, List.setIfInBounds_toArray, List.set_cons_zero, List.set_cons_succ]))
        (refine held_take (i := 1) (oi := ?ot2) (v := .bool true) ?at2 (by kernel_rfl) (by kernel_rfl) (by kernel_rfl) ?bt2 ?ct2 ?dt2 (by assumption) ?rt2; (case at2 => (simp only [List.getElem?_toArray, List.getElem?_cons_zero, List.getElem?_cons_succ]; rfl)); (case bt2 => exact fun _ _ _ h => h); (case ct2 => kernel_rfl); (case dt2 => (intro W hW; clear hW; go_simp; (try with_reducible rfl))); (case' rt2 => simp only [Act.put, List.setIfInBounds_toArray, List.set_cons_zero, List.set_cons_succ]))
        (refine held_take (i := 2) (oi := ?ot3) (v := .bool true) ?at3 (by kernel_rfl) (by kernel_rfl) (by kernel_rfl) ?bt3 ?ct3 ?dt3 (by assumption) ?rt3; (case at3 => (simp only [List.getElem?_toArray, List.getElem?_cons_zero, List.getElem?_cons_succ]; rfl)); (case bt3 => exact fun _ _ _ h => h); (case ct3 => kernel_rfl); (case dt3 => (intro W hW; clear hW; go_simp; (try with_reducible rfl))); (case' rt3 => simp only [Act.put, List.setIfInBounds_toArray, List.set_cons_zero, List.set_cons_succ]))
        (refine held_take (i := 3) (oi := ?ot4) (v := ?vt4) ?at4 (by kernel_rfl) (by kernel_rfl) (by kernel_rfl) ?bt4 ?ct4 ?dt4 (by assumption) ?rt4; (case at4 => (simp only [List.getElem?_toArray, List.getElem?_cons_zero, List.getElem?_cons_succ]; rfl)); (case bt4 => exact fun _ _ _ h => h); (case ct4 => kernel_rfl); (case dt4 => (intro W hW; (try dsimp only at hW); go_split_ands; go_simp; (try with_reducible rfl))); (case' rt4 => simp only [Act.put, List.setIfInBounds_toArray, List.set_cons_zero, List.set_cons_succ]))
        (refine held_take (i := 4) (oi := ?ot5) (v := ?vt5) ?at5 (by kernel_rfl) (by kernel_rfl) (by kernel_rfl) ?bt5 ?ct5 ?dt5 (by assumption) ?rt5; (case at5 => (simp only [List.getElem?_toArray, List.getElem?_cons_zero, List.getElem?_cons_succ]; rfl)); (case bt5 => exact fun _ _ _ h => h); (case ct5 => kernel_rfl); (case dt5 => (intro W hW; (try dsimp only at hW); go_split_ands; go_simp; (try with_reducible rfl))); (case' rt5 => simp only [Act.put, List.setIfInBounds_toArray, List.set_cons_zero, List.set_cons_succ]))
        (refine held_take (i := 5) (oi := ?ot6) (v := .bool true) ?at6 (by kernel_rfl) (by kernel_rfl) (by kernel_rfl) ?bt6 ?ct6 ?dt6 (by assumption) ?rt6; (case at6 => (simp only [List.getElem?_toArray, List.getElem?_cons_zero, List.getElem?_cons_succ]; rfl)); (case bt6 => exact fun _ _ _ h => h); (case ct6 => kernel_rfl); (case dt6 => (intro W hW; clear hW; go_simp; (try with_reducible rfl))); (case' rt6 => simp only [Act.put, List.setIfInBounds_toArray, List.set_cons_zero, List.set_cons_succ]))
        (refine held_take (i := 6) (oi := ?ot7) (v := .bool true) ?at7 (by kernel_rfl) (by kernel_rfl) (by kernel_rfl) ?bt7 ?ct7 ?dt7 (by assumption) ?rt7; (case at7 => (simp only [List.getElem?_toArray, List.getElem?_cons_zero, List.getElem?_cons_succ]; rfl)); (case bt7 => exact fun _ _ _ h => h); (case ct7 => kernel_rfl); (case dt7 => (intro W hW; clear hW; go_simp; (try with_reducible rfl))); (case' rt7 => simp only [Act.put, List.setIfInBounds_toArray, List.set_cons_zero, List.set_cons_succ]))
        (refine held_take (i := 7) (oi := ?ot8) (v := .bool true) ?at8 (by kernel_rfl) (by kernel_rfl) (by kernel_rfl) ?bt8 ?ct8 ?dt8 (by assumption) ?rt8; (case at8 => (simp only [List.getElem?_toArray, List.getElem?_cons_zero, List.getElem?_cons_succ]; rfl)); (case bt8 => exact fun _ _ _ h => h); (case ct8 => kernel_rfl); (case dt8 => (intro W hW; clear hW; go_simp; (try with_reducible rfl))); (case' rt8 => simp only [Act.put, List.setIfInBounds_toArray, List.set_cons_zero, List.set_cons_succ]))
        (refine held_take (i := 8) (oi := ?ot9) (v := ?vt9) ?at9 (by kernel_rfl) (by kernel_rfl) (by kernel_rfl) ?bt9 ?ct9 ?dt9 (by assumption) ?rt9; (case at9 => (simp only [List.getElem?_toArray, List.getElem?_cons_zero, List.getElem?_cons_succ]; rfl)); (case bt9 => exact fun _ _ _ h => h); (case ct9 => kernel_rfl); (case dt9 => (intro W hW; (try dsimp only at hW); go_split_ands; go_simp; (try with_reducible rfl))); (case' rt9 => simp only [Act.put, List.setIfInBounds_toArray, List.set_cons_zero, List.set_cons_succ]))
        (refine held_take (i := 9) (oi := ?ot10) (v := .string (strOf L1)) ?at10 (by kernel_rfl) (by kernel_rfl) (by kernel_rfl) ?bt10 ?ct10 ?dt10 (by assumption) ?rt10; (case at10 => (simp only [List.getElem?_toArray, List.getElem?_cons_zero, List.getElem?_cons_succ]; rfl)); (case bt10 => exact fun _ _ _ h => h); (case ct10 => kernel_rfl); (case dt10 => (intro W hW; exact exec_convert _ _ _ rfl _ rfl (conv_str W _ _ _ _ _ ((H9a.out.below hW).wide hW.size)))); (case' rt10 => simp only [Act.put, List.setIfInBounds_toArray, List.set_cons_zero, List.set_cons_succ]))
        (refine held_take (i := 10) (oi := ?ot11) (v := ?vt11) ?at11 (by kernel_rfl) (by kernel_rfl) (by kernel_rfl) ?bt11 ?ct11 ?dt11 (by assumption) ?rt11; (case at11 => (simp only [List.getElem?_toArray, List.getElem?_cons_zero, List.getElem?_cons_succ]; rfl)); (case bt11 => exact fun _ _ _ h => h); (case ct11 => kernel_rfl); (case dt11 => (intro W hW; (try dsimp only at hW); go_split_ands; go_simp; (try with_reducible rfl))); (case' rt11 => simp only [Act.put, List.setIfInBounds_toArray, List.set_cons_zero, List.set_cons_succ]))
        (refine held_take (i := 11) (oi := ?ot12) (v := .string (strOf L1)) ?at12 (by kernel_rfl) (by kernel_rfl) (by kernel_rfl) ?bt12 ?ct12 ?dt12 (by assumption) ?rt12; (case at12 => (simp only [List.getElem?_toArray, List.getElem?_cons_zero, List.getElem?_cons_succ]; rfl)); (case bt12 => exact fun _ _ _ h => h); (case ct12 => kernel_rfl); (case dt12 => (intro W hW; exact exec_convert _ _ _ rfl _ rfl (conv_str W _ _ _ _ _ ((H9b.out.below hW).wide hW.size)))); (case' rt12 => simp only [Act.put, List.setIfInBounds_toArray, List.set_cons_zero, List.set_cons_succ]))
        (refine held_take (i := 12) (oi := ?ot13) (v := .bool true) ?at13 (by kernel_rfl) (by kernel_rfl) (by kernel_rfl) ?bt13 ?ct13 ?dt13 (by assumption) ?rt13; (case at13 => (simp only [List.getElem?_toArray, List.getElem?_cons_zero, List.getElem?_cons_succ]; rfl)); (case bt13 => exact fun _ _ _ h => h); (case ct13 => kernel_rfl); (case dt13 => (intro W hW; clear hW; go_simp; (try with_reducible rfl))); (case' rt13 => simp only [Act.put, List.setIfInBounds_toArray, List.set_cons_zero, List.set_cons_succ]))
        (refine held_take (i := 13) (oi := ?ot14) (v := .bool true) ?at14 (by kernel_rfl) (by kernel_rfl) (by kernel_rfl) ?bt14 ?ct14 ?dt14 (by assumption) ?rt14; (case at14 => (simp only [List.getElem?_toArray, List.getElem?_cons_zero, List.getElem?_cons_succ]; rfl)); (case bt14 => exact fun _ _ _ h => h); (case ct14 => kernel_rfl); (case dt14 => (intro W hW; clear hW; go_simp; (try with_reducible rfl))); (case' rt14 => simp only [Act.put, List.setIfInBounds_toArray, List.set_cons_zero, List.set_cons_succ]))
        (refine held_take (i := 14) (oi := ?ot15) (v := .bool true) ?at15 (by kernel_rfl) (by kernel_rfl) (by kernel_rfl) ?bt15 ?ct15 ?dt15 (by assumption) ?rt15; (case at15 => (simp only [List.getElem?_toArray, List.getElem?_cons_zero, List.getElem?_cons_succ]; rfl)); (case bt15 => exact fun _ _ _ h => h); (case ct15 => kernel_rfl); (case dt15 => (intro W hW; clear hW; go_simp; (try with_reducible rfl))); (case' rt15 => simp only [Act.put, List.setIfInBounds_toArray, List.set_cons_zero, List.set_cons_succ]))
        (refine held_take (i := 15) (oi := ?ot16) (v := ?vt16) ?at16 (by kernel_rfl) (by kernel_rfl) (by kernel_rfl) ?bt16 ?ct16 ?dt16 (by assumption) ?rt16; (case at16 => (simp only [List.getElem?_toArray, List.getElem?_cons_zero, List.getElem?_cons_succ]; rfl)); (case bt16 => exact fun _ _ _ h => h); (case ct16 => kernel_rfl); (case dt16 => (intro W hW; (try dsimp only at hW); go_split_ands; go_simp; (try with_reducible rfl))); (case' rt16 => simp only [Act.put, List.setIfInBounds_toArray, List.set_cons_zero, List.set_cons_succ]))
        (refine held_take (i := 16) (oi := ?ot17) (v := ?vt17) ?at17 (by kernel_rfl) (by kernel_rfl) (by kernel_rfl) ?bt17 ?ct17 ?dt17 (by assumption) ?rt17; (case at17 => (simp only [List.getElem?_toArray, List.getElem?_cons_zero, List.getElem?_cons_succ]; rfl)); (case bt17 => exact fun _ _ _ h => h); (case ct17 => kernel_rfl); (case dt17 => (intro W hW; (try dsimp only at hW); go_split_ands; go_simp; (try with_reducible rfl))); (case' rt17 => simp only [Act.put, List.setIfInBounds_toArray, List.set_cons_zero, List.set_cons_succ]))
        (refine held_take (i := 17) (oi := ?ot18) (v := .bool true) ?at18 (by kernel_rfl) (by kernel_rfl) (by kernel_rfl) ?bt18 ?ct18 ?dt18 (by assumption) ?rt18; (case at18 => (simp only [List.getElem?_toArray, List.getElem?_cons_zero, List.getElem?_cons_succ]; rfl)); (case bt18 => exact fun _ _ _ h => h); (case ct18 => kernel_rfl); (case dt18 => (intro W hW; clear hW; go_simp; (try with_reducible rfl))); (case' rt18 => simp only [Act.put, List.setIfInBounds_toArray, List.set_cons_zero, List.set_cons_succ]))
        (refine held_take (i := 18) (oi := ?ot19) (v := .bool true) ?at19 (by kernel_rfl) (by kernel_rfl) (by kernel_rfl) ?bt19 ?ct19 ?dt19 (by assumption) ?rt19; (case at19 => (simp only [List.getElem?_toArray, List.getElem?_cons_zero, List.getElem?_cons_succ]; rfl)); (case bt19 => exact fun _ _ _ h => h); (case ct19 => kernel_rfl); (case dt19 => (intro W hW; clear hW; go_simp; (try with_reducible rfl))); (case' rt19 => simp only [Act.put, List.setIfInBounds_toArray, List.set_cons_zero, List.set_cons_succ]))
        (refine held_take (i := 19) (oi := ?ot20) (v := .bool true) ?at20 (by kernel_rfl) (by kernel_rfl) (by kernel_rfl) ?bt20 ?ct20 ?dt20 (by assumption) ?rt20; (case at20 => (simp only [List.getElem?_toArray, List.getElem?_cons_zero, List.getElem?_cons_succ]; rfl)); (case bt20 => exact fun _ _ _ h => h); (case ct20 => kernel_rfl); (case dt20 => (intro W hW; clear hW; go_simp; (try with_reducible rfl))); (case' rt20 => simp only [Act.put, List.setIfInBounds_toArray, List.set_cons_zero, List.set_cons_succ]))
        (refine held_take (i := 20) (oi := ?ot21) (v := ?vt21) ?at21 (by kernel_rfl) (by kernel_rfl) (by kernel_rfl) ?bt21 ?ct21 ?dt21 (by assumption) ?rt21; (case at21 => (simp only [List.getElem?_toArray, List.getElem?_cons_zero, List.getElem?_cons_succ]; rfl)); (case bt21 => exact fun _ _ _ h => h); (case ct21 => kernel_rfl); (case dt21 => (intro W hW; (try dsimp only at hW); go_split_ands; go_simp; (try with_reducible rfl))); (case' rt21 => simp only [Act.put, List.setIfInBounds_toArray, List.set_cons_zero, List.set_cons_succ]))
        (refine held_take (i := 21) (oi := ?ot22) (v := .string (strOf L2)) ?at22 (by kernel_rfl) (by kernel_rfl) (by kernel_rfl) ?bt22 ?ct22 ?dt22 (by assumption) ?rt22; (case at22 => (simp only [List.getElem?_toArray, List.getElem?_cons_zero, List.getElem?_cons_succ]; rfl)); (case bt22 => exact fun _ _ _ h => h); (case ct22 => kernel_rfl); (case dt22 => (intro W hW; exact exec_convert _ _ _ rfl _ rfl (conv_str W _ _ _ _ _ ((H9c.out.below hW).wide hW.size)))); (case' rt22 => simp only [Act.put, List.setIfInBounds_toArray, List.set_cons_zero, List.set_cons_succ]))
        (refine held_take (i := 22) (oi := ?ot23) (v := ?vt23) ?at23 (by kernel_rfl) (by kernel_rfl) (by kernel_rfl) ?bt23 ?ct23 ?dt23 (by assumption) ?rt23; (case at23 => (simp only [List.getElem?_toArray, List.getElem?_cons_zero, List.getElem?_cons_succ]; rfl)); (case bt23 => exact fun _ _ _ h => h); (case ct23 => kernel_rfl); (case dt23 => (intro W hW; (try dsimp only at hW); go_split_ands; go_simp; (try with_reducible rfl))); (case' rt23 => simp only [Act.put, List.setIfInBounds_toArray, List.set_cons_zero, List.set_cons_succ]))
        (refine held_take (i := 23) (oi := ?ot24) (v := .string (strOf L2)) ?at24 (by kernel_rfl) (by kernel_rfl) (by kernel_rfl) ?bt24 ?ct24 ?dt24 (by assumption) ?rt24; (case at24 => (simp only [List.getElem?_toArray, List.getElem?_cons_zero, List.getElem?_cons_succ]; rfl)); (case bt24 => exact fun _ _ _ h => h); (case ct24 => kernel_rfl); (case dt24 => (intro W hW; exact exec_convert _ _ _ rfl _ rfl (conv_str W _ _ _ _ _ ((H9d.out.below hW).wide hW.size)))); (case' rt24 => simp only [Act.put, List.setIfInBounds_toArray, List.set_cons_zero, List.set_cons_succ]))
        (refine held_take (i := 24) (oi := ?ot25) (v := .bool true) ?at25 (by kernel_rfl) (by kernel_rfl) (by kernel_rfl) ?bt25 ?ct25 ?dt25 (by assumption) ?rt25; (case at25 => (simp only [List.getElem?_toArray, List.getElem?_cons_zero, List.getElem?_cons_succ]; rfl)); (case bt25 => exact fun _ _ _ h => h); (case ct25 => kernel_rfl); (case dt25 => (intro W hW; clear hW; go_simp; (try with_reducible rfl))); (case' rt25 => simp only [Act.put, List.setIfInBounds_toArray, List.set_cons_zero, List.set_cons_succ]))
        (refine held_take (i := 25) (oi := ?ot26) (v := .bool true) ?at26 (by kernel_rfl) (by kernel_rfl) (by kernel_rfl) ?bt26 ?ct26 ?dt26 (by assumption) ?rt26; (case at26 => (simp only [List.getElem?_toArray, List.getElem?_cons_zero, List.getElem?_cons_succ]; rfl)); (case bt26 => exact fun _ _ _ h => h); (case ct26 => kernel_rfl); (case dt26 => (intro W hW; clear hW; go_simp; (try with_reducible rfl))); (case' rt26 => simp only [Act.put, List.setIfInBounds_toArray, List.set_cons_zero, List.set_cons_succ]))
        (refine held_take (i := 26) (oi := ?ot27) (v := .bool true) ?at27 (by kernel_rfl) (by kernel_rfl) (by kernel_rfl) ?bt27 ?ct27 ?dt27 (by assumption) ?rt27; (case at27 => (simp only [List.getElem?_toArray, List.getElem?_cons_zero, List.getElem?_cons_succ]; rfl)); (case bt27 => exact fun _ _ _ h => h); (case ct27 => kernel_rfl); (case dt27 => (intro W hW; clear hW; go_simp; (try with_reducible rfl))); (case' rt27 => simp only [Act.put, List.setIfInBounds_toArray, List.set_cons_zero, List.set_cons_succ]))
        (refine held_take (i := 27) (oi := ?ot28) (v := ?vt28) ?at28 (by kernel_rfl) (by kernel_rfl) (by kernel_rfl) ?bt28 ?ct28 ?dt28 (by assumption) ?rt28; (case at28 => (simp only [List.getElem?_toArray, List.getElem?_cons_zero, List.getElem?_cons_succ]; rfl)); (case bt28 => exact fun _ _ _ h => h); (case ct28 => kernel_rfl); (case dt28 => (intro W hW; (try dsimp only at hW); go_split_ands; go_simp; (try with_reducible rfl))); (case' rt28 => simp only [Act.put, List.setIfInBounds_toArray, List.set_cons_zero, List.set_cons_succ]))
        (refine held_take (i := 28) (oi := ?ot29) (v := ?vt29) ?at29 (by kernel_rfl) (by kernel_rfl) (by kernel_rfl) ?bt29 ?ct29 ?dt29 (by assumption) ?rt29; (case at29 => (simp only [List.getElem?_toArray, List.getElem?_cons_zero, List.getElem?_cons_succ]; rfl)); (case bt29 => exact fun _ _ _ h => h); (case ct29 => kernel_rfl); (case dt29 => (intro W hW; (try dsimp only at hW); go_split_ands; go_simp; (try with_reducible rfl))); (case' rt29 => simp only [Act.put, List.setIfInBounds_toArray, List.set_cons_zero, List.set_cons_succ]))
        (refine held_take (i := 29) (oi := ?ot30) (v := ?vt30) ?at30 (by kernel_rfl) (by kernel_rfl) (by kernel_rfl) ?bt30 ?ct30 ?dt30 (by assumption) ?rt30; (case at30 => (simp only [List.getElem?_toArray, List.getElem?_cons_zero, List.getElem?_cons_succ]; rfl)); (case bt30 => exact fun _ _ _ h => h); (case ct30 => kernel_rfl); (case dt30 => (intro W hW; (try dsimp only at hW); go_split_ands; go_simp; (try with_reducible rfl))); (case' rt30 => simp only [Act.put, List.setIfInBounds_toArray, List.set_cons_zero, List.set_cons_succ]))
        (refine held_take (i := 30) (oi := ?ot31) (v := .agg #[.int .u64 (r1 : Int), .int .u64 (r2 : Int), .int .u64 (l1 : Int), .int .u64 (l2 : Int), .int .i64 i, .int .i64 s, .int .i64 c]) ?at31 (by kernel_rfl) (by kernel_rfl) (by kernel_rfl) ?bt31 ?ct31 ?dt31 (by assumption) ?rt31; (case at31 => (simp only [List.getElem?_toArray, List.getElem?_cons_zero, List.getElem?_cons_succ]; rfl)); (case bt31 => exact fun _ _ _ h => h); (case ct31 => kernel_rfl); (case dt31 => (intro W hW; obtain ⟨c0, c1, c2, c3, c4, c5, c6⟩ := HMC.out W hW; clear hW; go_simp; (try with_reducible rfl))); (case' rt31 => simp only [Act.put, List.setIfInBounds_toArray, List.set_cons_zero, List.set_cons_succ]))
        (refine held_take (i := 31) (oi := ?ot32) (v := .agg #[.int .u64 (r1 : Int), .int .u64 (r2 : Int), .int .u64 (l1 : Int), .int .u64 (l2 : Int), .int .i64 i, .int .i64 s, .int .i64 c]) ?at32 (by kernel_rfl) (by kernel_rfl) (by kernel_rfl) ?bt32 ?ct32 ?dt32 (by assumption) ?rt32; (case at32 => (simp only [List.getElem?_toArray, List.getElem?_cons_zero, List.getElem?_cons_succ]; rfl)); (case bt32 => exact fun _ _ _ h => h); (case ct32 => kernel_rfl); (case dt32 => (intro W hW; obtain ⟨c0, c1, c2, c3, c4, c5, c6⟩ := HBD.out W hW; clear hW; go_simp; (try with_reducible rfl))); (case' rt32 => simp only [Act.put, List.setIfInBounds_toArray, List.set_cons_zero, List.set_cons_succ]))
        (refine held_take (i := 32) (oi := ?ot33) (v := .bool true) ?at33 (by kernel_rfl) (by kernel_rfl) (by kernel_rfl) ?bt33 ?ct33 ?dt33 (by assumption) ?rt33; (case at33 => (simp only [List.getElem?_toArray, List.getElem?_cons_zero, List.getElem?_cons_succ]; rfl)); (case bt33 => exact fun _ _ _ h => h); (case ct33 => kernel_rfl); (case dt33 => (intro W hW; clear hW; go_simp; (try with_reducible rfl))); (case' rt33 => simp only [Act.put, List.setIfInBounds_toArray, List.set_cons_zero, List.set_cons_succ]))
        (refine held_take (i := 33) (oi := ?ot34) (v := .bool true) ?at34 (by kernel_rfl) (by kernel_rfl) (by kernel_rfl) ?bt34 ?ct34 ?dt34 (by assumption) ?rt34; (case at34 => (simp only [List.getElem?_toArray, List.getElem?_cons_zero, List.getElem?_cons_succ]; rfl)); (case bt34 => exact fun _ _ _ h => h); (case ct34 => kernel_rfl); (case dt34 => (intro W hW; clear hW; go_simp; (try with_reducible rfl))); (case' rt34 => simp only [Act.put, List.setIfInBounds_toArray, List.set_cons_zero, List.set_cons_succ]))
        (refine held_take (i := 34) (oi := ?ot35) (v := ?vt35) ?at35 (by kernel_rfl) (by kernel_rfl) (by kernel_rfl) ?bt35 ?ct35 ?dt35 (by assumption) ?rt35; (case at35 => (simp only [List.getElem?_toArray, List.getElem?_cons_zero, List.getElem?_cons_succ]; rfl)); (case bt35 => exact fun _ _ _ h => h); (case ct35 => kernel_rfl); (case dt35 => (intro W hW; (try dsimp only at hW); go_split_ands; go_simp; (try with_reducible rfl))); (case' rt35 => simp only [Act.put, List.setIfInBounds_toArray, List.set_cons_zero, List.set_cons_succ]))
        refine wpAnyH_done (by kernel_rfl) ?_ _
        go_wp2
        go_ret
        have hz := H9.out.trans (Below.mono hS H9.out.size)
        exact ⟨rfl, HB0.out.trans (hz.mono HB0.out.size)⟩
      · have hq1 : addrB (r1, r2) = true := fit_addr hE0
        obtain ⟨E, hE⟩ : ∃ E, E = (ckRun (r1, r2) l zM).1 := ⟨_, rfl⟩
        have HN : Hid (∀ W, Below V.heap.size V W → Calls Try.prog 30 #[.agg #[.int .u64 (r1 : Int), .int .u64 (r2 : Int), .int .u64 (l1 : Int), .int .u64 (l2 : Int), .int .i64 i, .int .i64 s, .int .i64 c], .slice A b.length ca, .slice B l.length cb] W fun e w' => e = .returned (.tuple #[.pointer none, .int .i64 (E : Int)]) ∧ Below W.heap.size W w') := Lib.hid fun W hW => by
          refine (HNM.out W hW).mono ?_
          rintro e w' ⟨hb, ⟨E', h1, h2, h3⟩ | ⟨_, h4, _⟩⟩
          · rw [if_pos hE0, ← hE] at h1
            subst h1
            exact ⟨h3, hb⟩
          · exact absurd h4 hq2
        have HRN := Lib.hid (fun W hW => rnew_no r1 r2 hr B cb l hk W (HCR.out W hW) (Or.inr hq2))
        rw [if_pos hq1, ← hE] at HRN
        rw [hE0] at HRF
        have HRF0 : Hid (∀ W, Calls Try.prog 12 #[.agg #[.int .u64 (r1 : Int), .int .u64 (r2 : Int), .int .u64 (l1 : Int), .int .u64 (l2 : Int), .int .i64 i, .int .i64 s, .int .i64 c]] W fun e w' => e = .returned (.int .i64 0) ∧ Below W.heap.size W w') := HRF
        have hE1 : E ≠ 0 := by rw [hE]; exact hq2
        have g1 : ((E : Int) != 0) = true := by simp; omega
        have g2 : ¬ (E : Int) = 0 := by omega
        clear hr hl hcb hx ho hF h5 hk hk10 hE0 hq1 hq2 hE HRF HNM hE1
        go_enter Try.func8, Try.ntmps8
        go_upto_region 1 with fail
        rw [← HV.out]
        clear HV
        have H0 : Hid (Below V.heap.size V V) := Lib.hid (Below.refl _ _)
        go_wp2_with (first
          | (go_at_call 10; refine (awake_any _).mono ?_; rintro e w1 ⟨rfl, hd⟩; have H1 := Lib.hid hd; clear hd)
          | (go_at_call 13; refine (HFW.out _ H1.out).mono ?_; rintro e w2 ⟨rfl, hd⟩; have H2 := Lib.hid (H1.out.trans (hd.mono H1.out.size)); obtain ⟨c0, c1, c2, c3, c4, c5, c6⟩ := HC0.out w2 H2.out; clear hd)
          | (go_at_call 30; refine (HN.out _ H2.out).mono ?_; rintro e w3 ⟨rfl, hd⟩; have H3 := Lib.hid (H2.out.trans (hd.mono H2.out.size)); clear hd c0 c1 c2 c3 c4 c5 c6; obtain ⟨c0, c1, c2, c3, c4, c5, c6⟩ := HC0.out w3 H3.out)
          | (go_at_call 12; refine (HRF0.out _).mono ?_; rintro e w4 ⟨rfl, hd⟩; have H4 := Lib.hid (H3.out.trans (hd.mono H3.out.size)); clear hd c0 c1 c2 c3 c4 c5 c6; obtain ⟨d0, d1, _⟩ := HC0.out w4 H4.out)
          | (go_at_call 15; refine (HRN.out _ H4.out).mono ?_; rintro e w5 ⟨rfl, hd⟩; have H5 := Lib.hid (H4.out.trans (hd.mono H4.out.size)); clear hd d0 d1))
        go_ret
        exact ⟨rfl, HB0.out.trans (H5.out.mono HB0.out.size)⟩
    · obtain ⟨E, hE⟩ : ∃ E, E = fitE r1 r2 l1 l2 i s c := ⟨_, rfl⟩
      have HN : Hid (∀ W, Below V.heap.size V W → Calls Try.prog 30 #[.agg #[.int .u64 (r1 : Int), .int .u64 (r2 : Int), .int .u64 (l1 : Int), .int .u64 (l2 : Int), .int .i64 i, .int .i64 s, .int .i64 c], .slice A b.length ca, .slice B l.length cb] W fun e w' => e = .returned (.tuple #[.pointer none, .int .i64 (E : Int)]) ∧ Below W.heap.size W w') := Lib.hid fun W hW => by
        refine (HNM.out W hW).mono ?_
        rintro e w' ⟨hb, ⟨E', h1, h2, h3⟩ | ⟨h4, _⟩⟩
        · rw [if_neg hE0, ← hE] at h1
          subst h1
          exact ⟨h3, hb⟩
        · exact absurd h4 hE0
      rw [← hE] at HRF
      have hE1 : E ≠ 0 := by rw [hE]; exact hE0
      have g1 : ((E : Int) != 0) = true := by simp; omega
      have g2 : ¬ (E : Int) = 0 := by omega
      clear hr hl hcb hx ho hF h5 hk hk10 hE0 hE HNM hE1
      go_enter Try.func8, Try.ntmps8
      go_upto_region 1 with fail
      rw [← HV.out]
      clear HV
      have H0 : Hid (Below V.heap.size V V) := Lib.hid (Below.refl _ _)
      go_wp2_with (first
        | (go_at_call 10; refine (awake_any _).mono ?_; rintro e w1 ⟨rfl, hd⟩; have H1 := Lib.hid hd; clear hd)
        | (go_at_call 13; refine (HFW.out _ H1.out).mono ?_; rintro e w2 ⟨rfl, hd⟩; have H2 := Lib.hid (H1.out.trans (hd.mono H1.out.size)); obtain ⟨c0, c1, c2, c3, c4, c5, c6⟩ := HC0.out w2 H2.out; clear hd)
        | (go_at_call 30; refine (HN.out _ H2.out).mono ?_; rintro e w3 ⟨rfl, hd⟩; have H3 := Lib.hid (H2.out.trans (hd.mono H2.out.size)); clear hd c0 c1 c2 c3 c4 c5 c6; obtain ⟨c0, c1, c2, c3, c4, c5, c6⟩ := HC0.out w3 H3.out)
        | (go_at_call 12; refine (HRF.out _).mono ?_; rintro e w4 ⟨rfl, hd⟩; have H4 := Lib.hid (H3.out.trans (hd.mono H3.out.size)); clear hd c0 c1 c2 c3 c4 c5 c6))
      go_ret
      exact ⟨rfl, HB0.out.trans (H4.out.mono HB0.out.size)⟩
end Go.Proofs.Ytbemphfijkcbhaa
