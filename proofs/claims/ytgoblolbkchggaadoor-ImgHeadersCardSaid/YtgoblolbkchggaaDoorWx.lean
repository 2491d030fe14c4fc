/- The reference's writer: small, truth, name; the reference's KeyOf at 68 bytes. -/
import Derived.Test.YtgoblolbkchggaaDoorWw
namespace Go.Proofs.YtgoblolbkchggaaDoor
open Go.RowKit
attribute [local go_sem ↓ high] builtin_appS
section
variable {V : World} {b0 : Option Nat} {g : Nat} {l : By} {m e : Nat}
/-- The first k bytes of a name, filled up. -/
def nmP (s : By) (k : Nat) : By := (List.range k).map fun j => s.getD j 0
theorem nmP_succ (s : By) (k : Nat) : nmP s (k + 1) = nmP s k ++ [s.getD k 0] := by simp [nmP, List.range_succ]
theorem nmP_all {s : By} (h : s.length ≤ 16) : nmP s 16 = nameE s := by
  refine List.ext_getElem? fun i => ?_
  unfold nmP nameE
  by_cases hi : i < s.length
  · rw [List.getElem?_append_left hi]
    simp [show i < 16 by omega, hi]
  · rw [List.getElem?_append_right (by omega)]
    by_cases h16 : i < 16
    · simp [h16, hi, show i - s.length < 16 - s.length by omega]
    · simp [h16, show ¬ i - s.length < 16 - s.length by omega]
theorem build_one (x : Int) (w : World) : (Instr.buildSlice 27 1 #[(0, .int .u8 x)]).run Tryd.prog w = .ok (.slice (some ⟨w.heap.size, 0, none⟩) 1 1) (w.alloc (.cells #[.int .u8 x] 5)) := by
  obtain ⟨i0, hi, hz0, hz1, hz2⟩ := info_parts info_u8
  refine run_buildSlice (P := Tryd.prog) w 27 5 1 _ _ i0 (.int .u8 0) Tryd.underlying27 hi hz0 (by rw [hz1]; decide) (by rw [hz1]; decide) ?_
  rw [hz1]
  kernel_rfl
/-- One byte more, as name appends it. -/
theorem WS.byte {W : World} (h : WS V b0 g l m e W) (hm : m ≤ 900000) (x : UInt8) : ∃ (A : Option Addr) (c N : Nat) (B : Option Addr) (d : Nat) (w2 : World), W.cell? ⟨g, 0, none⟩ = some (.slice A N c) ∧
    (appS #[27, 27] 27 #[.slice A N c, .slice (some ⟨W.heap.size, 0, none⟩) 1 1]).run Tryd.prog (W.alloc (.cells #[.int .u8 (x.toNat : Int)] 5)) = .ok (.slice B (N + 1) d) w2 ∧ (w2.cell? ⟨g, 0, none⟩ = some (.slice A N c) ∧ w2.frozen? ⟨g, 0, none⟩ = false) ∧
    WS V b0 g (l ++ [x]) (m + 1) e (w2.setCell ⟨g, 0, none⟩ (.slice B (N + 1) d)) := by
  obtain ⟨A, c, L, -, h2, -, -, -, -, -, happ⟩ := h.open
  obtain ⟨B, d, w2, hr, hc, hw⟩ := happ (W.alloc (.cells #[.int .u8 (x.toNat : Int)] 5)) ⟨W.heap.size, 0, none⟩ [x] 1 (L.length + 1) rfl ((Below.refl _ _).alloc (Nat.le_refl _) _) (fun j u hu => by
    have e : ((⟨W.heap.size, 0, none⟩ : Addr).add j) = ⟨W.heap.size, j, none⟩ := by unfold Addr.add; by_cases h0 : j = 0 <;> simp [h0]
    rw [e, cell_of_row _ W.heap.size j _ 5 (0, 0) (heap_alloc_new W _), ← Array.getElem?_toList]
    exact hu) (by simp; omega)
  exact ⟨A, c, L.length, B, d, w2, h2, hr, hc, hw⟩
set_option maxHeartbeats 1000000 in
set_option maxRecDepth 100000 in
theorem wname_any (s : By) (hl : s.length ≤ 1000000) (hm : m ≤ 800000) (W : World) (h : WS V b0 g l m e W) : Calls Tryd.prog 19 #[.pointer (some ⟨g, 0, none⟩), .string (strOf s)] W (WPo V b0 g (l ++ nameE s) (m + 16) (seqE e (if nameOk s = true then 0 else 143))) := by
  have HM := Lib.hid (wmust_any (nameOk s) 143 (by decide) W h)
  have HN := Lib.hid (fun W => rname_any s hl W)
  obtain ⟨e1, he1⟩ : ∃ e1, e1 = seqE e (if nameOk s = true then 0 else 143) := ⟨_, rfl⟩
  have HE1 : Hid (e1 = 0 → l ++ nmP s 16 = l ++ nameE s) := Lib.hid (fun h0 => by
    rw [he1] at h0
    obtain ⟨_, h2⟩ := seqE_ok h0
    cases hn : nameOk s
    · rw [hn] at h2; simp at h2
    · unfold nameOk at hn
      simp only [Bool.and_eq_true, decide_eq_true_eq] at hn
      rw [nmP_all hn.2])
  rw [← he1] at HM ⊢
  obtain ⟨S, hS⟩ : ∃ S, S = strOf s := ⟨_, rfl⟩
  rw [← hS] at HN ⊢
  have hsz : S.size = s.length := by rw [hS, strOf_size]
  have HS0 := Lib.hid hS
  obtain ⟨r, hr⟩ : ∃ r, r = nameOk s := ⟨_, rfl⟩
  rw [← hr] at HM HN
  have hm1 : m ≤ 900000 - 16 := by omega
  clear hS h hr he1 hm
  unfold WPo
  go_enter Tryd.func19, Tryd.ntmps19
  go_wp2_with (first
    | (go_at_call 32; refine (HN.out _).mono ?_; rintro x w1 ⟨rfl, rfl⟩)
    | (go_at_call 31; refine HM.out.mono ?_; rintro x w1 ⟨rfl, hs⟩; have HS := Lib.hid hs; clear hs))
  go_loopw [4, 5] (fun j _ W => ∃ k : Nat, k ≤ 16 ∧ j = .int .i64 k ∧ Hid (WS V b0 g (l ++ nmP s k) (m + k) e1 W)) (fun i _ _ => 16 - (intOf i).toNat)
  case atStart => exact ⟨0, Nat.zero_le _, rfl, Lib.hid (HS.out.any (fun _ => by simp [nmP]) (Nat.le_refl _))⟩
  case round =>
    obtain ⟨k, hk, rfl, HW⟩ := hrel
    obtain ⟨W, hW⟩ : ∃ W : World, W = wr := ⟨_, rfl⟩
    subst hW
    by_cases hlt : k < 16
    · have d1 : (k : Int) < 16 := by omega
      obtain ⟨x, hx⟩ : ∃ x, x = s.getD k 0 := ⟨_, rfl⟩
      have hsu := nmP_succ s k
      rw [← hx] at hsu
      obtain ⟨A, c, N, B, d, w2, q1, q2, ⟨q3, q4⟩, q5⟩ := HW.out.byte (by omega) x
      rw [List.append_assoc, ← hsu] at q5
      have HN2 : Hid (WS V b0 g (l ++ nmP s (k + 1)) (m + (k + 1)) e1 (w2.setCell ⟨g, 0, none⟩ (.slice B (N + 1) d))) := Lib.hid q5
      have hbt := build_one (x.toNat : Int) W
      clear q5 hsu
      by_cases hks : k < s.length
      · have hkS : k < S.size := by omega
        have hkI : (k : Int) < (s.length : Int) := by omega
        have hc : S[k] = x := by
          have h0 := HS0.out
          subst h0
          rw [hx, List.getD_eq_getElem?_getD, List.getElem?_eq_getElem hks]
          rfl
        have hc2 : (S[k]'hkS).toNat = x.toNat := by rw [hc]
        clear hx hc
        go_wp2_with fail
        go_roundw
        case rel => exact ⟨k + 1, by omega, by go_num, HN2⟩
        case measure => simp [intOf]; omega
      · have hkI : ¬ (k : Int) < (s.length : Int) := by omega
        have hx0 : (x.toNat : Int) = 0 := by rw [hx, List.getD_eq_getElem?_getD, List.getElem?_eq_none (by omega)]; rfl
        rw [hx0] at q2 hbt
        clear hx hx0
        go_wp2_with fail
        go_roundw
        case rel => exact ⟨k + 1, by omega, by go_num, HN2⟩
        case measure => simp [intOf]; omega
    · obtain rfl : k = 16 := by omega
      go_wp2_with fail
      go_end0
      exact ⟨rfl, HW.out.any HE1.out (Nat.le_refl _)⟩
end
end Go.Proofs.YtgoblolbkchggaaDoor
