/- The reference's writer: small, truth, name; the reference's KeyOf at 68 bytes. -/
import Derived.Test.YtmcpmcicolpoeaaDoorWw
namespace Go.Proofs.YtmcpmcicolpoeaaDoor
open Go.RowKit
attribute [local go_sem ↓ high] builtin_appS

section
variable {V : World} {b0 : Option Nat} {g : Nat} {l : By} {m e : Nat}
set_option maxHeartbeats 1000000 in
set_option maxRecDepth 100000 in
theorem wsmall_any (z : Int) (hz : i64B z) (most size : Nat) (hs : size ≤ 8) (hm : m ≤ 1000000) (W : World) (h : WS V b0 g l m e W) : Calls Tryd.prog 30 #[.pointer (some ⟨g, 0, none⟩), .int .i64 z, .int .i64 (most : Int), .int .i64 (size : Int)] W (WPo V b0 g (l ++ be size z.toNat) (m + size) (seqE e (if inB z 0 most = true then 0 else 144))) := by
  have H := Lib.hid h
  obtain ⟨z2, hz2⟩ : ∃ y : Int, y = if 0 ≤ z then z else z + 18446744073709551616 := ⟨_, rfl⟩
  have hw : IntKind.u64.wrap z = z2 := by
    rw [IntKind.wrap_u64, hz2]
    unfold i64B at hz
    by_cases h0 : 0 ≤ z
    · rw [if_pos h0]; omega
    · rw [if_neg h0]; omega
  have hz0 : 0 ≤ z2 := by
    rw [hz2]
    unfold i64B at hz
    by_cases h0 : 0 ≤ z
    · rw [if_pos h0]; omega
    · rw [if_neg h0]; omega
  have hin : inB z 0 most = (decide (0 ≤ z) && decide (z ≤ (most : Int))) := by simp [inB]
  have HIN : Hid (∀ r, inB z 0 most = r → seqE e (if r = true then 0 else 144) = 0 → l ++ be size z2.toNat = l ++ be size z.toNat) := Lib.hid (fun r hr h0 => by
    obtain ⟨_, h2⟩ := seqE_ok h0
    cases r
    · simp at h2
    · rw [hin] at hr
      simp only [Bool.and_eq_true, decide_eq_true_eq] at hr
      rw [hz2, if_pos hr.1])
  have HP : Hid (∀ (e1 : Nat) (w1 : World), WS V b0 g l m e1 w1 → Calls Tryd.prog 28 #[.pointer (some ⟨g, 0, none⟩), .int .u64 z2, .int .i64 (size : Int)] w1 (WPo V b0 g (l ++ be size z2.toNat) (m + size) e1)) := Lib.hid (fun e1 w1 h1 => wput_any z2 hz0 size hs hm w1 h1)
  have HM := Lib.hid (fun r => wmust_any (V := V) (b0 := b0) (g := g) (l := l) (m := m) (e := e) r 144 (by decide) W h)
  obtain ⟨E1, hE1⟩ : ∃ E1, E1 = seqE e (if inB z 0 most = true then 0 else 144) := ⟨_, rfl⟩
  rw [← hE1]
  have HE1 := Lib.hid hE1
  clear h hz2 hz hz0 hs hm hE1
  by_cases h0 : 0 ≤ z
  · by_cases h1 : z ≤ (most : Int)
    · have d0 : decide (0 ≤ z) = true := decide_eq_true h0
      have d1 : decide (z ≤ (most : Int)) = true := decide_eq_true h1
      rw [d0, d1] at hin
      have HI := Lib.hid hin
      have HM := Lib.hid (HM.out true)
      clear hin
      unfold WPo
      go_enter Tryd.func30, Tryd.ntmps30
      go_wp2_with (first
        | (go_at_call 31; refine HM.out.mono ?_; rintro x w1 ⟨rfl, hs⟩; have HS := Lib.hid hs; clear hs)
        | (go_at_call 28; refine (HP.out _ _ HS.out).mono ?_; rintro x w2 ⟨rfl, hs⟩; have HS2 := Lib.hid hs; clear hs))
      go_end0
      exact ⟨rfl, by have hi := HI.out; rw [Bool.true_and] at hi; rw [HE1.out, hi]; exact HS2.out.any (HIN.out true hi) (Nat.le_refl _)⟩
    · have d0 : decide (0 ≤ z) = true := decide_eq_true h0
      have d1 : decide (z ≤ (most : Int)) = false := decide_eq_false h1
      rw [d0, d1] at hin
      have HI := Lib.hid hin
      have HM := Lib.hid (HM.out false)
      clear hin
      unfold WPo
      go_enter Tryd.func30, Tryd.ntmps30
      go_wp2_with (first
        | (go_at_call 31; refine HM.out.mono ?_; rintro x w1 ⟨rfl, hs⟩; have HS := Lib.hid hs; clear hs)
        | (go_at_call 28; refine (HP.out _ _ HS.out).mono ?_; rintro x w2 ⟨rfl, hs⟩; have HS2 := Lib.hid hs; clear hs))
      go_end0
      exact ⟨rfl, by have hi := HI.out; rw [Bool.true_and] at hi; rw [HE1.out, hi]; exact HS2.out.any (HIN.out false hi) (Nat.le_refl _)⟩
  · have d0 : decide (0 ≤ z) = false := decide_eq_false h0
    rw [d0] at hin
    have HI := Lib.hid hin
    have HM := Lib.hid (HM.out false)
    clear hin
    unfold WPo
    go_enter Tryd.func30, Tryd.ntmps30
    go_wp2_with (first
      | (go_at_call 31; refine HM.out.mono ?_; rintro x w1 ⟨rfl, hs⟩; have HS := Lib.hid hs; clear hs)
      | (go_at_call 28; refine (HP.out _ _ HS.out).mono ?_; rintro x w2 ⟨rfl, hs⟩; have HS2 := Lib.hid hs; clear hs))
    go_end0
    exact ⟨rfl, by have hi := HI.out; rw [Bool.false_and] at hi; rw [HE1.out, hi]; exact HS2.out.any (HIN.out false hi) (Nat.le_refl _)⟩
set_option maxRecDepth 100000 in
theorem wtruth_any (is : Bool) (hm : m ≤ 1000000) (W : World) (h : WS V b0 g l m e W) : Calls Tryd.prog 63 #[.pointer (some ⟨g, 0, none⟩), .bool is] W (WPo V b0 g (l ++ be 4 (flagN is)) (m + 4) e) := by
  have h1 := wput_any 1 (by decide) 4 (by decide) hm W h
  have h0 := wput_any 0 (by decide) 4 (by decide) hm W h
  have H1 := Lib.hid h1
  have H0 := Lib.hid h0
  clear h h1 h0
  unfold WPo
  cases is
  · go_enter Tryd.func63, Tryd.ntmps63
    go_wp2_with (go_at_call 28; refine H0.out.mono ?_; rintro x w1 ⟨rfl, hs⟩; have HS := Lib.hid hs; clear hs)
    go_end0
    exact ⟨rfl, HS.out⟩
  · go_enter Tryd.func63, Tryd.ntmps63
    go_wp2_with (go_at_call 28; refine H1.out.mono ?_; rintro x w1 ⟨rfl, hs⟩; have HS := Lib.hid hs; clear hs)
    go_end0
    exact ⟨rfl, HS.out⟩
/-- The first k bytes of a name, filled up. -/
def nmP (s : By) (k : Nat) : By := (List.range k).map fun j => s.getD j 0
theorem nmP_succ (s : By) (k : Nat) : nmP s (k + 1) = nmP s k ++ [s.getD k 0] := by simp [nmP, List.range_succ]
theorem nmP_all {s : By} (h : s.length ≤ 16) : nmP s 16 = nameE s := by
  refine List.ext_getElem? fun i => ?_
  unfold nmP nameE
  by_cases hi : i < s.length
  · rw [List.getElem?_append_left hi]
    simp [show i < 16 by omega, hi]
  · rw [List.getElem?_append_right (by omega)]
    by_cases h16 : i < 16
    · simp [h16, hi, show i - s.length < 16 - s.length by omega]
    · simp [h16, show ¬ i - s.length < 16 - s.length by omega]
theorem build_one (x : Int) (w : World) : (Instr.buildSlice 22 1 #[(0, .int .u8 x)]).run Tryd.prog w = .ok (.slice (some ⟨w.heap.size, 0, none⟩) 1 1) (w.alloc (.cells #[.int .u8 x] 5)) := by
  obtain ⟨i0, hi, hz0, hz1, hz2⟩ := info_parts info_u8
  refine run_buildSlice (P := Tryd.prog) w 22 5 1 _ _ i0 (.int .u8 0) Tryd.underlying22 hi hz0 (by rw [hz1]; decide) (by rw [hz1]; decide) ?_
  rw [hz1]
  kernel_rfl
/-- One byte more, as name appends it. -/
theorem WS.byte {W : World} (h : WS V b0 g l m e W) (hm : m ≤ 900000) (x : UInt8) : ∃ (A : Option Addr) (c N : Nat) (B : Option Addr) (d : Nat) (w2 : World), W.cell? ⟨g, 0, none⟩ = some (.slice A N c) ∧
    (appS #[22, 22] 22 #[.slice A N c, .slice (some ⟨W.heap.size, 0, none⟩) 1 1]).run Tryd.prog (W.alloc (.cells #[.int .u8 (x.toNat : Int)] 5)) = .ok (.slice B (N + 1) d) w2 ∧ (w2.cell? ⟨g, 0, none⟩ = some (.slice A N c) ∧ w2.frozen? ⟨g, 0, none⟩ = false) ∧
    WS V b0 g (l ++ [x]) (m + 1) e (w2.setCell ⟨g, 0, none⟩ (.slice B (N + 1) d)) := by
  obtain ⟨A, c, L, -, h2, -, -, -, -, -, happ⟩ := h.open
  obtain ⟨B, d, w2, hr, hc, hw⟩ := happ (W.alloc (.cells #[.int .u8 (x.toNat : Int)] 5)) ⟨W.heap.size, 0, none⟩ [x] 1 (L.length + 1) rfl ((Below.refl _ _).alloc (Nat.le_refl _) _) (fun j u hu => by
    have e : ((⟨W.heap.size, 0, none⟩ : Addr).add j) = ⟨W.heap.size, j, none⟩ := by unfold Addr.add; by_cases h0 : j = 0 <;> simp [h0]
    rw [e, cell_of_row _ W.heap.size j _ 5 (0, 0) (heap_alloc_new W _), ← Array.getElem?_toList]
    exact hu) (by simp; omega)
  exact ⟨A, c, L.length, B, d, w2, h2, hr, hc, hw⟩
set_option maxHeartbeats 1000000 in
set_option maxRecDepth 100000 in
theorem wname_any (s : By) (hl : s.length ≤ 1000000) (hm : m ≤ 800000) (W : World) (h : WS V b0 g l m e W) : Calls Tryd.prog 62 #[.pointer (some ⟨g, 0, none⟩), .string (strOf s)] W (WPo V b0 g (l ++ nameE s) (m + 16) (seqE e (if nameOk s = true then 0 else 143))) := by
  have HM := Lib.hid (wmust_any (nameOk s) 143 (by decide) W h)
  have HN := Lib.hid (fun W => rname_any s hl W)
  obtain ⟨e1, he1⟩ : ∃ e1, e1 = seqE e (if nameOk s = true then 0 else 143) := ⟨_, rfl⟩
  have HE1 : Hid (e1 = 0 → l ++ nmP s 16 = l ++ nameE s) := Lib.hid (fun h0 => by
    rw [he1] at h0
    obtain ⟨_, h2⟩ := seqE_ok h0
    cases hn : nameOk s
    · rw [hn] at h2; simp at h2
    · unfold nameOk at hn
      simp only [Bool.and_eq_true, decide_eq_true_eq] at hn
      rw [nmP_all hn.2])
  rw [← he1] at HM ⊢
  obtain ⟨S, hS⟩ : ∃ S, S = strOf s := ⟨_, rfl⟩
  rw [← hS] at HN ⊢
  have hsz : S.size = s.length := by rw [hS, strOf_size]
  have HS0 := Lib.hid hS
  obtain ⟨r, hr⟩ : ∃ r, r = nameOk s := ⟨_, rfl⟩
  rw [← hr] at HM HN
  have hm1 : m ≤ 900000 - 16 := by omega
  clear hS h hr he1 hm
  unfold WPo
  go_enter Tryd.func62, Tryd.ntmps62
  go_wp2_with (first
    | (go_at_call 15; refine (HN.out _).mono ?_; rintro x w1 ⟨rfl, rfl⟩)
    | (go_at_call 31; refine HM.out.mono ?_; rintro x w1 ⟨rfl, hs⟩; have HS := Lib.hid hs; clear hs))
  go_loopw [4, 5] (fun j _ W => ∃ k : Nat, k ≤ 16 ∧ j = .int .i64 k ∧ Hid (WS V b0 g (l ++ nmP s k) (m + k) e1 W)) (fun i _ _ => 16 - (intOf i).toNat)
  case atStart => exact ⟨0, Nat.zero_le _, rfl, Lib.hid (HS.out.any (fun _ => by simp [nmP]) (Nat.le_refl _))⟩
  case round =>
    obtain ⟨k, hk, rfl, HW⟩ := hrel
    obtain ⟨W, hW⟩ : ∃ W : World, W = wr := ⟨_, rfl⟩
    subst hW
    by_cases hlt : k < 16
    · have d1 : (k : Int) < 16 := by omega
      obtain ⟨x, hx⟩ : ∃ x, x = s.getD k 0 := ⟨_, rfl⟩
      have hsu := nmP_succ s k
      rw [← hx] at hsu
      obtain ⟨A, c, N, B, d, w2, q1, q2, ⟨q3, q4⟩, q5⟩ := HW.out.byte (by omega) x
      rw [List.append_assoc, ← hsu] at q5
      have HN2 : Hid (WS V b0 g (l ++ nmP s (k + 1)) (m + (k + 1)) e1 (w2.setCell ⟨g, 0, none⟩ (.slice B (N + 1) d))) := Lib.hid q5
      have hbt := build_one (x.toNat : Int) W
      clear q5 hsu
      by_cases hks : k < s.length
      · have hkS : k < S.size := by omega
        have hkI : (k : Int) < (s.length : Int) := by omega
        have hc : S[k] = x := by
          have h0 := HS0.out
          subst h0
          rw [hx, List.getD_eq_getElem?_getD, List.getElem?_eq_getElem hks]
          rfl
        have hc2 : (S[k]'hkS).toNat = x.toNat := by rw [hc]
        clear hx hc
        go_wp2_with fail
        go_roundw
        case rel => exact ⟨k + 1, by omega, by go_num, HN2⟩
        case measure => simp [intOf]; omega
      · have hkI : ¬ (k : Int) < (s.length : Int) := by omega
        have hx0 : (x.toNat : Int) = 0 := by rw [hx, List.getD_eq_getElem?_getD, List.getElem?_eq_none (by omega)]; rfl
        rw [hx0] at q2 hbt
        clear hx hx0
        go_wp2_with fail
        go_roundw
        case rel => exact ⟨k + 1, by omega, by go_num, HN2⟩
        case measure => simp [intOf]; omega
    · obtain rfl : k = 16 := by omega
      go_wp2_with fail
      go_end0
      exact ⟨rfl, HW.out.any HE1.out (Nat.le_refl _)⟩
end
end Go.Proofs.YtmcpmcicolpoeaaDoor
