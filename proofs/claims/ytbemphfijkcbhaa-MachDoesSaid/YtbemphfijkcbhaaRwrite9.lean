/- The reference's Mem: Write. -/
import Derived.Test.YtbemphfijkcbhaaRw9
namespace Go.Proofs.Ytbemphfijkcbhaa
open Go.RowKit

set_option maxRecDepth 100000 in
/-- A round of Write: what the walk is to know behind find, and what holds at the round's end. -/
theorem WI.step {w wr w2 : World} {G G1 G2 : Nat → Prop} {r n at_ j cap k s : Nat} {ram : Sp} {v v2 : Value} {ps ps2 : List RP} {m : Bytes8} {l : List UInt8} {B : Option Addr}
    (h : WI w wr G G1 r n at_ ram v ps m l B j cap) (hj : j < l.length) (h2 : MR w2 G2 r ram (n + pcnt (at_, j) + 1) v2 ps2 (wrM m at_ (l.take j))) (hk : ∃ h : k < ps2.length, ps2[k].1 = pgOf (at_ + j)) (ht : Turn G1 wr w2) (hg : ∀ i, G2 i → G1 i ∨ wr.heap.size ≤ i)
    (hs : s = min (l.length - j) (4096 - (at_ + j) % 4096)) (b : List UInt8) (hb : b = l.drop j) (o d : Nat) (ho : o = (at_ + j) % 4096) (hd : d = 4096 - o) :
    ∃ (a0 a q : Addr) (N c g : Nat) (C : Array Value) (B2 : Option Addr) (b2 : List UInt8), v2 = .slice (some a0) N c ∧ k < N ∧ N ≤ n + pcnt (at_, j) + 1 ∧ a0.add (k * 2) = q ∧ w2.cell? ⟨r, 2, none⟩ = some (.slice (some a0) N c) ∧ w2.cell? ⟨q.block, q.off + 1, none⟩ = some (.slice (some ⟨g, 0, none⟩) 4096 4096) ∧
      B = some a ∧ (∀ W, (Instr.sliceAt 41 (.slice (some ⟨g, 0, none⟩) 4096 4096) (some (.int .u64 (o : Int))) none none).run Try.prog W = .ok (.slice (some ⟨g, o, none⟩) d d) W) ∧
      (∀ ty, (Builtin.copy_ #[41, 41] ty #[.slice (some ⟨g, o, none⟩) d d, .slice (some a) b.length cap]).run Try.prog w2 = .ok (goInt (s : Nat)) (w2.setRow g C)) ∧
      (∀ W, (Instr.sliceAt 41 (.slice (some a) b.length cap) (some (.int .i64 (s : Int))) none none).run Try.prog W = .ok (.slice B2 b2.length (cap - s)) W) ∧ b2 = l.drop (j + s) ∧
      WI w (w2.setRow g C) G G2 r n at_ ram v2 ps2 m l B2 (j + s) (cap - s) := by
  obtain ⟨hk, hka⟩ := hk
  obtain ⟨A, c, rfl⟩ := h2.form
  obtain ⟨a0, q, rfl, hq, hc1, hc2⟩ := h2.page_at hk
  obtain ⟨g1, g2, g3, g4, g5, g6⟩ := h2.at_page hk
  have hlen : (l.drop j).length = l.length - j := by simp
  obtain ⟨hsrc0, hng0⟩ := h.src
  obtain ⟨a, rfl, hab, hac⟩ := h.li.2 (by omega)
  have hsrc : Lies w2 w2.heap.size 1 (some a) (l.drop j).length (u8s (l.drop j)) := (hsrc0.turn ht (Nat.le_refl _) hng0).wide ht.size
  have hst := pcnt_step (a := at_) (j := j) (s := s) (L := l.length) hs hj h.st
  have hml : ((l.drop j).take s).length = s := by simp; omega
  obtain ⟨B2, hB2, hL2, hbl⟩ := tail_any (some a) cap (l.drop j) s .i64 (by omega) h.ca w h.li
  rw [List.drop_drop] at hB2 hL2
  have hpg : pgOf (at_ + j) + o = at_ + j := by rw [ho]; exact pgOf_add _
  have hcp : ∀ ty, (Builtin.copy_ #[41, 41] ty #[.slice (some ⟨ps2[k].2, o, none⟩) d d, .slice (some a) b.length cap]).run Try.prog w2 = .ok (goInt (s : Nat)) (w2.setRow ps2[k].2 (vec 4096 (spl o s (bys fun i => ((l.drop j).take s).getD i 0) (bys fun i => wrM m at_ (l.take j) (ps2[k].1 + i))))) := fun ty => by
    rw [hb]
    exact run_copy_spl s g6 Try.underlying41 info8 (by show s = min (l.drop j).length d; omega) (fun i hi => by
      obtain ⟨p, e, _, hc⟩ := hsrc.2 (by omega)
      cases e
      rw [hc i (by simp [u8s]; omega)]
      simp [u8s, bys, List.getD_eq_getElem?_getD, hi]
      rw [List.getElem?_eq_getElem (by omega)]
      simp) (by omega) (fun _ _ => rfl)
  have hrow : vec 4096 (spl o s (bys fun i => ((l.drop j).take s).getD i 0) (bys fun i => wrM m at_ (l.take j) (ps2[k].1 + i))) = vec 4096 (bys fun i => wrM m at_ (l.take (j + s)) (ps2[k].1 + i)) := by
    refine vec_congr fun i hi => ?_
    rw [wrM_step m at_ l j s (by omega), hka]
    have := page_spl (wrM m at_ (l.take j)) (pgOf (at_ + j)) o s ((l.drop j).take s) hml i hi
    rw [hpg] at this
    exact this
  rw [hrow] at hcp
  refine ⟨a0, a, q, ps2.length, c, ps2[k].2, _, B2, l.drop (j + s), rfl, hk, h2.cnt, hq, h2.cell2, hc2, rfl, fun W => ?_, hcp, fun W => by rw [hb]; exact hB2 W, rfl, ?_⟩
  · rw [hd]; exact bytes_from _ 4096 o (by omega) W
  · refine ⟨?_, ?_, fun i hi => ?_, hL2, ?_, fun q' e h0 hg' => ?_, Or.inr hst.2.1⟩
    · refine (h2.store hk (m' := wrM m at_ (l.take (j + s))) fun x hx => ?_).mono (by have := hst.1; omega)
      rw [wrM_step m at_ l j s (by omega)]
      refine wrM_off _ _ _ _ ?_
      rw [hml]
      rw [hka] at hx
      omega
    · exact (h.tu.trans ht h.gs).setRow (by
        rcases hg _ g1 with h1 | h1
        · exact h.gs _ h1
        · have := h.tu.size; exact Or.inr (by omega)) _
    · rcases hg i hi with h1 | h1
      · exact h.gs i h1
      · have := h.tu.size; exact Or.inr (by omega)
    · have := h.ca
      have e1 : (l.drop (j + s)).length = l.length - (j + s) := by simp
      omega
    · obtain ⟨p, e1, e2⟩ := hbl q' e
      rw [e2] at hg'
      exact h.ng p e1 (by omega) hg'
set_option maxRecDepth 100000 in
set_option maxHeartbeats 2000000 in
theorem rwrite_ok {w : World} {G : Nat → Prop} {r n : Nat} {ram : Sp} {v : Value} {ps : List RP} {m : Bytes8} (hM : MR w G r ram n v ps m) (hn : n + 300 ≤ 1000000) (at_ : Nat) (l : List UInt8) (A : Option Addr) (cap : Nat) (ha : at_ < 18446744073709551616)
    (hA : Lies w w.heap.size 1 A l.length (u8s l)) (hcap : l.length ≤ cap) (hag : ∀ q, A = some q → l.length ≠ 0 → ¬ G q.block) (hq : askR ram at_ l.length = 0) :
    Calls Try.prog 40 #[.pointer (some ⟨r, 0, none⟩), .int .u64 (at_ : Int), .slice A l.length cap] w fun e w' => e = .returned (.int .i64 0) ∧
      ∃ G' v' ps', MR w' G' r ram (n + 300) v' ps' (wrM m at_ l) ∧ Turn G w w' ∧ ∀ i, G' i → G i ∨ w.heap.size ≤ i := by
  obtain ⟨hl1, hl2, hl3⟩ := ask_ok hM.ok hq ha
  have HK := Lib.hid (rask_any hM at_ l.length ha (by omega))
  rw [hq] at HK
  have HB : Hid (at_ + l.length < 18446744073709551616 ∧ (0 < l.length → at_ + l.length ≤ 1099511627776)) := Lib.hid ⟨by rcases Nat.eq_zero_or_pos l.length with h | h; omega; have := hl3 h; omega, hl3⟩
  have HW0 : Hid (∀ W, Below w.heap.size w W → WI w W G G r n at_ ram v ps m l A 0 cap) := Lib.hid fun W hW => ⟨by
    have := (hM.under hW).mono (n' := n + pcnt (at_, 0)) (by omega)
    refine this.congr fun x => ?_
    rw [List.take_zero, wrM_nil], Turn.of_below hW, fun i hi => Or.inl hi, hA, hcap, hag, Or.inl rfl⟩
  have HL := Lib.hid (And.intro hl1 hn)
  obtain ⟨Q, hQ⟩ : ∃ Q, Q = fun (e : Ending) (w' : World) => e = .returned (.int .i64 0) ∧ ∃ G' v' ps', MR w' G' r ram (n + 300) v' ps' (wrM m at_ l) ∧ Turn G w w' ∧ ∀ i, G' i → G i ∨ w.heap.size ≤ i := ⟨_, rfl⟩
  rw [← hQ]
  have HQ := Lib.hid hQ
  clear hQ hM hA hcap hag hq hl2 hl3 hn
  go_enter Try.func40, Try.ntmps40
  go_wp2_with (go_at_call 54; refine HK.out.mono ?_; rintro e w1 ⟨rfl, hd⟩; have HW1 := Lib.hid (HW0.out _ hd); clear hd)
  clear hl1 ha
  go_loopw [1, 2] (fun i y wr => ∃ (x j : Nat) (B : Option Addr) (cap' : Nat) (b : List UInt8) (G' : Nat → Prop) (v' : Value) (ps' : List RP), j ≤ l.length ∧ i = .int .u64 (x : Int) ∧ y = .slice B b.length cap' ∧ Hid (x = at_ + j ∧ b = l.drop j ∧ WI w wr G G' r n at_ ram v' ps' m l B j cap')) (fun i _ _ => at_ + l.length - (intOf i).toNat)
  case atStart => exact ⟨at_, 0, A, cap, l, G, v, ps, Nat.zero_le _, rfl, rfl, Lib.hid ⟨rfl, rfl, HW1.out⟩⟩
  case round =>
    obtain ⟨x, j, B, cap', b, G1, v1, ps1, hj, rfl, rfl, hW⟩ := hrel
    have hbl : b.length = l.length - j := by rw [hW.out.2.1]; simp
    by_cases hlt : j < l.length
    · have hpos : (0 : Int) < b.length := by omega
      have hx := hW.out.1
      have hxb : x < 1099511627776 := by have := HB.out.2 (by omega); omega
      obtain ⟨y, hy⟩ : ∃ y, y = x / 4096 := ⟨_, rfl⟩
      obtain ⟨k4, hk4⟩ : ∃ k4, k4 = pgOf x := ⟨_, rfl⟩
      obtain ⟨o, ho⟩ : ∃ o, o = x % 4096 := ⟨_, rfl⟩
      obtain ⟨d, hd⟩ : ∃ d, d = 4096 - o := ⟨_, rfl⟩
      obtain ⟨s, hs⟩ : ∃ s, s = min (l.length - j) (4096 - o) := ⟨_, rfl⟩
      have hk5 : k4 = y * 4096 := by rw [hk4, hy]; rfl
      have hq1 : (x : Int) / 4096 = (y : Int) := by omega
      have hq2 : (y : Int) * 4096 = (k4 : Int) := by omega
      have hq3 : (x : Int) % 4096 = (o : Int) := by omega
      have hyb : y < 268435456 := by omega
      have hkb : k4 < 1099511627776 := by omega
      have hsb : s ≤ 4096 := by omega
      have hlb : b.length ≤ 1048576 := by have := HL.out.1; omega
      have hpc : pcnt (at_, j) ≤ 257 := pcnt_le _ (by have := HL.out.1; simp only; omega)
      have HF : Hid (Calls Try.prog 55 #[.pointer (some ⟨r, 0, none⟩), .int .u64 (k4 : Int), .bool true] wr fun e w2 => ∃ k : Nat, e = .returned (.int .i64 (k : Int)) ∧ ∃ (a0 a q : Addr) (N c g : Nat) (C : Array Value) (B2 : Option Addr) (b2 : List UInt8) (G2 : Nat → Prop) (v2 : Value) (ps2 : List RP), k < N ∧ N ≤ 1000000 ∧ a0.add (k * 2) = q ∧ w2.cell? ⟨r, 2, none⟩ = some (.slice (some a0) N c) ∧ w2.cell? ⟨q.block, q.off + 1, none⟩ = some (.slice (some ⟨g, 0, none⟩) 4096 4096) ∧
          B = some a ∧ (∀ W, (Instr.sliceAt 41 (.slice (some ⟨g, 0, none⟩) 4096 4096) (some (.int .u64 (o : Int))) none none).run Try.prog W = .ok (.slice (some ⟨g, o, none⟩) d d) W) ∧
          (∀ ty, (Builtin.copy_ #[41, 41] ty #[.slice (some ⟨g, o, none⟩) d d, .slice (some a) b.length cap']).run Try.prog w2 = .ok (goInt (s : Nat)) (w2.setRow g C)) ∧
          (∀ W, (Instr.sliceAt 41 (.slice (some a) b.length cap') (some (.int .i64 (s : Int))) none none).run Try.prog W = .ok (.slice B2 b2.length (cap' - s)) W) ∧
          Hid (b2 = l.drop (j + s) ∧ WI w (w2.setRow g C) G G2 r n at_ ram v2 ps2 m l B2 (j + s) (cap' - s))) := Lib.hid (by
        have hHL := HL.out.2
        refine (rfind_put hW.out.2.2.mr (by omega) k4 (by rw [hk4]; exact pgOf_mod _) (by omega)).mono ?_
        rintro e w2 ⟨k, G2, v2, ps2, rfl, h1, h2, h3, h4⟩
        obtain ⟨a0, a, q, N, c, g, C, B2, b2, hv, hkN, hN, e1, e2, e3, e4, e5, e6, e7, e8, e9⟩ := hW.out.2.2.step hlt h1 (by rw [← hx, ← hk4]; exact h2) h3 h4 (s := s) (by rw [← hx, ← ho]; exact hs) b hW.out.2.1 o d (by rw [← hx]; exact ho) hd
        exact ⟨k, rfl, a0, a, q, N, c, g, C, B2, b2, G2, v2, ps2, hkN, by omega, e1, e2, e3, e4, e5, e6, e7, Lib.hid ⟨e8, e9⟩⟩)
      have HX : Hid (x + s = at_ + (j + s) ∧ j + s ≤ l.length ∧ 0 < s ∧ x + s ≤ at_ + l.length) := Lib.hid ⟨by omega, by omega, by omega, by omega⟩
      have hxs : x + s < 1099511631872 := by omega
      clear hW hbl hj hlt hx hy hk4 ho hd hs hk5 hpc
      go_wp2_with (go_at_call 55; refine HF.out.mono ?_; rintro e w2 ⟨k, rfl, a0, a, q, N, c, g, C, B2, b2, G2, v2, ps2, hkN, hN, hq4, hc2, hc3, rfl, hsl, hcp, htl, hE⟩)
      go_roundw
      case rel => exact ⟨x + s, j + s, B2, _, b2, G2, v2, ps2, HX.out.2.1, by go_num, rfl, Lib.hid ⟨HX.out.1, hE.out⟩⟩
      case measure => have := HX.out; simp [intOf]; omega
    · have e0 : ¬ (0 : Int) < b.length := by omega
      obtain rfl : j = l.length := by omega
      have HE := Lib.hid hW.out.2.2
      clear hW hbl hj hlt
      go_wp2
      rw [HQ.out]
      have h := HE.out
      have hpc : pcnt (at_, l.length) ≤ 257 := pcnt_le _ HL.out.1
      have hm := h.mr.mono (n' := n + 300) (by omega)
      rw [List.take_length] at hm
      exact ⟨rfl, G1, v1, ps1, hm, h.tu, h.gs⟩
end Go.Proofs.Ytbemphfijkcbhaa
