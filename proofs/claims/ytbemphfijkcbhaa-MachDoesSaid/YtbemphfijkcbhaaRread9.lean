/- The reference's Mem: Read. -/
import Derived.Test.YtbemphfijkcbhaaRw9
import Derived.Test.YtbemphfijkcbhaaApz9
namespace Go.Proofs.Ytbemphfijkcbhaa
open Go.RowKit
attribute [local go_sem ↓ high] builtin_appS9

/-- Bytes are being read. -/
structure RI (w wr : World) (at_ : Nat) (m : Bytes8) (A : Option Addr) (k cap : Nat) : Prop where
  ow : wr.ownsRow w.heap.size 5 1 (.slice A k cap) k (u8s (rdM m at_ k))
  be : Below w.heap.size w wr
theorem RI.past {w wr w2 w3 : World} {at_ : Nat} {m : Bytes8} {A A' : Option Addr} {k cap s c' : Nat} (h : RI w wr at_ m A k cap) (hd : Below wr.heap.size wr w2) (h2 : w3.ownsRow w.heap.size 5 1 (.slice A' (k + s) c') (k + s) (u8s (rdM m at_ k ++ rdM m (at_ + k) s))) (h3 : w2.grownBy w3 (Value.slice A k cap).ownBlock) :
    RI w w3 at_ m A' (k + s) c' := by
  have hb2 := h.be.trans (hd.mono h.be.size)
  refine ⟨by rw [rdM_add]; exact h2, below_app hb2 h3 hb2.size (fun q hq => (h.ow.lt q hq).1) (Nat.le_refl _)⟩
set_option maxRecDepth 100000 in
set_option maxHeartbeats 4000000 in
theorem rread_ok {w : World} {G : Nat → Prop} {r n : Nat} {ram : Sp} {v : Value} {ps : List RP} {m : Bytes8} (hM : MR w G r ram n v ps m) (hn : n ≤ 1000000) (at_ c : Nat) (hs : fit (at_, c)) (hq : askR ram at_ c = 0) :
    Calls Try.prog 31 #[.pointer (some ⟨r, 0, none⟩), .int .u64 (at_ : Int), .int .u64 (c : Int)] w fun e w' => ∃ A cap, e = .returned (.tuple #[.slice A c cap, .int .i64 0]) ∧ Lies w' w'.heap.size 1 A c (u8s (rdM m at_ c)) ∧ Below w.heap.size w w' := by
  obtain ⟨hl1, hl2, hl3⟩ := ask_ok hM.ok hq hs.1
  have HK := Lib.hid (rask_any hM at_ c hs.1 hs.2)
  rw [hq] at HK
  have HB : Hid (at_ + c < 18446744073709551616 ∧ (0 < c → at_ + c ≤ 1099511627776) ∧ c ≤ 1048576) := Lib.hid ⟨by rcases Nat.eq_zero_or_pos c with h | h; omega; have := hl3 h; omega, hl3, hl1⟩
  have HM := Lib.hid hM
  have HN := Lib.hid hn
  obtain ⟨Q, hQ⟩ : ∃ Q, Q = fun (e : Ending) (w' : World) => ∃ A cap, e = .returned (.tuple #[.slice A c cap, .int .i64 0]) ∧ Lies w' w'.heap.size 1 A c (u8s (rdM m at_ c)) ∧ Below w.heap.size w w' := ⟨_, rfl⟩
  rw [← hQ]
  have HQ := Lib.hid hQ
  clear hQ hM hq hl2 hl3 hn hs
  go_enter Try.func31, Try.ntmps31
  go_wp2_with (go_at_call 54; refine HK.out.mono ?_; rintro e w1 ⟨rfl, hd⟩; have HW1 := Lib.hid hd; clear hd)
  go_loopw [9] (fun y wr => ∃ (k : Nat) (A : Option Addr) (cap : Nat), k ≤ c ∧ y = .slice A k cap ∧ Hid (RI w wr at_ m A k cap)) (fun y _ => c - (match y with | .slice _ k _ => k | _ => 0))
  case atStart => exact ⟨0, none, 0, Nat.zero_le _, rfl, Lib.hid ⟨World.ownsRow_nil _ _ _ _, HW1.out⟩⟩
  case round =>
    obtain ⟨k, A, cap, hk, rfl, hI⟩ := hrel
    by_cases hlt : k < c
    · have hf0 : (k : Int) < c := by omega
      obtain ⟨x, hx⟩ : ∃ x, x = at_ + k := ⟨_, rfl⟩
      have hxb : x < 1099511627776 := by have := HB.out.2.1 (by omega); omega
      obtain ⟨y, hy⟩ : ∃ y, y = x / 4096 := ⟨_, rfl⟩
      obtain ⟨k4, hk4⟩ : ∃ k4, k4 = pgOf x := ⟨_, rfl⟩
      obtain ⟨o, ho⟩ : ∃ o, o = x % 4096 := ⟨_, rfl⟩
      obtain ⟨d, hd⟩ : ∃ d, d = 4096 - o := ⟨_, rfl⟩
      obtain ⟨f, hf⟩ : ∃ f, f = c - k := ⟨_, rfl⟩
      have hk5 : k4 = y * 4096 := by rw [hk4, hy]; rfl
      have hq0 : (at_ : Int) + (k : Int) = (x : Int) := by omega
      have hq1 : (x : Int) / 4096 = (y : Int) := by omega
      have hq2 : (y : Int) * 4096 = (k4 : Int) := by omega
      have hq3 : (x : Int) % 4096 = (o : Int) := by omega
      have hq4 : (4096 : Int) - (o : Int) = (d : Int) := by omega
      have hq5 : (c : Int) - (k : Int) = (f : Int) := by omega
      have hyb : y < 268435456 := by omega
      have hkb : k4 < 1099511627776 := by omega
      have hob : o < 4096 := by omega
      have hdb : d ≤ 4096 := by omega
      have hfb : f ≤ 1048576 := by omega
      have hpg : k4 + o = x := by rw [hk4, ho]; exact pgOf_add x
      -- what comes behind, for a size s
      have key : ∀ s, s = min f d → Hid (k + s ≤ c ∧ 0 < s ∧ o + s ≤ 4096 ∧ k + s ≤ 1048576) := fun s h => Lib.hid ⟨by omega, by omega, by omega, by omega⟩
      cases hfd : findR ps k4 with
      | none =>
        have HFN := Lib.hid (rfind_none (HM.out.under hI.out.be) HN.out k4 hfd)
        have HZ : Hid (∀ s, s = min f d → ∀ w2, Below wr.heap.size wr w2 → ∃ A' c' w3, (appS9 #[41, 22] 41 #[.slice A k cap, .int .u64 (s : Int)]).run Try.prog w2 = .ok (.slice A' (k + s) c') w3 ∧ RI w w3 at_ m A' (k + s) c') := Lib.hid fun s h w2 hd2 => by
          have hks := (key s h).out
          obtain ⟨A', c', w3, h1, h2, h3⟩ := app_zeros (m := m) (x := x) (s := s) (owns_below hI.out.ow hd2) (fun i hi => by
            have := HM.out.no k4 (by rw [hk4]; exact pgOf_mod _) (findR_none hfd) (o + i) (by omega)
            rw [← Nat.add_assoc, hpg] at this
            exact this) hks.2.1 hks.2.2.2 (Nat.le_trans hI.out.be.size hd2.size) 41
          rw [hx] at h2
          exact ⟨A', c', w3, h1, hI.out.past hd2 h2 h3⟩
        clear hk4 hx hy ho hd hf hk5 hfd hpg hlt hk
        by_cases hdf : f < d
        · have e1 : (f : Int) < (d : Int) := by omega
          have HS := key f (by omega)
          have HZ2 := Lib.hid (fun w2 hd2 => HZ.out f (by omega) w2 hd2)
          clear HZ key hdf
          go_wp2_with (go_at_call 55; refine HFN.out.mono ?_; rintro e w2 ⟨rfl, hd2⟩; obtain ⟨A', c', w3, hap, hr⟩ := HZ2.out w2 hd2; have HR := Lib.hid hr; clear hr hd2)
          go_roundw
          case rel => exact ⟨k + f, A', c', HS.out.1, rfl, HR⟩
          case measure => have := HS.out; simp; omega
        · have e1 : ¬ (f : Int) < (d : Int) := by omega
          have HS := key d (by omega)
          have HZ2 := Lib.hid (fun w2 hd2 => HZ.out d (by omega) w2 hd2)
          clear HZ key hdf
          go_wp2_with (go_at_call 55; refine HFN.out.mono ?_; rintro e w2 ⟨rfl, hd2⟩; obtain ⟨A', c', w3, hap, hr⟩ := HZ2.out w2 hd2; have HR := Lib.hid hr; clear hr hd2)
          go_roundw
          case rel => exact ⟨k + d, A', c', HS.out.1, rfl, HR⟩
          case measure => have := HS.out; simp; omega
      | some j =>
        have HFN := Lib.hid (rfind_some (HM.out.under hI.out.be) HN.out k4 j false hfd)
        have HZ : Hid (∀ s, s = min f d → ∀ w2, Below wr.heap.size wr w2 → ∃ (a0 q : Addr) (N c2 g : Nat) (A' : Option Addr) (c' : Nat) (w3 : World) (e : Nat), w2.cell? ⟨r, 2, none⟩ = some (.slice (some a0) N c2) ∧ j < N ∧ N ≤ 1000000 ∧ a0.add (j * 2) = q ∧ w2.cell? ⟨q.block, q.off + 1, none⟩ = some (.slice (some ⟨g, 0, none⟩) 4096 4096) ∧
            (o : Int) + (s : Int) = (e : Int) ∧ e ≤ 4096 ∧ (∀ W, (Instr.sliceAt 41 (.slice (some ⟨g, 0, none⟩) 4096 4096) (some (.int .u64 (o : Int))) (some (.int .u64 (e : Int))) none).run Try.prog W = .ok (.slice (some ⟨g, o, none⟩) s d) W) ∧
            (appS9 #[41, 41] 41 #[.slice A k cap, .slice (some ⟨g, o, none⟩) s d]).run Try.prog w2 = .ok (.slice A' (k + s) c') w3 ∧ Hid (RI w w3 at_ m A' (k + s) c')) := Lib.hid fun s h w2 hd2 => by
          have hks := (key s h).out
          have hM2 := HM.out.under (hI.out.be.trans (hd2.mono hI.out.be.size))
          obtain ⟨A0, c0, hv0⟩ := hM2.form
          subst hv0
          obtain ⟨hj, hja⟩ := findR_some hfd
          obtain ⟨a0, q, rfl, hq', hc1, hc2⟩ := hM2.page_at hj
          have hcn := hM2.cnt
          have hpa := (hM2.at_page hj).2.2.2.2.2
          obtain ⟨A', c', w3, h1, h2, h3⟩ := app_page (m := m) (o := o) (s := s) (d := d) (owns_below hI.out.ow hd2) hpa hks.2.2.1 hks.2.2.2 (Nat.le_trans hI.out.be.size hd2.size) 41
          rw [hja, hpg, hx] at h2
          refine ⟨a0, q, ps.length, c0, ps[j].2, A', c', w3, o + s, hM2.cell2, hj, by have := HN.out; omega, hq', hc2, by omega, by omega, fun W => ?_, h1, Lib.hid (hI.out.past hd2 h2 h3)⟩
          have := bytes_cut ⟨ps[j].2, 0, none⟩ 4096 4096 o (o + s) (by omega) (by omega) (by omega) hob W
          rw [show (⟨ps[j].2, 0, none⟩ : Addr).add o = ⟨ps[j].2, o, none⟩ by unfold Addr.add; split <;> simp_all, show o + s - o = s by omega, ← hd] at this
          exact this
        clear hk4 hx hy ho hd hf hk5 hfd hpg hlt hk
        by_cases hdf : f < d
        · have e1 : (f : Int) < (d : Int) := by omega
          have HS := key f (by omega)
          have HZ2 := Lib.hid (fun w2 hd2 => HZ.out f (by omega) w2 hd2)
          clear HZ key hdf
          go_wp2_with (go_at_call 55; refine HFN.out.mono ?_; rintro e w2 ⟨rfl, hd2⟩; obtain ⟨a0, q, N, c2, g, A', c', w3, e, z1, z2, z3, z4, z5, z6, z7, z8, z9, HR⟩ := HZ2.out w2 hd2; clear hd2)
          go_roundw
          case rel => exact ⟨k + f, A', c', HS.out.1, rfl, HR⟩
          case measure => have := HS.out; simp; omega
        · have e1 : ¬ (f : Int) < (d : Int) := by omega
          have HS := key d (by omega)
          have HZ2 := Lib.hid (fun w2 hd2 => HZ.out d (by omega) w2 hd2)
          clear HZ key hdf
          go_wp2_with (go_at_call 55; refine HFN.out.mono ?_; rintro e w2 ⟨rfl, hd2⟩; obtain ⟨a0, q, N, c2, g, A', c', w3, e, z1, z2, z3, z4, z5, z6, z7, z8, z9, HR⟩ := HZ2.out w2 hd2; clear hd2)
          go_roundw
          case rel => exact ⟨k + d, A', c', HS.out.1, rfl, HR⟩
          case measure => have := HS.out; simp; omega
    · have e0 : ¬ (k : Int) < c := by omega
      obtain rfl : k = c := by omega
      have HE := Lib.hid hI.out
      clear hI hlt hk
      go_wp2
      rw [HQ.out]
      obtain ⟨A', c', e2, h2⟩ := owns_form HE.out.ow
      injection e2 with e3 _ _
      subst e3
      exact ⟨A, cap, rfl, h2, HE.out.be⟩
end Go.Proofs.Ytbemphfijkcbhaa
