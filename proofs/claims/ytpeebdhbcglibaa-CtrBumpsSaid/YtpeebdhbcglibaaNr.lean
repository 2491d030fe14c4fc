/- The program's store: Read, Reboot, Words, New. -/
import Derived.Test.YtpeebdhbcglibaaNx
import Derived.Test.YtpeebdhbcglibaaNk
namespace Go.Proofs.Ytpeebdhbcglibaa
open Go.RowKit

section
variable {w : World} {G : Nat → Prop} {p c : Nat} {s : St} {v : Value} {A : Option Addr}
/-- A word, or none. -/
def rdV (s : St) (i : Int) : Value := if 0 ≤ i ∧ i < (s.ws.length : Int) then .tuple #[.int .u32 (num (s.ws.getD i.toNat 0)), .int .i64 0] else .tuple #[.int .u32 0, .int .i64 1]
theorem read_any (h : NC w G p s v A c) (i : Int) : Calls Try.prog 50 #[.pointer (some ⟨p, 0, none⟩), .int .i64 i] w fun e w' => e = .returned (rdV s i) ∧ w = w' := by
  have HH := Lib.hid (has_any h i)
  by_cases hi : 0 ≤ i ∧ i < (s.ws.length : Int)
  · rw [decide_eq_true hi] at HH
    obtain ⟨k, rfl⟩ := Int.eq_ofNat_of_zero_le hi.1
    have hk : k < s.ws.length := by omega
    have hr : rdV s (k : Int) = .tuple #[.int .u32 (num (s.ws.getD k 0)), .int .i64 0] := by unfold rdV; rw [if_pos hi]; rfl
    rw [hr]
    obtain ⟨g, d, hv, hnd, hGg, hgp, hcell, hfz⟩ := h.lay.at hk
    obtain ⟨o, ho⟩ : ∃ o, o = s.ws.getD k 0 := ⟨_, rfl⟩
    rw [← ho] at hcell ⊢
    obtain ⟨n, hnn⟩ : ∃ n, n = s.ws.length := ⟨_, rfl⟩
    have hkn : k < n := by omega
    have c2 := h.blk.cellAt 2 rfl
    rw [hv, ← hnn] at c2
    clear h hi hk hr hv hnd hfz ho hnn
    go_enter Try.func50, Try.ntmps50
    go_wp2_with (go_at_call 52; refine HH.out.mono ?_; rintro e w0 ⟨rfl, rfl⟩)
    go_ret2
    exact ⟨rfl, rfl⟩
  · rw [decide_eq_false hi] at HH
    have hr : rdV s i = .tuple #[.int .u32 0, .int .i64 1] := by unfold rdV; rw [if_neg hi]
    rw [hr]
    clear h hi hr
    go_enter Try.func50, Try.ntmps50
    go_wp2_with (go_at_call 52; refine HH.out.mono ?_; rintro e w0 ⟨rfl, rfl⟩)
    go_ret2
    exact ⟨rfl, rfl⟩
theorem nwords_any (h : NC w G p s v A c) (hn : s.ws.length ≤ 1000000) : Calls Try.prog 21 #[.pointer (some ⟨p, 0, none⟩)] w fun e w' => ∃ B d, e = .returned (.slice B s.ws.length d) ∧ Lies w' w'.heap.size 1 B s.ws.length (u32s s.ws) ∧ Below w.heap.size w w' := by
  obtain ⟨B, d, hv, _, hl⟩ := h.lay.form
  have c2 := h.blk.cellAt 2 rfl
  rw [hv] at c2
  have HK := Lib.hid (clone32_any B d s.ws hn w hl)
  obtain ⟨n, hnn⟩ : ∃ n, n = s.ws.length := ⟨_, rfl⟩
  rw [← hnn] at c2 HK ⊢
  clear h hn hv hl hnn
  go_enter Try.func21, Try.ntmps21
  go_wp2_with (first
    | (go_at_call 32; refine (held_any _ _).mono ?_; rintro e w1 ⟨rfl, rfl⟩)
    | (go_at_call 25; refine HK.out.mono ?_; rintro e w1 ⟨v1, rfl, ho, hd⟩; have H1 := Lib.hid (And.intro ho hd); clear ho hd))
  go_ret
  obtain ⟨B, d, rfl, h2⟩ := owns_form H1.out.1
  exact ⟨B, d, rfl, h2, H1.out.2⟩
/-- How Reboot ends. -/
def BootPost (w : World) (G : Nat → Prop) (p : Nat) (s : St) (v : Value) (A : Option Addr) (e : Ending) (w' : World) : Prop := e = .returned (.tuple #[]) ∧ (∃ B d, NC w' G p s.boot v B d ∧ (s.cs.length ≠ 0 → ∃ a, A = some a ∧ ∀ b, B = some b → b.block = a.block)) ∧ Turn G w w'
set_option maxRecDepth 100000 in
set_option maxHeartbeats 2000000 in
theorem reboot_any (h : NC w G p s v A c) : Calls Try.prog 16 #[.pointer (some ⟨p, 0, none⟩)] w (BootPost w G p s v A) := by
  obtain ⟨Q, hQ⟩ : ∃ Q, Q = BootPost w G p s v A := ⟨_, rfl⟩
  rw [← hQ]
  have HQ := Lib.hid hQ
  clear hQ
  obtain ⟨V, hV⟩ : ∃ V, V = (w.setCell ⟨p, 0, none⟩ (.bool true)).setCell ⟨p, 1, none⟩ (.int .i64 0) := ⟨_, rfl⟩
  have HR : Hid (Calls Try.prog 27 #[.pointer (some ⟨p, 0, none⟩)] w fun e w' => e = .returned (.tuple #[]) ∧ w' = V) := Lib.hid (by
    rw [hV]
    exact restore_any p s.on s.cnt w (h.blk.cellAt 0 rfl) (h.blk.cellAt 1 rfl) (h.blk.froz 0) (h.blk.froz 1))
  have hb : Blk V p 66 #[.bool true, .int .i64 0, v, .slice A s.cs.length c, .bool true] := by
    rw [hV]; exact (h.blk.set 0 (.bool true)).set 1 (.int .i64 0)
  have hl : Lay V G p ⟨s.ws, s.cs, 0, true⟩ v A c := by
    rw [hV]; exact (h.lay.own 0 (.bool true) s.cnt true).own 1 (.int .i64 0) 0 true
  have ht : Turn G w V := by
    rw [hV]; exact ((Turn.refl G w).setCell (p := ⟨p, 0, none⟩) (Or.inl h.lay.gp) _).setCell (p := ⟨p, 1, none⟩) (Or.inl h.lay.gp) _
  have m0 := h.blk.cellAt 4 rfl
  have c3 := hb.cellAt 3 rfl
  have f3 := hb.froz 3
  cases hcs : s.cs with
  | nil =>
    have HE : Hid (NC V G p s.boot v A c ∧ Turn G w V) := Lib.hid ⟨by
      have e : s.boot = ⟨s.ws, s.cs, 0, true⟩ := by unfold St.boot; rw [hcs]; rfl
      rw [e]; exact ⟨hl, hb⟩, ht⟩
    rw [hcs] at c3
    simp only [List.length_nil] at c3
    have HCC := Lib.hid c3
    have HZ : Hid (s.cs.length = 0) := Lib.hid (by rw [hcs]; rfl)
    clear h hV hb hl ht f3 hcs c3
    go_enter Try.func16, Try.ntmps16
    go_wp2_with (first
      | (go_at_call 32; refine (held_any _ _).mono ?_; rintro e w1 ⟨rfl, rfl⟩)
      | (go_at_call 27; refine HR.out.mono ?_; rintro e w2 ⟨rfl, hw⟩; have HW := Lib.hid hw; have c3 := HCC.out; rw [← hw] at c3; clear hw m0))
    go_end0
    rw [HQ.out, HW.out]
    exact ⟨rfl, ⟨_, _, HE.out.1, fun hn => absurd HZ.out hn⟩, HE.out.2⟩
  | cons x xs =>
    obtain ⟨q, hA, _, _⟩ := hl.cut hcs
    have hK : s.cs.length = xs.length + 1 := by rw [hcs]; rfl
    obtain ⟨K, hKK⟩ : ∃ K, K = s.cs.length := ⟨_, rfl⟩
    have hKp : 0 < K := by omega
    obtain ⟨q2, hq2⟩ : ∃ q2, q2 = (if c = 1 then some q else some (q.add 2)) := ⟨_, rfl⟩
    obtain ⟨K2, hK2⟩ : ∃ K2, K2 = K - 1 := ⟨_, rfl⟩
    obtain ⟨c2, hc2⟩ : ∃ c2, c2 = c - 1 := ⟨_, rfl⟩
    have hsl : ∀ W, (Instr.sliceAt 27 (.slice (some q) K c) (some (.int .i64 1)) none none).run Try.prog W = .ok (.slice q2 K2 c2) W := fun W => by rw [hq2, hK2, hc2]; exact cuts_tail q K c hKp W
    have HE : Hid (NC (V.setCell ⟨p, 3, none⟩ (.slice q2 K2 c2)) G p s.boot v q2 c2 ∧ Turn G w (V.setCell ⟨p, 3, none⟩ (.slice q2 K2 c2))) := Lib.hid ⟨by
      have e : s.boot = ⟨s.ws, xs, 0, true⟩ := by unfold St.boot; rw [hcs]; rfl
      have e2 : K2 = xs.length := by omega
      have hca := h.lay.ca
      rw [e]
      refine ⟨?_, ?_⟩
      · have h1 := hl.own 3 (.slice q2 K2 c2) 0 true
        have h2 := h1.tail (x := x) (xs := xs) hcs q hA 0 true q2 (by
          rw [hq2]
          by_cases h1 : c = 1
          · exact Or.inr (List.eq_nil_of_length_eq_zero (by omega))
          · rw [if_neg h1]; exact Or.inl rfl)
        rw [← hc2] at h2
        exact h2
      · have h1 := hb.set 3 (.slice q2 K2 c2)
        rw [e2] at h1 ⊢
        exact h1, ht.setCell (p := ⟨p, 3, none⟩) (Or.inl h.lay.gp) _⟩
    have HZ : Hid (∃ a, A = some a ∧ ∀ b, q2 = some b → b.block = a.block) := Lib.hid ⟨q, hA, fun b hb => by
      rw [hq2] at hb
      split at hb
      · cases hb; rfl
      · cases hb; exact addr_add_block _ _⟩
    rw [hA, ← hKK] at c3
    have HCC := Lib.hid (And.intro c3 f3)
    clear h hV hb hl ht f3 hcs c3 hA hK hKK hq2 hK2 hc2
    go_enter Try.func16, Try.ntmps16
    go_wp2_with (first
      | (go_at_call 32; refine (held_any _ _).mono ?_; rintro e w1 ⟨rfl, rfl⟩)
      | (go_at_call 27; refine HR.out.mono ?_; rintro e w2 ⟨rfl, hw⟩; have HW := Lib.hid hw; obtain ⟨c3, f3⟩ := HCC.out; rw [← hw] at c3 f3; clear hw m0))
    go_end0
    rw [HQ.out]
    have he := HE.out
    rw [← HW.out] at he
    exact ⟨rfl, ⟨_, _, he.1, fun _ => HZ.out⟩, he.2⟩
end
/-- How New ends. -/
def NewP (w : World) (ws : List W32) (cs : List Ct) (e : Ending) (w' : World) : Prop := ∃ p G v A c, e = .returned (.pointer (some ⟨p, 0, none⟩)) ∧ NC w' G p ⟨ws, cs, 0, true⟩ v A c ∧ (∀ i, G i → w.heap.size ≤ i) ∧ (∀ a, A = some a → cs.length ≠ 0 → w.heap.size ≤ a.block) ∧ Below w.heap.size w w'
theorem new_lay {w1 w2 : World} {B1 d1 : Nat} {A1 A2 : Option Addr} {d2 : Nat} {ws : List W32} {cs : List Ct} (h1 : w1.ownsRow 0 30 1 (.slice A1 ws.length d1) ws.length (u32s ws)) (hb1 : ∀ k, (Value.slice A1 ws.length d1).ownBlock = some k → B1 ≤ k ∧ k < w1.heap.size)
    (h2 : w2.ownsRow w1.heap.size 53 2 (.slice A2 cs.length d2) cs.length (cellsC cs)) (hd : Below w1.heap.size w1 w2) (hca : cs.length ≤ d2) (hok : ∀ x ∈ cs, CtOk x) :
    NC (w2.alloc (.cells #[.bool true, .int .i64 0, .slice A1 ws.length d1, .slice A2 cs.length d2, .bool true] 66)) (fun i => i = w2.heap.size ∨ (Value.slice A1 ws.length d1).ownBlock = some i) w2.heap.size ⟨ws, cs, 0, true⟩ (.slice A1 ws.length d1) A2 d2 := by
  have hsz := hd.size
  have hal : Below w2.heap.size w2 (w2.alloc (.cells #[.bool true, .int .i64 0, .slice A1 ws.length d1, .slice A2 cs.length d2, .bool true] 66)) := (Below.refl _ _).alloc (Nat.le_refl _) _
  have hl2 := Lies.of_owns h2
  have hb2 := h2.lt
  refine ⟨⟨?_, Or.inl rfl, fun k hk => ⟨Or.inr hk, ?_⟩, fun i hi => ?_, (hl2.below hal).wide hal.size, hca, hok, fun a ha hn hg => ?_⟩, Blk.new _ _ _ rfl⟩
  · exact owns_same h1 fun k hk => (hal.block k (by have := (hb1 k hk).2; omega)).trans (hd.block k (hb1 k hk).2)
  · have := (hb1 k hk).2; omega
  · rcases hi with rfl | hi
    · simp
    · have := (hb1 i hi).2; simp; omega
  · subst ha
    have := hb2 a.block rfl
    rcases hg with hg | hg
    · omega
    · have := (hb1 _ hg).2; omega
set_option maxRecDepth 100000 in
set_option maxHeartbeats 2000000 in
theorem new_any (A : Option Addr) (c : Nat) (ws : List W32) (hl : ws.length ≤ 1000000) (B : Option Addr) (d : Nat) (cs : List Ct) (hk : cs.length ≤ 1000000) (hok : ∀ x ∈ cs, CtOk x) (w : World) (hA : Lies w w.heap.size 1 A ws.length (u32s ws)) (hB : Lies w w.heap.size 2 B cs.length (cellsC cs)) :
    Calls Try.prog 9 #[.slice A ws.length c, .slice B cs.length d] w (NewP w ws cs) := by
  obtain ⟨Q, hQ⟩ : ∃ Q, Q = NewP w ws cs := ⟨_, rfl⟩
  rw [← hQ]
  have HQ := Lib.hid hQ
  have H1 : Hid (Calls Try.prog 25 #[.slice A ws.length c] w fun e w' => ∃ A1 d1, e = .returned (.slice A1 ws.length d1) ∧ Hid (w'.ownsRow w.heap.size 30 1 (.slice A1 ws.length d1) ws.length (u32s ws) ∧ Below w.heap.size w w')) := Lib.hid ((clone32_any A c ws hl w hA).mono fun e w' ⟨v', h1, h2, h3⟩ => by
    obtain ⟨A1, d1, rfl, _⟩ := owns_form h2
    exact ⟨A1, d1, h1, Lib.hid ⟨h2, h3⟩⟩)
  have H2 : Hid (∀ w1, Below w.heap.size w w1 → Calls Try.prog 26 #[.slice B cs.length d] w1 fun e w' => ∃ A2 d2, e = .returned (.slice A2 cs.length d2) ∧ Hid (w'.ownsRow w1.heap.size 53 2 (.slice A2 cs.length d2) cs.length (cellsC cs) ∧ cs.length ≤ d2 ∧ Below w1.heap.size w1 w')) := Lib.hid fun w1 hw1 => (cloneC_any B d cs hk w1 ((hB.below hw1).wide hw1.size)).mono fun e w' ⟨v', h1, h2, h3⟩ => by
    rcases h2.2 with ⟨h4, h5⟩ | ⟨g, cap, cur, h4, h5, h6, h7, _⟩
    · exact ⟨none, 0, by rw [h1, h4, h5], Lib.hid ⟨by rw [h4, h5] at h2; rw [h5]; exact h2, by omega, h3⟩⟩
    · exact ⟨some ⟨g, 0, none⟩, cap, by rw [h1, h4], Lib.hid ⟨by rw [h4] at h2; exact h2, h7, h3⟩⟩
  have HOK := Lib.hid hok
  clear hQ hA hB hl hk hok
  go_enter Try.func9, Try.ntmps9
  go_upto_region 2 with (first
    | (go_at_call 25; refine H1.out.mono ?_; rintro e w1 ⟨A1, d1, rfl, HX1⟩)
    | (go_at_call 26; refine (H2.out w1 HX1.out.2).mono ?_; rintro e w2 ⟨A2, d2, rfl, HX2⟩))
  obtain ⟨V, hV⟩ : ∃ V, V = w2.alloc (.cells #[.bool false, .int .i64 0, .slice A1 ws.length d1, .slice A2 cs.length d2, .bool true] 66) := ⟨_, rfl⟩
  rw [← hV]
  have hbV : Blk V w2.heap.size 66 #[.bool false, .int .i64 0, .slice A1 ws.length d1, .slice A2 cs.length d2, .bool true] := by rw [hV]; exact Blk.new _ _ _ rfl
  have HR := Lib.hid (restore_any w2.heap.size false 0 V (hbV.cellAt 0 rfl) (hbV.cellAt 1 rfl) (hbV.froz 0) (hbV.froz 1))
  have HE : Hid ((V.setCell ⟨w2.heap.size, 0, none⟩ (.bool true)).setCell ⟨w2.heap.size, 1, none⟩ (.int .i64 0) = w2.alloc (.cells #[.bool true, .int .i64 0, .slice A1 ws.length d1, .slice A2 cs.length d2, .bool true] 66)) := Lib.hid (by
    rw [hV]
    rw [World.setCell_alloc_new, World.setCell_alloc_new]
    rfl)
  clear hV hbV
  go_wp2_with (go_at_call 27; refine HR.out.mono ?_; rintro e w3 ⟨rfl, hw3⟩; have HW3 := Lib.hid hw3; clear hw3)
  rw [HQ.out, HW3.out, HE.out]
  have h1 := HX1.out
  have h2 := HX2.out
  have hs1 := h1.2.size
  have hs2 := h2.2.2.size
  refine ⟨_, _, _, _, _, rfl, new_lay (owns_mono h1.1 (Nat.zero_le _)) (fun k hk => h1.1.lt k hk) h2.1 h2.2.2 h2.2.1 HOK.out, fun i hi => ?_, fun a ha _ => ?_, ?_⟩
  · rcases hi with rfl | hi
    · omega
    · exact (h1.1.lt i hi).1
  · subst ha
    have := (h2.1.lt a.block rfl).1
    omega
  · exact (h1.2.trans (h2.2.2.mono hs1)).alloc (by omega) _
end Go.Proofs.Ytpeebdhbcglibaa
