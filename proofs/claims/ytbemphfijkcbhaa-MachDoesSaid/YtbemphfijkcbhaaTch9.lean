/- mach.Mem: Touched: the keys, sorted. -/
import Derived.Test.YtbemphfijkcbhaaWs
import Derived.Test.YtbemphfijkcbhaaIns9
import Derived.Test.YtbemphfijkcbhaaRtch9
namespace Go.Proofs.Ytbemphfijkcbhaa
open Go.RowKit Go.Maps Go.Shelf

theorem up_of {l : List Nat} (h : l.Pairwise (· ≤ ·)) (hn : l.Nodup) : Up l := by
  unfold Up
  have := List.Pairwise.and h hn
  exact this.imp fun ⟨h1, h2⟩ => by omega
set_option maxRecDepth 100000 in
set_option maxHeartbeats 2000000 in
theorem sorted_any (gf : Nat) (lb : Array Value) (eg : ∀ args w, (callFunc gf args).run Try.prog w = .ok (.enter gf args) w) (D : DataW Unit) (N : Nat) (hN : N ≤ 900000) (w : World)
    (hseq : SeqStopsK Fence.wide 9 Try.prog gf lb (fun x : KU => #[.int .u64 (x.1 : Int)]) KeepsWalks (SKeys D) (fun _ => True) N w) (hlen : ∀ ys, SKeys D ys → ys.length ≤ 900000) :
    Calls Try.prog 44 #[.func (.func gf) #[] lb] w fun e W' => ∃ (A : Option Addr) (c : Nat) (l : List Nat), e = .returned (.slice A l.length c) ∧ Lies W' W'.heap.size 1 A l.length (u64s l) ∧ l.length ≤ 900000 ∧ Up l ∧ (∀ k, k ∈ l ↔ Maps.has D (klit k) = true) ∧ Below w.heap.size w W' := by
  have hcon := Lib.hid (collect_any gf lb eg (SKeys D) (fun _ => True) N (by omega) w hseq)
  have HLN := Lib.hid hlen
  clear hseq hlen
  have HS : Hid (∀ w1 v ys, SKeys D ys → OwnU w1 w.heap.size v (kvals ys) → Below w.heap.size w w1 → (∃ A c, v = .slice A (kvals ys).length c) ∧ Calls Try.prog 63 #[v] w1 fun e w' => e = .returned (.tuple #[]) ∧ ∃ (A : Option Addr) (c : Nat) (l : List Nat), v = .slice A l.length c ∧ Lies w' w'.heap.size 1 A l.length (u64s l) ∧ l.length ≤ 900000 ∧ Up l ∧ (∀ k, k ∈ l ↔ Maps.has D (klit k) = true) ∧ Below w.heap.size w w') := Lib.hid fun w1 v ys hy ho hb => by
    have hl := HLN.out ys hy
    have hkl : (kvals ys).length = ys.length := by simp [kvals]
    obtain ⟨A0, c0, hv0, _⟩ := owns_form ho
    refine ⟨⟨A0, c0, hv0⟩, ?_⟩
    refine (sorts_all (kvals ys) w.heap.size v w1 (by omega) hb.size ho).mono ?_
    rintro e w' ⟨h1, l, hp, hs, ho2, hg⟩
    obtain ⟨A, c, hv, _, _, hl2⟩ := owns_cap (show w'.ownsRow w.heap.size 22 1 v l.length (u64s l) from ho2)
    refine ⟨h1, A, c, l, hv, hl2, by rw [hp.length_eq]; omega, up_of hs (hp.symm.nodup hy.1), fun k => by rw [hp.mem_iff]; exact hy.2.1 k, below_app hb hg hb.size (fun q hq => (ho.lt q hq).1) (Nat.le_refl _)⟩
  go_enter Try.func44, Try.ntmps44
  go_wp2_with (first
    | (go_at_call 62; refine hcon.out.mono ?_; rintro e w1 ⟨v, ys, rfl, h0, h1, h2⟩; obtain ⟨⟨A0, c0, rfl⟩, hs⟩ := HS.out w1 v ys h0 h1 h2; have HS1 := Lib.hid hs; clear hs h0 h1 h2)
    | (go_at_call 63; refine HS1.out.mono ?_; rintro e w2 ⟨rfl, hq⟩; have HQ := Lib.hid hq; clear hq))
  go_ret
  obtain ⟨A, c, l, hv, h1, h2, h3, h4, h5⟩ := HQ.out
  exact ⟨A, c, l, by rw [← hv] <;> rfl, h1, h2, h3, h4, h5⟩
set_option maxRecDepth 100000 in
set_option maxHeartbeats 2000000 in
theorem mtouched_any {w : World} {G : Nat → Prop} {p b n : Nat} {ram : Sp} {D : DataW Unit} {m : Bytes8} (hM : MC w G p b ram n D m) (hn : n ≤ 900000) :
    Calls Try.prog 18 #[.pointer (some ⟨p, 0, none⟩)] w fun e w' => ∃ (A : Option Addr) (c : Nat) (l : List Nat), e = .returned (.slice A l.length c) ∧ Lies w' w'.heap.size 1 A l.length (u64s l) ∧ l.length ≤ 900000 ∧ Up l ∧ (∀ k, k ∈ l ↔ Maps.has D (klit k) = true) ∧ Below w.heap.size w w' := by
  have c2 := hM.blk.cellAt 2 rfl
  have hsz := hM.pg.own.size_le
  have hbw : Below w.heap.size w (w.alloc (.cells #[.map (some b)] 85)) := (Below.refl _ _).alloc (Nat.le_refl _) _
  have HK := Lib.hid (keys_any (some b) w)
  have HSO := Lib.hid (sorted_any 64 #[.pointer (some ⟨w.heap.size, 0, none⟩)] (enters_of Try.func64 (by kernel_rfl) rfl) D (Maps.size D) (by omega) (w.alloc (.cells #[.map (some b)] 85))
    (keys_stops 9 (by omega) w.heap.size b n D (fun l hl => by
      obtain ⟨k, g, e, hk⟩ := hM.pg.full l hl
      exact ⟨k, e, (hM.pg.pg k g hk).2.2.1⟩) (w.alloc (.cells #[.map (some b)] 85)) (by simp) (by simp) (by have := hM.pg.lt b hM.pg.gb; simp; omega) (hM.pg.under hbw).own) (fun ys hy => Nat.le_trans hy.2.2 (by omega)))
  have HB := Lib.hid hbw
  clear hM hn hsz hbw
  go_enter Try.func18, Try.ntmps18
  go_wp2_with (first
    | (go_at_call 45; refine HK.out.mono ?_; rintro e w1 ⟨rfl, rfl⟩)
    | (go_at_call 44; refine HSO.out.mono ?_; rintro e w2 ⟨A, c, l, rfl, hq⟩; have HQ := Lib.hid hq; clear hq))
  go_ret
  obtain ⟨h1, h2, h3, h4, h5⟩ := HQ.out
  exact ⟨A, c, l, rfl, h1, h2, h3, h4, HB.out.trans (h5.mono HB.out.size)⟩
/-- Both told the same pages. -/
theorem touched_same {w : World} {G H : Nat → Prop} {p b n r n' : Nat} {ram : Sp} {D : DataW Unit} {m : Bytes8} {v : Value} {ps : List RP} (hM : MC w G p b ram n D m) (hR : MR w H r ram n' v ps m) {l1 l2 : List Nat} (u1 : Up l1) (u2 : Up l2)
    (h1 : ∀ k, k ∈ l1 ↔ Maps.has D (klit k) = true) (h2 : ∀ x, x ∈ l2 ↔ ∃ j, ∃ h : j < ps.length, ps[j].1 = x ∧ pgNZ m x) : l1 = l2 := by
  refine up_ext u1 u2 fun x => ?_
  rw [h1, h2]
  constructor
  · intro hh
    obtain ⟨k, g, e, hk⟩ := hM.pg.full _ hh
    obtain rfl := klit_inj e
    obtain ⟨_, h4, _, _, h5⟩ := hM.pg.pg _ g hk
    have hz := h5 id
    refine Classical.byContradiction fun hn => ?_
    obtain ⟨i, hi, hne⟩ := hz
    refine hne (hR.no _ h4 (fun y hy e2 => ?_) i hi)
    obtain ⟨j, hj, rfl⟩ := List.mem_iff_getElem.1 hy
    exact hn ⟨j, hj, e2, i, hi, hne⟩
  · rintro ⟨j, hj, rfl, i, hi, hne⟩
    cases hp : pm D ps[j].1 with
    | some g => exact pm_has hp
    | none => exact absurd (hM.pg.no _ (hR.at_page hj).2.2.2.1 hp i hi) hne
end Go.Proofs.Ytbemphfijkcbhaa
