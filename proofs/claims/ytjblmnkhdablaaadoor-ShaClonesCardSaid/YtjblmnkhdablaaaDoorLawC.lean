/- The law ShaClones. -/
import Derived.Test.YtjblmnkhdablaaaDoorLawB
namespace Go.Proofs.YtjblmnkhdablaaaDoor
open Go.RowKit
attribute [local go_sem ↓ high] zeroV53 zeroV26 zeroV32 zeroV34 zeroV55

/-- Bytes with their room, as a part. -/
structure Byt (w : World) (A : Option Addr) (c : Nat) (l : List UInt8) : Prop where
  lies : Lies w w.heap.size 1 A l.length (u8s l)
  cap : l.length ≤ c
theorem Byt.below {w w' : World} {A : Option Addr} {c : Nat} {l : List UInt8} (h : Byt w A c l) (hb : Below w.heap.size w w') : Byt w' A c l := ⟨(h.lies.below hb).wide hb.size, h.cap⟩
theorem Byt.blk {w : World} {A : Option Addr} {c : Nat} {l : List UInt8} (h : Byt w A c l) {g : Nat} (hg : w.heap.size ≤ g) : ∀ a, A = some a → l.length ≠ 0 → a.block ≠ g := fun a ha hl => by
  obtain ⟨a2, h2, hb2, _⟩ := h.lies.2 hl
  rw [ha] at h2; injection h2 with h2
  rw [h2]; omega
/-- Three parts in a new row. -/
theorem parts_new {w W : World} {ps : List Part} (cs : Array Value) (hcs : cs.toList = ps.map partV) (hb : Below w.heap.size w W) (hp : ∀ p ∈ ps, Byt w p.1 p.2.1 p.2.2) :
    Parts (W.alloc (.cells cs 29)) (some ⟨W.heap.size, 0, none⟩) ps := by
  have hup : w.heap.size ≤ (W.alloc (.cells cs 29)).heap.size := by have := hb.size; simp; omega
  refine ⟨?_, fun p h => ?_, fun p h => (hp p h).cap⟩
  · have := lies_new W cs 29 ps.length (ps.map partV) hcs (by simp)
    simpa using this
  · exact (((hp p h).lies.below hb).alloc hb.size _).wide hup
theorem cat2 (a b : List UInt8) (A B : Option Addr) (ca cb : Nat) : catAll [((A, ca, a) : Part), (B, cb, b)] = a ++ b := by simp [catAll]

/-- The three hashes, as they stand in the end. -/
def Zs (w : World) (g g2 gz : Nat) (s s2 : St) (W : World) : Prop := Ha W g true s ∧ Ha W g2 true s2 ∧ Ha W gz false SZ ∧ Below w.heap.size w W
theorem Zs.keep {w : World} {g g2 gz : Nat} {s s2 : St} {W W' : World} (h : Zs w g g2 gz s s2 W) (hb : Below W.heap.size W W') : Zs w g g2 gz s s2 W' :=
  ⟨Arr.under h.1 hb, Arr.under h.2.1 hb, Arr.under h.2.2.1 hb, h.2.2.2.trans (hb.mono h.2.2.2.size)⟩
theorem Zs.alloc {w : World} {g g2 gz : Nat} {s s2 : St} {W : World} (h : Zs w g g2 gz s s2 W) (o : Obj) : Zs w g g2 gz s s2 (W.alloc o) := h.keep ((Below.refl _ _).alloc (Nat.le_refl _) _)

set_option maxHeartbeats 2000000 in
set_option maxRecDepth 100000 in
theorem clones_walk (A : Option Addr) (ca : Nat) (a : List UInt8) (B : Option Addr) (cb : Nat) (b : List UInt8) (C : Option Addr) (cc : Nat) (c : List UInt8) (w : World)
    (hca : a.length ≤ ca) (hla : Lies w w.heap.size 1 A a.length (u8s a)) (hcb : b.length ≤ cb) (hlb : Lies w w.heap.size 1 B b.length (u8s b))
    (hcc : c.length ≤ cc) (hlc : Lies w w.heap.size 1 C c.length (u8s c)) (hT : Tabs w) :
    Calls Tryd.prog 8 #[.slice A a.length ca, .slice B b.length cb, .slice C c.length cc] w fun e w' => e = .returned (.bool true) ∧ Below w.heap.size w w' := by
  have HA := Lib.hid (awake_any w hT)
  have hpa : Byt w A ca a := ⟨hla, hca⟩
  have hpb : Byt w B cb b := ⟨hlb, hcb⟩
  have hpc : Byt w C cc c := ⟨hlc, hcc⟩
  have h3 : ∀ p ∈ ([(A, ca, a), (B, cb, b), (C, cc, c)] : List Part), Byt w p.1 p.2.1 p.2.2 := by
    intro p hp
    simp only [List.mem_cons, List.not_mem_nil, or_false] at hp
    rcases hp with rfl | rfl | rfl
    · exact hpa
    · exact hpb
    · exact hpc
  have hab : ∀ p ∈ ([(A, ca, a), (B, cb, b)] : List Part), Byt w p.1 p.2.1 p.2.2 := fun p hp => h3 p (by simp at hp ⊢; rcases hp with h | h <;> simp [h])
  have hac : ∀ p ∈ ([(A, ca, a), (C, cc, c)] : List Part), Byt w p.1 p.2.1 p.2.2 := fun p hp => h3 p (by simp at hp ⊢; rcases hp with h | h <;> simp [h])
  have HP := Lib.hid (And.intro hpa (And.intro hpb (And.intro hpc (And.intro h3 (And.intro hab hac)))))
  have HT := Lib.hid hT
  clear hT hca hla hcb hlb hcc hlc hpa hpb hpc h3 hab hac
  by_cases hs : shortB [((A, ca, a) : Part), (B, cb, b), (C, cc, c)] = true
  · have hl3 := ((shortB_iff _).1 hs).2
    have hl : a.length ≤ 300 ∧ b.length ≤ 300 ∧ c.length ≤ 300 := ⟨hl3 (A, ca, a) (by simp), hl3 (B, cb, b) (by simp), hl3 (C, cc, c) (by simp)⟩
    obtain ⟨f, hf⟩ : ∃ f, f = shaL (a ++ b) := ⟨_, rfl⟩
    obtain ⟨f2, hf2⟩ : ∃ f2, f2 = shaL (a ++ c) := ⟨_, rfl⟩
    have q1 := fun W => eql32 f W
    have q2 := fun x y W => eqg32 .eql x y f W
    have q3 := fun W => eql32 f2 W
    have q4 := fun x y W => eqg32 .eql x y f2 W
    have q5 := fun W => eql32 zb W
    have q6 := fun x y W => eqg32 .eql x y zb W
    have HS := Lib.hid (And.intro hs (And.intro hl (And.intro hf hf2)))
    clear hs hl3 hl hf hf2
    go_enter Tryd.func8, Tryd.ntmps8
    go_upto_region 5 with (first
      | (go_at_call 9; refine HA.out.mono ?_; rintro e w1 ⟨rfl, hd⟩; have H1 := Lib.hid hd; clear hd)
      | (go_at_call 10; refine (short_any [(A, ca, a), (B, cb, b), (C, cc, c)] _ 3 _ (parts_new _ rfl H1.out HP.out.2.2.2.1) (show 3 ≤ maxLen by decide)).mono ?_; rw [HS.out.1]; rintro e w2 ⟨rfl, rfl⟩))
    obtain ⟨Wa, hWa⟩ : ∃ Wa, Wa = w1.alloc (.cells { toList := [partV (A, ca, a), partV (B, cb, b), partV (C, cc, c)] } 29) := ⟨_, rfl⟩
    have hba : Below w.heap.size w Wa := by rw [hWa]; exact H1.out.alloc H1.out.size _
    rw [← hWa]
    have HBa := Lib.hid hba
    clear hWa hba H1
    -- New
    go_upto_region 6 with (go_at_call 26; refine (new_any _ (tabs_below HT.out HBa.out)).mono ?_; rintro e w3 ⟨g, rfl, hH, hg, hd⟩; have H3 := Lib.hid (And.intro hH (And.intro (Nat.le_trans HBa.out.size hg) (HBa.out.trans (hd.mono HBa.out.size)))); clear hH hg hd)
    have hg0 : g ≠ 0 := by have := (tab_lt HT.out).1; have := H3.out.2.1; omega
    have hg1 : g ≠ 1 := by have := (tab_lt HT.out).2; have := H3.out.2.1; omega
    have hw1 := write_any g S0 a A ca w3 H3.out.1 (by have := HS.out.2.1; simp [S0]; omega) HP.out.1.cap ((HP.out.1.below H3.out.2.2).lies) (HP.out.1.blk H3.out.2.1) (tabs_below HT.out H3.out.2.2) hg0 hg1
    have HG := Lib.hid (And.intro hg0 hg1)
    have HW1 := Lib.hid hw1
    clear hg0 hg1 hw1
    go_upto_region 7 with (go_at_call 27; refine HW1.out.mono ?_; rintro e w4 ⟨rfl, h1, h2⟩; have H4 := Lib.hid (And.intro h1 (And.intro h2 (H3.out.2.2.trans (h2.below H3.out.2.1 H3.out.2.2.size)))); clear h1 h2 HW1)
    -- Clone
    go_upto_region 10 with (go_at_call 30; refine (clone_any g (feed S0 a) w4 H4.out.1).mono ?_; rintro e w5 ⟨g2, rfl, hH, hg, hd⟩; have H5 := Lib.hid (And.intro (show Ha w5 g true (feed S0 a) from Arr.under H4.out.1 hd) (And.intro hH (And.intro (show g < g2 from Nat.lt_of_lt_of_le (Arr.lt H4.out.1) hg) (H4.out.2.2.trans (hd.mono H4.out.2.2.size))))); clear hH hg hd)
    have hw2 := write_any g (feed S0 a) b B cb w5 H5.out.1 (by have := HS.out.2.1; rw [feed_t]; simp [S0]; omega) HP.out.2.1.cap ((HP.out.2.1.below H5.out.2.2.2).lies) (HP.out.2.1.blk H3.out.2.1) (tabs_below HT.out H5.out.2.2.2) HG.out.1 HG.out.2
    have HW2 := Lib.hid hw2
    clear hw2
    go_upto_region 11 with (go_at_call 27; refine HW2.out.mono ?_; rintro e w6 ⟨rfl, h1, h2⟩; have H6 := Lib.hid (And.intro h1 (And.intro (show Ha w6 g2 true (feed S0 a) from Arr.save H5.out.2.1 h2 (by have := H5.out.2.2.1; omega)) (H5.out.2.2.2.trans (h2.below H3.out.2.1 H5.out.2.2.2.size)))); clear h1 h2 HW2)
    have hlg2 : w.heap.size ≤ g2 := by have := H3.out.2.1; have := H5.out.2.2.1; omega
    have hw3 := write_any g2 (feed S0 a) c C cc w6 H6.out.2.1 (by have := HS.out.2.1; rw [feed_t]; simp [S0]; omega) HP.out.2.2.1.cap ((HP.out.2.2.1.below H6.out.2.2).lies) (HP.out.2.2.1.blk hlg2) (tabs_below HT.out H6.out.2.2) (by have := (tab_lt HT.out).1; omega) (by have := (tab_lt HT.out).2; omega)
    have HW3 := Lib.hid hw3
    have HL2 := Lib.hid hlg2
    clear hw3 hlg2
    go_upto_region 14 with (first
      | (go_at_call 27; refine HW3.out.mono ?_; rintro e w7 ⟨rfl, h1, h2⟩; have H7 := Lib.hid (And.intro (show Ha w7 g true (feed (feed S0 a) b) from Arr.save H6.out.1 h2 (by have := H5.out.2.2.1; omega)) (And.intro h1 (H6.out.2.2.trans (h2.below HL2.out H6.out.2.2.size)))); clear h1 h2 HW3)
      | (refine wl_build rfl 55 _ rfl (vec 74 (stf SZ (fb false))) (by kernel_rfl) ?_))
    obtain ⟨gz, hgz⟩ : ∃ gz, gz = w7.heap.size := ⟨_, rfl⟩
    obtain ⟨W8, hW8⟩ : ∃ W8, W8 = w7.alloc (.cells (vec 74 (stf SZ (fb false))) 55) := ⟨_, rfl⟩
    have hz : Zs w g g2 gz (feed S0 (a ++ b)) (feed S0 (a ++ c)) W8 := by
      rw [feed_append, feed_append, hW8, hgz]
      exact ⟨Arr.alloc H7.out.1 _, Arr.alloc H7.out.2.1 _, Arr.new w7 _ _ _, H7.out.2.2.alloc H7.out.2.2.size _⟩
    have hne : g ≠ g2 := by have := H5.out.2.2.1; omega
    rw [← hW8, ← hgz]
    have HZ := Lib.hid hz
    clear hgz hW8 hz H7 H6 H5 H4 H3
    obtain ⟨F, hF1, hF2, hF3⟩ : ∃ F : Option Addr → Nat → UInt8, F (some ⟨g, 0, none⟩) = f ∧ F (some ⟨g2, 0, none⟩) = f2 ∧ F none = zb :=
      ⟨fun p => if p = some ⟨g, 0, none⟩ then f else if p = some ⟨g2, 0, none⟩ then f2 else zb, by simp, by
        dsimp only
        rw [if_neg (by intro e; injection e with e; injection e with e; exact hne e.symm), if_pos rfl], by simp⟩
    have hsum : ∀ (p : Option Addr) (W : World), (p = some ⟨g, 0, none⟩ ∨ p = some ⟨g2, 0, none⟩ ∨ p = none) → Zs w g g2 gz (feed S0 (a ++ b)) (feed S0 (a ++ c)) W →
        Calls Tryd.prog 28 #[.pointer p] W fun e w' => e = .returned (.agg (vec 32 (bys (F p)))) ∧ Below W.heap.size W w' := by
      intro p W hp hZ
      rcases hp with rfl | rfl | rfl
      · rw [hF1, HS.out.2.2.1, ← fin_feed]
        exact hsum_any g _ (by have := HS.out.2.1; rw [feed_t, List.length_append]; simp [S0]; omega) W hZ.1 (tabs_below HT.out hZ.2.2.2)
      · rw [hF2, HS.out.2.2.2, ← fin_feed]
        exact hsum_any g2 _ (by have := HS.out.2.1; rw [feed_t, List.length_append]; simp [S0]; omega) W hZ.2.1 (tabs_below HT.out hZ.2.2.2)
      · rw [hF3]; exact hsum_none W
    have HSum := Lib.hid hsum
    have hcl : ∀ (p : Option Addr) (W : World), (p = some ⟨gz, 0, none⟩ ∨ p = none) → Zs w g g2 gz (feed S0 (a ++ b)) (feed S0 (a ++ c)) W →
        Calls Tryd.prog 30 #[.pointer p] W fun e w' => e = .returned (.pointer none) ∧ W = w' := by
      intro p W hp hZ
      rcases hp with rfl | rfl
      · exact clone_zero gz SZ W hZ.2.2.1
      · exact clone_none W
    have HCl := Lib.hid hcl
    have hrab : ∀ (W : World) (E : Option Addr) (ce : Nat), Lies W W.heap.size 1 E (a ++ b).length (u8s (a ++ b)) → Calls Tryd.prog 12 #[.slice E (a ++ b).length ce] W fun e w' => e = .returned (.agg (vec 32 (bys f))) ∧ Below W.heap.size W w' := fun W E ce h => by
      rw [HS.out.2.2.1]; exact rsum_any (a ++ b) E ce W h (by have := HS.out.2.1; rw [List.length_append]; omega)
    have hrac : ∀ (W : World) (E : Option Addr) (ce : Nat), Lies W W.heap.size 1 E (a ++ c).length (u8s (a ++ c)) → Calls Tryd.prog 12 #[.slice E (a ++ c).length ce] W fun e w' => e = .returned (.agg (vec 32 (bys f2))) ∧ Below W.heap.size W w' := fun W E ce h => by
      rw [HS.out.2.2.2]; exact rsum_any (a ++ c) E ce W h (by have := HS.out.2.1; rw [List.length_append]; omega)
    obtain ⟨ab, hab⟩ : ∃ ab, ab = a ++ b := ⟨_, rfl⟩
    obtain ⟨ac, hac⟩ : ∃ ac, ac = a ++ c := ⟨_, rfl⟩
    rw [← hab] at hrab
    rw [← hac] at hrac
    have HRab := Lib.hid hrab
    have HRac := Lib.hid hrac
    have hn2 : (catAll [((A, ca, a) : Part), (B, cb, b)]) = a ++ b := cat2 _ _ _ _ _ _
    have hn3 : (catAll [((A, ca, a) : Part), (C, cc, c)]) = a ++ c := cat2 _ _ _ _ _ _
    have HCab : Hid (∀ (W : World) (X : World), Below w.heap.size w X → W = X.alloc (.cells { toList := [.slice A a.length ca, .slice B b.length cb] } 29) → Calls Tryd.prog 13 #[.slice (some ⟨X.heap.size, 0, none⟩) 2 2] W (Bytes W ab)) := Lib.hid fun W X hX hW => by
      rw [hW, hab, ← hn2]
      exact rcat_any [(A, ca, a), (B, cb, b)] _ 2 _ (parts_new _ rfl hX HP.out.2.2.2.2.1) (by have := HS.out.2.1; rw [hn2, List.length_append]; omega) (show 2 ≤ 1000000 by decide)
    have HCac : Hid (∀ (W : World) (X : World), Below w.heap.size w X → W = X.alloc (.cells { toList := [.slice A a.length ca, .slice C c.length cc] } 29) → Calls Tryd.prog 13 #[.slice (some ⟨X.heap.size, 0, none⟩) 2 2] W (Bytes W ac)) := Lib.hid fun W X hX hW => by
      rw [hW, hac, ← hn3]
      exact rcat_any [(A, ca, a), (C, cc, c)] _ 2 _ (parts_new _ rfl hX HP.out.2.2.2.2.2) (by have := HS.out.2.1; rw [hn3, List.length_append]; omega) (show 2 ≤ 1000000 by decide)
    have HStage1 : Hid True := Lib.hid trivial
    clear hsum hcl hrab hrac hn2 hn3 hne hab hac
    go_upto_region 15 with (go_at_call 27; refine (write_none A a.length ca W8).mono ?_; rintro e w9 ⟨rfl, rfl⟩)
    go_upto_region 16 with (go_at_call 27; refine (write_zero gz SZ A a.length ca W8 HZ.out.2.2.1).mono ?_; rintro e w9 ⟨rfl, rfl⟩)
    go_wp2_with (first
      | (go_at_call 28; refine (HSum.out _ _ (by simp) HZ.out).mono ?_; rintro e y1 ⟨rfl, hd⟩; replace HZ := Lib.hid (HZ.out.keep hd); clear hd)
      | (go_at_call 13; clear HStage1; refine (HCab.out _ _ HZ.out.2.2.2 rfl).mono ?_; rintro e y2 ⟨v, rfl, hv1, hv2⟩; obtain ⟨E, ce, rfl, hl⟩ := owns_form hv1; have HRx := Lib.hid (HRab.out _ E ce hl); replace HZ := Lib.hid ((HZ.out.alloc _).keep hv2); clear hl hv1 hv2)
      | (go_at_call 13; refine (HCac.out _ _ HZ.out.2.2.2 rfl).mono ?_; rintro e y3 ⟨v, rfl, hv1, hv2⟩; obtain ⟨E, ce, rfl, hl⟩ := owns_form hv1; have HRx := Lib.hid (HRac.out _ E ce hl); replace HZ := Lib.hid ((HZ.out.alloc _).keep hv2); clear hl hv1 hv2)
      | (go_at_call 12; refine HRx.out.mono ?_; rintro e y4 ⟨rfl, hd⟩; replace HZ := Lib.hid (HZ.out.keep hd); clear hd)
      | (go_at_call 29; refine (len_zero gz SZ _ HZ.out.2.2.1).mono ?_; rintro e y5 ⟨rfl, rfl⟩)
      | (go_at_call 30; refine (HCl.out _ _ (by simp) HZ.out).mono ?_; rintro e y6 ⟨rfl, rfl⟩)
      | (refine wl_build rfl 26 _ rfl (vec 32 (bys zb)) (by kernel_rfl) ?_))
    go_ret
    exact ⟨rfl, HZ.out.2.2.2⟩
  · have hs2 : shortB [((A, ca, a) : Part), (B, cb, b), (C, cc, c)] = false := by simpa using hs
    have HS := Lib.hid hs2
    clear hs hs2
    go_enter Tryd.func8, Tryd.ntmps8
    go_wp2_with (first
      | (go_at_call 9; refine HA.out.mono ?_; rintro e w1 ⟨rfl, hd⟩; have H1 := Lib.hid hd; clear hd)
      | (go_at_call 10; refine (short_any [(A, ca, a), (B, cb, b), (C, cc, c)] _ 3 _ (parts_new _ rfl H1.out HP.out.2.2.2.1) (show 3 ≤ maxLen by decide)).mono ?_; rw [HS.out]; rintro e w2 ⟨rfl, rfl⟩))
    go_ret
    exact ⟨rfl, H1.out.alloc H1.out.size _⟩
end Go.Proofs.YtjblmnkhdablaaaDoor
