/- The law ShaWrites. -/
import Derived.Test.YtjblmnkhdablaaaDoorHash
import Derived.Test.YtjblmnkhdablaaaDoorLawA
namespace Go.Proofs.YtjblmnkhdablaaaDoor
open Go.RowKit
attribute [local go_sem ↓ high] zeroV53 zeroV26 zeroV32 zeroV34 zeroV55

theorem neq32 (f : Nat → UInt8) (w : World) : (binOp .neq 26 (.agg (vec 32 (bys f))) (.agg (vec 32 (bys f)))).run Tryd.prog w = .ok (.bool false) w := by
  have h := eql32 f w
  rw [run_eql_struct] at h
  rw [run_neq_struct]
  cases hq : (Op.equalIn 10000 26 (.agg (vec 32 (bys f))) (.agg (vec 32 (bys f)))).run Tryd.prog w with
  | ok b w' =>
    rw [hq] at h
    simp only [Result.andThen, Result.ok.injEq, Value.bool.injEq] at h ⊢
    obtain ⟨rfl, rfl⟩ := h
    exact ⟨rfl, rfl⟩
  | halt x w' => rw [hq] at h; simp [Result.andThen] at h
theorem owns_save {w w' : World} {base g : Nat} {e : TypeId} {v : Value} {n : Nat} {xs : List Value} (h : w.ownsRow base e 1 v n xs) (hs : Save g w w') (hg : g < base) : w'.ownsRow base e 1 v n xs := by
  refine ⟨h.1, ?_⟩
  rcases h.2 with h2 | ⟨g', cap, cur, hv, hb, hh, r⟩
  · exact Or.inl h2
  · have hlt : g' < w.heap.size := by
      rcases Nat.lt_or_ge g' w.heap.size with hl | hl
      · exact hl
      · rw [Array.getElem?_eq_none hl] at hh; cases hh
    exact Or.inr ⟨g', cap, cur, hv, hb, (hs.block g' hlt (by omega)).trans hh, r⟩
theorem Save.grown {g : Nat} {V w w' : World} {row : Option Nat} (h : Save g V w) (hg : w.grownBy w' row) (hr : ∀ k, row = some k → V.heap.size ≤ k) : Save g V w' := by
  have hb : Below V.heap.size w w' := (Below.refl _ _).grown hg h.size hr
  exact ⟨hb.os.trans h.os, hb.tape.trans h.tape, hb.output.trans h.output, Nat.le_trans h.size hb.size, fun k hk hkg => (hb.block k hk).trans (h.block k hk hkg)⟩
theorem Save.below' {g : Nat} {V w w' : World} (h : Save g V w) (hb : Below w.heap.size w w') : Save g V w' := h.trans (Save.of_below hb)

set_option maxHeartbeats 2000000 in
set_option maxRecDepth 100000 in
theorem writes_walk (A : Option Addr) (c : Nat) (ps : List Part) (at_ : Int) (w : World) (hm : ps.length ≤ maxLen) (hP : Parts w A ps) (hT : Tabs w) :
    Calls Tryd.prog 7 #[.slice A ps.length c, .int .i64 at_] w fun e w' => e = .returned (.bool true) ∧ Below w.heap.size w w' := by
  have HA := Lib.hid (awake_any w hT)
  have HP := Lib.hid hP
  have HT := Lib.hid hT
  have HM := Lib.hid hm
  clear hP hT hm
  by_cases hs : shortB ps = true
  · have hcl := short_cat hs
    have hpl := ((shortB_iff ps).1 hs).1
    obtain ⟨i0, hi, hz0, hz1, hz2⟩ := info_parts u8_info
    have Hi := Lib.hid (And.intro hi (And.intro hz0 (And.intro hz1 hz2)))
    have HS := Lib.hid (And.intro hs (And.intro hcl hpl))
    clear hs hcl hpl hi hz0 hz1 hz2
    go_enter Tryd.func7, Tryd.ntmps7
    go_wp2_with (first
      | (go_at_call 9; refine HA.out.mono ?_; rintro e w1 ⟨rfl, hd⟩; have H1 := Lib.hid hd; clear hd)
      | (go_at_call 10; refine (short_any ps A c _ (HP.out.below H1.out) HM.out).mono ?_; rw [HS.out.1]; rintro e w2 ⟨rfl, rfl⟩)
      | (go_at_call 26; refine (new_any _ (tabs_below HT.out H1.out)).mono ?_; rintro e w3 ⟨g, rfl, hH, hg, hd⟩; have H3 := Lib.hid (And.intro hH (And.intro hg (H1.out.trans (hd.mono H1.out.size)))); clear hH hg hd))
    obtain ⟨V, rfl⟩ : ∃ V : World, V = w3 := ⟨_, rfl⟩
    have hgV : g < V.heap.size := Arr.lt H3.out.1
    have hwg : w.heap.size ≤ g := Nat.le_trans H1.out.size H3.out.2.1
    have HG := Lib.hid (And.intro hgV hwg)
    clear hgV hwg
    go_loopw [6, 19] (fun u i W => ∃ k : Nat, k ≤ ps.length ∧ i = .int .i64 k ∧ Hid (W.ownsRow V.heap.size 5 1 u (catAll (ps.take k)).length (u8s (catAll (ps.take k)))) ∧ Hid (Ha W g true (feed S0 (catAll (ps.take k)))) ∧ Hid (Save g V W)) (fun _ i _ => ps.length - (intOf i).toNat)
    case atStart => exact ⟨0, Nat.zero_le _, rfl, Lib.hid (World.ownsRow_nil _ _ _ _), Lib.hid H3.out.1, Lib.hid (Save.refl _ _)⟩
    case round =>
      obtain ⟨k, hk, rfl, hown, hH, hsv⟩ := hrel
      have hpl20 : ps.length ≤ 20 := HS.out.2.2
      have HBW : Hid (Below w.heap.size w wr) := Lib.hid (H3.out.2.2.trans (hsv.out.below (by have := HG.out.2; omega) H3.out.2.2.size))
      obtain ⟨E, ce, rfl, hle⟩ := owns_form hown.out
      have HLE := Lib.hid hle
      clear hle
      by_cases hlt : k < ps.length
      · obtain ⟨a, hx, rfl, hab, hc⟩ := (HP.out.row.below HBW.out).atMap hlt
        have hmem := List.getElem_mem hlt
        have hle : (catAll (ps.take (k + 1))).length ≤ (catAll ps).length := cat_take_le ps (k + 1)
        have hs : catAll (ps.take (k + 1)) = catAll (ps.take k) ++ ps[k].2.2 := cat_succ ps k hlt
        have hli := (HP.out.each _ hmem)
        have hcp := HP.out.cap _ hmem
        obtain ⟨p, hp⟩ : ∃ p, p = ps[k] := ⟨_, rfl⟩
        rw [← hp] at hc hs hli hcp
        obtain ⟨A1, c1, l1⟩ := p
        unfold partV at hc
        simp only at hc hs hli hcp
        have hb := fun a (ha : A1 = some a) (hl : l1.length ≠ 0) => (show a.block < w.heap.size by obtain ⟨a2, h2, hb2, _⟩ := hli.2 hl; rw [ha] at h2; injection h2 with h2; rw [h2]; exact hb2)
        obtain ⟨cat, hcat⟩ : ∃ cat, cat = catAll (ps.take k) := ⟨_, rfl⟩
        rw [← hcat] at hs hown hH HLE ⊢
        have hlen2 : (catAll (ps.take (k + 1))).length = cat.length + l1.length := by rw [hs, List.length_append]
        have h6 : cat.length + l1.length ≤ 6000 := by rw [← hlen2]; exact Nat.le_trans hle HS.out.2.1
        obtain ⟨f, hf⟩ : ∃ f, f = shaL (cat ++ l1) := ⟨_, rfl⟩
        have hwr := write_any g (feed S0 cat) l1 A1 c1 wr hH.out (by rw [feed_t]; simp [S0]; omega) hcp ((hli.below HBW.out).wide HBW.out.size) (fun a ha hl => by have := hb a ha hl; have := HG.out.2; omega) (tabs_below HT.out HBW.out)
          (by have := (tab_lt HT.out).1; have := HG.out.2; omega) (by have := (tab_lt HT.out).2; have := HG.out.2; omega)
        have HWr := Lib.hid hwr
        have hsm : ∀ W, Ha W g true (feed S0 (cat ++ l1)) → Tabs W → Calls Tryd.prog 28 #[.pointer (some ⟨g, 0, none⟩)] W fun e w' => e = .returned (.agg (vec 32 (bys f))) ∧ Below W.heap.size W w' := fun W h1 h2 => by
          rw [hf, ← fin_feed]; exact hsum_any g _ (by rw [feed_t, List.length_append]; simp [S0]; omega) W h1 h2
        have hrs : ∀ W (E2 : Option Addr) (c2 : Nat), Lies W W.heap.size 1 E2 (cat.length + l1.length) (u8s (cat ++ l1)) → Calls Tryd.prog 12 #[.slice E2 (cat.length + l1.length) c2] W fun e w' => e = .returned (.agg (vec 32 (bys f))) ∧ Below W.heap.size W w' := fun W E2 c2 h => by
          have hl : (cat ++ l1).length = cat.length + l1.length := List.length_append
          rw [hf, ← hl]; exact rsum_any (cat ++ l1) E2 c2 W (by rw [hl]; exact h) (by rw [hl]; omega)
        have q3 := fun W => neq32 f W
        have q4 := fun x y W => eqg32 .neq x y f W
        have HSm := Lib.hid hsm
        have HRs := Lib.hid hrs
        have HC1 := Lib.hid (And.intro hs (And.intro hlen2 (And.intro h6 ((hli.below HBW.out)))))
        clear hs hlen2 h6 hle hli hcp hb hp hmem hcat hf hwr hsm hrs
        obtain ⟨hi0, hz0, hz1, hz2⟩ := Hi.out
        by_cases hat : (k : Int) = at_
        · have hat2 : ((k : Int) == at_) = true := by simp [hat]
          clear hat
          go_wp2_with (first
            | (go_at_call 27; refine HWr.out.mono ?_; rintro e w4 ⟨rfl, h1, h2⟩; have H4 := Lib.hid (And.intro h1 h2); clear h1 h2)
            | (at_builtin; refine wpList_app rfl (.tmp 27) (.tmp 28) 29 rfl V.heap.size 5 i0 (.int .u8 0) 1 Tryd.underlying29 hi0 hz0 hz1 hz2 rfl _ _ _ rfl (owns_save hown.out H4.out.2 HG.out.1) w.heap.size _ _ _ (u8s l1) rfl (HC1.out.2.2.2.below (show Below w.heap.size wr w4 from H4.out.2.below (by have := HG.out.2; omega) HBW.out.size)) (u8s_one _) (by have := HC1.out.2.2.1; unfold maxLen; omega) (by have := HC1.out.2.2.1; omega) (hsv.out.trans H4.out.2).size ?_; intro v' w5 h1 h2 h3
               have hr5 : ∀ j, (Value.slice E cat.length ce).ownBlock = some j → V.heap.size ≤ j := fun j hj => (hown.out.lt j hj).1
               have hH5 : Ha w5 g true (feed S0 (cat ++ l1)) := by rw [feed_append]; exact Arr.grown H4.out.1 h2 (fun e => by have := hr5 g e.symm; have := HG.out.1; omega)
               have hsv5 : Save g V w5 := (hsv.out.trans H4.out.2).grown h2 hr5
               rw [u8s_append] at h1
               obtain ⟨E2, c2, rfl, hl2⟩ := owns_form h1
               have H5 := Lib.hid (And.intro h1 (And.intro hH5 (And.intro hsv5 (And.intro hl2 (H3.out.2.2.trans (hsv5.below (by have := HG.out.2; omega) H3.out.2.2.size))))))
               clear h1 h2 h3 hr5 hH5 hsv5 hl2)
            | (go_at_call 28; refine (HSm.out _ H5.out.2.1 (tabs_below HT.out H5.out.2.2.2.2)).mono ?_; rintro e w6 ⟨rfl, hd⟩; have H6 := Lib.hid hd; clear hd)
            | (go_at_call 12; refine (HRs.out _ E2 c2 ((H5.out.2.2.2.1.below H6.out).wide H6.out.size)).mono ?_; rintro e w7 ⟨rfl, hd⟩; have H7 := Lib.hid (H6.out.trans (hd.mono H6.out.size)); clear hd))
          clear hi0 hz0 hz1 hz2 q3 q4 hat2
          go_roundw
          case rel => exact ⟨k + 1, by omega, by go_num, Lib.hid (by rw [HC1.out.2.1, HC1.out.1]; exact owns_below H5.out.1 H7.out), Lib.hid (by rw [HC1.out.1]; exact Arr.under H5.out.2.1 H7.out), Lib.hid (H5.out.2.2.1.below' H7.out)⟩
          case measure => simp [intOf]; omega
        · have hat2 : ((k : Int) == at_) = false := by simpa using hat
          clear hat
          go_wp2_with (first
            | (go_at_call 27; refine HWr.out.mono ?_; rintro e w4 ⟨rfl, h1, h2⟩; have H4 := Lib.hid (And.intro h1 h2); clear h1 h2)
            | (at_builtin; refine wpList_app rfl (.tmp 27) (.tmp 28) 29 rfl V.heap.size 5 i0 (.int .u8 0) 1 Tryd.underlying29 hi0 hz0 hz1 hz2 rfl _ _ _ rfl (owns_save hown.out H4.out.2 HG.out.1) w.heap.size _ _ _ (u8s l1) rfl (HC1.out.2.2.2.below (show Below w.heap.size wr w4 from H4.out.2.below (by have := HG.out.2; omega) HBW.out.size)) (u8s_one _) (by have := HC1.out.2.2.1; unfold maxLen; omega) (by have := HC1.out.2.2.1; omega) (hsv.out.trans H4.out.2).size ?_; intro v' w5 h1 h2 h3
               have hr5 : ∀ j, (Value.slice E cat.length ce).ownBlock = some j → V.heap.size ≤ j := fun j hj => (hown.out.lt j hj).1
               have hH5 : Ha w5 g true (feed S0 (cat ++ l1)) := by rw [feed_append]; exact Arr.grown H4.out.1 h2 (fun e => by have := hr5 g e.symm; have := HG.out.1; omega)
               have hsv5 : Save g V w5 := (hsv.out.trans H4.out.2).grown h2 hr5
               rw [u8s_append] at h1
               have H5 := Lib.hid (And.intro h1 (And.intro hH5 hsv5))
               clear h1 h2 h3 hr5 hH5 hsv5))
          clear hi0 hz0 hz1 hz2 q3 q4 hat2
          go_roundw
          case rel => exact ⟨k + 1, by omega, by go_num, Lib.hid (by rw [HC1.out.2.1, HC1.out.1]; exact H5.out.1), Lib.hid (by rw [HC1.out.1]; exact H5.out.2.1), Lib.hid H5.out.2.2⟩
          case measure => simp [intOf]; omega
      · obtain rfl : k = ps.length := by omega
        rw [List.take_length] at hown hH HLE ⊢
        obtain ⟨f, hf⟩ : ∃ f, f = shaL (catAll ps) := ⟨_, rfl⟩
        have q1 := fun W => eql32 f W
        have q2 := fun x y W => eqg32 .eql x y f W
        have ht : ((feed S0 (catAll ps)).t : Int) = ((catAll ps).length : Int) := by rw [feed_t]; simp [S0]
        have e64 : IntKind.u64.wrap ((catAll ps).length : Int) = ((catAll ps).length : Int) := by have := HS.out.2.1; rw [IntKind.wrap_u64]; omega
        have hlen := len_any g (feed S0 (catAll ps)) wr hH.out
        rw [ht] at hlen
        have hsm := hsum_any g (feed S0 (catAll ps)) (by rw [feed_t]; have := HS.out.2.1; simp [S0]; omega) wr hH.out (tabs_below HT.out HBW.out)
        rw [fin_feed, ← hf] at hsm
        have HLen := Lib.hid hlen
        have HSm := Lib.hid hsm
        have hrs : ∀ W, Lies W W.heap.size 1 E (catAll ps).length (u8s (catAll ps)) → Calls Tryd.prog 12 #[.slice E (catAll ps).length ce] W fun e w' => e = .returned (.agg (vec 32 (bys f))) ∧ Below W.heap.size W w' := fun W h => by
          rw [hf]; exact rsum_any (catAll ps) E ce W h (by have := HS.out.2.1; omega)
        have HRs := Lib.hid hrs
        clear ht hlen hsm hf hlt hk hrs
        go_wp2_with (first
          | (go_at_call 29; refine HLen.out.mono ?_; rintro e w4 ⟨rfl, rfl⟩)
          | (go_at_call 28; refine HSm.out.mono ?_; rintro e w6 ⟨rfl, hd⟩; have H6 := Lib.hid hd; clear hd)
          | (go_at_call 12; refine (HRs.out _ ((HLE.out.below H6.out).wide H6.out.size)).mono ?_; rintro e w7 ⟨rfl, hd⟩; have H7 := Lib.hid (H6.out.trans (hd.mono H6.out.size)); clear hd))
        go_ret
        exact ⟨rfl, HBW.out.trans (H7.out.mono HBW.out.size)⟩
  · have hs2 : shortB ps = false := by simpa using hs
    have HS := Lib.hid hs2
    clear hs hs2
    go_enter Tryd.func7, Tryd.ntmps7
    go_wp2_with (first
      | (go_at_call 9; refine HA.out.mono ?_; rintro e w1 ⟨rfl, hd⟩; have H1 := Lib.hid hd; clear hd)
      | (go_at_call 10; refine (short_any ps A c _ (HP.out.below H1.out) HM.out).mono ?_; rw [HS.out]; rintro e w2 ⟨rfl, rfl⟩))
    go_ret
    exact ⟨rfl, H1.out⟩
end Go.Proofs.YtjblmnkhdablaaaDoor
