/- The reference's reader: guest. -/
import Derived.Test.YtmcpmcicolpoeaaDoorXr3
import Derived.Test.YtmcpmcicolpoeaaDoorLi
import Derived.Test.YtmcpmcicolpoeaaDoorMa
namespace Go.Proofs.YtmcpmcicolpoeaaDoor
open Go.RowKit
attribute [local go_sem ↓ high] zeroGu zeroKey builtin_appS

def cN (nn : Nat → Nat) : Nat → Value := fun i => .int .i64 (nn i : Int)
def cM : Nat → Value := fun i => .int .u64 (mo4 i : Int)
set_option maxRecDepth 100000 in
theorem zeroI4 (w : World) : (zeroValue 105).run Tryd.prog w = .ok (.agg (vec 4 (cN fun _ => 0))) w :=
  (zero_of_info (P := Tryd.prog) (t := 105) (v := .agg (vec 4 (cN fun _ => 0))) (n := 4) (by kernel_rfl)).1 w
set_option maxRecDepth 100000 in
theorem zeroU4 (w : World) : (zeroValue 106).run Tryd.prog w = .ok (.agg (vec 4 (fun _ => Value.int .u64 0))) w :=
  (zero_of_info (P := Tryd.prog) (t := 106) (v := .agg (vec 4 (fun _ => Value.int .u64 0))) (n := 4) (by kernel_rfl)).1 w
attribute [local go_sem ↓ high] zeroI4 zeroU4
set_option maxRecDepth 100000 in
theorem infoU4 : (Tryd.prog.info? 106).map (·.size) = some 4 := by kernel_rfl
theorem cN_upd (nn : Nat → Nat) (k n : Nat) : upd (cN nn) k (.int .i64 (n : Int)) = cN (upd nn k n) := by
  funext j
  unfold upd cN
  by_cases h : j = k <;> simp [h]
set_option maxRecDepth 100000 in
theorem lt4 {n : Nat} (h : n < 256 ^ 4) : n < 4294967296 := by
  have : (256 : Nat) ^ 4 = 4294967296 := by decide
  omega
set_option maxRecDepth 100000 in
theorem lt2 {n : Nat} (h : n < 256 ^ 2) : n < 65536 := by
  have : (256 : Nat) ^ 2 = 65536 := by decide
  omega
set_option maxRecDepth 100000 in
theorem erN_zero {o : Option (Nat × Nat)} (h : ∀ x, o = some x → x.1 ≠ 0) (h0 : erN o = 0) : o = none := by
  cases o with
  | none => rfl
  | some x => exact absurd h0 (h x rfl)
set_option maxRecDepth 100000 in
theorem erN_some {o : Option (Nat × Nat)} (h0 : erN o ≠ 0) : o ≠ none := by
  intro h
  rw [h] at h0
  exact h0 rfl
set_option maxRecDepth 100000 in
theorem list_none {α : Type} (c : Cod α) (b : By) (st : Rs) : StepP (listC c 0) b st [] st := by
  cases h : st.err with
  | some x => exact .of_some h h
  | none => exact .of_ok h (list_zero st.at_) (by cases st; simp only at h; subst h; rfl)
/-- What guest answers. -/
def GuA (g : Nat) (A : Option Addr) (c : Nat) (b : By) (st : Rs) (w : World) (x : Ending) (w' : World) : Prop := ∃ (y : GV) (st' : Rs), x = .returned (.agg (vec 79 (guestE y))) ∧ y.g.key.length = 68 ∧ GOwn w' w.heap.size y ∧ StepP (guestC kOk) b st y.g st' ∧ RQ w' g A c b st' ∧ Save g w w'
section
variable {w : World} {g c : Nat} {A : Option Addr} {b : By} {st : Rs}
set_option maxHeartbeats 32000000 in
set_option maxRecDepth 100000 in
theorem rguest_any (h : RQ w g A c b st) : Calls Tryd.prog 23 #[.pointer (some ⟨g, 0, none⟩)] w (GuA g A c b st w) := by
  obtain ⟨V0, hV0⟩ : ∃ V, V = w.alloc (.cells (vec 79 (guestE zGV)) 64) := ⟨_, rfl⟩
  have hB : Below w.heap.size w V0 := by rw [hV0]; exact (Below.refl _ _).alloc (Nat.le_refl _) _
  have hR2 : Arr V0 w.heap.size 64 79 (guestE zGV) := by rw [hV0]; exact Arr.new w _ _ _
  obtain ⟨r2, hr2⟩ : ∃ r, r = w.heap.size := ⟨_, rfl⟩
  rw [← hr2] at hR2
  have HGR : Hid (g < r2) := Lib.hid (by rw [hr2]; exact h.lt)
  have HRQ := Lib.hid (h.under hB)
  have HRES := Lib.hid hR2
  have HSV : Hid (Save g w V0) := Lib.hid (Save.of_below hB)
  have HW0 := Lib.hid hV0
  have HR2 := Lib.hid hr2
  obtain ⟨Q, hQ⟩ : ∃ Q, Q = GuA g A c b st w := ⟨_, rfl⟩
  have HQ : Hid (∀ (y : GV) (st' : Rs) (W' : World), y.g.key.length = 68 → GOwn W' w.heap.size y → StepP (guestC kOk) b st y.g st' → RQ W' g A c b st' → Save g w W' → Q (.returned (.agg (vec 79 (guestE y)))) W') := Lib.hid (fun y st' W' h1 h2 h3 h4 h5 => by rw [hQ]; exact ⟨y, st', rfl, h1, h2, h3, h4, h5⟩)
  rw [← hQ]
  clear h hV0 hB hR2 hr2 hQ
  go_enter Tryd.func23, Tryd.ntmps23
  go_upto_region 1 with fail
  rw [← HW0.out, ← HR2.out]
  clear HW0
  go_upto_region 2 with (first
    | (go_at_call 49; refine (rdname_any HRQ.out).mono ?_; rintro x w1 ⟨s1, st1, rfl, hsl, hst, hr, hsv⟩; have HRQ := Lib.hid hr; have HSV := Lib.hid (And.intro HSV.out hsv); have HT1 := Lib.hid hst; clear hsl hst hr hsv)
    | ((with_reducible show wpList _ _ _ (Oper.mk _ (.build _ _) _ _ _ _ :: _) _ _); refine wl_build rfl 64 _ rfl (vec 79 (guestE ⟨⟨s1, false, 0, 0, 0, 0, 0, [], [], [], [], []⟩, nilV, nilV, nilV, nilV⟩)) (by kernel_rfl) ?_)
    | ((with_reducible show wpList _ _ _ (Oper.mk _ (.store _ _ _) _ _ _ _ :: _) _ _); refine wl_store rfl 64 _ _ rfl _ rfl _ rfl (run_store_arr (Arr.new w1 _ _ _) (guestE ⟨⟨s1, false, 0, 0, 0, 0, 0, [], [], [], [], []⟩, nilV, nilV, nilV, nilV⟩) infoGu (guestE_one _ ⟨rfl, rfl, rfl, rfl⟩ _)) ?_))
  obtain ⟨W1, hW1⟩ : ∃ W, W = (w1.alloc (.cells (vec 79 (guestE zGV)) 64)).setRow w1.heap.size (vec 79 (guestE ⟨⟨s1, false, 0, 0, 0, 0, 0, [], [], [], [], []⟩, nilV, nilV, nilV, nilV⟩)) := ⟨_, rfl⟩
  have hb1 : Below w1.heap.size w1 W1 := by rw [hW1]; exact below_row ((Below.refl _ _).alloc (Nat.le_refl _) _) (Nat.le_refl _) _
  have ha1 : Arr W1 w1.heap.size 64 79 (guestE ⟨⟨s1, false, 0, 0, 0, 0, 0, [], [], [], [], []⟩, nilV, nilV, nilV, nilV⟩) := by rw [hW1]; exact (Arr.new w1 _ _ _).row _
  obtain ⟨u, hu⟩ : ∃ u, u = w1.heap.size := ⟨_, rfl⟩
  rw [← hu] at ha1
  have HG : Hid (GS g A c b u W1 W1 st1 ⟨⟨s1, false, 0, 0, 0, 0, 0, [], [], [], [], []⟩, nilV, nilV, nilV, nilV⟩) := Lib.hid ⟨HRQ.out.under hb1, ha1, FT.refl _ _ _, by rw [hu]; exact HRQ.out.lt, ha1.lt⟩
  have HSW : Hid (Save g w W1) := Lib.hid ((HSV.out.1.trans HSV.out.2).trans (Save.of_below hb1))
  have HRU : Hid (r2 < u ∧ Arr W1 r2 64 79 (guestE zGV)) := Lib.hid ⟨by rw [hu]; exact Nat.lt_of_lt_of_le HRES.out.lt HSV.out.2.size, (HRES.out.save HSV.out.2 (by have := HGR.out; omega)).under hb1⟩
  have HU1 := Lib.hid hu
  have HWW := Lib.hid hW1
  clear hW1 hb1 ha1 hu HRES HSV HRQ
  rw [← HWW.out, ← HU1.out]
  clear HWW HU1
  go_upto_region 3 with (go_at_call 21; refine (rnum_any 4 1 144 (by decide) (by decide) (by decide) HG.out.rq).mono ?_; rintro x w2 ⟨n2, st2, rfl, hn, hst, hr, hsv⟩; replace HG := Lib.hid (HG.out.call hr hsv); have HT2 := Lib.hid hst; obtain ⟨q1, q2⟩ := HG.out.cell 1 (by decide); obtain ⟨mu, hmu⟩ : ∃ m, m = ((n2 : Int) == 1) := ⟨_, rfl⟩; have hmu2 : ((n2 : Int) == 1) = mu := hmu.symm; have HMU := Lib.hid hmu; clear hmu; clear hn hst hr hsv)
  obtain ⟨W2, hW2⟩ : ∃ W, W = w2.setCell ⟨u, 1, none⟩ (.bool mu) := ⟨_, rfl⟩
  replace HG : Hid (GS g A c b u W1 W2 st2 ⟨⟨s1, mu, 0, 0, 0, 0, 0, [], [], [], [], []⟩, nilV, nilV, nilV, nilV⟩) := Lib.hid (by rw [hW2]; exact HG.out.set 1 _ (upd_1 _ _))
  rw [← hW2]
  clear hW2 q1 q2
  clear hmu2
  go_upto_region 4 with (go_at_call 21; refine (rnum_any 4 4294967295 144 (by decide) (by decide) (by decide) HG.out.rq).mono ?_; rintro x w2 ⟨n3, st3, rfl, hn, hst, hr, hsv⟩; replace HG := Lib.hid (HG.out.call hr hsv); have HT3 := Lib.hid hst; obtain ⟨q1, q2⟩ := HG.out.cell 2 (by decide); have hw : IntKind.u32.wrap (n3 : Int) = (n3 : Int) := (by rw [IntKind.wrap_u32]; have := lt4 hn; omega); clear hn hst hr hsv)
  obtain ⟨W3, hW3⟩ : ∃ W, W = w2.setCell ⟨u, 2, none⟩ (.int .u32 (n3 : Int)) := ⟨_, rfl⟩
  replace HG : Hid (GS g A c b u W1 W3 st3 ⟨⟨s1, mu, (n3 : Int), 0, 0, 0, 0, [], [], [], [], []⟩, nilV, nilV, nilV, nilV⟩) := Lib.hid (by rw [hW3]; exact HG.out.set 2 _ (upd_2 _ _))
  rw [← hW3]
  clear hW3 q1 q2
  clear hw
  go_upto_region 5 with (go_at_call 21; refine (rnum_any 4 4294967295 144 (by decide) (by decide) (by decide) HG.out.rq).mono ?_; rintro x w2 ⟨n4, st4, rfl, hn, hst, hr, hsv⟩; replace HG := Lib.hid (HG.out.call hr hsv); have HT4 := Lib.hid hst; obtain ⟨q1, q2⟩ := HG.out.cell 3 (by decide); have hw : IntKind.u32.wrap (n4 : Int) = (n4 : Int) := (by rw [IntKind.wrap_u32]; have := lt4 hn; omega); clear hn hst hr hsv)
  obtain ⟨W4, hW4⟩ : ∃ W, W = w2.setCell ⟨u, 3, none⟩ (.int .u32 (n4 : Int)) := ⟨_, rfl⟩
  replace HG : Hid (GS g A c b u W1 W4 st4 ⟨⟨s1, mu, (n3 : Int), (n4 : Int), 0, 0, 0, [], [], [], [], []⟩, nilV, nilV, nilV, nilV⟩) := Lib.hid (by rw [hW4]; exact HG.out.set 3 _ (upd_3 _ _))
  rw [← hW4]
  clear hW4 q1 q2
  clear hw
  go_upto_region 6 with (go_at_call 21; refine (rnum_any 4 4294967295 144 (by decide) (by decide) (by decide) HG.out.rq).mono ?_; rintro x w2 ⟨n5, st5, rfl, hn, hst, hr, hsv⟩; replace HG := Lib.hid (HG.out.call hr hsv); have HT5 := Lib.hid hst; obtain ⟨q1, q2⟩ := HG.out.cell 4 (by decide); have hw : IntKind.u32.wrap (n5 : Int) = (n5 : Int) := (by rw [IntKind.wrap_u32]; have := lt4 hn; omega); clear hn hst hr hsv)
  obtain ⟨W5, hW5⟩ : ∃ W, W = w2.setCell ⟨u, 4, none⟩ (.int .u32 (n5 : Int)) := ⟨_, rfl⟩
  replace HG : Hid (GS g A c b u W1 W5 st5 ⟨⟨s1, mu, (n3 : Int), (n4 : Int), (n5 : Int), 0, 0, [], [], [], [], []⟩, nilV, nilV, nilV, nilV⟩) := Lib.hid (by rw [hW5]; exact HG.out.set 4 _ (upd_4 _ _))
  rw [← hW5]
  clear hW5 q1 q2
  clear hw
  go_upto_region 7 with (go_at_call 24; refine (rwide_any HG.out.rq).mono ?_; rintro x w2 ⟨n6, st6, rfl, hn, hst, hr, hsv⟩; replace HG := Lib.hid (HG.out.call hr hsv); have HT6 := Lib.hid hst; obtain ⟨q1, q2⟩ := HG.out.cell 5 (by decide); clear hn hst hr hsv)
  obtain ⟨W6, hW6⟩ : ∃ W, W = w2.setCell ⟨u, 5, none⟩ (.int .u64 (n6 : Int)) := ⟨_, rfl⟩
  replace HG : Hid (GS g A c b u W1 W6 st6 ⟨⟨s1, mu, (n3 : Int), (n4 : Int), (n5 : Int), (n6 : Int), 0, [], [], [], [], []⟩, nilV, nilV, nilV, nilV⟩) := Lib.hid (by rw [hW6]; exact HG.out.set 5 _ (upd_5 _ _))
  rw [← hW6]
  clear hW6 q1 q2
  go_upto_region 8 with (go_at_call 24; refine (rwide_any HG.out.rq).mono ?_; rintro x w2 ⟨n7, st7, rfl, hn, hst, hr, hsv⟩; replace HG := Lib.hid (HG.out.call hr hsv); have HT7 := Lib.hid hst; obtain ⟨q1, q2⟩ := HG.out.cell 6 (by decide); clear hn hst hr hsv)
  obtain ⟨W7, hW7⟩ : ∃ W, W = w2.setCell ⟨u, 6, none⟩ (.int .u64 (n7 : Int)) := ⟨_, rfl⟩
  replace HG : Hid (GS g A c b u W1 W7 st7 ⟨⟨s1, mu, (n3 : Int), (n4 : Int), (n5 : Int), (n6 : Int), (n7 : Int), [], [], [], [], []⟩, nilV, nilV, nilV, nilV⟩) := Lib.hid (by rw [hW7]; exact HG.out.set 6 _ (upd_6 _ _))
  rw [← hW7]
  clear hW7 q1 q2
  have c1 := HG.out.rq.at1
  obtain ⟨at7, hat7⟩ : ∃ a, a = st7.at_ := ⟨_, rfl⟩
  rw [← hat7] at c1
  have HAT7 := Lib.hid hat7
  clear hat7
  go_upto_region 9 with fail
  clear c1
  go_upto_region 10 with (first
    | (go_at_call 48
       refine (rtake_any 68 (by decide) (by decide) HG.out.rq).mono ?_
       rintro x w2 ⟨B, d, lk, st8, rfl, hd, hbg, ht, hl, hr, hsv⟩
       replace HG := Lib.hid (HG.out.call hr hsv)
       have HT8 := Lib.hid ht
       have hlk := ht.length
       have HLK := Lib.hid hlk
       have HKB : Hid (∀ i, i < 68 → w2.cell? (B.add i) = some (bys (kF lk) i)) := Lib.hid (fun i hi => by
         obtain ⟨a, e, _, hc⟩ := hl.2 (by decide)
         injection e with e
         subst e
         rw [hc i (by simp [u8s, hlk]; exact hi)]
         simp [u8s, bys, kF, hlk, hi])
       have har := arr_at_key B d w2
       clear hd hbg ht hl hr hsv hlk)
    | ((with_reducible show wpList _ _ _ (Oper.mk _ (.load _ _) _ _ _ _ :: _) _ _); refine wl_load_q rfl 58 _ rfl B rfl _ (run_load_q HKB.out Tryd.underlying58 rfl info_key) ?_)
    | ((with_reducible show wpList _ _ _ (Oper.mk _ (.store _ _ _) _ _ _ _ :: _) _ _); refine wl_store_q rfl 58 _ _ rfl ⟨u, 7, none⟩ rfl _ rfl (run_store_spl HG.out.box (bys (kF lk)) (by decide) info_key (bys_one _ _)) ?_))
  obtain ⟨W9, hW9⟩ : ∃ W, W = w2.setRow u (vec 79 (spl 7 68 (bys (kF lk)) (guestE ⟨⟨s1, mu, (n3 : Int), (n4 : Int), (n5 : Int), (n6 : Int), (n7 : Int), [], [], [], [], []⟩, nilV, nilV, nilV, nilV⟩))) := ⟨_, rfl⟩
  replace HG : Hid (GS g A c b u W1 W9 st8 ⟨⟨s1, mu, (n3 : Int), (n4 : Int), (n5 : Int), (n6 : Int), (n7 : Int), lk, [], [], [], []⟩, nilV, nilV, nilV, nilV⟩) := Lib.hid (by rw [hW9]; exact HG.out.setRow _ (spl_7 _ _))
  rw [← hW9]
  clear hW9 har HKB
  have hkp : ∀ i, i < 68 → W9.cell? ((⟨u, 7, none⟩ : Addr).add i) = some (bys (kF lk) i) := fun i hi => by
    have e : ((⟨u, 7, none⟩ : Addr).add i) = ⟨u, 7 + i, none⟩ := by unfold Addr.add; by_cases h0 : i = 0 <;> simp [h0]
    rw [e, HG.out.box.cell (by omega), Nat.add_comm 7 i]
    show some (if i < 68 then bys (kF lk) i else _) = _
    rw [if_pos hi]
  have hky := rkey_any lk HLK.out ⟨u, 7, none⟩ 68 (Nat.le_refl _) W9 HG.out.box.lt hkp
  obtain ⟨kc, hkc⟩ : ∃ kc : Nat, kc = if kOk lk = true then 0 else 80 := ⟨_, rfl⟩
  have HKC : Hid (Calls Tryd.prog 50 #[.slice (some ⟨u, 7, none⟩) 68 68] W9 fun y w2 => ∃ f : Nat → Value, y = .returned (.tuple #[.agg (vec 65 f), .int .i64 (kc : Int)]) ∧ (∀ i, i < 65 → (f i).oneCell' = true) ∧ Below W9.heap.size W9 w2) := Lib.hid (by rw [hkc]; exact hky)
  obtain ⟨nk, hnk⟩ : ∃ nk, nk = !kOk lk := ⟨_, rfl⟩
  have hkd : ((kc : Int) != 0) = nk := by
    rw [hkc, hnk]
    cases kOk lk <;> rfl
  have HS9 : Hid (StepP (keyC kOk) b st7 lk (if nk = true then st8.fail 144 at7 else st8)) := Lib.hid (by
    have h := take_key HT8.out
    rw [hnk, HAT7.out]
    cases hh : kOk lk <;> rw [hh] at h <;> exact h)
  clear hkp hky hkc hnk
  go_upto_region 11 with (first
    | (go_at_call 50; refine HKC.out.mono ?_; rintro y w3 ⟨f, rfl, hf, hd⟩; replace HG := Lib.hid (HG.out.on hd); have HF := Lib.hid hf; clear hd hf)
    | ((with_reducible show wpList _ _ _ (Oper.mk _ (.store _ _ _) _ _ _ _ :: _) _ _); refine wl_store rfl 102 _ _ rfl _ rfl _ rfl (run_store_arr (Arr.new w3 _ _ _) f infoKey HF.out) ?_))
  obtain ⟨W10, hW10⟩ : ∃ W, W = (w3.alloc (.cells (vec 65 (keyF 0 zb zb)) 102)).setRow w3.heap.size (vec 65 f) := ⟨_, rfl⟩
  replace HG : Hid (GS g A c b u W1 W10 st8 ⟨⟨s1, mu, (n3 : Int), (n4 : Int), (n5 : Int), (n6 : Int), (n7 : Int), lk, [], [], [], []⟩, nilV, nilV, nilV, nilV⟩) := Lib.hid (HG.out.on (by rw [hW10]; exact below_row ((Below.refl _ _).alloc (Nat.le_refl _) _) (Nat.le_refl _) _))
  rw [← hW10]
  clear hW10 HKC HF
  go_upto_if 56 with fail
  go_cut [] from 57 to 59 (fun wx => Hid (GS g A c b u W1 wx (if nk = true then st8.fail 144 at7 else st8) ⟨⟨s1, mu, (n3 : Int), (n4 : Int), (n5 : Int), (n6 : Int), (n7 : Int), lk, [], [], [], []⟩, nilV, nilV, nilV, nilV⟩))
  case first =>
    cases nk
    · go_wp2_with fail
      go_meet
      exact HG
    · go_wp2_with (go_at_call 22; refine (rfail_any 144 at7 (by decide) HG.out.rq).mono ?_; rintro x w4 ⟨rfl, hr, hsv⟩; have HG2 := Lib.hid (HG.out.call hr hsv); clear hr hsv)
      go_meet
      exact HG2
  obtain ⟨st9, hst9⟩ : ∃ s, s = if nk = true then st8.fail 144 at7 else st8 := ⟨_, rfl⟩
  rw [← hst9] at hcut HS9
  have HG := Lib.hid hcut.out.base
  have HFT : Hid (FT g u W1 wc) := Lib.hid hcut.out.ft
  clear hcut hst9 hkd
  obtain ⟨W12, rfl⟩ : ∃ W : World, W = wc := ⟨_, rfl⟩
  go_upto_region 15 with (first
    | ((with_reducible show wpList _ _ _ (Oper.mk _ (.build _ _) _ _ _ _ :: _) _ _); refine wl_build rfl 106 _ rfl (vec 4 cM) (by kernel_rfl) ?_)
    | ((with_reducible show wpList _ _ _ (Oper.mk _ (.store _ _ _) _ _ _ _ :: _) _ _); refine wl_store rfl 106 _ _ rfl _ rfl _ rfl (run_store_arr (Arr.newAt (W12.alloc (.cells (vec 4 (cN fun _ => 0)) 105)) 106 4 (fun _ => Value.int .u64 0) (g := W12.heap.size + 1) (by simp)) cM infoU4 (fun _ _ => rfl)) ?_))
  obtain ⟨u7, hu7⟩ : ∃ k, k = W12.heap.size := ⟨_, rfl⟩
  obtain ⟨X, hX⟩ : ∃ X, X = ((W12.alloc (.cells (vec 4 (cN fun _ => 0)) 105)).alloc (.cells (vec 4 (fun _ => Value.int .u64 0)) 106)).setRow (W12.heap.size + 1) (vec 4 cM) := ⟨_, rfl⟩
  have hszA : (W12.alloc (.cells (vec 4 (cN fun _ => 0)) 105)).heap.size = W12.heap.size + 1 := by simp
  have hbX : Below W12.heap.size W12 X := by rw [hX]; exact below_row (((Below.refl _ _).alloc (Nat.le_refl _) _).alloc (by rw [hszA]; omega) _) (by omega) _
  have ha7 : Arr X u7 105 4 (cN fun _ => 0) := by rw [hX, hu7]; exact (((Arr.new W12 _ _ _).alloc _).rowFar (by omega) _)
  obtain ⟨u8, hu8⟩ : ∃ k, k = u7 + 1 := ⟨_, rfl⟩
  have ha8 : Arr X u8 106 4 cM := by rw [hX, hu8, hu7]; exact (Arr.newAt (W12.alloc (.cells (vec 4 (cN fun _ => 0)) 105)) 106 4 (fun _ => Value.int .u64 0) hszA.symm).row _
  have HLP : Hid (GS g A c b u W12 X st9 ⟨⟨s1, mu, (n3 : Int), (n4 : Int), (n5 : Int), (n6 : Int), (n7 : Int), lk, [], [], [], []⟩, nilV, nilV, nilV, nilV⟩ ∧ Arr X u7 105 4 (cN fun _ => 0) ∧ Arr X u8 106 4 cM ∧ CntP b st9 0 (fun _ => 0) st9) := Lib.hid ⟨HG.out.on hbX, ha7, ha8, rfl⟩
  have HUU : Hid ((u < u7 ∧ g < u7) ∧ u8 = u7 + 1 ∧ W12.heap.size = u7) := Lib.hid ⟨⟨by rw [hu7]; exact HG.out.uv, by rw [hu7]; exact Nat.lt_trans HG.out.gu HG.out.uv⟩, hu8, hu7.symm⟩
  have HX := Lib.hid hX
  have HU7 := Lib.hid hu7
  have HU8 : Hid (u7 + 1 = u8) := Lib.hid hu8.symm
  clear hX hu7 hszA hbX ha7 ha8 hu8
  go_upto_block 0 with fail
  rw [← HX.out]
  rw [← HU7.out]
  (try rw [HU8.out])
  clear HX HU7 HU8
  go_wp2_with fail
  go_loopw [9, 10, 61] (fun _ _ j W => ∃ (k : Nat) (nn : Nat → Nat) (s : Rs), k ≤ 4 ∧ j = .int .i64 k ∧ Hid (GS g A c b u W12 W s ⟨⟨s1, mu, (n3 : Int), (n4 : Int), (n5 : Int), (n6 : Int), (n7 : Int), lk, [], [], [], []⟩, nilV, nilV, nilV, nilV⟩ ∧ Arr W u7 105 4 (cN nn) ∧ Arr W u8 106 4 cM ∧ CntP b st9 k nn s)) (fun _ _ j _ => 4 - (intOf j).toNat)
  case atStart => exact ⟨0, fun _ => 0, st9, Nat.zero_le _, rfl, HLP⟩
  case round =>
    obtain ⟨k, nn, s, hk, rfl, HI⟩ := hrel
    obtain ⟨W, hW⟩ : ∃ W : World, W = wr := ⟨_, rfl⟩
    subst hW
    clear HLP HG
    by_cases hlt : k < 4
    · have hki : (k : Int) < 4 := by omega
      have c1 := HI.out.1.rq.at1
      obtain ⟨at9, hat9⟩ : ∃ a, a = s.at_ := ⟨_, rfl⟩
      rw [← hat9] at c1
      have HAT9 := Lib.hid hat9
      have c8 : W.cell? ⟨u8, k, none⟩ = some (.int .u64 (mo4 k : Int)) := HI.out.2.2.1.cell hlt
      obtain ⟨mo, hmo⟩ : ∃ m, m = mo4 k := ⟨_, rfl⟩
      rw [← hmo] at c8
      have HMO := Lib.hid hmo
      have HLT := Lib.hid hlt
      clear hat9 hmo hlt
      go_upto_region 20 with (go_at_call 21; refine (rnum_any 2 mo 142 (by decide) (by decide) (by decide) HI.out.1.rq).mono ?_; rintro x w2 ⟨n, s2, rfl, hn, hst, hr, hsv⟩; have HI2 : Hid (GS g A c b u W12 w2 s2 ⟨⟨s1, mu, (n3 : Int), (n4 : Int), (n5 : Int), (n6 : Int), (n7 : Int), lk, [], [], [], []⟩, nilV, nilV, nilV, nilV⟩ ∧ Arr w2 u7 105 4 (cN nn) ∧ Arr w2 u8 106 4 cM) := Lib.hid ⟨HI.out.1.call hr hsv, HI.out.2.1.save hsv (by have := HUU.out; omega), HI.out.2.2.1.save hsv (by have := HUU.out; omega)⟩; have HN2 := Lib.hid (And.intro hn hst); have hw : IntKind.i64.wrap (n : Int) = (n : Int) := (by rw [IntKind.wrap_i64]; have := lt2 hn; omega); have q1 : w2.cell? ⟨u7, k, none⟩ = some (.int .i64 (nn k : Int)) := HI2.out.2.1.cell HLT.out; have q2 : w2.frozen? ⟨u7, k, none⟩ = false := HI2.out.2.1.frozen k; clear hn hst hr hsv)
      clear hw q1 q2 c1 c8
      obtain ⟨W3, hW3⟩ : ∃ X, X = w2.setCell ⟨u7, k, none⟩ (.int .i64 (n : Int)) := ⟨_, rfl⟩
      have hs7 : Save u7 w2 (w2.setCell ⟨u7, k, none⟩ (.int .i64 (n : Int))) := (Save.refl _ _).setCell k _
      have HI3 : Hid (GS g A c b u W12 W3 s2 ⟨⟨s1, mu, (n3 : Int), (n4 : Int), (n5 : Int), (n6 : Int), (n7 : Int), lk, [], [], [], []⟩, nilV, nilV, nilV, nilV⟩ ∧ Arr W3 u7 105 4 (cN (upd nn k n)) ∧ Arr W3 u8 106 4 cM) := Lib.hid (by
        rw [hW3]
        have hh := HUU.out
        refine ⟨⟨HI2.out.1.rq.save hs7 hh.1.2, HI2.out.1.box.save hs7 (by omega), HI2.out.1.ft.on (hs7.below (by omega) HI2.out.1.ft.size) hs7.size, HI2.out.1.gu, HI2.out.1.uv⟩, ?_, HI2.out.2.2.save hs7 (by omega)⟩
        have := HI2.out.2.1.set k (.int .i64 (n : Int))
        rw [cN_upd] at this
        exact this)
      rw [← hW3]
      clear hW3 hs7 HI2
      have HCN : Hid (CntP b st9 k (upd nn k n) s) := Lib.hid (CntP.congr k nn (upd nn k n) s (fun i hi => (upd_ne _ _ _ _ (by omega)).symm) HI.out.2.2.2)
      clear HI
      by_cases hk0 : k = 0
      · subst hk0
        have hmo : mo = 16 := HMO.out
        subst hmo
        have q7 : W3.cell? ⟨u7, 0, none⟩ = some (.int .i64 (n : Int)) := HI3.out.2.1.cell (i := 0) (by decide)
        have HTI := Lib.hid (HN2.out.2.tight (lo' := 1) (hi' := 16) (e' := 142) (pl := at9) (by omega) (Nat.le_refl _) (Or.inl rfl) (fun _ => HAT9.out))
        by_cases hn0 : n = 0
        · subst hn0
          have HF := Lib.hid (rfail_any 142 at9 (by decide) HI3.out.1.rq)
          go_wp2_with (go_at_call 22; refine HF.out.mono ?_; rintro x w4 ⟨rfl, hr, hsv⟩; have HI4 : Hid (GS g A c b u W12 w4 (s2.fail 142 at9) ⟨⟨s1, mu, (n3 : Int), (n4 : Int), (n5 : Int), (n6 : Int), (n7 : Int), lk, [], [], [], []⟩, nilV, nilV, nilV, nilV⟩ ∧ Arr w4 u7 105 4 (cN (upd nn 0 0)) ∧ Arr w4 u8 106 4 cM) := Lib.hid ⟨HI3.out.1.call hr hsv, HI3.out.2.1.save hsv (by have := HUU.out; omega), HI3.out.2.2.save hsv (by have := HUU.out; omega)⟩; clear hr hsv)
          go_roundw
          case rel => exact ⟨1, upd nn 0 0, _, by decide, rfl, Lib.hid ⟨HI4.out.1, HI4.out.2.1, HI4.out.2.2, s, HCN.out, by have h := HTI.out; rw [if_neg (by omega)] at h; exact h⟩⟩
          case measure => simp [intOf]
        · have z1 : ((n : Int) == 0) = false := by simp; omega
          have z2 : ¬ (n : Int) = 0 := by omega
          have HN0 := Lib.hid hn0
          clear hn0
          go_wp2_with fail
          go_roundw
          case rel => exact ⟨1, upd nn 0 n, s2, by decide, rfl, Lib.hid ⟨HI3.out.1, HI3.out.2.1, HI3.out.2.2, s, HCN.out, by
            have h := HTI.out
            have hz := HN0.out
            show StepP (fld 2 1 16 142) b s (n : Int) s2
            by_cases hle : n ≤ 16
            · rw [if_pos ⟨by omega, hle⟩] at h; exact h
            · rw [if_neg (by omega)] at h
              cases he : s2.err with
              | none => have := (HN2.out.2.inB he).2; omega
              | some x => rw [Rs.fail_some _ _ he] at h; exact h⟩⟩
          case measure => simp [intOf]
      · have z1 : ((k : Int) == 0) = false := by simp; omega
        have z2 : ¬ (k : Int) = 0 := by omega
        have HK0 := Lib.hid hk0
        clear hk0
        go_wp2_with fail
        go_roundw
        case rel => exact ⟨k + 1, upd nn k n, s2, by have := HLT.out; omega, by go_num, Lib.hid ⟨HI3.out.1, HI3.out.2.1, HI3.out.2.2, s, HCN.out, by
          have h := HN2.out.2
          rw [HMO.out] at h
          rw [upd_at]
          have : lo4 k = 0 := by unfold lo4; rw [if_neg HK0.out]
          rw [this]
          exact h⟩⟩
        case measure => have := HLT.out; simp [intOf]; omega
    · obtain rfl : k = 4 := by omega
      rw [show ((4 : Nat) : Int) = 4 from rfl]
      obtain ⟨n0, hn0⟩ : ∃ n, n = nn 0 := ⟨_, rfl⟩
      obtain ⟨n1, hn1⟩ : ∃ n, n = nn 1 := ⟨_, rfl⟩
      obtain ⟨n2', hn2⟩ : ∃ n, n = nn 2 := ⟨_, rfl⟩
      obtain ⟨n3', hn3⟩ : ∃ n, n = nn 3 := ⟨_, rfl⟩
      have HCT : Hid (StepP cntC b st9 ((n0 : Int), (n1 : Int), (n2' : Int), (n3' : Int)) s) := Lib.hid (by rw [hn0, hn1, hn2, hn3]; exact HI.out.2.2.2.all)
      have HBD : Hid (s.err = none → n0 ≤ 16 ∧ n1 ≤ 16 ∧ n2' ≤ 64 ∧ n3' ≤ 32) := Lib.hid (fun h => by rw [hn0, hn1, hn2, hn3]; exact (HI.out.2.2.2.bnd h).2)
      have HN7 : Hid (∀ Y, FT g u W Y → Y.cell? ⟨u7, 0, none⟩ = some (.int .i64 (n0 : Int)) ∧ Y.cell? ⟨u7, 1, none⟩ = some (.int .i64 (n1 : Int)) ∧ Y.cell? ⟨u7, 2, none⟩ = some (.int .i64 (n2' : Int)) ∧ Y.cell? ⟨u7, 3, none⟩ = some (.int .i64 (n3' : Int))) := Lib.hid (fun Y hY => by
        have hh := HUU.out
        have ha := hY.arr HI.out.2.1 (by omega) (by omega)
        rw [hn0, hn1, hn2, hn3]
        exact ⟨ha.cell (i := 0) (by decide), ha.cell (i := 1) (by decide), ha.cell (i := 2) (by decide), ha.cell (i := 3) (by decide)⟩)
      have HG := Lib.hid HI.out.1.base
      have HFT2 : Hid (FT g u W1 W) := Lib.hid (HFT.out.trans HI.out.1.ft)
      obtain ⟨sA, hsA⟩ : ∃ x, x = s := ⟨_, rfl⟩
      subst hsA
      clear hn0 hn1 hn2 hn3 HI hlt HFT
      go_upto_region 23 with fail
      go_upto_block 2 with fail
      go_cut [11] from 87 to 114 (fun _ wx => ∃ (v : Value) (l : List Wi) (s : Rs), Hid (LsS 108 4 winE g A c b u W wx s ⟨⟨s1, mu, (n3 : Int), (n4 : Int), (n5 : Int), (n6 : Int), (n7 : Int), lk, l, [], [], []⟩, v, nilV, nilV, nilV⟩ (v) l ∧ StepP (listC winC n0) b sA l s))
      case first =>
        go_wp2_with fail
        go_loopw [11] (fun j Z1 => ∃ (k : Nat) (B : Option Addr) (d : Nat) (l : List Wi) (s : Rs), (k ≤ n0 ∧ k ≤ 16) ∧ j = .int .i64 k ∧ Hid (l.length = k ∧ LsS 108 4 winE g A c b u W Z1 s ⟨⟨s1, mu, (n3 : Int), (n4 : Int), (n5 : Int), (n6 : Int), (n7 : Int), lk, l, [], [], []⟩, (.slice B k d), nilV, nilV, nilV⟩ (.slice B k d) l ∧ StepP (listC winC k) b sA l s)) (fun j _ => n0 - (intOf j).toNat)
        case atStart => exact ⟨0, none, 0, [], sA, ⟨Nat.zero_le _, Nat.zero_le _⟩, rfl, Lib.hid ⟨rfl, ⟨HG.out, OwnE.nil _ _⟩, list_none _ _ _⟩⟩
        case round =>
          obtain ⟨k, BL, dL, l, s, ⟨hk, hk2⟩, rfl, HI⟩ := hrel
          obtain ⟨wk, hwk⟩ : ∃ W : World, W = wr := ⟨_, rfl⟩
          subst hwk
          have c7 := (HN7.out wk HI.out.2.1.gs.ft).1
          have ce := HI.out.2.1.gs.rq.at2
          obtain ⟨E, hE⟩ : ∃ E, E = erN s.err := ⟨_, rfl⟩
          rw [← hE] at ce
          have HEE := Lib.hid hE
          clear hE
          by_cases hlt : k < n0
          · have hki : (k : Int) < (n0 : Int) := by omega
            by_cases h0 : E = 0
            · subst h0
              have z0 : (((0 : Nat) : Int) == 0) = true := rfl
              have HE0 : Hid (s.err = none) := Lib.hid (erN_zero HI.out.2.1.gs.rq.err HEE.out.symm)
              have HLT : Hid (k + 1 ≤ n0 ∧ k + 1 ≤ 16) := Lib.hid (by
                have h9 : sA.err = none := (HI.out.2.2.on HE0.out).1
                have := HBD.out h9
                omega)
              have HLK : Hid (l.length = k ∧ k ≤ 16) := Lib.hid ⟨HI.out.1, hk2⟩
              have HST := Lib.hid HI.out.2.2
              have HCF : Hid (∀ (Z : World) (s' : Rs), LsS 108 4 winE g A c b u W Z s' ⟨⟨s1, mu, (n3 : Int), (n4 : Int), (n5 : Int), (n6 : Int), (n7 : Int), lk, l, [], [], []⟩, (.slice BL k dL), nilV, nilV, nilV⟩ (.slice BL k dL) l → Z.cell? ⟨u, 75, none⟩ = some (.slice BL k dL)) := Lib.hid (fun Z s' hz => (hz.gs.cell 75 (by decide)).1)
              have hk9 : k ≤ 64 := by omega
              clear hlt hk hk2
              go_upto_region 26 with fail
              clear c7 ce z0
              obtain ⟨Y0, hY0⟩ : ∃ Y, Y = wk.drew := ⟨_, rfl⟩
              have HL : Hid (LsS 108 4 winE g A c b u W Y0 s ⟨⟨s1, mu, (n3 : Int), (n4 : Int), (n5 : Int), (n6 : Int), (n7 : Int), lk, l, [], [], []⟩, (.slice BL k dL), nilV, nilV, nilV⟩ (.slice BL k dL) l) := Lib.hid (by rw [hY0]; exact HI.out.2.1.on ⟨rfl, rfl, rfl, Nat.le_refl _, fun _ _ => rfl⟩)
              have HY0 := Lib.hid hY0
              clear hY0 HI
              refine wp_region_held_drew (S := fun _ => True) (by kernel_rfl) trivial (fun hS => ?_)
              rw [← HY0.out]
              revert hS
              apply meet_of
              case h =>
                intro tail hS
                (refine held_take (i := 0) (oi := ?ot1) (v := ?vt1) ?at1 (by kernel_rfl) (by kernel_rfl) (by kernel_rfl) ?bt1 ?ct1 ?dt1 (by assumption) ?rt1; (case at1 => (simp only [List.getElem?_toArray, List.getElem?_cons_zero]; rfl)); (case bt1 => exact fun _ _ _ h => h); (case ct1 => kernel_rfl); (case dt1 => (intro W hW; clear hW; go_simp; (try with_reducible rfl))); (case' rt1 => simp only [Act.put, List.setIfInBounds_toArray, List.set_cons_zero, List.set_cons_succ]))
                (refine held_take (i := 2) (oi := ?ot2) (v := ?vt2) ?at2 (by kernel_rfl) (by kernel_rfl) (by kernel_rfl) ?bt2 ?ct2 ?dt2 (by assumption) ?rt2; (case at2 => (simp only [List.getElem?_toArray, List.getElem?_cons_zero, List.getElem?_cons_succ]; rfl)); (case bt2 => exact fun _ _ _ h => h); (case ct2 => kernel_rfl); (case dt2 => (intro W hW; clear hW; go_simp; (try with_reducible rfl))); (case' rt2 => simp only [Act.put, List.setIfInBounds_toArray, List.set_cons_zero, List.set_cons_succ]))
                (refine held_take (i := 4) (oi := ?ot3) (v := ?vt3) ?at3 (by kernel_rfl) (by kernel_rfl) (by kernel_rfl) ?bt3 ?ct3 ?dt3 (by assumption) ?rt3; (case at3 => (simp only [List.getElem?_toArray, List.getElem?_cons_zero, List.getElem?_cons_succ]; rfl)); (case bt3 => exact fun _ _ _ h => h); (case ct3 => kernel_rfl); (case dt3 => (intro W hW; clear hW; go_simp; (try with_reducible rfl))); (case' rt3 => simp only [Act.put, List.setIfInBounds_toArray, List.set_cons_zero, List.set_cons_succ]))
                (refine held_take (i := 6) (oi := ?ot4) (v := ?vt4) ?at4 (by kernel_rfl) (by kernel_rfl) (by kernel_rfl) ?bt4 ?ct4 ?dt4 (by assumption) ?rt4; (case at4 => (simp only [List.getElem?_toArray, List.getElem?_cons_zero, List.getElem?_cons_succ]; rfl)); (case bt4 => exact fun _ _ _ h => h); (case ct4 => kernel_rfl); (case dt4 => (intro W hW; clear hW; go_simp; (try with_reducible rfl))); (case' rt4 => simp only [Act.put, List.setIfInBounds_toArray, List.set_cons_zero, List.set_cons_succ]))
                (refine held_take (i := 8) (oi := ?ot5) (v := ?vt5) ?at5 (by kernel_rfl) (by kernel_rfl) (by kernel_rfl) ?bt5 ?ct5 ?dt5 (by assumption) ?rt5; (case at5 => (simp only [List.getElem?_toArray, List.getElem?_cons_zero, List.getElem?_cons_succ]; rfl)); (case bt5 => exact fun _ _ _ h => h); (case ct5 => kernel_rfl); (case dt5 => (intro W hW; clear hW; go_simp; (try with_reducible rfl))); (case' rt5 => simp only [Act.put, List.setIfInBounds_toArray, List.set_cons_zero, List.set_cons_succ]))
                refine held_two (i := 1) (j := 3) (oi := ?oit42) (oj := ?ojt42) (by kernel_rfl) ?ait42 ?ajt42 ?cit42 ?cjt42 (fun K1 hK1 => ?hit42) (fun K3 hK3 => ?hjt42)
                (case ait42 => (simp only [List.getElem?_toArray, List.getElem?_cons_zero, List.getElem?_cons_succ]; rfl))
                (case ajt42 => (simp only [List.getElem?_toArray, List.getElem?_cons_zero, List.getElem?_cons_succ]; rfl))
                (case cit42 => kernel_rfl)
                (case cjt42 => kernel_rfl)
                case hit42 =>
                  have k0 := HCF.out _ _ HL.out
                  go_simp
                  refine hK1 _ _ trivial (fun hS1 => ?_)
                  clear k0 hK1 K1 hS
                  refine held_one (i := 3) (oi := ?ot6) (by kernel_rfl) ?at6 ?ct6 (fun K3 hK3 => ?_)
                  (case at6 => (simp only [List.getElem?_toArray, List.getElem?_cons_zero, List.getElem?_cons_succ]; rfl))
                  (case ct6 => kernel_rfl)
                  go_simp
                  refine (rwide_any HL.out.gs.rq).mono ?_
                  rintro e w3 ⟨m3, s3, rfl, hn, hst, hr, hsv⟩
                  replace HL := Lib.hid (HL.out.call hr hsv)
                  have HC3 := Lib.hid hst
                  refine hK3 _ _ trivial (fun hS3 => ?_)
                  clear hn hst hr hsv hK3 K3 hS1
                  refine held_one (i := 5) (oi := ?ot7) (by kernel_rfl) ?at7 ?ct7 (fun K5 hK5 => ?_)
                  (case at7 => (simp only [List.getElem?_toArray, List.getElem?_cons_zero, List.getElem?_cons_succ]; rfl))
                  (case ct7 => kernel_rfl)
                  go_simp
                  refine (rwide_any HL.out.gs.rq).mono ?_
                  rintro e w5 ⟨m5, s5, rfl, hn, hst, hr, hsv⟩
                  replace HL := Lib.hid (HL.out.call hr hsv)
                  have HC5 := Lib.hid hst
                  refine hK5 _ _ trivial (fun hS5 => ?_)
                  clear hn hst hr hsv hK5 K5 hS3
                  refine held_one (i := 7) (oi := ?ot8) (by kernel_rfl) ?at8 ?ct8 (fun K7 hK7 => ?_)
                  (case at8 => (simp only [List.getElem?_toArray, List.getElem?_cons_zero, List.getElem?_cons_succ]; rfl))
                  (case ct8 => kernel_rfl)
                  go_simp
                  refine (rwide_any HL.out.gs.rq).mono ?_
                  rintro e w7 ⟨m7, s7, rfl, hn, hst, hr, hsv⟩
                  replace HL := Lib.hid (HL.out.call hr hsv)
                  have HC7 := Lib.hid hst
                  refine hK7 _ _ trivial (fun hS7 => ?_)
                  clear hn hst hr hsv hK7 K7 hS5
                  refine held_one (i := 9) (oi := ?ot9) (by kernel_rfl) ?at9 ?ct9 (fun K9 hK9 => ?_)
                  (case at9 => (simp only [List.getElem?_toArray, List.getElem?_cons_zero, List.getElem?_cons_succ]; rfl))
                  (case ct9 => kernel_rfl)
                  go_simp
                  refine (rnum_any 4 7 144 (by decide) (by decide) (by decide) HL.out.gs.rq).mono ?_
                  rintro e w9 ⟨m9, s9, rfl, hn, hst, hr, hsv⟩
                  replace HL := Lib.hid (HL.out.call hr hsv)
                  have HC9 := Lib.hid hst
                  have hw9 : IntKind.i64.wrap (m9 : Int) = (m9 : Int) := by rw [IntKind.wrap_i64]; have := lt4 hn; omega
                  refine hK9 _ _ trivial (fun hS9 => ?_)
                  clear hn hst hr hsv hK9 K9 hS7
                  (refine held_take (i := 10) (oi := ?ot10) (v := .int .i64 (m9 : Int)) ?at10 (by kernel_rfl) (by kernel_rfl) (by kernel_rfl) ?bt10 ?ct10 ?dt10 (by assumption) ?rt10; (case at10 => (simp only [List.getElem?_toArray, List.getElem?_cons_zero, List.getElem?_cons_succ]; rfl)); (case bt10 => exact fun _ _ _ h => h); (case ct10 => kernel_rfl); (case dt10 => (intro W hW; clear hW; go_simp; (try with_reducible rfl))); (case' rt10 => simp only [Act.put, List.setIfInBounds_toArray, List.set_cons_zero, List.set_cons_succ]))
                  (refine held_take (i := 11) (oi := ?ot11) (v := .agg (vec 4 (winE (⟨(m3 : Int), (m5 : Int), (m7 : Int), (m9 : Int)⟩ : Wi)))) ?at11 (by kernel_rfl) (by kernel_rfl) (by kernel_rfl) ?bt11 ?ct11 ?dt11 (by assumption) ?rt11; (case at11 => (simp only [List.getElem?_toArray, List.getElem?_cons_zero, List.getElem?_cons_succ]; rfl)); (case bt11 => exact fun _ _ _ h => h); (case ct11 => kernel_rfl); (case dt11 => (intro W hW; exact exec_build 108 _ rfl (vec 4 (winE (⟨(m3 : Int), (m5 : Int), (m7 : Int), (m9 : Int)⟩ : Wi))) (by kernel_rfl) W)); (case' rt11 => simp only [Act.put, List.setIfInBounds_toArray, List.set_cons_zero, List.set_cons_succ]))
                  refine held_one (i := 12) (oi := ?ot12) (by kernel_rfl) ?at12 ?ct12 (fun K12 hK12 => ?_)
                  (case at12 => (simp only [List.getElem?_toArray, List.getElem?_cons_zero, List.getElem?_cons_succ]; rfl))
                  (case ct12 => kernel_rfl)
                  refine ow_bs1 59 _ rfl (.agg (vec 4 (winE (⟨(m3 : Int), (m5 : Int), (m7 : Int), (m9 : Int)⟩ : Wi)))) rfl _ (build_window (⟨(m3 : Int), (m5 : Int), (m7 : Int), (m9 : Int)⟩ : Wi) _) ?_
                  intro p y0 hp hy
                  obtain ⟨BN, dN, w2, hrun, hls⟩ := HL.out.app Tryd.underlying59 info_window rfl (by decide) (fun x i hi => winE_one x _ i hi) (⟨(m3 : Int), (m5 : Int), (m7 : Int), (m9 : Int)⟩ : Wi) (by have := HLK.out; omega) (by decide) k HLK.out.1
                  rw [← hp] at hrun
                  rw [← hy] at hrun
                  replace HL := Lib.hid (HL.out.on (W' := y0) (by rw [hy]; exact (Below.refl _ _).alloc (Nat.le_refl _) _))
                  have HRUN := Lib.hid hrun
                  have HFIN := Lib.hid (And.intro (show w2.cell? ⟨u, 75, none⟩ = some (.slice BL k dL) from (hls.gs.cell 75 (by decide)).1) (And.intro (hls.gs.cell 75 (by decide)).2 (And.intro (show LsS 108 4 winE g A c b u W (w2.setCell ⟨u, 75, none⟩ (.slice BN (k + 1) dN)) s9 ⟨⟨s1, mu, (n3 : Int), (n4 : Int), (n5 : Int), (n6 : Int), (n7 : Int), lk, l ++ [(⟨(m3 : Int), (m5 : Int), (m7 : Int), (m9 : Int)⟩ : Wi)], [], [], []⟩, .slice BN (k + 1) dN, nilV, nilV, nilV⟩ (.slice BN (k + 1) dN) (l ++ [(⟨(m3 : Int), (m5 : Int), (m7 : Int), (m9 : Int)⟩ : Wi)]) from hls.set 75 _ (upd_w _ _ _)) (show StepP winC b s (⟨(m3 : Int), (m5 : Int), (m7 : Int), (m9 : Int)⟩ : Wi) s9 from step_win HC3.out HC5.out HC7.out HC9.out))))
                  refine hK12 _ _ trivial (fun hS12 => ?_)
                  clear hp hy hrun hls hK12 K12 hS9
                  refine held_one (i := 13) (oi := ?ot13) (by kernel_rfl) ?at13 ?ct13 (fun K13 hK13 => ?_)
                  (case at13 => (simp only [List.getElem?_toArray, List.getElem?_cons_zero, List.getElem?_cons_succ]; rfl))
                  (case ct13 => kernel_rfl)
                  refine Lib.wp_append_run _ _ _ _ _ rfl (.slice BL k dL) (.slice (some ⟨p, 0, none⟩) 1 1) ?sa1 ?sb2 (.slice BN (k + 1) dN) w2 ?sc3 ?_
                  case sa1 => rfl
                  case sb2 => rfl
                  case sc3 => (have h0 := HRUN.out; show (Builtin.append_ #[_, _] 59 _).run Tryd.prog _ = _; exact h0)
                  refine hK13 _ _ trivial (fun hS13 => ?_)
                  clear HRUN HC3 HC5 HC7 HC9 hw9 hK13 K13 hS12
                  clear HL
                  revert hS13
                  revert HFIN
                  revert w2
                  revert dN
                  revert BN
                  revert p
                  revert s9
                  revert m9
                  revert m7
                  revert m5
                  revert m3
                  exact tail 0
                case hjt42 =>
                  go_simp
                  refine (rwide_any HL.out.gs.rq).mono ?_
                  rintro e w3 ⟨m3, s3, rfl, hn, hst, hr, hsv⟩
                  replace HL := Lib.hid (HL.out.call hr hsv)
                  have HC3 := Lib.hid hst
                  refine hK3 _ _ trivial (fun hS3 => ?_)
                  clear hn hst hr hsv hK3 K3 hS
                  refine held_two (i := 1) (j := 5) (oi := ?oit41) (oj := ?ojt41) (by kernel_rfl) ?ait41 ?ajt41 ?cit41 ?cjt41 (fun K1 hK1 => ?hit41) (fun K5 hK5 => ?hjt41)
                  (case ait41 => (simp only [List.getElem?_toArray, List.getElem?_cons_zero, List.getElem?_cons_succ]; rfl))
                  (case ajt41 => (simp only [List.getElem?_toArray, List.getElem?_cons_zero, List.getElem?_cons_succ]; rfl))
                  (case cit41 => kernel_rfl)
                  (case cjt41 => kernel_rfl)
                  case hit41 =>
                    have k0 := HCF.out _ _ HL.out
                    go_simp
                    refine hK1 _ _ trivial (fun hS1 => ?_)
                    clear k0 hK1 K1 hS3
                    refine held_one (i := 5) (oi := ?ot14) (by kernel_rfl) ?at14 ?ct14 (fun K5 hK5 => ?_)
                    (case at14 => (simp only [List.getElem?_toArray, List.getElem?_cons_zero, List.getElem?_cons_succ]; rfl))
                    (case ct14 => kernel_rfl)
                    go_simp
                    refine (rwide_any HL.out.gs.rq).mono ?_
                    rintro e w5 ⟨m5, s5, rfl, hn, hst, hr, hsv⟩
                    replace HL := Lib.hid (HL.out.call hr hsv)
                    have HC5 := Lib.hid hst
                    refine hK5 _ _ trivial (fun hS5 => ?_)
                    clear hn hst hr hsv hK5 K5 hS1
                    refine held_one (i := 7) (oi := ?ot15) (by kernel_rfl) ?at15 ?ct15 (fun K7 hK7 => ?_)
                    (case at15 => (simp only [List.getElem?_toArray, List.getElem?_cons_zero, List.getElem?_cons_succ]; rfl))
                    (case ct15 => kernel_rfl)
                    go_simp
                    refine (rwide_any HL.out.gs.rq).mono ?_
                    rintro e w7 ⟨m7, s7, rfl, hn, hst, hr, hsv⟩
                    replace HL := Lib.hid (HL.out.call hr hsv)
                    have HC7 := Lib.hid hst
                    refine hK7 _ _ trivial (fun hS7 => ?_)
                    clear hn hst hr hsv hK7 K7 hS5
                    refine held_one (i := 9) (oi := ?ot16) (by kernel_rfl) ?at16 ?ct16 (fun K9 hK9 => ?_)
                    (case at16 => (simp only [List.getElem?_toArray, List.getElem?_cons_zero, List.getElem?_cons_succ]; rfl))
                    (case ct16 => kernel_rfl)
                    go_simp
                    refine (rnum_any 4 7 144 (by decide) (by decide) (by decide) HL.out.gs.rq).mono ?_
                    rintro e w9 ⟨m9, s9, rfl, hn, hst, hr, hsv⟩
                    replace HL := Lib.hid (HL.out.call hr hsv)
                    have HC9 := Lib.hid hst
                    have hw9 : IntKind.i64.wrap (m9 : Int) = (m9 : Int) := by rw [IntKind.wrap_i64]; have := lt4 hn; omega
                    refine hK9 _ _ trivial (fun hS9 => ?_)
                    clear hn hst hr hsv hK9 K9 hS7
                    (refine held_take (i := 10) (oi := ?ot17) (v := .int .i64 (m9 : Int)) ?at17 (by kernel_rfl) (by kernel_rfl) (by kernel_rfl) ?bt17 ?ct17 ?dt17 (by assumption) ?rt17; (case at17 => (simp only [List.getElem?_toArray, List.getElem?_cons_zero, List.getElem?_cons_succ]; rfl)); (case bt17 => exact fun _ _ _ h => h); (case ct17 => kernel_rfl); (case dt17 => (intro W hW; clear hW; go_simp; (try with_reducible rfl))); (case' rt17 => simp only [Act.put, List.setIfInBounds_toArray, List.set_cons_zero, List.set_cons_succ]))
                    (refine held_take (i := 11) (oi := ?ot18) (v := .agg (vec 4 (winE (⟨(m3 : Int), (m5 : Int), (m7 : Int), (m9 : Int)⟩ : Wi)))) ?at18 (by kernel_rfl) (by kernel_rfl) (by kernel_rfl) ?bt18 ?ct18 ?dt18 (by assumption) ?rt18; (case at18 => (simp only [List.getElem?_toArray, List.getElem?_cons_zero, List.getElem?_cons_succ]; rfl)); (case bt18 => exact fun _ _ _ h => h); (case ct18 => kernel_rfl); (case dt18 => (intro W hW; exact exec_build 108 _ rfl (vec 4 (winE (⟨(m3 : Int), (m5 : Int), (m7 : Int), (m9 : Int)⟩ : Wi))) (by kernel_rfl) W)); (case' rt18 => simp only [Act.put, List.setIfInBounds_toArray, List.set_cons_zero, List.set_cons_succ]))
                    refine held_one (i := 12) (oi := ?ot19) (by kernel_rfl) ?at19 ?ct19 (fun K12 hK12 => ?_)
                    (case at19 => (simp only [List.getElem?_toArray, List.getElem?_cons_zero, List.getElem?_cons_succ]; rfl))
                    (case ct19 => kernel_rfl)
                    refine ow_bs1 59 _ rfl (.agg (vec 4 (winE (⟨(m3 : Int), (m5 : Int), (m7 : Int), (m9 : Int)⟩ : Wi)))) rfl _ (build_window (⟨(m3 : Int), (m5 : Int), (m7 : Int), (m9 : Int)⟩ : Wi) _) ?_
                    intro p y0 hp hy
                    obtain ⟨BN, dN, w2, hrun, hls⟩ := HL.out.app Tryd.underlying59 info_window rfl (by decide) (fun x i hi => winE_one x _ i hi) (⟨(m3 : Int), (m5 : Int), (m7 : Int), (m9 : Int)⟩ : Wi) (by have := HLK.out; omega) (by decide) k HLK.out.1
                    rw [← hp] at hrun
                    rw [← hy] at hrun
                    replace HL := Lib.hid (HL.out.on (W' := y0) (by rw [hy]; exact (Below.refl _ _).alloc (Nat.le_refl _) _))
                    have HRUN := Lib.hid hrun
                    have HFIN := Lib.hid (And.intro (show w2.cell? ⟨u, 75, none⟩ = some (.slice BL k dL) from (hls.gs.cell 75 (by decide)).1) (And.intro (hls.gs.cell 75 (by decide)).2 (And.intro (show LsS 108 4 winE g A c b u W (w2.setCell ⟨u, 75, none⟩ (.slice BN (k + 1) dN)) s9 ⟨⟨s1, mu, (n3 : Int), (n4 : Int), (n5 : Int), (n6 : Int), (n7 : Int), lk, l ++ [(⟨(m3 : Int), (m5 : Int), (m7 : Int), (m9 : Int)⟩ : Wi)], [], [], []⟩, .slice BN (k + 1) dN, nilV, nilV, nilV⟩ (.slice BN (k + 1) dN) (l ++ [(⟨(m3 : Int), (m5 : Int), (m7 : Int), (m9 : Int)⟩ : Wi)]) from hls.set 75 _ (upd_w _ _ _)) (show StepP winC b s (⟨(m3 : Int), (m5 : Int), (m7 : Int), (m9 : Int)⟩ : Wi) s9 from step_win HC3.out HC5.out HC7.out HC9.out))))
                    refine hK12 _ _ trivial (fun hS12 => ?_)
                    clear hp hy hrun hls hK12 K12 hS9
                    refine held_one (i := 13) (oi := ?ot20) (by kernel_rfl) ?at20 ?ct20 (fun K13 hK13 => ?_)
                    (case at20 => (simp only [List.getElem?_toArray, List.getElem?_cons_zero, List.getElem?_cons_succ]; rfl))
                    (case ct20 => kernel_rfl)
                    refine Lib.wp_append_run _ _ _ _ _ rfl (.slice BL k dL) (.slice (some ⟨p, 0, none⟩) 1 1) ?sa4 ?sb5 (.slice BN (k + 1) dN) w2 ?sc6 ?_
                    case sa4 => rfl
                    case sb5 => rfl
                    case sc6 => (have h0 := HRUN.out; show (Builtin.append_ #[_, _] 59 _).run Tryd.prog _ = _; exact h0)
                    refine hK13 _ _ trivial (fun hS13 => ?_)
                    clear HRUN HC3 HC5 HC7 HC9 hw9 hK13 K13 hS12
                    clear HL
                    revert hS13
                    revert HFIN
                    revert w2
                    revert dN
                    revert BN
                    revert p
                    revert s9
                    revert m9
                    revert m7
                    revert m5
                    revert m3
                    exact tail 0
                  case hjt41 =>
                    go_simp
                    refine (rwide_any HL.out.gs.rq).mono ?_
                    rintro e w5 ⟨m5, s5, rfl, hn, hst, hr, hsv⟩
                    replace HL := Lib.hid (HL.out.call hr hsv)
                    have HC5 := Lib.hid hst
                    refine hK5 _ _ trivial (fun hS5 => ?_)
                    clear hn hst hr hsv hK5 K5 hS3
                    refine held_two (i := 1) (j := 7) (oi := ?oit40) (oj := ?ojt40) (by kernel_rfl) ?ait40 ?ajt40 ?cit40 ?cjt40 (fun K1 hK1 => ?hit40) (fun K7 hK7 => ?hjt40)
                    (case ait40 => (simp only [List.getElem?_toArray, List.getElem?_cons_zero, List.getElem?_cons_succ]; rfl))
                    (case ajt40 => (simp only [List.getElem?_toArray, List.getElem?_cons_zero, List.getElem?_cons_succ]; rfl))
                    (case cit40 => kernel_rfl)
                    (case cjt40 => kernel_rfl)
                    case hit40 =>
                      have k0 := HCF.out _ _ HL.out
                      go_simp
                      refine hK1 _ _ trivial (fun hS1 => ?_)
                      clear k0 hK1 K1 hS5
                      refine held_one (i := 7) (oi := ?ot21) (by kernel_rfl) ?at21 ?ct21 (fun K7 hK7 => ?_)
                      (case at21 => (simp only [List.getElem?_toArray, List.getElem?_cons_zero, List.getElem?_cons_succ]; rfl))
                      (case ct21 => kernel_rfl)
                      go_simp
                      refine (rwide_any HL.out.gs.rq).mono ?_
                      rintro e w7 ⟨m7, s7, rfl, hn, hst, hr, hsv⟩
                      replace HL := Lib.hid (HL.out.call hr hsv)
                      have HC7 := Lib.hid hst
                      refine hK7 _ _ trivial (fun hS7 => ?_)
                      clear hn hst hr hsv hK7 K7 hS1
                      refine held_one (i := 9) (oi := ?ot22) (by kernel_rfl) ?at22 ?ct22 (fun K9 hK9 => ?_)
                      (case at22 => (simp only [List.getElem?_toArray, List.getElem?_cons_zero, List.getElem?_cons_succ]; rfl))
                      (case ct22 => kernel_rfl)
                      go_simp
                      refine (rnum_any 4 7 144 (by decide) (by decide) (by decide) HL.out.gs.rq).mono ?_
                      rintro e w9 ⟨m9, s9, rfl, hn, hst, hr, hsv⟩
                      replace HL := Lib.hid (HL.out.call hr hsv)
                      have HC9 := Lib.hid hst
                      have hw9 : IntKind.i64.wrap (m9 : Int) = (m9 : Int) := by rw [IntKind.wrap_i64]; have := lt4 hn; omega
                      refine hK9 _ _ trivial (fun hS9 => ?_)
                      clear hn hst hr hsv hK9 K9 hS7
                      (refine held_take (i := 10) (oi := ?ot23) (v := .int .i64 (m9 : Int)) ?at23 (by kernel_rfl) (by kernel_rfl) (by kernel_rfl) ?bt23 ?ct23 ?dt23 (by assumption) ?rt23; (case at23 => (simp only [List.getElem?_toArray, List.getElem?_cons_zero, List.getElem?_cons_succ]; rfl)); (case bt23 => exact fun _ _ _ h => h); (case ct23 => kernel_rfl); (case dt23 => (intro W hW; clear hW; go_simp; (try with_reducible rfl))); (case' rt23 => simp only [Act.put, List.setIfInBounds_toArray, List.set_cons_zero, List.set_cons_succ]))
                      (refine held_take (i := 11) (oi := ?ot24) (v := .agg (vec 4 (winE (⟨(m3 : Int), (m5 : Int), (m7 : Int), (m9 : Int)⟩ : Wi)))) ?at24 (by kernel_rfl) (by kernel_rfl) (by kernel_rfl) ?bt24 ?ct24 ?dt24 (by assumption) ?rt24; (case at24 => (simp only [List.getElem?_toArray, List.getElem?_cons_zero, List.getElem?_cons_succ]; rfl)); (case bt24 => exact fun _ _ _ h => h); (case ct24 => kernel_rfl); (case dt24 => (intro W hW; exact exec_build 108 _ rfl (vec 4 (winE (⟨(m3 : Int), (m5 : Int), (m7 : Int), (m9 : Int)⟩ : Wi))) (by kernel_rfl) W)); (case' rt24 => simp only [Act.put, List.setIfInBounds_toArray, List.set_cons_zero, List.set_cons_succ]))
                      refine held_one (i := 12) (oi := ?ot25) (by kernel_rfl) ?at25 ?ct25 (fun K12 hK12 => ?_)
                      (case at25 => (simp only [List.getElem?_toArray, List.getElem?_cons_zero, List.getElem?_cons_succ]; rfl))
                      (case ct25 => kernel_rfl)
                      refine ow_bs1 59 _ rfl (.agg (vec 4 (winE (⟨(m3 : Int), (m5 : Int), (m7 : Int), (m9 : Int)⟩ : Wi)))) rfl _ (build_window (⟨(m3 : Int), (m5 : Int), (m7 : Int), (m9 : Int)⟩ : Wi) _) ?_
                      intro p y0 hp hy
                      obtain ⟨BN, dN, w2, hrun, hls⟩ := HL.out.app Tryd.underlying59 info_window rfl (by decide) (fun x i hi => winE_one x _ i hi) (⟨(m3 : Int), (m5 : Int), (m7 : Int), (m9 : Int)⟩ : Wi) (by have := HLK.out; omega) (by decide) k HLK.out.1
                      rw [← hp] at hrun
                      rw [← hy] at hrun
                      replace HL := Lib.hid (HL.out.on (W' := y0) (by rw [hy]; exact (Below.refl _ _).alloc (Nat.le_refl _) _))
                      have HRUN := Lib.hid hrun
                      have HFIN := Lib.hid (And.intro (show w2.cell? ⟨u, 75, none⟩ = some (.slice BL k dL) from (hls.gs.cell 75 (by decide)).1) (And.intro (hls.gs.cell 75 (by decide)).2 (And.intro (show LsS 108 4 winE g A c b u W (w2.setCell ⟨u, 75, none⟩ (.slice BN (k + 1) dN)) s9 ⟨⟨s1, mu, (n3 : Int), (n4 : Int), (n5 : Int), (n6 : Int), (n7 : Int), lk, l ++ [(⟨(m3 : Int), (m5 : Int), (m7 : Int), (m9 : Int)⟩ : Wi)], [], [], []⟩, .slice BN (k + 1) dN, nilV, nilV, nilV⟩ (.slice BN (k + 1) dN) (l ++ [(⟨(m3 : Int), (m5 : Int), (m7 : Int), (m9 : Int)⟩ : Wi)]) from hls.set 75 _ (upd_w _ _ _)) (show StepP winC b s (⟨(m3 : Int), (m5 : Int), (m7 : Int), (m9 : Int)⟩ : Wi) s9 from step_win HC3.out HC5.out HC7.out HC9.out))))
                      refine hK12 _ _ trivial (fun hS12 => ?_)
                      clear hp hy hrun hls hK12 K12 hS9
                      refine held_one (i := 13) (oi := ?ot26) (by kernel_rfl) ?at26 ?ct26 (fun K13 hK13 => ?_)
                      (case at26 => (simp only [List.getElem?_toArray, List.getElem?_cons_zero, List.getElem?_cons_succ]; rfl))
                      (case ct26 => kernel_rfl)
                      refine Lib.wp_append_run _ _ _ _ _ rfl (.slice BL k dL) (.slice (some ⟨p, 0, none⟩) 1 1) ?sa7 ?sb8 (.slice BN (k + 1) dN) w2 ?sc9 ?_
                      case sa7 => rfl
                      case sb8 => rfl
                      case sc9 => (have h0 := HRUN.out; show (Builtin.append_ #[_, _] 59 _).run Tryd.prog _ = _; exact h0)
                      refine hK13 _ _ trivial (fun hS13 => ?_)
                      clear HRUN HC3 HC5 HC7 HC9 hw9 hK13 K13 hS12
                      clear HL
                      revert hS13
                      revert HFIN
                      revert w2
                      revert dN
                      revert BN
                      revert p
                      revert s9
                      revert m9
                      revert m7
                      revert m5
                      revert m3
                      exact tail 0
                    case hjt40 =>
                      go_simp
                      refine (rwide_any HL.out.gs.rq).mono ?_
                      rintro e w7 ⟨m7, s7, rfl, hn, hst, hr, hsv⟩
                      replace HL := Lib.hid (HL.out.call hr hsv)
                      have HC7 := Lib.hid hst
                      refine hK7 _ _ trivial (fun hS7 => ?_)
                      clear hn hst hr hsv hK7 K7 hS5
                      refine held_two (i := 1) (j := 9) (oi := ?oit39) (oj := ?ojt39) (by kernel_rfl) ?ait39 ?ajt39 ?cit39 ?cjt39 (fun K1 hK1 => ?hit39) (fun K9 hK9 => ?hjt39)
                      (case ait39 => (simp only [List.getElem?_toArray, List.getElem?_cons_zero, List.getElem?_cons_succ]; rfl))
                      (case ajt39 => (simp only [List.getElem?_toArray, List.getElem?_cons_zero, List.getElem?_cons_succ]; rfl))
                      (case cit39 => kernel_rfl)
                      (case cjt39 => kernel_rfl)
                      case hit39 =>
                        have k0 := HCF.out _ _ HL.out
                        go_simp
                        refine hK1 _ _ trivial (fun hS1 => ?_)
                        clear k0 hK1 K1 hS7
                        refine held_one (i := 9) (oi := ?ot27) (by kernel_rfl) ?at27 ?ct27 (fun K9 hK9 => ?_)
                        (case at27 => (simp only [List.getElem?_toArray, List.getElem?_cons_zero, List.getElem?_cons_succ]; rfl))
                        (case ct27 => kernel_rfl)
                        go_simp
                        refine (rnum_any 4 7 144 (by decide) (by decide) (by decide) HL.out.gs.rq).mono ?_
                        rintro e w9 ⟨m9, s9, rfl, hn, hst, hr, hsv⟩
                        replace HL := Lib.hid (HL.out.call hr hsv)
                        have HC9 := Lib.hid hst
                        have hw9 : IntKind.i64.wrap (m9 : Int) = (m9 : Int) := by rw [IntKind.wrap_i64]; have := lt4 hn; omega
                        refine hK9 _ _ trivial (fun hS9 => ?_)
                        clear hn hst hr hsv hK9 K9 hS1
                        (refine held_take (i := 10) (oi := ?ot28) (v := .int .i64 (m9 : Int)) ?at28 (by kernel_rfl) (by kernel_rfl) (by kernel_rfl) ?bt28 ?ct28 ?dt28 (by assumption) ?rt28; (case at28 => (simp only [List.getElem?_toArray, List.getElem?_cons_zero, List.getElem?_cons_succ]; rfl)); (case bt28 => exact fun _ _ _ h => h); (case ct28 => kernel_rfl); (case dt28 => (intro W hW; clear hW; go_simp; (try with_reducible rfl))); (case' rt28 => simp only [Act.put, List.setIfInBounds_toArray, List.set_cons_zero, List.set_cons_succ]))
                        (refine held_take (i := 11) (oi := ?ot29) (v := .agg (vec 4 (winE (⟨(m3 : Int), (m5 : Int), (m7 : Int), (m9 : Int)⟩ : Wi)))) ?at29 (by kernel_rfl) (by kernel_rfl) (by kernel_rfl) ?bt29 ?ct29 ?dt29 (by assumption) ?rt29; (case at29 => (simp only [List.getElem?_toArray, List.getElem?_cons_zero, List.getElem?_cons_succ]; rfl)); (case bt29 => exact fun _ _ _ h => h); (case ct29 => kernel_rfl); (case dt29 => (intro W hW; exact exec_build 108 _ rfl (vec 4 (winE (⟨(m3 : Int), (m5 : Int), (m7 : Int), (m9 : Int)⟩ : Wi))) (by kernel_rfl) W)); (case' rt29 => simp only [Act.put, List.setIfInBounds_toArray, List.set_cons_zero, List.set_cons_succ]))
                        refine held_one (i := 12) (oi := ?ot30) (by kernel_rfl) ?at30 ?ct30 (fun K12 hK12 => ?_)
                        (case at30 => (simp only [List.getElem?_toArray, List.getElem?_cons_zero, List.getElem?_cons_succ]; rfl))
                        (case ct30 => kernel_rfl)
                        refine ow_bs1 59 _ rfl (.agg (vec 4 (winE (⟨(m3 : Int), (m5 : Int), (m7 : Int), (m9 : Int)⟩ : Wi)))) rfl _ (build_window (⟨(m3 : Int), (m5 : Int), (m7 : Int), (m9 : Int)⟩ : Wi) _) ?_
                        intro p y0 hp hy
                        obtain ⟨BN, dN, w2, hrun, hls⟩ := HL.out.app Tryd.underlying59 info_window rfl (by decide) (fun x i hi => winE_one x _ i hi) (⟨(m3 : Int), (m5 : Int), (m7 : Int), (m9 : Int)⟩ : Wi) (by have := HLK.out; omega) (by decide) k HLK.out.1
                        rw [← hp] at hrun
                        rw [← hy] at hrun
                        replace HL := Lib.hid (HL.out.on (W' := y0) (by rw [hy]; exact (Below.refl _ _).alloc (Nat.le_refl _) _))
                        have HRUN := Lib.hid hrun
                        have HFIN := Lib.hid (And.intro (show w2.cell? ⟨u, 75, none⟩ = some (.slice BL k dL) from (hls.gs.cell 75 (by decide)).1) (And.intro (hls.gs.cell 75 (by decide)).2 (And.intro (show LsS 108 4 winE g A c b u W (w2.setCell ⟨u, 75, none⟩ (.slice BN (k + 1) dN)) s9 ⟨⟨s1, mu, (n3 : Int), (n4 : Int), (n5 : Int), (n6 : Int), (n7 : Int), lk, l ++ [(⟨(m3 : Int), (m5 : Int), (m7 : Int), (m9 : Int)⟩ : Wi)], [], [], []⟩, .slice BN (k + 1) dN, nilV, nilV, nilV⟩ (.slice BN (k + 1) dN) (l ++ [(⟨(m3 : Int), (m5 : Int), (m7 : Int), (m9 : Int)⟩ : Wi)]) from hls.set 75 _ (upd_w _ _ _)) (show StepP winC b s (⟨(m3 : Int), (m5 : Int), (m7 : Int), (m9 : Int)⟩ : Wi) s9 from step_win HC3.out HC5.out HC7.out HC9.out))))
                        refine hK12 _ _ trivial (fun hS12 => ?_)
                        clear hp hy hrun hls hK12 K12 hS9
                        refine held_one (i := 13) (oi := ?ot31) (by kernel_rfl) ?at31 ?ct31 (fun K13 hK13 => ?_)
                        (case at31 => (simp only [List.getElem?_toArray, List.getElem?_cons_zero, List.getElem?_cons_succ]; rfl))
                        (case ct31 => kernel_rfl)
                        refine Lib.wp_append_run _ _ _ _ _ rfl (.slice BL k dL) (.slice (some ⟨p, 0, none⟩) 1 1) ?sa10 ?sb11 (.slice BN (k + 1) dN) w2 ?sc12 ?_
                        case sa10 => rfl
                        case sb11 => rfl
                        case sc12 => (have h0 := HRUN.out; show (Builtin.append_ #[_, _] 59 _).run Tryd.prog _ = _; exact h0)
                        refine hK13 _ _ trivial (fun hS13 => ?_)
                        clear HRUN HC3 HC5 HC7 HC9 hw9 hK13 K13 hS12
                        clear HL
                        revert hS13
                        revert HFIN
                        revert w2
                        revert dN
                        revert BN
                        revert p
                        revert s9
                        revert m9
                        revert m7
                        revert m5
                        revert m3
                        exact tail 0
                      case hjt39 =>
                        go_simp
                        refine (rnum_any 4 7 144 (by decide) (by decide) (by decide) HL.out.gs.rq).mono ?_
                        rintro e w9 ⟨m9, s9, rfl, hn, hst, hr, hsv⟩
                        replace HL := Lib.hid (HL.out.call hr hsv)
                        have HC9 := Lib.hid hst
                        have hw9 : IntKind.i64.wrap (m9 : Int) = (m9 : Int) := by rw [IntKind.wrap_i64]; have := lt4 hn; omega
                        refine hK9 _ _ trivial (fun hS9 => ?_)
                        clear hn hst hr hsv hK9 K9 hS7
                        (refine held_take (i := 10) (oi := ?ot32) (v := .int .i64 (m9 : Int)) ?at32 (by kernel_rfl) (by kernel_rfl) (by kernel_rfl) ?bt32 ?ct32 ?dt32 (by assumption) ?rt32; (case at32 => (simp only [List.getElem?_toArray, List.getElem?_cons_zero, List.getElem?_cons_succ]; rfl)); (case bt32 => exact fun _ _ _ h => h); (case ct32 => kernel_rfl); (case dt32 => (intro W hW; clear hW; go_simp; (try with_reducible rfl))); (case' rt32 => simp only [Act.put, List.setIfInBounds_toArray, List.set_cons_zero, List.set_cons_succ]))
                        (refine held_take (i := 11) (oi := ?ot33) (v := .agg (vec 4 (winE (⟨(m3 : Int), (m5 : Int), (m7 : Int), (m9 : Int)⟩ : Wi)))) ?at33 (by kernel_rfl) (by kernel_rfl) (by kernel_rfl) ?bt33 ?ct33 ?dt33 (by assumption) ?rt33; (case at33 => (simp only [List.getElem?_toArray, List.getElem?_cons_zero, List.getElem?_cons_succ]; rfl)); (case bt33 => exact fun _ _ _ h => h); (case ct33 => kernel_rfl); (case dt33 => (intro W hW; exact exec_build 108 _ rfl (vec 4 (winE (⟨(m3 : Int), (m5 : Int), (m7 : Int), (m9 : Int)⟩ : Wi))) (by kernel_rfl) W)); (case' rt33 => simp only [Act.put, List.setIfInBounds_toArray, List.set_cons_zero, List.set_cons_succ]))
                        refine held_two (i := 1) (j := 12) (oi := ?oit38) (oj := ?ojt38) (by kernel_rfl) ?ait38 ?ajt38 ?cit38 ?cjt38 (fun K1 hK1 => ?hit38) (fun K12 hK12 => ?hjt38)
                        (case ait38 => (simp only [List.getElem?_toArray, List.getElem?_cons_zero, List.getElem?_cons_succ]; rfl))
                        (case ajt38 => (simp only [List.getElem?_toArray, List.getElem?_cons_zero, List.getElem?_cons_succ]; rfl))
                        (case cit38 => kernel_rfl)
                        (case cjt38 => kernel_rfl)
                        case hit38 =>
                          have k0 := HCF.out _ _ HL.out
                          go_simp
                          refine hK1 _ _ trivial (fun hS1 => ?_)
                          clear k0 hK1 K1 hS9
                          refine held_one (i := 12) (oi := ?ot34) (by kernel_rfl) ?at34 ?ct34 (fun K12 hK12 => ?_)
                          (case at34 => (simp only [List.getElem?_toArray, List.getElem?_cons_zero, List.getElem?_cons_succ]; rfl))
                          (case ct34 => kernel_rfl)
                          refine ow_bs1 59 _ rfl (.agg (vec 4 (winE (⟨(m3 : Int), (m5 : Int), (m7 : Int), (m9 : Int)⟩ : Wi)))) rfl _ (build_window (⟨(m3 : Int), (m5 : Int), (m7 : Int), (m9 : Int)⟩ : Wi) _) ?_
                          intro p y0 hp hy
                          obtain ⟨BN, dN, w2, hrun, hls⟩ := HL.out.app Tryd.underlying59 info_window rfl (by decide) (fun x i hi => winE_one x _ i hi) (⟨(m3 : Int), (m5 : Int), (m7 : Int), (m9 : Int)⟩ : Wi) (by have := HLK.out; omega) (by decide) k HLK.out.1
                          rw [← hp] at hrun
                          rw [← hy] at hrun
                          replace HL := Lib.hid (HL.out.on (W' := y0) (by rw [hy]; exact (Below.refl _ _).alloc (Nat.le_refl _) _))
                          have HRUN := Lib.hid hrun
                          have HFIN := Lib.hid (And.intro (show w2.cell? ⟨u, 75, none⟩ = some (.slice BL k dL) from (hls.gs.cell 75 (by decide)).1) (And.intro (hls.gs.cell 75 (by decide)).2 (And.intro (show LsS 108 4 winE g A c b u W (w2.setCell ⟨u, 75, none⟩ (.slice BN (k + 1) dN)) s9 ⟨⟨s1, mu, (n3 : Int), (n4 : Int), (n5 : Int), (n6 : Int), (n7 : Int), lk, l ++ [(⟨(m3 : Int), (m5 : Int), (m7 : Int), (m9 : Int)⟩ : Wi)], [], [], []⟩, .slice BN (k + 1) dN, nilV, nilV, nilV⟩ (.slice BN (k + 1) dN) (l ++ [(⟨(m3 : Int), (m5 : Int), (m7 : Int), (m9 : Int)⟩ : Wi)]) from hls.set 75 _ (upd_w _ _ _)) (show StepP winC b s (⟨(m3 : Int), (m5 : Int), (m7 : Int), (m9 : Int)⟩ : Wi) s9 from step_win HC3.out HC5.out HC7.out HC9.out))))
                          refine hK12 _ _ trivial (fun hS12 => ?_)
                          clear hp hy hrun hls hK12 K12 hS1
                          refine held_one (i := 13) (oi := ?ot35) (by kernel_rfl) ?at35 ?ct35 (fun K13 hK13 => ?_)
                          (case at35 => (simp only [List.getElem?_toArray, List.getElem?_cons_zero, List.getElem?_cons_succ]; rfl))
                          (case ct35 => kernel_rfl)
                          refine Lib.wp_append_run _ _ _ _ _ rfl (.slice BL k dL) (.slice (some ⟨p, 0, none⟩) 1 1) ?sa13 ?sb14 (.slice BN (k + 1) dN) w2 ?sc15 ?_
                          case sa13 => rfl
                          case sb14 => rfl
                          case sc15 => (have h0 := HRUN.out; show (Builtin.append_ #[_, _] 59 _).run Tryd.prog _ = _; exact h0)
                          refine hK13 _ _ trivial (fun hS13 => ?_)
                          clear HRUN HC3 HC5 HC7 HC9 hw9 hK13 K13 hS12
                          clear HL
                          revert hS13
                          revert HFIN
                          revert w2
                          revert dN
                          revert BN
                          revert p
                          revert s9
                          revert m9
                          revert m7
                          revert m5
                          revert m3
                          exact tail 0
                        case hjt38 =>
                          refine ow_bs1 59 _ rfl (.agg (vec 4 (winE (⟨(m3 : Int), (m5 : Int), (m7 : Int), (m9 : Int)⟩ : Wi)))) rfl _ (build_window (⟨(m3 : Int), (m5 : Int), (m7 : Int), (m9 : Int)⟩ : Wi) _) ?_
                          intro p y0 hp hy
                          obtain ⟨BN, dN, w2, hrun, hls⟩ := HL.out.app Tryd.underlying59 info_window rfl (by decide) (fun x i hi => winE_one x _ i hi) (⟨(m3 : Int), (m5 : Int), (m7 : Int), (m9 : Int)⟩ : Wi) (by have := HLK.out; omega) (by decide) k HLK.out.1
                          rw [← hp] at hrun
                          rw [← hy] at hrun
                          replace HL := Lib.hid (HL.out.on (W' := y0) (by rw [hy]; exact (Below.refl _ _).alloc (Nat.le_refl _) _))
                          have HRUN := Lib.hid hrun
                          have HFIN := Lib.hid (And.intro (show w2.cell? ⟨u, 75, none⟩ = some (.slice BL k dL) from (hls.gs.cell 75 (by decide)).1) (And.intro (hls.gs.cell 75 (by decide)).2 (And.intro (show LsS 108 4 winE g A c b u W (w2.setCell ⟨u, 75, none⟩ (.slice BN (k + 1) dN)) s9 ⟨⟨s1, mu, (n3 : Int), (n4 : Int), (n5 : Int), (n6 : Int), (n7 : Int), lk, l ++ [(⟨(m3 : Int), (m5 : Int), (m7 : Int), (m9 : Int)⟩ : Wi)], [], [], []⟩, .slice BN (k + 1) dN, nilV, nilV, nilV⟩ (.slice BN (k + 1) dN) (l ++ [(⟨(m3 : Int), (m5 : Int), (m7 : Int), (m9 : Int)⟩ : Wi)]) from hls.set 75 _ (upd_w _ _ _)) (show StepP winC b s (⟨(m3 : Int), (m5 : Int), (m7 : Int), (m9 : Int)⟩ : Wi) s9 from step_win HC3.out HC5.out HC7.out HC9.out))))
                          refine hK12 _ _ trivial (fun hS12 => ?_)
                          clear hp hy hrun hls hK12 K12 hS9
                          refine held_one (i := 1) (oi := ?ot36) (by kernel_rfl) ?at36 ?ct36 (fun K1 hK1 => ?_)
                          (case at36 => (simp only [List.getElem?_toArray, List.getElem?_cons_zero, List.getElem?_cons_succ]; rfl))
                          (case ct36 => kernel_rfl)
                          have k0 := HCF.out _ _ HL.out
                          go_simp
                          refine hK1 _ _ trivial (fun hS1 => ?_)
                          clear k0 hK1 K1 hS12
                          refine held_one (i := 13) (oi := ?ot37) (by kernel_rfl) ?at37 ?ct37 (fun K13 hK13 => ?_)
                          (case at37 => (simp only [List.getElem?_toArray, List.getElem?_cons_zero, List.getElem?_cons_succ]; rfl))
                          (case ct37 => kernel_rfl)
                          refine Lib.wp_append_run _ _ _ _ _ rfl (.slice BL k dL) (.slice (some ⟨p, 0, none⟩) 1 1) ?sa16 ?sb17 (.slice BN (k + 1) dN) w2 ?sc18 ?_
                          case sa16 => rfl
                          case sb17 => rfl
                          case sc18 => (have h0 := HRUN.out; show (Builtin.append_ #[_, _] 59 _).run Tryd.prog _ = _; exact h0)
                          refine hK13 _ _ trivial (fun hS13 => ?_)
                          clear HRUN HC3 HC5 HC7 HC9 hw9 hK13 K13 hS1
                          clear HL
                          revert hS13
                          revert HFIN
                          revert w2
                          revert dN
                          revert BN
                          revert p
                          revert s9
                          revert m9
                          revert m7
                          revert m5
                          revert m3
                          exact tail 0
              case t =>
                intro m3 m5 m7 m9 s9 p BN dN w2 HFIN hS13
                (refine held_take (i := 14) (oi := ?ot43) (v := ?vt43) ?at43 (by kernel_rfl) (by kernel_rfl) (by kernel_rfl) ?bt43 ?ct43 ?dt43 (by assumption) ?rt43; (case at43 => (simp only [List.getElem?_toArray, List.getElem?_cons_zero, List.getElem?_cons_succ]; rfl)); (case bt43 => exact fun _ _ _ h => h); (case ct43 => kernel_rfl); (case dt43 => (intro W hW; clear hW; go_simp; (try with_reducible rfl))); (case' rt43 => simp only [Act.put, List.setIfInBounds_toArray, List.set_cons_zero, List.set_cons_succ]))
                refine held_one (i := 15) (oi := ?ot44) (by kernel_rfl) ?at44 ?ct44 (fun K15 hK15 => ?_)
                (case at44 => (simp only [List.getElem?_toArray, List.getElem?_cons_zero, List.getElem?_cons_succ]; rfl))
                (case ct44 => kernel_rfl)
                have k3 := HFIN.out.1
                have k4 := HFIN.out.2.1
                go_simp
                refine hK15 _ _ trivial (fun hS15 => ?_)
                clear k3 k4 hK15 K15 hS13
                refine wpAnyH_done (by kernel_rfl) ?_ _
                clear hS15
                obtain ⟨WN, hWN⟩ : ∃ W, W = w2.setCell ⟨u, 75, none⟩ (.slice BN (k + 1) dN) := ⟨_, rfl⟩
                have HFN := Lib.hid HFIN.out.2.2
                rw [← hWN] at HFN ⊢
                clear hWN HFIN
                go_wp2_with fail
                go_roundw
                case rel => exact ⟨k + 1, BN, dN, l ++ [(⟨(m3 : Int), (m5 : Int), (m7 : Int), (m9 : Int)⟩ : Wi)], s9, by have := HLT.out; omega, by go_num, Lib.hid ⟨by rw [List.length_append, HLK.out.1]; rfl, HFN.out.1, HST.out.snoc HE0.out HFN.out.2⟩⟩
                case measure => have := HLT.out; simp [intOf]; omega
            · have z0 : ((E : Int) == 0) = false := by simp; omega
              have z1 : ¬ (E : Int) = 0 := by omega
              have HNE : Hid (s.err ≠ none) := Lib.hid (erN_some (by rw [← HEE.out]; exact h0))
              clear h0
              go_wp2_with fail
              go_meet
              exact ⟨_, l, s, Lib.hid ⟨HI.out.2.1, HI.out.2.2.ends (Or.inr ⟨hk, HNE.out⟩)⟩⟩
          · have hki : ¬ (k : Int) < (n0 : Int) := by omega
            have HKE : Hid (k = n0) := Lib.hid (by omega)
            go_wp2_with fail
            go_meet
            exact ⟨_, l, s, Lib.hid ⟨HI.out.2.1, HI.out.2.2.ends (Or.inl HKE.out)⟩⟩
      obtain ⟨v0, l0, sB, HH⟩ := hcut
      obtain ⟨WA, hwx⟩ : ∃ W : World, W = wc := ⟨_, rfl⟩
      rw [← hwx] at HH
      (try rw [← hwx])
      clear hwx
      have HL0 := Lib.hid HH.out.2
      have HN7 := Lib.hid (fun Y (hY : FT g u WA Y) => HN7.out Y (HH.out.1.gs.ft.trans hY))
      have HFT2 : Hid (FT g u W1 WA) := Lib.hid (HFT2.out.trans HH.out.1.gs.ft)
      have HG := Lib.hid HH.out.1.gs.base
      have HO0 : Hid (OwnE 108 4 winE WA (u + 1) v0 l0) := Lib.hid (HH.out.1.own.low HH.out.1.gs.uv)
      have HBD := Lib.hid (fun (h : sB.err = none) => HBD.out (HL0.out.on h).1)
      clear HH
      go_upto_block 4 with fail
      go_cut [12] from 115 to 139 (fun _ wx => ∃ (v : Value) (l : List De) (s : Rs), Hid (LsS 110 3 devE g A c b u WA wx s ⟨⟨s1, mu, (n3 : Int), (n4 : Int), (n5 : Int), (n6 : Int), (n7 : Int), lk, l0, l, [], []⟩, v0, v, nilV, nilV⟩ (v) l ∧ StepP (listC devC n1) b sB l s))
      case first =>
        go_wp2_with fail
        go_loopw [12] (fun j Z1 => ∃ (k : Nat) (B : Option Addr) (d : Nat) (l : List De) (s : Rs), (k ≤ n1 ∧ k ≤ 16) ∧ j = .int .i64 k ∧ Hid (l.length = k ∧ LsS 110 3 devE g A c b u WA Z1 s ⟨⟨s1, mu, (n3 : Int), (n4 : Int), (n5 : Int), (n6 : Int), (n7 : Int), lk, l0, l, [], []⟩, v0, (.slice B k d), nilV, nilV⟩ (.slice B k d) l ∧ StepP (listC devC k) b sB l s)) (fun j _ => n1 - (intOf j).toNat)
        case atStart => exact ⟨0, none, 0, [], sB, ⟨Nat.zero_le _, Nat.zero_le _⟩, rfl, Lib.hid ⟨rfl, ⟨HG.out, OwnE.nil _ _⟩, list_none _ _ _⟩⟩
        case round =>
          obtain ⟨k, BL, dL, l, s, ⟨hk, hk2⟩, rfl, HI⟩ := hrel
          obtain ⟨wk, hwk⟩ : ∃ W : World, W = wr := ⟨_, rfl⟩
          subst hwk
          have c7 := (HN7.out wk HI.out.2.1.gs.ft).2.1
          have ce := HI.out.2.1.gs.rq.at2
          obtain ⟨E, hE⟩ : ∃ E, E = erN s.err := ⟨_, rfl⟩
          rw [← hE] at ce
          have HEE := Lib.hid hE
          clear hE
          by_cases hlt : k < n1
          · have hki : (k : Int) < (n1 : Int) := by omega
            by_cases h0 : E = 0
            · subst h0
              have z0 : (((0 : Nat) : Int) == 0) = true := rfl
              have HE0 : Hid (s.err = none) := Lib.hid (erN_zero HI.out.2.1.gs.rq.err HEE.out.symm)
              have HLT : Hid (k + 1 ≤ n1 ∧ k + 1 ≤ 16) := Lib.hid (by
                have h9 : sB.err = none := (HI.out.2.2.on HE0.out).1
                have := HBD.out h9
                omega)
              have HLK : Hid (l.length = k ∧ k ≤ 16) := Lib.hid ⟨HI.out.1, hk2⟩
              have HST := Lib.hid HI.out.2.2
              have HCF : Hid (∀ (Z : World) (s' : Rs), LsS 110 3 devE g A c b u WA Z s' ⟨⟨s1, mu, (n3 : Int), (n4 : Int), (n5 : Int), (n6 : Int), (n7 : Int), lk, l0, l, [], []⟩, v0, (.slice BL k dL), nilV, nilV⟩ (.slice BL k dL) l → Z.cell? ⟨u, 76, none⟩ = some (.slice BL k dL)) := Lib.hid (fun Z s' hz => (hz.gs.cell 76 (by decide)).1)
              have hk9 : k ≤ 64 := by omega
              clear hlt hk hk2
              go_upto_region 30 with fail
              clear c7 ce z0
              obtain ⟨Y0, hY0⟩ : ∃ Y, Y = wk.drew := ⟨_, rfl⟩
              have HL : Hid (LsS 110 3 devE g A c b u WA Y0 s ⟨⟨s1, mu, (n3 : Int), (n4 : Int), (n5 : Int), (n6 : Int), (n7 : Int), lk, l0, l, [], []⟩, v0, (.slice BL k dL), nilV, nilV⟩ (.slice BL k dL) l) := Lib.hid (by rw [hY0]; exact HI.out.2.1.on ⟨rfl, rfl, rfl, Nat.le_refl _, fun _ _ => rfl⟩)
              have HY0 := Lib.hid hY0
              clear hY0 HI
              refine wp_region_held_drew (S := fun _ => True) (by kernel_rfl) trivial (fun hS => ?_)
              rw [← HY0.out]
              revert hS
              apply meet_of
              case h =>
                intro tail hS
                (refine held_take (i := 0) (oi := ?ot45) (v := ?vt45) ?at45 (by kernel_rfl) (by kernel_rfl) (by kernel_rfl) ?bt45 ?ct45 ?dt45 (by assumption) ?rt45; (case at45 => (simp only [List.getElem?_toArray, List.getElem?_cons_zero]; rfl)); (case bt45 => exact fun _ _ _ h => h); (case ct45 => kernel_rfl); (case dt45 => (intro W hW; clear hW; go_simp; (try with_reducible rfl))); (case' rt45 => simp only [Act.put, List.setIfInBounds_toArray, List.set_cons_zero, List.set_cons_succ]))
                (refine held_take (i := 2) (oi := ?ot46) (v := ?vt46) ?at46 (by kernel_rfl) (by kernel_rfl) (by kernel_rfl) ?bt46 ?ct46 ?dt46 (by assumption) ?rt46; (case at46 => (simp only [List.getElem?_toArray, List.getElem?_cons_zero, List.getElem?_cons_succ]; rfl)); (case bt46 => exact fun _ _ _ h => h); (case ct46 => kernel_rfl); (case dt46 => (intro W hW; clear hW; go_simp; (try with_reducible rfl))); (case' rt46 => simp only [Act.put, List.setIfInBounds_toArray, List.set_cons_zero, List.set_cons_succ]))
                (refine held_take (i := 4) (oi := ?ot47) (v := ?vt47) ?at47 (by kernel_rfl) (by kernel_rfl) (by kernel_rfl) ?bt47 ?ct47 ?dt47 (by assumption) ?rt47; (case at47 => (simp only [List.getElem?_toArray, List.getElem?_cons_zero, List.getElem?_cons_succ]; rfl)); (case bt47 => exact fun _ _ _ h => h); (case ct47 => kernel_rfl); (case dt47 => (intro W hW; clear hW; go_simp; (try with_reducible rfl))); (case' rt47 => simp only [Act.put, List.setIfInBounds_toArray, List.set_cons_zero, List.set_cons_succ]))
                (refine held_take (i := 6) (oi := ?ot48) (v := ?vt48) ?at48 (by kernel_rfl) (by kernel_rfl) (by kernel_rfl) ?bt48 ?ct48 ?dt48 (by assumption) ?rt48; (case at48 => (simp only [List.getElem?_toArray, List.getElem?_cons_zero, List.getElem?_cons_succ]; rfl)); (case bt48 => exact fun _ _ _ h => h); (case ct48 => kernel_rfl); (case dt48 => (intro W hW; clear hW; go_simp; (try with_reducible rfl))); (case' rt48 => simp only [Act.put, List.setIfInBounds_toArray, List.set_cons_zero, List.set_cons_succ]))
                refine held_two (i := 1) (j := 3) (oi := ?oit72) (oj := ?ojt72) (by kernel_rfl) ?ait72 ?ajt72 ?cit72 ?cjt72 (fun K1 hK1 => ?hit72) (fun K3 hK3 => ?hjt72)
                (case ait72 => (simp only [List.getElem?_toArray, List.getElem?_cons_zero, List.getElem?_cons_succ]; rfl))
                (case ajt72 => (simp only [List.getElem?_toArray, List.getElem?_cons_zero, List.getElem?_cons_succ]; rfl))
                (case cit72 => kernel_rfl)
                (case cjt72 => kernel_rfl)
                case hit72 =>
                  have k0 := HCF.out _ _ HL.out
                  go_simp
                  refine hK1 _ _ trivial (fun hS1 => ?_)
                  clear k0 hK1 K1 hS
                  refine held_one (i := 3) (oi := ?ot49) (by kernel_rfl) ?at49 ?ct49 (fun K3 hK3 => ?_)
                  (case at49 => (simp only [List.getElem?_toArray, List.getElem?_cons_zero, List.getElem?_cons_succ]; rfl))
                  (case ct49 => kernel_rfl)
                  go_simp
                  refine (rwide_any HL.out.gs.rq).mono ?_
                  rintro e w3 ⟨m3, s3, rfl, hn, hst, hr, hsv⟩
                  replace HL := Lib.hid (HL.out.call hr hsv)
                  have HC3 := Lib.hid hst
                  refine hK3 _ _ trivial (fun hS3 => ?_)
                  clear hn hst hr hsv hK3 K3 hS1
                  refine held_one (i := 5) (oi := ?ot50) (by kernel_rfl) ?at50 ?ct50 (fun K5 hK5 => ?_)
                  (case at50 => (simp only [List.getElem?_toArray, List.getElem?_cons_zero, List.getElem?_cons_succ]; rfl))
                  (case ct50 => kernel_rfl)
                  go_simp
                  refine (rwide_any HL.out.gs.rq).mono ?_
                  rintro e w5 ⟨m5, s5, rfl, hn, hst, hr, hsv⟩
                  replace HL := Lib.hid (HL.out.call hr hsv)
                  have HC5 := Lib.hid hst
                  refine hK5 _ _ trivial (fun hS5 => ?_)
                  clear hn hst hr hsv hK5 K5 hS3
                  refine held_one (i := 7) (oi := ?ot51) (by kernel_rfl) ?at51 ?ct51 (fun K7 hK7 => ?_)
                  (case at51 => (simp only [List.getElem?_toArray, List.getElem?_cons_zero, List.getElem?_cons_succ]; rfl))
                  (case ct51 => kernel_rfl)
                  go_simp
                  refine (rwide_any HL.out.gs.rq).mono ?_
                  rintro e w7 ⟨m7, s7, rfl, hn, hst, hr, hsv⟩
                  replace HL := Lib.hid (HL.out.call hr hsv)
                  have HC7 := Lib.hid hst
                  refine hK7 _ _ trivial (fun hS7 => ?_)
                  clear hn hst hr hsv hK7 K7 hS5
                  (refine held_take (i := 8) (oi := ?ot52) (v := .agg (vec 3 (devE (⟨(m3 : Int), (m5 : Int), (m7 : Int)⟩ : De)))) ?at52 (by kernel_rfl) (by kernel_rfl) (by kernel_rfl) ?bt52 ?ct52 ?dt52 (by assumption) ?rt52; (case at52 => (simp only [List.getElem?_toArray, List.getElem?_cons_zero, List.getElem?_cons_succ]; rfl)); (case bt52 => exact fun _ _ _ h => h); (case ct52 => kernel_rfl); (case dt52 => (intro W hW; exact exec_build 110 _ rfl (vec 3 (devE (⟨(m3 : Int), (m5 : Int), (m7 : Int)⟩ : De))) (by kernel_rfl) W)); (case' rt52 => simp only [Act.put, List.setIfInBounds_toArray, List.set_cons_zero, List.set_cons_succ]))
                  refine held_one (i := 9) (oi := ?ot53) (by kernel_rfl) ?at53 ?ct53 (fun K9 hK9 => ?_)
                  (case at53 => (simp only [List.getElem?_toArray, List.getElem?_cons_zero, List.getElem?_cons_succ]; rfl))
                  (case ct53 => kernel_rfl)
                  refine ow_bs1 60 _ rfl (.agg (vec 3 (devE (⟨(m3 : Int), (m5 : Int), (m7 : Int)⟩ : De)))) rfl _ (build_device (⟨(m3 : Int), (m5 : Int), (m7 : Int)⟩ : De) _) ?_
                  intro p y0 hp hy
                  obtain ⟨BN, dN, w2, hrun, hls⟩ := HL.out.app Tryd.underlying60 info_device rfl (by decide) (fun x i hi => devE_one x _ i hi) (⟨(m3 : Int), (m5 : Int), (m7 : Int)⟩ : De) (by have := HLK.out; omega) (by decide) k HLK.out.1
                  rw [← hp] at hrun
                  rw [← hy] at hrun
                  replace HL := Lib.hid (HL.out.on (W' := y0) (by rw [hy]; exact (Below.refl _ _).alloc (Nat.le_refl _) _))
                  have HRUN := Lib.hid hrun
                  have HFIN := Lib.hid (And.intro (show w2.cell? ⟨u, 76, none⟩ = some (.slice BL k dL) from (hls.gs.cell 76 (by decide)).1) (And.intro (hls.gs.cell 76 (by decide)).2 (And.intro (show LsS 110 3 devE g A c b u WA (w2.setCell ⟨u, 76, none⟩ (.slice BN (k + 1) dN)) s7 ⟨⟨s1, mu, (n3 : Int), (n4 : Int), (n5 : Int), (n6 : Int), (n7 : Int), lk, l0, l ++ [(⟨(m3 : Int), (m5 : Int), (m7 : Int)⟩ : De)], [], []⟩, v0, .slice BN (k + 1) dN, nilV, nilV⟩ (.slice BN (k + 1) dN) (l ++ [(⟨(m3 : Int), (m5 : Int), (m7 : Int)⟩ : De)]) from hls.set 76 _ (upd_d _ _ _)) (show StepP devC b s (⟨(m3 : Int), (m5 : Int), (m7 : Int)⟩ : De) s7 from step_dev HC3.out HC5.out HC7.out))))
                  refine hK9 _ _ trivial (fun hS9 => ?_)
                  clear hp hy hrun hls hK9 K9 hS7
                  refine held_one (i := 10) (oi := ?ot54) (by kernel_rfl) ?at54 ?ct54 (fun K10 hK10 => ?_)
                  (case at54 => (simp only [List.getElem?_toArray, List.getElem?_cons_zero, List.getElem?_cons_succ]; rfl))
                  (case ct54 => kernel_rfl)
                  refine Lib.wp_append_run _ _ _ _ _ rfl (.slice BL k dL) (.slice (some ⟨p, 0, none⟩) 1 1) ?sa19 ?sb20 (.slice BN (k + 1) dN) w2 ?sc21 ?_
                  case sa19 => rfl
                  case sb20 => rfl
                  case sc21 => (have h0 := HRUN.out; show (Builtin.append_ #[_, _] 60 _).run Tryd.prog _ = _; exact h0)
                  refine hK10 _ _ trivial (fun hS10 => ?_)
                  clear HRUN HC3 HC5 HC7 hK10 K10 hS9
                  clear HL
                  revert hS10
                  revert HFIN
                  revert w2
                  revert dN
                  revert BN
                  revert p
                  revert s7
                  revert m7
                  revert m5
                  revert m3
                  exact tail 0
                case hjt72 =>
                  go_simp
                  refine (rwide_any HL.out.gs.rq).mono ?_
                  rintro e w3 ⟨m3, s3, rfl, hn, hst, hr, hsv⟩
                  replace HL := Lib.hid (HL.out.call hr hsv)
                  have HC3 := Lib.hid hst
                  refine hK3 _ _ trivial (fun hS3 => ?_)
                  clear hn hst hr hsv hK3 K3 hS
                  refine held_two (i := 1) (j := 5) (oi := ?oit71) (oj := ?ojt71) (by kernel_rfl) ?ait71 ?ajt71 ?cit71 ?cjt71 (fun K1 hK1 => ?hit71) (fun K5 hK5 => ?hjt71)
                  (case ait71 => (simp only [List.getElem?_toArray, List.getElem?_cons_zero, List.getElem?_cons_succ]; rfl))
                  (case ajt71 => (simp only [List.getElem?_toArray, List.getElem?_cons_zero, List.getElem?_cons_succ]; rfl))
                  (case cit71 => kernel_rfl)
                  (case cjt71 => kernel_rfl)
                  case hit71 =>
                    have k0 := HCF.out _ _ HL.out
                    go_simp
                    refine hK1 _ _ trivial (fun hS1 => ?_)
                    clear k0 hK1 K1 hS3
                    refine held_one (i := 5) (oi := ?ot55) (by kernel_rfl) ?at55 ?ct55 (fun K5 hK5 => ?_)
                    (case at55 => (simp only [List.getElem?_toArray, List.getElem?_cons_zero, List.getElem?_cons_succ]; rfl))
                    (case ct55 => kernel_rfl)
                    go_simp
                    refine (rwide_any HL.out.gs.rq).mono ?_
                    rintro e w5 ⟨m5, s5, rfl, hn, hst, hr, hsv⟩
                    replace HL := Lib.hid (HL.out.call hr hsv)
                    have HC5 := Lib.hid hst
                    refine hK5 _ _ trivial (fun hS5 => ?_)
                    clear hn hst hr hsv hK5 K5 hS1
                    refine held_one (i := 7) (oi := ?ot56) (by kernel_rfl) ?at56 ?ct56 (fun K7 hK7 => ?_)
                    (case at56 => (simp only [List.getElem?_toArray, List.getElem?_cons_zero, List.getElem?_cons_succ]; rfl))
                    (case ct56 => kernel_rfl)
                    go_simp
                    refine (rwide_any HL.out.gs.rq).mono ?_
                    rintro e w7 ⟨m7, s7, rfl, hn, hst, hr, hsv⟩
                    replace HL := Lib.hid (HL.out.call hr hsv)
                    have HC7 := Lib.hid hst
                    refine hK7 _ _ trivial (fun hS7 => ?_)
                    clear hn hst hr hsv hK7 K7 hS5
                    (refine held_take (i := 8) (oi := ?ot57) (v := .agg (vec 3 (devE (⟨(m3 : Int), (m5 : Int), (m7 : Int)⟩ : De)))) ?at57 (by kernel_rfl) (by kernel_rfl) (by kernel_rfl) ?bt57 ?ct57 ?dt57 (by assumption) ?rt57; (case at57 => (simp only [List.getElem?_toArray, List.getElem?_cons_zero, List.getElem?_cons_succ]; rfl)); (case bt57 => exact fun _ _ _ h => h); (case ct57 => kernel_rfl); (case dt57 => (intro W hW; exact exec_build 110 _ rfl (vec 3 (devE (⟨(m3 : Int), (m5 : Int), (m7 : Int)⟩ : De))) (by kernel_rfl) W)); (case' rt57 => simp only [Act.put, List.setIfInBounds_toArray, List.set_cons_zero, List.set_cons_succ]))
                    refine held_one (i := 9) (oi := ?ot58) (by kernel_rfl) ?at58 ?ct58 (fun K9 hK9 => ?_)
                    (case at58 => (simp only [List.getElem?_toArray, List.getElem?_cons_zero, List.getElem?_cons_succ]; rfl))
                    (case ct58 => kernel_rfl)
                    refine ow_bs1 60 _ rfl (.agg (vec 3 (devE (⟨(m3 : Int), (m5 : Int), (m7 : Int)⟩ : De)))) rfl _ (build_device (⟨(m3 : Int), (m5 : Int), (m7 : Int)⟩ : De) _) ?_
                    intro p y0 hp hy
                    obtain ⟨BN, dN, w2, hrun, hls⟩ := HL.out.app Tryd.underlying60 info_device rfl (by decide) (fun x i hi => devE_one x _ i hi) (⟨(m3 : Int), (m5 : Int), (m7 : Int)⟩ : De) (by have := HLK.out; omega) (by decide) k HLK.out.1
                    rw [← hp] at hrun
                    rw [← hy] at hrun
                    replace HL := Lib.hid (HL.out.on (W' := y0) (by rw [hy]; exact (Below.refl _ _).alloc (Nat.le_refl _) _))
                    have HRUN := Lib.hid hrun
                    have HFIN := Lib.hid (And.intro (show w2.cell? ⟨u, 76, none⟩ = some (.slice BL k dL) from (hls.gs.cell 76 (by decide)).1) (And.intro (hls.gs.cell 76 (by decide)).2 (And.intro (show LsS 110 3 devE g A c b u WA (w2.setCell ⟨u, 76, none⟩ (.slice BN (k + 1) dN)) s7 ⟨⟨s1, mu, (n3 : Int), (n4 : Int), (n5 : Int), (n6 : Int), (n7 : Int), lk, l0, l ++ [(⟨(m3 : Int), (m5 : Int), (m7 : Int)⟩ : De)], [], []⟩, v0, .slice BN (k + 1) dN, nilV, nilV⟩ (.slice BN (k + 1) dN) (l ++ [(⟨(m3 : Int), (m5 : Int), (m7 : Int)⟩ : De)]) from hls.set 76 _ (upd_d _ _ _)) (show StepP devC b s (⟨(m3 : Int), (m5 : Int), (m7 : Int)⟩ : De) s7 from step_dev HC3.out HC5.out HC7.out))))
                    refine hK9 _ _ trivial (fun hS9 => ?_)
                    clear hp hy hrun hls hK9 K9 hS7
                    refine held_one (i := 10) (oi := ?ot59) (by kernel_rfl) ?at59 ?ct59 (fun K10 hK10 => ?_)
                    (case at59 => (simp only [List.getElem?_toArray, List.getElem?_cons_zero, List.getElem?_cons_succ]; rfl))
                    (case ct59 => kernel_rfl)
                    refine Lib.wp_append_run _ _ _ _ _ rfl (.slice BL k dL) (.slice (some ⟨p, 0, none⟩) 1 1) ?sa22 ?sb23 (.slice BN (k + 1) dN) w2 ?sc24 ?_
                    case sa22 => rfl
                    case sb23 => rfl
                    case sc24 => (have h0 := HRUN.out; show (Builtin.append_ #[_, _] 60 _).run Tryd.prog _ = _; exact h0)
                    refine hK10 _ _ trivial (fun hS10 => ?_)
                    clear HRUN HC3 HC5 HC7 hK10 K10 hS9
                    clear HL
                    revert hS10
                    revert HFIN
                    revert w2
                    revert dN
                    revert BN
                    revert p
                    revert s7
                    revert m7
                    revert m5
                    revert m3
                    exact tail 0
                  case hjt71 =>
                    go_simp
                    refine (rwide_any HL.out.gs.rq).mono ?_
                    rintro e w5 ⟨m5, s5, rfl, hn, hst, hr, hsv⟩
                    replace HL := Lib.hid (HL.out.call hr hsv)
                    have HC5 := Lib.hid hst
                    refine hK5 _ _ trivial (fun hS5 => ?_)
                    clear hn hst hr hsv hK5 K5 hS3
                    refine held_two (i := 1) (j := 7) (oi := ?oit70) (oj := ?ojt70) (by kernel_rfl) ?ait70 ?ajt70 ?cit70 ?cjt70 (fun K1 hK1 => ?hit70) (fun K7 hK7 => ?hjt70)
                    (case ait70 => (simp only [List.getElem?_toArray, List.getElem?_cons_zero, List.getElem?_cons_succ]; rfl))
                    (case ajt70 => (simp only [List.getElem?_toArray, List.getElem?_cons_zero, List.getElem?_cons_succ]; rfl))
                    (case cit70 => kernel_rfl)
                    (case cjt70 => kernel_rfl)
                    case hit70 =>
                      have k0 := HCF.out _ _ HL.out
                      go_simp
                      refine hK1 _ _ trivial (fun hS1 => ?_)
                      clear k0 hK1 K1 hS5
                      refine held_one (i := 7) (oi := ?ot60) (by kernel_rfl) ?at60 ?ct60 (fun K7 hK7 => ?_)
                      (case at60 => (simp only [List.getElem?_toArray, List.getElem?_cons_zero, List.getElem?_cons_succ]; rfl))
                      (case ct60 => kernel_rfl)
                      go_simp
                      refine (rwide_any HL.out.gs.rq).mono ?_
                      rintro e w7 ⟨m7, s7, rfl, hn, hst, hr, hsv⟩
                      replace HL := Lib.hid (HL.out.call hr hsv)
                      have HC7 := Lib.hid hst
                      refine hK7 _ _ trivial (fun hS7 => ?_)
                      clear hn hst hr hsv hK7 K7 hS1
                      (refine held_take (i := 8) (oi := ?ot61) (v := .agg (vec 3 (devE (⟨(m3 : Int), (m5 : Int), (m7 : Int)⟩ : De)))) ?at61 (by kernel_rfl) (by kernel_rfl) (by kernel_rfl) ?bt61 ?ct61 ?dt61 (by assumption) ?rt61; (case at61 => (simp only [List.getElem?_toArray, List.getElem?_cons_zero, List.getElem?_cons_succ]; rfl)); (case bt61 => exact fun _ _ _ h => h); (case ct61 => kernel_rfl); (case dt61 => (intro W hW; exact exec_build 110 _ rfl (vec 3 (devE (⟨(m3 : Int), (m5 : Int), (m7 : Int)⟩ : De))) (by kernel_rfl) W)); (case' rt61 => simp only [Act.put, List.setIfInBounds_toArray, List.set_cons_zero, List.set_cons_succ]))
                      refine held_one (i := 9) (oi := ?ot62) (by kernel_rfl) ?at62 ?ct62 (fun K9 hK9 => ?_)
                      (case at62 => (simp only [List.getElem?_toArray, List.getElem?_cons_zero, List.getElem?_cons_succ]; rfl))
                      (case ct62 => kernel_rfl)
                      refine ow_bs1 60 _ rfl (.agg (vec 3 (devE (⟨(m3 : Int), (m5 : Int), (m7 : Int)⟩ : De)))) rfl _ (build_device (⟨(m3 : Int), (m5 : Int), (m7 : Int)⟩ : De) _) ?_
                      intro p y0 hp hy
                      obtain ⟨BN, dN, w2, hrun, hls⟩ := HL.out.app Tryd.underlying60 info_device rfl (by decide) (fun x i hi => devE_one x _ i hi) (⟨(m3 : Int), (m5 : Int), (m7 : Int)⟩ : De) (by have := HLK.out; omega) (by decide) k HLK.out.1
                      rw [← hp] at hrun
                      rw [← hy] at hrun
                      replace HL := Lib.hid (HL.out.on (W' := y0) (by rw [hy]; exact (Below.refl _ _).alloc (Nat.le_refl _) _))
                      have HRUN := Lib.hid hrun
                      have HFIN := Lib.hid (And.intro (show w2.cell? ⟨u, 76, none⟩ = some (.slice BL k dL) from (hls.gs.cell 76 (by decide)).1) (And.intro (hls.gs.cell 76 (by decide)).2 (And.intro (show LsS 110 3 devE g A c b u WA (w2.setCell ⟨u, 76, none⟩ (.slice BN (k + 1) dN)) s7 ⟨⟨s1, mu, (n3 : Int), (n4 : Int), (n5 : Int), (n6 : Int), (n7 : Int), lk, l0, l ++ [(⟨(m3 : Int), (m5 : Int), (m7 : Int)⟩ : De)], [], []⟩, v0, .slice BN (k + 1) dN, nilV, nilV⟩ (.slice BN (k + 1) dN) (l ++ [(⟨(m3 : Int), (m5 : Int), (m7 : Int)⟩ : De)]) from hls.set 76 _ (upd_d _ _ _)) (show StepP devC b s (⟨(m3 : Int), (m5 : Int), (m7 : Int)⟩ : De) s7 from step_dev HC3.out HC5.out HC7.out))))
                      refine hK9 _ _ trivial (fun hS9 => ?_)
                      clear hp hy hrun hls hK9 K9 hS7
                      refine held_one (i := 10) (oi := ?ot63) (by kernel_rfl) ?at63 ?ct63 (fun K10 hK10 => ?_)
                      (case at63 => (simp only [List.getElem?_toArray, List.getElem?_cons_zero, List.getElem?_cons_succ]; rfl))
                      (case ct63 => kernel_rfl)
                      refine Lib.wp_append_run _ _ _ _ _ rfl (.slice BL k dL) (.slice (some ⟨p, 0, none⟩) 1 1) ?sa25 ?sb26 (.slice BN (k + 1) dN) w2 ?sc27 ?_
                      case sa25 => rfl
                      case sb26 => rfl
                      case sc27 => (have h0 := HRUN.out; show (Builtin.append_ #[_, _] 60 _).run Tryd.prog _ = _; exact h0)
                      refine hK10 _ _ trivial (fun hS10 => ?_)
                      clear HRUN HC3 HC5 HC7 hK10 K10 hS9
                      clear HL
                      revert hS10
                      revert HFIN
                      revert w2
                      revert dN
                      revert BN
                      revert p
                      revert s7
                      revert m7
                      revert m5
                      revert m3
                      exact tail 0
                    case hjt70 =>
                      go_simp
                      refine (rwide_any HL.out.gs.rq).mono ?_
                      rintro e w7 ⟨m7, s7, rfl, hn, hst, hr, hsv⟩
                      replace HL := Lib.hid (HL.out.call hr hsv)
                      have HC7 := Lib.hid hst
                      refine hK7 _ _ trivial (fun hS7 => ?_)
                      clear hn hst hr hsv hK7 K7 hS5
                      (refine held_take (i := 8) (oi := ?ot64) (v := .agg (vec 3 (devE (⟨(m3 : Int), (m5 : Int), (m7 : Int)⟩ : De)))) ?at64 (by kernel_rfl) (by kernel_rfl) (by kernel_rfl) ?bt64 ?ct64 ?dt64 (by assumption) ?rt64; (case at64 => (simp only [List.getElem?_toArray, List.getElem?_cons_zero, List.getElem?_cons_succ]; rfl)); (case bt64 => exact fun _ _ _ h => h); (case ct64 => kernel_rfl); (case dt64 => (intro W hW; exact exec_build 110 _ rfl (vec 3 (devE (⟨(m3 : Int), (m5 : Int), (m7 : Int)⟩ : De))) (by kernel_rfl) W)); (case' rt64 => simp only [Act.put, List.setIfInBounds_toArray, List.set_cons_zero, List.set_cons_succ]))
                      refine held_two (i := 1) (j := 9) (oi := ?oit69) (oj := ?ojt69) (by kernel_rfl) ?ait69 ?ajt69 ?cit69 ?cjt69 (fun K1 hK1 => ?hit69) (fun K9 hK9 => ?hjt69)
                      (case ait69 => (simp only [List.getElem?_toArray, List.getElem?_cons_zero, List.getElem?_cons_succ]; rfl))
                      (case ajt69 => (simp only [List.getElem?_toArray, List.getElem?_cons_zero, List.getElem?_cons_succ]; rfl))
                      (case cit69 => kernel_rfl)
                      (case cjt69 => kernel_rfl)
                      case hit69 =>
                        have k0 := HCF.out _ _ HL.out
                        go_simp
                        refine hK1 _ _ trivial (fun hS1 => ?_)
                        clear k0 hK1 K1 hS7
                        refine held_one (i := 9) (oi := ?ot65) (by kernel_rfl) ?at65 ?ct65 (fun K9 hK9 => ?_)
                        (case at65 => (simp only [List.getElem?_toArray, List.getElem?_cons_zero, List.getElem?_cons_succ]; rfl))
                        (case ct65 => kernel_rfl)
                        refine ow_bs1 60 _ rfl (.agg (vec 3 (devE (⟨(m3 : Int), (m5 : Int), (m7 : Int)⟩ : De)))) rfl _ (build_device (⟨(m3 : Int), (m5 : Int), (m7 : Int)⟩ : De) _) ?_
                        intro p y0 hp hy
                        obtain ⟨BN, dN, w2, hrun, hls⟩ := HL.out.app Tryd.underlying60 info_device rfl (by decide) (fun x i hi => devE_one x _ i hi) (⟨(m3 : Int), (m5 : Int), (m7 : Int)⟩ : De) (by have := HLK.out; omega) (by decide) k HLK.out.1
                        rw [← hp] at hrun
                        rw [← hy] at hrun
                        replace HL := Lib.hid (HL.out.on (W' := y0) (by rw [hy]; exact (Below.refl _ _).alloc (Nat.le_refl _) _))
                        have HRUN := Lib.hid hrun
                        have HFIN := Lib.hid (And.intro (show w2.cell? ⟨u, 76, none⟩ = some (.slice BL k dL) from (hls.gs.cell 76 (by decide)).1) (And.intro (hls.gs.cell 76 (by decide)).2 (And.intro (show LsS 110 3 devE g A c b u WA (w2.setCell ⟨u, 76, none⟩ (.slice BN (k + 1) dN)) s7 ⟨⟨s1, mu, (n3 : Int), (n4 : Int), (n5 : Int), (n6 : Int), (n7 : Int), lk, l0, l ++ [(⟨(m3 : Int), (m5 : Int), (m7 : Int)⟩ : De)], [], []⟩, v0, .slice BN (k + 1) dN, nilV, nilV⟩ (.slice BN (k + 1) dN) (l ++ [(⟨(m3 : Int), (m5 : Int), (m7 : Int)⟩ : De)]) from hls.set 76 _ (upd_d _ _ _)) (show StepP devC b s (⟨(m3 : Int), (m5 : Int), (m7 : Int)⟩ : De) s7 from step_dev HC3.out HC5.out HC7.out))))
                        refine hK9 _ _ trivial (fun hS9 => ?_)
                        clear hp hy hrun hls hK9 K9 hS1
                        refine held_one (i := 10) (oi := ?ot66) (by kernel_rfl) ?at66 ?ct66 (fun K10 hK10 => ?_)
                        (case at66 => (simp only [List.getElem?_toArray, List.getElem?_cons_zero, List.getElem?_cons_succ]; rfl))
                        (case ct66 => kernel_rfl)
                        refine Lib.wp_append_run _ _ _ _ _ rfl (.slice BL k dL) (.slice (some ⟨p, 0, none⟩) 1 1) ?sa28 ?sb29 (.slice BN (k + 1) dN) w2 ?sc30 ?_
                        case sa28 => rfl
                        case sb29 => rfl
                        case sc30 => (have h0 := HRUN.out; show (Builtin.append_ #[_, _] 60 _).run Tryd.prog _ = _; exact h0)
                        refine hK10 _ _ trivial (fun hS10 => ?_)
                        clear HRUN HC3 HC5 HC7 hK10 K10 hS9
                        clear HL
                        revert hS10
                        revert HFIN
                        revert w2
                        revert dN
                        revert BN
                        revert p
                        revert s7
                        revert m7
                        revert m5
                        revert m3
                        exact tail 0
                      case hjt69 =>
                        refine ow_bs1 60 _ rfl (.agg (vec 3 (devE (⟨(m3 : Int), (m5 : Int), (m7 : Int)⟩ : De)))) rfl _ (build_device (⟨(m3 : Int), (m5 : Int), (m7 : Int)⟩ : De) _) ?_
                        intro p y0 hp hy
                        obtain ⟨BN, dN, w2, hrun, hls⟩ := HL.out.app Tryd.underlying60 info_device rfl (by decide) (fun x i hi => devE_one x _ i hi) (⟨(m3 : Int), (m5 : Int), (m7 : Int)⟩ : De) (by have := HLK.out; omega) (by decide) k HLK.out.1
                        rw [← hp] at hrun
                        rw [← hy] at hrun
                        replace HL := Lib.hid (HL.out.on (W' := y0) (by rw [hy]; exact (Below.refl _ _).alloc (Nat.le_refl _) _))
                        have HRUN := Lib.hid hrun
                        have HFIN := Lib.hid (And.intro (show w2.cell? ⟨u, 76, none⟩ = some (.slice BL k dL) from (hls.gs.cell 76 (by decide)).1) (And.intro (hls.gs.cell 76 (by decide)).2 (And.intro (show LsS 110 3 devE g A c b u WA (w2.setCell ⟨u, 76, none⟩ (.slice BN (k + 1) dN)) s7 ⟨⟨s1, mu, (n3 : Int), (n4 : Int), (n5 : Int), (n6 : Int), (n7 : Int), lk, l0, l ++ [(⟨(m3 : Int), (m5 : Int), (m7 : Int)⟩ : De)], [], []⟩, v0, .slice BN (k + 1) dN, nilV, nilV⟩ (.slice BN (k + 1) dN) (l ++ [(⟨(m3 : Int), (m5 : Int), (m7 : Int)⟩ : De)]) from hls.set 76 _ (upd_d _ _ _)) (show StepP devC b s (⟨(m3 : Int), (m5 : Int), (m7 : Int)⟩ : De) s7 from step_dev HC3.out HC5.out HC7.out))))
                        refine hK9 _ _ trivial (fun hS9 => ?_)
                        clear hp hy hrun hls hK9 K9 hS7
                        refine held_one (i := 1) (oi := ?ot67) (by kernel_rfl) ?at67 ?ct67 (fun K1 hK1 => ?_)
                        (case at67 => (simp only [List.getElem?_toArray, List.getElem?_cons_zero, List.getElem?_cons_succ]; rfl))
                        (case ct67 => kernel_rfl)
                        have k0 := HCF.out _ _ HL.out
                        go_simp
                        refine hK1 _ _ trivial (fun hS1 => ?_)
                        clear k0 hK1 K1 hS9
                        refine held_one (i := 10) (oi := ?ot68) (by kernel_rfl) ?at68 ?ct68 (fun K10 hK10 => ?_)
                        (case at68 => (simp only [List.getElem?_toArray, List.getElem?_cons_zero, List.getElem?_cons_succ]; rfl))
                        (case ct68 => kernel_rfl)
                        refine Lib.wp_append_run _ _ _ _ _ rfl (.slice BL k dL) (.slice (some ⟨p, 0, none⟩) 1 1) ?sa31 ?sb32 (.slice BN (k + 1) dN) w2 ?sc33 ?_
                        case sa31 => rfl
                        case sb32 => rfl
                        case sc33 => (have h0 := HRUN.out; show (Builtin.append_ #[_, _] 60 _).run Tryd.prog _ = _; exact h0)
                        refine hK10 _ _ trivial (fun hS10 => ?_)
                        clear HRUN HC3 HC5 HC7 hK10 K10 hS1
                        clear HL
                        revert hS10
                        revert HFIN
                        revert w2
                        revert dN
                        revert BN
                        revert p
                        revert s7
                        revert m7
                        revert m5
                        revert m3
                        exact tail 0
              case t =>
                intro m3 m5 m7 s7 p BN dN w2 HFIN hS10
                (refine held_take (i := 11) (oi := ?ot73) (v := ?vt73) ?at73 (by kernel_rfl) (by kernel_rfl) (by kernel_rfl) ?bt73 ?ct73 ?dt73 (by assumption) ?rt73; (case at73 => (simp only [List.getElem?_toArray, List.getElem?_cons_zero, List.getElem?_cons_succ]; rfl)); (case bt73 => exact fun _ _ _ h => h); (case ct73 => kernel_rfl); (case dt73 => (intro W hW; clear hW; go_simp; (try with_reducible rfl))); (case' rt73 => simp only [Act.put, List.setIfInBounds_toArray, List.set_cons_zero, List.set_cons_succ]))
                refine held_one (i := 12) (oi := ?ot74) (by kernel_rfl) ?at74 ?ct74 (fun K12 hK12 => ?_)
                (case at74 => (simp only [List.getElem?_toArray, List.getElem?_cons_zero, List.getElem?_cons_succ]; rfl))
                (case ct74 => kernel_rfl)
                have k3 := HFIN.out.1
                have k4 := HFIN.out.2.1
                go_simp
                refine hK12 _ _ trivial (fun hS12 => ?_)
                clear k3 k4 hK12 K12 hS10
                refine wpAnyH_done (by kernel_rfl) ?_ _
                clear hS12
                obtain ⟨WN, hWN⟩ : ∃ W, W = w2.setCell ⟨u, 76, none⟩ (.slice BN (k + 1) dN) := ⟨_, rfl⟩
                have HFN := Lib.hid HFIN.out.2.2
                rw [← hWN] at HFN ⊢
                clear hWN HFIN
                go_wp2_with fail
                go_roundw
                case rel => exact ⟨k + 1, BN, dN, l ++ [(⟨(m3 : Int), (m5 : Int), (m7 : Int)⟩ : De)], s7, by have := HLT.out; omega, by go_num, Lib.hid ⟨by rw [List.length_append, HLK.out.1]; rfl, HFN.out.1, HST.out.snoc HE0.out HFN.out.2⟩⟩
                case measure => have := HLT.out; simp [intOf]; omega
            · have z0 : ((E : Int) == 0) = false := by simp; omega
              have z1 : ¬ (E : Int) = 0 := by omega
              have HNE : Hid (s.err ≠ none) := Lib.hid (erN_some (by rw [← HEE.out]; exact h0))
              clear h0
              go_wp2_with fail
              go_meet
              exact ⟨_, l, s, Lib.hid ⟨HI.out.2.1, HI.out.2.2.ends (Or.inr ⟨hk, HNE.out⟩)⟩⟩
          · have hki : ¬ (k : Int) < (n1 : Int) := by omega
            have HKE : Hid (k = n1) := Lib.hid (by omega)
            go_wp2_with fail
            go_meet
            exact ⟨_, l, s, Lib.hid ⟨HI.out.2.1, HI.out.2.2.ends (Or.inl HKE.out)⟩⟩
      obtain ⟨v1, l1, sC, HH⟩ := hcut
      obtain ⟨WB, hwx⟩ : ∃ W : World, W = wc := ⟨_, rfl⟩
      rw [← hwx] at HH
      (try rw [← hwx])
      clear hwx
      have HL1 := Lib.hid HH.out.2
      have HN7 := Lib.hid (fun Y (hY : FT g u WB Y) => HN7.out Y (HH.out.1.gs.ft.trans hY))
      have HFT2 : Hid (FT g u W1 WB) := Lib.hid (HFT2.out.trans HH.out.1.gs.ft)
      have HG := Lib.hid HH.out.1.gs.base
      have HO1 : Hid (OwnE 110 3 devE WB (u + 1) v1 l1) := Lib.hid (HH.out.1.own.low HH.out.1.gs.uv)
      have HO0 := Lib.hid (HO0.out.ft HH.out.1.gs.ft (Nat.lt_succ_of_lt HG.out.gu) (Nat.lt_succ_self _))
      have HBD := Lib.hid (fun (h : sC.err = none) => HBD.out (HL1.out.on h).1)
      clear HH
      go_upto_block 6 with fail
      go_cut [13] from 140 to 167 (fun _ wx => ∃ (v : Value) (l : List Ir) (s : Rs), Hid (LsS 112 3 irqE g A c b u WB wx s ⟨⟨s1, mu, (n3 : Int), (n4 : Int), (n5 : Int), (n6 : Int), (n7 : Int), lk, l0, l1, l, []⟩, v0, v1, v, nilV⟩ (v) l ∧ StepP (listC irqC n2') b sC l s))
      case first =>
        go_wp2_with fail
        go_loopw [13] (fun j Z1 => ∃ (k : Nat) (B : Option Addr) (d : Nat) (l : List Ir) (s : Rs), (k ≤ n2' ∧ k ≤ 64) ∧ j = .int .i64 k ∧ Hid (l.length = k ∧ LsS 112 3 irqE g A c b u WB Z1 s ⟨⟨s1, mu, (n3 : Int), (n4 : Int), (n5 : Int), (n6 : Int), (n7 : Int), lk, l0, l1, l, []⟩, v0, v1, (.slice B k d), nilV⟩ (.slice B k d) l ∧ StepP (listC irqC k) b sC l s)) (fun j _ => n2' - (intOf j).toNat)
        case atStart => exact ⟨0, none, 0, [], sC, ⟨Nat.zero_le _, Nat.zero_le _⟩, rfl, Lib.hid ⟨rfl, ⟨HG.out, OwnE.nil _ _⟩, list_none _ _ _⟩⟩
        case round =>
          obtain ⟨k, BL, dL, l, s, ⟨hk, hk2⟩, rfl, HI⟩ := hrel
          obtain ⟨wk, hwk⟩ : ∃ W : World, W = wr := ⟨_, rfl⟩
          subst hwk
          have c7 := (HN7.out wk HI.out.2.1.gs.ft).2.2.1
          have ce := HI.out.2.1.gs.rq.at2
          obtain ⟨E, hE⟩ : ∃ E, E = erN s.err := ⟨_, rfl⟩
          rw [← hE] at ce
          have HEE := Lib.hid hE
          clear hE
          by_cases hlt : k < n2'
          · have hki : (k : Int) < (n2' : Int) := by omega
            by_cases h0 : E = 0
            · subst h0
              have z0 : (((0 : Nat) : Int) == 0) = true := rfl
              have HE0 : Hid (s.err = none) := Lib.hid (erN_zero HI.out.2.1.gs.rq.err HEE.out.symm)
              have HLT : Hid (k + 1 ≤ n2' ∧ k + 1 ≤ 64) := Lib.hid (by
                have h9 : sC.err = none := (HI.out.2.2.on HE0.out).1
                have := HBD.out h9
                omega)
              have HLK : Hid (l.length = k ∧ k ≤ 64) := Lib.hid ⟨HI.out.1, hk2⟩
              have HST := Lib.hid HI.out.2.2
              have HCF : Hid (∀ (Z : World) (s' : Rs), LsS 112 3 irqE g A c b u WB Z s' ⟨⟨s1, mu, (n3 : Int), (n4 : Int), (n5 : Int), (n6 : Int), (n7 : Int), lk, l0, l1, l, []⟩, v0, v1, (.slice BL k dL), nilV⟩ (.slice BL k dL) l → Z.cell? ⟨u, 77, none⟩ = some (.slice BL k dL)) := Lib.hid (fun Z s' hz => (hz.gs.cell 77 (by decide)).1)
              have hk9 : k ≤ 64 := by omega
              clear hlt hk hk2
              go_upto_region 34 with fail
              clear c7 ce z0
              obtain ⟨Y0, hY0⟩ : ∃ Y, Y = wk.drew := ⟨_, rfl⟩
              have HL : Hid (LsS 112 3 irqE g A c b u WB Y0 s ⟨⟨s1, mu, (n3 : Int), (n4 : Int), (n5 : Int), (n6 : Int), (n7 : Int), lk, l0, l1, l, []⟩, v0, v1, (.slice BL k dL), nilV⟩ (.slice BL k dL) l) := Lib.hid (by rw [hY0]; exact HI.out.2.1.on ⟨rfl, rfl, rfl, Nat.le_refl _, fun _ _ => rfl⟩)
              have HY0 := Lib.hid hY0
              clear hY0 HI
              refine wp_region_held_drew (S := fun _ => True) (by kernel_rfl) trivial (fun hS => ?_)
              rw [← HY0.out]
              revert hS
              apply meet_of
              case h =>
                intro tail hS
                (refine held_take (i := 0) (oi := ?ot75) (v := ?vt75) ?at75 (by kernel_rfl) (by kernel_rfl) (by kernel_rfl) ?bt75 ?ct75 ?dt75 (by assumption) ?rt75; (case at75 => (simp only [List.getElem?_toArray, List.getElem?_cons_zero]; rfl)); (case bt75 => exact fun _ _ _ h => h); (case ct75 => kernel_rfl); (case dt75 => (intro W hW; clear hW; go_simp; (try with_reducible rfl))); (case' rt75 => simp only [Act.put, List.setIfInBounds_toArray, List.set_cons_zero, List.set_cons_succ]))
                (refine held_take (i := 2) (oi := ?ot76) (v := ?vt76) ?at76 (by kernel_rfl) (by kernel_rfl) (by kernel_rfl) ?bt76 ?ct76 ?dt76 (by assumption) ?rt76; (case at76 => (simp only [List.getElem?_toArray, List.getElem?_cons_zero, List.getElem?_cons_succ]; rfl)); (case bt76 => exact fun _ _ _ h => h); (case ct76 => kernel_rfl); (case dt76 => (intro W hW; clear hW; go_simp; (try with_reducible rfl))); (case' rt76 => simp only [Act.put, List.setIfInBounds_toArray, List.set_cons_zero, List.set_cons_succ]))
                (refine held_take (i := 5) (oi := ?ot77) (v := ?vt77) ?at77 (by kernel_rfl) (by kernel_rfl) (by kernel_rfl) ?bt77 ?ct77 ?dt77 (by assumption) ?rt77; (case at77 => (simp only [List.getElem?_toArray, List.getElem?_cons_zero, List.getElem?_cons_succ]; rfl)); (case bt77 => exact fun _ _ _ h => h); (case ct77 => kernel_rfl); (case dt77 => (intro W hW; clear hW; go_simp; (try with_reducible rfl))); (case' rt77 => simp only [Act.put, List.setIfInBounds_toArray, List.set_cons_zero, List.set_cons_succ]))
                (refine held_take (i := 8) (oi := ?ot78) (v := ?vt78) ?at78 (by kernel_rfl) (by kernel_rfl) (by kernel_rfl) ?bt78 ?ct78 ?dt78 (by assumption) ?rt78; (case at78 => (simp only [List.getElem?_toArray, List.getElem?_cons_zero, List.getElem?_cons_succ]; rfl)); (case bt78 => exact fun _ _ _ h => h); (case ct78 => kernel_rfl); (case dt78 => (intro W hW; clear hW; go_simp; (try with_reducible rfl))); (case' rt78 => simp only [Act.put, List.setIfInBounds_toArray, List.set_cons_zero, List.set_cons_succ]))
                refine held_two (i := 1) (j := 3) (oi := ?oit111) (oj := ?ojt111) (by kernel_rfl) ?ait111 ?ajt111 ?cit111 ?cjt111 (fun K1 hK1 => ?hit111) (fun K3 hK3 => ?hjt111)
                (case ait111 => (simp only [List.getElem?_toArray, List.getElem?_cons_zero, List.getElem?_cons_succ]; rfl))
                (case ajt111 => (simp only [List.getElem?_toArray, List.getElem?_cons_zero, List.getElem?_cons_succ]; rfl))
                (case cit111 => kernel_rfl)
                (case cjt111 => kernel_rfl)
                case hit111 =>
                  have k0 := HCF.out _ _ HL.out
                  go_simp
                  refine hK1 _ _ trivial (fun hS1 => ?_)
                  clear k0 hK1 K1 hS
                  refine held_one (i := 3) (oi := ?ot79) (by kernel_rfl) ?at79 ?ct79 (fun K3 hK3 => ?_)
                  (case at79 => (simp only [List.getElem?_toArray, List.getElem?_cons_zero, List.getElem?_cons_succ]; rfl))
                  (case ct79 => kernel_rfl)
                  go_simp
                  refine (rnum_any 2 65535 144 (by decide) (by decide) (by decide) HL.out.gs.rq).mono ?_
                  rintro e w3 ⟨m3, s3, rfl, hn, hst, hr, hsv⟩
                  replace HL := Lib.hid (HL.out.call hr hsv)
                  have HC3 := Lib.hid hst
                  have hw3 : IntKind.i64.wrap (m3 : Int) = (m3 : Int) := by rw [IntKind.wrap_i64]; have := lt2 hn; omega
                  refine hK3 _ _ trivial (fun hS3 => ?_)
                  clear hn hst hr hsv hK3 K3 hS1
                  (refine held_take (i := 4) (oi := ?ot80) (v := .int .i64 (m3 : Int)) ?at80 (by kernel_rfl) (by kernel_rfl) (by kernel_rfl) ?bt80 ?ct80 ?dt80 (by assumption) ?rt80; (case at80 => (simp only [List.getElem?_toArray, List.getElem?_cons_zero, List.getElem?_cons_succ]; rfl)); (case bt80 => exact fun _ _ _ h => h); (case ct80 => kernel_rfl); (case dt80 => (intro W hW; clear hW; go_simp; (try with_reducible rfl))); (case' rt80 => simp only [Act.put, List.setIfInBounds_toArray, List.set_cons_zero, List.set_cons_succ]))
                  refine held_one (i := 6) (oi := ?ot81) (by kernel_rfl) ?at81 ?ct81 (fun K6 hK6 => ?_)
                  (case at81 => (simp only [List.getElem?_toArray, List.getElem?_cons_zero, List.getElem?_cons_succ]; rfl))
                  (case ct81 => kernel_rfl)
                  go_simp
                  refine (rnum_any 2 65535 144 (by decide) (by decide) (by decide) HL.out.gs.rq).mono ?_
                  rintro e w6 ⟨m6, s6, rfl, hn, hst, hr, hsv⟩
                  replace HL := Lib.hid (HL.out.call hr hsv)
                  have HC6 := Lib.hid hst
                  have hw6 : IntKind.i64.wrap (m6 : Int) = (m6 : Int) := by rw [IntKind.wrap_i64]; have := lt2 hn; omega
                  refine hK6 _ _ trivial (fun hS6 => ?_)
                  clear hn hst hr hsv hK6 K6 hS3
                  (refine held_take (i := 7) (oi := ?ot82) (v := .int .i64 (m6 : Int)) ?at82 (by kernel_rfl) (by kernel_rfl) (by kernel_rfl) ?bt82 ?ct82 ?dt82 (by assumption) ?rt82; (case at82 => (simp only [List.getElem?_toArray, List.getElem?_cons_zero, List.getElem?_cons_succ]; rfl)); (case bt82 => exact fun _ _ _ h => h); (case ct82 => kernel_rfl); (case dt82 => (intro W hW; clear hW; go_simp; (try with_reducible rfl))); (case' rt82 => simp only [Act.put, List.setIfInBounds_toArray, List.set_cons_zero, List.set_cons_succ]))
                  refine held_one (i := 9) (oi := ?ot83) (by kernel_rfl) ?at83 ?ct83 (fun K9 hK9 => ?_)
                  (case at83 => (simp only [List.getElem?_toArray, List.getElem?_cons_zero, List.getElem?_cons_succ]; rfl))
                  (case ct83 => kernel_rfl)
                  go_simp
                  refine (rnum_any 4 1 144 (by decide) (by decide) (by decide) HL.out.gs.rq).mono ?_
                  rintro e w9 ⟨m9, s9, rfl, hn, hst, hr, hsv⟩
                  replace HL := Lib.hid (HL.out.call hr hsv)
                  have HC9 := Lib.hid hst
                  obtain ⟨mb, hmb⟩ : ∃ x, x = ((m9 : Int) == 1) := ⟨_, rfl⟩
                  have hw9 : ((m9 : Int) == 1) = mb := hmb.symm
                  have HMB := Lib.hid hmb
                  clear hmb
                  refine hK9 _ _ trivial (fun hS9 => ?_)
                  clear hn hst hr hsv hK9 K9 hS6
                  (refine held_take (i := 10) (oi := ?ot84) (v := .bool mb) ?at84 (by kernel_rfl) (by kernel_rfl) (by kernel_rfl) ?bt84 ?ct84 ?dt84 (by assumption) ?rt84; (case at84 => (simp only [List.getElem?_toArray, List.getElem?_cons_zero, List.getElem?_cons_succ]; rfl)); (case bt84 => exact fun _ _ _ h => h); (case ct84 => kernel_rfl); (case dt84 => (intro W hW; clear hW; go_simp; (try with_reducible rfl))); (case' rt84 => simp only [Act.put, List.setIfInBounds_toArray, List.set_cons_zero, List.set_cons_succ]))
                  (refine held_take (i := 11) (oi := ?ot85) (v := .agg (vec 3 (irqE (⟨(m3 : Int), (m6 : Int), mb⟩ : Ir)))) ?at85 (by kernel_rfl) (by kernel_rfl) (by kernel_rfl) ?bt85 ?ct85 ?dt85 (by assumption) ?rt85; (case at85 => (simp only [List.getElem?_toArray, List.getElem?_cons_zero, List.getElem?_cons_succ]; rfl)); (case bt85 => exact fun _ _ _ h => h); (case ct85 => kernel_rfl); (case dt85 => (intro W hW; exact exec_build 112 _ rfl (vec 3 (irqE (⟨(m3 : Int), (m6 : Int), mb⟩ : Ir))) (by kernel_rfl) W)); (case' rt85 => simp only [Act.put, List.setIfInBounds_toArray, List.set_cons_zero, List.set_cons_succ]))
                  refine held_one (i := 12) (oi := ?ot86) (by kernel_rfl) ?at86 ?ct86 (fun K12 hK12 => ?_)
                  (case at86 => (simp only [List.getElem?_toArray, List.getElem?_cons_zero, List.getElem?_cons_succ]; rfl))
                  (case ct86 => kernel_rfl)
                  refine ow_bs1 61 _ rfl (.agg (vec 3 (irqE (⟨(m3 : Int), (m6 : Int), mb⟩ : Ir)))) rfl _ (build_irq (⟨(m3 : Int), (m6 : Int), mb⟩ : Ir) _) ?_
                  intro p y0 hp hy
                  obtain ⟨BN, dN, w2, hrun, hls⟩ := HL.out.app Tryd.underlying61 info_irq rfl (by decide) (fun x i hi => irqE_one x _ i hi) (⟨(m3 : Int), (m6 : Int), mb⟩ : Ir) (by have := HLK.out; omega) (by decide) k HLK.out.1
                  rw [← hp] at hrun
                  rw [← hy] at hrun
                  replace HL := Lib.hid (HL.out.on (W' := y0) (by rw [hy]; exact (Below.refl _ _).alloc (Nat.le_refl _) _))
                  have HRUN := Lib.hid hrun
                  have HFIN := Lib.hid (And.intro (show w2.cell? ⟨u, 77, none⟩ = some (.slice BL k dL) from (hls.gs.cell 77 (by decide)).1) (And.intro (hls.gs.cell 77 (by decide)).2 (And.intro (show LsS 112 3 irqE g A c b u WB (w2.setCell ⟨u, 77, none⟩ (.slice BN (k + 1) dN)) s9 ⟨⟨s1, mu, (n3 : Int), (n4 : Int), (n5 : Int), (n6 : Int), (n7 : Int), lk, l0, l1, l ++ [(⟨(m3 : Int), (m6 : Int), mb⟩ : Ir)], []⟩, v0, v1, .slice BN (k + 1) dN, nilV⟩ (.slice BN (k + 1) dN) (l ++ [(⟨(m3 : Int), (m6 : Int), mb⟩ : Ir)]) from hls.set 77 _ (upd_i _ _ _)) (show StepP irqC b s (⟨(m3 : Int), (m6 : Int), mb⟩ : Ir) s9 from step_irq HC3.out HC6.out (by rw [HMB.out]; exact HC9.out.bool)))))
                  refine hK12 _ _ trivial (fun hS12 => ?_)
                  clear hp hy hrun hls hK12 K12 hS9
                  refine held_one (i := 13) (oi := ?ot87) (by kernel_rfl) ?at87 ?ct87 (fun K13 hK13 => ?_)
                  (case at87 => (simp only [List.getElem?_toArray, List.getElem?_cons_zero, List.getElem?_cons_succ]; rfl))
                  (case ct87 => kernel_rfl)
                  refine Lib.wp_append_run _ _ _ _ _ rfl (.slice BL k dL) (.slice (some ⟨p, 0, none⟩) 1 1) ?sa34 ?sb35 (.slice BN (k + 1) dN) w2 ?sc36 ?_
                  case sa34 => rfl
                  case sb35 => rfl
                  case sc36 => (have h0 := HRUN.out; show (Builtin.append_ #[_, _] 61 _).run Tryd.prog _ = _; exact h0)
                  refine hK13 _ _ trivial (fun hS13 => ?_)
                  clear HRUN HC3 HC6 HC9 hw3 hw6 hw9 HMB hK13 K13 hS12
                  clear HL
                  revert hS13
                  revert HFIN
                  revert w2
                  revert dN
                  revert BN
                  revert p
                  revert s9
                  revert mb
                  revert m9
                  revert m6
                  revert m3
                  exact tail 0
                case hjt111 =>
                  go_simp
                  refine (rnum_any 2 65535 144 (by decide) (by decide) (by decide) HL.out.gs.rq).mono ?_
                  rintro e w3 ⟨m3, s3, rfl, hn, hst, hr, hsv⟩
                  replace HL := Lib.hid (HL.out.call hr hsv)
                  have HC3 := Lib.hid hst
                  have hw3 : IntKind.i64.wrap (m3 : Int) = (m3 : Int) := by rw [IntKind.wrap_i64]; have := lt2 hn; omega
                  refine hK3 _ _ trivial (fun hS3 => ?_)
                  clear hn hst hr hsv hK3 K3 hS
                  (refine held_take (i := 4) (oi := ?ot88) (v := .int .i64 (m3 : Int)) ?at88 (by kernel_rfl) (by kernel_rfl) (by kernel_rfl) ?bt88 ?ct88 ?dt88 (by assumption) ?rt88; (case at88 => (simp only [List.getElem?_toArray, List.getElem?_cons_zero, List.getElem?_cons_succ]; rfl)); (case bt88 => exact fun _ _ _ h => h); (case ct88 => kernel_rfl); (case dt88 => (intro W hW; clear hW; go_simp; (try with_reducible rfl))); (case' rt88 => simp only [Act.put, List.setIfInBounds_toArray, List.set_cons_zero, List.set_cons_succ]))
                  refine held_two (i := 1) (j := 6) (oi := ?oit110) (oj := ?ojt110) (by kernel_rfl) ?ait110 ?ajt110 ?cit110 ?cjt110 (fun K1 hK1 => ?hit110) (fun K6 hK6 => ?hjt110)
                  (case ait110 => (simp only [List.getElem?_toArray, List.getElem?_cons_zero, List.getElem?_cons_succ]; rfl))
                  (case ajt110 => (simp only [List.getElem?_toArray, List.getElem?_cons_zero, List.getElem?_cons_succ]; rfl))
                  (case cit110 => kernel_rfl)
                  (case cjt110 => kernel_rfl)
                  case hit110 =>
                    have k0 := HCF.out _ _ HL.out
                    go_simp
                    refine hK1 _ _ trivial (fun hS1 => ?_)
                    clear k0 hK1 K1 hS3
                    refine held_one (i := 6) (oi := ?ot89) (by kernel_rfl) ?at89 ?ct89 (fun K6 hK6 => ?_)
                    (case at89 => (simp only [List.getElem?_toArray, List.getElem?_cons_zero, List.getElem?_cons_succ]; rfl))
                    (case ct89 => kernel_rfl)
                    go_simp
                    refine (rnum_any 2 65535 144 (by decide) (by decide) (by decide) HL.out.gs.rq).mono ?_
                    rintro e w6 ⟨m6, s6, rfl, hn, hst, hr, hsv⟩
                    replace HL := Lib.hid (HL.out.call hr hsv)
                    have HC6 := Lib.hid hst
                    have hw6 : IntKind.i64.wrap (m6 : Int) = (m6 : Int) := by rw [IntKind.wrap_i64]; have := lt2 hn; omega
                    refine hK6 _ _ trivial (fun hS6 => ?_)
                    clear hn hst hr hsv hK6 K6 hS1
                    (refine held_take (i := 7) (oi := ?ot90) (v := .int .i64 (m6 : Int)) ?at90 (by kernel_rfl) (by kernel_rfl) (by kernel_rfl) ?bt90 ?ct90 ?dt90 (by assumption) ?rt90; (case at90 => (simp only [List.getElem?_toArray, List.getElem?_cons_zero, List.getElem?_cons_succ]; rfl)); (case bt90 => exact fun _ _ _ h => h); (case ct90 => kernel_rfl); (case dt90 => (intro W hW; clear hW; go_simp; (try with_reducible rfl))); (case' rt90 => simp only [Act.put, List.setIfInBounds_toArray, List.set_cons_zero, List.set_cons_succ]))
                    refine held_one (i := 9) (oi := ?ot91) (by kernel_rfl) ?at91 ?ct91 (fun K9 hK9 => ?_)
                    (case at91 => (simp only [List.getElem?_toArray, List.getElem?_cons_zero, List.getElem?_cons_succ]; rfl))
                    (case ct91 => kernel_rfl)
                    go_simp
                    refine (rnum_any 4 1 144 (by decide) (by decide) (by decide) HL.out.gs.rq).mono ?_
                    rintro e w9 ⟨m9, s9, rfl, hn, hst, hr, hsv⟩
                    replace HL := Lib.hid (HL.out.call hr hsv)
                    have HC9 := Lib.hid hst
                    obtain ⟨mb, hmb⟩ : ∃ x, x = ((m9 : Int) == 1) := ⟨_, rfl⟩
                    have hw9 : ((m9 : Int) == 1) = mb := hmb.symm
                    have HMB := Lib.hid hmb
                    clear hmb
                    refine hK9 _ _ trivial (fun hS9 => ?_)
                    clear hn hst hr hsv hK9 K9 hS6
                    (refine held_take (i := 10) (oi := ?ot92) (v := .bool mb) ?at92 (by kernel_rfl) (by kernel_rfl) (by kernel_rfl) ?bt92 ?ct92 ?dt92 (by assumption) ?rt92; (case at92 => (simp only [List.getElem?_toArray, List.getElem?_cons_zero, List.getElem?_cons_succ]; rfl)); (case bt92 => exact fun _ _ _ h => h); (case ct92 => kernel_rfl); (case dt92 => (intro W hW; clear hW; go_simp; (try with_reducible rfl))); (case' rt92 => simp only [Act.put, List.setIfInBounds_toArray, List.set_cons_zero, List.set_cons_succ]))
                    (refine held_take (i := 11) (oi := ?ot93) (v := .agg (vec 3 (irqE (⟨(m3 : Int), (m6 : Int), mb⟩ : Ir)))) ?at93 (by kernel_rfl) (by kernel_rfl) (by kernel_rfl) ?bt93 ?ct93 ?dt93 (by assumption) ?rt93; (case at93 => (simp only [List.getElem?_toArray, List.getElem?_cons_zero, List.getElem?_cons_succ]; rfl)); (case bt93 => exact fun _ _ _ h => h); (case ct93 => kernel_rfl); (case dt93 => (intro W hW; exact exec_build 112 _ rfl (vec 3 (irqE (⟨(m3 : Int), (m6 : Int), mb⟩ : Ir))) (by kernel_rfl) W)); (case' rt93 => simp only [Act.put, List.setIfInBounds_toArray, List.set_cons_zero, List.set_cons_succ]))
                    refine held_one (i := 12) (oi := ?ot94) (by kernel_rfl) ?at94 ?ct94 (fun K12 hK12 => ?_)
                    (case at94 => (simp only [List.getElem?_toArray, List.getElem?_cons_zero, List.getElem?_cons_succ]; rfl))
                    (case ct94 => kernel_rfl)
                    refine ow_bs1 61 _ rfl (.agg (vec 3 (irqE (⟨(m3 : Int), (m6 : Int), mb⟩ : Ir)))) rfl _ (build_irq (⟨(m3 : Int), (m6 : Int), mb⟩ : Ir) _) ?_
                    intro p y0 hp hy
                    obtain ⟨BN, dN, w2, hrun, hls⟩ := HL.out.app Tryd.underlying61 info_irq rfl (by decide) (fun x i hi => irqE_one x _ i hi) (⟨(m3 : Int), (m6 : Int), mb⟩ : Ir) (by have := HLK.out; omega) (by decide) k HLK.out.1
                    rw [← hp] at hrun
                    rw [← hy] at hrun
                    replace HL := Lib.hid (HL.out.on (W' := y0) (by rw [hy]; exact (Below.refl _ _).alloc (Nat.le_refl _) _))
                    have HRUN := Lib.hid hrun
                    have HFIN := Lib.hid (And.intro (show w2.cell? ⟨u, 77, none⟩ = some (.slice BL k dL) from (hls.gs.cell 77 (by decide)).1) (And.intro (hls.gs.cell 77 (by decide)).2 (And.intro (show LsS 112 3 irqE g A c b u WB (w2.setCell ⟨u, 77, none⟩ (.slice BN (k + 1) dN)) s9 ⟨⟨s1, mu, (n3 : Int), (n4 : Int), (n5 : Int), (n6 : Int), (n7 : Int), lk, l0, l1, l ++ [(⟨(m3 : Int), (m6 : Int), mb⟩ : Ir)], []⟩, v0, v1, .slice BN (k + 1) dN, nilV⟩ (.slice BN (k + 1) dN) (l ++ [(⟨(m3 : Int), (m6 : Int), mb⟩ : Ir)]) from hls.set 77 _ (upd_i _ _ _)) (show StepP irqC b s (⟨(m3 : Int), (m6 : Int), mb⟩ : Ir) s9 from step_irq HC3.out HC6.out (by rw [HMB.out]; exact HC9.out.bool)))))
                    refine hK12 _ _ trivial (fun hS12 => ?_)
                    clear hp hy hrun hls hK12 K12 hS9
                    refine held_one (i := 13) (oi := ?ot95) (by kernel_rfl) ?at95 ?ct95 (fun K13 hK13 => ?_)
                    (case at95 => (simp only [List.getElem?_toArray, List.getElem?_cons_zero, List.getElem?_cons_succ]; rfl))
                    (case ct95 => kernel_rfl)
                    refine Lib.wp_append_run _ _ _ _ _ rfl (.slice BL k dL) (.slice (some ⟨p, 0, none⟩) 1 1) ?sa37 ?sb38 (.slice BN (k + 1) dN) w2 ?sc39 ?_
                    case sa37 => rfl
                    case sb38 => rfl
                    case sc39 => (have h0 := HRUN.out; show (Builtin.append_ #[_, _] 61 _).run Tryd.prog _ = _; exact h0)
                    refine hK13 _ _ trivial (fun hS13 => ?_)
                    clear HRUN HC3 HC6 HC9 hw3 hw6 hw9 HMB hK13 K13 hS12
                    clear HL
                    revert hS13
                    revert HFIN
                    revert w2
                    revert dN
                    revert BN
                    revert p
                    revert s9
                    revert mb
                    revert m9
                    revert m6
                    revert m3
                    exact tail 0
                  case hjt110 =>
                    go_simp
                    refine (rnum_any 2 65535 144 (by decide) (by decide) (by decide) HL.out.gs.rq).mono ?_
                    rintro e w6 ⟨m6, s6, rfl, hn, hst, hr, hsv⟩
                    replace HL := Lib.hid (HL.out.call hr hsv)
                    have HC6 := Lib.hid hst
                    have hw6 : IntKind.i64.wrap (m6 : Int) = (m6 : Int) := by rw [IntKind.wrap_i64]; have := lt2 hn; omega
                    refine hK6 _ _ trivial (fun hS6 => ?_)
                    clear hn hst hr hsv hK6 K6 hS3
                    (refine held_take (i := 7) (oi := ?ot96) (v := .int .i64 (m6 : Int)) ?at96 (by kernel_rfl) (by kernel_rfl) (by kernel_rfl) ?bt96 ?ct96 ?dt96 (by assumption) ?rt96; (case at96 => (simp only [List.getElem?_toArray, List.getElem?_cons_zero, List.getElem?_cons_succ]; rfl)); (case bt96 => exact fun _ _ _ h => h); (case ct96 => kernel_rfl); (case dt96 => (intro W hW; clear hW; go_simp; (try with_reducible rfl))); (case' rt96 => simp only [Act.put, List.setIfInBounds_toArray, List.set_cons_zero, List.set_cons_succ]))
                    refine held_two (i := 1) (j := 9) (oi := ?oit109) (oj := ?ojt109) (by kernel_rfl) ?ait109 ?ajt109 ?cit109 ?cjt109 (fun K1 hK1 => ?hit109) (fun K9 hK9 => ?hjt109)
                    (case ait109 => (simp only [List.getElem?_toArray, List.getElem?_cons_zero, List.getElem?_cons_succ]; rfl))
                    (case ajt109 => (simp only [List.getElem?_toArray, List.getElem?_cons_zero, List.getElem?_cons_succ]; rfl))
                    (case cit109 => kernel_rfl)
                    (case cjt109 => kernel_rfl)
                    case hit109 =>
                      have k0 := HCF.out _ _ HL.out
                      go_simp
                      refine hK1 _ _ trivial (fun hS1 => ?_)
                      clear k0 hK1 K1 hS6
                      refine held_one (i := 9) (oi := ?ot97) (by kernel_rfl) ?at97 ?ct97 (fun K9 hK9 => ?_)
                      (case at97 => (simp only [List.getElem?_toArray, List.getElem?_cons_zero, List.getElem?_cons_succ]; rfl))
                      (case ct97 => kernel_rfl)
                      go_simp
                      refine (rnum_any 4 1 144 (by decide) (by decide) (by decide) HL.out.gs.rq).mono ?_
                      rintro e w9 ⟨m9, s9, rfl, hn, hst, hr, hsv⟩
                      replace HL := Lib.hid (HL.out.call hr hsv)
                      have HC9 := Lib.hid hst
                      obtain ⟨mb, hmb⟩ : ∃ x, x = ((m9 : Int) == 1) := ⟨_, rfl⟩
                      have hw9 : ((m9 : Int) == 1) = mb := hmb.symm
                      have HMB := Lib.hid hmb
                      clear hmb
                      refine hK9 _ _ trivial (fun hS9 => ?_)
                      clear hn hst hr hsv hK9 K9 hS1
                      (refine held_take (i := 10) (oi := ?ot98) (v := .bool mb) ?at98 (by kernel_rfl) (by kernel_rfl) (by kernel_rfl) ?bt98 ?ct98 ?dt98 (by assumption) ?rt98; (case at98 => (simp only [List.getElem?_toArray, List.getElem?_cons_zero, List.getElem?_cons_succ]; rfl)); (case bt98 => exact fun _ _ _ h => h); (case ct98 => kernel_rfl); (case dt98 => (intro W hW; clear hW; go_simp; (try with_reducible rfl))); (case' rt98 => simp only [Act.put, List.setIfInBounds_toArray, List.set_cons_zero, List.set_cons_succ]))
                      (refine held_take (i := 11) (oi := ?ot99) (v := .agg (vec 3 (irqE (⟨(m3 : Int), (m6 : Int), mb⟩ : Ir)))) ?at99 (by kernel_rfl) (by kernel_rfl) (by kernel_rfl) ?bt99 ?ct99 ?dt99 (by assumption) ?rt99; (case at99 => (simp only [List.getElem?_toArray, List.getElem?_cons_zero, List.getElem?_cons_succ]; rfl)); (case bt99 => exact fun _ _ _ h => h); (case ct99 => kernel_rfl); (case dt99 => (intro W hW; exact exec_build 112 _ rfl (vec 3 (irqE (⟨(m3 : Int), (m6 : Int), mb⟩ : Ir))) (by kernel_rfl) W)); (case' rt99 => simp only [Act.put, List.setIfInBounds_toArray, List.set_cons_zero, List.set_cons_succ]))
                      refine held_one (i := 12) (oi := ?ot100) (by kernel_rfl) ?at100 ?ct100 (fun K12 hK12 => ?_)
                      (case at100 => (simp only [List.getElem?_toArray, List.getElem?_cons_zero, List.getElem?_cons_succ]; rfl))
                      (case ct100 => kernel_rfl)
                      refine ow_bs1 61 _ rfl (.agg (vec 3 (irqE (⟨(m3 : Int), (m6 : Int), mb⟩ : Ir)))) rfl _ (build_irq (⟨(m3 : Int), (m6 : Int), mb⟩ : Ir) _) ?_
                      intro p y0 hp hy
                      obtain ⟨BN, dN, w2, hrun, hls⟩ := HL.out.app Tryd.underlying61 info_irq rfl (by decide) (fun x i hi => irqE_one x _ i hi) (⟨(m3 : Int), (m6 : Int), mb⟩ : Ir) (by have := HLK.out; omega) (by decide) k HLK.out.1
                      rw [← hp] at hrun
                      rw [← hy] at hrun
                      replace HL := Lib.hid (HL.out.on (W' := y0) (by rw [hy]; exact (Below.refl _ _).alloc (Nat.le_refl _) _))
                      have HRUN := Lib.hid hrun
                      have HFIN := Lib.hid (And.intro (show w2.cell? ⟨u, 77, none⟩ = some (.slice BL k dL) from (hls.gs.cell 77 (by decide)).1) (And.intro (hls.gs.cell 77 (by decide)).2 (And.intro (show LsS 112 3 irqE g A c b u WB (w2.setCell ⟨u, 77, none⟩ (.slice BN (k + 1) dN)) s9 ⟨⟨s1, mu, (n3 : Int), (n4 : Int), (n5 : Int), (n6 : Int), (n7 : Int), lk, l0, l1, l ++ [(⟨(m3 : Int), (m6 : Int), mb⟩ : Ir)], []⟩, v0, v1, .slice BN (k + 1) dN, nilV⟩ (.slice BN (k + 1) dN) (l ++ [(⟨(m3 : Int), (m6 : Int), mb⟩ : Ir)]) from hls.set 77 _ (upd_i _ _ _)) (show StepP irqC b s (⟨(m3 : Int), (m6 : Int), mb⟩ : Ir) s9 from step_irq HC3.out HC6.out (by rw [HMB.out]; exact HC9.out.bool)))))
                      refine hK12 _ _ trivial (fun hS12 => ?_)
                      clear hp hy hrun hls hK12 K12 hS9
                      refine held_one (i := 13) (oi := ?ot101) (by kernel_rfl) ?at101 ?ct101 (fun K13 hK13 => ?_)
                      (case at101 => (simp only [List.getElem?_toArray, List.getElem?_cons_zero, List.getElem?_cons_succ]; rfl))
                      (case ct101 => kernel_rfl)
                      refine Lib.wp_append_run _ _ _ _ _ rfl (.slice BL k dL) (.slice (some ⟨p, 0, none⟩) 1 1) ?sa40 ?sb41 (.slice BN (k + 1) dN) w2 ?sc42 ?_
                      case sa40 => rfl
                      case sb41 => rfl
                      case sc42 => (have h0 := HRUN.out; show (Builtin.append_ #[_, _] 61 _).run Tryd.prog _ = _; exact h0)
                      refine hK13 _ _ trivial (fun hS13 => ?_)
                      clear HRUN HC3 HC6 HC9 hw3 hw6 hw9 HMB hK13 K13 hS12
                      clear HL
                      revert hS13
                      revert HFIN
                      revert w2
                      revert dN
                      revert BN
                      revert p
                      revert s9
                      revert mb
                      revert m9
                      revert m6
                      revert m3
                      exact tail 0
                    case hjt109 =>
                      go_simp
                      refine (rnum_any 4 1 144 (by decide) (by decide) (by decide) HL.out.gs.rq).mono ?_
                      rintro e w9 ⟨m9, s9, rfl, hn, hst, hr, hsv⟩
                      replace HL := Lib.hid (HL.out.call hr hsv)
                      have HC9 := Lib.hid hst
                      obtain ⟨mb, hmb⟩ : ∃ x, x = ((m9 : Int) == 1) := ⟨_, rfl⟩
                      have hw9 : ((m9 : Int) == 1) = mb := hmb.symm
                      have HMB := Lib.hid hmb
                      clear hmb
                      refine hK9 _ _ trivial (fun hS9 => ?_)
                      clear hn hst hr hsv hK9 K9 hS6
                      (refine held_take (i := 10) (oi := ?ot102) (v := .bool mb) ?at102 (by kernel_rfl) (by kernel_rfl) (by kernel_rfl) ?bt102 ?ct102 ?dt102 (by assumption) ?rt102; (case at102 => (simp only [List.getElem?_toArray, List.getElem?_cons_zero, List.getElem?_cons_succ]; rfl)); (case bt102 => exact fun _ _ _ h => h); (case ct102 => kernel_rfl); (case dt102 => (intro W hW; clear hW; go_simp; (try with_reducible rfl))); (case' rt102 => simp only [Act.put, List.setIfInBounds_toArray, List.set_cons_zero, List.set_cons_succ]))
                      (refine held_take (i := 11) (oi := ?ot103) (v := .agg (vec 3 (irqE (⟨(m3 : Int), (m6 : Int), mb⟩ : Ir)))) ?at103 (by kernel_rfl) (by kernel_rfl) (by kernel_rfl) ?bt103 ?ct103 ?dt103 (by assumption) ?rt103; (case at103 => (simp only [List.getElem?_toArray, List.getElem?_cons_zero, List.getElem?_cons_succ]; rfl)); (case bt103 => exact fun _ _ _ h => h); (case ct103 => kernel_rfl); (case dt103 => (intro W hW; exact exec_build 112 _ rfl (vec 3 (irqE (⟨(m3 : Int), (m6 : Int), mb⟩ : Ir))) (by kernel_rfl) W)); (case' rt103 => simp only [Act.put, List.setIfInBounds_toArray, List.set_cons_zero, List.set_cons_succ]))
                      refine held_two (i := 1) (j := 12) (oi := ?oit108) (oj := ?ojt108) (by kernel_rfl) ?ait108 ?ajt108 ?cit108 ?cjt108 (fun K1 hK1 => ?hit108) (fun K12 hK12 => ?hjt108)
                      (case ait108 => (simp only [List.getElem?_toArray, List.getElem?_cons_zero, List.getElem?_cons_succ]; rfl))
                      (case ajt108 => (simp only [List.getElem?_toArray, List.getElem?_cons_zero, List.getElem?_cons_succ]; rfl))
                      (case cit108 => kernel_rfl)
                      (case cjt108 => kernel_rfl)
                      case hit108 =>
                        have k0 := HCF.out _ _ HL.out
                        go_simp
                        refine hK1 _ _ trivial (fun hS1 => ?_)
                        clear k0 hK1 K1 hS9
                        refine held_one (i := 12) (oi := ?ot104) (by kernel_rfl) ?at104 ?ct104 (fun K12 hK12 => ?_)
                        (case at104 => (simp only [List.getElem?_toArray, List.getElem?_cons_zero, List.getElem?_cons_succ]; rfl))
                        (case ct104 => kernel_rfl)
                        refine ow_bs1 61 _ rfl (.agg (vec 3 (irqE (⟨(m3 : Int), (m6 : Int), mb⟩ : Ir)))) rfl _ (build_irq (⟨(m3 : Int), (m6 : Int), mb⟩ : Ir) _) ?_
                        intro p y0 hp hy
                        obtain ⟨BN, dN, w2, hrun, hls⟩ := HL.out.app Tryd.underlying61 info_irq rfl (by decide) (fun x i hi => irqE_one x _ i hi) (⟨(m3 : Int), (m6 : Int), mb⟩ : Ir) (by have := HLK.out; omega) (by decide) k HLK.out.1
                        rw [← hp] at hrun
                        rw [← hy] at hrun
                        replace HL := Lib.hid (HL.out.on (W' := y0) (by rw [hy]; exact (Below.refl _ _).alloc (Nat.le_refl _) _))
                        have HRUN := Lib.hid hrun
                        have HFIN := Lib.hid (And.intro (show w2.cell? ⟨u, 77, none⟩ = some (.slice BL k dL) from (hls.gs.cell 77 (by decide)).1) (And.intro (hls.gs.cell 77 (by decide)).2 (And.intro (show LsS 112 3 irqE g A c b u WB (w2.setCell ⟨u, 77, none⟩ (.slice BN (k + 1) dN)) s9 ⟨⟨s1, mu, (n3 : Int), (n4 : Int), (n5 : Int), (n6 : Int), (n7 : Int), lk, l0, l1, l ++ [(⟨(m3 : Int), (m6 : Int), mb⟩ : Ir)], []⟩, v0, v1, .slice BN (k + 1) dN, nilV⟩ (.slice BN (k + 1) dN) (l ++ [(⟨(m3 : Int), (m6 : Int), mb⟩ : Ir)]) from hls.set 77 _ (upd_i _ _ _)) (show StepP irqC b s (⟨(m3 : Int), (m6 : Int), mb⟩ : Ir) s9 from step_irq HC3.out HC6.out (by rw [HMB.out]; exact HC9.out.bool)))))
                        refine hK12 _ _ trivial (fun hS12 => ?_)
                        clear hp hy hrun hls hK12 K12 hS1
                        refine held_one (i := 13) (oi := ?ot105) (by kernel_rfl) ?at105 ?ct105 (fun K13 hK13 => ?_)
                        (case at105 => (simp only [List.getElem?_toArray, List.getElem?_cons_zero, List.getElem?_cons_succ]; rfl))
                        (case ct105 => kernel_rfl)
                        refine Lib.wp_append_run _ _ _ _ _ rfl (.slice BL k dL) (.slice (some ⟨p, 0, none⟩) 1 1) ?sa43 ?sb44 (.slice BN (k + 1) dN) w2 ?sc45 ?_
                        case sa43 => rfl
                        case sb44 => rfl
                        case sc45 => (have h0 := HRUN.out; show (Builtin.append_ #[_, _] 61 _).run Tryd.prog _ = _; exact h0)
                        refine hK13 _ _ trivial (fun hS13 => ?_)
                        clear HRUN HC3 HC6 HC9 hw3 hw6 hw9 HMB hK13 K13 hS12
                        clear HL
                        revert hS13
                        revert HFIN
                        revert w2
                        revert dN
                        revert BN
                        revert p
                        revert s9
                        revert mb
                        revert m9
                        revert m6
                        revert m3
                        exact tail 0
                      case hjt108 =>
                        refine ow_bs1 61 _ rfl (.agg (vec 3 (irqE (⟨(m3 : Int), (m6 : Int), mb⟩ : Ir)))) rfl _ (build_irq (⟨(m3 : Int), (m6 : Int), mb⟩ : Ir) _) ?_
                        intro p y0 hp hy
                        obtain ⟨BN, dN, w2, hrun, hls⟩ := HL.out.app Tryd.underlying61 info_irq rfl (by decide) (fun x i hi => irqE_one x _ i hi) (⟨(m3 : Int), (m6 : Int), mb⟩ : Ir) (by have := HLK.out; omega) (by decide) k HLK.out.1
                        rw [← hp] at hrun
                        rw [← hy] at hrun
                        replace HL := Lib.hid (HL.out.on (W' := y0) (by rw [hy]; exact (Below.refl _ _).alloc (Nat.le_refl _) _))
                        have HRUN := Lib.hid hrun
                        have HFIN := Lib.hid (And.intro (show w2.cell? ⟨u, 77, none⟩ = some (.slice BL k dL) from (hls.gs.cell 77 (by decide)).1) (And.intro (hls.gs.cell 77 (by decide)).2 (And.intro (show LsS 112 3 irqE g A c b u WB (w2.setCell ⟨u, 77, none⟩ (.slice BN (k + 1) dN)) s9 ⟨⟨s1, mu, (n3 : Int), (n4 : Int), (n5 : Int), (n6 : Int), (n7 : Int), lk, l0, l1, l ++ [(⟨(m3 : Int), (m6 : Int), mb⟩ : Ir)], []⟩, v0, v1, .slice BN (k + 1) dN, nilV⟩ (.slice BN (k + 1) dN) (l ++ [(⟨(m3 : Int), (m6 : Int), mb⟩ : Ir)]) from hls.set 77 _ (upd_i _ _ _)) (show StepP irqC b s (⟨(m3 : Int), (m6 : Int), mb⟩ : Ir) s9 from step_irq HC3.out HC6.out (by rw [HMB.out]; exact HC9.out.bool)))))
                        refine hK12 _ _ trivial (fun hS12 => ?_)
                        clear hp hy hrun hls hK12 K12 hS9
                        refine held_one (i := 1) (oi := ?ot106) (by kernel_rfl) ?at106 ?ct106 (fun K1 hK1 => ?_)
                        (case at106 => (simp only [List.getElem?_toArray, List.getElem?_cons_zero, List.getElem?_cons_succ]; rfl))
                        (case ct106 => kernel_rfl)
                        have k0 := HCF.out _ _ HL.out
                        go_simp
                        refine hK1 _ _ trivial (fun hS1 => ?_)
                        clear k0 hK1 K1 hS12
                        refine held_one (i := 13) (oi := ?ot107) (by kernel_rfl) ?at107 ?ct107 (fun K13 hK13 => ?_)
                        (case at107 => (simp only [List.getElem?_toArray, List.getElem?_cons_zero, List.getElem?_cons_succ]; rfl))
                        (case ct107 => kernel_rfl)
                        refine Lib.wp_append_run _ _ _ _ _ rfl (.slice BL k dL) (.slice (some ⟨p, 0, none⟩) 1 1) ?sa46 ?sb47 (.slice BN (k + 1) dN) w2 ?sc48 ?_
                        case sa46 => rfl
                        case sb47 => rfl
                        case sc48 => (have h0 := HRUN.out; show (Builtin.append_ #[_, _] 61 _).run Tryd.prog _ = _; exact h0)
                        refine hK13 _ _ trivial (fun hS13 => ?_)
                        clear HRUN HC3 HC6 HC9 hw3 hw6 hw9 HMB hK13 K13 hS1
                        clear HL
                        revert hS13
                        revert HFIN
                        revert w2
                        revert dN
                        revert BN
                        revert p
                        revert s9
                        revert mb
                        revert m9
                        revert m6
                        revert m3
                        exact tail 0
              case t =>
                intro m3 m6 m9 mb s9 p BN dN w2 HFIN hS13
                (refine held_take (i := 14) (oi := ?ot112) (v := ?vt112) ?at112 (by kernel_rfl) (by kernel_rfl) (by kernel_rfl) ?bt112 ?ct112 ?dt112 (by assumption) ?rt112; (case at112 => (simp only [List.getElem?_toArray, List.getElem?_cons_zero, List.getElem?_cons_succ]; rfl)); (case bt112 => exact fun _ _ _ h => h); (case ct112 => kernel_rfl); (case dt112 => (intro W hW; clear hW; go_simp; (try with_reducible rfl))); (case' rt112 => simp only [Act.put, List.setIfInBounds_toArray, List.set_cons_zero, List.set_cons_succ]))
                refine held_one (i := 15) (oi := ?ot113) (by kernel_rfl) ?at113 ?ct113 (fun K15 hK15 => ?_)
                (case at113 => (simp only [List.getElem?_toArray, List.getElem?_cons_zero, List.getElem?_cons_succ]; rfl))
                (case ct113 => kernel_rfl)
                have k3 := HFIN.out.1
                have k4 := HFIN.out.2.1
                go_simp
                refine hK15 _ _ trivial (fun hS15 => ?_)
                clear k3 k4 hK15 K15 hS13
                refine wpAnyH_done (by kernel_rfl) ?_ _
                clear hS15
                obtain ⟨WN, hWN⟩ : ∃ W, W = w2.setCell ⟨u, 77, none⟩ (.slice BN (k + 1) dN) := ⟨_, rfl⟩
                have HFN := Lib.hid HFIN.out.2.2
                rw [← hWN] at HFN ⊢
                clear hWN HFIN
                go_wp2_with fail
                go_roundw
                case rel => exact ⟨k + 1, BN, dN, l ++ [(⟨(m3 : Int), (m6 : Int), mb⟩ : Ir)], s9, by have := HLT.out; omega, by go_num, Lib.hid ⟨by rw [List.length_append, HLK.out.1]; rfl, HFN.out.1, HST.out.snoc HE0.out HFN.out.2⟩⟩
                case measure => have := HLT.out; simp [intOf]; omega
            · have z0 : ((E : Int) == 0) = false := by simp; omega
              have z1 : ¬ (E : Int) = 0 := by omega
              have HNE : Hid (s.err ≠ none) := Lib.hid (erN_some (by rw [← HEE.out]; exact h0))
              clear h0
              go_wp2_with fail
              go_meet
              exact ⟨_, l, s, Lib.hid ⟨HI.out.2.1, HI.out.2.2.ends (Or.inr ⟨hk, HNE.out⟩)⟩⟩
          · have hki : ¬ (k : Int) < (n2' : Int) := by omega
            have HKE : Hid (k = n2') := Lib.hid (by omega)
            go_wp2_with fail
            go_meet
            exact ⟨_, l, s, Lib.hid ⟨HI.out.2.1, HI.out.2.2.ends (Or.inl HKE.out)⟩⟩
      obtain ⟨v2, l2, sD, HH⟩ := hcut
      obtain ⟨WC, hwx⟩ : ∃ W : World, W = wc := ⟨_, rfl⟩
      rw [← hwx] at HH
      (try rw [← hwx])
      clear hwx
      have HL2 := Lib.hid HH.out.2
      have HN7 := Lib.hid (fun Y (hY : FT g u WC Y) => HN7.out Y (HH.out.1.gs.ft.trans hY))
      have HFT2 : Hid (FT g u W1 WC) := Lib.hid (HFT2.out.trans HH.out.1.gs.ft)
      have HG := Lib.hid HH.out.1.gs.base
      have HO2 : Hid (OwnE 112 3 irqE WC (u + 1) v2 l2) := Lib.hid (HH.out.1.own.low HH.out.1.gs.uv)
      have HO0 := Lib.hid (HO0.out.ft HH.out.1.gs.ft (Nat.lt_succ_of_lt HG.out.gu) (Nat.lt_succ_self _))
      have HO1 := Lib.hid (HO1.out.ft HH.out.1.gs.ft (Nat.lt_succ_of_lt HG.out.gu) (Nat.lt_succ_self _))
      have HBD := Lib.hid (fun (h : sD.err = none) => HBD.out (HL2.out.on h).1)
      clear HH
      go_upto_block 8 with fail
      go_cut [14] from 168 to 188 (fun _ wx => ∃ (v : Value) (l : List Int) (s : Rs), Hid (LsS 24 1 numE g A c b u WC wx s ⟨⟨s1, mu, (n3 : Int), (n4 : Int), (n5 : Int), (n6 : Int), (n7 : Int), lk, l0, l1, l2, l⟩, v0, v1, v2, v⟩ (v) l ∧ StepP (listC u32C n3') b sD l s))
      case first =>
        go_wp2_with fail
        go_loopw [14] (fun j Z1 => ∃ (k : Nat) (B : Option Addr) (d : Nat) (l : List Int) (s : Rs), (k ≤ n3' ∧ k ≤ 32) ∧ j = .int .i64 k ∧ Hid (l.length = k ∧ LsS 24 1 numE g A c b u WC Z1 s ⟨⟨s1, mu, (n3 : Int), (n4 : Int), (n5 : Int), (n6 : Int), (n7 : Int), lk, l0, l1, l2, l⟩, v0, v1, v2, (.slice B k d)⟩ (.slice B k d) l ∧ StepP (listC u32C k) b sD l s)) (fun j _ => n3' - (intOf j).toNat)
        case atStart => exact ⟨0, none, 0, [], sD, ⟨Nat.zero_le _, Nat.zero_le _⟩, rfl, Lib.hid ⟨rfl, ⟨HG.out, OwnE.nil _ _⟩, list_none _ _ _⟩⟩
        case round =>
          obtain ⟨k, BL, dL, l, s, ⟨hk, hk2⟩, rfl, HI⟩ := hrel
          obtain ⟨wk, hwk⟩ : ∃ W : World, W = wr := ⟨_, rfl⟩
          subst hwk
          have c7 := (HN7.out wk HI.out.2.1.gs.ft).2.2.2
          have ce := HI.out.2.1.gs.rq.at2
          obtain ⟨E, hE⟩ : ∃ E, E = erN s.err := ⟨_, rfl⟩
          rw [← hE] at ce
          have HEE := Lib.hid hE
          clear hE
          by_cases hlt : k < n3'
          · have hki : (k : Int) < (n3' : Int) := by omega
            by_cases h0 : E = 0
            · subst h0
              have z0 : (((0 : Nat) : Int) == 0) = true := rfl
              have HE0 : Hid (s.err = none) := Lib.hid (erN_zero HI.out.2.1.gs.rq.err HEE.out.symm)
              have HLT : Hid (k + 1 ≤ n3' ∧ k + 1 ≤ 32) := Lib.hid (by
                have h9 : sD.err = none := (HI.out.2.2.on HE0.out).1
                have := HBD.out h9
                omega)
              have HLK : Hid (l.length = k ∧ k ≤ 32) := Lib.hid ⟨HI.out.1, hk2⟩
              have HST := Lib.hid HI.out.2.2
              have HCF : Hid (∀ (Z : World) (s' : Rs), LsS 24 1 numE g A c b u WC Z s' ⟨⟨s1, mu, (n3 : Int), (n4 : Int), (n5 : Int), (n6 : Int), (n7 : Int), lk, l0, l1, l2, l⟩, v0, v1, v2, (.slice BL k dL)⟩ (.slice BL k dL) l → Z.cell? ⟨u, 78, none⟩ = some (.slice BL k dL)) := Lib.hid (fun Z s' hz => (hz.gs.cell 78 (by decide)).1)
              have hk9 : k ≤ 64 := by omega
              clear hlt hk hk2
              go_upto_region 38 with fail
              clear c7 ce z0
              obtain ⟨Y0, hY0⟩ : ∃ Y, Y = wk.drew := ⟨_, rfl⟩
              have HL : Hid (LsS 24 1 numE g A c b u WC Y0 s ⟨⟨s1, mu, (n3 : Int), (n4 : Int), (n5 : Int), (n6 : Int), (n7 : Int), lk, l0, l1, l2, l⟩, v0, v1, v2, (.slice BL k dL)⟩ (.slice BL k dL) l) := Lib.hid (by rw [hY0]; exact HI.out.2.1.on ⟨rfl, rfl, rfl, Nat.le_refl _, fun _ _ => rfl⟩)
              have HY0 := Lib.hid hY0
              clear hY0 HI
              refine wp_region_held_drew (S := fun _ => True) (by kernel_rfl) trivial (fun hS => ?_)
              rw [← HY0.out]
              revert hS
              apply meet_of
              case h =>
                intro tail hS
                (refine held_take (i := 0) (oi := ?ot114) (v := ?vt114) ?at114 (by kernel_rfl) (by kernel_rfl) (by kernel_rfl) ?bt114 ?ct114 ?dt114 (by assumption) ?rt114; (case at114 => (simp only [List.getElem?_toArray, List.getElem?_cons_zero]; rfl)); (case bt114 => exact fun _ _ _ h => h); (case ct114 => kernel_rfl); (case dt114 => (intro W hW; clear hW; go_simp; (try with_reducible rfl))); (case' rt114 => simp only [Act.put, List.setIfInBounds_toArray, List.set_cons_zero, List.set_cons_succ]))
                (refine held_take (i := 2) (oi := ?ot115) (v := ?vt115) ?at115 (by kernel_rfl) (by kernel_rfl) (by kernel_rfl) ?bt115 ?ct115 ?dt115 (by assumption) ?rt115; (case at115 => (simp only [List.getElem?_toArray, List.getElem?_cons_zero, List.getElem?_cons_succ]; rfl)); (case bt115 => exact fun _ _ _ h => h); (case ct115 => kernel_rfl); (case dt115 => (intro W hW; clear hW; go_simp; (try with_reducible rfl))); (case' rt115 => simp only [Act.put, List.setIfInBounds_toArray, List.set_cons_zero, List.set_cons_succ]))
                refine held_two (i := 1) (j := 3) (oi := ?oit126) (oj := ?ojt126) (by kernel_rfl) ?ait126 ?ajt126 ?cit126 ?cjt126 (fun K1 hK1 => ?hit126) (fun K3 hK3 => ?hjt126)
                (case ait126 => (simp only [List.getElem?_toArray, List.getElem?_cons_zero, List.getElem?_cons_succ]; rfl))
                (case ajt126 => (simp only [List.getElem?_toArray, List.getElem?_cons_zero, List.getElem?_cons_succ]; rfl))
                (case cit126 => kernel_rfl)
                (case cjt126 => kernel_rfl)
                case hit126 =>
                  have k0 := HCF.out _ _ HL.out
                  go_simp
                  refine hK1 _ _ trivial (fun hS1 => ?_)
                  clear k0 hK1 K1 hS
                  refine held_one (i := 3) (oi := ?ot116) (by kernel_rfl) ?at116 ?ct116 (fun K3 hK3 => ?_)
                  (case at116 => (simp only [List.getElem?_toArray, List.getElem?_cons_zero, List.getElem?_cons_succ]; rfl))
                  (case ct116 => kernel_rfl)
                  go_simp
                  refine (rnum_any 4 4294967295 144 (by decide) (by decide) (by decide) HL.out.gs.rq).mono ?_
                  rintro e w3 ⟨m3, s3, rfl, hn, hst, hr, hsv⟩
                  replace HL := Lib.hid (HL.out.call hr hsv)
                  have HC3 := Lib.hid hst
                  have hw3 : IntKind.u32.wrap (m3 : Int) = (m3 : Int) := by rw [IntKind.wrap_u32]; have := lt4 hn; omega
                  refine hK3 _ _ trivial (fun hS3 => ?_)
                  clear hn hst hr hsv hK3 K3 hS1
                  (refine held_take (i := 4) (oi := ?ot117) (v := .int .u32 (m3 : Int)) ?at117 (by kernel_rfl) (by kernel_rfl) (by kernel_rfl) ?bt117 ?ct117 ?dt117 (by assumption) ?rt117; (case at117 => (simp only [List.getElem?_toArray, List.getElem?_cons_zero, List.getElem?_cons_succ]; rfl)); (case bt117 => exact fun _ _ _ h => h); (case ct117 => kernel_rfl); (case dt117 => (intro W hW; clear hW; go_simp; (try with_reducible rfl))); (case' rt117 => simp only [Act.put, List.setIfInBounds_toArray, List.set_cons_zero, List.set_cons_succ]))
                  refine held_one (i := 5) (oi := ?ot118) (by kernel_rfl) ?at118 ?ct118 (fun K5 hK5 => ?_)
                  (case at118 => (simp only [List.getElem?_toArray, List.getElem?_cons_zero, List.getElem?_cons_succ]; rfl))
                  (case ct118 => kernel_rfl)
                  refine ow_bs1 62 _ rfl (.int .u32 (m3 : Int)) rfl _ (build_num (m3 : Int) _) ?_
                  intro p y0 hp hy
                  obtain ⟨BN, dN, w2, hrun, hls⟩ := HL.out.app Tryd.underlying62 info_num rfl (by decide) (fun x i hi => numE_one x _ i hi) (m3 : Int) (by have := HLK.out; omega) (by decide) k HLK.out.1
                  rw [← hp] at hrun
                  rw [← hy] at hrun
                  replace HL := Lib.hid (HL.out.on (W' := y0) (by rw [hy]; exact (Below.refl _ _).alloc (Nat.le_refl _) _))
                  have HRUN := Lib.hid hrun
                  have HFIN := Lib.hid (And.intro (show w2.cell? ⟨u, 78, none⟩ = some (.slice BL k dL) from (hls.gs.cell 78 (by decide)).1) (And.intro (hls.gs.cell 78 (by decide)).2 (And.intro (show LsS 24 1 numE g A c b u WC (w2.setCell ⟨u, 78, none⟩ (.slice BN (k + 1) dN)) s3 ⟨⟨s1, mu, (n3 : Int), (n4 : Int), (n5 : Int), (n6 : Int), (n7 : Int), lk, l0, l1, l2, l ++ [(m3 : Int)]⟩, v0, v1, v2, .slice BN (k + 1) dN⟩ (.slice BN (k + 1) dN) (l ++ [(m3 : Int)]) from hls.set 78 _ (upd_s _ _ _)) (show StepP u32C b s (m3 : Int) s3 from HC3.out))))
                  refine hK5 _ _ trivial (fun hS5 => ?_)
                  clear hp hy hrun hls hK5 K5 hS3
                  refine held_one (i := 6) (oi := ?ot119) (by kernel_rfl) ?at119 ?ct119 (fun K6 hK6 => ?_)
                  (case at119 => (simp only [List.getElem?_toArray, List.getElem?_cons_zero, List.getElem?_cons_succ]; rfl))
                  (case ct119 => kernel_rfl)
                  refine Lib.wp_append_run _ _ _ _ _ rfl (.slice BL k dL) (.slice (some ⟨p, 0, none⟩) 1 1) ?sa49 ?sb50 (.slice BN (k + 1) dN) w2 ?sc51 ?_
                  case sa49 => rfl
                  case sb50 => rfl
                  case sc51 => (have h0 := HRUN.out; show (Builtin.append_ #[_, _] 62 _).run Tryd.prog _ = _; exact h0)
                  refine hK6 _ _ trivial (fun hS6 => ?_)
                  clear HRUN HC3 hw3 hK6 K6 hS5
                  clear HL
                  revert hS6
                  revert HFIN
                  revert w2
                  revert dN
                  revert BN
                  revert p
                  revert s3
                  revert m3
                  exact tail 0
                case hjt126 =>
                  go_simp
                  refine (rnum_any 4 4294967295 144 (by decide) (by decide) (by decide) HL.out.gs.rq).mono ?_
                  rintro e w3 ⟨m3, s3, rfl, hn, hst, hr, hsv⟩
                  replace HL := Lib.hid (HL.out.call hr hsv)
                  have HC3 := Lib.hid hst
                  have hw3 : IntKind.u32.wrap (m3 : Int) = (m3 : Int) := by rw [IntKind.wrap_u32]; have := lt4 hn; omega
                  refine hK3 _ _ trivial (fun hS3 => ?_)
                  clear hn hst hr hsv hK3 K3 hS
                  (refine held_take (i := 4) (oi := ?ot120) (v := .int .u32 (m3 : Int)) ?at120 (by kernel_rfl) (by kernel_rfl) (by kernel_rfl) ?bt120 ?ct120 ?dt120 (by assumption) ?rt120; (case at120 => (simp only [List.getElem?_toArray, List.getElem?_cons_zero, List.getElem?_cons_succ]; rfl)); (case bt120 => exact fun _ _ _ h => h); (case ct120 => kernel_rfl); (case dt120 => (intro W hW; clear hW; go_simp; (try with_reducible rfl))); (case' rt120 => simp only [Act.put, List.setIfInBounds_toArray, List.set_cons_zero, List.set_cons_succ]))
                  refine held_two (i := 1) (j := 5) (oi := ?oit125) (oj := ?ojt125) (by kernel_rfl) ?ait125 ?ajt125 ?cit125 ?cjt125 (fun K1 hK1 => ?hit125) (fun K5 hK5 => ?hjt125)
                  (case ait125 => (simp only [List.getElem?_toArray, List.getElem?_cons_zero, List.getElem?_cons_succ]; rfl))
                  (case ajt125 => (simp only [List.getElem?_toArray, List.getElem?_cons_zero, List.getElem?_cons_succ]; rfl))
                  (case cit125 => kernel_rfl)
                  (case cjt125 => kernel_rfl)
                  case hit125 =>
                    have k0 := HCF.out _ _ HL.out
                    go_simp
                    refine hK1 _ _ trivial (fun hS1 => ?_)
                    clear k0 hK1 K1 hS3
                    refine held_one (i := 5) (oi := ?ot121) (by kernel_rfl) ?at121 ?ct121 (fun K5 hK5 => ?_)
                    (case at121 => (simp only [List.getElem?_toArray, List.getElem?_cons_zero, List.getElem?_cons_succ]; rfl))
                    (case ct121 => kernel_rfl)
                    refine ow_bs1 62 _ rfl (.int .u32 (m3 : Int)) rfl _ (build_num (m3 : Int) _) ?_
                    intro p y0 hp hy
                    obtain ⟨BN, dN, w2, hrun, hls⟩ := HL.out.app Tryd.underlying62 info_num rfl (by decide) (fun x i hi => numE_one x _ i hi) (m3 : Int) (by have := HLK.out; omega) (by decide) k HLK.out.1
                    rw [← hp] at hrun
                    rw [← hy] at hrun
                    replace HL := Lib.hid (HL.out.on (W' := y0) (by rw [hy]; exact (Below.refl _ _).alloc (Nat.le_refl _) _))
                    have HRUN := Lib.hid hrun
                    have HFIN := Lib.hid (And.intro (show w2.cell? ⟨u, 78, none⟩ = some (.slice BL k dL) from (hls.gs.cell 78 (by decide)).1) (And.intro (hls.gs.cell 78 (by decide)).2 (And.intro (show LsS 24 1 numE g A c b u WC (w2.setCell ⟨u, 78, none⟩ (.slice BN (k + 1) dN)) s3 ⟨⟨s1, mu, (n3 : Int), (n4 : Int), (n5 : Int), (n6 : Int), (n7 : Int), lk, l0, l1, l2, l ++ [(m3 : Int)]⟩, v0, v1, v2, .slice BN (k + 1) dN⟩ (.slice BN (k + 1) dN) (l ++ [(m3 : Int)]) from hls.set 78 _ (upd_s _ _ _)) (show StepP u32C b s (m3 : Int) s3 from HC3.out))))
                    refine hK5 _ _ trivial (fun hS5 => ?_)
                    clear hp hy hrun hls hK5 K5 hS1
                    refine held_one (i := 6) (oi := ?ot122) (by kernel_rfl) ?at122 ?ct122 (fun K6 hK6 => ?_)
                    (case at122 => (simp only [List.getElem?_toArray, List.getElem?_cons_zero, List.getElem?_cons_succ]; rfl))
                    (case ct122 => kernel_rfl)
                    refine Lib.wp_append_run _ _ _ _ _ rfl (.slice BL k dL) (.slice (some ⟨p, 0, none⟩) 1 1) ?sa52 ?sb53 (.slice BN (k + 1) dN) w2 ?sc54 ?_
                    case sa52 => rfl
                    case sb53 => rfl
                    case sc54 => (have h0 := HRUN.out; show (Builtin.append_ #[_, _] 62 _).run Tryd.prog _ = _; exact h0)
                    refine hK6 _ _ trivial (fun hS6 => ?_)
                    clear HRUN HC3 hw3 hK6 K6 hS5
                    clear HL
                    revert hS6
                    revert HFIN
                    revert w2
                    revert dN
                    revert BN
                    revert p
                    revert s3
                    revert m3
                    exact tail 0
                  case hjt125 =>
                    refine ow_bs1 62 _ rfl (.int .u32 (m3 : Int)) rfl _ (build_num (m3 : Int) _) ?_
                    intro p y0 hp hy
                    obtain ⟨BN, dN, w2, hrun, hls⟩ := HL.out.app Tryd.underlying62 info_num rfl (by decide) (fun x i hi => numE_one x _ i hi) (m3 : Int) (by have := HLK.out; omega) (by decide) k HLK.out.1
                    rw [← hp] at hrun
                    rw [← hy] at hrun
                    replace HL := Lib.hid (HL.out.on (W' := y0) (by rw [hy]; exact (Below.refl _ _).alloc (Nat.le_refl _) _))
                    have HRUN := Lib.hid hrun
                    have HFIN := Lib.hid (And.intro (show w2.cell? ⟨u, 78, none⟩ = some (.slice BL k dL) from (hls.gs.cell 78 (by decide)).1) (And.intro (hls.gs.cell 78 (by decide)).2 (And.intro (show LsS 24 1 numE g A c b u WC (w2.setCell ⟨u, 78, none⟩ (.slice BN (k + 1) dN)) s3 ⟨⟨s1, mu, (n3 : Int), (n4 : Int), (n5 : Int), (n6 : Int), (n7 : Int), lk, l0, l1, l2, l ++ [(m3 : Int)]⟩, v0, v1, v2, .slice BN (k + 1) dN⟩ (.slice BN (k + 1) dN) (l ++ [(m3 : Int)]) from hls.set 78 _ (upd_s _ _ _)) (show StepP u32C b s (m3 : Int) s3 from HC3.out))))
                    refine hK5 _ _ trivial (fun hS5 => ?_)
                    clear hp hy hrun hls hK5 K5 hS3
                    refine held_one (i := 1) (oi := ?ot123) (by kernel_rfl) ?at123 ?ct123 (fun K1 hK1 => ?_)
                    (case at123 => (simp only [List.getElem?_toArray, List.getElem?_cons_zero, List.getElem?_cons_succ]; rfl))
                    (case ct123 => kernel_rfl)
                    have k0 := HCF.out _ _ HL.out
                    go_simp
                    refine hK1 _ _ trivial (fun hS1 => ?_)
                    clear k0 hK1 K1 hS5
                    refine held_one (i := 6) (oi := ?ot124) (by kernel_rfl) ?at124 ?ct124 (fun K6 hK6 => ?_)
                    (case at124 => (simp only [List.getElem?_toArray, List.getElem?_cons_zero, List.getElem?_cons_succ]; rfl))
                    (case ct124 => kernel_rfl)
                    refine Lib.wp_append_run _ _ _ _ _ rfl (.slice BL k dL) (.slice (some ⟨p, 0, none⟩) 1 1) ?sa55 ?sb56 (.slice BN (k + 1) dN) w2 ?sc57 ?_
                    case sa55 => rfl
                    case sb56 => rfl
                    case sc57 => (have h0 := HRUN.out; show (Builtin.append_ #[_, _] 62 _).run Tryd.prog _ = _; exact h0)
                    refine hK6 _ _ trivial (fun hS6 => ?_)
                    clear HRUN HC3 hw3 hK6 K6 hS1
                    clear HL
                    revert hS6
                    revert HFIN
                    revert w2
                    revert dN
                    revert BN
                    revert p
                    revert s3
                    revert m3
                    exact tail 0
              case t =>
                intro m3 s3 p BN dN w2 HFIN hS6
                (refine held_take (i := 7) (oi := ?ot127) (v := ?vt127) ?at127 (by kernel_rfl) (by kernel_rfl) (by kernel_rfl) ?bt127 ?ct127 ?dt127 (by assumption) ?rt127; (case at127 => (simp only [List.getElem?_toArray, List.getElem?_cons_zero, List.getElem?_cons_succ]; rfl)); (case bt127 => exact fun _ _ _ h => h); (case ct127 => kernel_rfl); (case dt127 => (intro W hW; clear hW; go_simp; (try with_reducible rfl))); (case' rt127 => simp only [Act.put, List.setIfInBounds_toArray, List.set_cons_zero, List.set_cons_succ]))
                refine held_one (i := 8) (oi := ?ot128) (by kernel_rfl) ?at128 ?ct128 (fun K8 hK8 => ?_)
                (case at128 => (simp only [List.getElem?_toArray, List.getElem?_cons_zero, List.getElem?_cons_succ]; rfl))
                (case ct128 => kernel_rfl)
                have k3 := HFIN.out.1
                have k4 := HFIN.out.2.1
                go_simp
                refine hK8 _ _ trivial (fun hS8 => ?_)
                clear k3 k4 hK8 K8 hS6
                refine wpAnyH_done (by kernel_rfl) ?_ _
                clear hS8
                obtain ⟨WN, hWN⟩ : ∃ W, W = w2.setCell ⟨u, 78, none⟩ (.slice BN (k + 1) dN) := ⟨_, rfl⟩
                have HFN := Lib.hid HFIN.out.2.2
                rw [← hWN] at HFN ⊢
                clear hWN HFIN
                go_wp2_with fail
                go_roundw
                case rel => exact ⟨k + 1, BN, dN, l ++ [(m3 : Int)], s3, by have := HLT.out; omega, by go_num, Lib.hid ⟨by rw [List.length_append, HLK.out.1]; rfl, HFN.out.1, HST.out.snoc HE0.out HFN.out.2⟩⟩
                case measure => have := HLT.out; simp [intOf]; omega
            · have z0 : ((E : Int) == 0) = false := by simp; omega
              have z1 : ¬ (E : Int) = 0 := by omega
              have HNE : Hid (s.err ≠ none) := Lib.hid (erN_some (by rw [← HEE.out]; exact h0))
              clear h0
              go_wp2_with fail
              go_meet
              exact ⟨_, l, s, Lib.hid ⟨HI.out.2.1, HI.out.2.2.ends (Or.inr ⟨hk, HNE.out⟩)⟩⟩
          · have hki : ¬ (k : Int) < (n3' : Int) := by omega
            have HKE : Hid (k = n3') := Lib.hid (by omega)
            go_wp2_with fail
            go_meet
            exact ⟨_, l, s, Lib.hid ⟨HI.out.2.1, HI.out.2.2.ends (Or.inl HKE.out)⟩⟩
      obtain ⟨v3, l3, sE, HH⟩ := hcut
      obtain ⟨WD, hwx⟩ : ∃ W : World, W = wc := ⟨_, rfl⟩
      rw [← hwx] at HH
      (try rw [← hwx])
      clear hwx
      have HL3 := Lib.hid HH.out.2
      have HN7 := Lib.hid (fun Y (hY : FT g u WD Y) => HN7.out Y (HH.out.1.gs.ft.trans hY))
      have HFT2 : Hid (FT g u W1 WD) := Lib.hid (HFT2.out.trans HH.out.1.gs.ft)
      have HG := Lib.hid HH.out.1.gs.base
      have HO3 : Hid (OwnE 24 1 numE WD (u + 1) v3 l3) := Lib.hid (HH.out.1.own.low HH.out.1.gs.uv)
      have HO0 := Lib.hid (HO0.out.ft HH.out.1.gs.ft (Nat.lt_succ_of_lt HG.out.gu) (Nat.lt_succ_self _))
      have HO1 := Lib.hid (HO1.out.ft HH.out.1.gs.ft (Nat.lt_succ_of_lt HG.out.gu) (Nat.lt_succ_self _))
      have HO2 := Lib.hid (HO2.out.ft HH.out.1.gs.ft (Nat.lt_succ_of_lt HG.out.gu) (Nat.lt_succ_self _))
      have HBD := Lib.hid (fun (h : sE.err = none) => HBD.out (HL3.out.on h).1)
      clear HH
      have HRA : Hid (Arr WD r2 64 79 (guestE zGV)) := Lib.hid (HFT2.out.arr HRU.out.2 (by have := HGR.out; omega) (by have := HRU.out.1; omega))
      have HY1 : Hid (GV1 ⟨⟨s1, mu, (n3 : Int), (n4 : Int), (n5 : Int), (n6 : Int), (n7 : Int), lk, l0, l1, l2, l3⟩, v0, v1, v2, v3⟩) := Lib.hid ⟨HO0.out.one, HO1.out.one, HO2.out.one, HO3.out.one⟩
      have HEND : Hid (∀ W', Save r2 WD W' → Q (.returned (.agg (vec 79 (guestE ⟨⟨s1, mu, (n3 : Int), (n4 : Int), (n5 : Int), (n6 : Int), (n7 : Int), lk, l0, l1, l2, l3⟩, v0, v1, v2, v3⟩)))) W') := Lib.hid (fun W' hs => by
        have hgr := HGR.out
        have hru := HRU.out.1
        refine HQ.out ⟨⟨s1, mu, (n3 : Int), (n4 : Int), (n5 : Int), (n6 : Int), (n7 : Int), lk, l0, l1, l2, l3⟩, v0, v1, v2, v3⟩ sE W' HLK.out ?_ ?_ (HG.out.rq.save hs hgr) ?_
        · refine GOwn.low (base := u + 1) ?_ (by have := HR2.out; omega)
          exact ⟨HO0.out.save hs (by omega), HO1.out.save hs (by omega), HO2.out.save hs (by omega), HO3.out.save hs (by omega)⟩
        · exact step_guest (step_gh HT1.out (by rw [HMU.out]; exact HT2.out.bool) HT3.out HT4.out HT5.out HT6.out HT7.out HS9.out) HCT.out HL0.out HL1.out HL2.out HL3.out
        · have hr2 := HR2.out
          refine ⟨hs.os.trans (HFT2.out.os.trans HSW.out.os), hs.tape.trans (HFT2.out.tape.trans HSW.out.tape), hs.output.trans (HFT2.out.output.trans HSW.out.output), Nat.le_trans HSW.out.size (Nat.le_trans HFT2.out.size hs.size), fun k hk hkg => ?_⟩
          have h1 := HSW.out.block k hk hkg
          have h2 := HFT2.out.block k (Nat.lt_of_lt_of_le hk HSW.out.size) hkg (by omega)
          have h3 := hs.block k (Nat.lt_of_lt_of_le hk (Nat.le_trans HSW.out.size HFT2.out.size)) (by omega)
          exact h3.trans (h2.trans h1))
      go_wp2_with (first
        | ((with_reducible show wpList _ _ _ (Oper.mk _ (.load _ _) _ _ _ _ :: _) _ _); refine wl_load rfl 64 _ rfl _ rfl _ (run_load_arr HG.out.box Tryd.underlying64 rfl infoGu) ?_)
        | ((with_reducible show wpList _ _ _ (Oper.mk _ (.store _ _ _) _ _ _ _ :: _) _ _); refine wl_store rfl 64 _ _ rfl _ rfl _ rfl (run_store_arr HRA.out (guestE ⟨⟨s1, mu, (n3 : Int), (n4 : Int), (n5 : Int), (n6 : Int), (n7 : Int), lk, l0, l1, l2, l3⟩, v0, v1, v2, v3⟩) infoGu (guestE_one _ HY1.out _)) ?_))
      exact bodyPost_ret (results_cell1 rfl _ _ _ rfl (run_load_arr (HRA.out.row _) Tryd.underlying64 rfl infoGu)) rfl (HEND.out _ ((Save.refl _ _).setRow _))
end
end Go.Proofs.YtmcpmcicolpoeaaDoor
