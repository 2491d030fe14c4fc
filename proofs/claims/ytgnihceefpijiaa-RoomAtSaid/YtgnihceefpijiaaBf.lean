/- Ranked parts: what stands ahead of what. -/
import Derived.Test.YtgnihceefpijiaaSt5
import Derived.Test.YtgnihceefpijiaaRp
namespace Go.Proofs.Ytgnihceefpijiaa
open Go.RowKit Go.Shelf Go.Lib Go.Sort Go.Proofs

/-- A part with its rank. -/
structure Rk where
  m : Mp
  r : Int
instance : Inhabited Rk := ⟨⟨zMp, 0⟩⟩
def rkE (x : Rk) : Nat → Value
  | 0 => .int .u64 x.m.ipa
  | 1 => .int .u64 x.m.pa
  | 2 => .int .u64 x.m.size
  | 3 => .int .i64 x.m.perm
  | 4 => .int .i64 x.m.kind
  | _ => .int .i64 x.r
theorem rkE_one (x : Rk) (n : Nat) : ∀ i, i < n → (rkE x i).oneCell' = true := by
  intro i _
  unfold rkE
  split <;> rfl
def zRk : Rk := ⟨zMp, 0⟩
theorem infoRk : (Try.prog.info? 82).map (·.size) = some 6 := by kernel_rfl
theorem zeroRk (w : World) : (zeroValue 82).run Try.prog w = .ok (.agg (vec 6 (rkE zRk))) w :=
  (zero_of_info (P := Try.prog) (t := 82) (v := .agg (vec 6 (rkE zRk))) (n := 6) (by kernel_rfl)).1 w
abbrev enc6 (x : Rk) : List Value := [.int .u64 x.m.ipa, .int .u64 x.m.pa, .int .u64 x.m.size, .int .i64 x.m.perm, .int .i64 x.m.kind, .int .i64 x.r]
def cmpN (x y : Int) : Int := if x < y then -1 else if y < x then 1 else 0
def orN (x y : Int) : Int := if x = 0 then y else x
theorem isNaNu_any (x : Int) (w : World) : Calls Try.prog 54 #[.int .u64 x] w fun e w' => e = .returned (.bool false) ∧ w' = w := by
  go_enter Try.func54, Try.ntmps54
  go_wp2
  go_ret
  exact ⟨by simp, rfl⟩
theorem isNaNi_any (x : Int) (w : World) : Calls Try.prog 55 #[.int .i64 x] w fun e w' => e = .returned (.bool false) ∧ w' = w := by
  go_enter Try.func55, Try.ntmps55
  go_wp2
  go_ret
  exact ⟨by simp, rfl⟩
theorem cmpu_any (x y : Int) (w : World) : Calls Try.prog 49 #[.int .u64 x, .int .u64 y] w fun e w' => e = .returned (.int .i64 (cmpN x y)) ∧ w' = w := by
  go_enter Try.func49, Try.ntmps49
  go_wp2_with (go_at_call 54; refine (isNaNu_any _ _).mono ?_; rintro e w' ⟨rfl, rfl⟩)
  all_goals (go_ret; refine ⟨?_, rfl⟩; unfold cmpN; (repeat' split) <;> first | rfl | (exfalso; omega))
theorem cmpi_any (x y : Int) (w : World) : Calls Try.prog 50 #[.int .i64 x, .int .i64 y] w fun e w' => e = .returned (.int .i64 (cmpN x y)) ∧ w' = w := by
  go_enter Try.func50, Try.ntmps50
  go_wp2_with (go_at_call 55; refine (isNaNi_any _ _).mono ?_; rintro e w' ⟨rfl, rfl⟩)
  all_goals (go_ret; refine ⟨?_, rfl⟩; unfold cmpN; (repeat' split) <;> first | rfl | (exfalso; omega))
set_option maxHeartbeats 1000000 in
theorem or_any (a b : Int) (B : Nat) (w : World) (c0 : w.cell? ⟨B, 0, none⟩ = some (.int .i64 a)) (c1 : w.cell? ⟨B, 1, none⟩ = some (.int .i64 b)) :
    Calls Try.prog 48 #[.slice (some ⟨B, 0, none⟩) 2 2] w fun e w' => e = .returned (.int .i64 (orN a b)) ∧ w' = w := by
  have HO : Hid (orN a b = if a = 0 then b else a) := Lib.hid rfl
  generalize orN a b = r at HO ⊢
  go_enter Try.func48, Try.ntmps48
  go_wp2
  go_loopg [8] 2 (fun kx s wr => ∃ k : Nat, s = .int .i64 (k : Int) ∧ k ≤ 2 ∧ 2 - k ≤ kx ∧ Aside ((1 ≤ k → a = 0) ∧ (2 ≤ k → b = 0)) ∧ wr = w)
  case atStart => exact ⟨0, rfl, by omega, by omega, ⟨(fun h => by omega), (fun h => by omega)⟩, rfl⟩
  case round =>
    obtain ⟨k, rfl, hk, hkx, HK, hwr⟩ := hrel
    subst hwr
    rcases (by omega : k = 0 ∨ k = 1 ∨ k = 2) with rfl | rfl | rfl
    · by_cases ha : a = 0
      · have ha2 : (a != 0) = false := by simp [ha]
        have HA := Lib.hid ha
        clear ha
        go_wp2_with fail
        go_roundg 1
        case measure => omega
        case rel => exact ⟨1, by first | rfl | go_num, by omega, by omega, ⟨fun _ => HA.out, fun h => by omega⟩, rfl⟩
      · have ha2 : (a != 0) = true := by simp [ha]
        have HR := Lib.hid (HO.out.trans (if_neg ha))
        clear ha
        go_wp2_with fail
        (try simp only [Exit.inBlock, Exit.then])
        go_ret
        exact ⟨by rw [HR.out]; rfl, rfl⟩
    · by_cases hb : b = 0
      · have hb2 : (b != 0) = false := by simp [hb]
        have HB := Lib.hid hb
        clear hb
        go_wp2_with fail
        go_roundg 0
        case measure => omega
        case rel => exact ⟨2, by first | rfl | go_num, by omega, by omega, ⟨fun _ => HK.out.1 (by omega), fun _ => HB.out⟩, rfl⟩
      · have hb2 : (b != 0) = true := by simp [hb]
        have HR := Lib.hid (HO.out.trans (if_pos (HK.out.1 (by omega))))
        clear hb
        go_wp2_with fail
        (try simp only [Exit.inBlock, Exit.then])
        go_ret
        exact ⟨by rw [HR.out]; rfl, rfl⟩
    · have HR := Lib.hid ((HO.out.trans (if_pos (HK.out.1 (by omega)))).trans (HK.out.2 (by omega)))
      go_wp2_with fail
      go_ret
      exact ⟨by rw [HR.out]; rfl, rfl⟩

/-- Y is V with new blocks behind it. -/
def GR (V Y : World) : Prop := ∃ n os, Y = grow (V.drewN n) os
theorem GR.refl (V : World) : GR V V := ⟨0, #[], by rw [grow_empty]; rfl⟩
theorem GR.trans {X Y Z : World} (h : GR X Y) (k : GR Y Z) : GR X Z := by
  obtain ⟨n, os, rfl⟩ := h
  obtain ⟨m, os2, rfl⟩ := k
  exact ⟨n + m, os ++ os2, by
    show grow (grow ((X.drewN n).drewN m) os) os2 = _
    rw [grow_grow]
    show grow { X with drawn := X.drawn + n + m } _ = grow { X with drawn := X.drawn + (n + m) } _
    rw [Nat.add_assoc]⟩
theorem GR.alloc {V Y : World} (h : GR V Y) (o : Obj) : GR V (Y.alloc o) := h.trans ⟨0, #[o], by rw [alloc_eq_grow]; rfl⟩
theorem GR.drew {V Y : World} (h : GR V Y) : GR V Y.drew := h.trans ⟨1, #[], by rw [grow_empty]; rfl⟩
theorem GR.cell {V Y : World} (h : GR V Y) {p : Addr} {v : Value} (hc : V.cell? p = some v) : Y.cell? p = some v := by
  obtain ⟨n, os, rfl⟩ := h
  rw [cell?_grow _ _ _ (by exact World.block_lt_of_cell? V p hc)]
  exact hc
theorem infoInt : (Try.prog.info? 3).map (fun i => (i.zero, i.size, i.bytes)) = some (some (.int .i64 0), 1, 8) := by kernel_rfl
theorem build_ints (a b : Int) (w : World) : (Instr.buildSlice 98 2 #[(0, .int .i64 a), (1, .int .i64 b)]).run Try.prog w = .ok (.slice (some ⟨w.heap.size, 0, none⟩) 2 2) (w.alloc (.cells #[.int .i64 a, .int .i64 b] 3)) := by
  obtain ⟨i0, hi, hz0, hz1, hz2⟩ := info_parts infoInt
  refine run_buildSlice (P := Try.prog) w 98 3 2 _ _ i0 (.int .i64 0) Try.underlying98 hi hz0 (by rw [hz1]; decide) (by rw [hz1]; decide) ?_
  rw [hz1]
  kernel_rfl
def ltB (x y : Rk) : Int := orN (cmpN x.m.ipa y.m.ipa) (cmpN x.r y.r)
set_option maxHeartbeats 2000000 in
theorem before_any (x y : Rk) (w : World) : Calls Try.prog 38 #[.agg (enc6 x).toArray, .agg (enc6 y).toArray] w fun e w' => e = .returned (.int .i64 (ltB x y)) ∧ ∃ q os', w' = grow (w.drewN q) os' := by
  obtain ⟨⟨x0, x1, x2, x3, x4⟩, xr⟩ := x
  obtain ⟨⟨y0, y1, y2, y3, y4⟩, yr⟩ := y
  obtain ⟨r1, hr1⟩ : ∃ r, r = cmpN x0 y0 := ⟨_, rfl⟩
  obtain ⟨r2, hr2⟩ : ∃ r, r = cmpN xr yr := ⟨_, rfl⟩
  obtain ⟨r3, hr3⟩ : ∃ r, r = orN r1 r2 := ⟨_, rfl⟩
  have e3 : ltB ⟨⟨x0, x1, x2, x3, x4⟩, xr⟩ ⟨⟨y0, y1, y2, y3, y4⟩, yr⟩ = r3 := by unfold ltB; rw [hr3, hr1, hr2]
  rw [e3]
  have H1 := Lib.hid fun W => cmpu_any x0 y0 W
  have H2 := Lib.hid fun W => cmpi_any xr yr W
  have H3 := Lib.hid fun B W h1 h2 => or_any r1 r2 B W h1 h2
  rw [← hr1] at H1
  rw [← hr2] at H2
  rw [← hr3] at H3
  clear hr1 hr2 hr3 e3
  obtain ⟨V, hV⟩ : ∃ V, V = (w.alloc (.cells #[.int .u64 x0, .int .u64 x1, .int .u64 x2, .int .i64 x3, .int .i64 x4, .int .i64 xr] 82)).alloc (.cells #[.int .u64 y0, .int .u64 y1, .int .u64 y2, .int .i64 y3, .int .i64 y4, .int .i64 yr] 82) := ⟨_, rfl⟩
  have hG : GR w V := by rw [hV]; exact ((GR.refl w).alloc _).alloc _
  have HV := Lib.hid hV
  have HG := Lib.hid hG
  have q0 : V.cell? ⟨w.heap.size, 0, none⟩ = some (.int .u64 x0) := by rw [hV]; simp
  have q1 : V.cell? ⟨w.heap.size, 5, none⟩ = some (.int .i64 xr) := by rw [hV]; simp
  have q2 : V.cell? ⟨w.heap.size + 1, 0, none⟩ = some (.int .u64 y0) := by rw [hV]; simp
  have q3 : V.cell? ⟨w.heap.size + 1, 5, none⟩ = some (.int .i64 yr) := by rw [hV]; simp
  have HQ := Lib.hid (And.intro q0 (And.intro q1 (And.intro q2 q3)))
  obtain ⟨g, hg⟩ : ∃ g, g = w.heap.size := ⟨_, rfl⟩
  obtain ⟨h, hh⟩ : ∃ h, h = w.heap.size + 1 := ⟨_, rfl⟩
  have HGH := Lib.hid (And.intro hg hh)
  rw [← hh, ← hg] at HQ
  clear hV hG q0 q1 q2 q3 hg hh
  go_enter Try.func38, Try.ntmps38
  go_upto_region 1 with fail
  rw [← HV.out]
  rw [← HGH.out.2, ← HGH.out.1]
  refine wp_region_held_drew (S := fun Y => GR V Y) (by kernel_rfl) (GR.drew (GR.refl V)) (fun hS => ?_)
  (refine held_take (i := 0) (oi := ?ot1) (v := ?vt1) ?at1 (by kernel_rfl) (by kernel_rfl) (by kernel_rfl) ?bt1 ?ct1 ?dt1 (by assumption) ?rt1; (case at1 => (simp only [List.getElem?_toArray, List.getElem?_cons_zero]; rfl)); (case bt1 => exact fun _ _ _ h => h); (case ct1 => kernel_rfl); (case dt1 => (intro W hW; (try dsimp only at hW); go_split_ands; go_simp; (try with_reducible rfl))); (case' rt1 => simp only [Act.put, List.setIfInBounds_toArray, List.set_cons_zero, List.set_cons_succ]))
  (refine held_take (i := 1) (oi := ?ot2) (v := ?vt2) ?at2 (by kernel_rfl) (by kernel_rfl) (by kernel_rfl) ?bt2 ?ct2 ?dt2 (by assumption) ?rt2; (case at2 => (simp only [List.getElem?_toArray, List.getElem?_cons_zero, List.getElem?_cons_succ]; rfl)); (case bt2 => exact fun _ _ _ h => h); (case ct2 => kernel_rfl); (case dt2 => (intro W hW; (try dsimp only at hW); go_split_ands; go_simp; (try with_reducible rfl))); (case' rt2 => simp only [Act.put, List.setIfInBounds_toArray, List.set_cons_zero, List.set_cons_succ]))
  (refine held_take (i := 2) (oi := ?ot3) (v := ?vt3) ?at3 (by kernel_rfl) (by kernel_rfl) (by kernel_rfl) ?bt3 ?ct3 ?dt3 (by assumption) ?rt3; (case at3 => (simp only [List.getElem?_toArray, List.getElem?_cons_zero, List.getElem?_cons_succ]; rfl)); (case bt3 => exact fun _ _ _ h => h); (case ct3 => kernel_rfl); (case dt3 => (intro W hW; have hc := (show GR V W from hW).cell HQ.out.1; clear hW; go_simp; (try with_reducible rfl))); (case' rt3 => simp only [Act.put, List.setIfInBounds_toArray, List.set_cons_zero, List.set_cons_succ]))
  (refine held_take (i := 3) (oi := ?ot4) (v := ?vt4) ?at4 (by kernel_rfl) (by kernel_rfl) (by kernel_rfl) ?bt4 ?ct4 ?dt4 (by assumption) ?rt4; (case at4 => (simp only [List.getElem?_toArray, List.getElem?_cons_zero, List.getElem?_cons_succ]; rfl)); (case bt4 => exact fun _ _ _ h => h); (case ct4 => kernel_rfl); (case dt4 => (intro W hW; (try dsimp only at hW); go_split_ands; go_simp; (try with_reducible rfl))); (case' rt4 => simp only [Act.put, List.setIfInBounds_toArray, List.set_cons_zero, List.set_cons_succ]))
  (refine held_take (i := 4) (oi := ?ot5) (v := ?vt5) ?at5 (by kernel_rfl) (by kernel_rfl) (by kernel_rfl) ?bt5 ?ct5 ?dt5 (by assumption) ?rt5; (case at5 => (simp only [List.getElem?_toArray, List.getElem?_cons_zero, List.getElem?_cons_succ]; rfl)); (case bt5 => exact fun _ _ _ h => h); (case ct5 => kernel_rfl); (case dt5 => (intro W hW; (try dsimp only at hW); go_split_ands; go_simp; (try with_reducible rfl))); (case' rt5 => simp only [Act.put, List.setIfInBounds_toArray, List.set_cons_zero, List.set_cons_succ]))
  (refine held_take (i := 5) (oi := ?ot6) (v := ?vt6) ?at6 (by kernel_rfl) (by kernel_rfl) (by kernel_rfl) ?bt6 ?ct6 ?dt6 (by assumption) ?rt6; (case at6 => (simp only [List.getElem?_toArray, List.getElem?_cons_zero, List.getElem?_cons_succ]; rfl)); (case bt6 => exact fun _ _ _ h => h); (case ct6 => kernel_rfl); (case dt6 => (intro W hW; have hc := (show GR V W from hW).cell HQ.out.2.2.1; clear hW; go_simp; (try with_reducible rfl))); (case' rt6 => simp only [Act.put, List.setIfInBounds_toArray, List.set_cons_zero, List.set_cons_succ]))
  (refine held_take (i := 7) (oi := ?ot7) (v := ?vt7) ?at7 (by kernel_rfl) (by kernel_rfl) (by kernel_rfl) ?bt7 ?ct7 ?dt7 (by assumption) ?rt7; (case at7 => (simp only [List.getElem?_toArray, List.getElem?_cons_zero, List.getElem?_cons_succ]; rfl)); (case bt7 => exact fun _ _ _ h => h); (case ct7 => kernel_rfl); (case dt7 => (intro W hW; (try dsimp only at hW); go_split_ands; go_simp; (try with_reducible rfl))); (case' rt7 => simp only [Act.put, List.setIfInBounds_toArray, List.set_cons_zero, List.set_cons_succ]))
  (refine held_take (i := 8) (oi := ?ot8) (v := ?vt8) ?at8 (by kernel_rfl) (by kernel_rfl) (by kernel_rfl) ?bt8 ?ct8 ?dt8 (by assumption) ?rt8; (case at8 => (simp only [List.getElem?_toArray, List.getElem?_cons_zero, List.getElem?_cons_succ]; rfl)); (case bt8 => exact fun _ _ _ h => h); (case ct8 => kernel_rfl); (case dt8 => (intro W hW; have hc := (show GR V W from hW).cell HQ.out.2.1; clear hW; go_simp; (try with_reducible rfl))); (case' rt8 => simp only [Act.put, List.setIfInBounds_toArray, List.set_cons_zero, List.set_cons_succ]))
  (refine held_take (i := 9) (oi := ?ot9) (v := ?vt9) ?at9 (by kernel_rfl) (by kernel_rfl) (by kernel_rfl) ?bt9 ?ct9 ?dt9 (by assumption) ?rt9; (case at9 => (simp only [List.getElem?_toArray, List.getElem?_cons_zero, List.getElem?_cons_succ]; rfl)); (case bt9 => exact fun _ _ _ h => h); (case ct9 => kernel_rfl); (case dt9 => (intro W hW; (try dsimp only at hW); go_split_ands; go_simp; (try with_reducible rfl))); (case' rt9 => simp only [Act.put, List.setIfInBounds_toArray, List.set_cons_zero, List.set_cons_succ]))
  (refine held_take (i := 10) (oi := ?ot10) (v := ?vt10) ?at10 (by kernel_rfl) (by kernel_rfl) (by kernel_rfl) ?bt10 ?ct10 ?dt10 (by assumption) ?rt10; (case at10 => (simp only [List.getElem?_toArray, List.getElem?_cons_zero, List.getElem?_cons_succ]; rfl)); (case bt10 => exact fun _ _ _ h => h); (case ct10 => kernel_rfl); (case dt10 => (intro W hW; have hc := (show GR V W from hW).cell HQ.out.2.2.2; clear hW; go_simp; (try with_reducible rfl))); (case' rt10 => simp only [Act.put, List.setIfInBounds_toArray, List.set_cons_zero, List.set_cons_succ]))
  refine held_one (i := 6) (oi := ?ot11) (by kernel_rfl) ?at11 ?ct11 (fun K6 hK6 => ?_)
  (case at11 => (simp only [List.getElem?_toArray, List.getElem?_cons_zero, List.getElem?_cons_succ]; rfl))
  (case ct11 => kernel_rfl)
  go_simp
  refine (H1.out _).mono ?_
  rintro e y6 ⟨rfl, rfl⟩
  refine hK6 _ _ hS (fun hS6 => ?_)
  clear hS hK6 K6
  refine held_one (i := 11) (oi := ?ot12) (by kernel_rfl) ?at12 ?ct12 (fun K11 hK11 => ?_)
  (case at12 => (simp only [List.getElem?_toArray, List.getElem?_cons_zero, List.getElem?_cons_succ]; rfl))
  (case ct12 => kernel_rfl)
  go_simp
  refine (H2.out _).mono ?_
  rintro e y11 ⟨rfl, rfl⟩
  refine hK11 _ _ hS6 (fun hS11 => ?_)
  clear hS6 hK11 K11
  refine held_one (i := 12) (oi := ?ot13) (by kernel_rfl) ?at13 ?ct13 (fun K12 hK12 => ?_)
  (case at13 => (simp only [List.getElem?_toArray, List.getElem?_cons_zero, List.getElem?_cons_succ]; rfl))
  (case ct13 => kernel_rfl)
  have hbs := fun W => build_ints r1 r2 W
  go_simp
  have c0 := World.cell?_alloc_new
  refine hK12 _ _ ((show GR V _ from hS11).alloc (.cells #[.int .i64 r1, .int .i64 r2] 3)) (fun hS12 => ?_)
  clear hbs hK12 K12 hS11
  refine held_one (i := 13) (oi := ?ot14) (by kernel_rfl) ?at14 ?ct14 (fun K13 hK13 => ?_)
  (case at14 => (simp only [List.getElem?_toArray, List.getElem?_cons_zero, List.getElem?_cons_succ]; rfl))
  (case ct14 => kernel_rfl)
  go_simp
  refine (H3.out _ _ (by simp) (by simp)).mono ?_
  rintro e y13 ⟨rfl, rfl⟩
  refine hK13 _ _ hS12 (fun hS13 => ?_)
  clear hS12 hK13 K13
  (refine held_take (i := 14) (oi := ?ot15) (v := ?vt15) ?at15 (by kernel_rfl) (by kernel_rfl) (by kernel_rfl) ?bt15 ?ct15 ?dt15 (by assumption) ?rt15; (case at15 => (simp only [List.getElem?_toArray, List.getElem?_cons_zero, List.getElem?_cons_succ]; rfl)); (case bt15 => exact fun _ _ _ h => h); (case ct15 => kernel_rfl); (case dt15 => (intro W hW; (try dsimp only at hW); go_split_ands; go_simp; (try with_reducible rfl))); (case' rt15 => simp only [Act.put, List.setIfInBounds_toArray, List.set_cons_zero, List.set_cons_succ]))
  refine wpAnyH_done (by kernel_rfl) ?_ _
  go_wp2
  go_ret
  exact ⟨rfl, HG.out.trans hS13⟩
end Go.Proofs.Ytgnihceefpijiaa
