import Derived.Test.YtkaipknkjocfiaaGreatZa45
import Derived.Test.YtkaipknkjocfiaaGreatZa46
namespace Go.Proofs.YtkaipknkjocfiaaGreat
open Go.RowKit Go.Maps
attribute [local go_sem ↓ high] zeroSp zeroCf
set_option maxRecDepth 100000 in
theorem catchK_idle (q0 q1 q2 : Value) (w : World) : CallsD Tryz.prog 17 #[q0, q1, q2] .returning w fun e u' w' => e = .returned (.tuple #[]) ∧ u' = .returning ∧ w' = w := by
 refine callsD_of_wpS Tryz.func17 rfl fun c₀ cs hu => ?_
 apply wpS_seq
 apply wpS_region
 simp [wpOpsS, go_sem, recoverD, hu, Tryz.ntmps17, Exit.thenS]
 refine wpS_of_wp ?_
 rw [show (#[q0, q1, q2] ++ ((Array.replicate 11 undef).setIfInBounds 2 Value.nilIface).setIfInBounds 0 Value.nilIface) = #[q0, q1, q2, Value.nilIface, undef, Value.nilIface, undef, undef, undef, undef, undef, undef, undef, undef] from rfl]
 go_wp2
 cases c₀
 simp_all [bodyPostS, results, Tryz.results17]
theorem assertK_any (v : Value) (T : TypeId) (w : World) : (Instr.typeAssert (.iface 69 v) T 69 false).run Tryz.prog w = .ok v w := by
 simp [Instr.typeAssert, run_underlying Tryz.underlying69]
set_option maxRecDepth 100000 in
set_option maxHeartbeats 2000000 in
theorem catchK_pan (g0 g1 g2 m r k : Nat) (z0 z1 z2 : Int) (older : List PanicEntry) (w : World) (h0 : Blk w g0 3 #[.int .i64 z0]) (h1 : Blk w g1 3 #[.int .i64 z1]) (h2 : Blk w g2 34 #[.int .i64 z2]) (d1 : g1 ≠ g0) (d2 : g2 ≠ g0) (d3 : g1 ≠ g2) (m0 : m ≤ g0) (m1 : m ≤ g1) (m2 : m ≤ g2) :
  CallsD Tryz.prog 17 #[.pointer (some ⟨g0, 0, none⟩), .pointer (some ⟨g1, 0, none⟩), .pointer (some ⟨g2, 0, none⟩)] (.panicking ({ v := brokenV r k, recovered := false } :: older)) w fun e u' w' =>
   e = .returned (.tuple #[]) ∧ u' = .panicking ({ v := brokenV r k, recovered := true } :: older) ∧ Blk w' g0 3 #[.int .i64 (r : Int)] ∧ Blk w' g1 3 #[.int .i64 (k : Int)] ∧ Blk w' g2 34 #[.int .i64 170] ∧ Below m w w' := by
 unfold brokenV
 refine callsD_of_wpS Tryz.func17 rfl fun c₀ cs hu => ?_
 apply wpS_seq
 apply wpS_region
 simp [wpOpsS, go_sem, recoverD, hu, Tryz.ntmps17, Exit.thenS]
 refine wpS_of_wp ?_
 rw [show (#[Value.pointer (some ⟨g0, 0, none⟩), Value.pointer (some ⟨g1, 0, none⟩), Value.pointer (some ⟨g2, 0, none⟩)] ++ ((Array.replicate 11 undef).setIfInBounds 2 (Value.iface 69 (Value.agg #[Value.int IntKind.i64 ↑r, Value.int IntKind.i64 ↑k]))).setIfInBounds 0 (Value.iface 69 (Value.agg #[Value.int IntKind.i64 ↑r, Value.int IntKind.i64 ↑k])))
  = #[Value.pointer (some ⟨g0, 0, none⟩), Value.pointer (some ⟨g1, 0, none⟩), Value.pointer (some ⟨g2, 0, none⟩), Value.iface 69 (Value.agg #[Value.int IntKind.i64 ↑r, Value.int IntKind.i64 ↑k]), undef, Value.iface 69 (Value.agg #[Value.int IntKind.i64 ↑r, Value.int IntKind.i64 ↑k]), undef, undef, undef, undef, undef, undef, undef, undef] from rfl]
 obtain ⟨W3, hW3⟩ : ∃ W3, W3 = w.alloc (.cells #[Value.int IntKind.i64 (r : Int), Value.int IntKind.i64 (k : Int)] 69) := ⟨_, rfl⟩
 have hB : Below w.heap.size w W3 := by rw [hW3]; exact (Below.refl _ _).alloc (Nat.le_refl _) _
 obtain ⟨g3, hg3⟩ : ∃ g, g = w.heap.size := ⟨_, rfl⟩
 have h3 : Blk W3 g3 69 #[Value.int IntKind.i64 (r : Int), Value.int IntKind.i64 (k : Int)] := by rw [hW3]; exact Blk.new _ _ _ hg3
 have l0 := h0.lt
 have l1 := h1.lt
 have l2 := h2.lt
 have HA := Lib.hid (And.intro (h0.under hB) (And.intro (h1.under hB) (And.intro (h2.under hB) (And.intro h3 (hB.mono (Nat.le_trans m0 (Nat.le_of_lt l0)))))))
 have HN := Lib.hid (And.intro d1 (And.intro d2 (And.intro d3 (And.intro (show g3 ≠ g0 by omega) (And.intro (show g3 ≠ g1 by omega) (And.intro (show g3 ≠ g2 by omega) (And.intro m0 (And.intro m1 m2))))))))
 have HW := Lib.hid hW3
 have HG := Lib.hid hg3
 clear hB h3 l0 l1 l2 h0 h1 h2 hW3 hg3 d1 d2 d3 m0 m1 m2
 have hta := assertK_any
 go_upto_region 3 with fail
 clear hta
 rw [← HW.out, ← HG.out]
 clear HW HG
 refine wp_region_held_drew (S := fun Y => Y.cell? ⟨g3, 0, none⟩ = some (.int .i64 (r : Int)) ∧ Y.cell? ⟨g3, 1, none⟩ = some (.int .i64 (k : Int))) (by kernel_rfl) ⟨HA.out.2.2.2.1.cellAt 0 rfl, HA.out.2.2.2.1.cellAt 1 rfl⟩ (fun hS => ?_)
 refine tP 0 (h := ?_)
 refine tP 1 (v := .int .i64 (r : Int)) (hy := by (intro W hW; obtain ⟨k0, k1⟩ := hW; go_simp; (try with_reducible rfl))) (h := ?_)
 refine tP 2 (h := ?_)
 refine tP 3 (v := .int .i64 (k : Int)) (hy := by (intro W hW; obtain ⟨k0, k1⟩ := hW; go_simp; (try with_reducible rfl))) (h := ?_)
 refine oQ 4 (h := fun K4 hK4 => ?_)
 have e4 := ((show Blk W3.drew g0 _ _ from HA.out.1.drewN 1)).cellAt 0 rfl
 have f4 := ((show Blk W3.drew g0 _ _ from HA.out.1.drewN 1)).free 0
 go_simp
 obtain ⟨Y4, hY⟩ : ∃ Z, Z = W3.setCell ⟨g0, 0, none⟩ (.int .i64 (r : Int)) := ⟨_, rfl⟩
 have b0 : Blk Y4 g0 3 #[.int .i64 (r : Int)] := by rw [hY]; exact ((show Blk W3 g0 _ _ from HA.out.1)).setAt 0 _
 have b1 : Blk Y4 g1 3 #[.int .i64 z1] := by rw [hY]; exact ((show Blk W3 g1 _ _ from HA.out.2.1)).farCell HN.out.1 _
 have b2 : Blk Y4 g2 34 #[.int .i64 z2] := by rw [hY]; exact ((show Blk W3 g2 _ _ from HA.out.2.2.1)).farCell HN.out.2.1 _
 have b3 : Blk Y4 g3 69 #[.int .i64 (r : Int), .int .i64 (k : Int)] := by rw [hY]; exact ((show Blk W3 g3 _ _ from HA.out.2.2.2.1)).farCell HN.out.2.2.2.1 _
 have b4 : Below m W3 Y4 := by rw [hY]; exact (Below.refl m W3).setCell HN.out.2.2.2.2.2.2.1 _
 rw [← hY]
 clear hY e4 f4
 have HB := Lib.hid (And.intro b0 (And.intro b1 (And.intro b2 b4)))
 have HB3 := Lib.hid b3
 refine hK4 _ _ ⟨b3.cellAt 0 rfl, b3.cellAt 1 rfl⟩ (fun hS4 => ?_)
 clear hS hK4 K4 b0 b1 b2 b3 b4
 refine oQ 5 (h := fun K5 hK5 => ?_)
 have e5 := (HB.out.2.1).cellAt 0 rfl
 have f5 := (HB.out.2.1).free 0
 go_simp
 obtain ⟨Y5, hY⟩ : ∃ Z, Z = Y4.setCell ⟨g1, 0, none⟩ (.int .i64 (k : Int)) := ⟨_, rfl⟩
 have b0 : Blk Y5 g0 3 #[.int .i64 (r : Int)] := by rw [hY]; exact (HB.out.1).farCell HN.out.1.symm _
 have b1 : Blk Y5 g1 3 #[.int .i64 (k : Int)] := by rw [hY]; exact (HB.out.2.1).setAt 0 _
 have b2 : Blk Y5 g2 34 #[.int .i64 z2] := by rw [hY]; exact (HB.out.2.2.1).farCell HN.out.2.2.1.symm _
 have b3 : Blk Y5 g3 69 #[.int .i64 (r : Int), .int .i64 (k : Int)] := by rw [hY]; exact (HB3.out).farCell HN.out.2.2.2.2.1 _
 have b4 : Below m W3 Y5 := by rw [hY]; exact (HB.out.2.2.2).setCell HN.out.2.2.2.2.2.2.2.1 _
 rw [← hY]
 clear hY e5 f5
 have HB := Lib.hid (And.intro b0 (And.intro b1 (And.intro b2 b4)))
 have HB3 := Lib.hid b3
 refine hK5 _ _ ⟨b3.cellAt 0 rfl, b3.cellAt 1 rfl⟩ (fun hS5 => ?_)
 clear hS4 hK5 K5 b0 b1 b2 b3 b4
 refine oQ 6 (h := fun K6 hK6 => ?_)
 have e6 := (HB.out.2.2.1).cellAt 0 rfl
 have f6 := (HB.out.2.2.1).free 0
 go_simp
 obtain ⟨Y6, hY⟩ : ∃ Z, Z = Y5.setCell ⟨g2, 0, none⟩ (.int .i64 170) := ⟨_, rfl⟩
 have b0 : Blk Y6 g0 3 #[.int .i64 (r : Int)] := by rw [hY]; exact (HB.out.1).farCell HN.out.2.1.symm _
 have b1 : Blk Y6 g1 3 #[.int .i64 (k : Int)] := by rw [hY]; exact (HB.out.2.1).farCell HN.out.2.2.1 _
 have b2 : Blk Y6 g2 34 #[.int .i64 170] := by rw [hY]; exact (HB.out.2.2.1).setAt 0 _
 have b3 : Blk Y6 g3 69 #[.int .i64 (r : Int), .int .i64 (k : Int)] := by rw [hY]; exact (HB3.out).farCell HN.out.2.2.2.2.2.1 _
 have b4 : Below m W3 Y6 := by rw [hY]; exact (HB.out.2.2.2).setCell HN.out.2.2.2.2.2.2.2.2 _
 rw [← hY]
 clear hY e6 f6
 have HB := Lib.hid (And.intro b0 (And.intro b1 (And.intro b2 b4)))
 have HB3 := Lib.hid b3
 refine hK6 _ _ ⟨b3.cellAt 0 rfl, b3.cellAt 1 rfl⟩ (fun hS6 => ?_)
 clear hS5 hK6 K6 b0 b1 b2 b3 b4
 refine wpAnyH_done (by kernel_rfl) ?_ _
 exact ⟨rfl, _, rfl, _, results_none rfl _ _ _, rfl, rfl, HB.out.1, HB.out.2.1, HB.out.2.2.1, HA.out.2.2.2.2.trans (below_drewN HB.out.2.2.2 1)⟩
theorem body_is {b : Bd} {x : Cf} : checkP b x = if (bodyP b x).1 ≠ 0 then ((bodyP b x).1, (bodyP b x).2, 170) else (0, 0, 0) := by
 unfold checkP
 by_cases h : (headP b x).1 ≠ 0
 · have e : bodyP b x = headP b x := by
    unfold bodyP
    rw [upto_sticky (fun i s h => must_sticky h) h, upto_sticky (f := guestP b x) guest_sticky h, upto_sticky (f := chanP b x) chan_sticky h, upto_sticky (fun i s h => must_sticky h) h]
   rw [if_pos h, e, if_pos h]
 · rw [if_neg h]
theorem body_whole {b : Bd} {x : Cf} (h : (wholeS b x).1 ≠ 0) : bodyP b x = wholeS b x := by
 show upto _ _ (upto _ (chanP b x) (upto _ (guestP b x) (wholeS b x))) = _
 rw [upto_sticky (f := guestP b x) guest_sticky h, upto_sticky (f := chanP b x) chan_sticky h, upto_sticky (fun i s h => must_sticky h) h]
theorem body_guests {b : Bd} {x : Cf} (h0 : wholeS b x = (0, 0)) (h : (guestsS b x).1 ≠ 0) : bodyP b x = guestsS b x := by
 have h1 : (upto x.gs.length (guestP b x) (0, 0)).1 ≠ 0 := h
 show upto _ _ (upto _ (chanP b x) (upto _ (guestP b x) (wholeS b x))) = _
 rw [h0, upto_sticky (f := chanP b x) chan_sticky h1, upto_sticky (fun i s h => must_sticky h) h1]
 rfl
theorem body_chans {b : Bd} {x : Cf} (h0 : wholeS b x = (0, 0)) (h1 : guestsS b x = (0, 0)) (h : (chansS b x).1 ≠ 0) : bodyP b x = chansS b x := by
 have h2 : (upto x.chs.length (chanP b x) (0, 0)).1 ≠ 0 := h
 show upto _ _ (upto _ (chanP b x) (upto _ (guestP b x) (wholeS b x))) = _
 rw [h0, show upto x.gs.length (guestP b x) (0, 0) = (0, 0) from h1, upto_sticky (fun i s h => must_sticky h) h2]
 rfl
theorem body_rooms {b : Bd} {x : Cf} (h0 : wholeS b x = (0, 0)) (h1 : guestsS b x = (0, 0)) (h2 : chansS b x = (0, 0)) : bodyP b x = roomsS x := by
 show upto _ _ (upto _ (chanP b x) (upto _ (guestP b x) (wholeS b x))) = _
 rw [h0, show upto x.gs.length (guestP b x) (0, 0) = (0, 0) from h1, show upto x.chs.length (chanP b x) (0, 0) = (0, 0) from h2]
 rfl
theorem whole_head {b : Bd} {x : Cf} (h : wholeS b x = (0, 0)) : fitB b = true ∧ errP x = 0 := by
 have h1 : (wholeS b x).1 = 0 := by rw [h]
 have h2 := (upto_zero (f := fun i => mustP (nameB x i) 2 i) (P := fun _ => True) (fun i s hs => ⟨(must_zero (by decide) hs).2, trivial⟩) x.gs.length (headP b x) h1).1
 unfold headP at h2
 obtain ⟨h3, h4⟩ := must_zero (by decide) h2
 exact ⟨(must_zero (by decide) h4).1, by simpa using h3⟩
def CheckC (b : Bd) (x : Cf) (w : World) (e : Ending) (w' : World) : Prop := e = .returned (.tuple #[.int .i64 ((checkP b x).1 : Int), .int .i64 ((checkP b x).2.1 : Int), .int .i64 ((checkP b x).2.2 : Int)]) ∧ Below w.heap.size w w'
def CodeCheck : Prop := ∀ (x : Cf) (a c : Value) (b : Bd) (w : World), CfRW w w.heap.size x a c → CfB x → fewC x = true → fit b.r → fit b.l → Calls Tryz.prog 10 #[.agg (vec 7 (bdE b)), cfVal x a c] w (CheckC b x w)
structure ResAt (s0 : Nat) (Y : World) (r k e : Int) : Prop where
 r : Blk Y (s0 + 2) 3 #[.int .i64 r]
 k : Blk Y (s0 + 3) 3 #[.int .i64 k]
 e : Blk Y (s0 + 4) 34 #[.int .i64 e]
theorem ResAt.on {s0 B : Nat} {Y Y' : World} {r k e : Int} (h : ResAt s0 Y r k e) (hb : Below B Y Y') (hB : s0 + 5 ≤ B) : ResAt s0 Y' r k e := ⟨h.r.below hb (by omega), h.k.below hb (by omega), h.e.below hb (by omega)⟩
theorem ResAt.loads {s0 : Nat} {Y : World} {r k e : Int} (h : ResAt s0 Y r k e) : (loadVar 3 ⟨s0 + 2, 0, none⟩).run Tryz.prog Y = .ok (.int .i64 r) Y ∧ (loadVar 3 ⟨s0 + 3, 0, none⟩).run Tryz.prog Y = .ok (.int .i64 k) Y ∧ (loadVar 34 ⟨s0 + 4, 0, none⟩).run Tryz.prog Y = .ok (.int .i64 e) Y := by
 have c0 := h.r.cellAt 0 (v := .int .i64 r) rfl
 have c1 := h.k.cellAt 0 (v := .int .i64 k) rfl
 have c2 := h.e.cellAt 0 (v := .int .i64 e) rfl
 refine ⟨?_, ?_, ?_⟩
 · simp [loadVar, go_sem, Tryz.isAgg3, c0]
 · simp [loadVar, go_sem, Tryz.isAgg3, c1]
 · simp [loadVar, go_sem, Tryz.isAgg34, c2]
set_option maxHeartbeats 8000000 in
set_option maxRecDepth 100000 in
theorem kcheck_any : CodeCheck := fun x a c b w hx hb hf hr hl => by
 obtain ⟨s0, hs0⟩ : ∃ s, s = w.heap.size := ⟨_, rfl⟩
 obtain ⟨V, hV⟩ : ∃ V, V = ((((w.alloc (.cells (vec 7 (bdE b)) 26)).alloc (.cells (vec 3 (cfE x.ver a c)) 31)).alloc (.cells #[.int .i64 0] 3)).alloc (.cells #[.int .i64 0] 3)).alloc (.cells #[.int .i64 0] 34) := ⟨_, rfl⟩
 have vz : V.heap.size = s0 + 5 := by rw [hV, hs0]; simp
 have vB : Below w.heap.size w V := by rw [hV]; exact Laid.below ⟨[_, _, _, _, _], rfl⟩
 have v2 : Arr V s0 26 7 (bdE b) := by rw [hV, hs0]; exact ((((Arr.new w _ _ _).alloc _).alloc _).alloc _).alloc _
 have v3 : Arr V (s0 + 1) 31 3 (cfE x.ver a c) := by rw [hV, hs0]; exact (((Arr.newAt _ _ _ _ (by simp)).alloc _).alloc _).alloc _
 have vr : ResAt s0 V 0 0 0 := by
   rw [hV, hs0]
   exact ⟨((Blk.new _ _ _ (by simp)).alloc _).alloc _, (Blk.new _ _ _ (by simp)).alloc _, Blk.new _ _ _ (by simp)⟩
 obtain ⟨B, hB⟩ : ∃ B, B = V.heap.size := ⟨_, rfl⟩
 obtain ⟨p, hp⟩ : ∃ p, p = V.heap.size + 5 := ⟨_, rfl⟩
 have hxB : CfRW V B x a c := (hx.below vB).wide (by omega)
 have HNEW := Lib.hid (knew_any b V)
 rw [← hp, ← hB] at HNEW
 have HX : Hid (∀ Y, Below B V Y → CfRW Y B x a c) := Lib.hid fun Y hY => hxB.below hY
 have HRES : Hid (∀ Y, Below B V Y → ResAt s0 Y 0 0 0) := Lib.hid fun Y hY => vr.on hY (by omega)
 have HCF : Hid (∀ Y, Below B V Y → Arr Y (s0 + 1) 31 3 (cfE x.ver a c)) := Lib.hid fun Y hY => v3.below hY (by omega)
 have H2 := Lib.hid v2
 have HBB := Lib.hid hb
 have HFE := Lib.hid hf
 have HFT := Lib.hid (And.intro hr hl)
 have HB := Lib.hid (And.intro vB (show w.heap.size ≤ B by omega))
 have HSZ : Hid (s0 + 5 ≤ B ∧ s0 = w.heap.size) := Lib.hid ⟨by omega, hs0⟩
 have HPOST : Hid (∀ (s : Nat × Nat) w', bodyP b x = s → s.1 ≠ 0 → Below w.heap.size w w' → CheckC b x w (.returned (.tuple #[.int .i64 (s.1 : Int), .int .i64 (s.2 : Int), .int .i64 170])) w') := Lib.hid fun s w' h1 h2 h3 => by
   unfold CheckC
   rw [body_is, h1, if_pos h2]
   exact ⟨rfl, h3⟩
 have HPOK : Hid (∀ w', bodyP b x = (0, 0) → Below w.heap.size w w' → CheckC b x w (.returned (.tuple #[.int .i64 0, .int .i64 0, .int .i64 0])) w') := Lib.hid fun w' h1 h3 => by
   unfold CheckC
   rw [body_is, h1, if_neg (by decide)]
   exact ⟨rfl, h3⟩
 have HV := Lib.hid hV
 have HS := Lib.hid hs0
 have hmf : ∀ (fn : Fn) (first cap : Array Value) (w : World), (Instr.makeFunc fn first cap).run Tryz.prog w = .ok (.func fn first cap) w := fun _ _ _ _ => rfl
 obtain ⟨Q, hQ⟩ : ∃ Q, Q = CheckC b x w := ⟨_, rfl⟩
 rw [← hQ] at HPOST HPOK ⊢
 unfold cfVal
 clear hs0 hV vz vB v2 v3 vr hB hp hxB hx hb hf hr hl hQ
 go_enter_defers Tryz.func10, Tryz.ntmps10
 go_upto_region 1 with fail
 rw [← HV.out, ← HS.out]
 clear HV HS
 go_upto_region 3 with (first
   | ((with_reducible show wpList _ _ _ (Oper.mk _ (.load 26 _) _ _ _ _ :: _) _ _); refine wl_load rfl 26 _ rfl s0 rfl _ (run_load_arr H2.out Tryz.underlying26 rfl infoBd) ?_)
   | (go_at_call 18; refine HNEW.out.mono ?_; rintro e w1 ⟨rfl, hk, hd⟩; have HK1 := Lib.hid hk; have HD1 := Lib.hid hd; clear hk hd))
 clear hmf HNEW H2
 go_wp2_with (first
   | ((with_reducible show wpList _ _ _ (Oper.mk _ (.load 31 _) _ _ _ _ :: _) _ _); refine wl_load rfl 31 _ rfl (s0 + 1) rfl _ (run_load_arr (HCF.out _ HD1.out) Tryz.underlying31 rfl infoCf) ?_))
 refine (kwhole_any x a c b B p _ _ _ _ _ w1 (HX.out _ HD1.out) HBB.out HFE.out HFT.out.1 HFT.out.2 HK1.out).mono ?_
 rintro e w2 ⟨⟨hs, rfl, hg⟩ | ⟨hs, rfl⟩, hb⟩
 rotate_left
 · have HQ := Lib.hid (HRES.out _ (HD1.out.trans hb))
   have HBQ := Lib.hid (HB.out.1.trans ((HD1.out.trans hb).mono HB.out.2))
   have HSS := Lib.hid hs
   have hz := HSZ.out
   refine leaves_cons (f := 17) (args := #[.pointer (some ⟨s0 + 2, 0, none⟩), .pointer (some ⟨s0 + 3, 0, none⟩), .pointer (some ⟨s0 + 4, 0, none⟩)]) (by simp) (by simp [go_sem]) ?_
   refine (catchK_pan (s0 + 2) (s0 + 3) (s0 + 4) w.heap.size _ _ 0 0 0 [] _ HQ.out.r HQ.out.k HQ.out.e (by omega) (by omega) (by omega) (by omega) (by omega) (by omega)).mono ?_
   rintro e u' w2 ⟨rfl, rfl, k0, k1, k2, kb⟩
   have hr2 : ResAt s0 w2 _ _ _ := ⟨k0, k1, k2⟩
   obtain ⟨l0, l1, l2⟩ := hr2.loads
   exact ⟨_, results_cii rfl _ _ _ _ _ _ _ rfl rfl rfl l0 l1 l2, HPOST.out _ _ (body_whole HSS.out) HSS.out (HBQ.out.trans kb)⟩
 have HS1 := Lib.hid hs
 have HD2 := Lib.hid (HD1.out.trans hb)
 obtain ⟨wh2, hk⟩ := hg
 have HK2 := Lib.hid hk
 have HLEN : Hid (x.gs.length ≤ 1000) := Lib.hid (by have := (few_gs HFE.out).1; omega)
 clear hs hb hk
 go_wp2_with (first
   | ((with_reducible show wpList _ _ _ (Oper.mk _ (.load 31 _) _ _ _ _ :: _) _ _); refine wl_load rfl 31 _ rfl (s0 + 1) rfl _ (run_load_arr (HCF.out _ HD2.out) Tryz.underlying31 rfl infoCf) ?_))
 refine (kguests_any x a c b B p _ _ _ _ _ _ _ _ w2 (HX.out _ HD2.out) HBB.out HFE.out HFT.out.1 HFT.out.2 (whole_head HS1.out).1 (whole_head HS1.out).2 HLEN.out HK2.out).mono ?_
 rintro e w3 ⟨⟨hs, rfl, hg⟩ | ⟨hs, rfl⟩, hb⟩
 rotate_left
 · have HQ := Lib.hid (HRES.out _ (HD2.out.trans hb))
   have HBQ := Lib.hid (HB.out.1.trans ((HD2.out.trans hb).mono HB.out.2))
   have HSS := Lib.hid hs
   have hz := HSZ.out
   refine leaves_cons (f := 17) (args := #[.pointer (some ⟨s0 + 2, 0, none⟩), .pointer (some ⟨s0 + 3, 0, none⟩), .pointer (some ⟨s0 + 4, 0, none⟩)]) (by simp) (by simp [go_sem]) ?_
   refine (catchK_pan (s0 + 2) (s0 + 3) (s0 + 4) w.heap.size _ _ 0 0 0 [] _ HQ.out.r HQ.out.k HQ.out.e (by omega) (by omega) (by omega) (by omega) (by omega) (by omega)).mono ?_
   rintro e u' w2 ⟨rfl, rfl, k0, k1, k2, kb⟩
   have hr2 : ResAt s0 w2 _ _ _ := ⟨k0, k1, k2⟩
   obtain ⟨l0, l1, l2⟩ := hr2.loads
   exact ⟨_, results_cii rfl _ _ _ _ _ _ _ rfl rfl rfl l0 l1 l2, HPOST.out _ _ (body_guests HS1.out HSS.out) HSS.out (HBQ.out.trans kb)⟩
 have HS2 := Lib.hid hs
 have HD3 := Lib.hid (HD2.out.trans hb)
 obtain ⟨wh3, N3, -, hk⟩ := hg
 have HK3 := Lib.hid hk
 clear hs hb hk
 go_wp2_with (first
   | ((with_reducible show wpList _ _ _ (Oper.mk _ (.load 31 _) _ _ _ _ :: _) _ _); refine wl_load rfl 31 _ rfl (s0 + 1) rfl _ (run_load_arr (HCF.out _ HD3.out) Tryz.underlying31 rfl infoCf) ?_))
 refine (kchans_any x a c b B p _ _ _ _ _ _ _ _ _ _ _ w3 (HX.out _ HD3.out) HBB.out HFE.out HFT.out.1 HFT.out.2 (whole_head HS1.out).2 HS2.out HK3.out).mono ?_
 rintro e w4 ⟨⟨hs, rfl, hg⟩ | ⟨hs, rfl⟩, hb⟩
 rotate_left
 · have HQ := Lib.hid (HRES.out _ (HD3.out.trans hb))
   have HBQ := Lib.hid (HB.out.1.trans ((HD3.out.trans hb).mono HB.out.2))
   have HSS := Lib.hid hs
   have hz := HSZ.out
   refine leaves_cons (f := 17) (args := #[.pointer (some ⟨s0 + 2, 0, none⟩), .pointer (some ⟨s0 + 3, 0, none⟩), .pointer (some ⟨s0 + 4, 0, none⟩)]) (by simp) (by simp [go_sem]) ?_
   refine (catchK_pan (s0 + 2) (s0 + 3) (s0 + 4) w.heap.size _ _ 0 0 0 [] _ HQ.out.r HQ.out.k HQ.out.e (by omega) (by omega) (by omega) (by omega) (by omega) (by omega)).mono ?_
   rintro e u' w2 ⟨rfl, rfl, k0, k1, k2, kb⟩
   have hr2 : ResAt s0 w2 _ _ _ := ⟨k0, k1, k2⟩
   obtain ⟨l0, l1, l2⟩ := hr2.loads
   exact ⟨_, results_cii rfl _ _ _ _ _ _ _ rfl rfl rfl l0 l1 l2, HPOST.out _ _ (body_chans HS1.out HS2.out HSS.out) HSS.out (HBQ.out.trans kb)⟩
 have HS3 := Lib.hid hs
 have HD4 := Lib.hid (HD3.out.trans hb)
 obtain ⟨wh4, mem4, hk⟩ := hg
 have HK4 := Lib.hid hk
 clear hs hb hk
 go_wp2_with (first
   | ((with_reducible show wpList _ _ _ (Oper.mk _ (.load 31 _) _ _ _ _ :: _) _ _); refine wl_load rfl 31 _ rfl (s0 + 1) rfl _ (run_load_arr (HCF.out _ HD4.out) Tryz.underlying31 rfl infoCf) ?_))
 refine (krooms_any x a c b B p _ _ _ _ _ _ _ _ _ _ _ _ w4 (HX.out _ HD4.out) HBB.out HFE.out HK4.out).mono ?_
 rintro e w5 ⟨⟨hs, rfl, hg⟩ | ⟨hs, rfl⟩, hb⟩
 rotate_left
 · have HQ := Lib.hid (HRES.out _ (HD4.out.trans hb))
   have HBQ := Lib.hid (HB.out.1.trans ((HD4.out.trans hb).mono HB.out.2))
   have HSS := Lib.hid hs
   have hz := HSZ.out
   refine leaves_cons (f := 17) (args := #[.pointer (some ⟨s0 + 2, 0, none⟩), .pointer (some ⟨s0 + 3, 0, none⟩), .pointer (some ⟨s0 + 4, 0, none⟩)]) (by simp) (by simp [go_sem]) ?_
   refine (catchK_pan (s0 + 2) (s0 + 3) (s0 + 4) w.heap.size _ _ 0 0 0 [] _ HQ.out.r HQ.out.k HQ.out.e (by omega) (by omega) (by omega) (by omega) (by omega) (by omega)).mono ?_
   rintro e u' w2 ⟨rfl, rfl, k0, k1, k2, kb⟩
   have hr2 : ResAt s0 w2 _ _ _ := ⟨k0, k1, k2⟩
   obtain ⟨l0, l1, l2⟩ := hr2.loads
   exact ⟨_, results_cii rfl _ _ _ _ _ _ _ rfl rfl rfl l0 l1 l2, HPOST.out _ _ (body_rooms HS1.out HS2.out HS3.out) HSS.out (HBQ.out.trans kb)⟩
 have HS4 := Lib.hid hs
 have HD5 := Lib.hid (HD4.out.trans hb)
 clear hs hb hg
 have HR7 := Lib.hid (HRES.out _ HD5.out)
 have c0 := HR7.out.r.cellAt 0 (v := .int .i64 0) rfl
 have f0 := HR7.out.r.free 0
 have c1 := HR7.out.k.cellAt 0 (v := .int .i64 0) rfl
 have f1 := HR7.out.k.free 0
 have c2 := HR7.out.e.cellAt 0 (v := .int .i64 0) rfl
 have f2 := HR7.out.e.free 0
 have HRZ : Hid (∀ Y, Y = ((w5.setCell ⟨s0 + 2, 0, none⟩ (.int .i64 0)).setCell ⟨s0 + 3, 0, none⟩ (.int .i64 0)).setCell ⟨s0 + 4, 0, none⟩ (.int .i64 0) → ResAt s0 Y 0 0 0 ∧ Below w.heap.size w Y) := Lib.hid fun Y hY => by
   subst hY
   have hz := HSZ.out
   refine ⟨⟨?_, ?_, ?_⟩, ?_⟩
   · exact ((HR7.out.r.setAt 0 _).farCell (p := ⟨s0 + 3, 0, none⟩) (by show s0 + 2 ≠ s0 + 3; omega) _).farCell (p := ⟨s0 + 4, 0, none⟩) (by show s0 + 2 ≠ s0 + 4; omega) _
   · exact ((HR7.out.k.farCell (p := ⟨s0 + 2, 0, none⟩) (by show s0 + 3 ≠ s0 + 2; omega) _).setAt 0 _).farCell (p := ⟨s0 + 4, 0, none⟩) (by show s0 + 3 ≠ s0 + 4; omega) _
   · exact ((HR7.out.e.farCell (p := ⟨s0 + 2, 0, none⟩) (by show s0 + 4 ≠ s0 + 2; omega) _).farCell (p := ⟨s0 + 3, 0, none⟩) (by show s0 + 4 ≠ s0 + 3; omega) _).setAt 0 _
   · exact (((HB.out.1.trans (HD5.out.mono HB.out.2)).setCell (p := ⟨s0 + 2, 0, none⟩) (by show w.heap.size ≤ s0 + 2; omega) _).setCell (p := ⟨s0 + 3, 0, none⟩) (by show w.heap.size ≤ s0 + 3; omega) _).setCell (p := ⟨s0 + 4, 0, none⟩) (by show w.heap.size ≤ s0 + 4; omega) _
 have d1 : (w5.setCell ⟨s0 + 2, 0, none⟩ (.int .i64 0)).cell? ⟨s0 + 3, 0, none⟩ = some (.int .i64 0) := (HR7.out.k.farCell (p := ⟨s0 + 2, 0, none⟩) (by show s0 + 3 ≠ s0 + 2; omega) _).cellAt 0 rfl
 have e1 : (w5.setCell ⟨s0 + 2, 0, none⟩ (.int .i64 0)).frozen? ⟨s0 + 3, 0, none⟩ = false := (HR7.out.k.farCell (p := ⟨s0 + 2, 0, none⟩) (by show s0 + 3 ≠ s0 + 2; omega) _).free 0
 have d2 : ((w5.setCell ⟨s0 + 2, 0, none⟩ (.int .i64 0)).setCell ⟨s0 + 3, 0, none⟩ (.int .i64 0)).cell? ⟨s0 + 4, 0, none⟩ = some (.int .i64 0) := ((HR7.out.e.farCell (p := ⟨s0 + 2, 0, none⟩) (by show s0 + 4 ≠ s0 + 2; omega) _).farCell (p := ⟨s0 + 3, 0, none⟩) (by show s0 + 4 ≠ s0 + 3; omega) _).cellAt 0 rfl
 have e2 : ((w5.setCell ⟨s0 + 2, 0, none⟩ (.int .i64 0)).setCell ⟨s0 + 3, 0, none⟩ (.int .i64 0)).frozen? ⟨s0 + 4, 0, none⟩ = false := ((HR7.out.e.farCell (p := ⟨s0 + 2, 0, none⟩) (by show s0 + 4 ≠ s0 + 2; omega) _).farCell (p := ⟨s0 + 3, 0, none⟩) (by show s0 + 4 ≠ s0 + 3; omega) _).free 0
 go_wp2_with fail
 refine leaves_cons (f := 17) (args := #[.pointer (some ⟨s0 + 2, 0, none⟩), .pointer (some ⟨s0 + 3, 0, none⟩), .pointer (some ⟨s0 + 4, 0, none⟩)]) (by simp) (by simp [go_sem]) ?_
 refine (catchK_idle _ _ _ _).mono ?_
 rintro e u' w'' ⟨rfl, rfl, rfl⟩
 obtain ⟨hz1, hz2⟩ := HRZ.out _ rfl
 obtain ⟨l0, l1, l2⟩ := hz1.loads
 exact ⟨_, results_cii rfl _ _ _ _ _ _ _ rfl rfl rfl l0 l1 l2, HPOK.out _ (by rw [body_rooms HS1.out HS2.out HS3.out]; exact HS4.out) hz2⟩
end Go.Proofs.YtkaipknkjocfiaaGreat
