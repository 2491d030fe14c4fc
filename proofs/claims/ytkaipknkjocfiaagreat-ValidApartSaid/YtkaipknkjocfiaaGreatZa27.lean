import Derived.Test.YtkaipknkjocfiaaGreatZa26
namespace Go.Proofs.YtkaipknkjocfiaaGreat
open Go.RowKit Go.Maps
attribute [local go_sem ↓ high] zeroSp zeroIr
def TakeC (K : TypeId) (m n : Nat) (L' : List Lit) (q : Bool) (w : World) (e : Ending) (w' : World) : Prop := ∃ r, e = .returned (.bool r) ∧ r = q ∧ (r = true → SetM K w' m n L') ∧ Save m w w'
set_option maxHeartbeats 1000000 in
set_option maxRecDepth 100000 in
theorem kstream_any (p : Nat) (b : Bd) (hst : 0 ≤ b.strs ∧ b.strs ≤ 256) (m n : Nat) (L : List Lit) (q : Int) (hq : 0 ≤ q ∧ q ≤ 4294967295) (w : World) (h : KB w p b) (h11 : w.cell? ⟨p, 11, none⟩ = some (.map (some m))) (hs : SetM 27 w m n L) (hn : n ≤ 1000000) :
  Calls Tryz.prog 51 #[.pointer (some ⟨p, 0, none⟩), .int .u32 q] w (TakeC 27 m (n + 1) (L ++ [.int .u32 q]) (decide (q < b.strs) && !inL L (.int .u32 q)) w) := by
 obtain ⟨z1, hz1⟩ : ∃ z, z = decide (q < b.strs) := ⟨_, rfl⟩
 obtain ⟨z2, hz2⟩ : ∃ z, z = inL L (.int .u32 q) := ⟨_, rfl⟩
 have hv : (Lit.int .u32 q).wf = true := by simp [Lit.wf, IntKind.min, IntKind.max, IntKind.bits, IntKind.signed]; omega
 have HT := Lib.hid (take_u32 m n L q hv w hs hn)
 have HQ : Hid (∀ (r : Bool) w', r = (z1 && !z2) → (r = true → SetM 27 w' m (n + 1) (L ++ [.int .u32 q])) → Save m w w' → TakeC 27 m (n + 1) (L ++ [.int .u32 q]) (decide (q < b.strs) && !inL L (.int .u32 q)) w (.returned (.bool r)) w') := Lib.hid fun r w' h1 h2 h3 => ⟨r, rfl, by rw [h1, hz1, hz2], h2, h3⟩
 rw [← hz2] at HT
 have c5 : w.cell? ⟨p, 5, none⟩ = some (.int .i64 b.strs) := h.2 5 (by decide)
 obtain ⟨S, hS⟩ : ∃ S, S = b.strs := ⟨_, rfl⟩
 rw [← hS] at c5 hz1 hst
 have hw : IntKind.u32.wrap S = S := by rw [IntKind.wrap_u32']; omega
 have k1 : decide (q < S) = z1 := hz1.symm
 obtain ⟨Q, hQ⟩ : ∃ Q, Q = TakeC 27 m (n + 1) (L ++ [.int .u32 q]) (decide (q < b.strs) && !inL L (.int .u32 q)) w := ⟨_, rfl⟩
 rw [← hQ] at HQ ⊢
 clear hz1 hz2 hS hQ h hs hn hv hq hst
 go_enter Tryz.func51, Tryz.ntmps51
 cases z1
 case false =>
  go_wp2_with fail
  exact HQ.out false _ rfl (fun h => by cases h) (Save.refl _ _)
 case true =>
  go_wp2_with (go_at_call 91; refine HT.out.mono ?_; rintro e w1 ⟨rfl, ha, hb⟩; have HX := Lib.hid (And.intro ha hb); clear ha hb)
  exact HQ.out _ _ (by simp) (fun _ => HX.out.1) HX.out.2
set_option maxHeartbeats 4000000 in
set_option maxRecDepth 100000 in
theorem kirq_any (p : Nat) (b : Bd) (t : Gs) (hc : 0 ≤ t.cpus ∧ t.cpus ≤ 4294967295) (m n : Nat) (L : List Lit) (q : Ir) (hq : 0 ≤ q.cpu ∧ q.cpu ≤ 65535) (hv : i64B q.number) (w : World) (h : KB w p b) (hpm : p ≠ m) (h10 : w.cell? ⟨p, 10, none⟩ = some (.map (some m))) (hs : SetM 3 w m n L) (hn : n ≤ 1000000) :
  Calls Tryz.prog 49 #[.pointer (some ⟨p, 0, none⟩), .agg (vec 3 (irqE q)), .int .u32 t.cpus] w (TakeC 3 m (n + 1) (L ++ [.int .i64 q.number]) (irqK b t q && !inL L (.int .i64 q.number)) w) := by
 obtain ⟨N, hN⟩ : ∃ z, z = q.number := ⟨_, rfl⟩
 obtain ⟨U, hU⟩ : ∃ z, z = q.cpu := ⟨_, rfl⟩
 obtain ⟨C, hC⟩ : ∃ z, z = t.cpus := ⟨_, rfl⟩
 obtain ⟨I, hI⟩ : ∃ z, z = b.irqs := ⟨_, rfl⟩
 obtain ⟨z0, hz0⟩ : ∃ z, z = decide ((32 : Int) ≤ N) := ⟨_, rfl⟩
 obtain ⟨z1, hz1⟩ : ∃ z, z = decide (N < I) := ⟨_, rfl⟩
 obtain ⟨z2, hz2⟩ : ∃ z, z = bitS C U := ⟨_, rfl⟩
 obtain ⟨z3, hz3⟩ : ∃ z, z = inL L (.int .i64 N) := ⟨_, rfl⟩
 have ee : (irqK b t q && !inL L (.int .i64 q.number)) = ((z0 && (z1 && z2)) && !z3) := by unfold irqK; rw [← hN, ← hI, ← hC, ← hU, ← hz0, ← hz1, ← hz2, ← hz3]
 rw [ee]
 rw [← hN] at hv ⊢
 rw [← hU] at hq
 rw [← hC] at hc ⊢
 have hvw : (Lit.int .i64 N).wf = true := by unfold i64B at hv; simp [Lit.wf, IntKind.min, IntKind.max, IntKind.bits, IntKind.signed]; omega
 have HSET : Hid (∀ W, Calls Tryz.prog 74 #[.int .u32 C, .int .i64 U] W (EqV z2 W)) := Lib.hid (by rw [hz2]; exact fun W => set_any C U hc hq W)
 have HTAKE : Hid (∀ W, SetM 3 W m n L → Calls Tryz.prog 75 #[.map (some m), .int .i64 N] W fun e w' => e = .returned (.bool (!z3)) ∧ SetM 3 w' m (n + 1) (L ++ [.int .i64 N]) ∧ Save m W w') := Lib.hid (by rw [hz3]; exact fun W hW => take_int m n L N hvw W hW hn)
 unfold EqV at HSET
 obtain ⟨r4, hr4⟩ : ∃ r, r = w.heap.size := ⟨_, rfl⟩
 obtain ⟨V, hV⟩ : ∃ V, V = w.alloc (.cells (vec 3 (irqE q)) 65) := ⟨_, rfl⟩
 have hb : Below w.heap.size w V := by rw [hV]; exact Below.alloc_own w _
 have ha : Arr V r4 65 3 (irqE q) := by rw [hV, hr4]; exact Arr.new _ _ _ _
 have hml := hs.lt
 have hr4m : r4 ≠ m := by omega
 have HS0 := Lib.hid (hs.under hb)
 have HCL : Hid (∀ Y, Save m V Y → (Y.cell? ⟨r4, 0, none⟩ = some (.int .i64 N) ∧ Y.cell? ⟨r4, 1, none⟩ = some (.int .i64 U)) ∧ Y.cell? ⟨p, 4, none⟩ = some (.int .i64 I) ∧ Y.cell? ⟨p, 10, none⟩ = some (.map (some m))) := Lib.hid fun Y hY => by
  rw [hN, hU, hI]
  refine ⟨⟨(ha.save hY hr4m).cell (i := 0) (by decide), (ha.save hY hr4m).cell (i := 1) (by decide)⟩, ?_, ?_⟩
  · exact (hY.cell (p := ⟨p, 4, none⟩) (Nat.lt_of_lt_of_le h.1 hb.size) hpm).trans ((hb.cell (p := ⟨p, 4, none⟩) h.1).trans (h.2 4 (by decide)))
  · exact (hY.cell (p := ⟨p, 10, none⟩) (Nat.lt_of_lt_of_le h.1 hb.size) hpm).trans ((hb.cell (p := ⟨p, 10, none⟩) h.1).trans h10)
 have HB := Lib.hid hb
 have HQ : Hid (∀ (r : Bool) w', r = ((z0 && (z1 && z2)) && !z3) → (r = true → SetM 3 w' m (n + 1) (L ++ [.int .i64 N])) → Save m w w' → TakeC 3 m (n + 1) (L ++ [.int .i64 N]) ((z0 && (z1 && z2)) && !z3) w (.returned (.bool r)) w') := Lib.hid fun r w' h1 h2 h3 => ⟨r, rfl, h1, h2, h3⟩
 obtain ⟨Q, hQ⟩ : ∃ Q, Q = TakeC 3 m (n + 1) (L ++ [.int .i64 N]) ((z0 && (z1 && z2)) && !z3) w := ⟨_, rfl⟩
 rw [← hQ] at HQ ⊢
 have HV := Lib.hid hV
 have HR4 := Lib.hid hr4
 have k0 : decide ((32 : Int) ≤ N) = z0 := hz0.symm
 have k1 : decide (N < I) = z1 := hz1.symm
 clear hz0 hz1 hz2 hz3 ee hN hU hC hI hv hvw hq hc hb ha hml hr4m h hpm h10 hs hn hV hr4 hQ
 go_enter Tryz.func49, Tryz.ntmps49
 go_upto_region 1 with fail
 rw [← HV.out, ← HR4.out]
 clear HV HR4
 cases z0
 case false =>
  refine wp_region_held_drew (S := fun Y => Save m V Y) (by kernel_rfl) (show Save m V V.drew from (Save.refl m V).drewN 1) (fun hS => ?_)
  obtain ⟨Y0, hY0⟩ : ∃ Y, Y = V.drew := ⟨_, rfl⟩
  rw [← hY0] at hS ⊢
  have HST : Hid (SetM 3 Y0 m n L) := Lib.hid (by rw [hY0]; exact HS0.out.drewN 1)
  clear hY0
  refine tP 0 (h := ?_)
  refine tP 1 (hy := by (intro W hW; obtain ⟨z0, z1⟩ := And.intro (HCL.out W hW) True.intro; clear hW; go_split_ands; go_simp; (try with_reducible rfl))) (h := ?_)
  refine tP 2 (h := ?_)
  refine tP 3 (h := ?_)
  refine sQ 4 (h := ?_)
  refine sQ 5 (h := ?_)
  refine sQ 6 (h := ?_)
  refine sQ 7 (h := ?_)
  refine sQ 8 (h := ?_)
  refine sQ 9 (h := ?_)
  refine sQ 10 (h := ?_)
  refine sQ 11 (h := ?_)
  refine tP 12 (h := ?_)
  refine tP 13 (h := ?_)
  refine sQ 14 (h := ?_)
  refine sQ 15 (h := ?_)
  refine sQ 16 (h := ?_)
  refine sQ 17 (h := ?_)
  refine tP 18 (h := ?_)
  refine tP 19 (h := ?_)
  refine sQ 20 (h := ?_)
  refine sQ 21 (h := ?_)
  refine sQ 22 (h := ?_)
  refine sQ 23 (h := ?_)
  refine sQ 24 (h := ?_)
  refine sQ 25 (h := ?_)
  refine sQ 26 (h := ?_)
  refine tP 27 (h := ?_)
  refine tP 28 (h := ?_)
  refine wpAnyH_done (by kernel_rfl) ?_ _
  go_wp2_with fail
  exact HQ.out false _ rfl (fun h => by cases h) ((Save.of_below HB.out).trans hS)
 case true =>
  cases z1
  case false =>
    refine wp_region_held_drew (S := fun Y => Save m V Y) (by kernel_rfl) (show Save m V V.drew from (Save.refl m V).drewN 1) (fun hS => ?_)
    obtain ⟨Y0, hY0⟩ : ∃ Y, Y = V.drew := ⟨_, rfl⟩
    rw [← hY0] at hS ⊢
    have HST : Hid (SetM 3 Y0 m n L) := Lib.hid (by rw [hY0]; exact HS0.out.drewN 1)
    clear hY0
    refine tP 0 (h := ?_)
    refine tP 1 (hy := by (intro W hW; obtain ⟨z0, z1⟩ := And.intro (HCL.out W hW) True.intro; clear hW; go_split_ands; go_simp; (try with_reducible rfl))) (h := ?_)
    refine tP 2 (h := ?_)
    refine tP 3 (h := ?_)
    refine tP 4 (h := ?_)
    refine tP 5 (hy := by (intro W hW; obtain ⟨z0, z1⟩ := And.intro (HCL.out W hW) True.intro; clear hW; go_split_ands; go_simp; (try with_reducible rfl))) (h := ?_)
    refine tP 6 (h := ?_)
    refine tP 7 (h := ?_)
    refine tP 8 (h := ?_)
    refine tP 9 (h := ?_)
    refine tP 10 (hy := by (intro W hW; obtain ⟨z0, z1⟩ := And.intro (HCL.out W hW) True.intro; clear hW; go_split_ands; go_simp; (try with_reducible rfl))) (h := ?_)
    refine tP 11 (h := ?_)
    refine tP 12 (h := ?_)
    refine tP 13 (h := ?_)
    refine sQ 14 (h := ?_)
    refine sQ 15 (h := ?_)
    refine sQ 16 (h := ?_)
    refine sQ 17 (h := ?_)
    refine tP 18 (h := ?_)
    refine tP 19 (h := ?_)
    refine sQ 20 (h := ?_)
    refine sQ 21 (h := ?_)
    refine sQ 22 (h := ?_)
    refine sQ 23 (h := ?_)
    refine sQ 24 (h := ?_)
    refine sQ 25 (h := ?_)
    refine sQ 26 (h := ?_)
    refine tP 27 (h := ?_)
    refine tP 28 (h := ?_)
    refine wpAnyH_done (by kernel_rfl) ?_ _
    go_wp2_with fail
    exact HQ.out false _ rfl (fun h => by cases h) ((Save.of_below HB.out).trans hS)
  case true =>
    cases z2
    case false =>
     refine wp_region_held_drew (S := fun Y => Save m V Y) (by kernel_rfl) (show Save m V V.drew from (Save.refl m V).drewN 1) (fun hS => ?_)
     obtain ⟨Y0, hY0⟩ : ∃ Y, Y = V.drew := ⟨_, rfl⟩
     rw [← hY0] at hS ⊢
     have HST : Hid (SetM 3 Y0 m n L) := Lib.hid (by rw [hY0]; exact HS0.out.drewN 1)
     clear hY0
     refine tP 0 (h := ?_)
     refine tP 1 (hy := by (intro W hW; obtain ⟨z0, z1⟩ := And.intro (HCL.out W hW) True.intro; clear hW; go_split_ands; go_simp; (try with_reducible rfl))) (h := ?_)
     refine tP 2 (h := ?_)
     refine tP 3 (h := ?_)
     refine tP 4 (h := ?_)
     refine tP 5 (hy := by (intro W hW; obtain ⟨z0, z1⟩ := And.intro (HCL.out W hW) True.intro; clear hW; go_split_ands; go_simp; (try with_reducible rfl))) (h := ?_)
     refine tP 6 (h := ?_)
     refine tP 7 (h := ?_)
     refine tP 8 (h := ?_)
     refine tP 9 (h := ?_)
     refine tP 10 (hy := by (intro W hW; obtain ⟨z0, z1⟩ := And.intro (HCL.out W hW) True.intro; clear hW; go_split_ands; go_simp; (try with_reducible rfl))) (h := ?_)
     refine tP 11 (h := ?_)
     refine tP 12 (h := ?_)
     refine tP 13 (h := ?_)
     refine tP 14 (h := ?_)
     refine tP 15 (h := ?_)
     refine tP 16 (hy := by (intro W hW; obtain ⟨z0, z1⟩ := And.intro (HCL.out W hW) True.intro; clear hW; go_split_ands; go_simp; (try with_reducible rfl))) (h := ?_)
     refine oQ 17 (h := fun K17 hK17 => ?_)
     go_simp
     refine (HSET.out _).mono ?_
     rintro e y17 ⟨rfl, hd⟩
     have HST := Lib.hid (HST.out.under hd)
     refine hK17 _ _ (Save.trans hS (Save.of_below hd)) (fun hS17 => ?_)
     clear hS hd hK17 K17
     refine tP 18 (h := ?_)
     refine tP 19 (h := ?_)
     refine sQ 20 (h := ?_)
     refine sQ 21 (h := ?_)
     refine sQ 22 (h := ?_)
     refine sQ 23 (h := ?_)
     refine sQ 24 (h := ?_)
     refine sQ 25 (h := ?_)
     refine sQ 26 (h := ?_)
     refine tP 27 (h := ?_)
     refine tP 28 (h := ?_)
     refine wpAnyH_done (by kernel_rfl) ?_ _
     go_wp2_with fail
     exact HQ.out false _ rfl (fun h => by cases h) ((Save.of_below HB.out).trans hS17)
    case true =>
     refine wp_region_held_drew (S := fun Y => Save m V Y) (by kernel_rfl) (show Save m V V.drew from (Save.refl m V).drewN 1) (fun hS => ?_)
     obtain ⟨Y0, hY0⟩ : ∃ Y, Y = V.drew := ⟨_, rfl⟩
     rw [← hY0] at hS ⊢
     have HST : Hid (SetM 3 Y0 m n L) := Lib.hid (by rw [hY0]; exact HS0.out.drewN 1)
     clear hY0
     refine tP 0 (h := ?_)
     refine tP 1 (hy := by (intro W hW; obtain ⟨z0, z1⟩ := And.intro (HCL.out W hW) True.intro; clear hW; go_split_ands; go_simp; (try with_reducible rfl))) (h := ?_)
     refine tP 2 (h := ?_)
     refine tP 3 (h := ?_)
     refine tP 4 (h := ?_)
     refine tP 5 (hy := by (intro W hW; obtain ⟨z0, z1⟩ := And.intro (HCL.out W hW) True.intro; clear hW; go_split_ands; go_simp; (try with_reducible rfl))) (h := ?_)
     refine tP 6 (h := ?_)
     refine tP 7 (h := ?_)
     refine tP 8 (h := ?_)
     refine tP 9 (h := ?_)
     refine tP 10 (hy := by (intro W hW; obtain ⟨z0, z1⟩ := And.intro (HCL.out W hW) True.intro; clear hW; go_split_ands; go_simp; (try with_reducible rfl))) (h := ?_)
     refine tP 11 (h := ?_)
     refine tP 12 (h := ?_)
     refine tP 13 (h := ?_)
     refine tP 14 (h := ?_)
     refine tP 15 (h := ?_)
     refine tP 16 (hy := by (intro W hW; obtain ⟨z0, z1⟩ := And.intro (HCL.out W hW) True.intro; clear hW; go_split_ands; go_simp; (try with_reducible rfl))) (h := ?_)
     refine oQ 17 (h := fun K17 hK17 => ?_)
     go_simp
     refine (HSET.out _).mono ?_
     rintro e y17 ⟨rfl, hd⟩
     have HST := Lib.hid (HST.out.under hd)
     refine hK17 _ _ (Save.trans hS (Save.of_below hd)) (fun hS17 => ?_)
     clear hS hd hK17 K17
     refine tP 18 (h := ?_)
     refine tP 19 (h := ?_)
     refine tP 20 (h := ?_)
     refine tP 21 (h := ?_)
     refine tP 22 (h := ?_)
     refine tP 23 (hy := by (intro W hW; obtain ⟨z0, z1⟩ := And.intro (HCL.out W hW) True.intro; clear hW; go_split_ands; go_simp; (try with_reducible rfl))) (h := ?_)
     refine tP 24 (h := ?_)
     refine tP 25 (hy := by (intro W hW; obtain ⟨z0, z1⟩ := And.intro (HCL.out W hW) True.intro; clear hW; go_split_ands; go_simp; (try with_reducible rfl))) (h := ?_)
     refine oQ 26 (h := fun K26 hK26 => ?_)
     go_simp
     refine (HTAKE.out _ HST.out).mono ?_
     rintro e y26 ⟨rfl, ha, hb⟩
     have HEND := Lib.hid (And.intro ha (Save.trans hS17 hb))
     refine hK26 _ _ HEND.out.2 (fun hS26 => ?_)
     clear hS17 ha hb hK26 K26
     refine tP 27 (h := ?_)
     refine tP 28 (h := ?_)
     refine wpAnyH_done (by kernel_rfl) ?_ _
     go_wp2_with fail
     exact HQ.out _ _ (by simp) (fun _ => HEND.out.1) ((Save.of_below HB.out).trans HEND.out.2)
def addIf (z : Bool) (x : Lit) : List Lit := cond z [x] []
def cpuL (m : Int) (j : Nat) : List Lit := ((List.range j).filter fun i : Nat => bitS m (i : Int)).map fun i : Nat => Lit.int .i64 (i : Int)
def cpuAt (m c : Int) (L : List Lit) (j : Nat) : Bool := !bitS m (j : Int) || (decide ((j : Int) < c) && !inL L (.int .i64 (j : Int)))
def cpuK (m c : Int) (L : List Lit) : Bool := (List.range 32).all (cpuAt m c L) && !(m == 0)
theorem cpuL_succ (m : Int) (j : Nat) : cpuL m (j + 1) = cpuL m j ++ addIf (bitS m (j : Int)) (.int .i64 (j : Int)) := by
 unfold cpuL
 rw [List.range_succ, List.filter_append, List.map_append]
 congr 1
 by_cases h : bitS m (j : Int) = true
 · simp [h, addIf]
 · simp [h, addIf]
theorem inL_append (L M : List Lit) (k : Lit) : inL (L ++ M) k = (inL L k || inL M k) := by unfold inL; rw [List.any_append]
theorem cpuL_new (m : Int) (j : Nat) (L : List Lit) : inL (L ++ cpuL m j) (.int .i64 (j : Int)) = inL L (.int .i64 (j : Int)) := by
 rw [inL_append]
 have : inL (cpuL m j) (.int .i64 (j : Int)) = false := by
  rw [← Bool.not_eq_true]
  unfold inL cpuL
  rw [List.any_eq_true]
  rintro ⟨x, hx, hk⟩
  obtain ⟨i, hi, rfl⟩ := List.mem_map.1 hx
  have hi := List.mem_range.1 (List.mem_filter.1 hi).1
  simp [Lit.sameKey] at hk
  omega
 rw [this, Bool.or_false]
set_option maxHeartbeats 4000000 in
set_option maxRecDepth 100000 in
theorem kcpus_any (p : Nat) (b : Bd) (mk : Int) (hc : 0 ≤ mk ∧ mk ≤ 4294967295) (m n : Nat) (L : List Lit) (w : World) (h : KB w p b) (hpm : p ≠ m) (h9 : w.cell? ⟨p, 9, none⟩ = some (.map (some m))) (hs : SetM 3 w m n L) (hn : n ≤ 900000) :
  Calls Tryz.prog 40 #[.pointer (some ⟨p, 0, none⟩), .int .u32 mk] w (TakeC 3 m (n + 32) (L ++ cpuL mk 32) (cpuK mk b.cpus L) w) := by
 obtain ⟨C, hC⟩ : ∃ z, z = b.cpus := ⟨_, rfl⟩
 rw [← hC]
 have HCL : Hid (∀ Y, Save m w Y → Y.cell? ⟨p, 6, none⟩ = some (.int .i64 C) ∧ Y.cell? ⟨p, 9, none⟩ = some (.map (some m))) := Lib.hid fun Y hY => by
  rw [hC]
  exact ⟨(hY.cell (p := ⟨p, 6, none⟩) h.1 hpm).trans (h.2 6 (by decide)), (hY.cell (p := ⟨p, 9, none⟩) h.1 hpm).trans h9⟩
 have HSET : Hid (∀ (j : Nat) W, j < 32 → Calls Tryz.prog 74 #[.int .u32 mk, .int .i64 (j : Int)] W (EqV (bitS mk (j : Int)) W)) := Lib.hid fun j W hj => set_any mk j hc ⟨by omega, by omega⟩ W
 have HTAKE : Hid (∀ (j : Nat) W, j < 32 → SetM 3 W m (n + j) (L ++ cpuL mk j) → Calls Tryz.prog 75 #[.map (some m), .int .i64 (j : Int)] W fun e w' => e = .returned (.bool (!inL L (.int .i64 (j : Int)))) ∧ SetM 3 w' m (n + j + 1) ((L ++ cpuL mk j) ++ [.int .i64 (j : Int)]) ∧ Save m W w') := Lib.hid fun j W hj hW => by
  have := take_int m (n + j) (L ++ cpuL mk j) (j : Int) (by simp [Lit.wf, IntKind.min, IntKind.max, IntKind.bits, IntKind.signed]; omega) W hW (by omega)
  rw [cpuL_new] at this
  exact this
 have HQ : Hid (∀ (r : Bool) w', r = cpuK mk C L → (r = true → SetM 3 w' m (n + 32) (L ++ cpuL mk 32)) → Save m w w' → TakeC 3 m (n + 32) (L ++ cpuL mk 32) (cpuK mk C L) w (.returned (.bool r)) w') := Lib.hid fun r w' h1 h2 h3 => ⟨r, rfl, h1, h2, h3⟩
 obtain ⟨Q, hQ⟩ : ∃ Q, Q = TakeC 3 m (n + 32) (L ++ cpuL mk 32) (cpuK mk C L) w := ⟨_, rfl⟩
 rw [← hQ] at HQ ⊢
 have HST : Hid (SetM 3 w m (n + 0) (L ++ cpuL mk 0) ∧ Save m w w ∧ ∀ i, i < 0 → cpuAt mk C L i = true) := Lib.hid ⟨by rw [show cpuL mk 0 = [] from rfl, List.append_nil]; exact hs, Save.refl _ _, fun i hi => absurd hi (Nat.not_lt_zero _)⟩
 have HNO : Hid (∀ j, j < 32 → cpuAt mk C L j = false → cpuK mk C L = false) := Lib.hid fun j hj hf => by
  unfold cpuK
  rw [all_miss (l := List.range 32) (i := j) (by simpa using hj) (by simpa using hf)]
  rfl
 have HYES : Hid ((∀ i, i < 32 → cpuAt mk C L i = true) → cpuK mk C L = (mk != 0)) := Lib.hid fun hh => by
  unfold cpuK
  rw [List.all_eq_true.2 fun i hi => hh i (List.mem_range.1 hi)]
  rfl
 clear hc hC h hpm h9 hs hn hQ
 unfold EqV at HSET
 go_enter Tryz.func40, Tryz.ntmps40
 go_upto_region 2 with fail
 go_loopw [6] (fun v W => ∃ j : Nat, j ≤ 32 ∧ v = .int .i64 j ∧ Hid (SetM 3 W m (n + j) (L ++ cpuL mk j) ∧ Save m w W ∧ ∀ i, i < j → cpuAt mk C L i = true)) (fun v _ => 32 - (intOf v).toNat)
 case atStart => exact ⟨0, Nat.zero_le _, rfl, HST⟩
 case round =>
  clear HST
  obtain ⟨j, hj, rfl, HR⟩ := hrel
  by_cases hlt : j < 32
  · have hji : (j : Int) < (32 : Int) := by omega
    obtain ⟨z1, hz1⟩ : ∃ z, z = bitS mk (j : Int) := ⟨_, rfl⟩
    obtain ⟨z2, hz2⟩ : ∃ z, z = decide (C ≤ (j : Int)) := ⟨_, rfl⟩
    obtain ⟨z3, hz3⟩ : ∃ z, z = inL L (.int .i64 (j : Int)) := ⟨_, rfl⟩
    have HAT : Hid (cpuAt mk C L j = (!z1 || (!z2 && !z3))) := Lib.hid (by unfold cpuAt; rw [← hz1, ← hz3, hz2]; congr 2; by_cases h : C ≤ (j : Int) <;> simp [h] <;> omega)
    have HLS : Hid (cpuL mk (j + 1) = cpuL mk j ++ addIf z1 (.int .i64 (j : Int))) := Lib.hid (by rw [hz1]; exact cpuL_succ mk j)
    have HS1 := Lib.hid (HSET.out j wr hlt)
    rw [← hz1] at HS1
    have k2 : decide (C ≤ (j : Int)) = z2 := hz2.symm
    have hz3s := Lib.hid hz3
    clear hz1 hz2 hz3
    cases z1
    case false =>
     go_wp2_with (go_at_call 74; refine HS1.out.mono ?_; rintro e w1 ⟨rfl, hd⟩; have HX := Lib.hid hd; clear hd)
     go_roundw
     case rel => exact ⟨j + 1, by omega, by go_num, Lib.hid ⟨by rw [HLS.out, show addIf false (.int .i64 (j : Int)) = [] from rfl, List.append_nil]; exact (HR.out.1.under HX.out).wide (by omega), HR.out.2.1.trans (Save.of_below HX.out), fun i hi => by
      rcases Nat.lt_or_ge i j with h1 | h1
      · exact HR.out.2.2 i h1
      · obtain rfl : i = j := by omega
        rw [HAT.out]; rfl⟩⟩
     case measure => simp [intOf]; omega
    case true =>
     cases z2
     case true =>
      go_wp2_with (go_at_call 74; refine HS1.out.mono ?_; rintro e w1 ⟨rfl, hd⟩; have HX := Lib.hid hd; obtain ⟨c6, c9⟩ := HCL.out w1 (HR.out.2.1.trans (Save.of_below hd)); clear hd)
      exact HQ.out false _ (HNO.out j hlt (by rw [HAT.out]; rfl)).symm (fun h => by cases h) (HR.out.2.1.trans (Save.of_below HX.out))
     case false =>
      cases z3
      case true =>
        go_wp2_with (first
         | (go_at_call 74; refine HS1.out.mono ?_; rintro e w1 ⟨rfl, hd⟩; have HX := Lib.hid hd; obtain ⟨c6, c9⟩ := HCL.out w1 (HR.out.2.1.trans (Save.of_below hd)); clear hd)
         | (go_at_call 75; refine (HTAKE.out j _ hlt (HR.out.1.under HX.out)).mono ?_; rw [← hz3s.out]; rintro e w2 ⟨rfl, ha, hb⟩; have HY := Lib.hid (And.intro ha ((HR.out.2.1.trans (Save.of_below HX.out)).trans hb)); clear ha hb))
        exact HQ.out false _ (HNO.out j hlt (by rw [HAT.out]; rfl)).symm (fun h => by cases h) HY.out.2
      case false =>
        go_wp2_with (first
         | (go_at_call 74; refine HS1.out.mono ?_; rintro e w1 ⟨rfl, hd⟩; have HX := Lib.hid hd; obtain ⟨c6, c9⟩ := HCL.out w1 (HR.out.2.1.trans (Save.of_below hd)); clear hd)
         | (go_at_call 75; refine (HTAKE.out j _ hlt (HR.out.1.under HX.out)).mono ?_; rw [← hz3s.out]; rintro e w2 ⟨rfl, ha, hb⟩; have HY := Lib.hid (And.intro ha ((HR.out.2.1.trans (Save.of_below HX.out)).trans hb)); clear ha hb))
        go_roundw
        case rel => exact ⟨j + 1, by omega, by go_num, Lib.hid ⟨by rw [HLS.out, show addIf true (.int .i64 (j : Int)) = [Lit.int .i64 (j : Int)] from rfl, ← List.append_assoc]; exact HY.out.1, HY.out.2, fun i hi => by
         rcases Nat.lt_or_ge i j with h1 | h1
         · exact HR.out.2.2 i h1
         · obtain rfl : i = j := by omega
           rw [HAT.out]; rfl⟩⟩
        case measure => simp [intOf]; omega
  · obtain rfl : j = 32 := by omega
    go_wp2_with fail
    exact HQ.out _ _ (HYES.out HR.out.2.2).symm (fun _ => HR.out.1) HR.out.2.1
end Go.Proofs.YtkaipknkjocfiaaGreat
