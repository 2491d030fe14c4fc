/- Merged: Xlaid, Xbld, Xbytes, Xps, Xpkey, Xeq. -/
import Derived.Test.YtfeiplaiekbdkaaGreatDoorWx
/- Nodes laid behind one another. -/
namespace Go.Proofs.YtfeiplaiekbdkaaGreatDoor
open Go.RowKit
attribute [local go_sem ↓ high] zeroV26

/-- What a round of laid keeps. -/
structure LA (w : World) (base : Nat) (xs : List UInt8) (v : Value) (W : World) : Prop where
  row : W.ownsRow base 5 1 v xs.length (u8s xs)
  b : Below base w W
/-- One node more. -/
theorem LA.step {w W : World} {base : Nat} {xs : List UInt8} {v : Value} (h : LA w base xs v W) (hw : base ≤ w.heap.size) (f : Nd) (hn : xs.length ≤ 1000000000) (ty : TypeId) :
    ∃ v' w', (Builtin.append_ #[22, 22] ty #[v, .slice (some ⟨W.heap.size, 0, none⟩) 32 32]).run Tryz.prog ((W.alloc (.cells (vec 32 (bys zb)) 30)).setRow W.heap.size (vec 32 (bys f))) = .ok v' w' ∧ LA w base (xs ++ nodeL f) v' w' := by
  have hsz := h.b.size
  have hb1 : Below W.heap.size W ((W.alloc (.cells (vec 32 (bys zb)) 30)).setRow W.heap.size (vec 32 (bys f))) := below_row ((Below.refl _ _).alloc (Nat.le_refl _) _) (Nat.le_refl _) _
  obtain ⟨v', w', hr, ho, hb⟩ := app_node (ownsN_below h.row hb1) ((Arr.new W 30 32 (bys zb)).row (bys f)) hn (by have := hb1.size; omega) ty
  refine ⟨v', w', hr, ⟨by rw [List.length_append, nodeL_length]; exact ho, h.b.trans ((hb1.mono (by omega)).trans hb)⟩⟩
set_option maxHeartbeats 1000000 in
set_option maxRecDepth 100000 in
theorem laid_any (A : Option Addr) (c : Nat) (ls : List Nd) (hn : ls.length ≤ 1000) (w : World) (hr : NRow w w.heap.size A ls) :
    Calls Tryz.prog 33 #[.slice A ls.length c] w (Bytes w (nodesL ls)) := by
  obtain ⟨cur, hcur, hmk⟩ := make_u8 (32 * ls.length) (by omega) w
  rw [show ((32 * ls.length : Nat) : Int) = 32 * (ls.length : Int) by simp] at hmk
  obtain ⟨V, hV⟩ : ∃ V, V = w.alloc (.cells cur 5) := ⟨_, rfl⟩
  have hown0 : V.ownsRow w.heap.size 5 1 (.slice (some ⟨w.heap.size, 0, none⟩) 0 (32 * ls.length)) 0 (u8s []) := by
    rw [hV]; exact World.ownsRow_made w cur _ (Nat.le_refl _) (by unfold maxLen; omega) (by rw [hcur, Nat.mul_one])
  have hbel0 : Below w.heap.size w V := by rw [hV]; exact (Below.refl _ _).alloc (Nat.le_refl _) _
  have HI : Hid (LA w w.heap.size (nodesL (ls.take 0)) (.slice (some ⟨w.heap.size, 0, none⟩) 0 (32 * ls.length)) V) := Lib.hid ⟨hown0, hbel0⟩
  have HR := Lib.hid hr
  rw [← hV] at hmk
  have hwn : wrap64 (32 * (ls.length : Int)) = 32 * (ls.length : Int) := by unfold wrap64; omega
  clear hV hown0 hbel0 hr hcur
  go_enter Tryz.func33, Tryz.ntmps33
  go_wp2
  go_loopw [3, 12] (fun v j W => ∃ k : Nat, k ≤ ls.length ∧ j = .int .i64 k ∧ Hid (LA w w.heap.size (nodesL (ls.take k)) v W)) (fun _ i _ => ls.length - (intOf i).toNat)
  case atStart => exact ⟨0, Nat.zero_le _, rfl, HI⟩
  case round =>
    obtain ⟨k, hk, rfl, hQ⟩ := hrel
    clear hmk
    by_cases hlt : k < ls.length
    · have hkI : (k : Int) < (ls.length : Int) := by omega
      obtain ⟨a, p, rfl, hp, hpb, hc⟩ := (HR.out.below hQ.out.b).at hlt
      obtain ⟨f, hf⟩ : ∃ f, f = ls[k] := ⟨_, rfl⟩
      rw [← hf] at hc
      have HC := Lib.hid hc
      have HT : Hid (nodesL (ls.take (k + 1)) = nodesL (ls.take k) ++ nodeL f) := Lib.hid (by rw [List.take_succ_eq_append_getElem hlt, hf, nodesL_snoc])
      have hle : (nodesL (ls.take k)).length ≤ 1000000000 := by rw [nodesL_length, List.length_take]; omega
      obtain ⟨v9, y9, hr9, h9⟩ := hQ.out.step (Nat.le_refl _) f hle 22
      have H9 := Lib.hid h9
      clear hc hf hpb h9 hle
      go_wp2_with (first
        | ((with_reducible show wpList _ _ _ (Oper.mk _ (.load _ _) _ _ _ _ :: _) _ _); refine wl_load_q rfl 30 _ rfl p rfl _ (load_p HC.out) ?_)
        | ((with_reducible show wpList _ _ _ (Oper.mk _ (.store _ _ _) _ _ _ _ :: _) _ _); refine wl_store rfl 30 _ _ rfl _ rfl _ rfl (run_store_arr (Arr.new wr _ _ _) (bys f) info26 (bys_one _ _)) ?_)
        | ((with_reducible show wpList _ _ _ (Oper.mk _ (.call ⟨.builtin .append, _, _⟩) _ _ _ _ :: _) _ _); refine wpList_plain rfl fun K hK => Lib.wp_append_run _ _ _ _ _ rfl _ _ rfl rfl _ _ hr9 (hK _ _ ?_); clear hK K))
      clear hr9
      go_roundw
      case rel => exact ⟨k + 1, by omega, by simp, Lib.hid (by rw [HT.out]; exact H9.out)⟩
      case measure => simp [intOf]; omega
    · obtain rfl : k = ls.length := by omega
      go_wp2
      go_ret
      have h := hQ.out
      rw [List.take_length] at h
      exact ⟨_, rfl, h.row, h.b⟩
end Go.Proofs.YtfeiplaiekbdkaaGreatDoor
/- Slices that a call is handed: of one number, of one or two nodes, of parts. -/
namespace Go.Proofs.YtfeiplaiekbdkaaGreatDoor
open Go.RowKit

theorem info_u32 : (Tryz.prog.info? 28).map (fun i => (i.zero, i.size, i.bytes)) = some (some (.int .u32 0), 1, 4) := by kernel_rfl
theorem info_row8 : (Tryz.prog.info? 22).map (fun i => (i.zero, i.size, i.bytes)) = some (some (.slice none 0 0), 1, 24) := by kernel_rfl
section
variable {o : Oper} {a : Act} {w : World} {K : Act → World → Prop} {Q : Exit → Act → World → Prop}
theorem ow_of_run {t : TypeId} {n : Nat} {parts : Array (Nat × Operand)} (ho : o.op = .buildSlice t n parts) {vs : Array (Nat × Value)} (hv : (parts.map fun (i, x) => (i, a.eval x)) = vs) {v : Value} {w' : World} (hr : (Instr.buildSlice t n vs).run Tryz.prog w = .ok v w') (h : K (a.put o.dst v) w') : o.wp Tryz.prog a w K Q := by
  unfold Oper.wp execOp
  subst hv
  simp only [ho, Sem.run_bind, hr, Result.andThen_ok, Sem.run_pure]
  exact h
set_option maxRecDepth 100000 in
theorem ow_u32 (x : Operand) (ho : o.op = .buildSlice 96 1 #[(0, x)]) (n : Nat) (hx : a.eval x = .int .u32 (n : Int))
    (h : ∀ y p, Lies y y.heap.size 1 (some p) 1 (u32s [n]) → Below w.heap.size w y → K (a.put o.dst (.slice (some p) 1 1)) y) : o.wp Tryz.prog a w K Q := by
  obtain ⟨i0, hi, hz0, hz1, hz2⟩ := info_parts info_u32
  have hr : (Instr.buildSlice 96 1 #[(0, .int .u32 (n : Int))]).run Tryz.prog w = .ok (.slice (some ⟨w.heap.size, 0, none⟩) 1 1) (w.alloc (.cells #[.int .u32 (n : Int)] 28)) := by
    refine run_buildSlice (P := Tryz.prog) w 96 28 1 _ _ i0 (.int .u32 0) Tryz.underlying96 hi hz0 (by rw [hz1]; decide) (by rw [hz1]; decide) ?_
    rw [hz1]
    kernel_rfl
  exact ow_of_run ho (by simp [hx]) hr (h _ _ (lies_one w (.int .u32 (n : Int)) 28) ((Below.refl _ _).alloc (Nat.le_refl _) _))
theorem nrow_arr {y : World} {g : Nat} {t : TypeId} {f : Nd} (h : Arr y g t 32 (bys f)) : NRow y y.heap.size (some ⟨g, 0, none⟩) [f] := fun _ => by
  refine ⟨_, rfl, h.lt, fun j hj i hi => ?_⟩
  obtain rfl : j = 0 := by simpa using hj
  have hadd : (⟨g, 0, none⟩ : Addr).add (0 * 32 + i) = ⟨g, i, none⟩ := by unfold Addr.add; split <;> simp_all
  rw [hadd]
  exact h.cell hi
theorem ow_node1 (x : Operand) (ho : o.op = .buildSlice 31 1 #[(0, x)]) (f : Nd) (hx : a.eval x = .agg (vec 32 (bys f)))
    (h : ∀ y p, NRow y y.heap.size (some p) [f] → Below w.heap.size w y → K (a.put o.dst (.slice (some p) 1 1)) y) : o.wp Tryz.prog a w K Q :=
  ow_build1 x ho f hx (h _ _ (nrow_arr (Arr.new w _ _ _)) ((Below.refl _ _).alloc (Nat.le_refl _) _))
def twoF (f g : Nd) : Nat → Value := fun i => if i < 32 then bys f i else bys g (i - 32)
set_option maxRecDepth 100000 in
theorem ow_node2 (x x' : Operand) (ho : o.op = .buildSlice 31 2 #[(0, x), (1, x')]) (f g : Nd) (hx : a.eval x = .agg (vec 32 (bys f))) (hx' : a.eval x' = .agg (vec 32 (bys g)))
    (h : ∀ y p, NRow y y.heap.size (some p) [f, g] → Below w.heap.size w y → K (a.put o.dst (.slice (some p) 2 2)) y) : o.wp Tryz.prog a w K Q := by
  obtain ⟨i0, hi, hz0, hz1, hz2⟩ := info_parts infoN
  have hr : (Instr.buildSlice 31 2 #[(0, .agg (vec 32 (bys f))), (1, .agg (vec 32 (bys g)))]).run Tryz.prog w = .ok (.slice (some ⟨w.heap.size, 0, none⟩) 2 2) (w.alloc (.cells (vec 64 (twoF f g)) 30)) := by
    refine run_buildSlice (P := Tryz.prog) w 31 30 2 _ _ i0 (.agg (vec 32 (bys zb))) Tryz.underlying31 hi hz0 (by rw [hz1]; decide) (by rw [hz1]; decide) ?_
    rw [hz1]
    kernel_rfl
  have hA : Arr (w.alloc (.cells (vec 64 (twoF f g)) 30)) w.heap.size 30 64 (twoF f g) := Arr.new w _ _ _
  refine ow_of_run ho (by simp [hx, hx']) hr (h _ _ (fun _ => ⟨_, rfl, hA.lt, fun j hj i hi => ?_⟩) ((Below.refl _ _).alloc (Nat.le_refl _) _))
  have hadd : ∀ k, (⟨w.heap.size, 0, none⟩ : Addr).add k = ⟨w.heap.size, k, none⟩ := fun k => by unfold Addr.add; split <;> simp_all
  rw [hadd]
  have hj2 : j = 0 ∨ j = 1 := by simp at hj; omega
  rcases hj2 with rfl | rfl
  · rw [hA.cell (by omega)]
    simp [twoF, hi]
  · rw [hA.cell (by omega)]
    show some (if 1 * 32 + i < 32 then bys f (1 * 32 + i) else bys g (1 * 32 + i - 32)) = _
    rw [if_neg (by omega), show 1 * 32 + i - 32 = i by omega]
    rfl
set_option maxRecDepth 100000 in
theorem ow_part2 (x x' : Operand) (ho : o.op = .buildSlice 95 2 #[(0, x), (1, x')]) (p q : Part) (hx : a.eval x = partV p) (hx' : a.eval x' = partV q)
    (h : ∀ y A, Lies y y.heap.size 1 (some A) 2 ([p, q].map partV) → Below w.heap.size w y → K (a.put o.dst (.slice (some A) 2 2)) y) : o.wp Tryz.prog a w K Q := by
  obtain ⟨i0, hi, hz0, hz1, hz2⟩ := info_parts info_row8
  have hr : (Instr.buildSlice 95 2 #[(0, partV p), (1, partV q)]).run Tryz.prog w = .ok (.slice (some ⟨w.heap.size, 0, none⟩) 2 2) (w.alloc (.cells #[partV p, partV q] 22)) := by
    refine run_buildSlice (P := Tryz.prog) w 95 22 2 _ _ i0 (.slice none 0 0) Tryz.underlying95 hi hz0 (by rw [hz1]; decide) (by rw [hz1]; decide) ?_
    rw [hz1]
    kernel_rfl
  exact ow_of_run ho (by simp [hx, hx']) hr (h _ _ ((lies_new w #[partV p, partV q] 22 2 _ rfl rfl).wide (by simp)) ((Below.refl _ _).alloc (Nat.le_refl _) _))
set_option maxRecDepth 100000 in
theorem ow_part4 (x1 x2 x3 x4 : Operand) (ho : o.op = .buildSlice 95 4 #[(0, x1), (1, x2), (2, x3), (3, x4)]) (p1 p2 p3 p4 : Part) (h1 : a.eval x1 = partV p1) (h2 : a.eval x2 = partV p2) (h3 : a.eval x3 = partV p3) (h4 : a.eval x4 = partV p4)
    (h : ∀ y A, Lies y y.heap.size 1 (some A) 4 ([p1, p2, p3, p4].map partV) → Below w.heap.size w y → K (a.put o.dst (.slice (some A) 4 4)) y) : o.wp Tryz.prog a w K Q := by
  obtain ⟨i0, hi, hz0, hz1, hz2⟩ := info_parts info_row8
  have hr : (Instr.buildSlice 95 4 #[(0, partV p1), (1, partV p2), (2, partV p3), (3, partV p4)]).run Tryz.prog w = .ok (.slice (some ⟨w.heap.size, 0, none⟩) 4 4) (w.alloc (.cells #[partV p1, partV p2, partV p3, partV p4] 22)) := by
    refine run_buildSlice (P := Tryz.prog) w 95 22 4 _ _ i0 (.slice none 0 0) Tryz.underlying95 hi hz0 (by rw [hz1]; decide) (by rw [hz1]; decide) ?_
    rw [hz1]
    kernel_rfl
  exact ow_of_run ho (by simp [h1, h2, h3, h4]) hr (h _ _ ((lies_new w #[partV p1, partV p2, partV p3, partV p4] 22 4 _ rfl rfl).wide (by simp)) ((Below.refl _ _).alloc (Nat.le_refl _) _))
end
/-- PutBe32 of one number, behind nothing. -/
theorem put_one (n : Nat) (hn : n < 4294967296) (D : Option Addr) (d : Nat) (y : World) (h : Lies y y.heap.size 1 D 1 (u32s [n])) :
    Calls Tryz.prog 32 #[.slice none 0 0, .slice D 1 d] y (Bytes y (numBytes 0 4 n)) := by
  have := putBe32_any [] [n] (by simpa using hn) none D 0 d y.heap.size y (Nat.le_refl _) (Lies.nil _ _ _ _) h (by simp)
  rw [show ([] : List UInt8) ++ putAll 0 4 [n] = numBytes 0 4 n by simp [putAll]] at this
  exact this
theorem laid_n (n : Nat) (A : Option Addr) (c : Nat) (ls : List Nd) (hl : n = ls.length) (hn : n ≤ 1000) (w : World) (hr : NRow w w.heap.size A ls) : Calls Tryz.prog 33 #[.slice A n c] w (Bytes w (nodesL ls)) := by
  subst hl
  exact laid_any A c ls hn w hr
theorem cat_n (n : Nat) (A : Option Addr) (c : Nat) (ps : List Part) (L : List UInt8) (hL : catAll ps = L) (hl : n = ps.length) (hn : n ≤ 1000) (hs : L.length ≤ 1000000) (w : World) (h : Lies w w.heap.size 1 A n (ps.map partV))
    (hp : ∀ p ∈ ps, Lies w w.heap.size 1 p.1 p.2.2.length (u8s p.2.2)) : Calls Tryz.prog 31 #[.slice A n c] w (Bytes w L) := by
  subst hl hL
  exact cat_any ps A c w.heap.size w (Nat.le_refl _) h hp (by omega) (by unfold maxLen; omega)
/-- A row that was made, as a part. -/
theorem row_part {w : World} {base : Nat} {v : Value} {L : List UInt8} (h : w.ownsRow base 5 1 v L.length (u8s L)) : ∃ A c, v = partV (A, c, L) ∧ L.length ≤ c ∧ Lies w w.heap.size 1 A L.length (u8s L) := by
  obtain ⟨A, c, e, hc, _, hl⟩ := owns_cap h
  exact ⟨A, c, e, hc, hl⟩
end Go.Proofs.YtfeiplaiekbdkaaGreatDoor
/- sized.bytes. -/
namespace Go.Proofs.YtfeiplaiekbdkaaGreatDoor
open Go.RowKit
attribute [local go_sem ↓ high] zeroV26 zeroSig zeroSz

set_option maxHeartbeats 2000000 in
set_option maxRecDepth 100000 in
theorem szBytes_any (idx : Nat) (hidx : idx < 4294967296) (r : Nd) (ots auth : List Nd) (ho : ots.length ≤ 1000) (ha : auth.length ≤ 1000) (A1 A2 : Option Addr) (n1 n2 c1 c2 : Nat) (hn1 : n1 = ots.length) (hn2 : n2 = auth.length) (h : Int) (w : World) (h1 : NRow w w.heap.size A1 ots) (h2 : NRow w w.heap.size A2 auth) :
    Calls Tryz.prog 56 #[.agg (vec 36 (szF (idx : Int) r (.slice A1 n1 c1) (.slice A2 n2 c2) h))] w (Bytes w (sigL idx r ots auth)) := by
  obtain ⟨V, hV⟩ : ∃ V, V = w.alloc (.cells (vec 36 (szF (idx : Int) r (.slice A1 n1 c1) (.slice A2 n2 c2) h)) 58) := ⟨_, rfl⟩
  have h0 : Arr V w.heap.size 58 36 (szF (idx : Int) r (.slice A1 n1 c1) (.slice A2 n2 c2) h) := by rw [hV]; exact Arr.new w _ _ _
  have hB : Below w.heap.size w V := by rw [hV]; exact (Below.refl _ _).alloc (Nat.le_refl _) _
  have HA := Lib.hid (And.intro h0 hB)
  have HW := Lib.hid hV
  have HO := Lib.hid (And.intro hidx (And.intro ho (And.intro ha (And.intro hn1 hn2))))
  have HN2 : Hid (NRow V.drew V.drew.heap.size A1 ots) := Lib.hid ((h1.below hB).wide hB.size)
  have HN3 : Hid (NRow V.drew V.drew.heap.size A2 auth) := Lib.hid ((h2.below hB).wide hB.size)
  clear hV h0 hB h1 h2 hidx ho ha hn1 hn2
  go_enter Tryz.func56, Tryz.ntmps56
  go_upto_region 1 with fail
  rw [← HW.out]
  clear HW
  refine wp_region_held_drew (S := fun Y => VS V Y) (by kernel_rfl) (VS.begin V) (fun hS => ?_)
  (refine held_take (i := 0) (oi := ?ot1) (v := ?vt1) ?at1 (by kernel_rfl) (by kernel_rfl) (by kernel_rfl) ?bt1 ?ct1 ?dt1 (by assumption) ?rt1; (case at1 => (simp only [List.getElem?_toArray, List.getElem?_cons_zero]; rfl)); (case bt1 => exact fun _ _ _ h => h); (case ct1 => kernel_rfl); (case dt1 => (intro W hW; (try dsimp only at hW); go_split_ands; go_simp; (try with_reducible rfl))); (case' rt1 => simp only [Act.put, List.setIfInBounds_toArray, List.set_cons_zero, List.set_cons_succ]))
  (refine held_take (i := 1) (oi := ?ot2) (v := ?vt2) ?at2 (by kernel_rfl) (by kernel_rfl) (by kernel_rfl) ?bt2 ?ct2 ?dt2 (by assumption) ?rt2; (case at2 => (simp only [List.getElem?_toArray, List.getElem?_cons_zero, List.getElem?_cons_succ]; rfl)); (case bt2 => exact fun _ _ _ h => h); (case ct2 => kernel_rfl); (case dt2 => (intro W hW; (try dsimp only at hW); go_split_ands; go_simp; (try with_reducible rfl))); (case' rt2 => simp only [Act.put, List.setIfInBounds_toArray, List.set_cons_zero, List.set_cons_succ]))
  (refine held_take (i := 2) (oi := ?ot3) (v := .int .u32 (idx : Int)) ?at3 (by kernel_rfl) (by kernel_rfl) (by kernel_rfl) ?bt3 ?ct3 ?dt3 (by assumption) ?rt3; (case at3 => (simp only [List.getElem?_toArray, List.getElem?_cons_zero, List.getElem?_cons_succ]; rfl)); (case bt3 => exact fun _ _ _ h => h); (case ct3 => kernel_rfl); (case dt3 => (intro W hW; have hc := sz_idx (HA.out.1.under (show Below V.heap.size V W from hW)); clear hW; go_simp; (try with_reducible rfl))); (case' rt3 => simp only [Act.put, List.setIfInBounds_toArray, List.set_cons_zero, List.set_cons_succ]))
  (refine held_take (i := 5) (oi := ?ot4) (v := ?vt4) ?at4 (by kernel_rfl) (by kernel_rfl) (by kernel_rfl) ?bt4 ?ct4 ?dt4 (by assumption) ?rt4; (case at4 => (simp only [List.getElem?_toArray, List.getElem?_cons_zero, List.getElem?_cons_succ]; rfl)); (case bt4 => exact fun _ _ _ h => h); (case ct4 => kernel_rfl); (case dt4 => (intro W hW; (try dsimp only at hW); go_split_ands; go_simp; (try with_reducible rfl))); (case' rt4 => simp only [Act.put, List.setIfInBounds_toArray, List.set_cons_zero, List.set_cons_succ]))
  (refine held_take (i := 6) (oi := ?ot5) (v := ?vt5) ?at5 (by kernel_rfl) (by kernel_rfl) (by kernel_rfl) ?bt5 ?ct5 ?dt5 (by assumption) ?rt5; (case at5 => (simp only [List.getElem?_toArray, List.getElem?_cons_zero, List.getElem?_cons_succ]; rfl)); (case bt5 => exact fun _ _ _ h => h); (case ct5 => kernel_rfl); (case dt5 => (intro W hW; (try dsimp only at hW); go_split_ands; go_simp; (try with_reducible rfl))); (case' rt5 => simp only [Act.put, List.setIfInBounds_toArray, List.set_cons_zero, List.set_cons_succ]))
  (refine held_take (i := 7) (oi := ?ot6) (v := .agg (vec 32 (bys r))) ?at6 (by kernel_rfl) (by kernel_rfl) (by kernel_rfl) ?bt6 ?ct6 ?dt6 (by assumption) ?rt6; (case at6 => (simp only [List.getElem?_toArray, List.getElem?_cons_zero, List.getElem?_cons_succ]; rfl)); (case bt6 => exact fun _ _ _ h => h); (case ct6 => kernel_rfl); (case dt6 => (intro W hW; exact exec_load_at 30 _ rfl _ _ rfl _ (sig_r (HA.out.1.under (show Below V.heap.size V W from hW)) (fun i hi => szF_low _ _ _ _ _ i hi) (by decide)))); (case' rt6 => simp only [Act.put, List.setIfInBounds_toArray, List.set_cons_zero, List.set_cons_succ]))
  (refine held_take (i := 10) (oi := ?ot7) (v := ?vt7) ?at7 (by kernel_rfl) (by kernel_rfl) (by kernel_rfl) ?bt7 ?ct7 ?dt7 (by assumption) ?rt7; (case at7 => (simp only [List.getElem?_toArray, List.getElem?_cons_zero, List.getElem?_cons_succ]; rfl)); (case bt7 => exact fun _ _ _ h => h); (case ct7 => kernel_rfl); (case dt7 => (intro W hW; (try dsimp only at hW); go_split_ands; go_simp; (try with_reducible rfl))); (case' rt7 => simp only [Act.put, List.setIfInBounds_toArray, List.set_cons_zero, List.set_cons_succ]))
  (refine held_take (i := 11) (oi := ?ot8) (v := ?vt8) ?at8 (by kernel_rfl) (by kernel_rfl) (by kernel_rfl) ?bt8 ?ct8 ?dt8 (by assumption) ?rt8; (case at8 => (simp only [List.getElem?_toArray, List.getElem?_cons_zero, List.getElem?_cons_succ]; rfl)); (case bt8 => exact fun _ _ _ h => h); (case ct8 => kernel_rfl); (case dt8 => (intro W hW; (try dsimp only at hW); go_split_ands; go_simp; (try with_reducible rfl))); (case' rt8 => simp only [Act.put, List.setIfInBounds_toArray, List.set_cons_zero, List.set_cons_succ]))
  (refine held_take (i := 12) (oi := ?ot9) (v := .slice A1 n1 c1) ?at9 (by kernel_rfl) (by kernel_rfl) (by kernel_rfl) ?bt9 ?ct9 ?dt9 (by assumption) ?rt9; (case at9 => (simp only [List.getElem?_toArray, List.getElem?_cons_zero, List.getElem?_cons_succ]; rfl)); (case bt9 => exact fun _ _ _ h => h); (case ct9 => kernel_rfl); (case dt9 => (intro W hW; have hc := sz_v1 (HA.out.1.under (show Below V.heap.size V W from hW)); clear hW; go_simp; (try with_reducible rfl))); (case' rt9 => simp only [Act.put, List.setIfInBounds_toArray, List.set_cons_zero, List.set_cons_succ]))
  (refine held_take (i := 14) (oi := ?ot10) (v := ?vt10) ?at10 (by kernel_rfl) (by kernel_rfl) (by kernel_rfl) ?bt10 ?ct10 ?dt10 (by assumption) ?rt10; (case at10 => (simp only [List.getElem?_toArray, List.getElem?_cons_zero, List.getElem?_cons_succ]; rfl)); (case bt10 => exact fun _ _ _ h => h); (case ct10 => kernel_rfl); (case dt10 => (intro W hW; (try dsimp only at hW); go_split_ands; go_simp; (try with_reducible rfl))); (case' rt10 => simp only [Act.put, List.setIfInBounds_toArray, List.set_cons_zero, List.set_cons_succ]))
  (refine held_take (i := 15) (oi := ?ot11) (v := ?vt11) ?at11 (by kernel_rfl) (by kernel_rfl) (by kernel_rfl) ?bt11 ?ct11 ?dt11 (by assumption) ?rt11; (case at11 => (simp only [List.getElem?_toArray, List.getElem?_cons_zero, List.getElem?_cons_succ]; rfl)); (case bt11 => exact fun _ _ _ h => h); (case ct11 => kernel_rfl); (case dt11 => (intro W hW; (try dsimp only at hW); go_split_ands; go_simp; (try with_reducible rfl))); (case' rt11 => simp only [Act.put, List.setIfInBounds_toArray, List.set_cons_zero, List.set_cons_succ]))
  (refine held_take (i := 16) (oi := ?ot12) (v := .slice A2 n2 c2) ?at12 (by kernel_rfl) (by kernel_rfl) (by kernel_rfl) ?bt12 ?ct12 ?dt12 (by assumption) ?rt12; (case at12 => (simp only [List.getElem?_toArray, List.getElem?_cons_zero, List.getElem?_cons_succ]; rfl)); (case bt12 => exact fun _ _ _ h => h); (case ct12 => kernel_rfl); (case dt12 => (intro W hW; have hc := sz_v2 (HA.out.1.under (show Below V.heap.size V W from hW)); clear hW; go_simp; (try with_reducible rfl))); (case' rt12 => simp only [Act.put, List.setIfInBounds_toArray, List.set_cons_zero, List.set_cons_succ]))
  refine held_two (i := 3) (j := 8) (oi := ?oit36) (oj := ?ojt36) (by kernel_rfl) ?ait36 ?ajt36 ?cit36 ?cjt36 (fun K3 hK3 => ?hit36) (fun K8 hK8 => ?hjt36)
  (case ait36 => (simp only [List.getElem?_toArray, List.getElem?_cons_zero, List.getElem?_cons_succ]; rfl))
  (case ajt36 => (simp only [List.getElem?_toArray, List.getElem?_cons_zero, List.getElem?_cons_succ]; rfl))
  (case cit36 => kernel_rfl)
  (case cjt36 => kernel_rfl)
  case hit36 =>
    refine ow_u32 _ rfl idx rfl (fun y3 p3 hl hd => ?_)
    (try have HU := Lib.hid ((HU.out.below hd).wide hd.size))
    (try have HN := Lib.hid ((HN.out.below hd).wide hd.size))
    (try have HN2 := Lib.hid ((HN2.out.below hd).wide hd.size))
    (try have HN3 := Lib.hid ((HN3.out.below hd).wide hd.size))
    (try have HP := Lib.hid ((HP.out.below hd).wide hd.size))
    (try have HL := Lib.hid ((HL.out.below hd).wide hd.size))
    (try have HL2 := Lib.hid ((HL2.out.below hd).wide hd.size))
    (try have HL3 := Lib.hid ((HL3.out.below hd).wide hd.size))
    (try have HR := Lib.hid ((HR.out.below hd).wide hd.size))
    have HU := Lib.hid hl
    refine hK3 _ _ (hS.keep hd) (fun hS3 => ?_)
    clear hS hl hd hK3 K3
    refine held_two (i := 4) (j := 8) (oi := ?oit27) (oj := ?ojt27) (by kernel_rfl) ?ait27 ?ajt27 ?cit27 ?cjt27 (fun K4 hK4 => ?hit27) (fun K8 hK8 => ?hjt27)
    (case ait27 => (simp only [List.getElem?_toArray, List.getElem?_cons_zero, List.getElem?_cons_succ]; rfl))
    (case ajt27 => (simp only [List.getElem?_toArray, List.getElem?_cons_zero, List.getElem?_cons_succ]; rfl))
    (case cit27 => kernel_rfl)
    (case cjt27 => kernel_rfl)
    case hit27 =>
      go_simp
      refine (put_one idx HO.out.1 (some p3) 1 _ HU.out).mono ?_
      rintro e y4 ⟨v, rfl, ho, hd⟩
      (try have HU := Lib.hid ((HU.out.below hd).wide hd.size))
      (try have HN := Lib.hid ((HN.out.below hd).wide hd.size))
      (try have HN2 := Lib.hid ((HN2.out.below hd).wide hd.size))
      (try have HN3 := Lib.hid ((HN3.out.below hd).wide hd.size))
      (try have HP := Lib.hid ((HP.out.below hd).wide hd.size))
      (try have HL := Lib.hid ((HL.out.below hd).wide hd.size))
      (try have HL2 := Lib.hid ((HL2.out.below hd).wide hd.size))
      (try have HL3 := Lib.hid ((HL3.out.below hd).wide hd.size))
      (try have HR := Lib.hid ((HR.out.below hd).wide hd.size))
      obtain ⟨E4, cE4, rfl, hcE4, hl⟩ := row_part ho
      have HP := Lib.hid hl
      refine hK4 _ _ (hS3.keep hd) (fun hS4 => ?_)
      clear hS3 ho hl hd hK4 K4
      refine held_one (i := 8) (oi := ?ot13) (by kernel_rfl) ?at13 ?ct13 (fun K8 hK8 => ?_)
      (case at13 => (simp only [List.getElem?_toArray, List.getElem?_cons_zero, List.getElem?_cons_succ]; rfl))
      (case ct13 => kernel_rfl)
      refine ow_node1 _ rfl r rfl (fun y8 p8 hl hd => ?_)
      (try have HU := Lib.hid ((HU.out.below hd).wide hd.size))
      (try have HN := Lib.hid ((HN.out.below hd).wide hd.size))
      (try have HN2 := Lib.hid ((HN2.out.below hd).wide hd.size))
      (try have HN3 := Lib.hid ((HN3.out.below hd).wide hd.size))
      (try have HP := Lib.hid ((HP.out.below hd).wide hd.size))
      (try have HL := Lib.hid ((HL.out.below hd).wide hd.size))
      (try have HL2 := Lib.hid ((HL2.out.below hd).wide hd.size))
      (try have HL3 := Lib.hid ((HL3.out.below hd).wide hd.size))
      (try have HR := Lib.hid ((HR.out.below hd).wide hd.size))
      have HN := Lib.hid hl
      refine hK8 _ _ (hS4.keep hd) (fun hS8 => ?_)
      clear hS4 hl hd hK8 K8
      refine held_one (i := 9) (oi := ?ot14) (by kernel_rfl) ?at14 ?ct14 (fun K9 hK9 => ?_)
      (case at14 => (simp only [List.getElem?_toArray, List.getElem?_cons_zero, List.getElem?_cons_succ]; rfl))
      (case ct14 => kernel_rfl)
      go_simp
      refine (laid_n 1 (some p8) 1 [r] rfl (by decide) _ HN.out).mono ?_
      rintro e y9 ⟨v, rfl, ho, hd⟩
      (try have HU := Lib.hid ((HU.out.below hd).wide hd.size))
      (try have HN := Lib.hid ((HN.out.below hd).wide hd.size))
      (try have HN2 := Lib.hid ((HN2.out.below hd).wide hd.size))
      (try have HN3 := Lib.hid ((HN3.out.below hd).wide hd.size))
      (try have HP := Lib.hid ((HP.out.below hd).wide hd.size))
      (try have HL := Lib.hid ((HL.out.below hd).wide hd.size))
      (try have HL2 := Lib.hid ((HL2.out.below hd).wide hd.size))
      (try have HL3 := Lib.hid ((HL3.out.below hd).wide hd.size))
      (try have HR := Lib.hid ((HR.out.below hd).wide hd.size))
      obtain ⟨E9, cE9, rfl, hcE9, hl⟩ := row_part ho
      have HL := Lib.hid hl
      refine hK9 _ _ (hS8.keep hd) (fun hS9 => ?_)
      clear hS8 ho hl hd hK9 K9
      refine held_one (i := 13) (oi := ?ot15) (by kernel_rfl) ?at15 ?ct15 (fun K13 hK13 => ?_)
      (case at15 => (simp only [List.getElem?_toArray, List.getElem?_cons_zero, List.getElem?_cons_succ]; rfl))
      (case ct15 => kernel_rfl)
      go_simp
      refine (laid_n n1 A1 c1 ots HO.out.2.2.2.1 (by have := HO.out.2.2.2.1; have := HO.out.2.1; omega) _ HN2.out).mono ?_
      rintro e y13 ⟨v, rfl, ho, hd⟩
      (try have HU := Lib.hid ((HU.out.below hd).wide hd.size))
      (try have HN := Lib.hid ((HN.out.below hd).wide hd.size))
      (try have HN2 := Lib.hid ((HN2.out.below hd).wide hd.size))
      (try have HN3 := Lib.hid ((HN3.out.below hd).wide hd.size))
      (try have HP := Lib.hid ((HP.out.below hd).wide hd.size))
      (try have HL := Lib.hid ((HL.out.below hd).wide hd.size))
      (try have HL2 := Lib.hid ((HL2.out.below hd).wide hd.size))
      (try have HL3 := Lib.hid ((HL3.out.below hd).wide hd.size))
      (try have HR := Lib.hid ((HR.out.below hd).wide hd.size))
      obtain ⟨E13, cE13, rfl, hcE13, hl⟩ := row_part ho
      have HL2 := Lib.hid hl
      refine hK13 _ _ (hS9.keep hd) (fun hS13 => ?_)
      clear hS9 ho hl hd hK13 K13
      refine held_one (i := 17) (oi := ?ot16) (by kernel_rfl) ?at16 ?ct16 (fun K17 hK17 => ?_)
      (case at16 => (simp only [List.getElem?_toArray, List.getElem?_cons_zero, List.getElem?_cons_succ]; rfl))
      (case ct16 => kernel_rfl)
      go_simp
      refine (laid_n n2 A2 c2 auth HO.out.2.2.2.2 (by have := HO.out.2.2.2.2; have := HO.out.2.2.1; omega) _ HN3.out).mono ?_
      rintro e y17 ⟨v, rfl, ho, hd⟩
      (try have HU := Lib.hid ((HU.out.below hd).wide hd.size))
      (try have HN := Lib.hid ((HN.out.below hd).wide hd.size))
      (try have HN2 := Lib.hid ((HN2.out.below hd).wide hd.size))
      (try have HN3 := Lib.hid ((HN3.out.below hd).wide hd.size))
      (try have HP := Lib.hid ((HP.out.below hd).wide hd.size))
      (try have HL := Lib.hid ((HL.out.below hd).wide hd.size))
      (try have HL2 := Lib.hid ((HL2.out.below hd).wide hd.size))
      (try have HL3 := Lib.hid ((HL3.out.below hd).wide hd.size))
      (try have HR := Lib.hid ((HR.out.below hd).wide hd.size))
      obtain ⟨E17, cE17, rfl, hcE17, hl⟩ := row_part ho
      have HL3 := Lib.hid hl
      refine hK17 _ _ (hS13.keep hd) (fun hS17 => ?_)
      clear hS13 ho hl hd hK17 K17
      refine held_one (i := 18) (oi := ?ot17) (by kernel_rfl) ?at17 ?ct17 (fun K18 hK18 => ?_)
      (case at17 => (simp only [List.getElem?_toArray, List.getElem?_cons_zero, List.getElem?_cons_succ]; rfl))
      (case ct17 => kernel_rfl)
      refine ow_part4 _ _ _ _ rfl (E4, cE4, numBytes 0 4 idx) (E9, cE9, nodesL [r]) (E13, cE13, nodesL ots) (E17, cE17, nodesL auth) rfl rfl rfl rfl (fun y18 p18 hl hd => ?_)
      (try have HU := Lib.hid ((HU.out.below hd).wide hd.size))
      (try have HN := Lib.hid ((HN.out.below hd).wide hd.size))
      (try have HN2 := Lib.hid ((HN2.out.below hd).wide hd.size))
      (try have HN3 := Lib.hid ((HN3.out.below hd).wide hd.size))
      (try have HP := Lib.hid ((HP.out.below hd).wide hd.size))
      (try have HL := Lib.hid ((HL.out.below hd).wide hd.size))
      (try have HL2 := Lib.hid ((HL2.out.below hd).wide hd.size))
      (try have HL3 := Lib.hid ((HL3.out.below hd).wide hd.size))
      (try have HR := Lib.hid ((HR.out.below hd).wide hd.size))
      have HC := Lib.hid hl
      refine hK18 _ _ (hS17.keep hd) (fun hS18 => ?_)
      clear hS17 hl hd hK18 K18
      refine held_one (i := 19) (oi := ?ot18) (by kernel_rfl) ?at18 ?ct18 (fun K19 hK19 => ?_)
      (case at18 => (simp only [List.getElem?_toArray, List.getElem?_cons_zero, List.getElem?_cons_succ]; rfl))
      (case ct18 => kernel_rfl)
      go_simp
      refine (cat_n 4 (some p18) 4 [(E4, cE4, numBytes 0 4 idx), (E9, cE9, nodesL [r]), (E13, cE13, nodesL ots), (E17, cE17, nodesL auth)] (sigL idx r ots auth) (by simp [catAll, sigL, nodesL]) rfl (by decide) (by rw [sigL_length]; have := HO.out.2.1; have := HO.out.2.2.1; omega) _ HC.out (fun p hp => ?_)).mono ?_
      · simp only [List.mem_cons, List.not_mem_nil, or_false] at hp
        rcases hp with rfl | rfl | rfl | rfl
        · exact HP.out
        · exact HL.out
        · exact HL2.out
        · exact HL3.out
      rintro e y19 ⟨v, rfl, ho, hd⟩
      have HR := Lib.hid (owns_mono ho ((HA.out.2.trans (Below.mono (show Below V.heap.size V _ from hS18) HA.out.2.size)).size))
      refine hK19 _ _ (hS18.keep hd) (fun hS19 => ?_)
      clear hS18 ho hd hK19 K19
      (refine held_take (i := 20) (oi := ?ot19) (v := ?vt19) ?at19 (by kernel_rfl) (by kernel_rfl) (by kernel_rfl) ?bt19 ?ct19 ?dt19 (by assumption) ?rt19; (case at19 => (simp only [List.getElem?_toArray, List.getElem?_cons_zero, List.getElem?_cons_succ]; rfl)); (case bt19 => exact fun _ _ _ h => h); (case ct19 => kernel_rfl); (case dt19 => (intro W hW; (try dsimp only at hW); go_split_ands; go_simp; (try with_reducible rfl))); (case' rt19 => simp only [Act.put, List.setIfInBounds_toArray, List.set_cons_zero, List.set_cons_succ]))
      refine wpAnyH_done (by kernel_rfl) ?_ _
      go_wp2
      go_ret
      exact ⟨_, rfl, HR.out, VS.below0 hS19 HA.out.2⟩
    case hjt27 =>
      refine ow_node1 _ rfl r rfl (fun y8 p8 hl hd => ?_)
      (try have HU := Lib.hid ((HU.out.below hd).wide hd.size))
      (try have HN := Lib.hid ((HN.out.below hd).wide hd.size))
      (try have HN2 := Lib.hid ((HN2.out.below hd).wide hd.size))
      (try have HN3 := Lib.hid ((HN3.out.below hd).wide hd.size))
      (try have HP := Lib.hid ((HP.out.below hd).wide hd.size))
      (try have HL := Lib.hid ((HL.out.below hd).wide hd.size))
      (try have HL2 := Lib.hid ((HL2.out.below hd).wide hd.size))
      (try have HL3 := Lib.hid ((HL3.out.below hd).wide hd.size))
      (try have HR := Lib.hid ((HR.out.below hd).wide hd.size))
      have HN := Lib.hid hl
      refine hK8 _ _ (hS3.keep hd) (fun hS8 => ?_)
      clear hS3 hl hd hK8 K8
      refine held_one (i := 4) (oi := ?ot20) (by kernel_rfl) ?at20 ?ct20 (fun K4 hK4 => ?_)
      (case at20 => (simp only [List.getElem?_toArray, List.getElem?_cons_zero, List.getElem?_cons_succ]; rfl))
      (case ct20 => kernel_rfl)
      go_simp
      refine (put_one idx HO.out.1 (some p3) 1 _ HU.out).mono ?_
      rintro e y4 ⟨v, rfl, ho, hd⟩
      (try have HU := Lib.hid ((HU.out.below hd).wide hd.size))
      (try have HN := Lib.hid ((HN.out.below hd).wide hd.size))
      (try have HN2 := Lib.hid ((HN2.out.below hd).wide hd.size))
      (try have HN3 := Lib.hid ((HN3.out.below hd).wide hd.size))
      (try have HP := Lib.hid ((HP.out.below hd).wide hd.size))
      (try have HL := Lib.hid ((HL.out.below hd).wide hd.size))
      (try have HL2 := Lib.hid ((HL2.out.below hd).wide hd.size))
      (try have HL3 := Lib.hid ((HL3.out.below hd).wide hd.size))
      (try have HR := Lib.hid ((HR.out.below hd).wide hd.size))
      obtain ⟨E4, cE4, rfl, hcE4, hl⟩ := row_part ho
      have HP := Lib.hid hl
      refine hK4 _ _ (hS8.keep hd) (fun hS4 => ?_)
      clear hS8 ho hl hd hK4 K4
      refine held_one (i := 9) (oi := ?ot21) (by kernel_rfl) ?at21 ?ct21 (fun K9 hK9 => ?_)
      (case at21 => (simp only [List.getElem?_toArray, List.getElem?_cons_zero, List.getElem?_cons_succ]; rfl))
      (case ct21 => kernel_rfl)
      go_simp
      refine (laid_n 1 (some p8) 1 [r] rfl (by decide) _ HN.out).mono ?_
      rintro e y9 ⟨v, rfl, ho, hd⟩
      (try have HU := Lib.hid ((HU.out.below hd).wide hd.size))
      (try have HN := Lib.hid ((HN.out.below hd).wide hd.size))
      (try have HN2 := Lib.hid ((HN2.out.below hd).wide hd.size))
      (try have HN3 := Lib.hid ((HN3.out.below hd).wide hd.size))
      (try have HP := Lib.hid ((HP.out.below hd).wide hd.size))
      (try have HL := Lib.hid ((HL.out.below hd).wide hd.size))
      (try have HL2 := Lib.hid ((HL2.out.below hd).wide hd.size))
      (try have HL3 := Lib.hid ((HL3.out.below hd).wide hd.size))
      (try have HR := Lib.hid ((HR.out.below hd).wide hd.size))
      obtain ⟨E9, cE9, rfl, hcE9, hl⟩ := row_part ho
      have HL := Lib.hid hl
      refine hK9 _ _ (hS4.keep hd) (fun hS9 => ?_)
      clear hS4 ho hl hd hK9 K9
      refine held_one (i := 13) (oi := ?ot22) (by kernel_rfl) ?at22 ?ct22 (fun K13 hK13 => ?_)
      (case at22 => (simp only [List.getElem?_toArray, List.getElem?_cons_zero, List.getElem?_cons_succ]; rfl))
      (case ct22 => kernel_rfl)
      go_simp
      refine (laid_n n1 A1 c1 ots HO.out.2.2.2.1 (by have := HO.out.2.2.2.1; have := HO.out.2.1; omega) _ HN2.out).mono ?_
      rintro e y13 ⟨v, rfl, ho, hd⟩
      (try have HU := Lib.hid ((HU.out.below hd).wide hd.size))
      (try have HN := Lib.hid ((HN.out.below hd).wide hd.size))
      (try have HN2 := Lib.hid ((HN2.out.below hd).wide hd.size))
      (try have HN3 := Lib.hid ((HN3.out.below hd).wide hd.size))
      (try have HP := Lib.hid ((HP.out.below hd).wide hd.size))
      (try have HL := Lib.hid ((HL.out.below hd).wide hd.size))
      (try have HL2 := Lib.hid ((HL2.out.below hd).wide hd.size))
      (try have HL3 := Lib.hid ((HL3.out.below hd).wide hd.size))
      (try have HR := Lib.hid ((HR.out.below hd).wide hd.size))
      obtain ⟨E13, cE13, rfl, hcE13, hl⟩ := row_part ho
      have HL2 := Lib.hid hl
      refine hK13 _ _ (hS9.keep hd) (fun hS13 => ?_)
      clear hS9 ho hl hd hK13 K13
      refine held_one (i := 17) (oi := ?ot23) (by kernel_rfl) ?at23 ?ct23 (fun K17 hK17 => ?_)
      (case at23 => (simp only [List.getElem?_toArray, List.getElem?_cons_zero, List.getElem?_cons_succ]; rfl))
      (case ct23 => kernel_rfl)
      go_simp
      refine (laid_n n2 A2 c2 auth HO.out.2.2.2.2 (by have := HO.out.2.2.2.2; have := HO.out.2.2.1; omega) _ HN3.out).mono ?_
      rintro e y17 ⟨v, rfl, ho, hd⟩
      (try have HU := Lib.hid ((HU.out.below hd).wide hd.size))
      (try have HN := Lib.hid ((HN.out.below hd).wide hd.size))
      (try have HN2 := Lib.hid ((HN2.out.below hd).wide hd.size))
      (try have HN3 := Lib.hid ((HN3.out.below hd).wide hd.size))
      (try have HP := Lib.hid ((HP.out.below hd).wide hd.size))
      (try have HL := Lib.hid ((HL.out.below hd).wide hd.size))
      (try have HL2 := Lib.hid ((HL2.out.below hd).wide hd.size))
      (try have HL3 := Lib.hid ((HL3.out.below hd).wide hd.size))
      (try have HR := Lib.hid ((HR.out.below hd).wide hd.size))
      obtain ⟨E17, cE17, rfl, hcE17, hl⟩ := row_part ho
      have HL3 := Lib.hid hl
      refine hK17 _ _ (hS13.keep hd) (fun hS17 => ?_)
      clear hS13 ho hl hd hK17 K17
      refine held_one (i := 18) (oi := ?ot24) (by kernel_rfl) ?at24 ?ct24 (fun K18 hK18 => ?_)
      (case at24 => (simp only [List.getElem?_toArray, List.getElem?_cons_zero, List.getElem?_cons_succ]; rfl))
      (case ct24 => kernel_rfl)
      refine ow_part4 _ _ _ _ rfl (E4, cE4, numBytes 0 4 idx) (E9, cE9, nodesL [r]) (E13, cE13, nodesL ots) (E17, cE17, nodesL auth) rfl rfl rfl rfl (fun y18 p18 hl hd => ?_)
      (try have HU := Lib.hid ((HU.out.below hd).wide hd.size))
      (try have HN := Lib.hid ((HN.out.below hd).wide hd.size))
      (try have HN2 := Lib.hid ((HN2.out.below hd).wide hd.size))
      (try have HN3 := Lib.hid ((HN3.out.below hd).wide hd.size))
      (try have HP := Lib.hid ((HP.out.below hd).wide hd.size))
      (try have HL := Lib.hid ((HL.out.below hd).wide hd.size))
      (try have HL2 := Lib.hid ((HL2.out.below hd).wide hd.size))
      (try have HL3 := Lib.hid ((HL3.out.below hd).wide hd.size))
      (try have HR := Lib.hid ((HR.out.below hd).wide hd.size))
      have HC := Lib.hid hl
      refine hK18 _ _ (hS17.keep hd) (fun hS18 => ?_)
      clear hS17 hl hd hK18 K18
      refine held_one (i := 19) (oi := ?ot25) (by kernel_rfl) ?at25 ?ct25 (fun K19 hK19 => ?_)
      (case at25 => (simp only [List.getElem?_toArray, List.getElem?_cons_zero, List.getElem?_cons_succ]; rfl))
      (case ct25 => kernel_rfl)
      go_simp
      refine (cat_n 4 (some p18) 4 [(E4, cE4, numBytes 0 4 idx), (E9, cE9, nodesL [r]), (E13, cE13, nodesL ots), (E17, cE17, nodesL auth)] (sigL idx r ots auth) (by simp [catAll, sigL, nodesL]) rfl (by decide) (by rw [sigL_length]; have := HO.out.2.1; have := HO.out.2.2.1; omega) _ HC.out (fun p hp => ?_)).mono ?_
      · simp only [List.mem_cons, List.not_mem_nil, or_false] at hp
        rcases hp with rfl | rfl | rfl | rfl
        · exact HP.out
        · exact HL.out
        · exact HL2.out
        · exact HL3.out
      rintro e y19 ⟨v, rfl, ho, hd⟩
      have HR := Lib.hid (owns_mono ho ((HA.out.2.trans (Below.mono (show Below V.heap.size V _ from hS18) HA.out.2.size)).size))
      refine hK19 _ _ (hS18.keep hd) (fun hS19 => ?_)
      clear hS18 ho hd hK19 K19
      (refine held_take (i := 20) (oi := ?ot26) (v := ?vt26) ?at26 (by kernel_rfl) (by kernel_rfl) (by kernel_rfl) ?bt26 ?ct26 ?dt26 (by assumption) ?rt26; (case at26 => (simp only [List.getElem?_toArray, List.getElem?_cons_zero, List.getElem?_cons_succ]; rfl)); (case bt26 => exact fun _ _ _ h => h); (case ct26 => kernel_rfl); (case dt26 => (intro W hW; (try dsimp only at hW); go_split_ands; go_simp; (try with_reducible rfl))); (case' rt26 => simp only [Act.put, List.setIfInBounds_toArray, List.set_cons_zero, List.set_cons_succ]))
      refine wpAnyH_done (by kernel_rfl) ?_ _
      go_wp2
      go_ret
      exact ⟨_, rfl, HR.out, VS.below0 hS19 HA.out.2⟩
  case hjt36 =>
    refine ow_node1 _ rfl r rfl (fun y8 p8 hl hd => ?_)
    (try have HU := Lib.hid ((HU.out.below hd).wide hd.size))
    (try have HN := Lib.hid ((HN.out.below hd).wide hd.size))
    (try have HN2 := Lib.hid ((HN2.out.below hd).wide hd.size))
    (try have HN3 := Lib.hid ((HN3.out.below hd).wide hd.size))
    (try have HP := Lib.hid ((HP.out.below hd).wide hd.size))
    (try have HL := Lib.hid ((HL.out.below hd).wide hd.size))
    (try have HL2 := Lib.hid ((HL2.out.below hd).wide hd.size))
    (try have HL3 := Lib.hid ((HL3.out.below hd).wide hd.size))
    (try have HR := Lib.hid ((HR.out.below hd).wide hd.size))
    have HN := Lib.hid hl
    refine hK8 _ _ (hS.keep hd) (fun hS8 => ?_)
    clear hS hl hd hK8 K8
    refine held_one (i := 3) (oi := ?ot28) (by kernel_rfl) ?at28 ?ct28 (fun K3 hK3 => ?_)
    (case at28 => (simp only [List.getElem?_toArray, List.getElem?_cons_zero, List.getElem?_cons_succ]; rfl))
    (case ct28 => kernel_rfl)
    refine ow_u32 _ rfl idx rfl (fun y3 p3 hl hd => ?_)
    (try have HU := Lib.hid ((HU.out.below hd).wide hd.size))
    (try have HN := Lib.hid ((HN.out.below hd).wide hd.size))
    (try have HN2 := Lib.hid ((HN2.out.below hd).wide hd.size))
    (try have HN3 := Lib.hid ((HN3.out.below hd).wide hd.size))
    (try have HP := Lib.hid ((HP.out.below hd).wide hd.size))
    (try have HL := Lib.hid ((HL.out.below hd).wide hd.size))
    (try have HL2 := Lib.hid ((HL2.out.below hd).wide hd.size))
    (try have HL3 := Lib.hid ((HL3.out.below hd).wide hd.size))
    (try have HR := Lib.hid ((HR.out.below hd).wide hd.size))
    have HU := Lib.hid hl
    refine hK3 _ _ (hS8.keep hd) (fun hS3 => ?_)
    clear hS8 hl hd hK3 K3
    refine held_one (i := 4) (oi := ?ot29) (by kernel_rfl) ?at29 ?ct29 (fun K4 hK4 => ?_)
    (case at29 => (simp only [List.getElem?_toArray, List.getElem?_cons_zero, List.getElem?_cons_succ]; rfl))
    (case ct29 => kernel_rfl)
    go_simp
    refine (put_one idx HO.out.1 (some p3) 1 _ HU.out).mono ?_
    rintro e y4 ⟨v, rfl, ho, hd⟩
    (try have HU := Lib.hid ((HU.out.below hd).wide hd.size))
    (try have HN := Lib.hid ((HN.out.below hd).wide hd.size))
    (try have HN2 := Lib.hid ((HN2.out.below hd).wide hd.size))
    (try have HN3 := Lib.hid ((HN3.out.below hd).wide hd.size))
    (try have HP := Lib.hid ((HP.out.below hd).wide hd.size))
    (try have HL := Lib.hid ((HL.out.below hd).wide hd.size))
    (try have HL2 := Lib.hid ((HL2.out.below hd).wide hd.size))
    (try have HL3 := Lib.hid ((HL3.out.below hd).wide hd.size))
    (try have HR := Lib.hid ((HR.out.below hd).wide hd.size))
    obtain ⟨E4, cE4, rfl, hcE4, hl⟩ := row_part ho
    have HP := Lib.hid hl
    refine hK4 _ _ (hS3.keep hd) (fun hS4 => ?_)
    clear hS3 ho hl hd hK4 K4
    refine held_one (i := 9) (oi := ?ot30) (by kernel_rfl) ?at30 ?ct30 (fun K9 hK9 => ?_)
    (case at30 => (simp only [List.getElem?_toArray, List.getElem?_cons_zero, List.getElem?_cons_succ]; rfl))
    (case ct30 => kernel_rfl)
    go_simp
    refine (laid_n 1 (some p8) 1 [r] rfl (by decide) _ HN.out).mono ?_
    rintro e y9 ⟨v, rfl, ho, hd⟩
    (try have HU := Lib.hid ((HU.out.below hd).wide hd.size))
    (try have HN := Lib.hid ((HN.out.below hd).wide hd.size))
    (try have HN2 := Lib.hid ((HN2.out.below hd).wide hd.size))
    (try have HN3 := Lib.hid ((HN3.out.below hd).wide hd.size))
    (try have HP := Lib.hid ((HP.out.below hd).wide hd.size))
    (try have HL := Lib.hid ((HL.out.below hd).wide hd.size))
    (try have HL2 := Lib.hid ((HL2.out.below hd).wide hd.size))
    (try have HL3 := Lib.hid ((HL3.out.below hd).wide hd.size))
    (try have HR := Lib.hid ((HR.out.below hd).wide hd.size))
    obtain ⟨E9, cE9, rfl, hcE9, hl⟩ := row_part ho
    have HL := Lib.hid hl
    refine hK9 _ _ (hS4.keep hd) (fun hS9 => ?_)
    clear hS4 ho hl hd hK9 K9
    refine held_one (i := 13) (oi := ?ot31) (by kernel_rfl) ?at31 ?ct31 (fun K13 hK13 => ?_)
    (case at31 => (simp only [List.getElem?_toArray, List.getElem?_cons_zero, List.getElem?_cons_succ]; rfl))
    (case ct31 => kernel_rfl)
    go_simp
    refine (laid_n n1 A1 c1 ots HO.out.2.2.2.1 (by have := HO.out.2.2.2.1; have := HO.out.2.1; omega) _ HN2.out).mono ?_
    rintro e y13 ⟨v, rfl, ho, hd⟩
    (try have HU := Lib.hid ((HU.out.below hd).wide hd.size))
    (try have HN := Lib.hid ((HN.out.below hd).wide hd.size))
    (try have HN2 := Lib.hid ((HN2.out.below hd).wide hd.size))
    (try have HN3 := Lib.hid ((HN3.out.below hd).wide hd.size))
    (try have HP := Lib.hid ((HP.out.below hd).wide hd.size))
    (try have HL := Lib.hid ((HL.out.below hd).wide hd.size))
    (try have HL2 := Lib.hid ((HL2.out.below hd).wide hd.size))
    (try have HL3 := Lib.hid ((HL3.out.below hd).wide hd.size))
    (try have HR := Lib.hid ((HR.out.below hd).wide hd.size))
    obtain ⟨E13, cE13, rfl, hcE13, hl⟩ := row_part ho
    have HL2 := Lib.hid hl
    refine hK13 _ _ (hS9.keep hd) (fun hS13 => ?_)
    clear hS9 ho hl hd hK13 K13
    refine held_one (i := 17) (oi := ?ot32) (by kernel_rfl) ?at32 ?ct32 (fun K17 hK17 => ?_)
    (case at32 => (simp only [List.getElem?_toArray, List.getElem?_cons_zero, List.getElem?_cons_succ]; rfl))
    (case ct32 => kernel_rfl)
    go_simp
    refine (laid_n n2 A2 c2 auth HO.out.2.2.2.2 (by have := HO.out.2.2.2.2; have := HO.out.2.2.1; omega) _ HN3.out).mono ?_
    rintro e y17 ⟨v, rfl, ho, hd⟩
    (try have HU := Lib.hid ((HU.out.below hd).wide hd.size))
    (try have HN := Lib.hid ((HN.out.below hd).wide hd.size))
    (try have HN2 := Lib.hid ((HN2.out.below hd).wide hd.size))
    (try have HN3 := Lib.hid ((HN3.out.below hd).wide hd.size))
    (try have HP := Lib.hid ((HP.out.below hd).wide hd.size))
    (try have HL := Lib.hid ((HL.out.below hd).wide hd.size))
    (try have HL2 := Lib.hid ((HL2.out.below hd).wide hd.size))
    (try have HL3 := Lib.hid ((HL3.out.below hd).wide hd.size))
    (try have HR := Lib.hid ((HR.out.below hd).wide hd.size))
    obtain ⟨E17, cE17, rfl, hcE17, hl⟩ := row_part ho
    have HL3 := Lib.hid hl
    refine hK17 _ _ (hS13.keep hd) (fun hS17 => ?_)
    clear hS13 ho hl hd hK17 K17
    refine held_one (i := 18) (oi := ?ot33) (by kernel_rfl) ?at33 ?ct33 (fun K18 hK18 => ?_)
    (case at33 => (simp only [List.getElem?_toArray, List.getElem?_cons_zero, List.getElem?_cons_succ]; rfl))
    (case ct33 => kernel_rfl)
    refine ow_part4 _ _ _ _ rfl (E4, cE4, numBytes 0 4 idx) (E9, cE9, nodesL [r]) (E13, cE13, nodesL ots) (E17, cE17, nodesL auth) rfl rfl rfl rfl (fun y18 p18 hl hd => ?_)
    (try have HU := Lib.hid ((HU.out.below hd).wide hd.size))
    (try have HN := Lib.hid ((HN.out.below hd).wide hd.size))
    (try have HN2 := Lib.hid ((HN2.out.below hd).wide hd.size))
    (try have HN3 := Lib.hid ((HN3.out.below hd).wide hd.size))
    (try have HP := Lib.hid ((HP.out.below hd).wide hd.size))
    (try have HL := Lib.hid ((HL.out.below hd).wide hd.size))
    (try have HL2 := Lib.hid ((HL2.out.below hd).wide hd.size))
    (try have HL3 := Lib.hid ((HL3.out.below hd).wide hd.size))
    (try have HR := Lib.hid ((HR.out.below hd).wide hd.size))
    have HC := Lib.hid hl
    refine hK18 _ _ (hS17.keep hd) (fun hS18 => ?_)
    clear hS17 hl hd hK18 K18
    refine held_one (i := 19) (oi := ?ot34) (by kernel_rfl) ?at34 ?ct34 (fun K19 hK19 => ?_)
    (case at34 => (simp only [List.getElem?_toArray, List.getElem?_cons_zero, List.getElem?_cons_succ]; rfl))
    (case ct34 => kernel_rfl)
    go_simp
    refine (cat_n 4 (some p18) 4 [(E4, cE4, numBytes 0 4 idx), (E9, cE9, nodesL [r]), (E13, cE13, nodesL ots), (E17, cE17, nodesL auth)] (sigL idx r ots auth) (by simp [catAll, sigL, nodesL]) rfl (by decide) (by rw [sigL_length]; have := HO.out.2.1; have := HO.out.2.2.1; omega) _ HC.out (fun p hp => ?_)).mono ?_
    · simp only [List.mem_cons, List.not_mem_nil, or_false] at hp
      rcases hp with rfl | rfl | rfl | rfl
      · exact HP.out
      · exact HL.out
      · exact HL2.out
      · exact HL3.out
    rintro e y19 ⟨v, rfl, ho, hd⟩
    have HR := Lib.hid (owns_mono ho ((HA.out.2.trans (Below.mono (show Below V.heap.size V _ from hS18) HA.out.2.size)).size))
    refine hK19 _ _ (hS18.keep hd) (fun hS19 => ?_)
    clear hS18 ho hd hK19 K19
    (refine held_take (i := 20) (oi := ?ot35) (v := ?vt35) ?at35 (by kernel_rfl) (by kernel_rfl) (by kernel_rfl) ?bt35 ?ct35 ?dt35 (by assumption) ?rt35; (case at35 => (simp only [List.getElem?_toArray, List.getElem?_cons_zero, List.getElem?_cons_succ]; rfl)); (case bt35 => exact fun _ _ _ h => h); (case ct35 => kernel_rfl); (case dt35 => (intro W hW; (try dsimp only at hW); go_split_ands; go_simp; (try with_reducible rfl))); (case' rt35 => simp only [Act.put, List.setIfInBounds_toArray, List.set_cons_zero, List.set_cons_succ]))
    refine wpAnyH_done (by kernel_rfl) ?_ _
    go_wp2
    go_ret
    exact ⟨_, rfl, HR.out, VS.below0 hS19 HA.out.2⟩
end Go.Proofs.YtfeiplaiekbdkaaGreatDoor
/- PutSig. -/
namespace Go.Proofs.YtfeiplaiekbdkaaGreatDoor
open Go.RowKit
attribute [local go_sem ↓ high] zeroV26 zeroSig zeroSz

/-- May it be put? What PutSig answers. -/
def psOk (oid idx n1 n2 : Nat) : Bool := plcd idx (hgtO oid) n2 && decide (n1 = 67)
def psE (oid idx n1 n2 : Nat) : Nat := if isO oid then (if psOk oid idx n1 n2 then 0 else 81) else 80
def psL (oid idx : Nat) (r : Nd) (ots auth : List Nd) : List UInt8 := if isO oid && psOk oid idx ots.length auth.length then sigL idx r ots auth else []
/-- The contract of PutSig, of each of the two. -/
def SigPut (F : Nat) : Prop := ∀ (oid idx : Nat) (r : Nd) (ots auth : List Nd) (A1 A2 : Option Addr) (n1 n2 c1 c2 : Nat) (w : World), oid < 4294967296 → idx < 4294967296 → ots.length ≤ 1000 → auth.length ≤ 1000 → n1 = ots.length → n2 = auth.length → NRow w w.heap.size A1 ots → NRow w w.heap.size A2 auth →
  Calls Tryz.prog F #[.agg (vec 35 (sigF (idx : Int) r (.slice A1 n1 c1) (.slice A2 n2 c2))), .int .u32 (oid : Int)] w fun e w' => ∃ v, e = .returned (.tuple #[v, .int .i64 ((psE oid idx n1 n2 : Nat) : Int)]) ∧ w'.ownsRow w.heap.size 5 1 v (psL oid idx r ots auth).length (u8s (psL oid idx r ots auth)) ∧ Below w.heap.size w w'
theorem hgtO_is8 {oid : Nat} (h : isO oid = true) : hgtO oid = 10 ∨ hgtO oid = 16 ∨ hgtO oid = 20 := by
  rcases isO_cases h with ⟨_, e⟩ | ⟨_, e⟩ | ⟨_, e⟩ <;> simp [e]

set_option maxHeartbeats 2000000 in
set_option maxRecDepth 100000 in
theorem putSig_any : SigPut 30 := by
  intro oid idx r ots auth A1 A2 n1 n2 c1 c2 w hoid hidx ho ha hn1 hn2 h1 h2
  obtain ⟨V, hV⟩ : ∃ V, V = w.alloc (.cells (vec 35 (sigF (idx : Int) r (.slice A1 n1 c1) (.slice A2 n2 c2))) 46) := ⟨_, rfl⟩
  have h0 : Arr V w.heap.size 46 35 (sigF (idx : Int) r (.slice A1 n1 c1) (.slice A2 n2 c2)) := by rw [hV]; exact Arr.new w _ _ _
  have hB : Below w.heap.size w V := by rw [hV]; exact (Below.refl _ _).alloc (Nat.le_refl _) _
  have HA := Lib.hid (And.intro h0 hB)
  have HW := Lib.hid hV
  have HR := Lib.hid (And.intro ((h1.below hB).wide hB.size) ((h2.below hB).wide hB.size))
  have HH := Lib.hid (fun W => height_any oid hoid W)
  cases his : isO oid with
  | false =>
    have e1 : psE oid idx n1 n2 = 80 := by unfold psE; rw [his]; rfl
    have e2 : psL oid idx r ots auth = [] := by unfold psL; rw [his]; rfl
    rw [e1, e2]
    rw [his] at HH
    obtain ⟨h, hh⟩ : ∃ h, h = hgtO oid := ⟨_, rfl⟩
    rw [← hh] at HH
    clear hV h0 hB h1 h2 e1 e2 his hh hn1 hn2
    go_enter Tryz.func30, Tryz.ntmps30
    go_upto_region 1 with fail
    rw [← HW.out]
    clear HW
    go_wp2_with (go_at_call 24; refine (HH.out _).mono ?_; rintro e w1 ⟨rfl, hw1⟩; rw [← hw1]; clear hw1)
    go_ret2
    exact ⟨_, rfl, World.ownsRow_nil _ _ _ _, HA.out.2⟩
  | true =>
    have hh := hgtO_is8 his
    rw [his] at HH
    have hE : psE oid idx n1 n2 = (if psOk oid idx n1 n2 then 0 else 81) := by unfold psE; rw [his]; rfl
    have hL : psL oid idx r ots auth = (if psOk oid idx n1 n2 then sigL idx r ots auth else []) := by unfold psL; rw [his, Bool.true_and, hn1, hn2]
    have HP := Lib.hid (fun W => whole_any idx hidx r A1 n1 c1 A2 n2 c2 (hgtO oid) hh W)
    have hok : (plcd idx (hgtO oid) n2 && decide (n1 = 67)) = psOk oid idx n1 n2 := rfl
    rw [hok] at HP
    obtain ⟨h, hh⟩ : ∃ h, h = hgtO oid := ⟨_, rfl⟩
    obtain ⟨q, hq⟩ : ∃ q, q = psOk oid idx n1 n2 := ⟨_, rfl⟩
    rw [← hh] at HH HP
    rw [← hq] at HP hE hL
    have HBy := Lib.hid (fun W q1 q2 => szBytes_any idx hidx r ots auth ho ha A1 A2 n1 n2 c1 c2 hn1 hn2 (h : Int) W q1 q2)
    rw [hE, hL]
    clear hV h0 hB h1 h2 hE hL hok his hh hq hn1 hn2 ho ha
    go_enter Tryz.func30, Tryz.ntmps30
    go_upto_region 1 with fail
    rw [← HW.out]
    clear HW
    go_upto_region 5 with (first
      | (go_at_call 24; refine (HH.out _).mono ?_; rintro e w1 ⟨rfl, hw1⟩; rw [← hw1]; clear hw1)
      | ((with_reducible show wpList _ _ _ (Oper.mk _ (.load _ _) _ _ _ _ :: _) _ _); refine wl_load rfl 46 _ rfl _ rfl _ (run_load_arr HA.out.1 Tryz.underlying46 rfl infoSig) ?_)
      | ((with_reducible show wpList _ _ _ (Oper.mk _ (.build _ _) _ _ _ _ :: _) _ _); refine wl_build rfl 58 _ rfl (vec 36 (szF (idx : Int) r (.slice A1 n1 c1) (.slice A2 n2 c2) (h : Int))) (by kernel_rfl) ?_)
      | ((with_reducible show wpList _ _ _ (Oper.mk _ (.store _ _ _) _ _ _ _ :: _) _ _); refine wl_store rfl 58 _ _ rfl _ rfl _ rfl (run_store_arr (Arr.new V _ _ _) (szF (idx : Int) r (.slice A1 n1 c1) (.slice A2 n2 c2) (h : Int)) infoSz (szF_one _ _ _ _ _ rfl rfl _)) ?_))
    obtain ⟨g, hg⟩ : ∃ g, g = V.heap.size := ⟨_, rfl⟩
    obtain ⟨X, hX⟩ : ∃ X, X = (V.alloc (.cells (vec 36 (szF 0 zb (.slice none 0 0) (.slice none 0 0) 0)) 58)).setRow V.heap.size (vec 36 (szF (idx : Int) r (.slice A1 n1 c1) (.slice A2 n2 c2) (h : Int))) := ⟨_, rfl⟩
    have hK : Arr X g 58 36 (szF (idx : Int) r (.slice A1 n1 c1) (.slice A2 n2 c2) (h : Int)) := by rw [hX, hg]; exact (Arr.new V _ _ _).row _
    have hb : Below V.heap.size V X := by rw [hX]; exact below_row ((Below.refl _ _).alloc (Nat.le_refl _) _) (Nat.le_refl _) _
    have HX := Lib.hid (And.intro hK (And.intro (HA.out.2.trans (hb.mono HA.out.2.size)) (And.intro ((HR.out.1.below hb).wide hb.size) ((HR.out.2.below hb).wide hb.size))))
    rw [← hX, ← hg]
    clear hX hg hK hb
    cases q
    · go_wp2_with (first
        | ((with_reducible show wpList _ _ _ (Oper.mk _ (.load _ _) _ _ _ _ :: _) _ _); refine wl_load rfl 58 _ rfl g rfl _ (run_load_arr HX.out.1 Tryz.underlying58 rfl infoSz) ?_)
        | (go_at_call 38; refine (HP.out _).mono ?_; rintro e w3 ⟨rfl, hd⟩; have H3 := Lib.hid hd; clear hd))
      go_ret2
      exact ⟨_, rfl, World.ownsRow_nil _ _ _ _, HX.out.2.1.trans (H3.out.mono HX.out.2.1.size)⟩
    · go_wp2_with (first
        | (go_at_call 38; refine (HP.out _).mono ?_; rintro e w3 ⟨rfl, hd⟩; have H3 := Lib.hid hd; have HX := Lib.hid (And.intro (HX.out.1.under hd) (And.intro (HX.out.2.1.trans (hd.mono HX.out.2.1.size)) (And.intro ((HX.out.2.2.1.below hd).wide hd.size) ((HX.out.2.2.2.below hd).wide hd.size)))); clear hd)
        | ((with_reducible show wpList _ _ _ (Oper.mk _ (.load _ _) _ _ _ _ :: _) _ _); refine wl_load rfl 58 _ rfl g rfl _ (run_load_arr HX.out.1 Tryz.underlying58 rfl infoSz) ?_)
        | (go_at_call 56; refine (HBy.out _ HX.out.2.2.1 HX.out.2.2.2).mono ?_; rintro e w4 ⟨v, rfl, ho, hd⟩; have H4 := Lib.hid (And.intro (owns_mono ho HX.out.2.1.size) (HX.out.2.1.trans (hd.mono HX.out.2.1.size))); clear ho hd))
      go_ret2
      exact ⟨_, rfl, H4.out.1, H4.out.2⟩
end Go.Proofs.YtfeiplaiekbdkaaGreatDoor
/- PutKey. -/
namespace Go.Proofs.YtfeiplaiekbdkaaGreatDoor
open Go.RowKit
attribute [local go_sem ↓ high] zeroV26 zeroKey

/-- What PutKey answers. -/
def pkL (oid : Nat) (root seed : Nd) : List UInt8 := if isO oid then keyL oid root seed else []
def KeyPut (F : Nat) : Prop := ∀ (oid : Nat) (root seed : Nd) (w : World), oid < 4294967296 →
  Calls Tryz.prog F #[.agg (vec 65 (keyF (oid : Int) root seed))] w fun e w' => ∃ v, e = .returned (.tuple #[v, .int .i64 ((keyE oid : Nat) : Int)]) ∧ w'.ownsRow w.heap.size 5 1 v (pkL oid root seed).length (u8s (pkL oid root seed)) ∧ Below w.heap.size w w'

set_option maxHeartbeats 1000000 in
set_option maxRecDepth 100000 in
theorem putKey_any : KeyPut 11 := by
  intro oid root seed w hoid
  obtain ⟨V, hV⟩ : ∃ V, V = w.alloc (.cells (vec 65 (keyF (oid : Int) root seed)) 33) := ⟨_, rfl⟩
  have h0 : Arr V w.heap.size 33 65 (keyF (oid : Int) root seed) := by rw [hV]; exact Arr.new w _ _ _
  have hB : Below w.heap.size w V := by rw [hV]; exact (Below.refl _ _).alloc (Nat.le_refl _) _
  have c0 := key_oid h0
  have HA := Lib.hid (And.intro h0 hB)
  have HW := Lib.hid hV
  have HO := Lib.hid hoid
  have HH := Lib.hid (fun W => height_any oid hoid W)
  have HE : Hid (pkL oid root seed = (if isO oid then keyL oid root seed else []) ∧ keyE oid = if isO oid then 0 else 80) := Lib.hid ⟨rfl, rfl⟩
  have hwn : IntKind.u64.wrap (oid : Int) = (oid : Int) := by rw [IntKind.wrap_u64]; omega
  obtain ⟨pk, hpk⟩ : ∃ pk, pk = pkL oid root seed := ⟨_, rfl⟩
  obtain ⟨ke, hke⟩ : ∃ ke, ke = keyE oid := ⟨_, rfl⟩
  obtain ⟨is, his⟩ : ∃ is, is = isO oid := ⟨_, rfl⟩
  rw [← hpk, ← hke, ← his] at HE
  rw [← hpk, ← hke]
  rw [← his] at HH
  obtain ⟨ht, hht⟩ : ∃ ht, ht = hgtO oid := ⟨_, rfl⟩
  rw [← hht] at HH
  clear hV h0 hB hpk hke his hht
  cases is
  · have hk := HE.out
    rw [if_neg (by decide), if_neg (by decide)] at hk
    obtain ⟨rfl, rfl⟩ := hk
    clear HE
    go_enter Tryz.func11, Tryz.ntmps11
    go_upto_region 1 with fail
    rw [← HW.out]
    clear HW
    go_wp2_with (go_at_call 24; refine (HH.out _).mono ?_; rintro e w1 ⟨rfl, hw1⟩; rw [← hw1]; clear hw1)
    go_ret2
    exact ⟨_, rfl, World.ownsRow_nil _ _ _ _, HA.out.2⟩
  · have hk := HE.out
    rw [if_pos rfl, if_pos rfl] at hk
    obtain ⟨hpk, rfl⟩ := hk
    have HPK := Lib.hid hpk
    clear HE hpk
    go_enter Tryz.func11, Tryz.ntmps11
    go_upto_region 1 with fail
    rw [← HW.out]
    clear HW
    go_upto_region 4 with (go_at_call 24; refine (HH.out _).mono ?_; rintro e w1 ⟨rfl, hw1⟩; rw [← hw1]; clear hw1)
    refine wp_region_held_drew (S := fun Y => VS V Y) (by kernel_rfl) (VS.begin V) (fun hS => ?_)
    (refine held_take (i := 0) (oi := ?ot1) (v := ?vt1) ?at1 (by kernel_rfl) (by kernel_rfl) (by kernel_rfl) ?bt1 ?ct1 ?dt1 (by assumption) ?rt1; (case at1 => (simp only [List.getElem?_toArray, List.getElem?_cons_zero]; rfl)); (case bt1 => exact fun _ _ _ h => h); (case ct1 => kernel_rfl); (case dt1 => (intro W hW; (try dsimp only at hW); go_split_ands; go_simp; (try with_reducible rfl))); (case' rt1 => simp only [Act.put, List.setIfInBounds_toArray, List.set_cons_zero, List.set_cons_succ]))
    (refine held_take (i := 1) (oi := ?ot2) (v := .int .u32 (oid : Int)) ?at2 (by kernel_rfl) (by kernel_rfl) (by kernel_rfl) ?bt2 ?ct2 ?dt2 (by assumption) ?rt2; (case at2 => (simp only [List.getElem?_toArray, List.getElem?_cons_zero, List.getElem?_cons_succ]; rfl)); (case bt2 => exact fun _ _ _ h => h); (case ct2 => kernel_rfl); (case dt2 => (intro W hW; have hc := key_oid (HA.out.1.under (show Below V.heap.size V W from hW)); clear hW; go_simp; (try with_reducible rfl))); (case' rt2 => simp only [Act.put, List.setIfInBounds_toArray, List.set_cons_zero, List.set_cons_succ]))
    (refine held_take (i := 4) (oi := ?ot3) (v := ?vt3) ?at3 (by kernel_rfl) (by kernel_rfl) (by kernel_rfl) ?bt3 ?ct3 ?dt3 (by assumption) ?rt3; (case at3 => (simp only [List.getElem?_toArray, List.getElem?_cons_zero, List.getElem?_cons_succ]; rfl)); (case bt3 => exact fun _ _ _ h => h); (case ct3 => kernel_rfl); (case dt3 => (intro W hW; (try dsimp only at hW); go_split_ands; go_simp; (try with_reducible rfl))); (case' rt3 => simp only [Act.put, List.setIfInBounds_toArray, List.set_cons_zero, List.set_cons_succ]))
    (refine held_take (i := 5) (oi := ?ot4) (v := .agg (vec 32 (bys root))) ?at4 (by kernel_rfl) (by kernel_rfl) (by kernel_rfl) ?bt4 ?ct4 ?dt4 (by assumption) ?rt4; (case at4 => (simp only [List.getElem?_toArray, List.getElem?_cons_zero, List.getElem?_cons_succ]; rfl)); (case bt4 => exact fun _ _ _ h => h); (case ct4 => kernel_rfl); (case dt4 => (intro W hW; exact exec_load_at 30 _ rfl _ _ rfl _ (key_root (HA.out.1.under (show Below V.heap.size V W from hW))))); (case' rt4 => simp only [Act.put, List.setIfInBounds_toArray, List.set_cons_zero, List.set_cons_succ]))
    (refine held_take (i := 6) (oi := ?ot5) (v := ?vt5) ?at5 (by kernel_rfl) (by kernel_rfl) (by kernel_rfl) ?bt5 ?ct5 ?dt5 (by assumption) ?rt5; (case at5 => (simp only [List.getElem?_toArray, List.getElem?_cons_zero, List.getElem?_cons_succ]; rfl)); (case bt5 => exact fun _ _ _ h => h); (case ct5 => kernel_rfl); (case dt5 => (intro W hW; (try dsimp only at hW); go_split_ands; go_simp; (try with_reducible rfl))); (case' rt5 => simp only [Act.put, List.setIfInBounds_toArray, List.set_cons_zero, List.set_cons_succ]))
    (refine held_take (i := 7) (oi := ?ot6) (v := .agg (vec 32 (bys seed))) ?at6 (by kernel_rfl) (by kernel_rfl) (by kernel_rfl) ?bt6 ?ct6 ?dt6 (by assumption) ?rt6; (case at6 => (simp only [List.getElem?_toArray, List.getElem?_cons_zero, List.getElem?_cons_succ]; rfl)); (case bt6 => exact fun _ _ _ h => h); (case ct6 => kernel_rfl); (case dt6 => (intro W hW; exact exec_load_at 30 _ rfl _ _ rfl _ (key_seed (HA.out.1.under (show Below V.heap.size V W from hW))))); (case' rt6 => simp only [Act.put, List.setIfInBounds_toArray, List.set_cons_zero, List.set_cons_succ]))
    refine held_two (i := 2) (j := 8) (oi := ?oit27) (oj := ?ojt27) (by kernel_rfl) ?ait27 ?ajt27 ?cit27 ?cjt27 (fun K2 hK2 => ?hit27) (fun K8 hK8 => ?hjt27)
    (case ait27 => (simp only [List.getElem?_toArray, List.getElem?_cons_zero, List.getElem?_cons_succ]; rfl))
    (case ajt27 => (simp only [List.getElem?_toArray, List.getElem?_cons_zero, List.getElem?_cons_succ]; rfl))
    (case cit27 => kernel_rfl)
    (case cjt27 => kernel_rfl)
    case hit27 =>
      refine ow_u32 _ rfl oid rfl (fun y2 p2 hl hd => ?_)
      (try have HU := Lib.hid ((HU.out.below hd).wide hd.size))
      (try have HN := Lib.hid ((HN.out.below hd).wide hd.size))
      (try have HN2 := Lib.hid ((HN2.out.below hd).wide hd.size))
      (try have HN3 := Lib.hid ((HN3.out.below hd).wide hd.size))
      (try have HP := Lib.hid ((HP.out.below hd).wide hd.size))
      (try have HL := Lib.hid ((HL.out.below hd).wide hd.size))
      (try have HL2 := Lib.hid ((HL2.out.below hd).wide hd.size))
      (try have HL3 := Lib.hid ((HL3.out.below hd).wide hd.size))
      (try have HR := Lib.hid ((HR.out.below hd).wide hd.size))
      have HU := Lib.hid hl
      refine hK2 _ _ (hS.keep hd) (fun hS2 => ?_)
      clear hS hl hd hK2 K2
      refine held_two (i := 3) (j := 8) (oi := ?oit19) (oj := ?ojt19) (by kernel_rfl) ?ait19 ?ajt19 ?cit19 ?cjt19 (fun K3 hK3 => ?hit19) (fun K8 hK8 => ?hjt19)
      (case ait19 => (simp only [List.getElem?_toArray, List.getElem?_cons_zero, List.getElem?_cons_succ]; rfl))
      (case ajt19 => (simp only [List.getElem?_toArray, List.getElem?_cons_zero, List.getElem?_cons_succ]; rfl))
      (case cit19 => kernel_rfl)
      (case cjt19 => kernel_rfl)
      case hit19 =>
        go_simp
        refine (put_one oid HO.out (some p2) 1 _ HU.out).mono ?_
        rintro e y3 ⟨v, rfl, ho, hd⟩
        (try have HU := Lib.hid ((HU.out.below hd).wide hd.size))
        (try have HN := Lib.hid ((HN.out.below hd).wide hd.size))
        (try have HN2 := Lib.hid ((HN2.out.below hd).wide hd.size))
        (try have HN3 := Lib.hid ((HN3.out.below hd).wide hd.size))
        (try have HP := Lib.hid ((HP.out.below hd).wide hd.size))
        (try have HL := Lib.hid ((HL.out.below hd).wide hd.size))
        (try have HL2 := Lib.hid ((HL2.out.below hd).wide hd.size))
        (try have HL3 := Lib.hid ((HL3.out.below hd).wide hd.size))
        (try have HR := Lib.hid ((HR.out.below hd).wide hd.size))
        obtain ⟨E3, cE3, rfl, hcE3, hl⟩ := row_part ho
        have HP := Lib.hid hl
        refine hK3 _ _ (hS2.keep hd) (fun hS3 => ?_)
        clear hS2 ho hl hd hK3 K3
        refine held_one (i := 8) (oi := ?ot7) (by kernel_rfl) ?at7 ?ct7 (fun K8 hK8 => ?_)
        (case at7 => (simp only [List.getElem?_toArray, List.getElem?_cons_zero, List.getElem?_cons_succ]; rfl))
        (case ct7 => kernel_rfl)
        refine ow_node2 _ _ rfl root seed rfl rfl (fun y8 p8 hl hd => ?_)
        (try have HU := Lib.hid ((HU.out.below hd).wide hd.size))
        (try have HN := Lib.hid ((HN.out.below hd).wide hd.size))
        (try have HN2 := Lib.hid ((HN2.out.below hd).wide hd.size))
        (try have HN3 := Lib.hid ((HN3.out.below hd).wide hd.size))
        (try have HP := Lib.hid ((HP.out.below hd).wide hd.size))
        (try have HL := Lib.hid ((HL.out.below hd).wide hd.size))
        (try have HL2 := Lib.hid ((HL2.out.below hd).wide hd.size))
        (try have HL3 := Lib.hid ((HL3.out.below hd).wide hd.size))
        (try have HR := Lib.hid ((HR.out.below hd).wide hd.size))
        have HN := Lib.hid hl
        refine hK8 _ _ (hS3.keep hd) (fun hS8 => ?_)
        clear hS3 hl hd hK8 K8
        refine held_one (i := 9) (oi := ?ot8) (by kernel_rfl) ?at8 ?ct8 (fun K9 hK9 => ?_)
        (case at8 => (simp only [List.getElem?_toArray, List.getElem?_cons_zero, List.getElem?_cons_succ]; rfl))
        (case ct8 => kernel_rfl)
        go_simp
        refine (laid_n 2 (some p8) 2 [root, seed] rfl (by decide) _ HN.out).mono ?_
        rintro e y9 ⟨v, rfl, ho, hd⟩
        (try have HU := Lib.hid ((HU.out.below hd).wide hd.size))
        (try have HN := Lib.hid ((HN.out.below hd).wide hd.size))
        (try have HN2 := Lib.hid ((HN2.out.below hd).wide hd.size))
        (try have HN3 := Lib.hid ((HN3.out.below hd).wide hd.size))
        (try have HP := Lib.hid ((HP.out.below hd).wide hd.size))
        (try have HL := Lib.hid ((HL.out.below hd).wide hd.size))
        (try have HL2 := Lib.hid ((HL2.out.below hd).wide hd.size))
        (try have HL3 := Lib.hid ((HL3.out.below hd).wide hd.size))
        (try have HR := Lib.hid ((HR.out.below hd).wide hd.size))
        obtain ⟨E9, cE9, rfl, hcE9, hl⟩ := row_part ho
        have HL := Lib.hid hl
        refine hK9 _ _ (hS8.keep hd) (fun hS9 => ?_)
        clear hS8 ho hl hd hK9 K9
        refine held_one (i := 10) (oi := ?ot9) (by kernel_rfl) ?at9 ?ct9 (fun K10 hK10 => ?_)
        (case at9 => (simp only [List.getElem?_toArray, List.getElem?_cons_zero, List.getElem?_cons_succ]; rfl))
        (case ct9 => kernel_rfl)
        refine ow_part2 _ _ rfl (E3, cE3, numBytes 0 4 oid) (E9, cE9, nodesL [root, seed]) rfl rfl (fun y10 p10 hl hd => ?_)
        (try have HU := Lib.hid ((HU.out.below hd).wide hd.size))
        (try have HN := Lib.hid ((HN.out.below hd).wide hd.size))
        (try have HN2 := Lib.hid ((HN2.out.below hd).wide hd.size))
        (try have HN3 := Lib.hid ((HN3.out.below hd).wide hd.size))
        (try have HP := Lib.hid ((HP.out.below hd).wide hd.size))
        (try have HL := Lib.hid ((HL.out.below hd).wide hd.size))
        (try have HL2 := Lib.hid ((HL2.out.below hd).wide hd.size))
        (try have HL3 := Lib.hid ((HL3.out.below hd).wide hd.size))
        (try have HR := Lib.hid ((HR.out.below hd).wide hd.size))
        have HC := Lib.hid hl
        refine hK10 _ _ (hS9.keep hd) (fun hS10 => ?_)
        clear hS9 hl hd hK10 K10
        refine held_one (i := 11) (oi := ?ot10) (by kernel_rfl) ?at10 ?ct10 (fun K11 hK11 => ?_)
        (case at10 => (simp only [List.getElem?_toArray, List.getElem?_cons_zero, List.getElem?_cons_succ]; rfl))
        (case ct10 => kernel_rfl)
        go_simp
        refine (cat_n 2 (some p10) 2 [(E3, cE3, numBytes 0 4 oid), (E9, cE9, nodesL [root, seed])] (keyL oid root seed) (by simp [catAll, keyL, nodesL]) rfl (by decide) (by rw [keyL_length]; decide) _ HC.out (fun p hp => ?_)).mono ?_
        · simp only [List.mem_cons, List.not_mem_nil, or_false] at hp
          rcases hp with rfl | rfl
          · exact HP.out
          · exact HL.out
        rintro e y11 ⟨v, rfl, ho, hd⟩
        have HR := Lib.hid (owns_mono ho ((HA.out.2.trans (Below.mono (show Below V.heap.size V _ from hS10) HA.out.2.size)).size))
        refine hK11 _ _ (hS10.keep hd) (fun hS11 => ?_)
        clear hS10 ho hd hK11 K11
        (refine held_take (i := 12) (oi := ?ot11) (v := ?vt11) ?at11 (by kernel_rfl) (by kernel_rfl) (by kernel_rfl) ?bt11 ?ct11 ?dt11 (by assumption) ?rt11; (case at11 => (simp only [List.getElem?_toArray, List.getElem?_cons_zero, List.getElem?_cons_succ]; rfl)); (case bt11 => exact fun _ _ _ h => h); (case ct11 => kernel_rfl); (case dt11 => (intro W hW; (try dsimp only at hW); go_split_ands; go_simp; (try with_reducible rfl))); (case' rt11 => simp only [Act.put, List.setIfInBounds_toArray, List.set_cons_zero, List.set_cons_succ]))
        (refine held_take (i := 13) (oi := ?ot12) (v := ?vt12) ?at12 (by kernel_rfl) (by kernel_rfl) (by kernel_rfl) ?bt12 ?ct12 ?dt12 (by assumption) ?rt12; (case at12 => (simp only [List.getElem?_toArray, List.getElem?_cons_zero, List.getElem?_cons_succ]; rfl)); (case bt12 => exact fun _ _ _ h => h); (case ct12 => kernel_rfl); (case dt12 => (intro W hW; (try dsimp only at hW); go_split_ands; go_simp; (try with_reducible rfl))); (case' rt12 => simp only [Act.put, List.setIfInBounds_toArray, List.set_cons_zero, List.set_cons_succ]))
        refine wpAnyH_done (by kernel_rfl) ?_ _
        go_wp2
        go_ret2
        exact ⟨_, rfl, by rw [HPK.out]; exact HR.out, VS.below0 hS11 HA.out.2⟩
      case hjt19 =>
        refine ow_node2 _ _ rfl root seed rfl rfl (fun y8 p8 hl hd => ?_)
        (try have HU := Lib.hid ((HU.out.below hd).wide hd.size))
        (try have HN := Lib.hid ((HN.out.below hd).wide hd.size))
        (try have HN2 := Lib.hid ((HN2.out.below hd).wide hd.size))
        (try have HN3 := Lib.hid ((HN3.out.below hd).wide hd.size))
        (try have HP := Lib.hid ((HP.out.below hd).wide hd.size))
        (try have HL := Lib.hid ((HL.out.below hd).wide hd.size))
        (try have HL2 := Lib.hid ((HL2.out.below hd).wide hd.size))
        (try have HL3 := Lib.hid ((HL3.out.below hd).wide hd.size))
        (try have HR := Lib.hid ((HR.out.below hd).wide hd.size))
        have HN := Lib.hid hl
        refine hK8 _ _ (hS2.keep hd) (fun hS8 => ?_)
        clear hS2 hl hd hK8 K8
        refine held_one (i := 3) (oi := ?ot13) (by kernel_rfl) ?at13 ?ct13 (fun K3 hK3 => ?_)
        (case at13 => (simp only [List.getElem?_toArray, List.getElem?_cons_zero, List.getElem?_cons_succ]; rfl))
        (case ct13 => kernel_rfl)
        go_simp
        refine (put_one oid HO.out (some p2) 1 _ HU.out).mono ?_
        rintro e y3 ⟨v, rfl, ho, hd⟩
        (try have HU := Lib.hid ((HU.out.below hd).wide hd.size))
        (try have HN := Lib.hid ((HN.out.below hd).wide hd.size))
        (try have HN2 := Lib.hid ((HN2.out.below hd).wide hd.size))
        (try have HN3 := Lib.hid ((HN3.out.below hd).wide hd.size))
        (try have HP := Lib.hid ((HP.out.below hd).wide hd.size))
        (try have HL := Lib.hid ((HL.out.below hd).wide hd.size))
        (try have HL2 := Lib.hid ((HL2.out.below hd).wide hd.size))
        (try have HL3 := Lib.hid ((HL3.out.below hd).wide hd.size))
        (try have HR := Lib.hid ((HR.out.below hd).wide hd.size))
        obtain ⟨E3, cE3, rfl, hcE3, hl⟩ := row_part ho
        have HP := Lib.hid hl
        refine hK3 _ _ (hS8.keep hd) (fun hS3 => ?_)
        clear hS8 ho hl hd hK3 K3
        refine held_one (i := 9) (oi := ?ot14) (by kernel_rfl) ?at14 ?ct14 (fun K9 hK9 => ?_)
        (case at14 => (simp only [List.getElem?_toArray, List.getElem?_cons_zero, List.getElem?_cons_succ]; rfl))
        (case ct14 => kernel_rfl)
        go_simp
        refine (laid_n 2 (some p8) 2 [root, seed] rfl (by decide) _ HN.out).mono ?_
        rintro e y9 ⟨v, rfl, ho, hd⟩
        (try have HU := Lib.hid ((HU.out.below hd).wide hd.size))
        (try have HN := Lib.hid ((HN.out.below hd).wide hd.size))
        (try have HN2 := Lib.hid ((HN2.out.below hd).wide hd.size))
        (try have HN3 := Lib.hid ((HN3.out.below hd).wide hd.size))
        (try have HP := Lib.hid ((HP.out.below hd).wide hd.size))
        (try have HL := Lib.hid ((HL.out.below hd).wide hd.size))
        (try have HL2 := Lib.hid ((HL2.out.below hd).wide hd.size))
        (try have HL3 := Lib.hid ((HL3.out.below hd).wide hd.size))
        (try have HR := Lib.hid ((HR.out.below hd).wide hd.size))
        obtain ⟨E9, cE9, rfl, hcE9, hl⟩ := row_part ho
        have HL := Lib.hid hl
        refine hK9 _ _ (hS3.keep hd) (fun hS9 => ?_)
        clear hS3 ho hl hd hK9 K9
        refine held_one (i := 10) (oi := ?ot15) (by kernel_rfl) ?at15 ?ct15 (fun K10 hK10 => ?_)
        (case at15 => (simp only [List.getElem?_toArray, List.getElem?_cons_zero, List.getElem?_cons_succ]; rfl))
        (case ct15 => kernel_rfl)
        refine ow_part2 _ _ rfl (E3, cE3, numBytes 0 4 oid) (E9, cE9, nodesL [root, seed]) rfl rfl (fun y10 p10 hl hd => ?_)
        (try have HU := Lib.hid ((HU.out.below hd).wide hd.size))
        (try have HN := Lib.hid ((HN.out.below hd).wide hd.size))
        (try have HN2 := Lib.hid ((HN2.out.below hd).wide hd.size))
        (try have HN3 := Lib.hid ((HN3.out.below hd).wide hd.size))
        (try have HP := Lib.hid ((HP.out.below hd).wide hd.size))
        (try have HL := Lib.hid ((HL.out.below hd).wide hd.size))
        (try have HL2 := Lib.hid ((HL2.out.below hd).wide hd.size))
        (try have HL3 := Lib.hid ((HL3.out.below hd).wide hd.size))
        (try have HR := Lib.hid ((HR.out.below hd).wide hd.size))
        have HC := Lib.hid hl
        refine hK10 _ _ (hS9.keep hd) (fun hS10 => ?_)
        clear hS9 hl hd hK10 K10
        refine held_one (i := 11) (oi := ?ot16) (by kernel_rfl) ?at16 ?ct16 (fun K11 hK11 => ?_)
        (case at16 => (simp only [List.getElem?_toArray, List.getElem?_cons_zero, List.getElem?_cons_succ]; rfl))
        (case ct16 => kernel_rfl)
        go_simp
        refine (cat_n 2 (some p10) 2 [(E3, cE3, numBytes 0 4 oid), (E9, cE9, nodesL [root, seed])] (keyL oid root seed) (by simp [catAll, keyL, nodesL]) rfl (by decide) (by rw [keyL_length]; decide) _ HC.out (fun p hp => ?_)).mono ?_
        · simp only [List.mem_cons, List.not_mem_nil, or_false] at hp
          rcases hp with rfl | rfl
          · exact HP.out
          · exact HL.out
        rintro e y11 ⟨v, rfl, ho, hd⟩
        have HR := Lib.hid (owns_mono ho ((HA.out.2.trans (Below.mono (show Below V.heap.size V _ from hS10) HA.out.2.size)).size))
        refine hK11 _ _ (hS10.keep hd) (fun hS11 => ?_)
        clear hS10 ho hd hK11 K11
        (refine held_take (i := 12) (oi := ?ot17) (v := ?vt17) ?at17 (by kernel_rfl) (by kernel_rfl) (by kernel_rfl) ?bt17 ?ct17 ?dt17 (by assumption) ?rt17; (case at17 => (simp only [List.getElem?_toArray, List.getElem?_cons_zero, List.getElem?_cons_succ]; rfl)); (case bt17 => exact fun _ _ _ h => h); (case ct17 => kernel_rfl); (case dt17 => (intro W hW; (try dsimp only at hW); go_split_ands; go_simp; (try with_reducible rfl))); (case' rt17 => simp only [Act.put, List.setIfInBounds_toArray, List.set_cons_zero, List.set_cons_succ]))
        (refine held_take (i := 13) (oi := ?ot18) (v := ?vt18) ?at18 (by kernel_rfl) (by kernel_rfl) (by kernel_rfl) ?bt18 ?ct18 ?dt18 (by assumption) ?rt18; (case at18 => (simp only [List.getElem?_toArray, List.getElem?_cons_zero, List.getElem?_cons_succ]; rfl)); (case bt18 => exact fun _ _ _ h => h); (case ct18 => kernel_rfl); (case dt18 => (intro W hW; (try dsimp only at hW); go_split_ands; go_simp; (try with_reducible rfl))); (case' rt18 => simp only [Act.put, List.setIfInBounds_toArray, List.set_cons_zero, List.set_cons_succ]))
        refine wpAnyH_done (by kernel_rfl) ?_ _
        go_wp2
        go_ret2
        exact ⟨_, rfl, by rw [HPK.out]; exact HR.out, VS.below0 hS11 HA.out.2⟩
    case hjt27 =>
      refine ow_node2 _ _ rfl root seed rfl rfl (fun y8 p8 hl hd => ?_)
      (try have HU := Lib.hid ((HU.out.below hd).wide hd.size))
      (try have HN := Lib.hid ((HN.out.below hd).wide hd.size))
      (try have HN2 := Lib.hid ((HN2.out.below hd).wide hd.size))
      (try have HN3 := Lib.hid ((HN3.out.below hd).wide hd.size))
      (try have HP := Lib.hid ((HP.out.below hd).wide hd.size))
      (try have HL := Lib.hid ((HL.out.below hd).wide hd.size))
      (try have HL2 := Lib.hid ((HL2.out.below hd).wide hd.size))
      (try have HL3 := Lib.hid ((HL3.out.below hd).wide hd.size))
      (try have HR := Lib.hid ((HR.out.below hd).wide hd.size))
      have HN := Lib.hid hl
      refine hK8 _ _ (hS.keep hd) (fun hS8 => ?_)
      clear hS hl hd hK8 K8
      refine held_one (i := 2) (oi := ?ot20) (by kernel_rfl) ?at20 ?ct20 (fun K2 hK2 => ?_)
      (case at20 => (simp only [List.getElem?_toArray, List.getElem?_cons_zero, List.getElem?_cons_succ]; rfl))
      (case ct20 => kernel_rfl)
      refine ow_u32 _ rfl oid rfl (fun y2 p2 hl hd => ?_)
      (try have HU := Lib.hid ((HU.out.below hd).wide hd.size))
      (try have HN := Lib.hid ((HN.out.below hd).wide hd.size))
      (try have HN2 := Lib.hid ((HN2.out.below hd).wide hd.size))
      (try have HN3 := Lib.hid ((HN3.out.below hd).wide hd.size))
      (try have HP := Lib.hid ((HP.out.below hd).wide hd.size))
      (try have HL := Lib.hid ((HL.out.below hd).wide hd.size))
      (try have HL2 := Lib.hid ((HL2.out.below hd).wide hd.size))
      (try have HL3 := Lib.hid ((HL3.out.below hd).wide hd.size))
      (try have HR := Lib.hid ((HR.out.below hd).wide hd.size))
      have HU := Lib.hid hl
      refine hK2 _ _ (hS8.keep hd) (fun hS2 => ?_)
      clear hS8 hl hd hK2 K2
      refine held_one (i := 3) (oi := ?ot21) (by kernel_rfl) ?at21 ?ct21 (fun K3 hK3 => ?_)
      (case at21 => (simp only [List.getElem?_toArray, List.getElem?_cons_zero, List.getElem?_cons_succ]; rfl))
      (case ct21 => kernel_rfl)
      go_simp
      refine (put_one oid HO.out (some p2) 1 _ HU.out).mono ?_
      rintro e y3 ⟨v, rfl, ho, hd⟩
      (try have HU := Lib.hid ((HU.out.below hd).wide hd.size))
      (try have HN := Lib.hid ((HN.out.below hd).wide hd.size))
      (try have HN2 := Lib.hid ((HN2.out.below hd).wide hd.size))
      (try have HN3 := Lib.hid ((HN3.out.below hd).wide hd.size))
      (try have HP := Lib.hid ((HP.out.below hd).wide hd.size))
      (try have HL := Lib.hid ((HL.out.below hd).wide hd.size))
      (try have HL2 := Lib.hid ((HL2.out.below hd).wide hd.size))
      (try have HL3 := Lib.hid ((HL3.out.below hd).wide hd.size))
      (try have HR := Lib.hid ((HR.out.below hd).wide hd.size))
      obtain ⟨E3, cE3, rfl, hcE3, hl⟩ := row_part ho
      have HP := Lib.hid hl
      refine hK3 _ _ (hS2.keep hd) (fun hS3 => ?_)
      clear hS2 ho hl hd hK3 K3
      refine held_one (i := 9) (oi := ?ot22) (by kernel_rfl) ?at22 ?ct22 (fun K9 hK9 => ?_)
      (case at22 => (simp only [List.getElem?_toArray, List.getElem?_cons_zero, List.getElem?_cons_succ]; rfl))
      (case ct22 => kernel_rfl)
      go_simp
      refine (laid_n 2 (some p8) 2 [root, seed] rfl (by decide) _ HN.out).mono ?_
      rintro e y9 ⟨v, rfl, ho, hd⟩
      (try have HU := Lib.hid ((HU.out.below hd).wide hd.size))
      (try have HN := Lib.hid ((HN.out.below hd).wide hd.size))
      (try have HN2 := Lib.hid ((HN2.out.below hd).wide hd.size))
      (try have HN3 := Lib.hid ((HN3.out.below hd).wide hd.size))
      (try have HP := Lib.hid ((HP.out.below hd).wide hd.size))
      (try have HL := Lib.hid ((HL.out.below hd).wide hd.size))
      (try have HL2 := Lib.hid ((HL2.out.below hd).wide hd.size))
      (try have HL3 := Lib.hid ((HL3.out.below hd).wide hd.size))
      (try have HR := Lib.hid ((HR.out.below hd).wide hd.size))
      obtain ⟨E9, cE9, rfl, hcE9, hl⟩ := row_part ho
      have HL := Lib.hid hl
      refine hK9 _ _ (hS3.keep hd) (fun hS9 => ?_)
      clear hS3 ho hl hd hK9 K9
      refine held_one (i := 10) (oi := ?ot23) (by kernel_rfl) ?at23 ?ct23 (fun K10 hK10 => ?_)
      (case at23 => (simp only [List.getElem?_toArray, List.getElem?_cons_zero, List.getElem?_cons_succ]; rfl))
      (case ct23 => kernel_rfl)
      refine ow_part2 _ _ rfl (E3, cE3, numBytes 0 4 oid) (E9, cE9, nodesL [root, seed]) rfl rfl (fun y10 p10 hl hd => ?_)
      (try have HU := Lib.hid ((HU.out.below hd).wide hd.size))
      (try have HN := Lib.hid ((HN.out.below hd).wide hd.size))
      (try have HN2 := Lib.hid ((HN2.out.below hd).wide hd.size))
      (try have HN3 := Lib.hid ((HN3.out.below hd).wide hd.size))
      (try have HP := Lib.hid ((HP.out.below hd).wide hd.size))
      (try have HL := Lib.hid ((HL.out.below hd).wide hd.size))
      (try have HL2 := Lib.hid ((HL2.out.below hd).wide hd.size))
      (try have HL3 := Lib.hid ((HL3.out.below hd).wide hd.size))
      (try have HR := Lib.hid ((HR.out.below hd).wide hd.size))
      have HC := Lib.hid hl
      refine hK10 _ _ (hS9.keep hd) (fun hS10 => ?_)
      clear hS9 hl hd hK10 K10
      refine held_one (i := 11) (oi := ?ot24) (by kernel_rfl) ?at24 ?ct24 (fun K11 hK11 => ?_)
      (case at24 => (simp only [List.getElem?_toArray, List.getElem?_cons_zero, List.getElem?_cons_succ]; rfl))
      (case ct24 => kernel_rfl)
      go_simp
      refine (cat_n 2 (some p10) 2 [(E3, cE3, numBytes 0 4 oid), (E9, cE9, nodesL [root, seed])] (keyL oid root seed) (by simp [catAll, keyL, nodesL]) rfl (by decide) (by rw [keyL_length]; decide) _ HC.out (fun p hp => ?_)).mono ?_
      · simp only [List.mem_cons, List.not_mem_nil, or_false] at hp
        rcases hp with rfl | rfl
        · exact HP.out
        · exact HL.out
      rintro e y11 ⟨v, rfl, ho, hd⟩
      have HR := Lib.hid (owns_mono ho ((HA.out.2.trans (Below.mono (show Below V.heap.size V _ from hS10) HA.out.2.size)).size))
      refine hK11 _ _ (hS10.keep hd) (fun hS11 => ?_)
      clear hS10 ho hd hK11 K11
      (refine held_take (i := 12) (oi := ?ot25) (v := ?vt25) ?at25 (by kernel_rfl) (by kernel_rfl) (by kernel_rfl) ?bt25 ?ct25 ?dt25 (by assumption) ?rt25; (case at25 => (simp only [List.getElem?_toArray, List.getElem?_cons_zero, List.getElem?_cons_succ]; rfl)); (case bt25 => exact fun _ _ _ h => h); (case ct25 => kernel_rfl); (case dt25 => (intro W hW; (try dsimp only at hW); go_split_ands; go_simp; (try with_reducible rfl))); (case' rt25 => simp only [Act.put, List.setIfInBounds_toArray, List.set_cons_zero, List.set_cons_succ]))
      (refine held_take (i := 13) (oi := ?ot26) (v := ?vt26) ?at26 (by kernel_rfl) (by kernel_rfl) (by kernel_rfl) ?bt26 ?ct26 ?dt26 (by assumption) ?rt26; (case at26 => (simp only [List.getElem?_toArray, List.getElem?_cons_zero, List.getElem?_cons_succ]; rfl)); (case bt26 => exact fun _ _ _ h => h); (case ct26 => kernel_rfl); (case dt26 => (intro W hW; (try dsimp only at hW); go_split_ands; go_simp; (try with_reducible rfl))); (case' rt26 => simp only [Act.put, List.setIfInBounds_toArray, List.set_cons_zero, List.set_cons_succ]))
      refine wpAnyH_done (by kernel_rfl) ?_ _
      go_wp2
      go_ret2
      exact ⟨_, rfl, by rw [HPK.out]; exact HR.out, VS.below0 hS11 HA.out.2⟩
end Go.Proofs.YtfeiplaiekbdkaaGreatDoor
/- Keys alike. -/
namespace Go.Proofs.YtfeiplaiekbdkaaGreatDoor
open Go.RowKit

theorem vec_extract (n o m : Nat) (f : Nat → Value) (h : o + m ≤ n) : (vec n f).extract o (o + m) = vec m (fun i => f (o + i)) := by
  apply Array.ext_getElem?
  intro i
  by_cases hi : i < m
  · rw [vec_at m _ i hi, Array.getElem?_extract, if_pos (by rw [vec_size]; omega), vec_at n f _ (by omega)]
  · rw [Array.getElem?_eq_none (by rw [Array.size_extract, vec_size]; omega), Array.getElem?_eq_none (by rw [vec_size]; omega)]
set_option maxRecDepth 100000 in
theorem part_root (oid : Int) (root seed : Nd) (w : World) : (Go.part 30 (vec 65 (keyF oid root seed)) 1).run Tryz.prog w = .ok (.agg (vec 32 (bys root))) w := by
  have e : vec 32 (fun i => keyF oid root seed (1 + i)) = vec 32 (bys root) := vec_congr fun i hi => keyF_root oid root seed i hi
  have h := vec_extract 65 1 32 (keyF oid root seed) (by decide)
  rw [e] at h
  simp [Go.part, go_sem, Tryz.isAgg30, Tryz.sizeOf30, h]
set_option maxRecDepth 100000 in
theorem part_seed (oid : Int) (root seed : Nd) (w : World) : (Go.part 30 (vec 65 (keyF oid root seed)) 33).run Tryz.prog w = .ok (.agg (vec 32 (bys seed))) w := by
  have e : vec 32 (fun i => keyF oid root seed (33 + i)) = vec 32 (bys seed) := vec_congr fun i _ => keyF_seed oid root seed i
  have h := vec_extract 65 33 32 (keyF oid root seed) (by decide)
  rw [e] at h
  simp [Go.part, go_sem, Tryz.isAgg30, Tryz.sizeOf30, h]
theorem part_oid (oid : Int) (root seed : Nd) (w : World) : (Go.part 28 (vec 65 (keyF oid root seed)) 0).run Tryz.prog w = .ok (.int .u32 oid) w := by
  have hv := vec_at 65 (keyF oid root seed) 0 (by decide)
  simp [Go.part, go_sem, Tryz.isAgg28, Tryz.sizeOf28, hv, keyF]
theorem eq_items_n (f : Nat → UInt8) (d : Nat) (w : World) : ∀ is : List Nat, (∀ i ∈ is, i < 32) → (Op.eqItems (d + 1) 5 1 (vec 32 (bys f)) (vec 32 (bys f)) is).run Tryz.prog w = .ok true w := eq_items32 f d w
set_option maxRecDepth 100000 in
theorem equalIn_node (d : Nat) (f : Nd) (w : World) : (Op.equalIn (d + 2) 30 (.agg (vec 32 (bys f))) (.agg (vec 32 (bys f)))).run Tryz.prog w = .ok true w := by
  obtain ⟨i, hi, hs⟩ : ∃ i, Tryz.prog.info? 5 = some i ∧ i.size = 1 := by
    have h : (Tryz.prog.info? 5).map (·.size) = some 1 := by kernel_rfl
    cases hq : Tryz.prog.info? 5 with
    | none => simp [hq] at h
    | some i => exact ⟨i, rfl, by simpa [hq] using h⟩
  have := run_equalIn_array (P := Tryz.prog) w (d + 1) (vec 32 (bys f)) (vec 32 (bys f)) Tryz.underlying30 hi
  have hc : Tryz.prog.cellsOf 5 = 1 := by kernel_rfl
  rw [hc, eq_items32 f d w (List.range 32) (fun i hi => List.mem_range.1 hi)] at this
  exact this
set_option maxRecDepth 100000 in
theorem eqlKey (oid : Int) (root seed : Nd) (w : World) : (Op.equalIn 10000 33 (.agg (vec 65 (keyF oid root seed))) (.agg (vec 65 (keyF oid root seed)))).run Tryz.prog w = .ok true w := by
  rw [run_equalIn_struct (P := Tryz.prog) w 9999 33 _ _ (by kernel_rfl) (by kernel_rfl)]
  unfold Program.fieldsOf
  rw [Tryz.underlying33]
  have h1 := equalIn_node 9997 root w
  have h2 := equalIn_node 9997 seed w
  have h0 := run_equalIn_int (P := Tryz.prog) w 9998 28 .u32 .u32 oid oid Tryz.underlying28
  rw [beq_self_eq_true] at h0
  simp [Op.eqFields, Sem.run_bind, part_oid, part_root, part_seed, h0, h1, h2]
end Go.Proofs.YtfeiplaiekbdkaaGreatDoor
