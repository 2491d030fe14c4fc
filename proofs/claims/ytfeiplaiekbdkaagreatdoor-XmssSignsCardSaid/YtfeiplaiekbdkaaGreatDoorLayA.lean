/- (common).lay, adrs.Bytes. -/
import Derived.Test.YtfeiplaiekbdkaaGreatDoorAdrs
import Derived.Test.YtfeiplaiekbdkaaGreatDoorWa
import Derived.Deep.Cut
import Derived.BigQuiet
import Derived.Deep.QuietTactic
namespace Go.Proofs.YtfeiplaiekbdkaaGreatDoor
open Go.RowKit

def adWs (l t k a b c m : Nat) : List Nat := [l, t / 4294967296, t % 4294967296, k, a, b, c, m]
def lB (l : List UInt8) : Nat → UInt8 := fun i => l.getD i 0
theorem u32_info : (Tryz.prog.info? 28).map (fun i => (i.zero, i.size, i.bytes)) = some (some (.int .u32 0), 1, 4) := by kernel_rfl
theorem byte_size : (Tryz.prog.info? 5).map (·.size) = some 1 := by kernel_rfl
theorem u32s_one (l : List Nat) : ∀ u ∈ u32s l, u.oneCell' = true := by
  intro u hu
  obtain ⟨b, _, rfl⟩ := List.mem_map.1 hu
  rfl
attribute [local go_sem ↓ high] zeroV26

set_option maxHeartbeats 1000000 in
set_option maxRecDepth 100000 in
theorem lay_any (l t k m a b c : Nat) (hl : l < 4294967296) (ht : t < 18446744073709551616) (hk : k < 4294967296) (hm : m < 4294967296) (ha : a < 4294967296) (hb : b < 4294967296) (hc : c < 4294967296)
    (D : Option Addr) (d : Nat) (w : World) (h : Lies w w.heap.size 1 D 3 (u32s [a, b, c])) :
    Calls Tryz.prog 128 #[coV l t k m, .slice D 3 d] w fun e w' => e = .returned (.agg (vec 32 (bys (lB (putAll 0 4 (adWs l t k a b c m)))))) ∧ Below w.heap.size w w' := by
  obtain ⟨i0, hi, hz0, hz1, hz2⟩ := info_parts u32_info
  have Hi := Lib.hid (And.intro hi (And.intro hz0 (And.intro hz1 hz2)))
  have e1 : IntKind.u32.wrap ((t : Int) / 4294967296) = ((t / 4294967296 : Nat) : Int) := by rw [IntKind.wrap_u32']; omega
  have e2 : IntKind.u32.wrap (t : Int) = ((t % 4294967296 : Nat) : Int) := by rw [IntKind.wrap_u32']; omega
  obtain ⟨W0, hW0⟩ : ∃ W0, W0 = (w.alloc (.cells #[.int .u32 (l : Int), .int .u64 (t : Int), .int .u32 (k : Int), .int .u32 (m : Int)] 136)).alloc (.cells (vec 32 (bys zb)) 30) := ⟨_, rfl⟩
  have hA : Blk W0 w.heap.size 136 #[.int .u32 (l : Int), .int .u64 (t : Int), .int .u32 (k : Int), .int .u32 (m : Int)] := by rw [hW0]; exact (Blk.new w _ _ rfl).alloc _
  have hR : Arr W0 (w.heap.size + 1) 30 32 (bys zb) := by rw [hW0]; exact Arr.newAt _ _ _ _ (by simp)
  have hB : Below w.heap.size w W0 := by rw [hW0]; exact ((Below.refl _ _).alloc (Nat.le_refl _) _).alloc (by simp) _
  have hsz : W0.heap.size = w.heap.size + 2 := by rw [hW0]; simp
  have c0 : W0.cell? ⟨w.heap.size, 0, none⟩ = some (.int .u32 (l : Int)) := hA.cellAt 0 rfl
  have c1 : W0.cell? ⟨w.heap.size, 1, none⟩ = some (.int .u64 (t : Int)) := hA.cellAt 1 rfl
  have c2 : W0.cell? ⟨w.heap.size, 2, none⟩ = some (.int .u32 (k : Int)) := hA.cellAt 2 rfl
  have c3 : W0.cell? ⟨w.heap.size, 3, none⟩ = some (.int .u32 (m : Int)) := hA.cellAt 3 rfl
  have HA := Lib.hid (And.intro hA (And.intro hR (And.intro hB hsz)))
  have HL := Lib.hid h
  have HW := Lib.hid hW0
  clear hA hR hB hsz hW0 h hi hz0 hz1 hz2
  go_enter Tryz.func128, Tryz.ntmps128
  go_upto_region 1 with fail
  rw [← HW.out]
  clear HW
  have hlit : ∀ cs : Array Value, cs.toList = u32s [l, t / 4294967296, t % 4294967296, k] → (W0.alloc (.cells cs 28)).ownsRow W0.heap.size 28 1 (.slice (some ⟨W0.heap.size, 0, none⟩) 4 4) 4 (u32s [l, t / 4294967296, t % 4294967296, k]) := by
    intro cs hcs
    rw [← hcs]
    exact World.ownsRow_lit W0 cs 4 (Nat.le_refl _) (by decide) (by rw [← Array.length_toList, hcs]; rfl)
  have HLit := Lib.hid hlit
  clear hlit
  obtain ⟨hi, hz0, hz1, hz2⟩ := Hi.out
  clear Hi
  go_upto_region 4 with (first
    | (at_builtin
       (refine wpList_app rfl (.tmp 19) (.tmp 20) 96 rfl W0.heap.size 28 i0 (.int .u32 0) 4 Tryz.underlying96 hi hz0 hz1 hz2 rfl _ 4 (u32s [l, t / 4294967296, t % 4294967296, k]) rfl (HLit.out _ rfl) _ D 3 d _ rfl ((HL.out.below HA.out.2.2.1).alloc HA.out.2.2.1.size _) (u32s_one _) (by decide) (by decide) (by simp) ?_)
       intro v1 w1 h1 h2 h3
       have hb1 : Below W0.heap.size W0 w1 := ((Below.refl _ _).alloc (Nat.le_refl _) _).grown h2 (by simp) (fun j hj => Nat.le_of_eq (Option.some.inj hj))
       have c3' : w1.cell? ⟨w.heap.size, 3, none⟩ = some (.int .u32 (m : Int)) := (hb1.cell (show w.heap.size < W0.heap.size by have := HA.out.2.2.2; omega)).trans c3
       have H1 := Lib.hid (And.intro h1 hb1)
       clear h1 h2 h3 hb1 c0 c1 c2 c3)
    | (at_builtin
       (refine wpList_app rfl (.tmp 22) (.tmp 25) 96 rfl W0.heap.size 28 i0 (.int .u32 0) 4 Tryz.underlying96 hi hz0 hz1 hz2 rfl _ 7 (u32s [l, t / 4294967296, t % 4294967296, k] ++ u32s [a, b, c]) rfl (H1.out.1.alloc _) _ _ _ _ (u32s [m]) rfl (lies_new _ _ _ _ _ rfl rfl) (u32s_one _) (by decide) (by decide) (by have := H1.out.2.size; simp; omega) ?_)
       intro v2 w2 h1 h2 h3
       have hb2 : Below W0.heap.size W0 w2 := (H1.out.2.alloc H1.out.2.size _).grown h2 (by have := H1.out.2.size; simp; omega) (fun g hg => (H1.out.1.lt g hg).1)
       have H2 := Lib.hid (And.intro h1 hb2)
       clear h1 h2 h3 hb2 c3'))
  have h2 : w2.ownsRow W0.heap.size 28 1 v2 8 (u32s (adWs l t k a b c m)) := H2.out.1
  obtain ⟨E0, ce, rfl, hli⟩ := owns_form h2
  obtain ⟨E, rfl, hEb, -⟩ := hli.2 (by decide)
  obtain ⟨W3, hW3⟩ : ∃ W3, W3 = (w2.alloc (.cells (vec 32 (bys zb)) 30)).setRow w2.heap.size (vec 32 (bys zb)) := ⟨_, rfl⟩
  have h3 : Arr W3 w2.heap.size 30 32 (bys zb) := by rw [hW3]; exact (Arr.new w2 _ _ _).row _
  have hb3 : Below w2.heap.size w2 W3 := by rw [hW3]; exact below_row ((Below.refl _ _).alloc (Nat.le_refl _) _) (Nat.le_refl _) _
  have hsz3 : W3.heap.size = w2.heap.size + 1 := by rw [hW3]; simp
  have HLi : Hid (∀ Y, Save w2.heap.size W3 Y → Lies Y Y.heap.size 1 (some E) 8 (u32s (adWs l t k a b c m))) := Lib.hid fun Y hY =>
    (hli.same fun p hp => (hY.cell (by omega) (by omega)).trans (hb3.cell hp)).wide (by have := hY.size; omega)
  have SK2 : Hid (∀ Y Z, (Save w2.heap.size W3 Y ∧ ∃ f, Arr Y w2.heap.size 30 32 (bys f)) → Below Y.heap.size Y Z → Save w2.heap.size W3 Z ∧ ∃ f, Arr Z w2.heap.size 30 32 (bys f)) := Lib.hid fun Y Z h hd =>
    ⟨h.1.trans (Save.of_below hd), h.2.elim fun f hf => ⟨f, hf.under hd⟩⟩
  have HN : Hid (∀ n ∈ adWs l t k a b c m, n < 4294967296) := Lib.hid fun n hn => by
    simp only [adWs, List.mem_cons, List.not_mem_nil, or_false] at hn
    omega
  have HSrc : Hid (∀ (Y : World) (g3 : Nat), (∀ j (hj : j < (u8s ([] ++ putAll 0 4 (adWs l t k a b c m))).length), Y.cell? ⟨g3, 0 + j, none⟩ = some (u8s ([] ++ putAll 0 4 (adWs l t k a b c m)))[j]) → ∀ j, j < 32 → Y.cell? ((⟨g3, 0, none⟩ : Addr).add j) = some (bys (lB (putAll 0 4 (adWs l t k a b c m))) j)) := Lib.hid fun Y g3 h j hj => by
    have hlen : (putAll 0 4 (adWs l t k a b c m)).length = 32 := by rw [putAll_length]; rfl
    have e : ((⟨g3, 0, none⟩ : Addr).add j) = ⟨g3, 0 + j, none⟩ := by unfold Addr.add; by_cases h0 : j = 0 <;> simp [h0]
    rw [e, h j (by simp [u8s, hlen, hj])]
    simp only [u8s, List.nil_append, List.getElem_map, bys, lB]
    rw [List.getD_eq_getElem?_getD, List.getElem?_eq_getElem (by omega)]; rfl
  have H3 := Lib.hid (And.intro h3 (And.intro hb3 hsz3))
  have HW3 := Lib.hid hW3
  clear hi hz0 hz1 hz2 h2 hli hW3 h3 hb3 hsz3 hEb HLit HL H1 e1 e2
  go_upto_region 5 with (first
    | (refine wl_build rfl 30 _ rfl (vec 32 (bys zb)) (by kernel_rfl) ?_)
    | (refine wl_store rfl 30 _ _ rfl _ rfl _ rfl (run_store_arr (Arr.new w2 _ _ _) (bys zb) info26 (bys_one _ _)) ?_))
  rw [← HW3.out]
  clear HW3
  refine wp_region_held_drew (S := fun Y => Save w2.heap.size W3 Y ∧ ∃ f, Arr Y w2.heap.size 30 32 (bys f)) (by kernel_rfl) ⟨(Save.refl _ _).drewN 1, zb, H3.out.1⟩ (fun hS => ?_)
  (refine held_take (i := 0) (oi := ?ot1) (v := ?vt1) ?at1 (by kernel_rfl) (by kernel_rfl) (by kernel_rfl) ?bt1 ?ct1 ?dt1 (by assumption) ?rt1; (case at1 => (simp only [List.getElem?_toArray, List.getElem?_cons_zero]; rfl)); (case bt1 => exact fun _ _ _ h => h); (case ct1 => kernel_rfl); (case dt1 => (intro W hW; (try dsimp only at hW); go_split_ands; go_simp; (try with_reducible rfl))); (case' rt1 => simp only [Act.put, List.setIfInBounds_toArray, List.set_cons_zero, List.set_cons_succ]))
  (refine held_take (i := 1) (oi := ?ot2) (v := ?vt2) ?at2 (by kernel_rfl) (by kernel_rfl) (by kernel_rfl) ?bt2 ?ct2 ?dt2 (by assumption) ?rt2; (case at2 => (simp only [List.getElem?_toArray, List.getElem?_cons_zero, List.getElem?_cons_succ]; rfl)); (case bt2 => exact fun _ _ _ h => h); (case ct2 => kernel_rfl); (case dt2 => (intro W hW; (try dsimp only at hW); go_split_ands; go_simp; (try with_reducible rfl))); (case' rt2 => simp only [Act.put, List.setIfInBounds_toArray, List.set_cons_zero, List.set_cons_succ]))
  refine held_one (i := 2) (oi := ?ot3) (by kernel_rfl) ?at3 ?ct3 (fun K2 hK2 => ?_)
  (case at3 => (simp only [List.getElem?_toArray, List.getElem?_cons_zero, List.getElem?_cons_succ]; rfl))
  (case ct3 => kernel_rfl)
  go_simp
  refine (putBe32_any [] (adWs l t k a b c m) HN.out none (some E) 0 ce _ _ (Nat.le_refl _) (Lies.nil _ _ _ _) (HLi.out _ hS.1) (by simp [adWs])).mono ?_
  rintro e y1 ⟨v, rfl, hv1, hv2⟩
  obtain ⟨g3, c3, rfl, hb3, hc3, hcell⟩ := owns_blk hv1 (by simp [putAll_length, adWs])
  obtain ⟨f1, hf1⟩ := (SK2.out _ _ hS hv2).2
  have hd := hv2
  refine hK2 _ _ (SK2.out _ _ hS hv2) (fun hS2 => ?_)
  clear hS hd hK2 K2
  refine held_one (i := 3) (oi := ?ot4) (by kernel_rfl) ?at4 ?ct4 (fun K3 hK3 => ?_)
  (case at4 => (simp only [List.getElem?_toArray, List.getElem?_cons_zero, List.getElem?_cons_succ]; rfl))
  (case ct4 => kernel_rfl)
  refine ow_copy _ _ _ _ rfl _ _ rfl rfl (run_copy_spl (P := Tryz.prog) (w := y1) (g := w2.heap.size) (n := 32) (o := 0) (dLen := 32) (dCap := 32) (sLen := 32) (sCap := c3) (dT := 22) (sT := 22) (ty := 3) (elem := 5) (t := 30) (a := ⟨g3, 0, none⟩) (f := bys f1) (c := bys (lB (putAll 0 4 (adWs l t k a b c m)))) 32 hf1 Tryz.underlying22 byte_size rfl (fun j hj => HSrc.out _ _ hcell j hj) (by decide) (bys_one _ _)) ?_
  refine hK3 _ _ ⟨hS2.1.setRow _, _, hf1.row _⟩ (fun hS3 => ?_)
  clear hK3 K3
  refine wpAnyH_done (by kernel_rfl) ?_ _
  have hfin : vec 32 (spl 0 32 (bys (lB (putAll 0 4 (adWs l t k a b c m)))) (bys f1)) = vec 32 (bys (lB (putAll 0 4 (adWs l t k a b c m)))) := vec_congr fun i hi => by simp [spl, hi]
  rw [hfin] at hS3 ⊢
  obtain ⟨Y4, hY4⟩ : ∃ Y4, Y4 = y1.setRow w2.heap.size (vec 32 (bys (lB (putAll 0 4 (adWs l t k a b c m))))) := ⟨_, rfl⟩
  have hN4 : Arr Y4 w2.heap.size 30 32 (bys (lB (putAll 0 4 (adWs l t k a b c m)))) := by rw [hY4]; exact hf1.row _
  rw [← hY4] at hS3 ⊢
  have hR4 : Arr Y4 (w.heap.size + 1) 30 32 (bys zb) := by
    have hs2 := H2.out.2.size
    have hs0 := HA.out.2.2.2
    exact ((HA.out.2.1.under H2.out.2).under H3.out.2.1).save hS3.1 (by omega)
  have hB4 : Below w.heap.size w Y4 := by
    have hs2 := H2.out.2.size
    have hs0 := HA.out.2.2.2
    exact ((HA.out.2.2.1.trans (H2.out.2.mono HA.out.2.2.1.size)).trans (H3.out.2.1.mono (by omega))).trans (hS3.1.below (by omega) (by have := H3.out.2.2; omega))
  have H4 := Lib.hid (And.intro hN4 (And.intro hR4 hB4))
  clear hS3 hf1 hY4 hN4 hR4 hB4 hfin hcell
  go_wp2_with (first
    | (refine wl_load rfl 30 _ rfl _ rfl _ (run_load_arr H4.out.1 Tryz.underlying30 rfl info26) ?_)
    | (refine wl_store rfl 30 _ _ rfl _ rfl _ rfl (run_store_arr H4.out.2.1 _ info26 (bys_one _ _)) ?_))
  refine bodyPost_ret (results_cell1 rfl _ _ _ rfl (run_load_arr (H4.out.2.1.row _) Tryz.underlying30 rfl info26)) rfl ⟨rfl, ?_⟩
  exact below_row H4.out.2.2 (by omega) _
end Go.Proofs.YtfeiplaiekbdkaaGreatDoor
