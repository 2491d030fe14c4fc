/- append of so many zeros onto a row of the call's own; append of a node onto a node's slice; what a region knows whose result lies in a block. -/
import Derived.Test.YtfeiplaiekbdkaaGreatDoorKey
import Derived.Lib.AppendZeros
namespace Go.Proofs.YtfeiplaiekbdkaaGreatDoor
open Go.RowKit
attribute [local go_sem ↓ high] zeroV26
section
variable {P : Program} {w : World}
set_option maxRecDepth 100000 in
theorem zero_cells1 (z : Value) (k : Nat) : Builtin.zeroCells #[z] k = (List.replicate k z).toArray := by
  apply Array.ext_getElem?
  intro i
  by_cases hi : i < k
  · simp [Builtin.zeroCells, hi, Nat.mod_one]
  · simp [Builtin.zeroCells, hi]
set_option maxRecDepth 100000 in
theorem run_app_zeros (base : Nat) (t tn ty e : TypeId) (i : TypeInfo) (z : Value) (kn : IntKind) (bytes : Nat) (ht : P.underlying t = some (.slice e)) (htn : P.underlying tn = some (.int kn)) (hi : P.info? e = some i) (hz : i.zero = some z)
    (hsize : i.size = 1) (hby : i.bytes = bytes) (hzc : z.cells = #[z]) (hz1 : z.oneCell' = true) (v : Value) (n : Nat) (xs : List Value) (hown : w.ownsRow base e 1 v n xs) (k : Nat) (h0 : 0 < k)
    (h63 : n + k ≤ maxLen) (hbytes : (n + k) * bytes ≤ 140737488355328) (hbase : base ≤ w.heap.size) :
    ∃ v' w', (Builtin.append_ #[t, tn] ty #[v, .int .i64 (k : Int)]).run P w = .ok v' w' ∧ w'.ownsRow base e 1 v' (n + k) (xs ++ List.replicate k z) ∧ w.grownBy w' v.ownBlock := by
  subst hby
  have hsmall : n + k ≤ 9223372036854775807 := by simp only [maxLen] at h63; omega
  have hlx : xs.length = n := by have := hown.1; omega
  have hlen : (xs ++ List.replicate k z).length = (n + k) * 1 := by rw [List.length_append, hlx, List.length_replicate]; omega
  have hw : IntKind.i64.wrap (k : Int) = k := by rw [IntKind.wrap_i64]; omega
  have hneg : ¬ ((k : Int) < 0) := by omega
  have hk0 : k ≠ 0 := by omega
  have hkb : k * i.bytes ≤ (n + k) * i.bytes := Nat.mul_le_mul_right _ (by omega)
  have h48i : ¬ (281474976710656 < (k : Int) * (i.bytes : Int)) := by
    rw [← Int.natCast_mul]; omega
  have grown : ∀ (old : Nat), old < n + k → ∀ (row : Option Nat),
      (w.drew.alloc (.cells (xs.toArray ++ (List.replicate k z).toArray ++ Builtin.zeroCells z.cells (grownCap w (n + k) old e - (n + k))) e)).ownsRow base e 1
        (.slice (some ⟨w.heap.size, 0, none⟩) (n + k) (grownCap w (n + k) old e)) (n + k) (xs ++ List.replicate k z) ∧
      w.grownBy (w.drew.alloc (.cells (xs.toArray ++ (List.replicate k z).toArray ++ Builtin.zeroCells z.cells (grownCap w (n + k) old e - (n + k))) e)) row := by
    intro old ho row
    have hge := grownCap_ge w (n + k) old e
    have hcm : grownCap w (n + k) old e ≤ maxLen := grownCap_le_maxLen w (n + k) old e h63
    refine ⟨⟨hlen, .inr ⟨w.heap.size, _, _, rfl, hbase, heap_alloc_new w.drew _, hge, hcm, ?_, ?_⟩⟩, ⟨rfl, rfl, rfl, by simp, fun k hk _ => heap_alloc_old w.drew _ hk⟩⟩
    · simp only [Array.size_append, List.size_toArray, size_zeroCells, hzc, hlx, List.length_replicate]
      simp; omega
    · simp only [Array.toList_append, List.append_assoc]
      rw [← List.append_assoc, ← hlen]
      exact List.take_left
  rcases hown.2 with ⟨rfl, rfl⟩ | ⟨g, cap, cur, rfl, hbg, hg, hnc, hcm, hcs, htake⟩
  · have hx : xs = [] := List.eq_nil_of_length_eq_zero hlx
    subst hx
    have hr := Lib.run_append_nil_zeros (P := P) w t tn ty e i z .i64 kn ht htn hi hz k h0 (by omega) (by omega) (by have hb := hbytes; simp only [Nat.zero_add] at hb; omega)
    have hgr := grown 0 (by omega) (Value.ownBlock (.slice none 0 0))
    simp only [Nat.zero_add, List.nil_append, Array.empty_append] at hgr ⊢
    rw [hzc, zero_cells1] at hr
    rw [hzc] at hgr
    exact ⟨_, _, hr, hgr.1, hgr.2⟩
  · by_cases hroom : n + k ≤ cap
    · have hfit : n * 1 + (List.replicate k z).length ≤ cur.size := by rw [List.length_replicate, hcs]; omega
      have hst := run_storeCells_at P g (n * 1) e (List.replicate k z) 0 cur w hg (by simpa using hfit) (fun u hu => by rw [List.eq_of_mem_replicate hu]; exact hz1)
      simp only [Nat.add_zero] at hst
      have hr : (Builtin.append_ #[t, tn] ty #[.slice (some ⟨g, 0, none⟩) n cap, .int .i64 (k : Int)]).run P w =
          .ok (.slice (some ⟨g, 0, none⟩) (n + k) cap) (w.setRow g (cur.toList.take (n * 1) ++ List.replicate k z ++ cur.toList.drop (n * 1 + (List.replicate k z).length)).toArray) := by
        simp [Builtin.append_, run_underlying ht, run_underlying htn, sizeOf, typeInfo, zeroValue, hi, hz, hzc, hsize, asInt, asIntOf, hw, hneg, hk0, h48i, zero_cells1, hroom, Addr.add_lit] at hst ⊢
        simp [hst]
      refine ⟨_, _, hr, ⟨hlen, .inr ⟨g, cap, _, rfl, hbg, setRow_heap w g cur _ e _ hg, hroom, hcm, ?_, ?_⟩⟩, ⟨rfl, rfl, rfl, by simp, fun k _ hk => setRow_other w g k _ (fun e => hk (by simp [Value.ownBlock, e]))⟩⟩
      · simp only [List.size_toArray, List.length_append, List.length_take, List.length_drop, Array.length_toList, List.length_replicate]
        omega
      · rw [htake, ← hlen]
        exact List.take_left
    · have holds : ∀ j u, xs[j]? = some u → w.cell? ((⟨g, 0, none⟩ : Addr).add j) = some u := hown.cells (g := g) rfl
      have hfo := run_firstCells_some (P := P) w.drew 1 n ⟨g, 0, none⟩ n cap xs hown.1 (by simpa using holds)
      have h63' : ¬ (9223372036854775807 < ((n : Int) + (k : Int))) := by omega
      have hfit := growslice_fits (need := n + k) (old := cap) (by omega) hbytes
      have h48' : ¬ (281474976710656 < Builtin.nextslicecap (n + k) cap * i.bytes) := by omega
      have hr : (Builtin.append_ #[t, tn] ty #[.slice (some ⟨g, 0, none⟩) n cap, .int .i64 (k : Int)]).run P w =
          .ok (.slice (some ⟨w.heap.size, 0, none⟩) (n + k) (grownCap w (n + k) cap e)) (w.drew.alloc (.cells (xs.toArray ++ (List.replicate k z).toArray ++ Builtin.zeroCells z.cells (grownCap w (n + k) cap e - (n + k))) e)) := by
        simp [Builtin.append_, run_underlying ht, run_underlying htn, sizeOf, typeInfo, zeroValue, hi, hz, hzc, hsize, asInt, asIntOf, hw, hneg, hk0, h48i, zero_cells1, hroom, h63', h48', Question.forced, hfo, newRow, grownCap]
      have hgr := grown cap (by omega) (Value.ownBlock (.slice (some ⟨g, 0, none⟩) n cap))
      exact ⟨_, _, hr, hgr.1, hgr.2⟩
end

set_option maxRecDepth 100000 in
/-- append(a[:], b[:]...) of two nodes: a new row. -/
theorem app_nodes {w : World} {g1 g2 : Nat} {t1 t2 : TypeId} {f h : Nat → UInt8} (h1 : Arr w g1 t1 32 (bys f)) (h2 : Arr w g2 t2 32 (bys h)) (ty : TypeId) :
    ∃ A c w', (Builtin.append_ #[22, 22] ty #[.slice (some ⟨g1, 0, none⟩) 32 32, .slice (some ⟨g2, 0, none⟩) 32 32]).run Tryz.prog w = .ok (.slice (some A) 64 c) w' ∧
      Lies w' w'.heap.size 1 (some A) 64 (u8s (nodeL f ++ nodeL h)) ∧ Below w.heap.size w w' := by
  obtain ⟨i0, hi, hz0, hz1, hz2⟩ := info_parts u8_info
  have hr := run_append_grow (P := Tryz.prog) w 22 ty 5 i0 (.int .u8 0) Tryz.underlying22 hi hz0 ⟨g1, 0, none⟩ 32 32 (u8s (nodeL f)) (by rw [hz1]; exact node_len f) (node_src h1) ⟨g2, 0, none⟩ 32 32 (u8s (nodeL h)) (by rw [hz1]; exact node_len h) (node_src h2) (by decide) (by decide) (by rw [hz2]; decide)
  refine ⟨_, _, _, hr, ?_, (below_drewN (Below.refl _ _) 1).alloc (Nat.le_refl _) _⟩
  refine Lies.wide (lies_pre w.drew _ _ 64 _ (fun j hj => ?_) (by rw [u8s_length, List.length_append, nodeL_length, nodeL_length])) (by simp)
  have hj2 : j < ((u8s (nodeL f)).toArray ++ (u8s (nodeL h)).toArray).size := by simpa [u8s] using hj
  rw [Array.getElem?_append_left hj2]
  rw [Array.getElem?_eq_getElem hj2]
  simp [u8s]
/-- What a region knows whose result lies in block r: all else is as it was in V. -/
structure SR (V : World) (r : Nat) (Y : World) : Prop where
  save : Save r V Y
  res : ∃ f, Arr Y r 30 32 (bys f)
  lt : r < V.heap.size
section
variable {V Y Z w : World} {r g n : Nat} {t : TypeId} {f : Nat → Value}
set_option maxRecDepth 100000 in
theorem SR.start {h : Nat → UInt8} (ha : Arr V r 30 32 (bys h)) : SR V r V := ⟨Save.refl _ _, ⟨h, ha⟩, ha.lt⟩
set_option maxRecDepth 100000 in
theorem below_drew (V : World) : Below V.heap.size V V.drew := ⟨rfl, rfl, rfl, Nat.le_refl _, fun _ _ => rfl⟩
set_option maxRecDepth 100000 in
theorem SR.keep (h : SR V r Y) (hd : Below Y.heap.size Y Z) : SR V r Z := ⟨h.save.trans (Save.of_below hd), h.res.elim fun f hf => ⟨f, hf.under hd⟩, h.lt⟩
set_option maxRecDepth 100000 in
theorem SR.keepB (h : SR V r Y) (hd : Below V.heap.size Y Z) : SR V r Z :=
  ⟨⟨hd.os.trans h.save.os, hd.tape.trans h.save.tape, hd.output.trans h.save.output, Nat.le_trans h.save.size hd.size, fun k hk hkr => (hd.block k hk).trans (h.save.block k hk hkr)⟩, h.res.elim fun f hf => ⟨f, hf.below hd h.lt⟩, h.lt⟩
set_option maxRecDepth 100000 in
theorem SR.begin {h : Nat → UInt8} (ha : Arr V r 30 32 (bys h)) : SR V r V.drew := (SR.start ha).keep (below_drew V)
set_option maxRecDepth 100000 in
theorem SR.put (h : SR V r Y) (f : Nat → UInt8) : SR V r (Y.setRow r (vec 32 (bys f))) := ⟨h.save.setRow _, ⟨f, h.res.elim fun _ hf => hf.row _⟩, h.lt⟩
set_option maxRecDepth 100000 in
theorem SR.arr (h : SR V r Y) (ha : Arr V g t n f) (hg : g ≠ r) : Arr Y g t n f := ha.save h.save hg
set_option maxRecDepth 100000 in
theorem SR.blk {cs : Array Value} (h : SR V r Y) (ha : Blk V g t cs) (hg : g ≠ r) : Blk Y g t cs := ha.save h.save hg
set_option maxRecDepth 100000 in
theorem SR.tabs (h : SR V r Y) (hT : Tabs V) (h0 : r ≠ 1) (h1 : r ≠ 0) : Tabs Y := tabs_save hT h.save h0 h1
set_option maxRecDepth 100000 in
theorem SR.below (h : SR V r Y) (hV : Below w.heap.size w V) (hr : w.heap.size ≤ r) : Below w.heap.size w Y := hV.trans (h.save.below hr hV.size)
set_option maxRecDepth 100000 in
theorem SR.size (h : SR V r Y) : V.heap.size ≤ Y.heap.size := h.save.size
set_option maxRecDepth 100000 in
theorem SR.lies {B m : Nat} {A : Option Addr} {xs : List Value} (h : SR V r Y) (hl : Lies V B 1 A m xs) (hB : B ≤ r) : Lies Y Y.heap.size 1 A m xs :=
  (hl.same fun p hp => h.save.cell (by have := h.lt; omega) (by omega)).wide (by have := h.size; have := h.lt; omega)
end
set_option maxRecDepth 100000 in
/-- A result block is none of the two tables. -/
theorem tabs_far {w : World} (hT : Tabs w) {r : Nat} (hr : w.heap.size ≤ r) : r ≠ 1 ∧ r ≠ 0 := by
  have := tab_lt hT; omega
/-- A part that can be read. -/
def PartOk (W : World) (p : Part) : Prop := Lies W W.heap.size 1 p.1 p.2.2.length (u8s p.2.2) ∧ p.2.2.length ≤ p.2.1
set_option maxRecDepth 100000 in
theorem node_part {W : World} {g : Nat} {t : TypeId} {f : Nat → UInt8} (h : Arr W g t 32 (bys f)) : PartOk W (some ⟨g, 0, none⟩, 32, nodeL f) := ⟨node_lies h h.lt, by simp [nodeL_length]⟩
set_option maxRecDepth 100000 in
theorem parts2 {W : World} {a b : Part} (ha : PartOk W a) (hb : PartOk W b) : ∀ p ∈ [a, b], PartOk W p := by simp [ha, hb]
set_option maxRecDepth 100000 in
theorem parts3 {W : World} {a b c : Part} (ha : PartOk W a) (hb : PartOk W b) (hc : PartOk W c) : ∀ p ∈ [a, b, c], PartOk W p := by simp [ha, hb, hc]
set_option maxRecDepth 100000 in
theorem parts4 {W : World} {a b c d : Part} (ha : PartOk W a) (hb : PartOk W b) (hc : PartOk W c) (hd : PartOk W d) : ∀ p ∈ [a, b, c, d], PartOk W p := by simp [ha, hb, hc, hd]
set_option maxRecDepth 100000 in
/-- Keyed of a row of parts that was just built. -/
theorem keyed_new (n : Nat) (hn : n < 4294967296) (ps : List Part) {W : World} {cs : Array Value} (L : List UInt8) (m : Nat) (hcs : cs.toList = ps.map partV) (hL : wideL n ++ catAll ps = L) (hm : m = ps.length) (hp : ∀ p ∈ ps, PartOk W p) (hT : Tabs W)
    (hl : ps.length ≤ 1000) (htot : (catAll ps).length ≤ 1000000000) :
    Calls Tryz.prog 39 #[.int .u32 (n : Int), .slice (some ⟨W.heap.size, 0, none⟩) m m] (W.alloc (.cells cs 22)) fun e w' => e = .returned (.agg (vec 32 (bys (shaL L)))) ∧ Below W.heap.size W w' := by
  subst hm hL
  have hb : Below W.heap.size W (W.alloc (.cells cs 22)) := below_alloc1 _ _
  exact (keyed_any n hn ps _ ps.length _ (parts_of cs hcs hp) hl htot (tabs_below hT hb)).mono fun e w' ⟨he, hd⟩ => ⟨he, hb.trans (hd.mono hb.size)⟩

set_option maxRecDepth 100000 in
theorem wide_hid (n : Nat) : Hid (wideL n = zerosL 28 ++ numBytes 0 4 n) := Lib.hid rfl
set_option maxHeartbeats 1000000 in
set_option maxRecDepth 100000 in
theorem rkeyed_any (n : Nat) (hn : n < 4294967296) (b : List UInt8) (len : Nat) (hlen : len = b.length) (A : Option Addr) (c : Nat) (w : World) (hb : Lies w w.heap.size 1 A len (u8s b)) (hl : len ≤ 1000000000) :
    Calls Tryz.prog 49 #[.int .u32 (n : Int), .slice A len c] w fun e w' => e = .returned (.agg (vec 32 (bys (shaL (wideL n ++ b))))) ∧ Below w.heap.size w w' := by
  obtain ⟨i0, hi, hz0, hz1, hz2⟩ := info_parts u8_info
  have Hi := Lib.hid (And.intro hi (And.intro hz0 (And.intro hz1 hz2)))
  obtain ⟨W0, hW0⟩ : ∃ W0, W0 = w.alloc (.cells (vec 32 (bys zb)) 30) := ⟨_, rfl⟩
  have hR0 : Arr W0 w.heap.size 30 32 (bys zb) := by rw [hW0]; exact Arr.new w _ _ _
  have hB0 : Below w.heap.size w W0 := by rw [hW0]; exact (Below.refl _ _).alloc (Nat.le_refl _) _
  have hs0 : W0.heap.size = w.heap.size + 1 := by rw [hW0]; simp
  obtain ⟨W1, hW1⟩ : ∃ W1, W1 = W0.alloc (.cells (vec 28 bz) 5) := ⟨_, rfl⟩
  have hz : Lies W1 W1.heap.size 1 (some ⟨W0.heap.size, 0, none⟩) (zerosL 28).length (u8s (zerosL 28)) := by
    rw [hW1, show (zerosL 28).length = 28 by simp [zerosL]]; have := lies_zeros W0 28 5; exact this.wide (by simp)
  have hb1 : Below W0.heap.size W0 W1 := by rw [hW1]; exact (Below.refl _ _).alloc (Nat.le_refl _) _
  have hmk := make28 W0
  rw [← hW1] at hmk
  obtain ⟨f, hf⟩ : ∃ f, f = shaL (wideL n ++ b) := ⟨_, rfl⟩
  have HF := Lib.hid hf
  have hput := rp4 (zerosL 28) (wideL n) n (wide_hid n) (some ⟨W0.heap.size, 0, none⟩) 28 W1 hz (by simp [zerosL])
  rw [show (zerosL 28).length = 28 by simp [zerosL]] at hput
  have HPut := Lib.hid hput
  have HA := Lib.hid (And.intro hb (And.intro hlen (And.intro hl (And.intro hR0 (And.intro hB0 (And.intro hs0 hb1))))))
  have HW := Lib.hid hW0
  rw [← hf]
  clear hi hz0 hz1 hz2 hb hlen hl hR0 hB0 hs0 hW0 hW1 hz hb1 hf hput
  go_enter Tryz.func49, Tryz.ntmps49
  go_upto_region 1 with fail
  rw [← HW.out]
  clear HW
  obtain ⟨hi0, hz0, hz1, hz2⟩ := Hi.out
  go_wp2_with (first
    | (go_at_call 48
       refine HPut.out.mono ?_
       rintro e w1 ⟨v, rfl, hv1, hv2⟩
       rw [wideL_length] at hv1
       have H1 := Lib.hid (And.intro (owns_mono hv1 HA.out.2.2.2.2.2.2.size) (HA.out.2.2.2.2.2.2.trans (hv2.mono HA.out.2.2.2.2.2.2.size)))
       clear hv1 hv2)
    | (at_builtin
       refine wpList_app rfl (.tmp 8) (.tmp 9) 22 rfl W0.heap.size 5 i0 (.int .u8 0) 1 Tryz.underlying22 hi0 hz0 hz1 hz2 rfl _ _ _ rfl H1.out.1 w.heap.size _ _ _ (u8s b) rfl
         (HA.out.1.below (HA.out.2.2.2.2.1.trans (H1.out.2.mono HA.out.2.2.2.2.1.size))) (u8s_one _) (by have := HA.out.2.2.1; unfold maxLen; omega) (by have := HA.out.2.2.1; omega) H1.out.2.size ?_
       intro v' w3 h1 h2 h3
       have hbw : Below W0.heap.size W0 w3 := H1.out.2.grown h2 H1.out.2.size (fun k hk => (H1.out.1.lt k hk).1)
       rw [u8s_append] at h1
       obtain ⟨E3, c3, rfl, hl3⟩ := owns_form h1
       have hlw : (wideL n ++ b).length = 32 + len := by rw [List.length_append, wideL_length, HA.out.2.1]
       have hS := rsum_any (wideL n ++ b) E3 c3 w3 (by rw [hlw]; exact hl3) (by have := HA.out.2.2.1; omega)
       rw [hlw, ← HF.out] at hS
       have H3 := Lib.hid (And.intro hS hbw)
       clear h1 h2 h3 hl3 hbw hS hlw)
    | (go_at_call 72
       refine H3.out.1.mono ?_
       rintro e w4 ⟨rfl, hd⟩
       have H5 := Lib.hid (And.intro (HA.out.2.2.2.1.under (H3.out.2.trans (hd.mono H3.out.2.size))) (HA.out.2.2.2.2.1.trans ((H3.out.2.trans (hd.mono H3.out.2.size)).mono HA.out.2.2.2.2.1.size)))
       clear hd)
    | ((with_reducible show wpList _ _ _ (Oper.mk _ (.store _ _ _) _ _ _ _ :: _) _ _); refine wl_store rfl 30 _ _ rfl _ rfl _ rfl (run_store_arr H5.out.1 (bys f) info26 (bys_one _ _)) ?_))
  refine bodyPost_ret (results_cell1 rfl _ _ _ rfl (run_load_arr (H5.out.1.row _) Tryz.underlying30 rfl info26)) rfl ⟨rfl, ?_⟩
  exact below_row H5.out.2 (Nat.le_refl _) _
end Go.Proofs.YtfeiplaiekbdkaaGreatDoor
