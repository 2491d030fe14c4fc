/- frame: bounds, the lowest place in a stretch. -/
import Derived.Test.YtmhhckpdhjnmeaaStr
import Derived.Test.YtmhhckpdhjnmeaaAdd
namespace Go.Proofs.Ytmhhckpdhjnmeaa
open Go.RowKit

theorem results_ct {fn : Func} {p q : Tmp} {ty : TypeId} {P : Program} {w : World} (h : fn.results = #[.cell p ty, .tmp q]) (tmps : Array Value) (g : Nat) (v : Value)
    (ha : tmps.getD p undef = .pointer (some ⟨g, 0, none⟩)) (hl : (loadVar ty ⟨g, 0, none⟩).run P w = .ok v w) : (results fn tmps).run P w = .ok (.tuple #[v, tmps.getD q undef]) w := by
  have hp' : tmps[p]?.getD undef = .pointer (some ⟨g, 0, none⟩) := by simpa using ha
  simp [results, h, hp', asAddr, hl]
theorem infoSp : (Try.prog.info? 24).map (·.size) = some 2 := by kernel_rfl
theorem up_alu {n a : Nat} (hn : n < TT) (ha : 0 < a) : upIs n a = decide (alu n a < TT) ∧ (alu n a < TT → upN n a = alu n a) := by
  have h0 : ¬ a = 0 := by omega
  have hl := Nat.mod_lt n ha
  unfold upIs upN
  rw [if_neg h0, if_neg h0]
  by_cases h1 : n % a = 0
  · rw [if_pos h1, if_pos h1, alu_self ha h1, decide_eq_true hn]
    exact ⟨rfl, fun _ => rfl⟩
  · have e : alu n a = n + (a - n % a) := alu_eq ha (by
      have h2 := Nat.div_add_mod n a
      have h3 : n + (a - n % a) = a * (n / a + 1) := by rw [Nat.mul_add]; omega
      rw [h3]; exact Nat.mul_mod_right _ _) (by omega) (by omega)
    rw [if_neg h1, if_neg h1, e]
    have : two64 = TT := rfl
    rw [this]
    exact ⟨rfl, fun h => if_pos h⟩
theorem up_lt (n a : Nat) (hn : n < TT) : upN n a < TT := by
  have : two64 = TT := rfl
  unfold upN
  rw [this]
  split
  · decide
  · split
    · exact hn
    · split
      · assumption
      · decide
/-- All but the block of a result, a span, is as it was. -/
structure SRp (V : World) (r : Nat) (Y : World) : Prop where
  save : Save r V Y
  res : ∃ x y, Blk Y r 24 #[.int .u64 x, .int .u64 y]
  lt : r < V.heap.size
section
variable {V Y Z : World} {r g : Nat} {t : TypeId} {x y : Int}
theorem SRp.begin (h : Blk V r 24 #[.int .u64 x, .int .u64 y]) : SRp V r V.drew := ⟨(Save.refl _ _).drewN 1, ⟨x, y, h⟩, h.lt⟩
theorem SRp.keep (h : SRp V r Y) (hd : Below Y.heap.size Y Z) : SRp V r Z := ⟨h.save.trans (Save.of_below hd), h.res.elim fun x ⟨y, hf⟩ => ⟨x, y, hf.under hd⟩, h.lt⟩
theorem SRp.put (h : SRp V r Y) (a b : Nat) : SRp V r (Y.setRow r #[.int .u64 (a : Int), .int .u64 (b : Int)]) := ⟨h.save.setRow _, ⟨_, _, h.res.elim fun _ ⟨_, hf⟩ => hf.row _⟩, h.lt⟩
theorem SRp.blk {cs : Array Value} (h : SRp V r Y) (ha : Blk V g t cs) (hg : g ≠ r) : Blk Y g t cs := ha.save h.save hg
end
theorem within_fits {s1 s2 n a : Nat} (hg : good (s1, s2) = true) (hn : 0 < n) (ha : 0 < a) : within (alu s1 a, n) (s1, s2) = fitsIn n a (s1, s2) := by
  have hb := alu_bounds s1 ha
  have h1 := (good_iff _).1 hg
  simp only at h1
  unfold within fitsIn
  rw [hg, Bool.eq_iff_iff]
  simp only [good, Bool.and_eq_true, decide_eq_true_eq, Bool.true_and]
  omega
theorem fits_lt {s1 s2 n a : Nat} (hg : good (s1, s2) = true) (hn : 0 < n) (h : ¬ alu s1 a < TT) : fitsIn n a (s1, s2) = false := by
  have h1 := (good_iff _).1 hg
  unfold TT at h
  simp only at h1
  unfold fitsIn
  exact decide_eq_false (by simp only; omega)
set_option maxRecDepth 100000 in
set_option maxHeartbeats 4000000 in
theorem lowest_any (s1 s2 n a : Nat) (hs : fit (s1, s2)) (hg : good (s1, s2) = true) (hn : 0 < n) (hnl : n < TT) (ha : 0 < a) (hal : a < TT) (w : World) :
    Calls Try.prog 38 #[.agg #[.int .u64 (s1 : Int), .int .u64 (s2 : Int)], .int .u64 (n : Int), .int .u64 (a : Int)] w fun e w' =>
      ∃ t : Nat, e = .returned (.tuple #[.agg #[.int .u64 (t : Int), .int .u64 (n : Int)], .bool (fitsIn n a (s1, s2))]) ∧ t < TT ∧ (fitsIn n a (s1, s2) = true → t = alu s1 a) ∧ Below w.heap.size w w' := by
  obtain ⟨t, ht⟩ : ∃ t, t = upN s1 a := ⟨_, rfl⟩
  have hu := up_alu (n := s1) hs.1 ha
  have htl : t < TT := by rw [ht]; exact up_lt s1 a hs.1
  obtain ⟨z, hz⟩ : ∃ z, z = upIs s1 a := ⟨_, rfl⟩
  obtain ⟨f, hf⟩ : ∃ f, f = fitsIn n a (s1, s2) := ⟨_, rfl⟩
  have HU := Lib.hid (up_any s1 a hs.1 hal)
  rw [← ht, ← hz] at HU
  have HW := Lib.hid (within_any t n s1 s2 ⟨htl, hnl⟩ hs)
  rw [← hz, ← ht] at hu
  rw [← hf]
  have hwf : z = true → within (t, n) (s1, s2) = f ∧ t = alu s1 a := fun hzt => by
    have h1 : alu s1 a < TT := of_decide_eq_true (hu.1.symm.trans hzt)
    rw [hu.2 h1, hf]
    exact ⟨within_fits hg hn ha, rfl⟩
  have hnf : z = false → f = false := fun hzf => by
    rw [hf]
    exact fits_lt hg hn (of_decide_eq_false (hu.1.symm.trans hzf))
  have HN := Lib.hid (And.intro htl (And.intro hwf hnf))
  clear hs hg hn hnl ha hal ht hu htl hz hf hwf hnf
  go_enter Try.func38, Try.ntmps38
  go_upto_region 3 with (go_at_call 34; refine (HU.out _).mono ?_; rintro e w1 ⟨rfl, hd⟩; have H1 := Lib.hid hd; clear hd)
  obtain ⟨V, hV⟩ : ∃ V, V = w1.alloc (spo t n) := ⟨_, rfl⟩
  have hs1 := H1.out.size
  simp only [World.size_alloc] at hs1
  have hb0 : Blk w1 w.heap.size 24 #[.int .u64 (s1 : Int), .int .u64 (s2 : Int)] := ((Blk.new w _ _ rfl).alloc _).under H1.out
  have hr0 : Blk w1 (w.heap.size + 1) 24 #[.int .u64 0, .int .u64 0] := (Blk.new _ _ _ (by simp)).under H1.out
  have HB0 : Hid (Blk V w.heap.size 24 #[.int .u64 (s1 : Int), .int .u64 (s2 : Int)]) := Lib.hid (by rw [hV]; exact hb0.alloc _)
  have HRR : Hid (Blk V (w.heap.size + 1) 24 #[.int .u64 0, .int .u64 0]) := Lib.hid (by rw [hV]; exact hr0.alloc _)
  have HB2 : Hid (Blk V w1.heap.size 24 #[.int .u64 (t : Int), .int .u64 (n : Int)]) := Lib.hid (by rw [hV]; exact Blk.new _ _ _ rfl)
  have HBW : Hid (Below w.heap.size w V) := Lib.hid (by
    have h1 : Below w.heap.size w w1 := (Laid.below ⟨[_, _], rfl⟩ : Below w.heap.size w ((w.alloc (spo s1 s2)).alloc (spo 0 0))).trans (H1.out.mono (by simp; omega))
    rw [hV]; exact h1.alloc h1.size _)
  rw [← hV]
  clear hV hb0 hr0 H1
  cases z with
  | true =>
    have HT2 := Lib.hid (HN.out.2.1 rfl).2
    rw [(HN.out.2.1 rfl).1] at HW
    have HTL := Lib.hid HN.out.1
    clear HN
    refine wp_region_held_drew (S := fun Y => SRp V (w.heap.size + 1) Y) (by kernel_rfl) (SRp.begin HRR.out) (fun hS => ?_)
    (refine held_take (i := 0) (oi := ?ot1) (v := ?vt1) ?at1 (by kernel_rfl) (by kernel_rfl) (by kernel_rfl) ?bt1 ?ct1 ?dt1 (by assumption) ?rt1; (case at1 => (simp only [List.getElem?_toArray, List.getElem?_cons_zero]; rfl)); (case bt1 => exact fun _ _ _ h => h); (case ct1 => kernel_rfl); (case dt1 => (intro W hW; have b0 := hW.blk HB2.out (by omega); have c0 := b0.cellAt 0 rfl; have c1 := b0.cellAt 1 rfl; clear b0 hW; go_simp; (try with_reducible rfl))); (case' rt1 => simp only [Act.put, List.setIfInBounds_toArray, List.set_cons_zero, List.set_cons_succ]))
    (refine held_take (i := 1) (oi := ?ot2) (v := ?vt2) ?at2 (by kernel_rfl) (by kernel_rfl) (by kernel_rfl) ?bt2 ?ct2 ?dt2 (by assumption) ?rt2; (case at2 => (simp only [List.getElem?_toArray, List.getElem?_cons_zero, List.getElem?_cons_succ]; rfl)); (case bt2 => exact fun _ _ _ h => h); (case ct2 => kernel_rfl); (case dt2 => (intro W hW; (try dsimp only at hW); go_split_ands; go_simp; (try with_reducible rfl))); (case' rt2 => simp only [Act.put, List.setIfInBounds_toArray, List.set_cons_zero, List.set_cons_succ]))
    (refine held_take (i := 2) (oi := ?ot3) (v := ?vt3) ?at3 (by kernel_rfl) (by kernel_rfl) (by kernel_rfl) ?bt3 ?ct3 ?dt3 (by assumption) ?rt3; (case at3 => (simp only [List.getElem?_toArray, List.getElem?_cons_zero, List.getElem?_cons_succ]; rfl)); (case bt3 => exact fun _ _ _ h => h); (case ct3 => kernel_rfl); (case dt3 => (intro W hW; (try dsimp only at hW); go_split_ands; go_simp; (try with_reducible rfl))); (case' rt3 => simp only [Act.put, List.setIfInBounds_toArray, List.set_cons_zero, List.set_cons_succ]))
    (refine held_take (i := 3) (oi := ?ot4) (v := ?vt4) ?at4 (by kernel_rfl) (by kernel_rfl) (by kernel_rfl) ?bt4 ?ct4 ?dt4 (by assumption) ?rt4; (case at4 => (simp only [List.getElem?_toArray, List.getElem?_cons_zero, List.getElem?_cons_succ]; rfl)); (case bt4 => exact fun _ _ _ h => h); (case ct4 => kernel_rfl); (case dt4 => (intro W hW; have b0 := hW.blk HB2.out (by omega); have c0 := b0.cellAt 0 rfl; have c1 := b0.cellAt 1 rfl; clear b0 hW; go_simp; (try with_reducible rfl))); (case' rt4 => simp only [Act.put, List.setIfInBounds_toArray, List.set_cons_zero, List.set_cons_succ]))
    (refine held_take (i := 4) (oi := ?ot5) (v := ?vt5) ?at5 (by kernel_rfl) (by kernel_rfl) (by kernel_rfl) ?bt5 ?ct5 ?dt5 (by assumption) ?rt5; (case at5 => (simp only [List.getElem?_toArray, List.getElem?_cons_zero, List.getElem?_cons_succ]; rfl)); (case bt5 => exact fun _ _ _ h => h); (case ct5 => kernel_rfl); (case dt5 => (intro W hW; have b0 := hW.blk HB0.out (by omega); have c0 := b0.cellAt 0 rfl; have c1 := b0.cellAt 1 rfl; clear b0 hW; go_simp; (try with_reducible rfl))); (case' rt5 => simp only [Act.put, List.setIfInBounds_toArray, List.set_cons_zero, List.set_cons_succ]))
    refine held_one (i := 5) (oi := ?ot6) (by kernel_rfl) ?at6 ?ct6 (fun K5 hK5 => ?_)
    (case at6 => (simp only [List.getElem?_toArray, List.getElem?_cons_zero, List.getElem?_cons_succ]; rfl))
    (case ct6 => kernel_rfl)
    have hSb := hS
    go_simp
    refine (HW.out _).mono ?_
    rintro e y5 ⟨rfl, hd⟩
    refine hK5 _ _ (hSb.keep hd) (fun hS5 => ?_)
    clear hS hSb hd hK5 K5
    (refine held_take (i := 6) (oi := ?ot7) (v := ?vt7) ?at7 (by kernel_rfl) (by kernel_rfl) (by kernel_rfl) ?bt7 ?ct7 ?dt7 (by assumption) ?rt7; (case at7 => (simp only [List.getElem?_toArray, List.getElem?_cons_zero, List.getElem?_cons_succ]; rfl)); (case bt7 => exact fun _ _ _ h => h); (case ct7 => kernel_rfl); (case dt7 => (intro W hW; (try dsimp only at hW); go_split_ands; go_simp; (try with_reducible rfl))); (case' rt7 => simp only [Act.put, List.setIfInBounds_toArray, List.set_cons_zero, List.set_cons_succ]))
    refine held_one (i := 7) (oi := ?ot8) (by kernel_rfl) ?at8 ?ct8 (fun K7 hK7 => ?_)
    (case at8 => (simp only [List.getElem?_toArray, List.getElem?_cons_zero, List.getElem?_cons_succ]; rfl))
    (case ct8 => kernel_rfl)
    obtain ⟨x0, y0, hf0⟩ := hS5.res
    refine ow_store 24 _ _ rfl _ rfl _ rfl (Blk.store hf0 #[.int .u64 (t : Int), .int .u64 (n : Int)] rfl infoSp rfl) ?_
    refine hK7 _ _ (hS5.put t n) (fun hS7 => ?_)
    clear hK7 K7
    (refine held_take (i := 8) (oi := ?ot9) (v := ?vt9) ?at9 (by kernel_rfl) (by kernel_rfl) (by kernel_rfl) ?bt9 ?ct9 ?dt9 (by assumption) ?rt9; (case at9 => (simp only [List.getElem?_toArray, List.getElem?_cons_zero, List.getElem?_cons_succ]; rfl)); (case bt9 => exact fun _ _ _ h => h); (case ct9 => kernel_rfl); (case dt9 => (intro W hW; (try dsimp only at hW); go_split_ands; go_simp; (try with_reducible rfl))); (case' rt9 => simp only [Act.put, List.setIfInBounds_toArray, List.set_cons_zero, List.set_cons_succ]))
    refine wpAnyH_done (by kernel_rfl) ?_ _
    go_wp2_with fail
    refine bodyPost_ret (results_ct rfl _ _ _ rfl (Blk.load (Blk.row hf0 _) Try.underlying24 rfl infoSp)) rfl ?_
    first | exact ⟨t, rfl, HTL.out, fun _ => HT2.out, HBW.out.trans (hS7.save.below (by omega) HBW.out.size)⟩ | exact ⟨t, rfl, HTL.out, HT2.out, HBW.out.trans (hS7.save.below (by omega) HBW.out.size)⟩
  | false =>
    obtain rfl := HN.out.2.2 rfl
    have HTL := Lib.hid HN.out.1
    clear HN
    refine wp_region_held_drew (S := fun Y => SRp V (w.heap.size + 1) Y) (by kernel_rfl) (SRp.begin HRR.out) (fun hS => ?_)
    (refine held_take (i := 0) (oi := ?ot10) (v := ?vt10) ?at10 (by kernel_rfl) (by kernel_rfl) (by kernel_rfl) ?bt10 ?ct10 ?dt10 (by assumption) ?rt10; (case at10 => (simp only [List.getElem?_toArray, List.getElem?_cons_zero]; rfl)); (case bt10 => exact fun _ _ _ h => h); (case ct10 => kernel_rfl); (case dt10 => (intro W hW; have b0 := hW.blk HB2.out (by omega); have c0 := b0.cellAt 0 rfl; have c1 := b0.cellAt 1 rfl; clear b0 hW; go_simp; (try with_reducible rfl))); (case' rt10 => simp only [Act.put, List.setIfInBounds_toArray, List.set_cons_zero, List.set_cons_succ]))
    (refine held_take (i := 1) (oi := ?ot11) (v := ?vt11) ?at11 (by kernel_rfl) (by kernel_rfl) (by kernel_rfl) ?bt11 ?ct11 ?dt11 (by assumption) ?rt11; (case at11 => (simp only [List.getElem?_toArray, List.getElem?_cons_zero, List.getElem?_cons_succ]; rfl)); (case bt11 => exact fun _ _ _ h => h); (case ct11 => kernel_rfl); (case dt11 => (intro W hW; (try dsimp only at hW); go_split_ands; go_simp; (try with_reducible rfl))); (case' rt11 => simp only [Act.put, List.setIfInBounds_toArray, List.set_cons_zero, List.set_cons_succ]))
    (refine held_take (i := 2) (oi := ?ot12) (v := ?vt12) ?at12 (by kernel_rfl) (by kernel_rfl) (by kernel_rfl) ?bt12 ?ct12 ?dt12 (by assumption) ?rt12; (case at12 => (simp only [List.getElem?_toArray, List.getElem?_cons_zero, List.getElem?_cons_succ]; rfl)); (case bt12 => exact fun _ _ _ h => h); (case ct12 => kernel_rfl); (case dt12 => (intro W hW; (try dsimp only at hW); go_split_ands; go_simp; (try with_reducible rfl))); (case' rt12 => simp only [Act.put, List.setIfInBounds_toArray, List.set_cons_zero, List.set_cons_succ]))
    (refine held_skip (i := 3) (oi := ?ot13) ?at13 (by kernel_rfl) (by kernel_rfl) (by kernel_rfl) ?bt13 ?ct13 (by assumption) ?rt13; (case at13 => (simp only [List.getElem?_toArray, List.getElem?_cons_zero, List.getElem?_cons_succ]; rfl)); (case bt13 => exact fun _ _ _ h => h); (case ct13 => kernel_rfl); (case' rt13 => simp only [Act.put, List.setIfInBounds_toArray, List.set_cons_zero, List.set_cons_succ]))
    (refine held_skip (i := 4) (oi := ?ot14) ?at14 (by kernel_rfl) (by kernel_rfl) (by kernel_rfl) ?bt14 ?ct14 (by assumption) ?rt14; (case at14 => (simp only [List.getElem?_toArray, List.getElem?_cons_zero, List.getElem?_cons_succ]; rfl)); (case bt14 => exact fun _ _ _ h => h); (case ct14 => kernel_rfl); (case' rt14 => simp only [Act.put, List.setIfInBounds_toArray, List.set_cons_zero, List.set_cons_succ]))
    (refine held_skip (i := 5) (oi := ?ot15) ?at15 (by kernel_rfl) (by kernel_rfl) (by kernel_rfl) ?bt15 ?ct15 (by assumption) ?rt15; (case at15 => (simp only [List.getElem?_toArray, List.getElem?_cons_zero, List.getElem?_cons_succ]; rfl)); (case bt15 => exact fun _ _ _ h => h); (case ct15 => kernel_rfl); (case' rt15 => simp only [Act.put, List.setIfInBounds_toArray, List.set_cons_zero, List.set_cons_succ]))
    (refine held_take (i := 6) (oi := ?ot16) (v := ?vt16) ?at16 (by kernel_rfl) (by kernel_rfl) (by kernel_rfl) ?bt16 ?ct16 ?dt16 (by assumption) ?rt16; (case at16 => (simp only [List.getElem?_toArray, List.getElem?_cons_zero, List.getElem?_cons_succ]; rfl)); (case bt16 => exact fun _ _ _ h => h); (case ct16 => kernel_rfl); (case dt16 => (intro W hW; (try dsimp only at hW); go_split_ands; go_simp; (try with_reducible rfl))); (case' rt16 => simp only [Act.put, List.setIfInBounds_toArray, List.set_cons_zero, List.set_cons_succ]))
    refine held_one (i := 7) (oi := ?ot17) (by kernel_rfl) ?at17 ?ct17 (fun K7 hK7 => ?_)
    (case at17 => (simp only [List.getElem?_toArray, List.getElem?_cons_zero, List.getElem?_cons_succ]; rfl))
    (case ct17 => kernel_rfl)
    obtain ⟨x0, y0, hf0⟩ := hS.res
    refine ow_store 24 _ _ rfl _ rfl _ rfl (Blk.store hf0 #[.int .u64 (t : Int), .int .u64 (n : Int)] rfl infoSp rfl) ?_
    refine hK7 _ _ (hS.put t n) (fun hS7 => ?_)
    clear hK7 K7
    (refine held_take (i := 8) (oi := ?ot18) (v := ?vt18) ?at18 (by kernel_rfl) (by kernel_rfl) (by kernel_rfl) ?bt18 ?ct18 ?dt18 (by assumption) ?rt18; (case at18 => (simp only [List.getElem?_toArray, List.getElem?_cons_zero, List.getElem?_cons_succ]; rfl)); (case bt18 => exact fun _ _ _ h => h); (case ct18 => kernel_rfl); (case dt18 => (intro W hW; (try dsimp only at hW); go_split_ands; go_simp; (try with_reducible rfl))); (case' rt18 => simp only [Act.put, List.setIfInBounds_toArray, List.set_cons_zero, List.set_cons_succ]))
    refine wpAnyH_done (by kernel_rfl) ?_ _
    go_wp2_with fail
    refine bodyPost_ret (results_ct rfl _ _ _ rfl (Blk.load (Blk.row hf0 _) Try.underlying24 rfl infoSp)) rfl ?_
    first | exact ⟨t, rfl, HTL.out, fun h => (by cases h), HBW.out.trans (hS7.save.below (by omega) HBW.out.size)⟩ | exact ⟨t, rfl, HTL.out, HBW.out.trans (hS7.save.below (by omega) HBW.out.size)⟩
end Go.Proofs.Ytmhhckpdhjnmeaa
