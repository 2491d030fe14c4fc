/- mach.pages.blank: what a span has of a page becomes 0. -/
import Derived.Test.YtbemphfijkcbhaaLay9
import Derived.Test.YtbemphfijkcbhaaWithin9
namespace Go.Proofs.Ytbemphfijkcbhaa
open Go.RowKit Go.Maps

theorem zeroCells8 (n : Nat) : (Builtin.zeroCells (#[.int .u8 0] : Array Value) n).toList = (List.range n).map fun _ => Value.int .u8 0 := by
  unfold Builtin.zeroCells
  apply List.ext_getElem?
  intro i
  simp only [List.size_toArray, List.length_cons, List.length_nil, Nat.zero_add, Nat.mul_one, Array.toList_map, Array.toList_range, List.getElem?_map]
  by_cases h : i < n
  · simp [List.getElem?_range h, Nat.mod_one]
  · simp [List.getElem?_eq_none (l := List.range n) (i := i) (by simpa using h)]
theorem run_clear_page {w : World} {g f n c : Nat} {t : TypeId} {h : Nat → Value} (hA : Arr w g t 4096 h) (hf : f + n ≤ 4096) (ty : TypeId) :
    (Builtin.clear_ #[41] ty #[.slice (some ⟨g, f, none⟩) n c]).run Try.prog w = .ok (.tuple #[]) (w.setRow g (vec 4096 (spl f n (bys fun _ => 0) h))) := by
  rcases Nat.eq_zero_or_pos n with rfl | hn
  · have e : vec 4096 (spl f 0 (bys fun _ => 0) h) = vec 4096 h := vec_congr fun i _ => by unfold spl; rw [if_neg (by omega)]
    have e2 : w.setRow g (vec 4096 h) = w := by
      unfold Arr at hA
      exact setRow_self w g _ t (0, 0) hA
    rw [e, e2]
    simp [Builtin.clear_, run_underlying Try.underlying41, Result.andThen]
  · have hst := run_storeCells_at Try.prog g f t ((List.range n).map fun _ => Value.int .u8 0) 0 (vec 4096 h) w hA (by rw [vec_size]; simp; omega) (by
      intro v hv
      simp at hv
      rw [← hv.2]; rfl)
    have e := vec_spl 4096 f n (bys fun _ => 0) h hf
    simp only [Nat.add_zero, List.length_map, List.length_range] at hst
    have e3 : ((List.range n).map fun _ => Value.int .u8 0) = (List.range n).map (bys fun _ => 0) := List.map_congr_left fun i _ => rfl
    rw [e3] at hst
    rw [e] at hst
    have hz : (zeroValue 5).run Try.prog w = .ok (.int .u8 0) w := by kernel_rfl
    have hc : (Value.int .u8 0).cells = #[.int .u8 0] := rfl
    rw [← zeroCells8] at e3
    have hn2 : n ≠ 0 := by omega
    obtain ⟨k, rfl⟩ : ∃ k, n = k + 1 := ⟨n - 1, by omega⟩
    simp only [Builtin.clear_]
    simp [run_underlying Try.underlying41, hz, hc, e3, hst, Result.andThen]
/-- What blank does: some page is written, or none; then the page may be forgotten. -/
def Blanked (w w' : World) (G : Nat → Prop) (b n x : Nat) (D : DataW Unit) (m' : Bytes8) : Prop :=
  ∃ W D', Turn G w W ∧ W.heap[b]? = w.heap[b]? ∧ ((w' = W ∧ D' = D) ∨ (DelRun b x W w' ∧ D' = D.del (klit x))) ∧ Pg w' G b n D' m' noX ∧ Turn G w w'
theorem zrX_page (m : Bytes8) (a c x : Nat) (h : Touch (a, c) x) : ∀ i, i < 4096 → spl (wFrom x (a, c)) (wTo x (a, c) - wFrom x (a, c)) (bys fun _ => 0) (bys fun i => m (x + i)) i = bys (fun i => zrX m (a, c) x (x + i)) i := by
  intro i hi
  have h1 := within_iff h (x + i)
  have h2 := within_bounds h
  simp only at h1 h2
  unfold spl zrX bys
  dsimp only
  by_cases k : wFrom x (a, c) ≤ i ∧ i < wFrom x (a, c) + (wTo x (a, c) - wFrom x (a, c))
  · rw [if_pos k, if_pos (by omega)]
  · rw [if_neg k, if_neg (by omega)]
theorem zrX_none (m : Bytes8) (a c x : Nat) (hx4 : x % 4096 = 0) (h : ¬ Touch (a, c) x) : zrX m (a, c) x = m := by
  funext y
  unfold zrX
  rw [if_neg fun hh => h ⟨hx4, by simp only at hh ⊢; omega, by simp only at hh ⊢; omega, by simp only at hh ⊢; omega⟩]
theorem zrX_zero (m : Bytes8) (a c x : Nat) (hz : ∀ i, i < 4096 → m (x + i) = 0) : zrX m (a, c) x = m := by
  funext y
  unfold zrX
  split
  · rename_i h
    have := hz (y - x) (by omega)
    rw [show x + (y - x) = y by omega] at this
    exact this.symm
  · rfl
theorem blank_end {w : World} {G : Nat → Prop} {b n x g : Nat} {D : DataW Unit} {m : Bytes8} (hP : Pg w G b n D m noX) (hk : pm D x = some g) (a c : Nat) {W : World}
    (hW : (Touch (a, c) x ∧ W = w.setRow g (vec 4096 (spl (wFrom x (a, c)) (wTo x (a, c) - wFrom x (a, c)) (bys fun _ => 0) (bys fun i => m (x + i))))) ∨ (¬ Touch (a, c) x ∧ W = w)) :
    Calls Try.prog 78 #[.map (some b), .int .u64 (x : Int)] W fun e w' => e = .returned (.tuple #[]) ∧ Blanked w w' G b n x D (zrX m (a, c) x) := by
  obtain ⟨g1, g2, g3, g4, g5⟩ := hP.pg x g hk
  have hgb := hP.ne hk
  rcases hW with ⟨ht, hW⟩ | ⟨ht, rfl⟩
  · have hc : W = w.setRow g (vec 4096 (bys fun i => zrX m (a, c) x (x + i))) := by rw [hW, vec_congr (zrX_page m a c x ht)]
    have h2 : Pg W G b n D (zrX m (a, c) x) (fun j => j = x) := by
      rw [hc]
      exact (hP.store hk fun y hy => zrX_off m (a, c) x y hy).wide fun k hk => hk.elim (fun h => h.elim) id
    have hT : Turn G w W := by rw [hW]; exact (Turn.refl G w).setRow (Or.inl g1) _
    have hB : W.heap[b]? = w.heap[b]? := by rw [hW]; simp [World.setRow, Array.getElem?_modify, hgb]
    refine (settle_any h2 hk).mono ?_
    rintro e w' ⟨rfl, ⟨hn, rfl⟩ | ⟨hz, hd⟩⟩
    · exact ⟨rfl, w', D, hT, hB, Or.inl ⟨rfl, rfl⟩, h2.clean hn, hT⟩
    · obtain ⟨w2, hd2, ho, hm⟩ := del_run h2.own g3
      obtain rfl : w' = w2 := by
        unfold DelRun at hd hd2
        rw [hd] at hd2
        injection hd2
      exact ⟨rfl, W, _, hT, hB, Or.inr ⟨hd, rfl⟩, h2.del hz ho hm, hT.andThen (Turn.of_grown hm.grown fun r hr => by cases hr; exact h2.gb)⟩
  · rw [zrX_none m a c x g2 ht]
    refine (settle_any hP hk).mono ?_
    rintro e w' ⟨rfl, ⟨hn, rfl⟩ | ⟨hz, hd⟩⟩
    · exact ⟨rfl, w', D, Turn.refl _ _, rfl, Or.inl ⟨rfl, rfl⟩, hP, Turn.refl _ _⟩
    · obtain ⟨i, hi, hv⟩ := g5 id
      exact absurd (hz i hi) hv
theorem Blanked.from {w v w' : World} {G : Nat → Prop} {b n x : Nat} {D : DataW Unit} {m' : Bytes8} (h : Blanked v w' G b n x D m') (hb : b < w.heap.size) (hv : Below w.heap.size w v) : Blanked w w' G b n x D m' := by
  obtain ⟨W, D', h1, h2, h3, h4, h5⟩ := h
  exact ⟨W, D', (Turn.of_below hv).andThen h1, h2.trans (hv.block b hb), h3, h4, (Turn.of_below hv).andThen h5⟩
set_option maxRecDepth 100000 in
set_option maxHeartbeats 1000000 in
theorem blank_any {w : World} {G : Nat → Prop} {b n x : Nat} {D : DataW Unit} {m : Bytes8} (hP : Pg w G b n D m noX) (hx4 : x % 4096 = 0) (hx : x < 18446744073709551616) (a c : Nat) (hab : a + c ≤ 1099511627776) :
    Calls Try.prog 70 #[.map (some b), .int .u64 (x : Int), .agg #[.int .u64 (a : Int), .int .u64 (c : Int)]] w fun e w' => e = .returned (.tuple #[]) ∧ Blanked w w' G b n x D (zrX m (a, c) x) := by
  obtain ⟨w0, hw0⟩ : ∃ w0, w0 = w.alloc (spo a c) := ⟨_, rfl⟩
  have hb0 : Below w.heap.size w w0 := by rw [hw0]; exact Laid.below ⟨[_], rfl⟩
  have hbl := hP.lt b hP.gb
  cases hk : pm D x with
  | none =>
    have hlk := (hP.under hb0).look hx
    rw [hk] at hlk
    simp only [pval] at hlk
    have HL := Lib.hid hlk
    have HQ : Hid (Blanked w w0 G b n x D (zrX m (a, c) x)) := Lib.hid ⟨w0, D, Turn.of_below hb0, hb0.block b hbl, Or.inl ⟨rfl, rfl⟩, by rw [zrX_zero m a c x (hP.no x hx4 hk)]; exact hP.under hb0, Turn.of_below hb0⟩
    have HW0 := Lib.hid hw0
    clear hP hk hlk hb0 hbl hw0
    go_enter Try.func70, Try.ntmps70
    have hlk := HL.out
    rw [HW0.out] at hlk
    go_wp2
    go_end0
    exact ⟨rfl, by have := HQ.out; rw [HW0.out] at this; exact this⟩
  | some g =>
    have hlk := (hP.under hb0).look hx
    rw [hk] at hlk
    simp only [pval] at hlk
    have HL := Lib.hid hlk
    have HW0 := Lib.hid hw0
    have HWt := Lib.hid (within9_any x a c hx4 hab hx)
    by_cases ht : Touch (a, c) x
    · have hwb := within_bounds ht
      obtain ⟨f, hf⟩ : ∃ f, f = wFrom x (a, c) := ⟨_, rfl⟩
      obtain ⟨t, ht2⟩ : ∃ t, t = wTo x (a, c) := ⟨_, rfl⟩
      have HN : Hid (∀ v, Below w0.heap.size w0 v → (∀ ty, (Builtin.clear_ #[41] ty #[.slice (some ⟨g, f, none⟩) (t - f) (4096 - f)]).run Try.prog v = .ok (.tuple #[]) (v.setRow g (vec 4096 (spl f (t - f) (bys fun _ => 0) (bys fun i => m (x + i)))))) ∧
          Calls Try.prog 78 #[.map (some b), .int .u64 (x : Int)] (v.setRow g (vec 4096 (spl f (t - f) (bys fun _ => 0) (bys fun i => m (x + i))))) fun e w' => e = .returned (.tuple #[]) ∧ Blanked w w' G b n x D (zrX m (a, c) x)) := Lib.hid fun v hv => by
        have hbv : Below w.heap.size w v := hb0.trans (hv.mono hb0.size)
        have hp := hP.under hbv
        refine ⟨fun ty => run_clear_page (hp.pg x g hk).2.2.2.1 (by rw [hf, ht2]; omega) ty, ?_⟩
        refine (blank_end hp hk a c (Or.inl ⟨ht, by rw [hf, ht2]⟩)).mono fun e w' ⟨h1, h2⟩ => ⟨h1, h2.from hbl hbv⟩
      have HS := Lib.hid (page_cut f t (by rw [hf, ht2]; omega) (by rw [ht2]; omega) (by rw [hf]; omega) g)
      rw [if_pos ht, if_pos ht, ← hf, ← ht2] at HWt
      clear hP hk hlk hb0 hbl hw0 ht hwb hf ht2
      go_enter Try.func70, Try.ntmps70
      have hlk := HL.out
      have hsl := HS.out
      rw [HW0.out] at hlk
      go_wp2_with (first
        | (go_at_call 66; refine (HWt.out _).mono ?_; rintro e w1 ⟨rfl, hd⟩; have h9 := HN.out w1 (by rw [HW0.out]; exact hd); have hcl := h9.1; have HE := Lib.hid h9.2; clear hd h9 hlk)
        | (go_at_call 78; refine HE.out.mono ?_; rintro e w2 ⟨rfl, hq⟩; have HQ := Lib.hid hq; clear hq))
      go_end0
      exact ⟨rfl, HQ.out⟩
    · have HN : Hid (∀ v, Below w0.heap.size w0 v → (∀ ty, (Builtin.clear_ #[41] ty #[.slice (some ⟨g, 0, none⟩) 0 4096]).run Try.prog v = .ok (.tuple #[]) v) ∧
          Calls Try.prog 78 #[.map (some b), .int .u64 (x : Int)] v fun e w' => e = .returned (.tuple #[]) ∧ Blanked w w' G b n x D (zrX m (a, c) x)) := Lib.hid fun v hv => by
        have hbv : Below w.heap.size w v := hb0.trans (hv.mono hb0.size)
        have hp := hP.under hbv
        refine ⟨fun ty => by simp [Builtin.clear_, run_underlying Try.underlying41, Result.andThen], ?_⟩
        refine (blank_end hp hk a c (Or.inr ⟨ht, rfl⟩)).mono fun e w' ⟨h1, h2⟩ => ⟨h1, h2.from hbl hbv⟩
      have HS := Lib.hid (page_cut 0 0 (Nat.le_refl _) (by decide) (by decide) g)
      rw [if_neg ht, if_neg ht] at HWt
      clear hP hk hlk hb0 hbl hw0 ht
      go_enter Try.func70, Try.ntmps70
      have hlk := HL.out
      have hsl := HS.out
      rw [HW0.out] at hlk
      go_wp2_with (first
        | (go_at_call 66; refine (HWt.out _).mono ?_; rintro e w1 ⟨rfl, hd⟩; have h9 := HN.out w1 (by rw [HW0.out]; exact hd); have hcl := h9.1; have HE := Lib.hid h9.2; clear hd h9 hlk)
        | (go_at_call 78; refine HE.out.mono ?_; rintro e w2 ⟨rfl, hq⟩; have HQ := Lib.hid hq; clear hq))
      go_end0
      exact ⟨rfl, HQ.out⟩
end Go.Proofs.Ytbemphfijkcbhaa
