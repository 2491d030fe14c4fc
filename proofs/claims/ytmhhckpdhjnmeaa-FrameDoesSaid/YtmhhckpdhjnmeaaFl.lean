/- frame.Pool: Left, Used, Has. -/
import Derived.Test.YtmhhckpdhjnmeaaFo
import Derived.Test.YtmhhckpdhjnmeaaTail
namespace Go.Proofs.Ytmhhckpdhjnmeaa
open Go.RowKit Go.Shelf
attribute [local go_sem] Oper.semAt_some

def sumP (L : List Sp) (pre : List (Fin L.length)) : Nat := (pre.map fun y => L[y.1].2).sum
theorem sumP_snoc (L : List Sp) (pre : List (Fin L.length)) (x : Fin L.length) : sumP L (pre ++ [x]) = sumP L pre + L[x.1].2 := by simp [sumP]
theorem sumP_nss (L : List Sp) : ∀ {k : Nat}, k ≤ L.length → sumP L (nss L k) = bytes (L.take k)
  | 0, _ => rfl
  | k + 1, h => by
    rw [nss_succ L (by omega), sumP_snoc, sumP_nss L (by omega), List.take_succ_eq_append_getElem (by omega), bytes_append]
    simp [bytes]
theorem wrap_mod (s x : Nat) : IntKind.u64.wrap (((s % 18446744073709551616 : Nat) : Int) + (x : Int)) = (((s + x) % 18446744073709551616 : Nat) : Int) := by simp [IntKind.wrap, IntKind.bits, IntKind.signed]
def LfI (w : World) (M : Nat) (L : List Sp) (pre : List (Fin L.length)) (W : World) : Prop := M ≤ W.heap.size ∧ Blk W w.heap.size 22 #[.int .u64 ((sumP L pre % 18446744073709551616 : Nat) : Int)] ∧ Below w.heap.size w W
theorem lfi_own {w : World} (M : Nat) (L : List Sp) {B : Nat} (hB : w.heap.size ≤ B) : OwnFrom B (LfI w M L) := fun _ _ _ _ ⟨h0, h1, h2⟩ hg hr => ⟨Nat.le_trans h0 hg.size, h1.own_from hg hr, ownFrom_below (Nat.le_refl _) hB () _ _ _ h2 hg hr⟩
theorem fpc_type {w : World} {p k : Nat} {v : Value} {b : Sp} {L : List Sp} {t : TypeId} {cs : Array Value} (h : PC w p v b L) (hk : Blk w k t cs) (h1 : t ≠ 58) (h2 : t ≠ 24) : ¬ FpC p v k := by
  rintro (rfl | hv)
  · have := h.blk
    unfold Blk at this hk
    rw [this] at hk
    cases hk
    exact h1 rfl
  · rcases h.own.2 with ⟨rfl, _⟩ | ⟨g, cap, cur, rfl, _, hgg, _⟩
    · simp [Value.ownBlock] at hv
    · simp [Value.ownBlock] at hv
      subst hv
      unfold Blk at hk
      rw [hgg] at hk
      cases hk
      exact h2 rfl
/-- What held hands back. -/
def HeldC (ptr : Option Addr) (b : Sp) (L : List Sp) (w : World) : Prop := ∀ X, Below w.heap.size w X → Calls Try.prog 26 #[.pointer ptr] X fun e w' => ∃ p v, e = .returned (.pointer (some ⟨p, 0, none⟩)) ∧ PC w' p v b L ∧ Below X.heap.size X w'
theorem HeldC.of {w : World} {p : Nat} {v : Value} {b : Sp} {L : List Sp} (h : PC w p v b L) : HeldC (some ⟨p, 0, none⟩) b L w := fun X hX => (held_any p X).mono fun _ _ ⟨h1, h2⟩ => by subst h2; exact ⟨p, v, h1, h.under hX, Below.refl _ _⟩
theorem HeldC.nil (w : World) : HeldC none (0, 0) [] w := fun X _ => (held_nil X).mono fun _ _ ⟨h1, h2, h3⟩ => ⟨_, _, h1, h2, h3⟩
theorem HeldC.under {ptr : Option Addr} {b : Sp} {L : List Sp} {w w' : World} (h : HeldC ptr b L w) (hb : Below w.heap.size w w') : HeldC ptr b L w' := fun X hX => h X (hb.trans (hX.mono hb.size))
set_option maxRecDepth 100000 in
set_option maxHeartbeats 2000000 in
theorem left_of {ptr : Option Addr} {b : Sp} {L : List Sp} {w : World} (hh : HeldC ptr b L w) (hl : L.length ≤ 100000) (hbt : bytes L < TT) :
    Calls Try.prog 16 #[.pointer ptr] w fun e w' => e = .returned (.int .u64 ((bytes L / 4096 : Nat) : Int)) ∧ Below w.heap.size w w' := by
  have HH := Lib.hid hh
  have HL := Lib.hid hl
  have HBT := Lib.hid hbt
  clear hh hl hbt
  refine (callsIn_wide (n := 10)).1 ?_
  refine callsIn_of_wp_marks Try.func16 rfl trivial ?_ rfl
  simp only [Try.ntmps16, List.size_toArray, List.length_cons, List.length_nil, Nat.reduceAdd, Nat.reduceSub, Array.replicate_succ, Array.replicate_zero, List.push_toArray, List.append_toArray, List.nil_append, List.cons_append]
  gi_wp2_with (first
    | (refine ⟨trivial, ?_⟩; gi_at_call 26; refine (callsIn_wide.2 (HH.out _ (below_alloc1 _ _))).mono ?_; rintro e w1 ⟨p, v, rfl, hp, hd⟩; have HP := Lib.hid (And.intro hp hd); clear hp hd)
    | (refine ⟨trivial, ?_⟩; gi_at_call 30; refine (callsIn_wide.2 (stretches_any p _)).mono ?_; rintro e w2 ⟨rfl, hw2⟩; have HW2 := Lib.hid hw2; clear hw2))
  have hs1 := HP.out.2.size
  simp only [World.size_alloc] at hs1
  have hb1 : Below w.heap.size w w1 := (below_alloc1 w (.cells #[.int .u64 0] 22)).trans (HP.out.2.mono (by simp))
  have hz1 : Blk w1 w.heap.size 22 #[.int .u64 0] := (Blk.new w _ _ rfl).under HP.out.2
  have HZ : Hid (Blk w2 w.heap.size 22 #[.int .u64 0] ∧ PC w2 p v b L ∧ Below w.heap.size w w2 ∧ w2.heap.size = w1.heap.size + 1 ∧ Blk w2 w1.heap.size 28 #[.pointer (some ⟨p, 0, none⟩)]) := Lib.hid (by
    rw [HW2.out]
    exact ⟨hz1.alloc _, HP.out.1.under (below_alloc1 _ _), hb1.alloc hb1.size _, by simp, Blk.new _ _ _ rfl⟩)
  have HNK : Hid (¬ KStr w1.heap.size p v w.heap.size) := Lib.hid (by
    rintro (h | h)
    · omega
    · exact fpc_type HP.out.1 hz1 (by decide) (by decide) h)
  clear hb1 hz1
  refine wpIn_rangeFunc_ownH rfl (by omega) (gf := 41) (lb := #[.pointer (some ⟨w1.heap.size, 0, none⟩)]) rfl trivial (by intro args W; rfl) (str_stops _ (by omega) w1.heap.size p v b L w2 HZ.out.2.2.2.2 HZ.out.2.1 (by have := HL.out; omega))
    KG.trans (fun W l o o' hl _ _ _ => KG.putObj _ fun k hk e => by
      have := HZ.out.2.2.2.1
      rcases hk with h | h
      · omega
      · have := HZ.out.2.1.lt h; omega) (Below.refl _ _) (fun _ => rfl)
    (LfI w w2.heap.size L) (fun _ _ _ => False) (lfi_own _ L HZ.out.2.2.1.size) (fun _ _ _ _ _ hs _ _ => hs)
    ⟨Nat.le_refl _, HZ.out.1, HZ.out.2.2.1⟩
    (fun x a' W => ∃ g, w2.heap.size ≤ g ∧ a' = { tmps := #[.pointer ptr, undef, .int .u64 0, .pointer (some ⟨w.heap.size, 0, none⟩), undef, .pointer (some ⟨g, 0, none⟩), .pointer ptr, .pointer (some ⟨p, 0, none⟩), .func (.func 41) #[] #[.pointer (some ⟨w1.heap.size, 0, none⟩)], .int .i64 (x.1 : Int), .agg #[.int .u64 (L[x.1].1 : Int), .int .u64 (L[x.1].2 : Int)], undef, undef, undef, undef, undef, undef], defers := [] } ∧
      Blk W g 24 #[.int .u64 (L[x.1].1 : Int), .int .u64 (L[x.1].2 : Int)])
    (fun x a' _ X Y row hs hg hr => by obtain ⟨g, h1, h2, h3⟩ := hs; exact ⟨g, h1, h2, h3.own_from hg hr⟩)
    ?assign ?body ?done ?stop
  case assign =>
    rintro lq pre ⟨i, hi⟩ W K hI hK
    unfold encNS
    obtain ⟨x, hx⟩ : ∃ x, x = L[i] := ⟨_, rfl⟩
    simp only [← hx] at hK ⊢
    obtain ⟨x1, x2⟩ := x
    clear hx
    gi_wp2
    exact hK _ _ ((keepsOthers_below (below_alloc1 _ _)).from _) (KG.of_below (B := W.heap.size) (below_alloc1 _ _) fun k hk => by
      have := hI.1
      have := HZ.out.2.2.2.1
      rcases hk with h | h
      · omega
      · have := HZ.out.2.1.lt h; omega) ⟨Nat.le_trans hI.1 (below_alloc1 _ _).size, hI.2.1.alloc _, hI.2.2.alloc hI.2.2.size _⟩ ⟨W.heap.size, hI.1, rfl, Blk.new _ _ _ rfl⟩
  case body =>
    rintro lq pre ⟨i, hi⟩ a' W hl ⟨r, hr⟩ ⟨hM, hz, hb⟩ ⟨g, hg, rfl, hgb⟩ hlt
    have hsn := sumP_snoc L pre ⟨i, hi⟩
    obtain ⟨x, hx⟩ : ∃ x, x = L[i] := ⟨_, rfl⟩
    simp only [← hx] at hgb hsn ⊢
    obtain ⟨x1, x2⟩ := x
    have hw := wrap_mod (sumP L pre) x2
    obtain ⟨s, hs⟩ : ∃ s, s = sumP L pre % 18446744073709551616 := ⟨_, rfl⟩
    obtain ⟨s2, hs2⟩ : ∃ s2, s2 = (sumP L pre + x2) % 18446744073709551616 := ⟨_, rfl⟩
    rw [← hs, ← hs2] at hw
    rw [← hs] at hz
    have c0 := hz.cellAt 0 rfl
    have f0 := hz.froz 0
    have d7 := hgb.cellAt 1 rfl
    have HE : Hid (KeepsFrom w2.heap.size W (W.setCell ⟨w.heap.size, 0, none⟩ (.int .u64 (s2 : Int))) ∧ KG (KStr w1.heap.size p v) W (W.setCell ⟨w.heap.size, 0, none⟩ (.int .u64 (s2 : Int))) ∧ LfI w w2.heap.size L (pre ++ [⟨i, hi⟩]) (W.setCell ⟨w.heap.size, 0, none⟩ (.int .u64 (s2 : Int)))) := Lib.hid (by
      refine ⟨(KeepsOthers.setCell _ _ _).from _, ⟨by simp [World.setCell], fun k hk => Below.heap_setCell W ⟨w.heap.size, 0, none⟩ _ k fun e => HNK.out (by rw [← show k = w.heap.size from e]; exact hk)⟩, by simp [World.setCell]; exact hM, ?_, hb.setCell (Nat.le_refl _) _⟩
      rw [hsn, ← hs2]
      exact hz.set 0 _)
    clear hsn hx hs hs2 hz hb hM hr hl hg hgb hlt
    gi_wp2
    exact HE.out
  case done =>
    rintro Dd ys W hD rfl ⟨hM, hz, hb⟩ hK
    have hq : sumP L (nss L L.length) % 18446744073709551616 = bytes L := by
      rw [sumP_nss L (Nat.le_refl _), List.take_length]
      exact Nat.mod_eq_of_lt HBT.out
    rw [hq] at hz
    obtain ⟨s, hs⟩ : ∃ s, s = bytes L := ⟨_, rfl⟩
    rw [← hs] at hz
    have c0 := hz.cellAt 0 rfl
    have hbt : s < 18446744073709551616 := by rw [hs]; exact HBT.out
    have hw : IntKind.u64.wrap ((s : Int) / 4096) = (s : Int) / 4096 := by simp [IntKind.wrap, IntKind.bits, IntKind.signed]; omega
    have hsd : w.heap.size ≤ Dd := Nat.le_trans HZ.out.2.2.1.size hD
    have HB : Hid (Below w.heap.size w (W.putObj Dd (.deferred none))) := Lib.hid (hb.trans (belowK_b (w := w) (Nat.le_refl _) W Dd _ _ hsd hK rfl rfl))
    have HS := Lib.hid hs
    clear hz hb hq hs
    gi_wp2
    refine ⟨by simp, .inl ⟨_, _, rfl, run_takeDeferred hK, ?_⟩⟩
    exact ⟨_, results_tmp rfl _ _ _, by rw [← HS.out]; show Ending.returned (Value.int .u64 ((s : Int) / 4096)) = _; congr 1, HB.out⟩
  case stop =>
    rintro Dd c' pre W _ _ h _
    exact h.elim
set_option maxRecDepth 100000 in
set_option maxHeartbeats 1000000 in
theorem used_of {ptr : Option Addr} {b : Sp} {L : List Sp} {w : World} (hh : HeldC ptr b L w) (hl : L.length ≤ 100000) (hbt : bytes L ≤ b.2) (hb2 : fit b) :
    Calls Try.prog 15 #[.pointer ptr] w fun e w' => e = .returned (.int .u64 ((b.2 / 4096 - bytes L / 4096 : Nat) : Int)) ∧ Below w.heap.size w w' := by
  have HLE := Lib.hid (fun X (hX : Below w.heap.size w X) => left_of (hh.under hX) hl (Nat.lt_of_le_of_lt hbt hb2.2))
  have HH := Lib.hid hh
  have HB := Lib.hid hb2
  obtain ⟨s, hs⟩ : ∃ s, s = bytes L / 4096 := ⟨_, rfl⟩
  obtain ⟨m, hm⟩ : ∃ m, m = b.2 / 4096 := ⟨_, rfl⟩
  have hsm : s ≤ m := by rw [hs, hm]; omega
  have hml : m < 18446744073709551616 := by have := hb2.2; omega
  have HTO := Lib.hid (fun (X : World) (p : Nat) (v : Value) (hP : PC X p v b L) => total_any hP hb2)
  rw [← hs] at HLE ⊢
  rw [← hm] at HTO ⊢
  obtain ⟨d, hd0⟩ : ∃ d, d = m - s := ⟨_, rfl⟩
  have hw : IntKind.u64.wrap ((m : Int) - (s : Int)) = (d : Int) := by simp [IntKind.wrap, IntKind.bits, IntKind.signed]; omega
  rw [← hd0]
  have HX : Hid (Below w.heap.size w w) := Lib.hid (Below.refl _ _)
  clear hh hl hbt hb2 hs hm hsm hml hd0
  go_enter Try.func15, Try.ntmps15
  go_wp2_with (first
    | (go_at_call 26; refine (HH.out _ HX.out).mono ?_; rintro e w1 ⟨p, v, rfl, hp, hd⟩; have HP := Lib.hid (And.intro hp hd); clear hp hd)
    | (go_at_call 32; refine (HTO.out _ _ _ HP.out.1).mono ?_; rintro e w2 ⟨rfl, rfl⟩)
    | (go_at_call 16; refine (HLE.out _ HP.out.2).mono ?_; rintro e w3 ⟨rfl, hd⟩; have HD := Lib.hid hd; clear hd))
  go_ret
  exact ⟨rfl, HP.out.2.trans (HD.out.mono HP.out.2.size)⟩
/-- What a round of Has keeps; how a round ends it. -/
def HsI (w : World) (M : Nat) (L : List Sp) (x : Nat) (pre : List (Fin L.length)) (W : World) : Prop := (∀ y ∈ pre, has L[y.1] x = false) ∧ M ≤ W.heap.size ∧ Blk W w.heap.size 22 #[.int .u64 (x : Int)] ∧ Blk W (w.heap.size + 1) 4 #[.bool false] ∧ Below w.heap.size w W
def HsX (w : World) (L : List Sp) (x : Nat) (cd : Code) (pre : List (Fin L.length)) (W : World) : Prop := cd = .ret ∧ (∃ y ∈ pre, has L[y.1] x = true) ∧ Blk W (w.heap.size + 1) 4 #[.bool false] ∧ Below w.heap.size w W
theorem hsi_own {w : World} (M : Nat) (L : List Sp) (x : Nat) {B : Nat} (hB : w.heap.size ≤ B) : OwnFrom B (HsI w M L x) := fun _ _ _ _ ⟨h1, h2, h3, h4, h5⟩ hg hr => ⟨h1, Nat.le_trans h2 hg.size, h3.own_from hg hr, h4.own_from hg hr, ownFrom_below (Nat.le_refl _) hB () _ _ _ h5 hg hr⟩
theorem hsx_own {w : World} (L : List Sp) (x : Nat) (cd : Code) {B : Nat} (hB : w.heap.size ≤ B) : OwnFrom B (HsX w L x cd) := fun _ _ _ _ ⟨h1, h2, h3, h4⟩ hg hr => ⟨h1, h2, h3.own_from hg hr, ownFrom_below (Nat.le_refl _) hB () _ _ _ h4 hg hr⟩
theorem loadVar_bool {w : World} {g : Nat} {t ty : TypeId} {x : Bool} (h : Blk w g t #[.bool x]) (hu : Try.prog.underlying ty = some .bool) : (loadVar ty ⟨g, 0, none⟩).run Try.prog w = .ok (.bool x) w := by
  have hc := h.cellAt 0 (v := .bool x) rfl
  simp [loadVar, isAgg, run_underlying hu, run_load, hc]
set_option maxRecDepth 100000 in
set_option maxHeartbeats 2000000 in
theorem has_of {ptr : Option Addr} {b : Sp} {L : List Sp} {w : World} (hh : HeldC ptr b L w) (hl : L.length ≤ 100000) (hb2 : fit b) (hf : ∀ y ∈ L, fit y) (x : Nat) :
    Calls Try.prog 13 #[.pointer ptr, .int .u64 (x : Int)] w fun e w' => e = .returned (.bool (hasC b L x)) ∧ Below w.heap.size w w' := by
  have HH := Lib.hid hh
  have HL := Lib.hid hl
  have HF := Lib.hid (And.intro hb2 hf)
  obtain ⟨V, hV⟩ : ∃ V, V = (w.alloc (.cells #[.int .u64 (x : Int)] 22)).alloc (.cells #[.bool false] 4) := ⟨_, rfl⟩
  have hx0 : Blk V w.heap.size 22 #[.int .u64 (x : Int)] := by rw [hV]; exact (Blk.new w _ _ rfl).alloc _
  have hr0 : Blk V (w.heap.size + 1) 4 #[.bool false] := by rw [hV]; exact Blk.new _ _ _ (by simp)
  have hbV : Below w.heap.size w V := by rw [hV]; exact Laid.below ⟨[_, _], rfl⟩
  have HV0 := Lib.hid (And.intro hx0 (And.intro hr0 hbV))
  have hc0 := HH.out V hbV
  have HV := Lib.hid hV
  rw [hV] at hc0
  have HHV := Lib.hid hc0
  clear hh hl hb2 hf hx0 hr0 hbV hV hc0
  refine (callsIn_wide (n := 10)).1 ?_
  refine callsIn_of_wp_marks Try.func13 rfl trivial ?_ rfl
  simp only [Try.ntmps13, List.size_toArray, List.length_cons, List.length_nil, Nat.reduceAdd, Nat.reduceSub, Array.replicate_succ, Array.replicate_zero, List.push_toArray, List.append_toArray, List.nil_append, List.cons_append]
  gi_upto_region 2 with (refine ⟨trivial, ?_⟩; gi_at_call 26; refine (callsIn_wide.2 HHV.out).mono ?_; rintro e w1 ⟨p, v, rfl, hp, hd⟩; rw [← HV.out] at hd; have HP := Lib.hid (And.intro hp hd); clear hp hd)
  have HBX := Lib.hid (HV0.out.1.under HP.out.2)
  have HBR := Lib.hid (HV0.out.2.1.under HP.out.2)
  have HBW : Hid (Below w.heap.size w w1) := Lib.hid (HV0.out.2.2.trans (HP.out.2.mono HV0.out.2.2.size))
  have HIN : Hid (∀ Y, VS w1 Y → Calls Try.prog 29 #[.pointer (some ⟨p, 0, none⟩), .int .u64 (x : Int)] Y fun e w' => e = .returned (.bool (has b x)) ∧ Below Y.heap.size Y w') := Lib.hid fun Y hY => inside_any (HP.out.1.under hY) HF.out.1 x
  obtain ⟨q, hq⟩ : ∃ q, q = has b x := ⟨_, rfl⟩
  have HC : Hid (hasC b L x = (q && !inn L x)) := Lib.hid (by unfold hasC; rw [hq])
  rw [← hq] at HIN
  clear hq
  refine wpIn_then_false ?_
  refine wpIn_region_held_wide (S := fun Y => VS w1 Y) (by kernel_rfl) (by rintro ⟨_, _, h⟩; exact h) (VS.begin w1) (fun Wd hWd hS => ?_)
  clear hWd
  (refine held_take (i := 0) (oi := ?ot1) (v := ?vt1) ?at1 (by kernel_rfl) (by kernel_rfl) (by kernel_rfl) ?bt1 ?ct1 ?dt1 (by assumption) ?rt1; (case at1 => (simp only [List.getElem?_toArray, List.getElem?_cons_zero]; rfl)); (case bt1 => exact fun _ _ _ h => h); (case ct1 => kernel_rfl); (case dt1 => (intro W hW; (try dsimp only at hW); go_split_ands; go_simp; (try with_reducible rfl))); (case' rt1 => simp only [Act.put, List.setIfInBounds_toArray, List.set_cons_zero, List.set_cons_succ]))
  (refine held_take (i := 1) (oi := ?ot2) (v := ?vt2) ?at2 (by kernel_rfl) (by kernel_rfl) (by kernel_rfl) ?bt2 ?ct2 ?dt2 (by assumption) ?rt2; (case at2 => (simp only [List.getElem?_toArray, List.getElem?_cons_zero, List.getElem?_cons_succ]; rfl)); (case bt2 => exact fun _ _ _ h => h); (case ct2 => kernel_rfl); (case dt2 => (intro W hW; (try dsimp only at hW); go_split_ands; go_simp; (try with_reducible rfl))); (case' rt2 => simp only [Act.put, List.setIfInBounds_toArray, List.set_cons_zero, List.set_cons_succ]))
  (refine held_take (i := 2) (oi := ?ot3) (v := ?vt3) ?at3 (by kernel_rfl) (by kernel_rfl) (by kernel_rfl) ?bt3 ?ct3 ?dt3 (by assumption) ?rt3; (case at3 => (simp only [List.getElem?_toArray, List.getElem?_cons_zero, List.getElem?_cons_succ]; rfl)); (case bt3 => exact fun _ _ _ h => h); (case ct3 => kernel_rfl); (case dt3 => (intro W hW; (try dsimp only at hW); go_split_ands; go_simp; (try with_reducible rfl))); (case' rt3 => simp only [Act.put, List.setIfInBounds_toArray, List.set_cons_zero, List.set_cons_succ]))
  (refine held_take (i := 3) (oi := ?ot4) (v := ?vt4) ?at4 (by kernel_rfl) (by kernel_rfl) (by kernel_rfl) ?bt4 ?ct4 ?dt4 (by assumption) ?rt4; (case at4 => (simp only [List.getElem?_toArray, List.getElem?_cons_zero, List.getElem?_cons_succ]; rfl)); (case bt4 => exact fun _ _ _ h => h); (case ct4 => kernel_rfl); (case dt4 => (intro W6 hW; have c0 := (HBX.out.under hW).cellAt 0 rfl; clear hW; go_simp; (try with_reducible rfl))); (case' rt4 => simp only [Act.put, List.setIfInBounds_toArray, List.set_cons_zero, List.set_cons_succ]))
  refine held_one (i := 4) (oi := ?ot5) (by kernel_rfl) ?at5 ?ct5 (fun K4 hK4 => ?_)
  (case at5 => (simp only [List.getElem?_toArray, List.getElem?_cons_zero, List.getElem?_cons_succ]; rfl))
  (case ct5 => kernel_rfl)
  have hSb := hS
  go_simp
  refine (HIN.out _ hSb).mono ?_
  rintro e w2 ⟨rfl, hd⟩
  refine hK4 _ _ (VS.keep hSb hd) (fun hS4 => ?_)
  clear hS hSb hd hK4 K4
  (refine held_take (i := 5) (oi := ?ot6) (v := ?vt6) ?at6 (by kernel_rfl) (by kernel_rfl) (by kernel_rfl) ?bt6 ?ct6 ?dt6 (by assumption) ?rt6; (case at6 => (simp only [List.getElem?_toArray, List.getElem?_cons_zero, List.getElem?_cons_succ]; rfl)); (case bt6 => exact fun _ _ _ h => h); (case ct6 => kernel_rfl); (case dt6 => (intro W hW; (try dsimp only at hW); go_split_ands; go_simp; (try with_reducible rfl))); (case' rt6 => simp only [Act.put, List.setIfInBounds_toArray, List.set_cons_zero, List.set_cons_succ]))
  refine wpAnyH_done (by kernel_rfl) ?_ _
  have HVW := Lib.hid hS4
  cases q with
  | false =>
    have hr := (HBR.out.under HVW.out)
    have c0 := hr.cellAt 0 rfl
    have f0 := hr.froz 0
    have HRR := Lib.hid hr
    have HBB : Hid (Below w.heap.size w w2) := Lib.hid (VS.below0 HVW.out HBW.out)
    clear hr
    simp only [Bool.not_false]
    gi_wp2
    exact ⟨_, results_cell1 rfl _ _ _ rfl (loadVar_bool (HRR.out.set 0 _) Try.underlying4), by rw [HC.out]; rfl, HBB.out.setCell (p := ⟨w.heap.size + 1, 0, none⟩) (by simp) _⟩
  | true =>
    simp only [Bool.not_true]
    gi_wp2_with (refine ⟨trivial, ?_⟩; gi_at_call 30; refine (callsIn_wide.2 (stretches_any p _)).mono ?_; rintro e w3 ⟨rfl, hw3⟩; have HW3 := Lib.hid hw3; clear hw3)
    have hb2 : Below w.heap.size w w2 := VS.below0 HVW.out HBW.out
    have HZ : Hid (Blk w3 w.heap.size 22 #[.int .u64 (x : Int)] ∧ Blk w3 (w.heap.size + 1) 4 #[.bool false] ∧ PC w3 p v b L ∧ Below w.heap.size w w3 ∧ w3.heap.size = w2.heap.size + 1 ∧ Blk w3 w2.heap.size 28 #[.pointer (some ⟨p, 0, none⟩)]) := Lib.hid (by
      rw [HW3.out]
      exact ⟨(HBX.out.under HVW.out).alloc _, (HBR.out.under HVW.out).alloc _, (HP.out.1.under HVW.out).under (below_alloc1 _ _), hb2.alloc hb2.size _, by simp, Blk.new _ _ _ rfl⟩)
    clear hb2 hS4
    refine wpIn_rangeFunc_ownH rfl (by omega) (gf := 41) (lb := #[.pointer (some ⟨w2.heap.size, 0, none⟩)]) rfl trivial (by intro args W; rfl) (str_stops _ (by omega) w2.heap.size p v b L w3 HZ.out.2.2.2.2.2 HZ.out.2.2.1 (by have := HL.out; omega))
      KG.trans (fun W l o o' hl _ _ _ => KG.putObj _ fun k hk e => by
        have := HZ.out.2.2.2.2.1
        rcases hk with h | h
        · omega
        · have := HZ.out.2.2.1.lt h; omega) (Below.refl _ _) (fun _ => rfl)
      (HsI w w3.heap.size L x) (HsX w L x) (hsi_own _ L x HZ.out.2.2.2.1.size) (fun c => hsx_own L x c HZ.out.2.2.2.1.size)
      ⟨fun _ h => (by cases h), Nat.le_refl _, HZ.out.1, HZ.out.2.1, HZ.out.2.2.2.1⟩
      (fun y a' W => ∃ g, w3.heap.size ≤ g ∧ a' = { tmps := #[.pointer ptr, .int .u64 (x : Int), undef, .pointer (some ⟨w.heap.size, 0, none⟩), .pointer (some ⟨w.heap.size + 1, 0, none⟩), .pointer (some ⟨p, 0, none⟩), undef, .pointer (some ⟨g, 0, none⟩), .pointer ptr, .pointer (some ⟨p, 0, none⟩), .pointer (some ⟨p, 0, none⟩), .pointer (some ⟨p, 0, none⟩), .pointer (some ⟨p, 0, none⟩), .int .u64 (x : Int), .bool true, .bool false, .pointer (some ⟨p, 0, none⟩), .func (.func 41) #[] #[.pointer (some ⟨w2.heap.size, 0, none⟩)], .int .i64 (y.1 : Int), .agg #[.int .u64 (L[y.1].1 : Int), .int .u64 (L[y.1].2 : Int)], undef, undef, undef], defers := [] } ∧
        Blk W g 24 #[.int .u64 (L[y.1].1 : Int), .int .u64 (L[y.1].2 : Int)])
      (fun y a' _ X Y row hs hg hr => by obtain ⟨g, h1, h2, h3⟩ := hs; exact ⟨g, h1, h2, h3.own_from hg hr⟩)
      ?assign ?body ?done ?stop
    case assign =>
      rintro lq pre ⟨i, hi⟩ W K hI hK
      unfold encNS
      obtain ⟨y, hy⟩ : ∃ y, y = L[i] := ⟨_, rfl⟩
      simp only [← hy] at hK ⊢
      obtain ⟨x1, x2⟩ := y
      clear hy
      gi_wp2
      exact hK _ _ ((keepsOthers_below (below_alloc1 _ _)).from _) (KG.of_below (B := W.heap.size) (below_alloc1 _ _) fun k hk => by
        have := hI.2.1
        have := HZ.out.2.2.2.2.1
        rcases hk with h | h
        · omega
        · have := HZ.out.2.2.1.lt h; omega) ⟨hI.1, Nat.le_trans hI.2.1 (below_alloc1 _ _).size, hI.2.2.1.alloc _, hI.2.2.2.1.alloc _, hI.2.2.2.2.alloc hI.2.2.2.2.size _⟩ ⟨W.heap.size, hI.2.1, rfl, Blk.new _ _ _ rfl⟩
    case body =>
      rintro lq pre ⟨i, hi⟩ a' W hl ⟨r, hr⟩ ⟨hno, hM, hbx, hbr, hb⟩ ⟨g, hg, rfl, hgb⟩ hlt
      have hfy := HF.out.2 L[i] (List.getElem_mem hi)
      obtain ⟨y, hy⟩ : ∃ y, y = L[i] := ⟨_, rfl⟩
      simp only [← hy] at hgb hfy ⊢
      obtain ⟨x1, x2⟩ := y
      have c0 := hbx.cellAt 0 rfl
      have d6 := hgb.cellAt 0 rfl
      have d7 := hgb.cellAt 1 rfl
      have HHS := Lib.hid (fun X => has_bel x1 x2 x hfy X)
      obtain ⟨f, hf0⟩ : ∃ f, f = has (x1, x2) x := ⟨_, rfl⟩
      rw [← hf0] at HHS
      have HA : Hid (∀ X, Below W.heap.size W X → KeepsFrom w3.heap.size W X ∧ KG (KStr w2.heap.size p v) W X ∧ w3.heap.size ≤ X.heap.size ∧ Blk X w.heap.size 22 #[.int .u64 (x : Int)] ∧ Blk X (w.heap.size + 1) 4 #[.bool false] ∧ Below w.heap.size w X) := Lib.hid fun X hX =>
        ⟨(keepsOthers_below hX).from _, KG.of_below hX fun k hk => by
          have := HZ.out.2.2.2.2.1
          rcases hk with h | h
          · omega
          · have := HZ.out.2.2.1.lt h; omega, Nat.le_trans hM hX.size, hbx.under hX, hbr.under hX, hb.trans (hX.mono hb.size)⟩
      cases f with
      | false =>
        have HNO : Hid (∀ z ∈ pre ++ [⟨i, hi⟩], has L[z.1] x = false) := Lib.hid fun z hz => by
          rcases List.mem_append.1 hz with hz | hz
          · exact hno z hz
          · simp at hz
            subst hz
            simp only [← hy]
            exact hf0.symm
        clear hno hM hbx hbr hb hg hgb hy hfy hf0 hl hr hlt
        gi_wp2_with (refine ⟨trivial, ?_⟩; gi_at_call 31; refine (CallsIn.inRound lq (callsIn_wide.2 (HHS.out _))).mono ?_; rintro e w4 ⟨rfl, hd⟩; have HD := Lib.hid hd; clear hd)
        exact ⟨(HA.out w4 HD.out).1, (HA.out w4 HD.out).2.1, HNO.out, (HA.out w4 HD.out).2.2.1, (HA.out w4 HD.out).2.2.2.1, (HA.out w4 HD.out).2.2.2.2.1, (HA.out w4 HD.out).2.2.2.2.2⟩
      | true =>
        have HYE : Hid (∃ z ∈ pre ++ [⟨i, hi⟩], has L[z.1] x = true) := Lib.hid ⟨⟨i, hi⟩, by simp, by simp only [← hy]; exact hf0.symm⟩
        clear hno hM hbx hbr hb hg hgb hy hfy hf0 hl hr hlt
        gi_wp2_with (refine ⟨trivial, ?_⟩; gi_at_call 31; refine (CallsIn.inRound lq (callsIn_wide.2 (HHS.out _))).mono ?_; rintro e w4 ⟨rfl, hd⟩; have HD := Lib.hid hd; have e0 := (HA.out w4 hd).2.2.2.2.1.cellAt 0 rfl; have e1 := (HA.out w4 hd).2.2.2.2.1.froz 0; clear hd)
        refine ⟨(HA.out w4 HD.out).1.trans ((KeepsOthers.setCell _ _ _).from _), rfl, HYE.out, (HA.out w4 HD.out).2.2.2.2.1.set 0 _, (HA.out w4 HD.out).2.2.2.2.2.setCell (p := ⟨w.heap.size + 1, 0, none⟩) (by simp) _⟩
    case done =>
      rintro Dd ys W hD rfl ⟨hno, hM, hbx, hbr, hb⟩ hK
      have hin : inn L x = false := by
        rw [← Bool.not_eq_true, inn_iff]
        rintro ⟨y, hy, hyx⟩
        obtain ⟨i, hi, rfl⟩ := List.getElem_of_mem hy
        have := hno ⟨i, hi⟩ (nss_mem L hi hi)
        simp only at this
        rw [this] at hyx
        cases hyx
      have c0 := hbr.cellAt 0 rfl
      have f0 := hbr.froz 0
      have hsd : w.heap.size + 2 ≤ Dd := by
        have := HZ.out.2.1.lt
        omega
      have HE : Hid (Blk W (w.heap.size + 1) 4 #[.bool false] ∧ Below w.heap.size w W ∧ hasC b L x = true ∧ W.heap[Dd]? = some (.deferred (some []))) := Lib.hid ⟨hbr, hb, by rw [HC.out, hin]; rfl, hK⟩
      clear hno hM hbx hbr hb hin
      gi_wp2
      have hK2 : (W.setCell ⟨w.heap.size + 1, 0, none⟩ (.bool true)).heap[Dd]? = some (.deferred (some [])) := by
        rw [Below.heap_setCell _ ⟨w.heap.size + 1, 0, none⟩ _ Dd (by simp only; omega)]; exact HE.out.2.2.2
      have y1 := HE.out.1.set 0 (.bool true)
      have hbl := HE.out.2.1.setCell (p := ⟨w.heap.size + 1, 0, none⟩) (by simp) (.bool true)
      generalize W.setCell ⟨w.heap.size + 1, 0, none⟩ (.bool true) = X at hK2 y1 hbl ⊢
      have hput : X.grownBy (X.putObj Dd (.deferred none)) (some Dd) := grownBy_putObj' X Dd (.deferred none)
      have hrow : ∀ r, some Dd = some r → Dd ≤ r ∧ ∃ o : Obj, X.heap[r]? = some o ∧ o.isCells = false := fun r e => by
        obtain rfl := Option.some.inj e
        exact ⟨Nat.le_refl _, _, hK2, rfl⟩
      refine ⟨by simp, .inl ⟨_, _, rfl, run_takeDeferred hK2, ?_⟩⟩
      exact ⟨_, results_cell1 rfl _ _ _ rfl (loadVar_bool (y1.own_from hput hrow) Try.underlying4), by rw [HE.out.2.2.1], hbl.trans (belowK_b (w := w) (Nat.le_refl _) X Dd _ _ (by omega) hK2 rfl rfl)⟩
    case stop =>
      rintro Dd c' pre W hD ⟨k, hk, rfl⟩ hX hK
      obtain rfl := hX.1
      have hX2 := (hsx_own L x .ret HZ.out.2.2.2.1.size : OwnFrom w3.heap.size (HsX w L x .ret)).putObj (.deferred none) hX hD hK rfl
      have hin : inn L x = true := by
        obtain ⟨y, _, hy⟩ := hX.2.1
        exact (inn_iff L x).2 ⟨_, List.getElem_mem y.2, hy⟩
      have HE := Lib.hid (And.intro hX2.2.2 (show hasC b L x = false by rw [HC.out, hin]; rfl))
      clear hX hX2 hin
      gi_wp2
      refine ⟨by simp, .inl ⟨_, _, rfl, run_takeDeferred hK, ?_⟩⟩
      exact ⟨_, results_cell1 rfl _ _ _ rfl (loadVar_bool HE.out.1.1 Try.underlying4), by rw [HE.out.2], HE.out.1.2⟩
end Go.Proofs.Ytmhhckpdhjnmeaa
