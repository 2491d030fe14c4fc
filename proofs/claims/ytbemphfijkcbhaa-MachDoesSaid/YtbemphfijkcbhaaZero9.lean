/- mach.pages.zero. -/
import Derived.Test.YtbemphfijkcbhaaZm
namespace Go.Proofs.Ytbemphfijkcbhaa
open Go.RowKit Go.Maps Go.Shelf
attribute [local go_sem] Oper.semAt_some

/-- A round's state, where the span's pages are gone through. -/
def ZrI (V : World) (G : Nat → Prop) (b n a c : Nat) (m : Bytes8) (pre : List (PB (a, c))) (W : World) : Prop := ∃ D', Pg W G b n D' (zrP m pre) noX ∧ Turn G V W
theorem ZrI.from {V : World} {G : Nat → Prop} {b n a c : Nat} {m : Bytes8} (hb : b < V.heap.size) : OwnFrom V.heap.size (ZrI V G b n a c m) := fun _ _ _ _ ⟨D', h1, h2⟩ hg hr =>
  ⟨D', h1.own_from hb hg hr, h2.own_from (Nat.le_refl _) hg fun r e => (hr r e).1⟩
theorem ZrI.step {V W w2 : World} {G : Nat → Prop} {b n a c Bs : Nat} {m : Bytes8} {pre : List (PB (a, c))} {x : PB (a, c)} {D' : DataW Unit} (hb : b < V.heap.size) (hBs : Bs < V.heap.size) (hnB : ¬ G Bs)
    (hp : Pg W G b n D' (zrP m pre) noX) (ht : Turn G V W) (hB : Blanked W w2 G b n x.1 D' (zrX (zrP m pre) (a, c) x.1)) : KeepsFrom V.heap.size W w2 ∧ KB Bs W w2 ∧ ZrI V G b n a c m (pre ++ [x]) w2 := by
  obtain ⟨W', D2, h1, h2, h3, h4, h5⟩ := hB
  rw [← zrP_snoc] at h4
  exact ⟨hp.keeps hb h5, KB.turn h5 (Nat.lt_of_lt_of_le hBs ht.size) hnB, D2, h4, ht.andThen h5⟩

set_option maxRecDepth 100000 in
set_option maxHeartbeats 4000000 in
theorem zero_any {w : World} {G : Nat → Prop} {b n : Nat} {D : DataW Unit} {m : Bytes8} (hP : Pg w G b n D m noX) (hn : n < maxLen) (a c : Nat) (hab : a + c ≤ 1099511627776) :
    Calls Try.prog 57 #[.map (some b), .agg #[.int .u64 (a : Int), .int .u64 (c : Int)]] w fun e w' => e = .returned (.tuple #[]) ∧ ∃ D', Pg w' G b n D' (zrM m a c) noX ∧ Turn G w w' := by
  obtain ⟨V, hV⟩ : ∃ V, V = (w.alloc (.cells #[.map (some b)] 85)).alloc (.cells (boxSp a c) 24) := ⟨_, rfl⟩
  have hsz : V.heap.size = w.heap.size + 2 := by rw [hV]; simp
  have hBV : Below w.heap.size w V := by rw [hV]; exact ((Below.refl _ _).alloc (by simp <;> omega) _).alloc (by simp <;> omega) _
  have hB0 : Blk V w.heap.size 85 #[.map (some b)] := by rw [hV]; exact (Blk.new _ _ _ rfl).alloc _
  have hB1 : Blk V (w.heap.size + 1) 24 (boxSp a c) := by rw [hV]; exact Blk.new _ _ _ (by simp)
  have hgl := hP.lt
  have hpV := hP.under hBV
  obtain ⟨sz, hsz2⟩ : ∃ sz, sz = Maps.size D := ⟨_, rfl⟩
  have hle := hpV.own.size_le
  rw [← hsz2] at hle
  have hlen : ∀ ty, (Builtin.len_ #[85] ty #[.map (some b)]).run Try.prog V = .ok (.int .i64 (sz : Int)) V := fun ty => by rw [hsz2]; exact hpV.own.len Try.underlying85 ty
  have hbl := hP.lt b hP.gb
  have HP := Lib.hid hpV
  have HG : Hid (∀ i, w.heap.size ≤ i → ¬ G i) := Lib.hid fun i hi hg => by have := hgl i hg; omega
  have HBV := Lib.hid hBV
  have HSZ := Lib.hid hsz
  have HB := Lib.hid (And.intro hB0 hB1)
  have HV := Lib.hid hV
  have HN := Lib.hid (And.intro hab hbl)
  have HLN := Lib.hid hlen
  have hszl : sz < maxLen := by omega
  unfold maxLen at hszl
  have HSB := Lib.hid hszl
  clear hP hab hV hsz hBV hB0 hB1 hpV hgl hlen hbl hsz2 hle hn
  refine (callsIn_wide (n := 10)).1 ?_
  refine callsIn_of_wp_marks Try.func57 rfl trivial ?_ rfl
  simp only [Try.ntmps57, List.size_toArray, List.length_cons, List.length_nil, Nat.reduceAdd, Nat.reduceSub, Array.replicate_succ, Array.replicate_zero, List.push_toArray, List.append_toArray, List.nil_append, List.cons_append]
  have hlen := HLN.out
  rw [HV.out] at hlen
  simp only [boxSp] at hlen
  by_cases hd : (c : Int) / 4096 < (sz : Int)
  · obtain ⟨U, hU⟩ : ∃ U, U = V.alloc (.cells (boxSp a c) 24) := ⟨_, rfl⟩
    have hUs : U.heap.size = w.heap.size + 3 := by rw [hU]; have := HSZ.out; simp; omega
    have hB2 : Blk U (w.heap.size + 1 + 1) 24 (boxSp a c) := by rw [hU]; exact Blk.new _ _ _ (by have := HSZ.out; omega)
    have HUB : Hid (Blk U w.heap.size 85 #[.map (some b)] ∧ Blk U (w.heap.size + 1) 24 (boxSp a c) ∧ Blk U (w.heap.size + 1 + 1) 24 (boxSp a c)) := Lib.hid ⟨by rw [hU]; exact HB.out.1.alloc _, by rw [hU]; exact HB.out.2.alloc _, hB2⟩
    have HUP : Hid (Pg U G b n D m noX ∧ Below w.heap.size w U) := Lib.hid ⟨by rw [hU]; exact HP.out.alloc _, by rw [hU]; exact HBV.out.alloc HBV.out.size _⟩
    have HUS := Lib.hid hUs
    have HUV := Lib.hid hU
    clear hU hUs hB2
    gi_wp2_with (first
      | (refine ⟨trivial, ?_⟩
         gi_at_call 65
         refine (callsIn_wide.2 (bases_any a c _)).mono ?_
         rintro e w1 ⟨rfl, hw1⟩
         obtain rfl : w1 = U := by rw [HUV.out, HV.out]; exact hw1
         clear hw1))
    refine wpIn_rangeFunc_ownH rfl (by omega) (gf := 74) (lb := #[.pointer (some ⟨w.heap.size + 1 + 1, 0, none⟩)]) rfl trivial (by intro args W; rfl) (bases_stops _ (by omega) (w.heap.size + 1 + 1) a c ⟨by have := HN.out.1; omega, fun _ => HN.out.1⟩ w1 HUB.out.2.2)
      KB.trans (fun W l o o' hl _ _ _ => KB.putObj _ (by have := HUS.out; omega)) (Below.refl _ _) (fun _ => rfl)
      (ZrI w1 G b n a c m)
      (fun _ _ _ => False)
      (ZrI.from (by have := HN.out.2; have := HUS.out; omega))
      (fun _ _ _ _ _ hs _ _ => hs)
      ⟨D, by rw [zrP_nil]; exact HUP.out.1, Turn.refl _ _⟩
      (fun x a' _ => a' = { tmps := #[.map (some b), .agg #[.int .u64 (a : Int), .int .u64 (c : Int)], .pointer (some ⟨w.heap.size, 0, none⟩), .pointer (some ⟨w.heap.size + 1, 0, none⟩), .int .u64 (x.1 : Int), undef, .pointer (some ⟨w.heap.size + 1, 1, none⟩), .int .u64 (c : Int), .int .u64 ((c : Int) / 4096), .map (some b), .int .i64 (sz : Int), .int .u64 (sz : Int), .bool true, .agg #[.int .u64 (a : Int), .int .u64 (c : Int)], .func (.func 74) #[] #[.pointer (some ⟨w.heap.size + 1 + 1, 0, none⟩)], .int .u64 (x.1 : Int), undef, undef, undef, undef, undef, undef, undef, undef, undef, undef, undef, undef, undef, undef], defers := [] })
      (fun _ _ _ _ _ _ hs _ _ => hs)
      ?assign ?body ?done ?stop
    case assign =>
      rintro lq pre x W K hI hK
      unfold encPB
      gi_wp2
      exact hK _ _ (KeepsFrom.refl _ _) (KB.refl _ _) hI rfl
    case body =>
      rintro lq pre ⟨x, hx⟩ a' W hl0 ⟨r, hr⟩ ⟨D', hp, ht⟩ rfl hlt
      have hxl : x < 18446744073709551616 := by have h0 := HN.out.1; have := hx.2.1; simp only at this; omega
      have hsz := HUS.out
      have hB0 := HUB.out.1.turn ht (HG.out _ (by omega))
      have hB1 := HUB.out.2.1.turn ht (HG.out _ (by omega))
      have c0 := hB0.cellAt 0 (v := .map (some b)) rfl
      have c1 := hB1.cellAt 0 (v := .int .u64 (a : Int)) rfl
      have c2 := hB1.cellAt 1 (v := .int .u64 (c : Int)) rfl
      have HBL := Lib.hid (blank_any hp hx.1 hxl a c HN.out.1)
      have HF : Hid (∀ w2, Blanked W w2 G b n x D' (zrX (zrP m pre) (a, c) x) → KeepsFrom w1.heap.size W w2 ∧ KB (w.heap.size + 1 + 1) W w2 ∧ ZrI w1 G b n a c m (pre ++ [⟨x, hx⟩]) w2) := Lib.hid fun w2 hB =>
        ZrI.step (x := ⟨x, hx⟩) (by have := HN.out.2; omega) (by omega) (HG.out _ (by omega)) hp ht hB
      clear hp ht hB0 hB1 hxl hr hl0 hlt hsz
      gi_wp2_with (refine ⟨trivial, ?_⟩; gi_at_call 70; refine (CallsIn.inRound lq (callsIn_wide.2 HBL.out)).mono ?_; rintro e w2 ⟨rfl, hq⟩; have HQ := Lib.hid hq; clear hq)
      obtain ⟨hf1, hf2, hf3⟩ := HF.out _ HQ.out
      exact ⟨hf1, hf2, hf3⟩
    case done =>
      rintro Dd ys W hD rfl hI hK
      have HQ : Hid (∃ D', Pg (W.putObj Dd (.deferred none)) G b n D' (zrM m a c) noX ∧ Turn G w (W.putObj Dd (.deferred none))) := Lib.hid (by
        obtain ⟨D', h1, h2⟩ := (ZrI.from (by have := HN.out.2; have := HUS.out; omega) : OwnFrom w1.heap.size (ZrI w1 G b n a c m)).putObj (.deferred none) hI hD hK rfl
        rw [zrP_all] at h1
        exact ⟨D', h1, (Turn.of_below HUP.out.2).andThen h2⟩)
      clear hI
      gi_wp2
      refine ⟨by simp, .inl ⟨_, _, rfl, run_takeDeferred hK, ?_⟩⟩
      exact ⟨_, results_none rfl _ _ _, rfl, HQ.out⟩
    case stop =>
      rintro Dd c' pre W _ _ h _
      exact h.elim
  · have hown := HP.out.own
    rw [HV.out] at hown
    simp only [boxSp] at hown
    have hq : IntKind.u64.wrap ((c : Int) / 4096) = (c : Int) / 4096 := by have := HN.out.1; simp [IntKind.wrap, IntKind.bits, IntKind.signed]; omega
    gi_wp2_with (first
      | (gi_at_range; refine wpListIn_range_own _ rfl _ 85 rfl 22 100 kLaw Try.underlying85 ptrR b n D rfl hown ?_; intro w1 hrg0 hg0 hs0))
    have hrs : ((w.alloc (.cells #[.map (some b)] 85)).alloc (.cells (boxSp a c) 24)).heap.size = w.heap.size + 1 + 1 := by simp
    have HZ0 : Hid (ZI V w1 G b (w.heap.size + 1 + 1) n a c D D m (Maps.has D) (Maps.size D)) := Lib.hid (by
      have hg1 : V.grownBy w1 none := by rw [HV.out]; exact hg0
      refine ⟨by rw [← hrs]; exact hrg0, by rw [zm_start]; exact HP.out.same hg1.size fun i hi => hg1.block i (HP.out.lt i hi) (by simp), Turn.of_grown hg1 (fun r e => by cases e), fun l h => h⟩)
    have HFU := Lib.hid HP.out.full
    have HPD := Lib.hid HP.out.pg
    clear hrg0 hg0 hs0 hown hlen hrs hq hd
    gi_loopw [5] (fun _ wr => ∃ left cnt D', Hid (ZI V wr G b (w.heap.size + 1 + 1) n a c D D' m left cnt)) (fun _ wr => wr.rangeLeft b (w.heap.size + 1 + 1))
    case atStart => exact ⟨_, _, _, HZ0⟩
    case round =>
      obtain ⟨left, cnt, D', hZ⟩ := hrel
      have hsz := HSZ.out
      have hrG : ¬ G (w.heap.size + 1 + 1) := HG.out _ (by omega)
      gi_wp2_with (first
        | (gi_at_next; refine wpListIn_next_ranges _ rfl _ rfl 22 kLaw ptrR (Value.int .u64) pval (fun key kl hk => by obtain ⟨x, hx, _⟩ := keyOf_int_inv Try.underlying22 hk; exact ⟨x, hx⟩) (fun v y hv => by rcases ptrR_inv hv with ⟨rfl, _⟩ | ⟨g, rfl, _⟩; exact ⟨none, rfl⟩; exact ⟨some g, rfl⟩) b (w.heap.size + 1 + 1) n _ _ _ rfl hZ.out.rg ?_ ?_))
      · intro hc0 hl0
        have HQ : Hid (∃ D', Pg wr G b n D' (zrM m a c) noX ∧ Turn G w wr) := Lib.hid ⟨D', by rw [← zm_end HP.out a c left hl0]; exact hZ.out.pg, (Turn.of_below HBV.out).andThen hZ.out.tn⟩
        clear hl0 hrG hsz
        gi_wp2
        exact ⟨_, results_none rfl _ _ _, rfl, HQ.out⟩
      · intro x o kl yv yp w2 cnt2 hkey hlk hv hat hrg2 hlt hg2 hs2 hen
        obtain ⟨x', ex, rfl, _⟩ := keyOf_int_inv Try.underlying22 hkey
        cases ex
        obtain ⟨k, g, ek, hk⟩ := HFU.out _ (hZ.out.sub _ hlk)
        obtain ⟨_, hk4, hkl, _⟩ := HPD.out k g hk
        obtain rfl : x = (k : Int) := by unfold klit at ek; injection ek
        change left (klit k) = true at hlk
        change w2.ranges _ _ _ _ _ _ _ (fun z => left z && !z.sameKey (klit k)) cnt2 at hrg2
        obtain ⟨hp2, ht2⟩ := hZ.out.next hrG (by omega) hg2
        have hB0 := HB.out.1.turn ht2 (HG.out _ (by omega))
        have hB1 := HB.out.2.turn ht2 (HG.out _ (by omega))
        have c0 := hB0.cellAt 0 (v := .map (some b)) rfl
        have c1 := hB1.cellAt 0 (v := .int .u64 (a : Int)) rfl
        have c2 := hB1.cellAt 1 (v := .int .u64 (c : Int)) rfl
        have HBL := Lib.hid (blank_any hp2 hk4 hkl a c HN.out.1)
        have HST : Hid (∀ w3, Blanked w2 w3 G b n k D' (zrX (zm D a c m left) (a, c) k) → ∃ cnt3 D3, ZI V w3 G b (w.heap.size + 1 + 1) n a c D D3 m (fun z => left z && !z.sameKey (klit k)) cnt3 ∧ cnt3 ≤ cnt2) := Lib.hid fun w3 hB =>
          ZI.step hrG hZ.out.sub hlk hkl hk4 hrg2 ht2 hB
        have HLT := Lib.hid hlt
        have HLE := Lib.hid hZ.out.rg.left_eq
        clear hs2 hp2 ht2 hB0 hB1 hrg2 hlt hg2 hlk hv hat hkey hk ek hk4 hkl hsz hrG
        gi_wp2_with (refine ⟨trivial, ?_⟩; gi_at_call 70; refine (callsIn_wide.2 HBL.out).mono ?_; rintro e w3 ⟨rfl, hq⟩; have HQ := Lib.hid hq; clear hq)
        go_roundw
        case rel =>
          obtain ⟨cnt3, D3, h1, h2⟩ := HST.out _ HQ.out
          exact ⟨_, cnt3, D3, Lib.hid h1⟩
        case measure =>
          obtain ⟨cnt3, D3, h1, h2⟩ := HST.out _ HQ.out
          rw [h1.rg.left_eq, HLE.out]
          have := HLT.out
          omega
end Go.Proofs.Ytbemphfijkcbhaa
