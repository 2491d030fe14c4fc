/- mach.pages.write. -/
import Derived.Test.YtbemphfijkcbhaaBlank
namespace Go.Proofs.Ytbemphfijkcbhaa
open Go.RowKit Go.Maps Go.Shelf
attribute [local go_sem] Oper.semAt_some

theorem wpIn_region_held_in {n lq : Nat} {P : Program} {ops : Array Oper} {Q : Exit → Act → World → Prop} {S : World → Prop} {id : Nat} {a : Act} {w : World} (hm : P.follows .mixedOrders = true) (hd : noDefer ops = true) (hq : ¬ LetsOut Q) (hS : S w.drew)
    (h : ∀ Y, Y = w.drew → S Y → wpAnyH P .any ops Q S ops.size (Array.replicate ops.size false) a Y) : (Code.region id ops true).wpIn (Fence.wide.inRound lq) n P Q a w :=
  wpIn_region_any hm (any_round hd hq _ _ _ _ (wpAny_of_held _ _ _ _ (h _ rfl hS)))
theorem exec_slice {P : Program} {o : Oper} {a : Act} {w : World} (t : TypeId) (x lo hi : Operand) (ho : o.op = .slice t x (some lo) (some hi) none) (vx vl vh : Value) (hx : a.eval x = vx) (hl : a.eval lo = vl) (hh : a.eval hi = vh) {v : Value}
    (hr : (Instr.sliceAt t vx (some vl) (some vh) none).run P w = .ok v w) : (execOp a.eval o).run P w = .ok (.value v) w := by
  unfold execOp
  simp only [ho, Option.map_some, Option.map_none, hx, hl, hh, Sem.run_bind, hr, Result.andThen_ok, Sem.run_pure]
theorem bytes_cut (p : Addr) (n cap i j : Nat) (hij : i ≤ j) (hj : j ≤ n) (hc : n ≤ cap) (hi : i < cap) (w : World) :
    (Instr.sliceAt 41 (.slice (some p) n cap) (some (.int .u64 (i : Int))) (some (.int .u64 (j : Int))) none).run Try.prog w = .ok (.slice (some (p.add i)) (j - i) (cap - i)) w := by
  have he : Try.prog.underlying 41 = some (.slice (Try.prog.elem 41)) := by kernel_rfl
  rw [run_sliceAt_slice w _ _ _ _ _ he, run_slice_lh w _ _ _ _ he .u64 .u64 (i : Int) (j : Int) (by omega) (by omega) (by omega)]
  have hs : (sizeOf (Try.prog.elem 41)).run Try.prog w = .ok 1 w := by kernel_rfl
  rw [hs]
  simp only [Result.andThen_ok, sliced, Int.toNat_natCast]
  rw [if_neg (by omega)]
  simp
/-- A round's state. -/
def WrI (V : World) (G : Nat → Prop) (b n at_ : Nat) (m : Bytes8) (l : List UInt8) (pre : List (PB (at_, l.length))) (W : World) : Prop :=
  ∃ G' D', Pg W G' b (n + pre.length) D' (wrP m l pre) noX ∧ Turn G V W ∧ ∀ i, G' i → G i ∨ V.heap.size ≤ i
theorem WrI.from {V : World} {G : Nat → Prop} {b n at_ : Nat} {m : Bytes8} {l : List UInt8} (hb : b < V.heap.size) : OwnFrom V.heap.size (WrI V G b n at_ m l) := fun _ _ _ _ ⟨G', D', h1, h2, h3⟩ hg hr =>
  ⟨G', D', h1.own_from hb hg hr, h2.own_from (Nat.le_refl _) hg fun r e => (hr r e).1, h3⟩
theorem WrI.done {w V : World} {G : Nat → Prop} {b n at_ : Nat} {m : Bytes8} {l : List UInt8} {W : World} (hw : Below w.heap.size w V) (hle : l.length ≤ 1048576) (h : WrI V G b n at_ m l (basesL (at_, l.length) (pcnt (at_, l.length))) W) :
    ∃ G' D', Pg W G' b (n + 300) D' (wrM m at_ l) noX ∧ Turn G w W ∧ ∀ i, G' i → G i ∨ w.heap.size ≤ i := by
  obtain ⟨G', D', h1, h2, h3⟩ := h
  rw [wrP_all, basesL_length _ _ (Nat.le_refl _)] at h1
  have hp := pcnt_le (at_, l.length) hle
  have hs := hw.size
  exact ⟨G', D', h1.mono (by omega), (Turn.of_below hw).andThen h2, fun i hi => (h3 i hi).imp id fun h => by omega⟩

theorem WrI.step {V W Wd w1 : World} {G G' G2 : Nat → Prop} {b n at_ Bs : Nat} {m : Bytes8} {l : List UInt8} {pre : List (PB (at_, l.length))} {x : PB (at_, l.length)} {D' D2 : DataW Unit} (hb : b < V.heap.size) (hBs : Bs < V.heap.size) (hnB : ¬ G Bs)
    (hp : Pg W G' b (n + pre.length) D' (wrP m l pre) noX) (ht : Turn G V W) (hg : ∀ i, G' i → G i ∨ V.heap.size ≤ i) (hd : Below W.heap.size W Wd)
    (hp2 : Pg w1 G2 b (n + pre.length + 1) D2 (wrM (wrP m l pre) (x.1 + wFrom x.1 (at_, l.length)) ((l.drop (x.1 + wFrom x.1 (at_, l.length) - at_)).take (wTo x.1 (at_, l.length) - wFrom x.1 (at_, l.length)))) noX) (ht2 : Turn G' Wd w1) (hg2 : ∀ i, G2 i → G' i ∨ Wd.heap.size ≤ i) :
    KeepsFrom V.heap.size W w1 ∧ KB Bs W w1 ∧ WrI V G b n at_ m l (pre ++ [x]) w1 := by
  have h1 : Turn G' W w1 := (Turn.of_below hd).andThen ht2
  have hs := ht.size
  have hds := hd.size
  refine ⟨hp.keeps hb h1, KB.turn h1 (by omega) fun e => ?_, G2, D2, ?_, ht.trans h1 hg, fun i hi => ?_⟩
  · rcases hg Bs e with h | h
    · exact hnB h
    · omega
  · rw [wrP_snoc m l rfl, List.length_append]; exact hp2
  · rcases hg2 i hi with h | h
    · exact hg i h
    · exact Or.inr (by omega)

set_option maxRecDepth 100000 in
set_option maxHeartbeats 4000000 in
theorem write_any {w : World} {G : Nat → Prop} {b n : Nat} {D : DataW Unit} {m : Bytes8} (hP : Pg w G b n D m noX) (hn : n + 300 < maxLen) (at_ : Nat) (l : List UInt8) (hle : l.length ≤ 1048576) (hab : at_ < 18446744073709551616 ∧ (0 < l.length → at_ + l.length ≤ 1099511627776))
    (A : Option Addr) (cap : Nat) (hA : Lies w w.heap.size 1 A l.length (u8s l)) (hcap : l.length ≤ cap) (hag : ∀ p, A = some p → l.length ≠ 0 → ¬ G p.block) :
    Calls Try.prog 48 #[.map (some b), .agg #[.int .u64 (at_ : Int), .int .u64 (l.length : Int)], .slice A l.length cap] w fun e w' => e = .returned (.tuple #[]) ∧
      ∃ G' D', Pg w' G' b (n + 300) D' (wrM m at_ l) noX ∧ Turn G w w' ∧ ∀ i, G' i → G i ∨ w.heap.size ≤ i := by
  have HN := Lib.hid (And.intro hn (And.intro hle (And.intro hab hcap)))
  have hbl := hP.lt b hP.gb
  obtain ⟨V, hV⟩ : ∃ V, V = (((w.alloc (.cells #[.map (some b)] 85)).alloc (.cells (boxSp at_ l.length) 24)).alloc (.cells #[.slice A l.length cap] 41)).alloc (.cells (boxSp at_ l.length) 24) := ⟨_, rfl⟩
  have hsz : V.heap.size = w.heap.size + 4 := by rw [hV]; simp
  have hBV : Below w.heap.size w V := by rw [hV]; exact ((((Below.refl _ _).alloc (by simp <;> omega) _).alloc (by simp <;> omega) _).alloc (by simp <;> omega) _).alloc (by simp <;> omega) _
  have hB0 : Blk V w.heap.size 85 #[.map (some b)] := by rw [hV]; exact (((Blk.new _ _ _ rfl).alloc _).alloc _).alloc _
  have hB1 : Blk V (w.heap.size + 1) 24 (boxSp at_ l.length) := by rw [hV]; exact ((Blk.new _ _ _ (by simp)).alloc _).alloc _
  have hB2 : Blk V (w.heap.size + 1 + 1) 41 #[.slice A l.length cap] := by rw [hV]; exact (Blk.new _ _ _ (by simp)).alloc _
  have hB3 : Blk V (w.heap.size + 1 + 1 + 1) 24 (boxSp at_ l.length) := by rw [hV]; exact Blk.new _ _ _ (by simp)
  have hGl : ∀ i, w.heap.size ≤ i → ¬ G i := fun i hi hg => by have := hP.lt i hg; omega
  have HP := Lib.hid (hP.under hBV)
  have HAV := Lib.hid (hA.below hBV)
  have HG := Lib.hid (And.intro hGl (And.intro hbl hag))
  have HBV := Lib.hid hBV
  have HSZ := Lib.hid hsz
  have HB := Lib.hid (And.intro hB0 (And.intro hB1 (And.intro hB2 hB3)))
  have HV := Lib.hid hV
  clear hP hn hle hab hA hcap hag hbl hV hsz hBV hB0 hB1 hB2 hB3 hGl
  refine (callsIn_wide (n := 10)).1 ?_
  refine callsIn_of_wp_marks Try.func48 rfl trivial ?_ rfl
  simp only [Try.ntmps48, List.size_toArray, List.length_cons, List.length_nil, Nat.reduceAdd, Nat.reduceSub, Array.replicate_succ, Array.replicate_zero, List.push_toArray, List.append_toArray, List.nil_append, List.cons_append]
  gi_wp2_with (first
    | (refine ⟨trivial, ?_⟩
       gi_at_call 65
       refine (callsIn_wide.2 (bases_any at_ l.length _)).mono ?_
       rintro e w1 ⟨rfl, hw1⟩
       obtain rfl : w1 = V := by rw [HV.out]; exact hw1
       clear hw1))
  refine wpIn_rangeFunc_ownH rfl (by omega) (gf := 74) (lb := #[.pointer (some ⟨w.heap.size + 1 + 1 + 1, 0, none⟩)]) rfl trivial (by intro args W; rfl) (bases_stops _ (by omega) (w.heap.size + 1 + 1 + 1) at_ l.length HN.out.2.2.1 w1 HB.out.2.2.2)
    KB.trans (fun W l o o' hl _ _ _ => KB.putObj _ (by have := HSZ.out; omega)) (Below.refl _ _) (fun _ => rfl)
    (WrI w1 G b n at_ m l)
    (fun _ _ _ => False)
    (WrI.from (by have := HG.out.2.1; have := HSZ.out; omega))
    (fun _ _ _ _ _ hs _ _ => hs)
    ⟨G, D, by rw [wrP_nil]; exact HP.out, Turn.refl _ _, fun i hi => Or.inl hi⟩
    (fun x a' _ => a' = { tmps := #[.map (some b), .agg #[.int .u64 (at_ : Int), .int .u64 (l.length : Int)], .slice A l.length cap, .pointer (some ⟨w.heap.size, 0, none⟩), .pointer (some ⟨w.heap.size + 1, 0, none⟩), .pointer (some ⟨w.heap.size + 1 + 1, 0, none⟩), .int .u64 (x.1 : Int), undef, undef, undef, .agg #[.int .u64 (at_ : Int), .int .u64 (l.length : Int)], .func (.func 74) #[] #[.pointer (some ⟨w.heap.size + 1 + 1 + 1, 0, none⟩)], .int .u64 (x.1 : Int), undef, undef, undef, undef, undef, undef, undef, undef, undef, undef, undef, undef, undef, undef, undef, undef, undef, undef, undef, undef, undef, undef, undef, undef], defers := [] })
    (fun _ _ _ _ _ _ hs _ _ => hs)
    ?assign ?body ?done ?stop
  case assign =>
    rintro lq pre x W K hI hK
    unfold encPB
    gi_wp2
    exact hK _ _ (KeepsFrom.refl _ _) (KB.refl _ _) hI rfl
  case body =>
    rintro lq pre ⟨x, hx⟩ a' W hl0 ⟨r, hr⟩ ⟨G', D', hp, ht, hg⟩ rfl hlt
    have hb := within_bounds hx
    obtain ⟨f, hf⟩ : ∃ f, f = wFrom x (at_, l.length) := ⟨_, rfl⟩
    obtain ⟨t, ht2⟩ : ∃ t, t = wTo x (at_, l.length) := ⟨_, rfl⟩
    obtain ⟨y, hy⟩ : ∃ y, y = x + f := ⟨_, rfl⟩
    obtain ⟨q, hq⟩ : ∃ q, q = y - at_ := ⟨_, rfl⟩
    obtain ⟨z, hz⟩ : ∃ z, z = q + t := ⟨_, rfl⟩
    obtain ⟨u, hu⟩ : ∃ u, u = z - f := ⟨_, rfl⟩
    obtain ⟨l2, hl2⟩ : ∃ l2, l2 = (l.drop q).take (t - f) := ⟨_, rfl⟩
    simp only at hb
    rw [← hf, ← ht2] at hb
    obtain ⟨hn1, hn2, hn3', hn4⟩ := HN.out
    have hn3 := hn3'.2 hx.2.2.2
    have hll : l2.length = t - f := by rw [hl2]; simp; omega
    have hl0' : 0 < l.length := hx.2.2.2
    obtain ⟨p, rfl, hpb, -⟩ := HAV.out.2 (by omega)
    have hxl : x < 18446744073709551616 := by have := hx.2.1; simp only at this; omega
    have hx4 : x % 4096 = 0 := hx.1
    have e1 : IntKind.u64.wrap ((x : Int) + (f : Int)) = (y : Int) := by simp [IntKind.wrap, IntKind.bits, IntKind.signed]; omega
    have e2 : IntKind.u64.wrap ((y : Int) - (at_ : Int)) = (q : Int) := by simp [IntKind.wrap, IntKind.bits, IntKind.signed]; omega
    have e3 : IntKind.u64.wrap ((q : Int) + (t : Int)) = (z : Int) := by simp [IntKind.wrap, IntKind.bits, IntKind.signed]; omega
    have e4 : IntKind.u64.wrap ((z : Int) - (f : Int)) = (u : Int) := by simp [IntKind.wrap, IntKind.bits, IntKind.signed]; omega
    have HSL : Hid (∀ W2, (Instr.sliceAt 41 (.slice (some p) l.length cap) (some (.int .u64 (q : Int))) (some (.int .u64 (u : Int))) none).run Try.prog W2 = .ok (.slice (some (p.add q)) l2.length (cap - q)) W2) := Lib.hid fun W2 => by
      have := bytes_cut p l.length cap q u (by omega) (by omega) hn4 (by omega) W2
      rw [hll, show t - f = u - q by omega]; exact this
    have HWT : Hid (∀ W2, Calls Try.prog 66 #[.int .u64 (x : Int), .agg #[.int .u64 (at_ : Int), .int .u64 (l.length : Int)]] W2 fun e w' => e = .returned (.tuple #[.int .u64 (f : Int), .int .u64 (t : Int)]) ∧ Below W2.heap.size W2 w') := Lib.hid fun W2 => by
      have := within9_any x at_ l.length hx4 hn3 hxl W2
      rw [if_pos hx, if_pos hx, ← hf, ← ht2] at this
      exact this
    have hgn : ∀ i, w.heap.size ≤ i → i < w1.heap.size → ¬ G' i := fun i h1 h2 h3 => by
      rcases hg i h3 with h | h
      · exact HG.out.1 i h1 h
      · omega
    have hag' : ¬ G' p.block := fun h3 => by
      have hwl := HBV.out.size
      rcases hg _ h3 with h | h
      · exact HG.out.2.2 p rfl (by omega) h
      · omega
    have hsz := HSZ.out
    have hB0 := HB.out.1.turn ht (HG.out.1 _ (by omega))
    have hB1 := HB.out.2.1.turn ht (HG.out.1 _ (by omega))
    have hB2 := HB.out.2.2.1.turn ht (HG.out.1 _ (by omega))
    have HBX : Hid (∀ v, Turn G' W v → v.cell? ⟨w.heap.size, 0, none⟩ = some (.map (some b)) ∧ v.cell? ⟨w.heap.size + 1, 0, none⟩ = some (.int .u64 (at_ : Int)) ∧ v.cell? ⟨w.heap.size + 1, 1, none⟩ = some (.int .u64 (l.length : Int)) ∧ v.cell? ⟨w.heap.size + 1 + 1, 0, none⟩ = some (.slice (some p) l.length cap)) := Lib.hid fun v hv =>
      ⟨(hB0.turn hv (hgn _ (by omega) (by omega))).cellAt 0 rfl, (hB1.turn hv (hgn _ (by omega) (by omega))).cellAt 0 rfl, (hB1.turn hv (hgn _ (by omega) (by omega))).cellAt 1 rfl, (hB2.turn hv (hgn _ (by omega) (by omega))).cellAt 0 rfl⟩
    have HLA : Hid (∀ v, Below W.heap.size W v → Calls Try.prog 67 #[.map (some b), .int .u64 (x : Int), .int .u64 (f : Int), .slice (some (p.add q)) l2.length (cap - q)] v fun e w' => e = .returned (.tuple #[]) ∧
        ∃ G2 D2, Pg w' G2 b (n + pre.length + 1) D2 (wrM (wrP m l pre) (x + f) l2) noX ∧ Turn G' v w' ∧ ∀ i, G2 i → G' i ∨ v.heap.size ≤ i) := Lib.hid fun v hv => by
      have hpl := pcnt_le (at_, l.length) hn2
      have hsz2 := HBV.out.size
      have hlies := ((HAV.out.turn ht (by omega) fun p' e _ => by cases e; exact HG.out.2.2 p rfl (by omega)).below (hv.mono (Nat.le_trans hsz2 ht.size))).cut rfl q (t - f) (by omega)
      rw [← hl2, ← hll] at hlies
      exact lay_any (hp.under hv) (by unfold maxLen at hn1 ⊢; omega) hx4 hxl f l2 (by omega) (by omega) (p.add q) (cap - q) (hlies.wide (by have := ht.size; have := hv.size; omega)) (by rw [addr_add_block]; exact hag')
    have HF : Hid (∀ Wd v G2 D2, Below W.heap.size W Wd → Pg v G2 b (n + pre.length + 1) D2 (wrM (wrP m l pre) (x + f) l2) noX → Turn G' Wd v → (∀ i, G2 i → G' i ∨ Wd.heap.size ≤ i) →
        KeepsFrom w1.heap.size W v ∧ KB (w.heap.size + 1 + 1 + 1) W v ∧ WrI w1 G b n at_ m l (pre ++ [⟨x, hx⟩]) v) := Lib.hid fun Wd v G2 D2 h1 h2 h3 h4 =>
      WrI.step (x := ⟨x, hx⟩) (by have := HG.out.2.1; omega) (by omega) (HG.out.1 _ (by omega)) hp ht hg h1 (by
        have e : (l.drop (x + wFrom x (at_, l.length) - at_)).take (wTo x (at_, l.length) - wFrom x (at_, l.length)) = l2 := by rw [hl2, hq, hy, ht2, hf]
        rw [e, ← hf]; exact h2) h3 h4
    obtain ⟨c0, c1, c2, c3⟩ := HBX.out W (Turn.refl _ _)
    clear hb hf ht2 hy hq hz hu hl2 hn1 hn2 hn3 hn3' hn4 hll hl0' hpb hxl hx4 hgn hag' hsz hB0 hB1 hB2 hp ht hg hlt hr hl0
    gi_wp2_with (first
      | (refine ⟨trivial, ?_⟩; gi_at_call 66; refine (CallsIn.inRound lq (callsIn_wide.2 (HWT.out _))).mono ?_; rintro e w2 ⟨rfl, hd⟩; have HD := Lib.hid hd; obtain ⟨c0, c1, c2, c3⟩ := HBX.out w2 (Turn.of_below hd); clear hd)
      | fail)
    refine wpIn_region_held_in (S := fun Y => Y.cell? ⟨w.heap.size, 0, none⟩ = some (.map (some b)) ∧ Y.cell? ⟨w.heap.size + 1, 0, none⟩ = some (.int .u64 (at_ : Int)) ∧ Y.cell? ⟨w.heap.size + 1, 1, none⟩ = some (.int .u64 (l.length : Int)) ∧ Y.cell? ⟨w.heap.size + 1 + 1, 0, none⟩ = some (.slice (some p) l.length cap)) (by kernel_rfl) (by kernel_rfl) (by rintro ⟨_, _, h⟩; exact h) ⟨c0, c1, c2, c3⟩ (fun Wd hWd hS => ?_)
    have hd2 : Below W.heap.size W Wd := by rw [hWd]; exact ⟨HD.out.os, HD.out.tape, HD.out.output, HD.out.size, HD.out.block⟩
    have HD2 := Lib.hid hd2
    have HLAY := Lib.hid (HLA.out Wd hd2)
    have HBX2 : Hid (∀ v, Turn G' Wd v → v.cell? ⟨w.heap.size, 0, none⟩ = some (.map (some b)) ∧ v.cell? ⟨w.heap.size + 1, 0, none⟩ = some (.int .u64 (at_ : Int)) ∧ v.cell? ⟨w.heap.size + 1, 1, none⟩ = some (.int .u64 (l.length : Int)) ∧ v.cell? ⟨w.heap.size + 1 + 1, 0, none⟩ = some (.slice (some p) l.length cap)) := Lib.hid fun v hv => HBX.out v ((Turn.of_below hd2).andThen hv)
    clear hWd hd2 c0 c1 c2 c3
    (refine held_take (i := 0) (oi := ?ot1) (v := ?vt1) ?at1 (by kernel_rfl) (by kernel_rfl) (by kernel_rfl) ?bt1 ?ct1 ?dt1 (by assumption) ?rt1; (case at1 => (simp only [List.getElem?_toArray, List.getElem?_cons_zero]; rfl)); (case bt1 => exact fun _ _ _ h => h); (case ct1 => kernel_rfl); (case dt1 => (intro W hW; (try dsimp only at hW); go_split_ands; go_simp; (try with_reducible rfl))); (case' rt1 => simp only [Act.put, List.setIfInBounds_toArray, List.set_cons_zero, List.set_cons_succ]))
    (refine held_take (i := 1) (oi := ?ot2) (v := ?vt2) ?at2 (by kernel_rfl) (by kernel_rfl) (by kernel_rfl) ?bt2 ?ct2 ?dt2 (by assumption) ?rt2; (case at2 => (simp only [List.getElem?_toArray, List.getElem?_cons_zero, List.getElem?_cons_succ]; rfl)); (case bt2 => exact fun _ _ _ h => h); (case ct2 => kernel_rfl); (case dt2 => (intro W hW; (try dsimp only at hW); go_split_ands; go_simp; (try with_reducible rfl))); (case' rt2 => simp only [Act.put, List.setIfInBounds_toArray, List.set_cons_zero, List.set_cons_succ]))
    (refine held_take (i := 2) (oi := ?ot3) (v := ?vt3) ?at3 (by kernel_rfl) (by kernel_rfl) (by kernel_rfl) ?bt3 ?ct3 ?dt3 (by assumption) ?rt3; (case at3 => (simp only [List.getElem?_toArray, List.getElem?_cons_zero, List.getElem?_cons_succ]; rfl)); (case bt3 => exact fun _ _ _ h => h); (case ct3 => kernel_rfl); (case dt3 => (intro W hW; (try dsimp only at hW); go_split_ands; go_simp; (try with_reducible rfl))); (case' rt3 => simp only [Act.put, List.setIfInBounds_toArray, List.set_cons_zero, List.set_cons_succ]))
    (refine held_take (i := 3) (oi := ?ot4) (v := ?vt4) ?at4 (by kernel_rfl) (by kernel_rfl) (by kernel_rfl) ?bt4 ?ct4 ?dt4 (by assumption) ?rt4; (case at4 => (simp only [List.getElem?_toArray, List.getElem?_cons_zero, List.getElem?_cons_succ]; rfl)); (case bt4 => exact fun _ _ _ h => h); (case ct4 => kernel_rfl); (case dt4 => (intro W hW; (try dsimp only at hW); go_split_ands; go_simp; (try with_reducible rfl))); (case' rt4 => simp only [Act.put, List.setIfInBounds_toArray, List.set_cons_zero, List.set_cons_succ]))
    (refine held_take (i := 4) (oi := ?ot5) (v := ?vt5) ?at5 (by kernel_rfl) (by kernel_rfl) (by kernel_rfl) ?bt5 ?ct5 ?dt5 (by assumption) ?rt5; (case at5 => (simp only [List.getElem?_toArray, List.getElem?_cons_zero, List.getElem?_cons_succ]; rfl)); (case bt5 => exact fun _ _ _ h => h); (case ct5 => kernel_rfl); (case dt5 => (intro W hW; (try dsimp only at hW); go_split_ands; go_simp; (try with_reducible rfl))); (case' rt5 => simp only [Act.put, List.setIfInBounds_toArray, List.set_cons_zero, List.set_cons_succ]))
    (refine held_take (i := 5) (oi := ?ot6) (v := ?vt6) ?at6 (by kernel_rfl) (by kernel_rfl) (by kernel_rfl) ?bt6 ?ct6 ?dt6 (by assumption) ?rt6; (case at6 => (simp only [List.getElem?_toArray, List.getElem?_cons_zero, List.getElem?_cons_succ]; rfl)); (case bt6 => exact fun _ _ _ h => h); (case ct6 => kernel_rfl); (case dt6 => (intro W hW; (try dsimp only at hW); go_split_ands; go_simp; (try with_reducible rfl))); (case' rt6 => simp only [Act.put, List.setIfInBounds_toArray, List.set_cons_zero, List.set_cons_succ]))
    (refine held_take (i := 6) (oi := ?ot7) (v := ?vt7) ?at7 (by kernel_rfl) (by kernel_rfl) (by kernel_rfl) ?bt7 ?ct7 ?dt7 (by assumption) ?rt7; (case at7 => (simp only [List.getElem?_toArray, List.getElem?_cons_zero, List.getElem?_cons_succ]; rfl)); (case bt7 => exact fun _ _ _ h => h); (case ct7 => kernel_rfl); (case dt7 => (intro W hW; (try dsimp only at hW); go_split_ands; go_simp; (try with_reducible rfl))); (case' rt7 => simp only [Act.put, List.setIfInBounds_toArray, List.set_cons_zero, List.set_cons_succ]))
    (refine held_take (i := 7) (oi := ?ot8) (v := ?vt8) ?at8 (by kernel_rfl) (by kernel_rfl) (by kernel_rfl) ?bt8 ?ct8 ?dt8 (by assumption) ?rt8; (case at8 => (simp only [List.getElem?_toArray, List.getElem?_cons_zero, List.getElem?_cons_succ]; rfl)); (case bt8 => exact fun _ _ _ h => h); (case ct8 => kernel_rfl); (case dt8 => (intro W hW; (try dsimp only at hW); go_split_ands; go_simp; (try with_reducible rfl))); (case' rt8 => simp only [Act.put, List.setIfInBounds_toArray, List.set_cons_zero, List.set_cons_succ]))
    (refine held_take (i := 8) (oi := ?ot9) (v := ?vt9) ?at9 (by kernel_rfl) (by kernel_rfl) (by kernel_rfl) ?bt9 ?ct9 ?dt9 (by assumption) ?rt9; (case at9 => (simp only [List.getElem?_toArray, List.getElem?_cons_zero, List.getElem?_cons_succ]; rfl)); (case bt9 => exact fun _ _ _ h => h); (case ct9 => kernel_rfl); (case dt9 => (intro W hW; (try dsimp only at hW); go_split_ands; go_simp; (try with_reducible rfl))); (case' rt9 => simp only [Act.put, List.setIfInBounds_toArray, List.set_cons_zero, List.set_cons_succ]))
    (refine held_take (i := 9) (oi := ?ot10) (v := ?vt10) ?at10 (by kernel_rfl) (by kernel_rfl) (by kernel_rfl) ?bt10 ?ct10 ?dt10 (by assumption) ?rt10; (case at10 => (simp only [List.getElem?_toArray, List.getElem?_cons_zero, List.getElem?_cons_succ]; rfl)); (case bt10 => exact fun _ _ _ h => h); (case ct10 => kernel_rfl); (case dt10 => (intro W hW; (try dsimp only at hW); go_split_ands; go_simp; (try with_reducible rfl))); (case' rt10 => simp only [Act.put, List.setIfInBounds_toArray, List.set_cons_zero, List.set_cons_succ]))
    (refine held_take (i := 10) (oi := ?ot11) (v := .slice (some (p.add q)) l2.length (cap - q)) ?at11 (by kernel_rfl) (by kernel_rfl) (by kernel_rfl) ?bt11 ?ct11 ?dt11 (by assumption) ?rt11; (case at11 => (simp only [List.getElem?_toArray, List.getElem?_cons_zero, List.getElem?_cons_succ]; rfl)); (case bt11 => exact fun _ _ _ h => h); (case ct11 => kernel_rfl); (case dt11 => (intro W2 hW; clear hW; exact exec_slice _ _ _ _ rfl _ _ _ rfl rfl rfl (HSL.out W2))); (case' rt11 => simp only [Act.put, List.setIfInBounds_toArray, List.set_cons_zero, List.set_cons_succ]))
    refine held_one (i := 11) (oi := ?ot12) (by kernel_rfl) ?at12 ?ct12 (fun K11 hK11 => ?_)
    (case at12 => (simp only [List.getElem?_toArray, List.getElem?_cons_zero, List.getElem?_cons_succ]; rfl))
    (case ct12 => kernel_rfl)
    go_simp
    refine HLAY.out.mono ?_
    rintro e w3 ⟨rfl, G2, D2, hp2, ht2, hg2⟩
    have HW1 := Lib.hid (And.intro hp2 (And.intro ht2 hg2))
    refine hK11 _ _ (HBX2.out w3 ht2) (fun hS11 => ?_)
    clear hS hp2 ht2 hg2 hK11 K11
    refine wpAnyH_done (by kernel_rfl) ?_ _
    obtain ⟨hf1, hf2, hf3⟩ := HF.out Wd w3 G2 D2 HD2.out HW1.out.1 HW1.out.2.1 HW1.out.2.2
    exact ⟨hf1, hf2, hf3⟩
  case done =>
    rintro Dd ys W hD rfl hI hK
    have HQ := Lib.hid (WrI.done HBV.out HN.out.2.1 ((WrI.from (by have := HG.out.2.1; have := HSZ.out; omega) : OwnFrom w1.heap.size (WrI w1 G b n at_ m l)).putObj (.deferred none) hI hD hK rfl))
    clear hI
    gi_wp2
    refine ⟨by simp, .inl ⟨_, _, rfl, run_takeDeferred hK, ?_⟩⟩
    exact ⟨_, results_none rfl _ _ _, rfl, HQ.out⟩
  case stop =>
    rintro Dd c pre W _ _ h _
    exact h.elim
end Go.Proofs.Ytbemphfijkcbhaa
