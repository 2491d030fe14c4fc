/- mach.pages.read. -/
import Derived.Test.YtbemphfijkcbhaaWrite9
import Derived.Test.YtbemphfijkcbhaaCat
namespace Go.Proofs.Ytbemphfijkcbhaa
open Go.RowKit Go.Maps Go.Shelf
attribute [local go_sem] Oper.semAt_some

theorem exec_slice_lo {P : Program} {o : Oper} {a : Act} {w : World} (t : TypeId) (x lo : Operand) (ho : o.op = .slice t x (some lo) none none) (vx vl : Value) (hx : a.eval x = vx) (hl : a.eval lo = vl) {v : Value}
    (hr : (Instr.sliceAt t vx (some vl) none none).run P w = .ok v w) : (execOp a.eval o).run P w = .ok (.value v) w := by
  unfold execOp
  simp only [ho, Option.map_some, Option.map_none, hx, hl, Sem.run_bind, hr, Result.andThen_ok, Sem.run_pure]
theorem bytes_from (g n i : Nat) (hi : i < n) (w : World) :
    (Instr.sliceAt 41 (.slice (some ⟨g, 0, none⟩) n n) (some (.int .u64 (i : Int))) none none).run Try.prog w = .ok (.slice (some ⟨g, i, none⟩) (n - i) (n - i)) w := by
  have he : Try.prog.underlying 41 = some (.slice (Try.prog.elem 41)) := by kernel_rfl
  rw [run_sliceAt_slice w _ _ _ _ _ he, run_slice_l w _ _ _ _ he .u64 (i : Int) (by omega) (by omega)]
  have hs : (sizeOf (Try.prog.elem 41)).run Try.prog w = .ok 1 w := by kernel_rfl
  rw [hs]
  simp only [Result.andThen_ok, sliced, Int.toNat_natCast]
  rw [if_neg (by omega)]
  simp only [Option.map_some]
  rw [addr_off]
set_option maxRecDepth 100000 in
theorem make_pg (n : Nat) (hn : n ≤ 1048576) (w : World) :
    (Instr.makeSlice 41 (.int .u64 (n : Int)) (.int .u64 (n : Int))).run Try.prog w = .ok (.slice (some ⟨w.heap.size, 0, none⟩) n n) (w.alloc (.cells (vec n (bys fun _ => 0)) 5)) := by
  obtain ⟨i0, hi, hz0, hz1, hz2⟩ := info_parts u8_info
  have h := run_make (P := Try.prog) (w := w) 41 5 i0 (.int .u8 0) Try.underlying41 hi hz0 .u64 .u64 (n : Int) (n : Int) (by omega) (by omega) (by rw [hz2]; omega) (by omega)
  simp only [Int.toNat_natCast, hz1, Nat.mul_one] at h
  rw [h]
  congr 3
  apply Array.ext_getElem?
  intro i
  by_cases hi : i < n
  · rw [vec_at n _ i hi]; simp [madeCells, hi, bys, Value.cells, Nat.mod_one]
  · simp [madeCells, hi, vec]
/-- A round's state. -/
def RdI (V : World) (g a c : Nat) (m : Bytes8) (pre : List (PB (a, c))) (W : World) : Prop := Arr W g 5 c (bys (rdP m pre)) ∧ Save g V W
theorem RdI.from {V : World} {g a c : Nat} {m : Bytes8} (hg : g < V.heap.size) : OwnFrom V.heap.size (RdI V g a c m) := fun _ X Y row ⟨h1, h2⟩ hgr hr =>
  ⟨h1.grown hgr fun e => by have := (hr g e.symm).1; omega, ⟨hgr.os.trans h2.os, hgr.tape.trans h2.tape, hgr.output.trans h2.output, Nat.le_trans h2.size hgr.size, fun k hk hn => (hgr.block k (Nat.lt_of_lt_of_le hk h2.size) fun e => by have := (hr k e.symm).1; omega).trans (h2.block k hk hn)⟩⟩
theorem keeps_save {g : Nat} {t : TypeId} {n B : Nat} {f : Nat → Value} {W W' : World} (hA : Arr W g t n f) (h : Save g W W') : KeepsFrom B W W' :=
  ⟨h.size, fun k o _ ho hc => (h.block k (Array.getElem?_eq_some_iff.1 ho).1 fun e => by
    subst e
    unfold Arr at hA
    rw [hA] at ho
    cases ho
    cases hc).trans ho⟩
theorem RdI.step {V W Wd W2 : World} {g a c Bs q f t : Nat} {m : Bytes8} {pre : List (PB (a, c))} {x : PB (a, c)} (hBs : Bs < V.heap.size) (hne : Bs ≠ g) (hI : RdI V g a c m pre W) (hd : Below W.heap.size W Wd)
    (hf : f = wFrom x.1 (a, c)) (ht : t = wTo x.1 (a, c)) (hq : q = x.1 + f - a) (hW2 : W2 = Wd.setRow g (vec c (spl q (t - f) (bys fun i => m (x.1 + f + i)) (bys (rdP m pre))))) :
    KeepsFrom V.heap.size W W2 ∧ KB Bs W W2 ∧ RdI V g a c m (pre ++ [x]) W2 := by
  have hs : Save g W W2 := by rw [hW2]; exact (Save.of_below hd).setRow _
  have hb := within_bounds x.2
  rw [← hf, ← ht] at hb
  simp only at hb
  refine ⟨keeps_save hI.1 hs, ⟨hs.size, hs.block _ (Nat.lt_of_lt_of_le hBs hI.2.size) hne⟩, ?_, hI.2.trans hs⟩
  rw [hW2]
  refine ((hI.1.under hd).row _).congr fun j hj => ?_
  have e := rdP_snoc m pre x j hj
  simp only at e
  rw [← hf, ← ht, ← hq] at e
  unfold spl bys
  dsimp only
  by_cases h : q ≤ j ∧ j < q + (t - f)
  · rw [if_pos h, e, if_pos h, show x.1 + f + (j - q) = a + j by omega]
  · rw [if_neg h, e, if_neg h]
theorem RdI.skip {V W : World} {g a c Bs : Nat} {m : Bytes8} {pre : List (PB (a, c))} {x : PB (a, c)} (hI : RdI V g a c m pre W) (hz : ∀ i, i < 4096 → m (x.1 + i) = 0) :
    KeepsFrom V.heap.size W W ∧ KB Bs W W ∧ RdI V g a c m (pre ++ [x]) W :=
  ⟨KeepsFrom.refl _ _, KB.refl _ _, hI.1.congr fun j _ => by unfold bys; rw [rdP_zero m pre x hz], hI.2⟩

set_option maxRecDepth 100000 in
set_option maxHeartbeats 4000000 in
theorem read_any {w : World} {G : Nat → Prop} {b n : Nat} {D : DataW Unit} {m : Bytes8} (hP : Pg w G b n D m noX) (a c : Nat) (hle : c ≤ 1048576) (hab : a < 18446744073709551616 ∧ (0 < c → a + c ≤ 1099511627776)) :
    Calls Try.prog 47 #[.map (some b), .agg #[.int .u64 (a : Int), .int .u64 (c : Int)]] w fun e w' => ∃ g, e = .returned (.slice (some ⟨g, 0, none⟩) c c) ∧ w.heap.size ≤ g ∧ Arr w' g 5 c (bys fun j => m (a + j)) ∧ Below w.heap.size w w' := by
  have HN := Lib.hid (And.intro hle hab)
  obtain ⟨V, hV⟩ : ∃ V, V = ((((w.alloc (.cells #[.map (some b)] 85)).alloc (.cells (boxSp a c) 24)).alloc (.cells (vec c (bys fun _ => 0)) 5)).alloc (.cells #[.slice (some ⟨w.heap.size + 1 + 1, 0, none⟩) c c] 41)).alloc (.cells (boxSp a c) 24) := ⟨_, rfl⟩
  have hsz : V.heap.size = w.heap.size + 5 := by rw [hV]; simp
  have hBV : Below w.heap.size w V := by rw [hV]; exact (((((Below.refl _ _).alloc (by simp <;> omega) _).alloc (by simp <;> omega) _).alloc (by simp <;> omega) _).alloc (by simp <;> omega) _).alloc (by simp <;> omega) _
  have hB0 : Blk V w.heap.size 85 #[.map (some b)] := by rw [hV]; exact ((((Blk.new _ _ _ rfl).alloc _).alloc _).alloc _).alloc _
  have hB1 : Blk V (w.heap.size + 1) 24 (boxSp a c) := by rw [hV]; exact (((Blk.new _ _ _ (by simp)).alloc _).alloc _).alloc _
  have hB2 : Arr V (w.heap.size + 1 + 1) 5 c (bys fun _ => 0) := by rw [hV]; exact ((Arr.newAt _ _ _ _ (by simp)).alloc _).alloc _
  have hB3 : Blk V (w.heap.size + 1 + 1 + 1) 41 #[.slice (some ⟨w.heap.size + 1 + 1, 0, none⟩) c c] := by rw [hV]; exact (Blk.new _ _ _ (by simp)).alloc _
  have hB4 : Blk V (w.heap.size + 1 + 1 + 1 + 1) 24 (boxSp a c) := by rw [hV]; exact Blk.new _ _ _ (by simp)
  have HP := Lib.hid (hP.under hBV)
  have HGL : Hid (∀ i, G i → i < w.heap.size) := Lib.hid hP.lt
  have HBV := Lib.hid hBV
  have HSZ := Lib.hid hsz
  have HB := Lib.hid (And.intro hB0 (And.intro hB1 (And.intro hB2 (And.intro hB3 hB4))))
  have HV := Lib.hid hV
  have HMK := Lib.hid (make_pg c hle)
  clear hP hle hab hV hsz hBV hB0 hB1 hB2 hB3 hB4
  refine (callsIn_wide (n := 10)).1 ?_
  refine callsIn_of_wp_marks Try.func47 rfl trivial ?_ rfl
  simp only [Try.ntmps47, List.size_toArray, List.length_cons, List.length_nil, Nat.reduceAdd, Nat.reduceSub, Array.replicate_succ, Array.replicate_zero, List.push_toArray, List.append_toArray, List.nil_append, List.cons_append]
  have hmk := HMK.out
  gi_wp2_with (first
    | (refine ⟨trivial, ?_⟩
       gi_at_call 65
       refine (callsIn_wide.2 (bases_any a c _)).mono ?_
       rintro e w1 ⟨rfl, hw1⟩
       obtain rfl : w1 = V := by rw [HV.out]; exact hw1
       clear hw1))
  clear hmk
  refine wpIn_rangeFunc_ownH rfl (by omega) (gf := 74) (lb := #[.pointer (some ⟨w.heap.size + 1 + 1 + 1 + 1, 0, none⟩)]) rfl trivial (by intro args W; rfl) (bases_stops _ (by omega) (w.heap.size + 1 + 1 + 1 + 1) a c HN.out.2 w1 HB.out.2.2.2.2)
    KB.trans (fun W l o o' hl _ _ _ => KB.putObj _ (by have := HSZ.out; omega)) (Below.refl _ _) (fun _ => rfl)
    (RdI w1 (w.heap.size + 1 + 1) a c m)
    (fun _ _ _ => False)
    (RdI.from (by have := HSZ.out; omega))
    (fun _ _ _ _ _ hs _ _ => hs)
    ⟨by rw [rdP_nil]; exact HB.out.2.2.1, Save.refl _ _⟩
    (fun x a' _ => a' = { tmps := #[.map (some b), .agg #[.int .u64 (a : Int), .int .u64 (c : Int)], .pointer (some ⟨w.heap.size, 0, none⟩), .pointer (some ⟨w.heap.size + 1, 0, none⟩), .slice none 0 0, .pointer (some ⟨w.heap.size + 1 + 1 + 1, 0, none⟩), .int .u64 (x.1 : Int), undef, undef, undef, .pointer (some ⟨w.heap.size + 1, 1, none⟩), .int .u64 (c : Int), .slice (some ⟨w.heap.size + 1 + 1, 0, none⟩) c c, .agg #[.int .u64 (a : Int), .int .u64 (c : Int)], .func (.func 74) #[] #[.pointer (some ⟨w.heap.size + 1 + 1 + 1 + 1, 0, none⟩)], .int .u64 (x.1 : Int), undef, undef, undef, undef, undef, undef, undef, undef, undef, undef, undef, undef, undef, undef, undef, undef, undef, undef, undef, undef, undef, undef, undef, undef, undef, undef], defers := [] })
    (fun _ _ _ _ _ _ hs _ _ => hs)
    ?assign ?body ?done ?stop
  case assign =>
    rintro lq pre x W K hI hK
    unfold encPB
    gi_wp2
    exact hK _ _ (KeepsFrom.refl _ _) (KB.refl _ _) hI rfl
  case body =>
    rintro lq pre ⟨x, hx⟩ a' W hl0 ⟨r, hr⟩ hI rfl hlt
    have hxl : x < 18446744073709551616 := by have h0 := HN.out.2.2 hx.2.2.2; have := hx.2.1; simp only at this; omega
    have hx4 : x % 4096 = 0 := hx.1
    have hsz := HSZ.out
    have hgl := HGL.out
    have hs2 := hI.2
    have hp : Pg W G b n D m noX := HP.out.same hs2.size fun i hi => hs2.block i (by have := hgl i hi; omega) (by have := hgl i hi; omega)
    have hB0 := HB.out.1.save hs2 (by omega)
    have hB1 := HB.out.2.1.save hs2 (by omega)
    have hB3 := HB.out.2.2.2.1.save hs2 (by omega)
    have c0 := hB0.cellAt 0 (v := .map (some b)) rfl
    have c1 := hB1.cellAt 0 (v := .int .u64 (a : Int)) rfl
    have c2 := hB1.cellAt 1 (v := .int .u64 (c : Int)) rfl
    have hlk := hp.look hxl
    cases hk : pm D x with
    | none =>
      rw [hk] at hlk
      simp only [pval] at hlk
      have HQ := Lib.hid (RdI.skip (Bs := w.heap.size + 1 + 1 + 1 + 1) (x := ⟨x, hx⟩) hI (fun i hi => hp.no x hx4 hk i hi))
      clear hp hB0 hB1 hB3 hs2 hI hk hgl hr
      gi_wp2
      obtain ⟨hf1, hf2, hf3⟩ := HQ.out
      exact ⟨hf1, hf2, hf3⟩
    | some g =>
      rw [hk] at hlk
      simp only [pval] at hlk
      have hb := within_bounds hx
      obtain ⟨f, hf⟩ : ∃ f, f = wFrom x (a, c) := ⟨_, rfl⟩
      obtain ⟨t, ht2⟩ : ∃ t, t = wTo x (a, c) := ⟨_, rfl⟩
      obtain ⟨y, hy⟩ : ∃ y, y = x + f := ⟨_, rfl⟩
      obtain ⟨q, hq⟩ : ∃ q, q = y - a := ⟨_, rfl⟩
      (try simp only at hb)
      rw [← hf, ← ht2] at hb
      obtain ⟨hn1, hn2'⟩ := HN.out
      have hn2 := hn2'.2 hx.2.2.2
      have e1 : IntKind.u64.wrap ((x : Int) + (f : Int)) = (y : Int) := by simp [IntKind.wrap, IntKind.bits, IntKind.signed]; omega
      have e2 : IntKind.u64.wrap ((y : Int) - (a : Int)) = (q : Int) := by simp [IntKind.wrap, IntKind.bits, IntKind.signed]; omega
      have HS1 := Lib.hid (bytes_from (w.heap.size + 1 + 1) c q (by omega))
      have HS2 := Lib.hid (page_cut f t (by omega) (by omega) (by omega) g)
      have HWT : Hid (∀ W2, Calls Try.prog 66 #[.int .u64 (x : Int), .agg #[.int .u64 (a : Int), .int .u64 (c : Int)]] W2 fun e w' => e = .returned (.tuple #[.int .u64 (f : Int), .int .u64 (t : Int)]) ∧ Below W2.heap.size W2 w') := Lib.hid fun W2 => by
        have := within9_any x a c hx4 hn2 hxl W2
        rw [if_pos hx, if_pos hx, ← hf, ← ht2] at this
        exact this
      have HCC : Hid (∀ v, Below W.heap.size W v → v.cell? ⟨w.heap.size + 1, 0, none⟩ = some (.int .u64 (a : Int)) ∧ v.cell? ⟨w.heap.size + 1 + 1 + 1, 0, none⟩ = some (.slice (some ⟨w.heap.size + 1 + 1, 0, none⟩) c c)) := Lib.hid fun v hv => ⟨(hB1.under hv).cellAt 0 rfl, (hB3.under hv).cellAt 0 rfl⟩
      have HFI : Hid (∀ v v2, Below W.heap.size W v → v2 = v.setRow (w.heap.size + 1 + 1) (vec c (spl q (t - f) (bys fun i => m (x + f + i)) (bys (rdP m pre)))) →
          (v2.cell? ⟨w.heap.size + 1, 0, none⟩ = some (.int .u64 (a : Int)) ∧ v2.cell? ⟨w.heap.size + 1 + 1 + 1, 0, none⟩ = some (.slice (some ⟨w.heap.size + 1 + 1, 0, none⟩) c c)) ∧
          (∀ ty, (Builtin.copy_ #[41, 41] ty #[.slice (some ⟨w.heap.size + 1 + 1, q, none⟩) (c - q) (c - q), .slice (some ⟨g, f, none⟩) (t - f) (4096 - f)]).run Try.prog v = .ok (goInt ((t - f : Nat) : Nat)) v2) ∧
          KeepsFrom w1.heap.size W v2 ∧ KB (w.heap.size + 1 + 1 + 1 + 1) W v2 ∧ RdI w1 (w.heap.size + 1 + 1) a c m (pre ++ [⟨x, hx⟩]) v2) := Lib.hid fun v v2 hv hv2 => by
        refine ⟨?_, fun ty => ?_, RdI.step (x := ⟨x, hx⟩) (by omega) (by omega) hI hv hf ht2 (by rw [hq, hy]) hv2⟩
        · rw [hv2]; exact ⟨((hB1.under hv).rowFar (by omega) _).cellAt 0 rfl, ((hB3.under hv).rowFar (by omega) _).cellAt 0 rfl⟩
        · rw [hv2]
          refine run_copy_spl (t - f) (hI.1.under hv) Try.underlying41 info8 (Nat.min_eq_left (by omega)).symm (fun j hj => ?_) (by omega) (fun _ _ => rfl)
          have hA := (hp.under hv).pg x g hk
          have e : ((⟨g, f, none⟩ : Addr).add j) = ⟨g, f + j, none⟩ := by unfold Addr.add; by_cases h0 : j = 0 <;> simp [h0]
          rw [e, hA.2.2.2.1.cell (by omega)]
          simp only [bys, Nat.add_assoc]
      clear hp hB0 hB1 hB3 hs2 hI hk hgl hr hf ht2 hy hq hb hn1 hn2 hn2' hlt hl0 hx4 hxl hsz
      gi_wp2_with (first
        | (refine ⟨trivial, ?_⟩; gi_at_call 66; refine (CallsIn.inRound lq (callsIn_wide.2 (HWT.out _))).mono ?_; rintro e w2 ⟨rfl, hd⟩; have HD := Lib.hid hd; clear hd)
        | fail)
      refine wpIn_region_held_in (S := fun Y => Y.cell? ⟨w.heap.size + 1, 0, none⟩ = some (.int .u64 (a : Int)) ∧ Y.cell? ⟨w.heap.size + 1 + 1 + 1, 0, none⟩ = some (.slice (some ⟨w.heap.size + 1 + 1, 0, none⟩) c c)) (by kernel_rfl) (by kernel_rfl) (by rintro ⟨_, _, h⟩; exact h) (HCC.out w2 HD.out) (fun Wd hWd hS => ?_)
      have hd2 : Below W.heap.size W Wd := by rw [hWd]; exact ⟨HD.out.os, HD.out.tape, HD.out.output, HD.out.size, HD.out.block⟩
      obtain ⟨h1, h2, h3⟩ := HFI.out Wd _ hd2 rfl
      have HBX := Lib.hid h1
      have HCP := Lib.hid h2
      have HQ := Lib.hid h3
      clear hWd hd2 c0 c1 c2 hlk h1 h2 h3
      (refine held_take (i := 0) (oi := ?ot1) (v := ?vt1) ?at1 (by kernel_rfl) (by kernel_rfl) (by kernel_rfl) ?bt1 ?ct1 ?dt1 (by assumption) ?rt1; (case at1 => (simp only [List.getElem?_toArray, List.getElem?_cons_zero]; rfl)); (case bt1 => exact fun _ _ _ h => h); (case ct1 => kernel_rfl); (case dt1 => (intro W hW; (try dsimp only at hW); go_split_ands; go_simp; (try with_reducible rfl))); (case' rt1 => simp only [Act.put, List.setIfInBounds_toArray, List.set_cons_zero, List.set_cons_succ]))
      (refine held_take (i := 1) (oi := ?ot2) (v := ?vt2) ?at2 (by kernel_rfl) (by kernel_rfl) (by kernel_rfl) ?bt2 ?ct2 ?dt2 (by assumption) ?rt2; (case at2 => (simp only [List.getElem?_toArray, List.getElem?_cons_zero, List.getElem?_cons_succ]; rfl)); (case bt2 => exact fun _ _ _ h => h); (case ct2 => kernel_rfl); (case dt2 => (intro W hW; (try dsimp only at hW); go_split_ands; go_simp; (try with_reducible rfl))); (case' rt2 => simp only [Act.put, List.setIfInBounds_toArray, List.set_cons_zero, List.set_cons_succ]))
      (refine held_take (i := 2) (oi := ?ot3) (v := ?vt3) ?at3 (by kernel_rfl) (by kernel_rfl) (by kernel_rfl) ?bt3 ?ct3 ?dt3 (by assumption) ?rt3; (case at3 => (simp only [List.getElem?_toArray, List.getElem?_cons_zero, List.getElem?_cons_succ]; rfl)); (case bt3 => exact fun _ _ _ h => h); (case ct3 => kernel_rfl); (case dt3 => (intro W hW; (try dsimp only at hW); go_split_ands; go_simp; (try with_reducible rfl))); (case' rt3 => simp only [Act.put, List.setIfInBounds_toArray, List.set_cons_zero, List.set_cons_succ]))
      (refine held_take (i := 3) (oi := ?ot4) (v := ?vt4) ?at4 (by kernel_rfl) (by kernel_rfl) (by kernel_rfl) ?bt4 ?ct4 ?dt4 (by assumption) ?rt4; (case at4 => (simp only [List.getElem?_toArray, List.getElem?_cons_zero, List.getElem?_cons_succ]; rfl)); (case bt4 => exact fun _ _ _ h => h); (case ct4 => kernel_rfl); (case dt4 => (intro W hW; (try dsimp only at hW); go_split_ands; go_simp; (try with_reducible rfl))); (case' rt4 => simp only [Act.put, List.setIfInBounds_toArray, List.set_cons_zero, List.set_cons_succ]))
      (refine held_take (i := 4) (oi := ?ot5) (v := ?vt5) ?at5 (by kernel_rfl) (by kernel_rfl) (by kernel_rfl) ?bt5 ?ct5 ?dt5 (by assumption) ?rt5; (case at5 => (simp only [List.getElem?_toArray, List.getElem?_cons_zero, List.getElem?_cons_succ]; rfl)); (case bt5 => exact fun _ _ _ h => h); (case ct5 => kernel_rfl); (case dt5 => (intro W hW; (try dsimp only at hW); go_split_ands; go_simp; (try with_reducible rfl))); (case' rt5 => simp only [Act.put, List.setIfInBounds_toArray, List.set_cons_zero, List.set_cons_succ]))
      (refine held_take (i := 5) (oi := ?ot6) (v := ?vt6) ?at6 (by kernel_rfl) (by kernel_rfl) (by kernel_rfl) ?bt6 ?ct6 ?dt6 (by assumption) ?rt6; (case at6 => (simp only [List.getElem?_toArray, List.getElem?_cons_zero, List.getElem?_cons_succ]; rfl)); (case bt6 => exact fun _ _ _ h => h); (case ct6 => kernel_rfl); (case dt6 => (intro W hW; (try dsimp only at hW); go_split_ands; go_simp; (try with_reducible rfl))); (case' rt6 => simp only [Act.put, List.setIfInBounds_toArray, List.set_cons_zero, List.set_cons_succ]))
      (refine held_take (i := 6) (oi := ?ot7) (v := ?vt7) ?at7 (by kernel_rfl) (by kernel_rfl) (by kernel_rfl) ?bt7 ?ct7 ?dt7 (by assumption) ?rt7; (case at7 => (simp only [List.getElem?_toArray, List.getElem?_cons_zero, List.getElem?_cons_succ]; rfl)); (case bt7 => exact fun _ _ _ h => h); (case ct7 => kernel_rfl); (case dt7 => (intro W hW; (try dsimp only at hW); go_split_ands; go_simp; (try with_reducible rfl))); (case' rt7 => simp only [Act.put, List.setIfInBounds_toArray, List.set_cons_zero, List.set_cons_succ]))
      (refine held_take (i := 7) (oi := ?ot8) (v := .slice (some ⟨w.heap.size + 1 + 1, q, none⟩) (c - q) (c - q)) ?at8 (by kernel_rfl) (by kernel_rfl) (by kernel_rfl) ?bt8 ?ct8 ?dt8 (by assumption) ?rt8; (case at8 => (simp only [List.getElem?_toArray, List.getElem?_cons_zero, List.getElem?_cons_succ]; rfl)); (case bt8 => exact fun _ _ _ h => h); (case ct8 => kernel_rfl); (case dt8 => (intro W2 hW; clear hW; exact exec_slice_lo _ _ _ rfl _ _ rfl rfl (HS1.out W2))); (case' rt8 => simp only [Act.put, List.setIfInBounds_toArray, List.set_cons_zero, List.set_cons_succ]))
      (refine held_take (i := 8) (oi := ?ot9) (v := ?vt9) ?at9 (by kernel_rfl) (by kernel_rfl) (by kernel_rfl) ?bt9 ?ct9 ?dt9 (by assumption) ?rt9; (case at9 => (simp only [List.getElem?_toArray, List.getElem?_cons_zero, List.getElem?_cons_succ]; rfl)); (case bt9 => exact fun _ _ _ h => h); (case ct9 => kernel_rfl); (case dt9 => (intro W hW; (try dsimp only at hW); go_split_ands; go_simp; (try with_reducible rfl))); (case' rt9 => simp only [Act.put, List.setIfInBounds_toArray, List.set_cons_zero, List.set_cons_succ]))
      (refine held_take (i := 9) (oi := ?ot10) (v := ?vt10) ?at10 (by kernel_rfl) (by kernel_rfl) (by kernel_rfl) ?bt10 ?ct10 ?dt10 (by assumption) ?rt10; (case at10 => (simp only [List.getElem?_toArray, List.getElem?_cons_zero, List.getElem?_cons_succ]; rfl)); (case bt10 => exact fun _ _ _ h => h); (case ct10 => kernel_rfl); (case dt10 => (intro W hW; (try dsimp only at hW); go_split_ands; go_simp; (try with_reducible rfl))); (case' rt10 => simp only [Act.put, List.setIfInBounds_toArray, List.set_cons_zero, List.set_cons_succ]))
      (refine held_take (i := 10) (oi := ?ot11) (v := ?vt11) ?at11 (by kernel_rfl) (by kernel_rfl) (by kernel_rfl) ?bt11 ?ct11 ?dt11 (by assumption) ?rt11; (case at11 => (simp only [List.getElem?_toArray, List.getElem?_cons_zero, List.getElem?_cons_succ]; rfl)); (case bt11 => exact fun _ _ _ h => h); (case ct11 => kernel_rfl); (case dt11 => (intro W hW; (try dsimp only at hW); go_split_ands; go_simp; (try with_reducible rfl))); (case' rt11 => simp only [Act.put, List.setIfInBounds_toArray, List.set_cons_zero, List.set_cons_succ]))
      (refine held_take (i := 11) (oi := ?ot12) (v := ?vt12) ?at12 (by kernel_rfl) (by kernel_rfl) (by kernel_rfl) ?bt12 ?ct12 ?dt12 (by assumption) ?rt12; (case at12 => (simp only [List.getElem?_toArray, List.getElem?_cons_zero, List.getElem?_cons_succ]; rfl)); (case bt12 => exact fun _ _ _ h => h); (case ct12 => kernel_rfl); (case dt12 => (intro W hW; (try dsimp only at hW); go_split_ands; go_simp; (try with_reducible rfl))); (case' rt12 => simp only [Act.put, List.setIfInBounds_toArray, List.set_cons_zero, List.set_cons_succ]))
      (refine held_take (i := 12) (oi := ?ot13) (v := .slice (some ⟨g, f, none⟩) (t - f) (4096 - f)) ?at13 (by kernel_rfl) (by kernel_rfl) (by kernel_rfl) ?bt13 ?ct13 ?dt13 (by assumption) ?rt13; (case at13 => (simp only [List.getElem?_toArray, List.getElem?_cons_zero, List.getElem?_cons_succ]; rfl)); (case bt13 => exact fun _ _ _ h => h); (case ct13 => kernel_rfl); (case dt13 => (intro W2 hW; clear hW; exact exec_slice _ _ _ _ rfl _ _ _ rfl rfl rfl (HS2.out W2))); (case' rt13 => simp only [Act.put, List.setIfInBounds_toArray, List.set_cons_zero, List.set_cons_succ]))
      refine held_one (i := 13) (oi := ?ot14) (by kernel_rfl) ?at14 ?ct14 (fun K13 hK13 => ?_)
      (case at14 => (simp only [List.getElem?_toArray, List.getElem?_cons_zero, List.getElem?_cons_succ]; rfl))
      (case ct14 => kernel_rfl)
      refine ow_copy _ _ _ _ rfl _ _ rfl rfl (HCP.out _) ?_
      refine hK13 _ _ HBX.out (fun hS13 => ?_)
      clear hS hK13 K13
      refine wpAnyH_done (by kernel_rfl) ?_ _
      obtain ⟨hf1, hf2, hf3⟩ := HQ.out
      exact ⟨hf1, hf2, hf3⟩
  case done =>
    rintro Dd ys W hD rfl hI hK
    have hsz := HSZ.out
    have hB3 := HB.out.2.2.2.1.save hI.2 (by omega)
    have c3 := hB3.cellAt 0 (v := .slice (some ⟨w.heap.size + 1 + 1, 0, none⟩) c c) rfl
    have hI2 := (RdI.from (by omega) : OwnFrom w1.heap.size (RdI w1 (w.heap.size + 1 + 1) a c m)).putObj (.deferred none) hI hD hK rfl
    have HQ : Hid (Arr (W.putObj Dd (.deferred none)) (w.heap.size + 1 + 1) 5 c (bys fun j => m (a + j)) ∧ Below w.heap.size w (W.putObj Dd (.deferred none))) := Lib.hid
      ⟨hI2.1.congr fun j hj => by unfold bys; rw [rdP_all m (a, c) j hj], HBV.out.trans (hI2.2.below (by omega) (by omega))⟩
    clear hI hI2 hB3 hsz
    gi_wp2
    refine ⟨by simp, .inl ⟨_, _, rfl, run_takeDeferred hK, ?_⟩⟩
    exact ⟨_, results_tmp rfl _ _ _, _, rfl, by omega, HQ.out.1, HQ.out.2⟩
  case stop =>
    rintro Dd c' pre W _ _ h _
    exact h.elim
end Go.Proofs.Ytbemphfijkcbhaa
