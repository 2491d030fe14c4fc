/- The reference's reader: what a guest that is being read is; counts; keys. -/
import Derived.Test.YtmcpmcicolpoeaaDoorXr2
import Derived.Test.YtmcpmcicolpoeaaDoorGu
import Derived.Test.YtmcpmcicolpoeaaDoorWk
import Derived.Lib.AppendZeros
namespace Go.Proofs.YtmcpmcicolpoeaaDoor
open Go.RowKit
attribute [local go_sem ↓ high] builtin_appS

/-- All but the blocks g and u is as it was. -/
structure FT (g u : Nat) (w w' : World) : Prop where
  os : w'.os = w.os
  tape : w'.tape = w.tape
  output : w'.output = w.output
  size : w.heap.size ≤ w'.heap.size
  block : ∀ k, k < w.heap.size → k ≠ g → k ≠ u → w'.heap[k]? = w.heap[k]?
section
variable {g u : Nat} {v w w' : World}
theorem FT.refl (g u : Nat) (w : World) : FT g u w w := ⟨rfl, rfl, rfl, Nat.le_refl _, fun _ _ _ _ => rfl⟩
theorem FT.trans (h : FT g u v w) (k : FT g u w w') : FT g u v w' := ⟨k.os.trans h.os, k.tape.trans h.tape, k.output.trans h.output, Nat.le_trans h.size k.size, fun i hi h1 h2 => (k.block i (Nat.lt_of_lt_of_le hi h.size) h1 h2).trans (h.block i hi h1 h2)⟩
theorem FT.save (h : FT g u v w) (k : Save g w w') : FT g u v w' := h.trans ⟨k.os, k.tape, k.output, k.size, fun i hi h1 _ => k.block i hi h1⟩
theorem FT.saveU (h : FT g u v w) (k : Save u w w') : FT g u v w' := h.trans ⟨k.os, k.tape, k.output, k.size, fun i hi _ h2 => k.block i hi h2⟩
theorem FT.on (h : FT g u v w) (k : Below v.heap.size w w') (hs : w.heap.size ≤ w'.heap.size) : FT g u v w' := ⟨k.1.trans h.os, k.2.trans h.tape, k.3.trans h.output, Nat.le_trans h.size hs, fun i hi h1 h2 => (k.block i hi).trans (h.block i hi h1 h2)⟩
theorem FT.arr (h : FT g u w w') {q n : Nat} {t : TypeId} {f : Nat → Value} (ha : Arr w q t n f) (h1 : q ≠ g) (h2 : q ≠ u) : Arr w' q t n f := (h.block q ha.lt h1 h2).trans ha
theorem OwnE.ft {α : Type} {n : Nat} {enc : α → Nat → Value} {base : Nat} {t : TypeId} {x : Value} {l : List α} (h : OwnE t n enc w base x l) (k : FT g u w w') (hg : g < base) (hu : u < base) : OwnE t n enc w' base x l := by
  refine ⟨h.1, ?_⟩
  rcases h.2 with h2 | ⟨i, cap, cur, hv, hk, hh, r⟩
  · exact Or.inl h2
  · exact Or.inr ⟨i, cap, cur, hv, hk, (k.block i (Array.getElem?_eq_some_iff.1 hh).1 (by omega) (by omega)).trans hh, r⟩
end
/-- A guest that is being read, in block u. -/
structure GS (g : Nat) (A : Option Addr) (c : Nat) (b : By) (u : Nat) (V W : World) (st : Rs) (y : GV) : Prop where
  rq : RQ W g A c b st
  box : Arr W u 64 79 (guestE y)
  ft : FT g u V W
  gu : g < u
  uv : u < V.heap.size
section
variable {g c u : Nat} {A : Option Addr} {b : By} {V W W' : World} {st st' : Rs} {y y' : GV}
theorem GS.call (h : GS g A c b u V W st y) (hr : RQ W' g A c b st') (hs : Save g W W') : GS g A c b u V W' st' y := ⟨hr, h.box.save hs (Nat.ne_of_gt h.gu), h.ft.save hs, h.gu, h.uv⟩
theorem GS.on (h : GS g A c b u V W st y) (hb : Below W.heap.size W W') : GS g A c b u V W' st y := ⟨h.rq.under hb, h.box.under hb, h.ft.on (hb.mono h.ft.size) hb.size, h.gu, h.uv⟩
theorem GS.deep (h : GS g A c b u V W st y) (hb : Below V.heap.size W W') : GS g A c b u V W' st y :=
  ⟨⟨h.rq.arr.below hb (Nat.lt_trans h.gu h.uv), h.rq.lies.below (hb.mono (Nat.le_of_lt (Nat.lt_trans h.gu h.uv))), h.rq.cap, h.rq.len, h.rq.at_, h.rq.err⟩, h.box.below hb h.uv, h.ft.on hb hb.size, h.gu, h.uv⟩
theorem GS.cell (h : GS g A c b u V W st y) (i : Nat) (hi : i < 79) : W.cell? ⟨u, i, none⟩ = some (guestE y i) ∧ W.frozen? ⟨u, i, none⟩ = false := ⟨h.box.cell hi, h.box.frozen i⟩
theorem GS.set (h : GS g A c b u V W st y) (i : Nat) (v : Value) (hy : ∀ j, j < 79 → upd (guestE y) i v j = guestE y' j) : GS g A c b u V (W.setCell ⟨u, i, none⟩ v) st y' := by
  have hs : Save u W (W.setCell ⟨u, i, none⟩ v) := (Save.refl _ _).setCell i _
  exact ⟨h.rq.save hs h.gu, (h.box.set i v).congr hy, h.ft.saveU hs, h.gu, h.uv⟩
theorem GS.setRow (h : GS g A c b u V W st y) (f : Nat → Value) (hy : ∀ j, j < 79 → f j = guestE y' j) : GS g A c b u V (W.setRow u (vec 79 f)) st y' := by
  have hs : Save u W (W.setRow u (vec 79 f)) := (Save.refl _ _).setRow _
  exact ⟨h.rq.save hs h.gu, (h.box.row f).congr hy, h.ft.saveU hs, h.gu, h.uv⟩
/-- From here on. -/
theorem GS.base (h : GS g A c b u V W st y) : GS g A c b u W W st y := ⟨h.rq, h.box, FT.refl _ _ _, h.gu, Nat.lt_of_lt_of_le h.uv h.ft.size⟩
/-- A list of it that grows, made since V. -/
structure LsS {α : Type} (t : TypeId) (n : Nat) (enc : α → Nat → Value) (g : Nat) (A : Option Addr) (c : Nat) (b : By) (u : Nat) (V W : World) (st : Rs) (y : GV) (v : Value) (l : List α) : Prop where
  gs : GS g A c b u V W st y
  own : OwnE t n enc W V.heap.size v l
variable {α : Type} {t : TypeId} {n : Nat} {enc : α → Nat → Value} {v : Value} {l : List α}
theorem LsS.call (h : LsS t n enc g A c b u V W st y v l) (hr : RQ W' g A c b st') (hs : Save g W W') : LsS t n enc g A c b u V W' st' y v l := ⟨h.gs.call hr hs, h.own.save hs (Nat.lt_trans h.gs.gu h.gs.uv)⟩
theorem LsS.on (h : LsS t n enc g A c b u V W st y v l) (hb : Below W.heap.size W W') : LsS t n enc g A c b u V W' st y v l := ⟨h.gs.on hb, h.own.on hb (Nat.le_refl _)⟩
theorem LsS.set (h : LsS t n enc g A c b u V W st y v l) (i : Nat) (x : Value) (hy : ∀ j, j < 79 → upd (guestE y) i x j = guestE y' j) : LsS t n enc g A c b u V (W.setCell ⟨u, i, none⟩ x) st y' v l := ⟨h.gs.set i x hy, h.own.save ((Save.refl _ _).setCell i _) h.gs.uv⟩
/-- One more. -/
theorem LsS.app (h : LsS t n enc g A c b u V W st y v l) {ts : TypeId} {bytes : Nat} {z : Value} (hu : Tryd.prog.underlying ts = some (.slice t)) (hinfo : (Tryd.prog.info? t).map (fun i => (i.zero, i.size, i.bytes)) = some (some z, n, bytes)) (hz : z.cells.size = n) (hn : 0 < n)
    (h1 : ∀ (x : α) i, i < n → (enc x i).oneCell' = true) (x : α) (hl : l.length ≤ 1000) (hby : bytes ≤ 100000) (k : Nat) (hk : l.length = k) :
    ∃ B d w', (appS #[ts, ts] ts #[v, .slice (some ⟨W.heap.size, 0, none⟩) 1 1]).run Tryd.prog (W.alloc (.cells (vec n (enc x)) t)) = .ok (.slice B (k + 1) d) w' ∧ LsS t n enc g A c b u V w' st y (.slice B (k + 1) d) (l ++ [x]) := by
  subst hk
  obtain ⟨B, d, w', hr, h2, h3⟩ := app_E (P := Tryd.prog) hu hinfo hz hn h1 x h.own h.gs.ft.size (by omega) hby ts
  exact ⟨B, d, w', hr, h.gs.deep h3, h2⟩
end
/-! ### Keys -/
theorem take_key {b : By} {st : Rs} {l : By} {st1 : Rs} (h : TakeP b 68 st l st1) : StepP (keyC kOk) b st l (if kOk l = true then st1 else st1.fail 144 st.at_) := by
  unfold TakeP at h
  cases hs : st.err with
  | some x =>
    rw [hs] at h
    obtain ⟨rfl, -⟩ := h
    refine .of_some hs ?_
    split
    · exact hs
    · rw [Rs.fail_some _ _ hs]; exact hs
  | none =>
    rw [hs] at h
    simp only at h
    have hg : (keyC kOk).get b st.at_ = _ := raw_getX (m := 68) (enc := fun k => if k.length = 68 ∧ kOk k = true then .ok k else .error 144) (dec := fun l => if kOk l = true then .ok l else .error 144) b st.at_
    by_cases hf : st.at_ + 68 ≤ b.length
    · rw [if_pos hf] at h hg
      obtain ⟨h1, rfl⟩ := h
      rw [← h1] at hg
      cases hk : kOk l
      · rw [hk] at hg
        refine .of_err hs (x := (144, st.at_)) (by rw [hg]; rfl) ?_
        rfl
      · rw [hk] at hg
        exact .of_ok hs (q := st.at_ + 68) (by rw [hg]; rfl) rfl
    · rw [if_neg hf] at h hg
      obtain ⟨-, rfl⟩ := h
      refine .of_err hs hg ?_
      split <;> rfl
/-! ### Counts -/
def lo4 (k : Nat) : Nat := if k = 0 then 1 else 0
def mo4 (k : Nat) : Nat := if k = 0 then 16 else if k = 1 then 16 else if k = 2 then 64 else 32
/-- The first k counts were read. -/
def CntP (b : By) (s0 : Rs) : Nat → (Nat → Nat) → Rs → Prop
  | 0, _, st => st = s0
  | k + 1, nn, st => ∃ s1, CntP b s0 k nn s1 ∧ StepP (fld 2 (lo4 k) (mo4 k) 142) b s1 (nn k : Int) st
theorem CntP.congr {b : By} {s0 : Rs} : ∀ (k : Nat) (nn mm : Nat → Nat) (st : Rs), (∀ i, i < k → nn i = mm i) → CntP b s0 k nn st → CntP b s0 k mm st
  | 0, _, _, _, _, h => h
  | k + 1, nn, mm, st, he, ⟨s1, h1, h2⟩ => ⟨s1, CntP.congr k nn mm s1 (fun i hi => he i (by omega)) h1, by rw [← he k (by omega)]; exact h2⟩
theorem CntP.all {b : By} {s0 : Rs} {nn : Nat → Nat} {st : Rs} (h : CntP b s0 4 nn st) : StepP cntC b s0 ((nn 0 : Int), (nn 1 : Int), (nn 2 : Int), (nn 3 : Int)) st := by
  obtain ⟨s3, ⟨s2, ⟨s1, ⟨s, rfl, h0⟩, h1⟩, h2⟩, h3⟩ := h
  exact StepP.dep h0 (StepP.dep h1 (StepP.dep h2 h3))
theorem StepP.inB {m lo hi e : Nat} {b : By} {st s1 : Rs} {z : Nat} (h : StepP (fld m lo hi e) b st (z : Int) s1) (hn : s1.err = none) : st.err = none ∧ z ≤ hi := by
  obtain ⟨h0, hg⟩ := h.on hn
  refine ⟨h0, ?_⟩
  rw [fld_getX] at hg
  split at hg
  · split at hg
    · rename_i hc
      injection hg with hg
      injection hg with hg _
      omega
    · cases hg
  · cases hg
theorem CntP.bnd {b : By} {s0 : Rs} {nn : Nat → Nat} {st : Rs} (h : CntP b s0 4 nn st) (hn : st.err = none) : s0.err = none ∧ nn 0 ≤ 16 ∧ nn 1 ≤ 16 ∧ nn 2 ≤ 64 ∧ nn 3 ≤ 32 := by
  obtain ⟨s3, ⟨s2, ⟨s1, ⟨s, rfl, h0⟩, h1⟩, h2⟩, h3⟩ := h
  obtain ⟨e3, b3⟩ := h3.inB hn
  obtain ⟨e2, b2⟩ := h2.inB e3
  obtain ⟨e1, b1⟩ := h1.inB e2
  obtain ⟨e0, b0⟩ := h0.inB e1
  exact ⟨e0, b0, b1, b2, b3⟩
theorem StepP.bool {b : By} {st s1 : Rs} {n : Nat} (h : StepP (fld 4 0 1 144) b st (n : Int) s1) : StepP boolC b st ((n : Int) == 1) s1 := by
  have := StepP.map (f := fun z => decide (z = 1)) (g := fun b : Bool => cond b 1 0) h
  have e : ((n : Int) == 1) = decide ((n : Int) = 1) := by
    by_cases h : (n : Int) = 1
    · rw [h]; rfl
    · rw [decide_eq_false h]; simpa using h
  rw [e]
  exact this
section
variable {b : By} {st s1 s2 s3 s4 s5 s6 s7 s8 : Rs}
theorem step_win {a1 a2 a3 a4 : Int} (h1 : StepP u64C b st a1 s1) (h2 : StepP u64C b s1 a2 s2) (h3 : StepP u64C b s2 a3 s3) (h4 : StepP (fld 4 0 7 144) b s3 a4 s4) : StepP winC b st ⟨a1, a2, a3, a4⟩ s4 := by
  unfold winC
  exact StepP.map (f := fun x : Int × Int × Int × Int => (⟨x.1, x.2.1, x.2.2.1, x.2.2.2⟩ : Wi)) (StepP.dep (d := fun _ => u64C.dep fun _ => u64C.dep fun _ => fld 4 0 7 144) h1 (StepP.dep (d := fun _ => u64C.dep fun _ => fld 4 0 7 144) h2 (StepP.dep (d := fun _ => fld 4 0 7 144) h3 h4)))
theorem step_dev {a1 a2 a3 : Int} (h1 : StepP u64C b st a1 s1) (h2 : StepP u64C b s1 a2 s2) (h3 : StepP u64C b s2 a3 s3) : StepP devC b st ⟨a1, a2, a3⟩ s3 := by
  unfold devC
  exact StepP.map (f := fun x : Int × Int × Int => (⟨x.1, x.2.1, x.2.2⟩ : De)) (StepP.dep (d := fun _ => u64C.dep fun _ => u64C) h1 (StepP.dep (d := fun _ => u64C) h2 h3))
theorem step_irq {a1 a2 : Int} {a3 : Bool} (h1 : StepP (fld 2 0 65535 144) b st a1 s1) (h2 : StepP (fld 2 0 65535 144) b s1 a2 s2) (h3 : StepP boolC b s2 a3 s3) : StepP irqC b st ⟨a1, a2, a3⟩ s3 := by
  unfold irqC
  exact StepP.map (f := fun x : Int × Int × Bool => (⟨x.1, x.2.1, x.2.2⟩ : Ir)) (StepP.dep (d := fun _ => (fld 2 0 65535 144).dep fun _ => boolC) h1 (StepP.dep (d := fun _ => boolC) h2 h3))
theorem step_end {a1 a2 a3 : Int} (h1 : StepP (fld 2 0 65535 144) b st a1 s1) (h2 : StepP (fld 2 0 7 144) b s1 a2 s2) (h3 : StepP u64C b s2 a3 s3) : StepP endC b st ⟨a1, a2, a3⟩ s3 := by
  unfold endC
  exact StepP.map (f := fun x : Int × Int × Int => (⟨x.1, x.2.1, x.2.2⟩ : En)) (StepP.dep (d := fun _ => (fld 2 0 7 144).dep fun _ => u64C) h1 (StepP.dep (d := fun _ => u64C) h2 h3))
theorem step_ch {a1 a2 : Int} {e1 e2 : En} (h1 : StepP u64C b st a1 s1) (h2 : StepP u64C b s1 a2 s2) (h3 : StepP endC b s2 e1 s3) (h4 : StepP endC b s3 e2 s4) : StepP chC b st ⟨a1, a2, e1, e2⟩ s4 := by
  unfold chC
  exact StepP.map (f := fun x : Int × Int × En × En => (⟨x.1, x.2.1, x.2.2.1, x.2.2.2⟩ : Ch)) (StepP.dep (d := fun _ => u64C.dep fun _ => endC.dep fun _ => endC) h1 (StepP.dep (d := fun _ => endC.dep fun _ => endC) h2 (StepP.dep (d := fun _ => endC) h3 h4)))
theorem step_gh {n : By} {m : Bool} {a1 a2 a3 a4 a5 : Int} {k : By} (h1 : StepP nameC b st n s1) (h2 : StepP boolC b s1 m s2) (h3 : StepP u32C b s2 a1 s3) (h4 : StepP u32C b s3 a2 s4) (h5 : StepP u32C b s4 a3 s5) (h6 : StepP u64C b s5 a4 s6) (h7 : StepP u64C b s6 a5 s7) (h8 : StepP (keyC kOk) b s7 k s8) : StepP (ghC kOk) b st (n, m, a1, a2, a3, a4, a5, k) s8 := by
  unfold ghC
  exact StepP.dep (d := fun _ => boolC.dep fun _ => u32C.dep fun _ => u32C.dep fun _ => u32C.dep fun _ => u64C.dep fun _ => u64C.dep fun _ => keyC kOk) h1 (StepP.dep (d := fun _ => u32C.dep fun _ => u32C.dep fun _ => u32C.dep fun _ => u64C.dep fun _ => u64C.dep fun _ => keyC kOk) h2 (StepP.dep (d := fun _ => u32C.dep fun _ => u32C.dep fun _ => u64C.dep fun _ => u64C.dep fun _ => keyC kOk) h3 (StepP.dep (d := fun _ => u32C.dep fun _ => u64C.dep fun _ => u64C.dep fun _ => keyC kOk) h4
    (StepP.dep (d := fun _ => u64C.dep fun _ => u64C.dep fun _ => keyC kOk) h5 (StepP.dep (d := fun _ => u64C.dep fun _ => keyC kOk) h6 (StepP.dep (d := fun _ => keyC kOk) h7 h8))))))
theorem step_guest {hd : GH} {n0 n1 n2 n3 : Nat} {l0 : List Wi} {l1 : List De} {l2 : List Ir} {l3 : List Int} (h1 : StepP (ghC kOk) b st hd s1) (h2 : StepP cntC b s1 ((n0 : Int), (n1 : Int), (n2 : Int), (n3 : Int)) s2) (k0 : StepP (listC winC n0) b s2 l0 s3) (k1 : StepP (listC devC n1) b s3 l1 s4) (k2 : StepP (listC irqC n2) b s4 l2 s5) (k3 : StepP (listC u32C n3) b s5 l3 s6) :
    StepP (guestC kOk) b st ⟨hd.1, hd.2.1, hd.2.2.1, hd.2.2.2.1, hd.2.2.2.2.1, hd.2.2.2.2.2.1, hd.2.2.2.2.2.2.1, hd.2.2.2.2.2.2.2, l0, l1, l2, l3⟩ s6 := by
  unfold guestC
  have kk : StepP (lstC ((n0 : Int), (n1 : Int), (n2 : Int), (n3 : Int))) b s2 (l0, l1, l2, l3) s6 := StepP.dep (c := listC winC n0) (d := fun _ => (listC devC n1).dep fun _ => (listC irqC n2).dep fun _ => listC u32C n3) k0 (StepP.dep (c := listC devC n1) (d := fun _ => (listC irqC n2).dep fun _ => listC u32C n3) k1 (StepP.dep (c := listC irqC n2) (d := fun _ => listC u32C n3) k2 k3))
  exact StepP.map (f := fun x : GH × (Int × Int × Int × Int) × List Wi × List De × List Ir × List Int => (⟨x.1.1, x.1.2.1, x.1.2.2.1, x.1.2.2.2.1, x.1.2.2.2.2.1, x.1.2.2.2.2.2.1, x.1.2.2.2.2.2.2.1, x.1.2.2.2.2.2.2.2, x.2.2.1, x.2.2.2.1, x.2.2.2.2.1, x.2.2.2.2.2⟩ : Gs)) (StepP.dep (d := fun _ => cntC.dep lstC) h1 (StepP.dep (d := lstC) h2 kk))
end
theorem wl_store_q {P : Program} {w w' : World} {ops : Array Oper} {rest : List Oper} {o : Oper} {a : Act} {Q : Exit → Act → World → Prop} (hgd : o.guard = none) (ty : TypeId) (x y : Operand) (ho : o.op = .store ty x y) (p : Addr) (hx : a.eval x = .pointer (some p)) (v : Value) (hy : a.eval y = v)
    (hs : (storeVar ty p v).run P w = .ok () w') (h : wpList P ops Q rest (a.put o.dst undef) w') : wpList P ops Q (o :: rest) a w :=
  wpList_plain hgd fun K hK => by
    unfold Oper.wp execOp
    simp only [ho, hx, hy, Instr.storeAt, Instr.sureAddr, Sem.run_bind, Sem.run_pure, Result.andThen_ok, hs]
    exact hK _ _ h
theorem ow_bs1 {P : Program} {o : Oper} {a : Act} {w : World} {K : Act → World → Prop} {Q : Exit → Act → World → Prop} (ts : TypeId) (x : Operand) (ho : o.op = .buildSlice ts 1 #[(0, x)]) (v : Value) (hx : a.eval x = v) (ob : Obj)
    (hr : (Instr.buildSlice ts 1 #[(0, v)]).run P w = .ok (.slice (some ⟨w.heap.size, 0, none⟩) 1 1) (w.alloc ob))
    (h : ∀ (p : Nat) (y : World), p = w.heap.size → y = w.alloc ob → K (a.put o.dst (.slice (some ⟨p, 0, none⟩) 1 1)) y) : o.wp P a w K Q := by
  unfold Oper.wp execOp
  subst hx
  simp only [ho, Sem.run_bind, List.map_toArray, List.map_cons, List.map_nil, hr, Result.andThen_ok, Sem.run_pure]
  exact h _ _ rfl rfl
theorem meet_of {T A G : Prop} (h : (Nat → T) → A → G) (t : T) : A → G := h fun _ => t
/-- Fields of a guest, stored. -/
def gSet (y : GV) (g : Gs) : GV := ⟨g, y.wv, y.dv, y.iv, y.sv⟩
theorem upd_1 (y : GV) (v : Bool) : ∀ j, j < 79 → upd (guestE y) 1 (.bool v) j = guestE (gSet y { y.g with must := v }) j := by
  intro j _
  unfold upd
  by_cases h : j = 1
  · subst h; rfl
  · rw [if_neg h]
    match j with
    | 0 => rfl
    | 1 => exact absurd rfl h
    | 2 => rfl
    | 3 => rfl
    | 4 => rfl
    | 5 => rfl
    | 6 => rfl
    | j + 7 => rfl
theorem upd_2 (y : GV) (v : Int) : ∀ j, j < 79 → upd (guestE y) 2 (.int .u32 v) j = guestE (gSet y { y.g with off := v }) j := by
  intro j _
  unfold upd
  by_cases h : j = 2
  · subst h; rfl
  · rw [if_neg h]
    match j with
    | 0 => rfl
    | 1 => rfl
    | 2 => exact absurd rfl h
    | 3 => rfl
    | 4 => rfl
    | 5 => rfl
    | 6 => rfl
    | j + 7 => rfl
theorem upd_3 (y : GV) (v : Int) : ∀ j, j < 79 → upd (guestE y) 3 (.int .u32 v) j = guestE (gSet y { y.g with len := v }) j := by
  intro j _
  unfold upd
  by_cases h : j = 3
  · subst h; rfl
  · rw [if_neg h]
    match j with
    | 0 => rfl
    | 1 => rfl
    | 2 => rfl
    | 3 => exact absurd rfl h
    | 4 => rfl
    | 5 => rfl
    | 6 => rfl
    | j + 7 => rfl
theorem upd_4 (y : GV) (v : Int) : ∀ j, j < 79 → upd (guestE y) 4 (.int .u32 v) j = guestE (gSet y { y.g with cpus := v }) j := by
  intro j _
  unfold upd
  by_cases h : j = 4
  · subst h; rfl
  · rw [if_neg h]
    match j with
    | 0 => rfl
    | 1 => rfl
    | 2 => rfl
    | 3 => rfl
    | 4 => exact absurd rfl h
    | 5 => rfl
    | 6 => rfl
    | j + 7 => rfl
theorem upd_5 (y : GV) (v : Int) : ∀ j, j < 79 → upd (guestE y) 5 (.int .u64 v) j = guestE (gSet y { y.g with entry := v }) j := by
  intro j _
  unfold upd
  by_cases h : j = 5
  · subst h; rfl
  · rw [if_neg h]
    match j with
    | 0 => rfl
    | 1 => rfl
    | 2 => rfl
    | 3 => rfl
    | 4 => rfl
    | 5 => exact absurd rfl h
    | 6 => rfl
    | j + 7 => rfl
theorem upd_6 (y : GV) (v : Int) : ∀ j, j < 79 → upd (guestE y) 6 (.int .u64 v) j = guestE (gSet y { y.g with dtb := v }) j := by
  intro j _
  unfold upd
  by_cases h : j = 6
  · subst h; rfl
  · rw [if_neg h]
    match j with
    | 0 => rfl
    | 1 => rfl
    | 2 => rfl
    | 3 => rfl
    | 4 => rfl
    | 5 => rfl
    | 6 => exact absurd rfl h
    | j + 7 => rfl
theorem spl_7 (y : GV) (k : By) : ∀ j, j < 79 → spl 7 68 (bys (kF k)) (guestE y) j = guestE (gSet y { y.g with key := k }) j := by
  intro j hj
  unfold spl
  match j with
  | 0 => rfl
  | 1 => rfl
  | 2 => rfl
  | 3 => rfl
  | 4 => rfl
  | 5 => rfl
  | 6 => rfl
  | j + 7 =>
    show (if 7 ≤ j + 7 ∧ j + 7 < 75 then bys (kF k) (j + 7 - 7) else if j < 68 then bys (kF y.g.key) j else _) = if j < 68 then bys (kF k) j else _
    by_cases h : j < 68
    · rw [if_pos (by omega), if_pos h, Nat.add_sub_cancel]
    · rw [if_neg (by omega), if_neg h, if_neg h]; rfl
end Go.Proofs.YtmcpmcicolpoeaaDoor
