import Derived.Deep.CutRange
import Derived.Test.YtkaipknkjocfiaaGreatZa3
namespace Go.Proofs.YtkaipknkjocfiaaGreat
open Go.RowKit
def appS (ts : Array TypeId) (ty : TypeId) (vs : Array Value) : Sem Value := Builtin.append_ ts ty vs
theorem builtin_appS (ats : Array TypeId) (ty : TypeId) (cs : Array Bool) (args : Array Value) : builtin .append ats ty cs args = (do pure (.value (← appS ats ty args))) := rfl
section
variable {α : Type} {n : Nat} {enc : α → Nat → Value} {w w' : World} {base : Nat} {t : TypeId} {v : Value} {l : List α}
def OwnE (t : TypeId) (n : Nat) (enc : α → Nat → Value) (w : World) (base : Nat) (v : Value) (l : List α) : Prop := w.ownsRow base t n v l.length (cellsE n enc l)
theorem OwnE.nil (w : World) (base : Nat) : OwnE t n enc w base (.slice none 0 0) [] := World.ownsRow_nil _ _ _ _
theorem OwnE.save {g : Nat} (h : OwnE t n enc w base v l) (hs : Save g w w') (hg : g < base) : OwnE t n enc w' base v l := by
 refine ⟨h.1, ?_⟩
 rcases h.2 with h2 | ⟨k, cap, cur, hv, hk, hh, r⟩
 · exact Or.inl h2
 · exact Or.inr ⟨k, cap, cur, hv, hk, (hs.block k (Array.getElem?_eq_some_iff.1 hh).1 (by omega)).trans hh, r⟩
theorem OwnE.on {m : Nat} (h : OwnE t n enc w base v l) (hs : Below m w w') (hm : w.heap.size ≤ m) : OwnE t n enc w' base v l := by
 refine ⟨h.1, ?_⟩
 rcases h.2 with h2 | ⟨k, cap, cur, hv, hk, hh, r⟩
 · exact Or.inl h2
 · exact Or.inr ⟨k, cap, cur, hv, hk, (hs.block k (Nat.lt_of_lt_of_le (Array.getElem?_eq_some_iff.1 hh).1 hm)).trans hh, r⟩
theorem OwnE.low {base' : Nat} (h : OwnE t n enc w base v l) (hb : base' ≤ base) : OwnE t n enc w base' v l := by
 refine ⟨h.1, ?_⟩
 rcases h.2 with h2 | ⟨g, cap, cur, hv, hg, r⟩
 · exact Or.inl h2
 · exact Or.inr ⟨g, cap, cur, hv, Nat.le_trans hb hg, r⟩
theorem OwnE.form (h : OwnE t n enc w base v l) : ∃ A c, v = .slice A l.length c ∧ l.length ≤ c ∧ RowE n enc w w.heap.size A l ∧ ∀ k, v.ownBlock = some k → base ≤ k ∧ k < w.heap.size := by
 rcases h.2 with ⟨rfl, h0⟩ | ⟨g, cap, cur, rfl, hg, hh, hnc, hr⟩
 · have : l = [] := List.eq_nil_of_length_eq_zero h0
   subst this
   exact ⟨none, 0, rfl, Nat.le_refl _, RowE.nil _ _ _, fun k hk => by simp [Value.ownBlock] at hk⟩
 · refine ⟨_, cap, rfl, hnc, fun _ => ⟨_, rfl, (Array.getElem?_eq_some_iff.1 hh).1, fun j hj i hi => ?_⟩, fun k hk => by
    simp [Value.ownBlock] at hk
    subst hk
    exact ⟨hg, (Array.getElem?_eq_some_iff.1 hh).1⟩⟩
   obtain ⟨q1, e1⟩ := List.getElem?_eq_some_iff.1 (cellsE_get (enc := enc) l j hj i hi)
   exact (h.cells (g := g) rfl (j * n + i) _ (List.getElem?_eq_getElem q1)).trans (by rw [e1])
theorem elC_new (w : World) (f : Nat → Value) (t : TypeId) (n : Nat) : ∀ j u, (elC n f)[j]? = some u → (w.alloc (.cells (vec n f) t)).cell? ((⟨w.heap.size, 0, none⟩ : Addr).add j) = some u := by
 intro j u hu
 have e : ((⟨w.heap.size, 0, none⟩ : Addr).add j) = ⟨w.heap.size, j, none⟩ := by unfold Addr.add; by_cases h0 : j = 0 <;> simp [h0]
 rw [e, cell_of_row _ w.heap.size j _ t (0, 0) (heap_alloc_new w _)]
 rw [← Array.getElem?_toList, elC_vec]
 exact hu
theorem app_E {P : Program} {ts : TypeId} {bytes : Nat} {z : Value} (hu : P.underlying ts = some (.slice t)) (hinfo : (P.info? t).map (fun i => (i.zero, i.size, i.bytes)) = some (some z, n, bytes)) (hz : z.cells.size = n) (hn : 0 < n)
  (h1 : ∀ (x : α) i, i < n → (enc x i).oneCell' = true) (x : α) (hown : OwnE t n enc w base v l) (hb : base ≤ w.heap.size) (hl : l.length ≤ 1000000) (hby : bytes ≤ 100000) (ty : TypeId) :
  ∃ B d w', (appS #[ts, ts] ty #[v, .slice (some ⟨w.heap.size, 0, none⟩) 1 1]).run P (w.alloc (.cells (vec n (enc x)) t)) = .ok (.slice B (l.length + 1) d) w' ∧ OwnE t n enc w' base (.slice B (l.length + 1) d) (l ++ [x]) ∧ Below base w w' := by
 obtain ⟨i0, hi, hz0, hz1, hz2⟩ := info_parts hinfo
 have hbz : (l.length + 1) * bytes ≤ 140737488355328 := Nat.le_trans (Nat.mul_le_mul (show l.length + 1 ≤ 1000001 by omega) hby) (by decide)
 obtain ⟨v', w', hr, h2, h3, _, h5⟩ := run_append_own_at (P := P) (w.alloc (.cells (vec n (enc x)) t)) base ts ty t i0 z n bytes hu hi hz0 hz1 hz2 hz hn v l.length (cellsE n enc l) (hown.on ((Below.refl _ _).alloc (Nat.le_refl _) _) (Nat.le_refl _))
  ⟨w.heap.size, 0, none⟩ 1 1 (elC n (enc x)) (by rw [elC_length, Nat.one_mul]) (elC_new w (enc x) t n) (by
   intro u hu
   obtain ⟨i, hi, rfl⟩ := List.mem_map.1 hu
   exact h1 x i (List.mem_range.1 hi)) (by unfold maxLen; omega) hbz (by simp; omega)
 have hown2 : OwnE t n enc w' base v' (l ++ [x]) := by
  unfold OwnE
  rw [cellsE_snoc, List.length_append]
  exact h2
 obtain ⟨B, d, e, _, _, hbk⟩ := hown2.form
 obtain ⟨_, _, _, _, _, hbv⟩ := hown.form
 rw [List.length_append, List.length_singleton] at e
 subst e
 exact ⟨B, d, w', hr, hown2, ((Below.refl base w).alloc hb _).grown h3 (by simp; omega) fun k hk => (hbv k hk).1⟩
end
end Go.Proofs.YtkaipknkjocfiaaGreat
namespace Go.Proofs.YtkaipknkjocfiaaGreat
open Go.RowKit
attribute [local go_sem ↓ high] builtin_appS
def eB (c : UInt8) : Nat → Value := fun _ => .int .u8 (c.toNat : Int)
theorem cells_one {α : Type} (f : α → Value) (l : List α) : cellsE 1 (fun x _ => f x) l = l.map f := by
 induction l with
 | nil => rfl
 | cons x xs ih => rw [cellsE_cons, ih]; rfl
theorem cells_B (l : By) : cellsE 1 eB l = u8s l := cells_one (fun c : UInt8 => Value.int .u8 (c.toNat : Int)) l
abbrev OwnB (w : World) (base : Nat) (v : Value) (l : By) : Prop := OwnE 5 1 eB w base v l
theorem own_of {w : World} {base : Nat} {v : Value} {l : By} (h : w.ownsRow base 5 1 v l.length (u8s l)) : OwnB w base v l := by
 show w.ownsRow base 5 1 v l.length (cellsE 1 eB l)
 rw [cells_B]; exact h
theorem own_to {w : World} {base : Nat} {v : Value} {l : By} (h : OwnB w base v l) : w.ownsRow base 5 1 v l.length (u8s l) := by
 have h2 : w.ownsRow base 5 1 v l.length (cellsE 1 eB l) := h
 rw [cells_B] at h2; exact h2
theorem RowE.lies {α : Type} {enc : α → Nat → Value} {w : World} {B : Nat} {A : Option Addr} {l : List α} {xs : List Value} (h : RowE 1 enc w B A l) (hx : cellsE 1 enc l = xs) : Lies w B 1 A l.length xs := by
 have hl : xs.length = l.length * 1 := by rw [← hx, cellsE_length]
 refine ⟨hl, fun hn => ?_⟩
 obtain ⟨a, e, hb, hc⟩ := h (fun h0 => hn (by rw [h0]; rfl))
 refine ⟨a, e, hb, fun j hj => ?_⟩
 have h1 := hc j (by omega) 0 (by decide)
 have h2 := cellsE_get (n := 1) (enc := enc) l j (by omega) 0 (by decide)
 rw [hx, Nat.mul_one, Nat.add_zero, List.getElem?_eq_getElem hj] at h2
 rw [Nat.mul_one, Nat.add_zero] at h1
 rw [h1]
 exact h2.symm
theorem OwnB.lies {w : World} {base : Nat} {v : Value} {l : By} (h : OwnB w base v l) : ∃ A c, v = .slice A l.length c ∧ l.length ≤ c ∧ Lies w w.heap.size 1 A l.length (u8s l) := by
 obtain ⟨A, c, e, hc, hr, _⟩ := h.form
 exact ⟨A, c, e, hc, hr.lies (cells_B l)⟩
theorem Bytes.low {w w0 : World} {l : By} {e : Ending} {w' : World} (h : Bytes w l e w') (hb : Below w0.heap.size w0 w) : Bytes w0 l e w' := by
 obtain ⟨v, e1, h1, h2⟩ := h
 exact ⟨v, e1, owns_mono h1 hb.size, hb.trans (h2.mono hb.size)⟩
theorem be_two (m : Nat) (h : m < 65536) : be 2 m = [UInt8.ofNat (m / 256), UInt8.ofNat (m % 256)] := by
 show ([] ++ [UInt8.ofNat (m / 256 % 256)]) ++ [UInt8.ofNat (m % 256)] = _
 rw [Nat.mod_eq_of_lt (by omega : m / 256 < 256)]; rfl
theorem info_u8 : (Tryz.prog.info? 5).map (fun i => (i.zero, i.size, i.bytes)) = some (some (.int .u8 0), 1, 1) := by kernel_rfl
set_option maxRecDepth 100000 in
theorem build_two (x y : Int) (w : World) : (Instr.buildSlice 78 2 #[(0, .int .u8 x), (1, .int .u8 y)]).run Tryz.prog w = .ok (.slice (some ⟨w.heap.size, 0, none⟩) 2 2) (w.alloc (.cells #[.int .u8 x, .int .u8 y] 5)) := by
 obtain ⟨i0, hi, hz0, hz1, hz2⟩ := info_parts info_u8
 refine run_buildSlice (P := Tryz.prog) w 78 5 2 _ _ i0 (.int .u8 0) Tryz.underlying78 hi hz0 (by rw [hz1]; decide) (by rw [hz1]; decide) ?_
 rw [hz1]
 kernel_rfl
theorem app_two {w : World} {base : Nat} {v : Value} {l : By} (x y : UInt8) (hown : OwnB w base v l) (hb : base ≤ w.heap.size) (hl : l.length ≤ 1000000) :
  ∃ B d w', (appS #[78, 78] 78 #[v, .slice (some ⟨w.heap.size, 0, none⟩) 2 2]).run Tryz.prog (w.alloc (.cells #[.int .u8 (x.toNat : Int), .int .u8 (y.toNat : Int)] 5)) = .ok (.slice B (l.length + 2) d) w' ∧ OwnB w' base (.slice B (l.length + 2) d) (l ++ [x, y]) ∧ Below base w w' := by
 obtain ⟨i0, hi, hz0, hz1, hz2⟩ := info_parts info_u8
 obtain ⟨v', w', hr, h2, h3, _, h5⟩ := run_append_own_at (P := Tryz.prog) (w.alloc (.cells #[.int .u8 (x.toNat : Int), .int .u8 (y.toNat : Int)] 5)) base 78 78 5 i0 (.int .u8 0) 1 1 Tryz.underlying78 hi hz0 hz1 hz2 rfl (by decide) v l.length (cellsE 1 eB l) (hown.on ((Below.refl _ _).alloc (Nat.le_refl _) _) (Nat.le_refl _))
  ⟨w.heap.size, 0, none⟩ 2 2 [.int .u8 (x.toNat : Int), .int .u8 (y.toNat : Int)] rfl (fun j u hu => by
   have e : ((⟨w.heap.size, 0, none⟩ : Addr).add j) = ⟨w.heap.size, j, none⟩ := by unfold Addr.add; by_cases h0 : j = 0 <;> simp [h0]
   rw [e, cell_of_row _ w.heap.size j _ 5 (0, 0) (heap_alloc_new w _), ← Array.getElem?_toList]
   exact hu) (by
   intro u hu
   simp only [List.mem_cons, List.not_mem_nil, or_false] at hu
   rcases hu with rfl | rfl <;> rfl) (by unfold maxLen; omega) (by omega) (by simp; omega)
 have hown2 : OwnB w' base v' (l ++ [x, y]) := by
  show w'.ownsRow base 5 1 v' (l ++ [x, y]).length (cellsE 1 eB (l ++ [x, y]))
  rw [cellsE_append, List.length_append]
  exact h2
 obtain ⟨B, d, e, _, _, hbk⟩ := hown2.form
 obtain ⟨_, _, _, _, _, hbv⟩ := hown.form
 rw [List.length_append] at e
 subst e
 exact ⟨B, d, w', hr, hown2, ((Below.refl base w).alloc hb _).grown h3 (by simp; omega) fun k hk => (hbv k hk).1⟩
set_option maxRecDepth 100000 in
theorem numBytes_be (m n : Nat) : numBytes 0 m n = be m n := by
 rw [be_map]
 unfold numBytes
 refine List.map_congr_left fun i hi => ?_
 have hi : i < m := List.mem_range.1 hi
 unfold putByte
 rw [shAt_high]
 have e : (8 * ((m : Int) - 1 - (i : Int))).toNat = 8 * (m - 1 - i) := by omega
 rw [e]
end Go.Proofs.YtkaipknkjocfiaaGreat
namespace Go.Proofs.YtkaipknkjocfiaaGreat
open Go.RowKit
attribute [local go_sem ↓ high] builtin_appS
section
variable {P : Program} {w w' : World} {ops : Array Oper} {rest : List Oper} {o : Oper} {a : Act} {Q : Exit → Act → World → Prop}
theorem wl_bs1 (hg : o.guard = none) {t : TypeId} {n : Nat} (y : Operand) (ho : o.op = .buildSlice t n #[(0, y)]) (v0 : Value) (hy : a.eval y = v0) {v : Value} (hr : (Instr.buildSlice t n #[(0, v0)]).run P w = .ok v w')
  (h : wpList P ops Q rest (a.put o.dst v) w') : wpList P ops Q (o :: rest) a w :=
 wpList_plain hg fun K hK => by
  unfold Oper.wp execOp
  subst hy
  simp only [ho, Sem.run_bind, List.map_toArray, List.map_cons, List.map_nil, hr, Result.andThen_ok, Sem.run_pure]
  exact hK _ _ h
end
theorem info_window : (Tryz.prog.info? 67).map (fun i => (i.zero, i.size, i.bytes)) = some (some (.agg (vec 4 (winE zWi))), 4, 32) := by kernel_rfl
set_option maxRecDepth 100000 in
theorem build_window (x : Wi) (w : World) : (Instr.buildSlice 58 1 #[(0, .agg (vec 4 (winE x)))]).run Tryz.prog w = .ok (.slice (some ⟨w.heap.size, 0, none⟩) 1 1) (w.alloc (.cells (vec 4 (winE x)) 67)) := by
 obtain ⟨i0, hi, hz0, hz1, hz2⟩ := info_parts info_window
 refine run_buildSlice (P := Tryz.prog) w 58 67 1 _ _ i0 (.agg (vec 4 (winE zWi))) Tryz.underlying58 hi hz0 (by rw [hz1]; decide) (by rw [hz1]; decide) ?_
 rw [hz1]
 kernel_rfl
theorem info_irq : (Tryz.prog.info? 65).map (fun i => (i.zero, i.size, i.bytes)) = some (some (.agg (vec 3 (irqE zIr))), 3, 24) := by kernel_rfl
set_option maxRecDepth 100000 in
theorem build_irq (x : Ir) (w : World) : (Instr.buildSlice 60 1 #[(0, .agg (vec 3 (irqE x)))]).run Tryz.prog w = .ok (.slice (some ⟨w.heap.size, 0, none⟩) 1 1) (w.alloc (.cells (vec 3 (irqE x)) 65)) := by
 obtain ⟨i0, hi, hz0, hz1, hz2⟩ := info_parts info_irq
 refine run_buildSlice (P := Tryz.prog) w 60 65 1 _ _ i0 (.agg (vec 3 (irqE zIr))) Tryz.underlying60 hi hz0 (by rw [hz1]; decide) (by rw [hz1]; decide) ?_
 rw [hz1]
 kernel_rfl
theorem info_channel : (Tryz.prog.info? 47).map (fun i => (i.zero, i.size, i.bytes)) = some (some (.agg (vec 8 (chE zCh))), 8, 64) := by kernel_rfl
set_option maxRecDepth 100000 in
theorem build_channel (x : Ch) (w : World) : (Instr.buildSlice 29 1 #[(0, .agg (vec 8 (chE x)))]).run Tryz.prog w = .ok (.slice (some ⟨w.heap.size, 0, none⟩) 1 1) (w.alloc (.cells (vec 8 (chE x)) 47)) := by
 obtain ⟨i0, hi, hz0, hz1, hz2⟩ := info_parts info_channel
 refine run_buildSlice (P := Tryz.prog) w 29 47 1 _ _ i0 (.agg (vec 8 (chE zCh))) Tryz.underlying29 hi hz0 (by rw [hz1]; decide) (by rw [hz1]; decide) ?_
 rw [hz1]
 kernel_rfl
theorem info_num : (Tryz.prog.info? 27).map (fun i => (i.zero, i.size, i.bytes)) = some (some (.int .u32 0), 1, 4) := by kernel_rfl
set_option maxRecDepth 100000 in
theorem build_num (x : Int) (w : World) : (Instr.buildSlice 61 1 #[(0, .int .u32 x)]).run Tryz.prog w = .ok (.slice (some ⟨w.heap.size, 0, none⟩) 1 1) (w.alloc (.cells (vec 1 (numE x)) 27)) := by
 obtain ⟨i0, hi, hz0, hz1, hz2⟩ := info_parts info_num
 refine run_buildSlice (P := Tryz.prog) w 61 27 1 _ _ i0 (.int .u32 0) Tryz.underlying61 hi hz0 (by rw [hz1]; decide) (by rw [hz1]; decide) ?_
 rw [hz1]
 kernel_rfl
end Go.Proofs.YtkaipknkjocfiaaGreat
namespace Go.Proofs.YtkaipknkjocfiaaGreat
open Go.RowKit
section
variable {w : World} {g c at_ q : Nat} {A : Option Addr} {b : By}
end
end Go.Proofs.YtkaipknkjocfiaaGreat
namespace Go.Proofs.YtkaipknkjocfiaaGreat
open Go.RowKit
structure GV where
 g : Gs
 wv : Value
 dv : Value
 iv : Value
 sv : Value
def guestE (x : GV) : Nat → Value
 | 0 => .string (strOf x.g.name)
 | 1 => .bool x.g.must
 | 2 => .int .u32 x.g.off
 | 3 => .int .u32 x.g.len
 | 4 => .int .u32 x.g.cpus
 | 5 => .int .u64 x.g.entry
 | 6 => .int .u64 x.g.dtb
 | i + 7 => if i < 68 then bys (kF x.g.key) i else if i = 68 then x.wv else if i = 69 then x.dv else if i = 70 then x.iv else x.sv
def nilV : Value := .slice none 0 0
def zGV : GV := ⟨⟨[], false, 0, 0, 0, 0, 0, [], [], [], [], []⟩, nilV, nilV, nilV, nilV⟩
structure GV1 (x : GV) : Prop where
 w : x.wv.oneCell' = true
 d : x.dv.oneCell' = true
 i : x.iv.oneCell' = true
 s : x.sv.oneCell' = true
theorem guestE_one (x : GV) (h : GV1 x) (n : Nat) : ∀ i, i < n → (guestE x i).oneCell' = true := by
 intro i _
 match i with
 | 0 => rfl
 | 1 => rfl
 | 2 => rfl
 | 3 => rfl
 | 4 => rfl
 | 5 => rfl
 | 6 => rfl
 | i + 7 =>
  show (if i < 68 then bys (kF x.g.key) i else if i = 68 then x.wv else if i = 69 then x.dv else if i = 70 then x.iv else x.sv).oneCell' = true
  split
  · rfl
  · split
    · exact h.w
    · split
      · exact h.d
      · split
        · exact h.i
        · exact h.s
theorem infoGu : (Tryz.prog.info? 63).map (·.size) = some 79 := by kernel_rfl
theorem zeroGu (w : World) : (zeroValue 63).run Tryz.prog w = .ok (.agg (vec 79 (guestE zGV))) w :=
 (zero_of_info (P := Tryz.prog) (t := 63) (v := .agg (vec 79 (guestE zGV))) (n := 79) (by kernel_rfl)).1 w
structure GOwn (w : World) (base : Nat) (x : GV) : Prop where
 wi : OwnE 67 4 winE w base x.wv x.g.wins
 de : OwnE 83 3 devE w base x.dv x.g.devs
 ir : OwnE 65 3 irqE w base x.iv x.g.irqs
 st : OwnE 27 1 numE w base x.sv x.g.strs
theorem OwnE.one {α : Type} {t : TypeId} {n : Nat} {enc : α → Nat → Value} {w : World} {base : Nat} {v : Value} {l : List α} (h : OwnE t n enc w base v l) : v.oneCell' = true := by
 obtain ⟨A, c, rfl, _⟩ := h.form
 rfl
theorem GOwn.one {w : World} {base : Nat} {x : GV} (h : GOwn w base x) : GV1 x := ⟨h.wi.one, h.de.one, h.ir.one, h.st.one⟩
theorem GOwn.save {w w' : World} {base g : Nat} {x : GV} (h : GOwn w base x) (hs : Save g w w') (hg : g < base) : GOwn w' base x := ⟨h.wi.save hs hg, h.de.save hs hg, h.ir.save hs hg, h.st.save hs hg⟩
theorem GOwn.on {w w' : World} {base m : Nat} {x : GV} (h : GOwn w base x) (hs : Below m w w') (hm : w.heap.size ≤ m) : GOwn w' base x := ⟨h.wi.on hs hm, h.de.on hs hm, h.ir.on hs hm, h.st.on hs hm⟩
theorem GOwn.low {w : World} {base base' : Nat} {x : GV} (h : GOwn w base x) (hb : base' ≤ base) : GOwn w base' x := ⟨h.wi.low hb, h.de.low hb, h.ir.low hb, h.st.low hb⟩
section
variable {g : Nat} {A : Option Addr} {c : Nat} {b : By} {w W W1 : World} {r : Nat} {x : GV} {p p1 t1 : Nat}
end
end Go.Proofs.YtkaipknkjocfiaaGreat
namespace Go.Proofs.YtkaipknkjocfiaaGreat
open Go.RowKit
def nmEq (a b : By) : Bool := (strOf a).toList == (strOf b).toList
structure GRow (w : World) (B : Nat) (x : GV) : Prop where
 wi : ∃ A c, x.wv = .slice A x.g.wins.length c ∧ RowE 4 winE w B A x.g.wins ∧ x.g.wins.length ≤ 9223372036854775807
 de : ∃ A c, x.dv = .slice A x.g.devs.length c ∧ RowE 3 devE w B A x.g.devs ∧ x.g.devs.length ≤ 9223372036854775807
 ir : ∃ A c, x.iv = .slice A x.g.irqs.length c ∧ RowE 3 irqE w B A x.g.irqs ∧ x.g.irqs.length ≤ 9223372036854775807
 st : ∃ A c, x.sv = .slice A x.g.strs.length c ∧ RowE 1 numE w B A x.g.strs ∧ x.g.strs.length ≤ 9223372036854775807
theorem GRow.below {w w' : World} {B : Nat} {x : GV} (h : GRow w B x) (hb : Below B w w') : GRow w' B x := by
 obtain ⟨⟨A, c, e, r, l⟩, ⟨A2, c2, e2, r2, l2⟩, ⟨A3, c3, e3, r3, l3⟩, ⟨A4, c4, e4, r4, l4⟩⟩ := h
 exact ⟨⟨A, c, e, r.below hb, l⟩, ⟨A2, c2, e2, r2.below hb, l2⟩, ⟨A3, c3, e3, r3.below hb, l3⟩, ⟨A4, c4, e4, r4.below hb, l4⟩⟩
theorem GRow.wide {w : World} {B B' : Nat} {x : GV} (h : GRow w B x) (hb : B ≤ B') : GRow w B' x := by
 obtain ⟨⟨A, c, e, r, l⟩, ⟨A2, c2, e2, r2, l2⟩, ⟨A3, c3, e3, r3, l3⟩, ⟨A4, c4, e4, r4, l4⟩⟩ := h
 exact ⟨⟨A, c, e, r.wide hb, l⟩, ⟨A2, c2, e2, r2.wide hb, l2⟩, ⟨A3, c3, e3, r3.wide hb, l3⟩, ⟨A4, c4, e4, r4.wide hb, l4⟩⟩
theorem GRow.drewN {w : World} {B : Nat} {x : GV} (h : GRow w B x) (k : Nat) : GRow (w.drewN k) B x := h.below (below_drewN (Below.refl B w) k)
theorem wl_execG {P : Program} {ops : Array Oper} {Q : Exit → Act → World → Prop} {a : Act} {w : World} {rest : List Oper} {o : Oper} {v : Value} (hw : Region.wanted o (yielded ops a.tmps) = true)
  (he : (execOp a.eval o).run P w = .ok (.value v) w) (h : wpList P ops Q rest (a.put o.dst v) w) : wpList P ops Q (o :: rest) a w :=
 wpList_step fun K hK => by
  simp only [hw, if_true]
  unfold Oper.wp
  rw [he]
  exact hK _ _ h
def EqV (r : Bool) (w : World) (e : Ending) (w' : World) : Prop := e = .returned (.bool r) ∧ Below w.heap.size w w'
theorem guest_key {w : World} {g : Nat} {t : TypeId} {x : GV} (h : Arr w g t 79 (guestE x)) : ∀ i, i < 68 → w.cell? ⟨g, 7 + i, none⟩ = some (bys (kF x.g.key) i) := fun i hi => by
 rw [h.cell (by omega), Nat.add_comm 7 i]
 show some (if i < 68 then bys (kF x.g.key) i else _) = _
 rw [if_pos hi]
end Go.Proofs.YtkaipknkjocfiaaGreat
namespace Go.Proofs.YtkaipknkjocfiaaGreat
open Go.RowKit
attribute [local go_sem ↓ high] zeroGu
end Go.Proofs.YtkaipknkjocfiaaGreat
namespace Go.Proofs.YtkaipknkjocfiaaGreat
open Go.RowKit
attribute [local go_sem ↓ high] builtin_appS
theorem app_E1 {α : Type} {n : Nat} {enc : α → Nat → Value} {w : World} {base : Nat} {t : TypeId} {v : Value} {l : List α} {P : Program} {ts : TypeId} {bytes : Nat} {z : Value} (hu : P.underlying ts = some (.slice t)) (hinfo : (P.info? t).map (fun i => (i.zero, i.size, i.bytes)) = some (some z, n, bytes)) (hz : z.cells.size = n) (hn : 0 < n)
  (x : α) (h1 : ∀ i, i < n → (enc x i).oneCell' = true) (hown : OwnE t n enc w base v l) (hb : base ≤ w.heap.size) (hl : l.length ≤ 1000000) (hby : bytes ≤ 100000) (ty : TypeId) :
  ∃ B d w', (appS #[ts, ts] ty #[v, .slice (some ⟨w.heap.size, 0, none⟩) 1 1]).run P (w.alloc (.cells (vec n (enc x)) t)) = .ok (.slice B (l.length + 1) d) w' ∧ OwnE t n enc w' base (.slice B (l.length + 1) d) (l ++ [x]) ∧ Below base w w' ∧ w.heap.size ≤ w'.heap.size ∧ (∀ k, k < w.heap.size → some k ≠ v.ownBlock → w'.heap[k]? = w.heap[k]?) ∧ ((Value.slice B (l.length + 1) d).ownBlock = v.ownBlock ∨ (Value.slice B (l.length + 1) d).ownBlock = some (w.heap.size + 1)) := by
 obtain ⟨i0, hi, hz0, hz1, hz2⟩ := info_parts hinfo
 have hbz : (l.length + 1) * bytes ≤ 140737488355328 := Nat.le_trans (Nat.mul_le_mul (show l.length + 1 ≤ 1000001 by omega) hby) (by decide)
 obtain ⟨v', w', hr, h2, h3, _, h5⟩ := run_append_own_at (P := P) (w.alloc (.cells (vec n (enc x)) t)) base ts ty t i0 z n bytes hu hi hz0 hz1 hz2 hz hn v l.length (cellsE n enc l) (hown.on ((Below.refl _ _).alloc (Nat.le_refl _) _) (Nat.le_refl _))
  ⟨w.heap.size, 0, none⟩ 1 1 (elC n (enc x)) (by rw [elC_length, Nat.one_mul]) (elC_new w (enc x) t n) (by
   intro u hu
   obtain ⟨i, hi, rfl⟩ := List.mem_map.1 hu
   exact h1 i (List.mem_range.1 hi)) (by unfold maxLen; omega) hbz (by simp; omega)
 have hown2 : OwnE t n enc w' base v' (l ++ [x]) := by
  unfold OwnE
  rw [cellsE_snoc, List.length_append]
  exact h2
 obtain ⟨B, d, e, _, _, hbk⟩ := hown2.form
 obtain ⟨_, _, _, _, _, hbv⟩ := hown.form
 rw [List.length_append, List.length_singleton] at e
 subst e
 have hbl : Below base w w' := ((Below.refl base w).alloc hb _).grown h3 (by simp; omega) fun k hk => (hbv k hk).1
 exact ⟨B, d, w', hr, hown2, hbl, hbl.size, fun k hk hne => (h3.block k (by simp; omega) hne).trans (Below.heap_alloc w _ k hk), h5.imp id fun h => by rw [h]; simp⟩
theorem OwnE.grown {α : Type} {n : Nat} {enc : α → Nat → Value} {w w' : World} {base : Nat} {t : TypeId} {v : Value} {l : List α} (h : OwnE t n enc w base v l) {o : Option Nat} (hs : ∀ k, k < w.heap.size → some k ≠ o → w'.heap[k]? = w.heap[k]?) (ho : v.ownBlock = none ∨ v.ownBlock ≠ o) : OwnE t n enc w' base v l := by
 refine ⟨h.1, ?_⟩
 rcases h.2 with h2 | ⟨k, cap, cur, rfl, hk, hh, r⟩
 · exact Or.inl h2
 · refine Or.inr ⟨k, cap, cur, rfl, hk, (hs k (Array.getElem?_eq_some_iff.1 hh).1 fun e => ?_).trans hh, r⟩
   rcases ho with h0 | h0
   · simp [Value.ownBlock] at h0
   · exact h0 (by simp [Value.ownBlock]; exact e)
structure Apart (y : GV) (v : Value) : Prop where
 w : ∀ k, y.wv.ownBlock = some k → v.ownBlock ≠ some k
 d : ∀ k, y.dv.ownBlock = some k → v.ownBlock ≠ some k
 i : ∀ k, y.iv.ownBlock = some k → v.ownBlock ≠ some k
 s : ∀ k, y.sv.ownBlock = some k → v.ownBlock ≠ some k
theorem OwnE.bnd {α : Type} {n : Nat} {enc : α → Nat → Value} {w : World} {base : Nat} {t : TypeId} {v : Value} {l : List α} (h : OwnE t n enc w base v l) {k : Nat} (hk : v.ownBlock = some k) : base ≤ k ∧ k < w.heap.size := by
 obtain ⟨_, _, _, _, _, hb⟩ := h.form
 exact hb k hk
theorem OwnE.growN {α : Type} {n : Nat} {enc : α → Nat → Value} {w w' : World} {base : Nat} {t : TypeId} {v : Value} {l : List α} (h : OwnE t n enc w base v l) {o : Option Nat} (hs : ∀ k, k < w.heap.size → some k ≠ o → w'.heap[k]? = w.heap[k]?) (ho : ∀ k, v.ownBlock = some k → o ≠ some k) : OwnE t n enc w' base v l := by
 refine h.grown hs ?_
 cases hv : v.ownBlock with
 | none => exact .inl rfl
 | some k => exact .inr fun e => ho k hv e.symm
theorem GOwn.growN {w w' : World} {base : Nat} {y : GV} {v : Value} (h : GOwn w base y) (hs : ∀ k, k < w.heap.size → some k ≠ v.ownBlock → w'.heap[k]? = w.heap[k]?) (ha : Apart y v) : GOwn w' base y :=
 ⟨h.wi.growN hs ha.w, h.de.growN hs ha.d, h.ir.growN hs ha.i, h.st.growN hs ha.s⟩
theorem Apart.next {w : World} {base m : Nat} {y : GV} {v v' : Value} (ha : Apart y v) (h : GOwn w base y) (hm : w.heap.size ≤ m) (ho : v'.ownBlock = v.ownBlock ∨ v'.ownBlock = some m) : Apart y v' := by
 refine ⟨fun k hk => ?_, fun k hk => ?_, fun k hk => ?_, fun k hk => ?_⟩
 · rcases ho with e | e <;> rw [e]
   · exact ha.w k hk
   · intro e2; injection e2 with e2; have := (h.wi.bnd hk).2; omega
 · rcases ho with e | e <;> rw [e]
   · exact ha.d k hk
   · intro e2; injection e2 with e2; have := (h.de.bnd hk).2; omega
 · rcases ho with e | e <;> rw [e]
   · exact ha.i k hk
   · intro e2; injection e2 with e2; have := (h.ir.bnd hk).2; omega
 · rcases ho with e | e <;> rw [e]
   · exact ha.s k hk
   · intro e2; injection e2 with e2; have := (h.st.bnd hk).2; omega
theorem Apart.new {w : World} {m : Nat} {y : GV} {v : Value} (h : GOwn w m y) (hv : ∀ k, v.ownBlock = some k → k < m) : Apart y v := by
 refine ⟨fun k hk e => ?_, fun k hk e => ?_, fun k hk e => ?_, fun k hk e => ?_⟩
 · have := hv k e; have := (h.wi.bnd hk).1; omega
 · have := hv k e; have := (h.de.bnd hk).1; omega
 · have := hv k e; have := (h.ir.bnd hk).1; omega
 · have := hv k e; have := (h.st.bnd hk).1; omega
def guestsV (base : Nat) (w : World) (l : List Gs) (v : Value) : Prop := ∃ ys : List GV, ys.map GV.g = l ∧ (∀ y ∈ ys, y.g.key.length = 68) ∧ OwnE 63 79 guestE w base v ys ∧ ∀ y ∈ ys, GOwn w base y ∧ Apart y v
theorem guestsV.nil (base : Nat) (w : World) : guestsV base w [] (.slice none 0 0) := ⟨[], rfl, (fun _ h => by cases h), OwnE.nil _ _, (fun _ h => by cases h)⟩
theorem guestsV.save {base g : Nat} {w w' : World} {l : List Gs} {v : Value} (h : guestsV base w l v) (hs : Save g w w') (hg : g < base) : guestsV base w' l v := by
 obtain ⟨ys, h1, h2, h3, h4⟩ := h
 exact ⟨ys, h1, h2, h3.save hs hg, fun y hy => ⟨(h4 y hy).1.save hs hg, (h4 y hy).2⟩⟩
theorem guestsV.on {base m : Nat} {w w' : World} {l : List Gs} {v : Value} (h : guestsV base w l v) (hs : Below m w w') (hm : w.heap.size ≤ m) : guestsV base w' l v := by
 obtain ⟨ys, h1, h2, h3, h4⟩ := h
 exact ⟨ys, h1, h2, h3.on hs hm, fun y hy => ⟨(h4 y hy).1.on hs hm, (h4 y hy).2⟩⟩
theorem guestsV.form {base : Nat} {w : World} {l : List Gs} {v : Value} (h : guestsV base w l v) : ∃ A c, v = .slice A l.length c := by
 obtain ⟨ys, h1, h2, h3, h4⟩ := h
 obtain ⟨A, c, e, _⟩ := h3.form
 exact ⟨A, c, by rw [e, ← h1, List.length_map]⟩
theorem info_guest : (Tryz.prog.info? 63).map (fun i => (i.zero, i.size, i.bytes)) = some (some (.agg (vec 79 (guestE zGV))), 79, 216) := by kernel_rfl
theorem guestsV.app {base : Nat} {w w1 : World} {g : Nat} {l : List Gs} {v : Value} {x : Gs} {y : GV} (h : guestsV base w l v) (hs : Save g w w1) (hg : g < base) (hb : base ≤ w.heap.size) (hl : l.length ≤ 1000) (hy : y.g = x) (hk : x.key.length = 68) (ho : GOwn w1 w.heap.size y) :
   ∃ B d w2, (appS #[28, 28] 28 #[v, .slice (some ⟨w1.heap.size, 0, none⟩) 1 1]).run Tryz.prog (w1.alloc (.cells (vec 79 (guestE y)) 63)) = .ok (.slice B (l.length + 1) d) w2 ∧ guestsV base w2 (l ++ [x]) (.slice B (l.length + 1) d) ∧ Below base w1 w2 := by
 obtain ⟨ys, h1, h2, h3, h4⟩ := h
 have hlen : ys.length = l.length := by rw [← h1, List.length_map]
 obtain ⟨B, d, w2, hr, h5, h6, h7, h8, h9⟩ := app_E1 (P := Tryz.prog) Tryz.underlying28 info_guest (vec_size _ _) (by decide) y (guestE_one y ho.one 79) (h3.save hs hg) (Nat.le_trans hb hs.size) (by omega) (by decide) 28
 rw [hlen] at hr h5 h9
 have hvb : ∀ k, v.ownBlock = some k → k < w.heap.size := fun k hk => (h3.bnd hk).2
 refine ⟨B, d, w2, hr, ⟨ys ++ [y], by rw [List.map_append, h1]; simp [hy], fun z hz => ?_, h5, fun z hz => ?_⟩, h6⟩
 · rcases List.mem_append.1 hz with hz | hz
   · exact h2 z hz
   · obtain rfl : z = y := by simpa using hz
     rw [hy]; exact hk
 · rcases List.mem_append.1 hz with hz | hz
   · have ho1 := (h4 z hz).1.save hs hg
     exact ⟨ho1.growN h8 (h4 z hz).2, (h4 z hz).2.next ho1 (Nat.le_succ _) h9⟩
   · obtain rfl : z = y := by simpa using hz
     have ha := Apart.new ho hvb
     exact ⟨(ho.growN h8 ha).low hb, ha.next ho (Nat.le_succ _) h9⟩
end Go.Proofs.YtkaipknkjocfiaaGreat
namespace Go.Proofs.YtkaipknkjocfiaaGreat
open Go.RowKit
def cfE (ver : Int) (a c : Value) : Nat → Value
 | 0 => .int .u32 ver
 | 1 => a
 | _ => c
theorem cfE_one (ver : Int) (a c : Value) (ha : a.oneCell' = true) (hc : c.oneCell' = true) (n : Nat) : ∀ i, i < n → (cfE ver a c i).oneCell' = true := by
 intro i _
 match i with
 | 0 => rfl
 | 1 => exact ha
 | _ + 2 => exact hc
theorem infoCf : (Tryz.prog.info? 31).map (·.size) = some 3 := by kernel_rfl
theorem zeroCf (w : World) : (zeroValue 31).run Tryz.prog w = .ok (.agg (vec 3 (cfE 0 nilV nilV))) w :=
 (zero_of_info (P := Tryz.prog) (t := 31) (v := .agg (vec 3 (cfE 0 nilV nilV))) (n := 3) (by kernel_rfl)).1 w
attribute [local go_sem ↓ high] zeroCf
theorem guestsV.low {base base' : Nat} {w : World} {l : List Gs} {v : Value} (h : guestsV base w l v) (hb : base' ≤ base) : guestsV base' w l v := by
 obtain ⟨ys, h1, h2, h3, h4⟩ := h
 exact ⟨ys, h1, h2, h3.low hb, fun y hy => ⟨(h4 y hy).1.low hb, (h4 y hy).2⟩⟩
end Go.Proofs.YtkaipknkjocfiaaGreat
