import Derived.Lib.AppendZeros
import Derived.Deep.CutBlock
import Derived.Deep.CutRange
import Derived.BigQuiet
import Derived.Laws.Shifts
import Derived.Laws.BitsAllLaws
import Derived.Test.YtkaipknkjocfiaaGreatZa9
namespace Go.Proofs.YtkaipknkjocfiaaGreat
open Go.RowKit
attribute [local go_sem ↓ high] builtin_appS
def wrF (v : Value) (e : Nat) : Nat → Value := fun i => if i = 0 then v else .int .i64 (e : Int)
structure WW (w : World) (b : Option Nat) (g : Nat) (l : By) (m e : Nat) : Prop where
 ex : ∃ (A : Option Addr) (c : Nat) (L : By), Arr w g 121 2 (wrF (.slice A L.length c) e) ∧ OwnB w (g + 1) (.slice A L.length c) L ∧ (Value.slice A L.length c).ownBlock = b ∧ (e = 0 → L = l) ∧ L.length ≤ m
structure WT (g : Nat) (b : Option Nat) (w w' : World) : Prop where
 os : w'.os = w.os
 tape : w'.tape = w.tape
 output : w'.output = w.output
 size : w.heap.size ≤ w'.heap.size
 block : ∀ k, k < w.heap.size → k ≠ g → b ≠ some k → w'.heap[k]? = w.heap[k]?
theorem WT.refl (g : Nat) (b : Option Nat) (w : World) : WT g b w w := ⟨rfl, rfl, rfl, Nat.le_refl _, fun _ _ _ _ => rfl⟩
theorem WT.trans {g : Nat} {b b' : Option Nat} {u v w : World} (h : WT g b u v) (k : WT g b' v w) (hb : ∀ i, b' = some i → b = some i ∨ u.heap.size ≤ i) : WT g b u w :=
 ⟨k.os.trans h.os, k.tape.trans h.tape, k.output.trans h.output, Nat.le_trans h.size k.size, fun i hi h1 h2 =>
  (k.block i (Nat.lt_of_lt_of_le hi h.size) h1 fun e => by rcases hb i e with h3 | h3; exact h2 h3; omega).trans (h.block i hi h1 h2)⟩
theorem WT.of_below {g : Nat} {b : Option Nat} {w w' : World} (h : Below w.heap.size w w') : WT g b w w' := ⟨h.1, h.2, h.3, h.4, fun k hk _ _ => h.5 k hk⟩
theorem WT.of_save {g : Nat} {b : Option Nat} {w w' : World} (h : Save g w w') : WT g b w w' := ⟨h.os, h.tape, h.output, h.size, fun k hk h1 _ => h.block k hk h1⟩
structure WS (V : World) (b0 : Option Nat) (g : Nat) (l : By) (m e : Nat) (W : World) : Prop where
 ww : ∃ b, WW W b g l m e ∧ ∀ k, b = some k → b0 = some k ∨ V.heap.size ≤ k
 tu : WT g b0 V W
 lt : g < V.heap.size
 off : ∀ k, b0 = some k → g < k
theorem WW.lt {w : World} {b : Option Nat} {g : Nat} {l : By} {m e : Nat} (h : WW w b g l m e) : g < w.heap.size := by
 obtain ⟨A, c, L, h1, _⟩ := h.ex
 exact h1.lt
theorem WW.off {w : World} {b : Option Nat} {g : Nat} {l : By} {m e : Nat} (h : WW w b g l m e) : ∀ k, b = some k → g < k ∧ k < w.heap.size := by
 obtain ⟨A, c, L, _, h2, h3, _⟩ := h.ex
 obtain ⟨_, _, _, _, _, hk⟩ := h2.form
 intro k e
 have := hk k (h3.trans e)
 omega
theorem WW.begin {w : World} {b : Option Nat} {g : Nat} {l : By} {m e : Nat} (h : WW w b g l m e) : WS w b g l m e w := ⟨⟨b, h, fun _ h => Or.inl h⟩, WT.refl _ _ _, h.lt, fun k e => (h.off k e).1⟩
theorem WW.on {w w' : World} {b : Option Nat} {g : Nat} {l : By} {m e : Nat} (h : WW w b g l m e) (hb : Below w.heap.size w w') : WW w' b g l m e := by
 obtain ⟨A, c, L, h1, h2, h3, h4, h5⟩ := h.ex
 exact ⟨A, c, L, h1.under hb, h2.on hb (Nat.le_refl _), h3, h4, h5⟩
section
variable {V W W' : World} {b0 : Option Nat} {g : Nat} {l l' : By} {m m' e : Nat}
theorem WS.on (h : WS V b0 g l m e W) (hb : Below W.heap.size W W') : WS V b0 g l m e W' := by
 obtain ⟨b, h1, h2⟩ := h.ww
 exact ⟨⟨b, h1.on hb, h2⟩, h.tu.trans (WT.of_below (b := none) hb) (fun _ e => by cases e), h.lt, h.off⟩
theorem WS.any (h : WS V b0 g l m e W) (hl : e = 0 → l = l') (hm : m ≤ m') : WS V b0 g l' m' e W := by
 obtain ⟨b, ⟨A, c, L, h1, h2, h3, h4, h5⟩, h6⟩ := h.ww
 exact ⟨⟨b, ⟨A, c, L, h1, h2, h3, fun he => (h4 he).trans (hl he), Nat.le_trans h5 hm⟩, h6⟩, h.tu, h.lt, h.off⟩
theorem WS.arr (h : WS V b0 g l m e W) {q n : Nat} {t : TypeId} {f : Nat → Value} (ha : Arr V q t n f) (h1 : q ≠ g) (h2 : b0 ≠ some q) : Arr W q t n f := (h.tu.block q ha.lt h1 h2).trans ha
theorem WS.below (h : WS V b0 g l m e W) : Below g V W := ⟨h.tu.os, h.tu.tape, h.tu.output, h.tu.size, fun k hk => h.tu.block k (Nat.lt_trans hk h.lt) (Nat.ne_of_lt hk) fun e => by have := h.off k e; omega⟩
theorem WS.size (h : WS V b0 g l m e W) : V.heap.size ≤ W.heap.size := h.tu.size
theorem WW.new {w w' : World} {b : Option Nat} (h : WW w b g l m e) (_hb : Below w.heap.size w w') : b ≠ some w.heap.size ∧ w.heap.size ≠ g := by
 refine ⟨fun e => ?_, ?_⟩
 · have := h.off _ e; omega
 · have := h.lt; omega
theorem WS.err (h : WS V b0 g l m e W) : W.cell? ⟨g, 1, none⟩ = some (.int .i64 (e : Int)) ∧ W.frozen? ⟨g, 1, none⟩ = false := by
 obtain ⟨b, ⟨A, c, L, h1, _⟩, _⟩ := h.ww
 exact ⟨h1.cell (i := 1) (by decide), h1.frozen 1⟩
theorem WS.open (h : WS V b0 g l m e W) : ∃ (A : Option Addr) (c : Nat) (L : By), L.length ≤ c ∧ W.cell? ⟨g, 0, none⟩ = some (.slice A L.length c) ∧ OwnB W (g + 1) (.slice A L.length c) L ∧ Lies W W.heap.size 1 A L.length (u8s L) ∧ (e = 0 → L = l) ∧ L.length ≤ m ∧
   (∀ (w1 : World) (A2 : Option Addr) (c2 N2 : Nat) (L2 : By), N2 = L2.length → Below W.heap.size W w1 → OwnB w1 W.heap.size (.slice A2 N2 c2) L2 → ∀ l2 m2, (e = 0 → L2 = l2) → N2 ≤ m2 →
     (w1.cell? ⟨g, 0, none⟩ = some (.slice A L.length c) ∧ w1.frozen? ⟨g, 0, none⟩ = false) ∧ WS V b0 g l2 m2 e (w1.setCell ⟨g, 0, none⟩ (.slice A2 N2 c2))) ∧
   (∀ (W1 : World) (a : Addr) (x : By) (c1 N2 : Nat), N2 = L.length + x.length → Below W.heap.size W W1 → (∀ j u, (u8s x)[j]? = some u → W1.cell? (a.add j) = some u) → m + x.length ≤ 1000000 →
     ∃ B d w2, (appS #[78, 78] 78 #[.slice A L.length c, .slice (some a) x.length c1]).run Tryz.prog W1 = .ok (.slice B N2 d) w2 ∧ (w2.cell? ⟨g, 0, none⟩ = some (.slice A L.length c) ∧ w2.frozen? ⟨g, 0, none⟩ = false) ∧
       WS V b0 g (l ++ x) (m + x.length) e (w2.setCell ⟨g, 0, none⟩ (.slice B N2 d))) := by
 obtain ⟨b, ⟨A, c, L, h1, h2, h3, h4, h5⟩, h6⟩ := h.ww
 obtain ⟨A', c', e1, hc, hl⟩ := h2.lies
 injection e1 with e1 _ e3
 subst e1 e3
 refine ⟨A, c, L, hc, h1.cell (i := 0) (by decide), h2, hl, h4, h5, fun w1 A2 c2 N2 L2 hN hb ho l2 m2 hl2 hm2 => ?_, fun W1 a x c1 N2 hN hb hx hm => ?_⟩
 · have a1 := h1.under hb
   refine ⟨⟨a1.cell (i := 0) (by decide), a1.frozen 0⟩, ?_⟩
   have hs : Save g w1 (w1.setCell ⟨g, 0, none⟩ (.slice A2 N2 c2)) := (Save.refl _ _).setCell 0 _
   subst hN
   obtain ⟨_, _, _, _, _, hk⟩ := ho.form
   have hgW : g < W.heap.size := h1.lt
   refine ⟨⟨(Value.slice A2 L2.length c2).ownBlock, ⟨A2, c2, L2, (a1.set 0 (.slice A2 L2.length c2)).congr fun i hi => ?_, (ho.save hs hgW).low hgW, rfl, hl2, hm2⟩, fun k e => Or.inr (Nat.le_trans h.tu.size (hk k e).1)⟩, (h.tu.trans (WT.of_below (b := none) hb) (fun _ e => by cases e)).trans (WT.of_save (b := none) hs) (fun _ e => by cases e), h.lt, h.off⟩
   rcases (by omega : i = 0 ∨ i = 1) with rfl | rfl <;> rfl
 · obtain ⟨i0, hi, hz0, hz1, hz2⟩ := info_parts info_u8
   have hgW : g < W.heap.size := h1.lt
   obtain ⟨v', w', hr, k2, k3, _, k5⟩ := run_append_own_at (P := Tryz.prog) W1 (g + 1) 78 78 5 i0 (.int .u8 0) 1 1 Tryz.underlying78 hi hz0 hz1 hz2 rfl (by decide) (.slice A L.length c) L.length (cellsE 1 eB L) (h2.on hb (Nat.le_refl _))
     a x.length c1 (u8s x) (by simp [u8s]) hx (by
       intro u hu
       obtain ⟨y, _, rfl⟩ := List.mem_map.1 hu
       rfl) (by unfold maxLen; omega) (by omega) (by have := hb.size; omega)
   have hown2 : OwnB w' (g + 1) v' (L ++ x) := by
     show w'.ownsRow (g + 1) 5 1 v' (L ++ x).length (cellsE 1 eB (L ++ x))
     rw [cellsE_append, List.length_append, cells_B x]
     exact k2
   obtain ⟨B, d, e2, _, _, hbk⟩ := hown2.form
   rw [List.length_append, ← hN] at e2
   subst e2
   have hvb : ∀ k, (Value.slice A L.length c).ownBlock = some k → g < k ∧ k < W.heap.size := fun k e => by
     obtain ⟨_, _, _, _, _, hk⟩ := h2.form
     have := hk k e; omega
   have a1 : Arr w' g 121 2 (wrF (.slice A L.length c) e) := (h1.under hb).grown k3 (fun e => by have := hvb g e.symm; omega)
   refine ⟨B, d, w', hr, ⟨a1.cell (i := 0) (by decide), a1.frozen 0⟩, ?_⟩
   have hs : Save g w' (w'.setCell ⟨g, 0, none⟩ (.slice B N2 d)) := (Save.refl _ _).setCell 0 _
   have t1 : WT g b W1 w' := ⟨k3.1, k3.2, k3.3, k3.4, fun k hk _ hb2 => k3.5 k hk (fun e => hb2 (h3.symm.trans e.symm))⟩
   have hbb : ∀ i, b = some i → b0 = some i ∨ V.heap.size ≤ i := h6
   have hlen : (L ++ x).length = N2 := by rw [List.length_append, hN]
   refine ⟨⟨(Value.slice B N2 d).ownBlock, ⟨B, d, L ++ x, ?_, ?_, ?_, fun h0 => by rw [h4 h0], by rw [List.length_append]; omega⟩, fun k e => ?_⟩, ((h.tu.trans (WT.of_below (b := none) hb) (fun _ e => by cases e)).trans t1 hbb).trans (WT.of_save (b := none) hs) (fun _ e => by cases e), h.lt, h.off⟩
   · rw [hlen]
     refine (a1.set 0 (.slice B N2 d)).congr fun i hi => ?_
     rcases (by omega : i = 0 ∨ i = 1) with rfl | rfl <;> rfl
   · rw [hlen]; exact hown2.save hs (Nat.lt_succ_self _)
   · rw [hlen]
   · rcases k5 with e5 | e5
     · exact h6 k (h3.symm.trans (e5.symm.trans e))
     · right
       have : W1.heap.size = k := by rw [e5] at e; exact Option.some.inj e
       have := h.tu.size
       have := hb.size
       omega
end
section
variable {V : World} {b0 : Option Nat} {g : Nat} {l : By} {m e : Nat}
end
end Go.Proofs.YtkaipknkjocfiaaGreat
namespace Go.Proofs.YtkaipknkjocfiaaGreat
open Go.RowKit
attribute [local go_sem ↓ high] builtin_appS
section
variable {V : World} {b0 : Option Nat} {g : Nat} {l : By} {m e : Nat}
end
end Go.Proofs.YtkaipknkjocfiaaGreat
namespace Go.Proofs.YtkaipknkjocfiaaGreat
open Go.RowKit
def keyF (oid : Int) (root seed : Nat → UInt8) : Nat → Value
 | 0 => .int .u32 oid
 | i + 1 => if i < 32 then bys root i else bys seed (i - 32)
set_option maxRecDepth 100000 in
theorem zeroKey (w : World) : (zeroValue 162).run Tryz.prog w = .ok (.agg (vec 65 (keyF 0 zb zb))) w :=
 (zero_of_info (P := Tryz.prog) (t := 162) (v := .agg (vec 65 (keyF 0 zb zb))) (n := 65) (by kernel_rfl)).1 w
attribute [local go_sem ↓ high] zeroKey
end Go.Proofs.YtkaipknkjocfiaaGreat
namespace Go.Proofs.YtkaipknkjocfiaaGreat
open Go.RowKit
attribute [local go_sem ↓ high] zeroKey zeroWi
section
variable {V W W' : World} {b0 : Option Nat} {g : Nat} {l l' : By} {m m' e : Nat}
theorem WS.box (h : WS V b0 g l m e W) (hb : Below W.heap.size W W') : ∃ b, WS W' b g l m e W' ∧ (∀ q, W.heap.size ≤ q → q ≠ g ∧ b ≠ some q) ∧ ∀ l' m' e' W'', WS W' b g l' m' e' W'' → WS V b0 g l' m' e' W'' := by
 obtain ⟨b, h1, h2⟩ := h.ww
 have h3 := h1.on hb
 refine ⟨b, h3.begin, fun q hq => ⟨fun e => by have := h1.lt; omega, fun e => by have := h1.off q e; omega⟩, fun l' m' e' W'' k => ?_⟩
 obtain ⟨b', k1, k2⟩ := k.ww
 have hsz := hb.size
 refine ⟨⟨b', k1, fun i hi => ?_⟩, (h.tu.trans (WT.of_below (b := none) hb) (fun _ e => by cases e)).trans k.tu h2, h.lt, h.off⟩
 rcases k2 i hi with h3 | h3
 · exact h2 i h3
 · exact Or.inr (Nat.le_trans (Nat.le_trans h.tu.size hsz) h3)
theorem WS.blk (h : WS V b0 g l m e W) {q : Nat} {t : TypeId} {cs : Array Value} (ha : Blk V q t cs) (h1 : q ≠ g) (h2 : b0 ≠ some q) : Blk W q t cs := (h.tu.block q ha.lt h1 h2).trans ha
theorem WS.drew (h : WS V b0 g l m e W) : WS V b0 g l m e W.drew := h.on ⟨rfl, rfl, rfl, Nat.le_refl _, fun _ _ => rfl⟩
end
section
variable {V : World} {b0 : Option Nat} {g : Nat} {l : By} {m e : Nat}
end
end Go.Proofs.YtkaipknkjocfiaaGreat
namespace Go.Proofs.YtkaipknkjocfiaaGreat
open Go.RowKit
attribute [local go_sem ↓ high] zeroGu zeroCh zeroEn
def RPutP (x : Cf) (w : World) (e : Ending) (w' : World) : Prop := (if errP x = 0 then ∃ v, e = .returned (.tuple #[v, .int .i64 0]) ∧ w'.ownsRow w.heap.size 5 1 v (layC x).length (u8s (layC x)) else e = .returned (.tuple #[.slice none 0 0, .int .i64 (errP x : Int)])) ∧ Below w.heap.size w w'
set_option maxRecDepth 100000 in
theorem RPutP.no {x : Cf} {w w' : World} {n : Nat} (h : errP x = n) (hn : n ≠ 0) (hb : Below w.heap.size w w') : RPutP x w (.returned (.tuple #[.slice none 0 0, .int .i64 (n : Int)])) w' := ⟨by rw [if_neg (by omega), h], hb⟩
theorem RPutP.yes {x : Cf} {w w' : World} {v : Value} (h : errP x = 0) (hv : w'.ownsRow w.heap.size 5 1 v (layC x).length (u8s (layC x))) (hb : Below w.heap.size w w') : RPutP x w (.returned (.tuple #[v, .int .i64 0])) w' := ⟨by rw [if_pos h]; exact ⟨v, rfl, hv⟩, hb⟩
set_option maxRecDepth 100000 in
theorem WS.row {V W : World} {g : Nat} {l : By} {m : Nat} (h : WS V none g l m 0 W) : ∃ (A : Option Addr) (c : Nat), W.cell? ⟨g, 0, none⟩ = some (.slice A l.length c) ∧ OwnB W (g + 1) (.slice A l.length c) l ∧ l.length ≤ m := by
 obtain ⟨A, c, L, -, h2, h3, -, h5, h6, -, -⟩ := h.open
 have := h5 rfl
 subst this
 exact ⟨A, c, h2, h3, h6⟩
end Go.Proofs.YtkaipknkjocfiaaGreat
namespace Go.Proofs.YtkaipknkjocfiaaGreat
open Go.RowKit
structure GC (Y : World) (B : Nat) (q : Addr) (g : Gs) (A1 : Option Addr) (e1 : Nat) (A2 : Option Addr) (e2 : Nat) (A3 : Option Addr) (e3 : Nat) (A4 : Option Addr) (e4 : Nat) : Prop where
 name : Y.cell? q = some (.string (strOf g.name))
 cpus : Y.cell? ⟨q.block, q.off + 4, none⟩ = some (.int .u32 g.cpus)
 entry : Y.cell? ⟨q.block, q.off + 5, none⟩ = some (.int .u64 g.entry)
 dtb : Y.cell? ⟨q.block, q.off + 6, none⟩ = some (.int .u64 g.dtb)
 wv : Y.cell? ⟨q.block, q.off + 75, none⟩ = some (.slice A1 g.wins.length e1)
 dv : Y.cell? ⟨q.block, q.off + 76, none⟩ = some (.slice A2 g.devs.length e2)
 iv : Y.cell? ⟨q.block, q.off + 77, none⟩ = some (.slice A3 g.irqs.length e3)
 sv : Y.cell? ⟨q.block, q.off + 78, none⟩ = some (.slice A4 g.strs.length e4)
 wins : RowE 4 winE Y B A1 g.wins
 devs : RowE 3 devE Y B A2 g.devs
 irqs : RowE 3 irqE Y B A3 g.irqs
 strs : RowE 1 numE Y B A4 g.strs
structure Bd where
 r : Sp
 l : Sp
 irqs : Int
 strs : Int
 cpus : Int
def bdE (b : Bd) : Nat → Value
 | 0 => .int .u64 (b.r.1 : Int)
 | 1 => .int .u64 (b.r.2 : Int)
 | 2 => .int .u64 (b.l.1 : Int)
 | 3 => .int .u64 (b.l.2 : Int)
 | 4 => .int .i64 b.irqs
 | 5 => .int .i64 b.strs
 | _ => .int .i64 b.cpus
def mustP (is : Bool) (r k : Nat) (s : Nat × Nat) : Nat × Nat := if is = false ∧ s.1 = 0 then (r, k) else s
theorem mustP_true (r k : Nat) (s : Nat × Nat) : mustP true r k s = s := if_neg (by simp)
end Go.Proofs.YtkaipknkjocfiaaGreat
namespace Go.Proofs.YtkaipknkjocfiaaGreat
open Go.ChangeShapes Go.WideShapes Go.ChangeAt Go.RowKit Go.Deep
section
variable {H : Type} {enc : TypeId × Value → H} {W : World} {r : Reach} {base : Nat} {sp : Nat → Bool} {held : Bool} {fuel : Nat}
set_option maxRecDepth 100000 in
theorem span_cells {L : List Value} {x : DataW H × List MemPlace} (hl : L.length = 2) (h : DataW.trod enc Tryz.prog W base sp held fuel 24 L = some x) : ∃ a b : Nat, L = [.int .u64 (a : Int), .int .u64 (b : Int)] ∧ fit (a, b) := by
 obtain ⟨y0, y1, n, -, -, h0, h1⟩ := trod_struct2 Tryz.underlying24 h
 have hc1 : Tryz.prog.cellsOf 22 = 1 := by kernel_rfl
 simp only [hc1] at h0 h1
 rw [take1_at (by omega)] at h0 h1
 obtain ⟨x, e0, _, w0⟩ := DataW.trod_int Tryz.underlying22 h0
 obtain ⟨y, e1, _, w1⟩ := DataW.trod_int Tryz.underlying22 h1
 have b0 := bounds_u64 w0
 have b1 := bounds_u64 w1
 obtain ⟨a, rfl⟩ := Int.eq_ofNat_of_zero_le b0.1
 obtain ⟨b, rfl⟩ := Int.eq_ofNat_of_zero_le b1.1
 match L, hl with
 | [c0, c1], _ =>
  simp at e0 e1
  exact ⟨a, b, by rw [e0, e1], by constructor <;> simp only <;> omega⟩
set_option maxRecDepth 100000 in
theorem open_bd {v : Value} {d : DataW H} {ps : List MemPlace} (hv : Value.okWide Tryz.prog W r base 26 v) (h : DataW.Trod enc Tryz.prog W 0 (fun _ => true) true 26 v d ps) :
  ∃ b : Bd, v = .agg (vec 7 (bdE b)) ∧ fit b.r ∧ fit b.l := by
 have hs := Tryz.underlying26
 obtain ⟨cs, rfl, hsz⟩ := okWide_struct hs hv
 have hC : Tryz.prog.cellsOf 26 = 7 := by kernel_rfl
 have hS : Tryz.prog.cellsOf 24 = 2 := by kernel_rfl
 have hI : Tryz.prog.cellsOf 3 = 1 := by kernel_rfl
 rw [hC] at hsz
 obtain ⟨fuel, hf⟩ := h
 have hcs : (Value.agg cs).cells.toList = cs.toList := rfl
 rw [hcs] at hf
 obtain ⟨xs, n, -, -, -, hlen, hg⟩ := DataW.trod_struct hs hf
 match xs, hlen with
 | [y0, y1, y2, y3, y4], _ =>
  have h0 : DataW.trod enc Tryz.prog W 0 (fun _ => true) true n 24 ((cs.toList.drop 0).take (Tryz.prog.cellsOf 24)) = some y0 := hg 0 _ rfl
  have h1 : DataW.trod enc Tryz.prog W 0 (fun _ => true) true n 24 ((cs.toList.drop 2).take (Tryz.prog.cellsOf 24)) = some y1 := hg 1 _ rfl
  have h2 : DataW.trod enc Tryz.prog W 0 (fun _ => true) true n 3 ((cs.toList.drop 4).take (Tryz.prog.cellsOf 3)) = some y2 := hg 2 _ rfl
  have h3 : DataW.trod enc Tryz.prog W 0 (fun _ => true) true n 3 ((cs.toList.drop 5).take (Tryz.prog.cellsOf 3)) = some y3 := hg 3 _ rfl
  have h4 : DataW.trod enc Tryz.prog W 0 (fun _ => true) true n 3 ((cs.toList.drop 6).take (Tryz.prog.cellsOf 3)) = some y4 := hg 4 _ rfl
  simp only [hS, hI] at h0 h1 h2 h3 h4
  have hL : cs.toList.length = 7 := by simpa using hsz
  rw [take1_at (by omega)] at h2 h3 h4
  obtain ⟨r1, r2, e0, hr⟩ := span_cells (by simp [hsz]) h0
  obtain ⟨l1, l2, e1, hl⟩ := span_cells (by simp [hsz]) h1
  obtain ⟨i, e2, _, w2⟩ := DataW.trod_int Tryz.underlying3 h2
  obtain ⟨s, e3, _, w3⟩ := DataW.trod_int Tryz.underlying3 h3
  obtain ⟨c, e4, _, w4⟩ := DataW.trod_int Tryz.underlying3 h4
  have b2 := bounds_i64 w2
  have b3 := bounds_i64 w3
  have b4 := bounds_i64 w4
  obtain ⟨L⟩ := cs
  match L, hsz with
  | [c0, c1, c2, c3, c4, c5, c6], _ =>
   simp at e0 e1 e2 e3 e4
   obtain ⟨rfl, rfl⟩ := e0
   obtain ⟨rfl, rfl⟩ := e1
   subst e2 e3 e4
   exact ⟨⟨(r1, r2), (l1, l2), i, s, c⟩, rfl, hr, hl⟩
end
end Go.Proofs.YtkaipknkjocfiaaGreat
namespace Go.Proofs.YtkaipknkjocfiaaGreat
open Go.RowKit
def maskN (g : Gs) : Nat := g.cpus.toNat
def cpusB (b : Bd) (x : Cf) (g : Nat) : Bool := match x.gs[g]? with
 | none => true
 | some t => (!(maskN t == 0) && decide (maskN t / 2 ^ b.cpus.toNat = 0)) && (List.range g).all fun i => maskN t &&& maskN (x.gs[i]?.getD t) == 0
end Go.Proofs.YtkaipknkjocfiaaGreat
namespace Go.Proofs.YtkaipknkjocfiaaGreat
open Go.RowKit
attribute [local go_sem ↓ high] zeroSp
def olapsB (s : Sp) (l : List Sp) : Bool := l.any (overlap s)
end Go.Proofs.YtkaipknkjocfiaaGreat
namespace Go.Proofs.YtkaipknkjocfiaaGreat
def clashB : List Sp → Bool
 | [] => false
 | x :: t => t.any (overlap x) || clashB t
theorem clashB_false : ∀ l : List Sp, clashB l = false ↔ l.Pairwise (fun x y => overlap x y = false)
 | [] => by simp [clashB]
 | x :: t => by
  rw [clashB, Bool.or_eq_false_iff, List.pairwise_cons, clashB_false t, List.any_eq_false]
  simp only [Bool.not_eq_true]
def hitAt (l : List Sp) (i j : Nat) : Bool := overlap (l.getD i (0, 0)) (l.getD j (0, 0))
theorem hitAt_lt {l : List Sp} {i j : Nat} (hi : i < l.length) (hj : j < l.length) : hitAt l i j = overlap l[i] l[j] := by simp [hitAt, hi, hj]
theorem clashB_hit (l : List Sp) : clashB l = false ↔ ∀ i j, i < j → j < l.length → hitAt l i j = false := by
 rw [clashB_false, List.pairwise_iff_getElem]
 constructor
 · intro h i j hij hj
   rw [hitAt_lt (by omega) hj]
   exact h i j (by omega) hj hij
 · intro h i j hi hj hij
   rw [← hitAt_lt hi hj]
   exact h i j hij hj
def FirstIs (l : List Sp) (i j : Nat) (b : Bool) : Prop :=
 (b = true ∧ i < j ∧ j < l.length ∧ hitAt l i j = true ∧ (∀ i' j', i' < j' → j' < j → hitAt l i' j' = false) ∧ ∀ i', i' < i → hitAt l i' j = false) ∨
 (b = false ∧ i = 0 ∧ j = 0 ∧ ∀ i' j', i' < j' → j' < l.length → hitAt l i' j' = false)
theorem first_clash {l : List Sp} {i j : Nat} {b : Bool} (h : FirstIs l i j b) : b = clashB l := by
 rcases h with ⟨rfl, hij, hj, hh, -, -⟩ | ⟨rfl, -, -, hn⟩
 · cases hc : clashB l with
   | true => rfl
   | false =>
    rw [(clashB_hit l).1 hc i j hij hj] at hh
    cases hh
 · exact ((clashB_hit l).2 hn).symm
end Go.Proofs.YtkaipknkjocfiaaGreat
namespace Go.Proofs.YtkaipknkjocfiaaGreat
open Go.RowKit
end Go.Proofs.YtkaipknkjocfiaaGreat
