/- Merged: Nodes, Nl, Xp, Xval, Xkind, Xbe, Xcut, Xnd, Xkey, Xlaid, Xbld, Xapp, Xsz, Xwhole, Xbytes, Xps, Xrps. -/
import Derived.Maps.AppendAt
import Derived.RangeFuncBox
import Derived.Great.BuildSlice
import Derived.Lib.AppendZeros
import Derived.Laws.MakeOwn
import Derived.KernelRfl
import Derived.Deep.Cut
import Derived.BigQuiet
import Derived.Deep.QuietTactic
import Derived.Test.YtfeiplaiekbdkaaDoorWa
import Derived.Test.YtfeiplaiekbdkaaDoorWc
import Derived.Test.YtfeiplaiekbdkaaDoorPlain
import Derived.Test.YtfeiplaiekbdkaaDoorVs
/- Rows of nodes. -/
namespace Go.Proofs.YtfeiplaiekbdkaaDoor
open Go.RowKit

abbrev Nd := Nat → UInt8
theorem addr_add2 (a : Addr) (i j : Nat) : (a.add i).add j = a.add (i + j) := by
  unfold Addr.add
  by_cases hi : i = 0 <;> by_cases hj : j = 0 <;> simp [hi, hj, Nat.add_assoc]
def nodeC (f : Nd) : List Value := (List.range 32).map (bys f)
theorem nodeC_vec (f : Nd) : (nodeC f).toArray = vec 32 (bys f) := rfl
def cellsN (l : List Nd) : List Value := l.flatMap nodeC
theorem cellsN_append (a b : List Nd) : cellsN (a ++ b) = cellsN a ++ cellsN b := by simp [cellsN]
theorem cellsN_snoc (a : List Nd) (f : Nd) : cellsN (a ++ [f]) = cellsN a ++ nodeC f := by simp [cellsN]
theorem cellsN_cons (f : Nd) (l : List Nd) : cellsN (f :: l) = nodeC f ++ cellsN l := by simp [cellsN]
theorem nodeC_length (f : Nd) : (nodeC f).length = 32 := by simp [nodeC]
theorem cellsN_length (l : List Nd) : (cellsN l).length = l.length * 32 := by
  induction l with
  | nil => rfl
  | cons x r ih => rw [cellsN_cons, List.length_append, nodeC_length, ih, List.length_cons]; omega
theorem cellsN_get : ∀ (l : List Nd) (j : Nat) (h : j < l.length) (i : Nat), i < 32 → (cellsN l)[j * 32 + i]? = some (bys l[j] i)
  | [], j, h, _, _ => by cases h
  | x :: r, 0, _, i, hi => by
    rw [cellsN_cons, Nat.zero_mul, Nat.zero_add, List.getElem?_append_left (by rw [nodeC_length]; exact hi)]
    simp [nodeC, hi]
  | x :: r, j + 1, h, i, hi => by
    have ih := cellsN_get r j (by simpa using h) i hi
    rw [cellsN_cons, List.getElem?_append_right (by rw [nodeC_length]; omega), nodeC_length, show (j + 1) * 32 + i - 32 = j * 32 + i by omega, ih]
    rfl
theorem nodeC_one (f : Nd) : ∀ u ∈ nodeC f, u.oneCell' = true := by
  intro u hu
  obtain ⟨i, _, rfl⟩ := List.mem_map.1 hu
  rfl
/-- The slice of l.length nodes at A holds l; all of it lies below block B. -/
def NRow (w : World) (B : Nat) (A : Option Addr) (l : List Nd) : Prop :=
  l ≠ [] → ∃ a, A = some a ∧ a.block < B ∧ ∀ j (h : j < l.length) i, i < 32 → w.cell? (a.add (j * 32 + i)) = some (bys l[j] i)
section
variable {w w' : World} {B B' : Nat} {A : Option Addr} {l : List Nd}
theorem NRow.nil (w : World) (B : Nat) (A : Option Addr) : NRow w B A [] := fun h => absurd rfl h
theorem NRow.same (h : NRow w B A l) (hk : ∀ p : Addr, p.block < B → w'.cell? p = w.cell? p) : NRow w' B A l := fun hn => by
  obtain ⟨a, e, hb, hc⟩ := h hn
  exact ⟨a, e, hb, fun j hj i hi => (hk _ (by rw [addr_add_block]; exact hb)).trans (hc j hj i hi)⟩
theorem NRow.wide (h : NRow w B A l) (hB : B ≤ B') : NRow w B' A l := fun hn => by
  obtain ⟨a, e, hb, hc⟩ := h hn
  exact ⟨a, e, Nat.lt_of_lt_of_le hb hB, hc⟩
theorem NRow.below (h : NRow w B A l) (hb : Below B w w') : NRow w' B A l := h.same fun _ hp => hb.cell hp
theorem NRow.at {k : Nat} (h : NRow w B A l) (hk : k < l.length) : ∃ a p, A = some a ∧ a.add (k * 32) = p ∧ p.block < B ∧ ∀ i, i < 32 → w.cell? (p.add i) = some (bys l[k] i) := by
  obtain ⟨a, e, hb, hc⟩ := h (fun hn => by subst hn; cases hk)
  refine ⟨a, _, e, rfl, by rw [addr_add_block]; exact hb, fun i hi => ?_⟩
  have h2 := hc k hk i hi
  rw [← addr_add2] at h2
  exact h2
end
/-- A row of the call's own with the nodes l. -/
def OwnN (w : World) (base : Nat) (v : Value) (l : List Nd) : Prop := w.ownsRow base 24 32 v l.length (cellsN l)
theorem OwnN.row {w : World} {base : Nat} {v : Value} {l : List Nd} (h : OwnN w base v l) : ∃ A c, v = .slice A l.length c ∧ l.length ≤ c ∧ NRow w w.heap.size A l := by
  rcases h.2 with ⟨rfl, h0⟩ | ⟨g, cap, cur, rfl, _, hh, hnc, hr⟩
  · have : l = [] := List.eq_nil_of_length_eq_zero h0
    subst this
    exact ⟨none, 0, rfl, Nat.le_refl _, NRow.nil _ _ _⟩
  · refine ⟨_, cap, rfl, hnc, fun _ => ⟨_, rfl, (Array.getElem?_eq_some_iff.1 hh).1, fun j hj i hi => ?_⟩⟩
    obtain ⟨q1, e1⟩ := List.getElem?_eq_some_iff.1 (cellsN_get l j hj i hi)
    exact (h.cells (g := g) rfl (j * 32 + i) _ (List.getElem?_eq_getElem q1)).trans (by rw [e1])
theorem OwnN.low {w : World} {base base' : Nat} {v : Value} {l : List Nd} (h : OwnN w base v l) (hb : base' ≤ base) : OwnN w base' v l := by
  refine ⟨h.1, ?_⟩
  rcases h.2 with h2 | ⟨g, cap, cur, hv, hg, r⟩
  · exact Or.inl h2
  · exact Or.inr ⟨g, cap, cur, hv, Nat.le_trans hb hg, r⟩
theorem ownsN_below {w w' : World} {base size n : Nat} {e : TypeId} {v : Value} {xs : List Value} (h : w.ownsRow base e size v n xs) (hb : Below w.heap.size w w') : w'.ownsRow base e size v n xs := by
  refine ⟨h.1, ?_⟩
  rcases h.2 with h2 | ⟨g, cap, cur, hv, hg, hh, r⟩
  · exact Or.inl h2
  · exact Or.inr ⟨g, cap, cur, hv, hg, (hb.block g (Array.getElem?_eq_some_iff.1 hh).1).trans hh, r⟩
theorem OwnN.below {w w' : World} {base : Nat} {v : Value} {l : List Nd} (h : OwnN w base v l) (hb : Below w.heap.size w w') : OwnN w' base v l := ownsN_below h hb
theorem infoN : (Tryd.prog.info? 24).map (fun i => (i.zero, i.size, i.bytes)) = some (some (.agg (vec 32 (bys zb))), 32, 32) := by kernel_rfl
set_option maxRecDepth 100000 in
/-- []api.Node{x}: a new block. -/
theorem build1 (f : Nd) (w : World) : (Instr.buildSlice 27 1 #[(0, .agg (vec 32 (bys f)))]).run Tryd.prog w = .ok (.slice (some ⟨w.heap.size, 0, none⟩) 1 1) (w.alloc (.cells (vec 32 (bys f)) 24)) := by
  obtain ⟨i0, hi, hz0, hz1, hz2⟩ := info_parts infoN
  refine run_buildSlice (P := Tryd.prog) w 27 24 1 _ _ i0 (.agg (vec 32 (bys zb))) Tryd.underlying27 hi hz0 (by rw [hz1]; decide) (by rw [hz1]; decide) ?_
  rw [hz1]
  kernel_rfl
theorem ow_build1 {o : Oper} {a : Act} {w : World} {K : Act → World → Prop} {Q : Exit → Act → World → Prop} (x : Operand) (ho : o.op = .buildSlice 27 1 #[(0, x)]) (f : Nd) (hx : a.eval x = .agg (vec 32 (bys f)))
    (h : K (a.put o.dst (.slice (some ⟨w.heap.size, 0, none⟩) 1 1)) (w.alloc (.cells (vec 32 (bys f)) 24))) : o.wp Tryd.prog a w K Q := by
  unfold Oper.wp execOp
  have e : (#[(0, x)].map fun (i, x) => (i, a.eval x)) = #[(0, .agg (vec 32 (bys f)))] := by simp [hx]
  simp only [ho, Sem.run_bind, e, build1 f w, Result.andThen_ok, Sem.run_pure]
  exact h
theorem node_cells_new {W : World} {f : Nd} {g : Nat} {t : TypeId} (h : Arr W g t 32 (bys f)) : ∀ j u, (nodeC f)[j]? = some u → W.cell? ((⟨g, 0, none⟩ : Addr).add j) = some u := by
  intro j u hj
  have hlt : j < 32 := by
    have := (List.getElem?_eq_some_iff.1 hj).1
    rwa [nodeC_length] at this
  have hadd : (⟨g, 0, none⟩ : Addr).add j = ⟨g, j, none⟩ := by unfold Addr.add; split <;> simp_all
  rw [hadd, h.cell hlt, ← hj]
  simp [nodeC, hlt]
/-- append(own, x) -/
theorem app_own {w : World} {base : Nat} {v : Value} {n : Nat} {xs : List Value} {g : Nat} {t : TypeId} {f : Nd} (hown : w.ownsRow base 24 32 v n xs) (h : Arr w g t 32 (bys f)) (hn : n ≤ 1000000) (hb : base ≤ w.heap.size) (ty : TypeId) :
    ∃ v' w', (Builtin.append_ #[27, 27] ty #[v, .slice (some ⟨g, 0, none⟩) 1 1]).run Tryd.prog w = .ok v' w' ∧ w'.ownsRow base 24 32 v' (n + 1) (xs ++ nodeC f) ∧ w.grownBy w' v.ownBlock := by
  obtain ⟨i0, hi, hz0, hz1, hz2⟩ := info_parts infoN
  obtain ⟨v', w', hr, h1, h2, _⟩ := run_append_own (P := Tryd.prog) w base 27 ty 24 i0 (.agg (vec 32 (bys zb))) 32 32 Tryd.underlying27 hi hz0 hz1 hz2 (vec_size _ _) (by decide) v n xs hown ⟨g, 0, none⟩ 1 1 (nodeC f) (by rw [nodeC_length])
    (node_cells_new h) (nodeC_one f) (by unfold maxLen; omega) (by omega) hb
  exact ⟨v', w', hr, h1, h2⟩
section
variable {P : Program} {w : World} {o : Oper} {a : Act} {n : Nat} {f : Nat → Value}
theorem run_load_p {p : Addr} {ty : TypeId} {d : TypeDesc} (h : ∀ i, i < n → w.cell? (p.add i) = some (f i)) (hu : P.underlying ty = some d)
    (hd : (match d with | .struct _ | .array _ _ => true | _ => false) = true) (hi : (P.info? ty).map (·.size) = some n) :
    (loadVar ty p).run P w = .ok (.agg (vec n f)) w := by
  have hl : (loadCells p (vec n f).toList.length).run P w = .ok (vec n f).toList.toArray w :=
    run_loadCells_list (P := P) w p (vec n f).toList (fun j v hv => by
      have hj : j < n := by
        have := (List.getElem?_eq_some_iff.1 hv).1
        simpa [vec] using this
      have hv2 : (vec n f)[j]? = some v := by simpa using hv
      rw [vec_at n f j hj] at hv2
      rw [h j hj, hv2])
  cases hq : P.info? ty with
  | none => simp [hq] at hi
  | some i =>
    have hs : i.size = n := by simpa [hq] using hi
    have hagg : (isAgg ty).run P w = .ok true w := by
      unfold isAgg
      rw [Sem.run_bind, run_underlying hu w]
      cases d <;> simp_all
    have hz : (vec n f).size = n := vec_size n f
    simp only [Array.length_toList, Array.toArray_toList] at hl
    rw [hz] at hl
    simp [loadVar, Sem.run_bind, hagg, sizeOf, typeInfo, hq, hs, hl]
theorem exec_load_p (ty : TypeId) (x : Operand) (ho : o.op = .load ty x) (p : Addr) (hx : a.eval x = .pointer (some p)) (v : Value)
    (hl : (loadVar ty p).run P w = .ok v w) : (execOp a.eval o).run P w = .ok (.value v) w := by
  unfold execOp
  simp only [ho, hx, Instr.loadAt, Instr.sureAddr, Sem.run_bind, Sem.run_pure, Result.andThen_ok, hl]
end
theorem load_p {w : World} {p : Addr} {f : Nd} (h : ∀ i, i < 32 → w.cell? (p.add i) = some (bys f i)) : (loadVar 24 p).run Tryd.prog w = .ok (.agg (vec 32 (bys f))) w :=
  run_load_p h Tryd.underlying24 rfl info26
end Go.Proofs.YtfeiplaiekbdkaaDoor
/- A node's bytes; append of a node onto a row of the call's own; numbers of four bytes, there and back. -/
namespace Go.Proofs.YtfeiplaiekbdkaaDoor
open Go.RowKit

/-- A node's bytes. -/
def nodeL (f : Nat → UInt8) : List UInt8 := (List.range 32).map f
set_option maxRecDepth 100000 in
theorem nodeL_length (f : Nat → UInt8) : (nodeL f).length = 32 := by simp [nodeL]
set_option maxRecDepth 100000 in
theorem u8s_nodeL (f : Nat → UInt8) : u8s (nodeL f) = (List.range 32).map fun i => bys f (0 + i) := by simp [u8s, nodeL, bys]
set_option maxRecDepth 100000 in
theorem node_lies {w : World} {g B : Nat} {t : TypeId} {f : Nat → UInt8} (h : Arr w g t 32 (bys f)) (hB : g < B) : Lies w B 1 (some ⟨g, 0, none⟩) (nodeL f).length (u8s (nodeL f)) := by
  rw [u8s_nodeL, nodeL_length]; exact h.lies hB 0 32 (by decide)
set_option maxRecDepth 100000 in
/-- Cells that a new block begins with. -/
theorem lies_pre (w : World) (cs : Array Value) (t : TypeId) (n : Nat) (xs : List Value) (h : ∀ j (hj : j < xs.length), cs[j]? = some xs[j]) (hn : xs.length = n) :
    Lies (w.alloc (.cells cs t)) (w.heap.size + 1) 1 (some ⟨w.heap.size, 0, none⟩) n xs := by
  refine ⟨by omega, fun _ => ⟨_, rfl, Nat.lt_succ_self _, fun j hj => ?_⟩⟩
  have e : ((⟨w.heap.size, 0, none⟩ : Addr).add j) = ⟨w.heap.size, j, none⟩ := by
    unfold Addr.add; by_cases h0 : j = 0 <;> simp [h0]
  rw [e, cell_of_row _ w.heap.size j cs t (0, 0) (heap_alloc_new w _)]
  exact h j hj
set_option maxRecDepth 100000 in
theorem node_src {w : World} {g : Nat} {t : TypeId} {f : Nat → UInt8} (h : Arr w g t 32 (bys f)) : ∀ j u, (u8s (nodeL f))[j]? = some u → w.cell? ((⟨g, 0, none⟩ : Addr).add j) = some u := by
  intro j u hu
  obtain ⟨hj, rfl⟩ := List.getElem?_eq_some_iff.1 hu
  obtain ⟨a, e, _, hc⟩ := (node_lies h h.lt).2 (by rw [nodeL_length]; decide)
  injection e with e
  subst e
  exact hc j hj
set_option maxRecDepth 100000 in
theorem node_len (f : Nat → UInt8) : (u8s (nodeL f)).length = 32 * 1 := by rw [u8s_length, nodeL_length]
set_option maxRecDepth 100000 in
/-- append(own, b[:]...) -/
theorem app_node {w : World} {base : Nat} {v : Value} {n : Nat} {xs : List UInt8} {g : Nat} {t : TypeId} {f : Nat → UInt8} (hown : w.ownsRow base 5 1 v n (u8s xs)) (h : Arr w g t 32 (bys f)) (hn : n ≤ 1000000000) (hb : base ≤ w.heap.size) (ty : TypeId) :
    ∃ v' w', (Builtin.append_ #[28, 28] ty #[v, .slice (some ⟨g, 0, none⟩) 32 32]).run Tryd.prog w = .ok v' w' ∧ w'.ownsRow base 5 1 v' (n + 32) (u8s (xs ++ nodeL f)) ∧ Below base w w' := by
  obtain ⟨i0, hi, hz0, hz1, hz2⟩ := info_parts u8_info
  have hli := node_lies h h.lt
  rw [nodeL_length] at hli
  obtain ⟨v', w', hr, h2, h3, _⟩ := run_app (P := Tryd.prog) base 28 ty 5 i0 (.int .u8 0) 1 Tryd.underlying28 hi hz0 hz1 hz2 rfl v n (u8s xs) hown w.heap.size (some ⟨g, 0, none⟩) 32 32 (u8s (nodeL f)) hli (u8s_one _) (by unfold maxLen; omega) (by omega) hb
  rw [u8s_append] at h2
  exact ⟨v', w', hr, h2, (Below.refl _ _).grown h3 hb (fun k hk => (hown.lt k hk).1)⟩

set_option maxRecDepth 100000 in
theorem putN4 (n i : Nat) (hi : i < 4) : (putByte 0 4 n i).toNat = n / 2 ^ (8 * (3 - i)) % 256 := by
  have e : (shAt 0 (i : Int) ((4 : Nat) : Int)).toNat = 8 * (3 - i) := by rw [shAt_high]; omega
  have h1 := toNat_ofNat_mod (n / 2 ^ (8 * (3 - i)))
  unfold putByte
  rw [e]; omega
/-- A word that was put is read. -/
theorem wdn_put (n : Nat) (hn : n < 4294967296) (b : Nat → UInt8) (h : ∀ i, i < 4 → b i = putByte 0 4 n i) : accB b 4 = n := by
  simp only [accB]
  rw [h 0 (by decide), h 1 (by decide), h 2 (by decide), h 3 (by decide), putN4 n 0 (by decide), putN4 n 1 (by decide), putN4 n 2 (by decide), putN4 n 3 (by decide)]
  omega
/-- A word that was read is put. -/
theorem putn_wd (b : Nat → UInt8) (i : Nat) (hi : i < 4) : putByte 0 4 (accB b 4) i = b i := by
  apply UInt8.toNat_inj.1
  rw [putN4 _ i hi]
  have h0 := (b 0).toNat_lt
  have h1 := (b 1).toNat_lt
  have h2 := (b 2).toNat_lt
  have h3 := (b 3).toNat_lt
  simp only [accB]
  match i, hi with
  | 0, _ => omega
  | 1, _ => omega
  | 2, _ => omega
  | 3, _ => omega
end Go.Proofs.YtfeiplaiekbdkaaDoor
/- Plain: kinds; keys and signatures as bytes. -/
namespace Go.Proofs.YtfeiplaiekbdkaaDoor
open Go.RowKit

/-- The height that a kind has; 0 for none. -/
def hgtO (oid : Nat) : Nat := if oid = 1 then 10 else if oid = 2 then 16 else if oid = 3 then 20 else 0
def isO (oid : Nat) : Bool := decide (1 ≤ oid ∧ oid ≤ 3)
theorem isO_cases {oid : Nat} (h : isO oid = true) : (oid = 1 ∧ hgtO oid = 10) ∨ (oid = 2 ∧ hgtO oid = 16) ∨ (oid = 3 ∧ hgtO oid = 20) := by
  unfold isO at h
  have h := of_decide_eq_true h
  have : oid = 1 ∨ oid = 2 ∨ oid = 3 := by omega
  rcases this with rfl | rfl | rfl
  · exact .inl ⟨rfl, rfl⟩
  · exact .inr (.inl ⟨rfl, rfl⟩)
  · exact .inr (.inr ⟨rfl, rfl⟩)
theorem isO_off {oid : Nat} (h : isO oid = false) : oid ≠ 1 ∧ oid ≠ 2 ∧ oid ≠ 3 := by
  unfold isO at h
  have h := of_decide_eq_false h
  omega
theorem hgtO_off {oid : Nat} (h : isO oid = false) : hgtO oid = 0 := by
  obtain ⟨h1, h2, h3⟩ := isO_off h
  simp [hgtO, h1, h2, h3]
theorem hgtO_le (oid : Nat) : hgtO oid ≤ 20 := by
  unfold hgtO
  repeat' split
  all_goals decide
def nodesL (l : List Nd) : List UInt8 := l.flatMap nodeL
theorem nodesL_cons (f : Nd) (l : List Nd) : nodesL (f :: l) = nodeL f ++ nodesL l := by simp [nodesL]
theorem nodesL_append (a b : List Nd) : nodesL (a ++ b) = nodesL a ++ nodesL b := by simp [nodesL]
theorem nodesL_snoc (a : List Nd) (f : Nd) : nodesL (a ++ [f]) = nodesL a ++ nodeL f := by simp [nodesL]
theorem nodesL_length (l : List Nd) : (nodesL l).length = 32 * l.length := by
  induction l with
  | nil => rfl
  | cons x r ih => rw [nodesL_cons, List.length_append, nodeL_length, ih, List.length_cons]; omega
theorem numBytes_len (n : Nat) : (numBytes 0 4 n).length = 4 := by simp [numBytes]
/-- A key as bytes. -/
def keyL (oid : Nat) (root seed : Nd) : List UInt8 := numBytes 0 4 oid ++ (nodeL root ++ nodeL seed)
theorem keyL_length (oid : Nat) (root seed : Nd) : (keyL oid root seed).length = 68 := by
  simp only [keyL, List.length_append, numBytes_len, nodeL_length]
/-- A signature as bytes. -/
def sigL (idx : Nat) (r : Nd) (ots auth : List Nd) : List UInt8 := numBytes 0 4 idx ++ (nodeL r ++ (nodesL ots ++ nodesL auth))
theorem sigL_length (idx : Nat) (r : Nd) (ots auth : List Nd) : (sigL idx r ots auth).length = 36 + 32 * (ots.length + auth.length) := by
  simp only [sigL, List.length_append, numBytes_len, nodeL_length, nodesL_length]; omega
/-- The number that four bytes are. -/
theorem num_of (l : List UInt8) (h : l.length = 4) : ∃ n, n < 4294967296 ∧ l = numBytes 0 4 n := by
  refine ⟨accB (fun i => l.getD i 0) 4, by have := accB_lt (fun i => l.getD i 0) 4; simpa using this, ?_⟩
  apply List.ext_getElem (by rw [numBytes_len, h])
  intro i h1 h2
  simp only [numBytes, List.getElem_map, List.getElem_range]
  rw [putn_wd _ i (by omega)]
  simp [List.getD_eq_getElem?_getD, h1]
theorem node_of (l : List UInt8) (h : l.length = 32) : ∃ f : Nd, l = nodeL f := by
  refine ⟨fun i => l.getD i 0, ?_⟩
  apply List.ext_getElem (by rw [nodeL_length, h])
  intro i h1 h2
  simp [nodeL, List.getD_eq_getElem?_getD, h1]
theorem nodes_of : ∀ (k : Nat) (l : List UInt8), l.length = 32 * k → ∃ ls : List Nd, ls.length = k ∧ l = nodesL ls
  | 0, l, h => ⟨[], rfl, by have := List.eq_nil_of_length_eq_zero (by omega : l.length = 0); simp [this, nodesL]⟩
  | k + 1, l, h => by
    obtain ⟨f, hf⟩ := node_of (l.take 32) (by rw [List.length_take]; omega)
    obtain ⟨ls, h1, h2⟩ := nodes_of k (l.drop 32) (by rw [List.length_drop]; omega)
    exact ⟨f :: ls, by simp [h1], by rw [nodesL_cons, ← hf, ← h2, List.take_append_drop]⟩
theorem key_of (b : List UInt8) (h : b.length = 68) : ∃ oid root seed, oid < 4294967296 ∧ b = keyL oid root seed := by
  obtain ⟨n, hn, e1⟩ := num_of (b.take 4) (by rw [List.length_take]; omega)
  obtain ⟨f, e2⟩ := node_of ((b.drop 4).take 32) (by rw [List.length_take, List.length_drop]; omega)
  obtain ⟨g, e3⟩ := node_of ((b.drop 4).drop 32) (by rw [List.length_drop, List.length_drop]; omega)
  exact ⟨n, f, g, hn, by rw [keyL, ← e1, ← e2, ← e3, List.take_append_drop, List.take_append_drop]⟩
theorem sig_of (b : List UInt8) (k : Nat) (h : b.length = 36 + 32 * (67 + k)) : ∃ idx r ots auth, idx < 4294967296 ∧ ots.length = 67 ∧ auth.length = k ∧ b = sigL idx r ots auth := by
  obtain ⟨n, hn, e1⟩ := num_of (b.take 4) (by rw [List.length_take]; omega)
  obtain ⟨f, e2⟩ := node_of ((b.drop 4).take 32) (by rw [List.length_take, List.length_drop]; omega)
  obtain ⟨l1, h1, e3⟩ := nodes_of 67 (((b.drop 4).drop 32).take 2144) (by rw [List.length_take, List.length_drop, List.length_drop]; omega)
  obtain ⟨l2, h2, e4⟩ := nodes_of k (((b.drop 4).drop 32).drop 2144) (by rw [List.length_drop, List.length_drop, List.length_drop]; omega)
  exact ⟨n, f, l1, l2, hn, h1, h2, by rw [sigL, ← e1, ← e2, ← e3, ← e4, List.take_append_drop, List.take_append_drop, List.take_append_drop]⟩
/-- The number at the head of bytes. -/
theorem acc_num (n : Nat) (hn : n < 4294967296) (t : List UInt8) : accB (fun j => (numBytes 0 4 n ++ t).getD (0 + j) 0) 4 = n := by
  refine wdn_put n hn _ fun i hi => ?_
  rw [Nat.zero_add, List.getD_eq_getElem?_getD, List.getElem?_append_left (by rw [numBytes_len]; exact hi)]
  simp [numBytes, hi]
end Go.Proofs.YtfeiplaiekbdkaaDoor
/- Keys and signatures by value. -/
namespace Go.Proofs.YtfeiplaiekbdkaaDoor
open Go.RowKit

/-- A key's cells. -/
def keyF (oid : Int) (root seed : Nd) : Nat → Value
  | 0 => .int .u32 oid
  | i + 1 => if i < 32 then bys root i else bys seed (i - 32)
theorem keyF_one (oid : Int) (root seed : Nd) (n : Nat) : ∀ i, i < n → (keyF oid root seed i).oneCell' = true := by
  intro i _
  unfold keyF
  split
  · rfl
  · split <;> rfl
theorem keyF_root (oid : Int) (root seed : Nd) (i : Nat) (h : i < 32) : keyF oid root seed (1 + i) = bys root i := by
  rw [Nat.add_comm]; simp [keyF, h]
theorem keyF_seed (oid : Int) (root seed : Nd) (i : Nat) : keyF oid root seed (33 + i) = bys seed i := by
  rw [show 33 + i = (32 + i) + 1 by omega]
  show (if 32 + i < 32 then bys root (32 + i) else bys seed (32 + i - 32)) = _
  rw [if_neg (by omega), Nat.add_sub_cancel_left]
theorem infoKey : (Tryd.prog.info? 26).map (·.size) = some 65 := by kernel_rfl
theorem zeroKey (w : World) : (zeroValue 26).run Tryd.prog w = .ok (.agg (vec 65 (keyF 0 zb zb))) w :=
  (zero_of_info (P := Tryd.prog) (t := 26) (v := .agg (vec 65 (keyF 0 zb zb))) (n := 65) (by kernel_rfl)).1 w
/-- A signature's cells; v1, v2: its lists. -/
def sigF (idx : Int) (r : Nd) (v1 v2 : Value) : Nat → Value
  | 0 => .int .u32 idx
  | i + 1 => if i < 32 then bys r i else if i = 32 then v1 else v2
theorem sigF_r (idx : Int) (r : Nd) (v1 v2 : Value) (i : Nat) (h : i < 32) : sigF idx r v1 v2 (1 + i) = bys r i := by
  rw [Nat.add_comm]; simp [sigF, h]
theorem sigF_one (idx : Int) (r : Nd) (v1 v2 : Value) (h1 : v1.oneCell' = true) (h2 : v2.oneCell' = true) (n : Nat) : ∀ i, i < n → (sigF idx r v1 v2 i).oneCell' = true := by
  intro i _
  unfold sigF
  split
  · rfl
  · split
    · rfl
    · split <;> assumption
theorem sigF_33 (idx : Int) (r : Nd) (v1 v2 u : Value) : upd (sigF idx r v1 v2) 33 u = sigF idx r u v2 := by
  funext j
  by_cases e : j = 33
  · subst e; rw [upd_at]; rfl
  · rw [upd_ne _ _ _ _ e]
    cases j with
    | zero => rfl
    | succ j =>
      have h32 : j ≠ 32 := fun h => e (by omega)
      simp [sigF, h32]
theorem sigF_34 (idx : Int) (r : Nd) (v1 v2 u : Value) : ∀ j, j < 35 → upd (sigF idx r v1 v2) 34 u j = sigF idx r v1 u j := by
  intro j hj
  by_cases e : j = 34
  · subst e; rw [upd_at]; rfl
  · rw [upd_ne _ _ _ _ e]
    cases j with
    | zero => rfl
    | succ j =>
      by_cases h : j < 32
      · simp [sigF, h]
      · have h32 : j = 32 := by omega
        subst h32; rfl
theorem infoSig : (Tryd.prog.info? 44).map (·.size) = some 35 := by kernel_rfl
theorem zeroSig (w : World) : (zeroValue 44).run Tryd.prog w = .ok (.agg (vec 35 (sigF 0 zb (.slice none 0 0) (.slice none 0 0)))) w :=
  (zero_of_info (P := Tryd.prog) (t := 44) (v := .agg (vec 35 (sigF 0 zb (.slice none 0 0) (.slice none 0 0)))) (n := 35) (by kernel_rfl)).1 w
section
variable {w : World} {g : Nat}
set_option maxRecDepth 100000 in
theorem key_root {t : TypeId} {oid : Int} {root seed : Nd} (h : Arr w g t 65 (keyF oid root seed)) : (loadVar 24 ⟨g, 1, none⟩).run Tryd.prog w = .ok (.agg (vec 32 (bys root))) w :=
  run_load_spl (n := 32) (f := bys root) (fun i hi => (h.cell (i := 1 + i) (by omega)).trans (by rw [keyF_root _ _ _ i hi])) Tryd.underlying24 rfl info26
set_option maxRecDepth 100000 in
theorem key_seed {t : TypeId} {oid : Int} {root seed : Nd} (h : Arr w g t 65 (keyF oid root seed)) : (loadVar 24 ⟨g, 33, none⟩).run Tryd.prog w = .ok (.agg (vec 32 (bys seed))) w :=
  run_load_spl (n := 32) (f := bys seed) (fun i hi => (h.cell (i := 33 + i) (by omega)).trans (by rw [keyF_seed])) Tryd.underlying24 rfl info26
theorem key_oid {t : TypeId} {oid : Int} {root seed : Nd} (h : Arr w g t 65 (keyF oid root seed)) : w.cell? ⟨g, 0, none⟩ = some (.int .u32 oid) := h.cell (i := 0) (by decide)
set_option maxRecDepth 100000 in
theorem sig_r {t : TypeId} {n : Nat} {idx : Int} {r : Nd} {v1 v2 : Value} {f : Nat → Value} (h : Arr w g t n f) (hf : ∀ i, i < 35 → f i = sigF idx r v1 v2 i) (hn : 35 ≤ n) : (loadVar 24 ⟨g, 1, none⟩).run Tryd.prog w = .ok (.agg (vec 32 (bys r))) w :=
  run_load_spl (n := 32) (f := bys r) (fun i hi => (h.cell (i := 1 + i) (by omega)).trans (by rw [hf _ (by omega), sigF_r _ _ _ _ i hi])) Tryd.underlying24 rfl info26
end
end Go.Proofs.YtfeiplaiekbdkaaDoor
/- Kinds: Height, Size. -/
namespace Go.Proofs.YtfeiplaiekbdkaaDoor
open Go.RowKit

set_option maxRecDepth 100000 in
theorem height_any (oid : Nat) (_hoid : oid < 4294967296) (w : World) :
    Calls Tryd.prog 17 #[.int .u32 (oid : Int)] w fun e w' => e = .returned (.tuple #[.int .i64 ((hgtO oid : Nat) : Int), .bool (isO oid)]) ∧ w = w' := by
  by_cases h1 : oid = 1
  · subst h1
    go_enter Tryd.func17, Tryd.ntmps17
    go_wp2
    go_ret2
    exact ⟨rfl, rfl⟩
  by_cases h2 : oid = 2
  · subst h2
    go_enter Tryd.func17, Tryd.ntmps17
    go_wp2
    go_ret2
    exact ⟨rfl, rfl⟩
  by_cases h3 : oid = 3
  · subst h3
    go_enter Tryd.func17, Tryd.ntmps17
    go_wp2
    go_ret2
    exact ⟨rfl, rfl⟩
  have e1 : ((oid : Int) == 1) = false := by simp; omega
  have e2 : ((oid : Int) == 2) = false := by simp; omega
  have e3 : ((oid : Int) == 3) = false := by simp; omega
  have e0 : isO oid = false := by unfold isO; exact decide_eq_false (by omega)
  rw [hgtO_off e0, e0]
  go_enter Tryd.func17, Tryd.ntmps17
  go_wp2
  go_ret2
  exact ⟨rfl, rfl⟩
set_option maxRecDepth 100000 in
theorem rheight_any (oid : Nat) (_hoid : oid < 4294967296) (w : World) :
    Calls Tryd.prog 12 #[.int .u32 (oid : Int)] w fun e w' => e = .returned (.tuple #[.int .i64 ((hgtO oid : Nat) : Int), .bool (isO oid)]) ∧ w = w' := by
  by_cases h1 : oid = 1
  · subst h1
    go_enter Tryd.func12, Tryd.ntmps12
    go_wp2
    go_ret2
    exact ⟨rfl, rfl⟩
  by_cases h2 : oid = 2
  · subst h2
    go_enter Tryd.func12, Tryd.ntmps12
    go_wp2
    go_ret2
    exact ⟨rfl, rfl⟩
  by_cases h3 : oid = 3
  · subst h3
    go_enter Tryd.func12, Tryd.ntmps12
    go_wp2
    go_ret2
    exact ⟨rfl, rfl⟩
  have e1 : ((oid : Int) == 1) = false := by simp; omega
  have e2 : ((oid : Int) == 2) = false := by simp; omega
  have e3 : ((oid : Int) == 3) = false := by simp; omega
  have e0 : isO oid = false := by unfold isO; exact decide_eq_false (by omega)
  rw [hgtO_off e0, e0]
  go_enter Tryd.func12, Tryd.ntmps12
  go_wp2
  go_ret2
  exact ⟨rfl, rfl⟩
def sizeO (oid : Nat) : Nat := if isO oid then 4 + 32 * (68 + hgtO oid) else 0
set_option maxRecDepth 100000 in
theorem size_any (oid : Nat) (hoid : oid < 4294967296) (w : World) :
    Calls Tryd.prog 7 #[.int .u32 (oid : Int)] w fun e w' => e = .returned (.tuple #[.int .i64 ((sizeO oid : Nat) : Int), .bool (isO oid)]) ∧ w = w' := by
  have HH := Lib.hid (height_any oid hoid w)
  have hle := hgtO_le oid
  have HS : Hid (sizeO oid = if isO oid then 4 + 32 * (68 + hgtO oid) else 0) := Lib.hid rfl
  obtain ⟨h, hh⟩ : ∃ h, h = hgtO oid := ⟨_, rfl⟩
  obtain ⟨s, hs⟩ : ∃ s, s = sizeO oid := ⟨_, rfl⟩
  obtain ⟨b, hb⟩ : ∃ b, b = isO oid := ⟨_, rfl⟩
  rw [← hs]
  rw [← hh] at HH HS hle
  rw [← hb] at HH HS ⊢
  rw [← hs] at HS
  clear hh hs hb
  cases b
  · go_enter Tryd.func7, Tryd.ntmps7
    go_wp2_with (go_at_call 17; refine HH.out.mono ?_; rintro e w1 ⟨rfl, hw1⟩; rw [← hw1]; clear hw1)
    go_ret2
    have hs3 := HS.out
    rw [if_neg (by decide)] at hs3
    exact ⟨by rw [hs3]; rfl, rfl⟩
  · go_enter Tryd.func7, Tryd.ntmps7
    go_wp2_with (go_at_call 17; refine HH.out.mono ?_; rintro e w1 ⟨rfl, hw1⟩; rw [← hw1]; clear hw1)
    go_ret2
    have hs3 := HS.out
    rw [if_pos trivial] at hs3
    exact ⟨by rw [hs3]; simp, rfl⟩
end Go.Proofs.YtfeiplaiekbdkaaDoor
/- word.Be32. -/
namespace Go.Proofs.YtfeiplaiekbdkaaDoor
open Go.RowKit

theorem accN_high (w : Nat) (b : Nat → UInt8) (k : Nat) (hk : k ≤ w) : accN 0 w (2 ^ (8 * w)) b k = accB b k * 256 ^ (w - k) := by
  induction k with
  | zero => simp [accN, accB]
  | succ k ih =>
    have e : (shAt 0 (k : Int) (w : Int)).toNat = 8 * (w - 1 - k) := by rw [shAt_high]; omega
    rw [accN, ih (by omega), e, Nat.min_eq_left (by omega), high_or b w k (by omega)]
theorem accN_low (w : Nat) (b : Nat → UInt8) (k : Nat) (hk : k ≤ w) : accN 1 w (2 ^ (8 * w)) b k = leSum b k := by
  induction k with
  | zero => simp [accN, leSum]
  | succ k ih =>
    have e : (shAt 1 (k : Int) (w : Int)).toNat = 8 * k := by rw [shAt_low]; omega
    rw [accN, ih (by omega), e, Nat.min_eq_left (by omega), low_or b w k (by omega)]

theorem accB_step (b : Nat → UInt8) (k : Nat) (hk : k < 8) (x : Int) (hx : x = ((b k).toNat : Int)) :
    bits .or .u64 (((accB b k : Nat) : Int) * 256) x = ((accB b (k + 1) : Nat) : Int) := by
  subst hx
  have h := accB_lt b k
  have hp : 256 ^ k ≤ 256 ^ 7 := Nat.pow_le_pow_right (by decide) (by omega)
  have hb := (b k).toNat_lt
  have e : ((accB b k : Nat) : Int) * 256 = ((accB b k * 256 : Nat) : Int) := by simp
  rw [e, u64_or_nat _ _ (by omega) (by omega), accB_or]
theorem accB_small (b : Nat → UInt8) (k : Nat) (hk : k < 8) : ((accB b k : Nat) : Int) ≤ 72057594037927935 := by
  have h := accB_lt b k
  have hp : 256 ^ k ≤ 256 ^ 7 := Nat.pow_le_pow_right (by decide) (by omega)
  omega
def dnAt (l : List UInt8) (at_ size : Nat) : Nat → UInt8 := fun j => l.getD (at_ + size - 1 - j) 0
theorem dnAt_eq (l : List UInt8) (at_ size k : Nat) (h : at_ + size - 1 - k < l.length) : ((l[at_ + size - 1 - k].toNat : Nat) : Int) = ((dnAt l at_ size k).toNat : Int) := by
  unfold dnAt
  rw [List.getD_eq_getElem?_getD, List.getElem?_eq_getElem h]; rfl

/-- The document's answers, as plain functions. -/
def numHas (n : Nat) (at_ : Int) (size : Nat) : Bool := decide (0 ≤ at_ ∧ at_ + size ≤ n)
def numOf (l : List UInt8) (at_ : Int) (size : Nat) (low : Bool) : Nat :=
  if 0 ≤ at_ ∧ at_ + size ≤ l.length then (if low then accB (dnAt l at_.toNat size) size else accB (bAt l at_.toNat) size) else 0
theorem read32_any (l : List UInt8) (A : Option Addr) (c B : Nat) (at_ : Int) (low : Bool) (w : World) (hl : l.length ≤ maxLen) (h : Lies w B 1 A l.length (u8s l)) :
    Calls Tryd.prog 48 #[.slice A l.length c, .int .i64 at_, .int .i64 (if low then 1 else 0)] w fun e w' => e = .returned (.tuple #[.int .u32 (numOf l at_ 4 low : Nat), .bool (numHas l.length at_ 4)]) ∧ ∃ n, w' = w.drewN n := by
  by_cases hin : 0 ≤ at_ ∧ at_ + (4 : Nat) ≤ l.length
  · obtain ⟨k, rfl⟩ := Int.eq_ofNat_of_zero_le hin.1
    have e1 : numHas l.length (k : Int) 4 = true := by simp only [numHas, decide_eq_true_eq]; exact hin
    have e2 : numOf l (k : Int) 4 low = accN (if low then 1 else 0) 4 4294967296 (bAt l k) 4 := by
      rw [numOf, if_pos hin]
      cases low
      · have := accN_high 4 (bAt l k) 4 (Nat.le_refl _)
        rw [Nat.sub_self, Nat.pow_zero, Nat.mul_one] at this
        exact this.symm
      · have := accN_low 4 (bAt l k) 4 (Nat.le_refl _)
        refine Eq.trans ?_ this.symm
        exact accB_rev4 (bAt l k) _ (fun j hj => by unfold dnAt bAt; rw [Int.toNat_natCast, show k + 4 - 1 - j = k + (4 - 1 - j) by omega])
    rw [e1, e2]
    exact read32_in l A c B k _ (by cases low <;> simp) w (by omega) hl h
  · have e1 : numHas l.length at_ 4 = false := by simp only [numHas, decide_eq_false_iff_not]; exact hin
    have e2 : numOf l at_ 4 low = 0 := by rw [numOf, if_neg hin]
    rw [e1, e2]
    exact (read32_out A l.length c at_ _ w (by omega) hl).mono fun e w' ⟨h1, h2⟩ => ⟨h1, 0, h2.symm⟩

theorem be32_any (l : List UInt8) (A : Option Addr) (c B : Nat) (at_ : Int) (w : World) (hl : l.length ≤ maxLen) (h : Lies w B 1 A l.length (u8s l)) :
    Calls Tryd.prog 32 #[.slice A l.length c, .int .i64 at_] w fun e w' => e = .returned (.tuple #[.int .u32 (numOf l at_ 4 false : Nat), .bool (numHas l.length at_ 4)]) ∧ ∃ n, w' = w.drewN n := by
  have L := Lib.hid (fun c' W' => read32_any l A c' B at_ false W' hl)
  have Hw := Lib.hid h
  clear h hl
  go_enter Tryd.func32, Tryd.ntmps32
  go_wp2_with (go_at_call 48; refine (L.out _ _ Hw.out).mono ?_; rintro e w' ⟨rfl, hn⟩)
  go_ret2
  exact ⟨rfl, hn⟩
end Go.Proofs.YtfeiplaiekbdkaaDoor
/- The cutter: a closure that goes on through bytes. -/
namespace Go.Proofs.YtfeiplaiekbdkaaDoor
open Go.RowKit
attribute [local go_sem ↓ high] zeroV26

def cutV (g : Nat) : Value := .func (.func 31) #[] #[.pointer (some ⟨g, 0, none⟩)]
theorem Blk.set1 {w : World} {g : Nat} {t : TypeId} {v : Value} (h : Blk w g t #[v]) (u : Value) : Blk (w.setCell ⟨g, 0, none⟩ u) g t #[u] := by
  unfold Blk at h ⊢
  simp [World.setCell, Array.getElem?_modify, h]
/-- Box g holds the bytes that are left, l; they lie below block B. -/
structure CutAt (w : World) (B g : Nat) (l : List UInt8) : Prop where
  box : ∃ A c, Blk w g 28 #[.slice A l.length c] ∧ Lies w B 1 A l.length (u8s l) ∧ l.length ≤ c
  le : B ≤ g
theorem lies_left {w : World} {B : Nat} {a : Addr} {l1 l2 : List UInt8} (h : Lies w B 1 (some a) (l1 ++ l2).length (u8s (l1 ++ l2))) (hn : (l1 ++ l2) ≠ []) : Lies w B 1 (some a) l1.length (u8s l1) ∧ Lies w B 1 (some (a.add l1.length)) l2.length (u8s l2) := by
  obtain ⟨a', e, hb, hc⟩ := h.2 (fun h0 => hn (List.eq_nil_of_length_eq_zero h0))
  injection e with e
  subst e
  have e : u8s (l1 ++ l2) = u8s l1 ++ u8s l2 := by simp [u8s]
  have hc' : ∀ j x, (u8s (l1 ++ l2))[j]? = some x → w.cell? (a.add j) = some x := fun j x hx => by
    obtain ⟨hj, rfl⟩ := List.getElem?_eq_some_iff.1 hx
    exact hc j hj
  refine ⟨⟨by simp [u8s_length], fun _ => ⟨a, rfl, hb, fun j hj => ?_⟩⟩, ⟨by simp [u8s_length], fun _ => ⟨_, rfl, by rw [addr_add_block]; exact hb, fun j hj => ?_⟩⟩⟩
  · exact hc' j _ (by rw [e, List.getElem?_append_left hj]; exact List.getElem?_eq_getElem hj)
  · rw [addr_add_add]
    exact hc' _ _ (by rw [e, List.getElem?_append_right (by rw [u8s_length]; omega), u8s_length, Nat.add_sub_cancel_left]; exact List.getElem?_eq_getElem hj)
set_option maxHeartbeats 1000000 in
set_option maxRecDepth 100000 in
theorem next_any (l1 l2 : List UInt8) (k : Nat) (hk : k = l1.length) (hk0 : 0 < k) (B g : Nat) (w : World) (h : CutAt w B g (l1 ++ l2)) :
    Calls Tryd.prog 31 #[.int .i64 (k : Int), .pointer (some ⟨g, 0, none⟩)] w fun e w' => ∃ A c, e = .returned (.slice A k c) ∧ Lies w' B 1 A l1.length (u8s l1) ∧ k ≤ c ∧ CutAt w' B g l2 ∧ Save g w w' := by
  obtain ⟨⟨A, c, hb, hl, hc⟩, hle⟩ := h
  have hne : l1 ++ l2 ≠ [] := fun e => by have h2 := congrArg List.length e; rw [List.length_append, List.length_nil] at h2; omega
  obtain ⟨a, rfl, -, -⟩ := hl.2 (fun h0 => hne (List.eq_nil_of_length_eq_zero h0))
  obtain ⟨n, hn⟩ : ∃ n, n = (l1 ++ l2).length := ⟨_, rfl⟩
  have hn2 : n = k + l2.length := by rw [hn, List.length_append, hk]
  rw [← hn] at hb hc
  have hcell := hb.cellAt 0 (v := .slice (some a) n c) rfl
  have hfz : w.frozen? ⟨g, 0, none⟩ = false := by unfold Blk at hb; simp [World.frozen?, hb]
  have HL := Lib.hid (And.intro (lies_left hl hne) (And.intro hb hle))
  have hkn : k ≤ n := by omega
  clear hl hb hn
  go_enter Tryd.func31, Tryd.ntmps31
  go_wp2
  case inl =>
    go_ret
    refine ⟨_, _, rfl, ?_, Nat.le_refl _, ⟨⟨_, _, HL.out.2.1.set1 _, ?_, by omega⟩, HL.out.2.2⟩, (Save.refl _ _).setCell 0 _⟩
    · exact HL.out.1.1.set HL.out.2.2 _
    · have h0 : l2.length = 0 := by omega
      have : l2 = [] := List.eq_nil_of_length_eq_zero h0
      rw [this]; exact Lies.nil _ _ _ _
  case inr =>
    go_ret
    exact ⟨_, _, rfl, HL.out.1.1.set HL.out.2.2 _, by omega, ⟨⟨_, _, HL.out.2.1.set1 _, HL.out.1.2.set HL.out.2.2 _, by omega⟩, HL.out.2.2⟩, (Save.refl _ _).setCell 0 _⟩
set_option maxRecDepth 100000 in
theorem cutter_any (A : Option Addr) (c : Nat) (l : List UInt8) (w : World) (hc : l.length ≤ c) (h : Lies w w.heap.size 1 A l.length (u8s l)) :
    Calls Tryd.prog 18 #[.slice A l.length c] w fun e w' => e = .returned (cutV w.heap.size) ∧ CutAt w' w.heap.size w.heap.size l ∧ Below w.heap.size w w' ∧ w'.heap.size = w.heap.size + 1 := by
  have HL := Lib.hid (And.intro hc h)
  clear hc h
  go_enter Tryd.func18, Tryd.ntmps18
  go_wp2
  go_ret
  exact ⟨rfl, ⟨⟨_, _, Blk.new _ _ _ rfl, HL.out.2.alloc (Nat.le_refl _) _, HL.out.1⟩, Nat.le_refl _⟩, (Below.refl _ _).alloc (Nat.le_refl _) _, by simp⟩
set_option maxHeartbeats 1000000 in
set_option maxRecDepth 100000 in
theorem number_cut (n : Nat) (hn : n < 4294967296) (l2 : List UInt8) (B g : Nat) (w : World) (h : CutAt w B g (numBytes 0 4 n ++ l2)) :
    Calls Tryd.prog 19 #[cutV g] w fun e w' => e = .returned (.int .u32 (n : Int)) ∧ CutAt w' B g l2 ∧ Save g w w' := by
  have HN := Lib.hid (next_any (numBytes 0 4 n) l2 4 (numBytes_len n).symm (by decide) B g w h)
  have hacc : numOf (numBytes 0 4 n) 0 4 false = n := by
    unfold numOf
    rw [if_pos (by rw [numBytes_len]; decide)]
    have := acc_num n hn []
    rw [List.append_nil] at this
    exact this
  have HA := Lib.hid hacc
  clear hacc h
  unfold cutV
  go_enter Tryd.func19, Tryd.ntmps19
  go_wp2_with (first
    | (go_at_call 31; refine HN.out.mono ?_; rintro e w1 ⟨A, c, rfl, hl, hc, hct, hs⟩; have H1 := Lib.hid (And.intro hl (And.intro hct hs)); clear hl hct hs)
    | (go_at_call 32
       have hb := be32_any (numBytes 0 4 n) A c B 0 w1 (by rw [numBytes_len]; decide) H1.out.1
       rw [numBytes_len, HA.out] at hb
       refine hb.mono ?_; clear hb; rintro e w2 ⟨rfl, hw2⟩; have H2 := Lib.hid hw2; clear hw2))
  go_ret
  obtain ⟨m, hm⟩ := H2.out
  rw [hm]
  exact ⟨rfl, ⟨H1.out.2.1.box, H1.out.2.1.le⟩, H1.out.2.2.drewN _⟩
end Go.Proofs.YtfeiplaiekbdkaaDoor
/- The cutter's node. -/
namespace Go.Proofs.YtfeiplaiekbdkaaDoor
open Go.RowKit
attribute [local go_sem ↓ high] zeroV26

section
variable {P : Program} {w : World} {ops : Array Oper} {rest : List Oper} {o : Oper} {a : Act} {Q : Exit → Act → World → Prop}
theorem wl_load_q (hgd : o.guard = none) (ty : TypeId) (x : Operand) (ho : o.op = .load ty x) (p : Addr) (hx : a.eval x = .pointer (some p)) (v : Value)
    (hl : (loadVar ty p).run P w = .ok v w) (h : wpList P ops Q rest (a.put o.dst v) w) : wpList P ops Q (o :: rest) a w :=
  wpList_plain hgd fun _ hK => by
    unfold Oper.wp
    rw [exec_load_p ty x ho p hx v hl]
    exact hK _ _ h
end
/-- A world that goes on: all below n is as it was. -/
theorem Save.on {g n : Nat} {V Y Z : World} (h : Save g V Y) (hd : Below n Y Z) (hn : V.heap.size ≤ n) : Save g V Z :=
  ⟨hd.os.trans h.os, hd.tape.trans h.tape, hd.output.trans h.output, Nat.le_trans h.size hd.size, fun k hk hkr => (hd.block k (by omega)).trans (h.block k hk hkr)⟩
theorem CutAt.on {B g n : Nat} {Y Z : World} {l : List UInt8} (h : CutAt Y B g l) (hd : Below n Y Z) (hn : g < n) : CutAt Z B g l := by
  obtain ⟨⟨A, c, hb, hl, hc⟩, hle⟩ := h
  exact ⟨⟨A, c, hb.below hd hn, hl.below (hd.mono (by omega)), hc⟩, hle⟩
theorem CutAt.lt {B g : Nat} {w : World} {l : List UInt8} (h : CutAt w B g l) : g < w.heap.size := by
  obtain ⟨⟨A, c, hb, hl, hc⟩, hle⟩ := h
  exact hb.lt
theorem lies_node {w : World} {B : Nat} {A : Option Addr} {f : Nd} (h : Lies w B 1 A (nodeL f).length (u8s (nodeL f))) : ∃ a, A = some a ∧ a.block < B ∧ ∀ i, i < 32 → w.cell? (a.add i) = some (bys f i) := by
  obtain ⟨a, e, hb, hc⟩ := h.2 (by rw [nodeL_length]; decide)
  refine ⟨a, e, hb, fun i hi => ?_⟩
  rw [hc i (by rw [u8s_length, nodeL_length]; exact hi)]
  simp [u8s, nodeL, bys]
theorem arr_at_q (a : Addr) (c : Nat) (w : World) : (Instr.arrayAt 24 (.slice (some a) 32 c)).run Tryd.prog w = .ok (.pointer (some a)) w := by
  simp [Instr.arrayAt, run_underlying Tryd.underlying24]

set_option maxHeartbeats 1000000 in
set_option maxRecDepth 100000 in
theorem node_cut (f : Nd) (l2 : List UInt8) (B g : Nat) (w : World) (h : CutAt w B g (nodeL f ++ l2)) :
    Calls Tryd.prog 20 #[cutV g] w fun e w' => e = .returned (.agg (vec 32 (bys f))) ∧ CutAt w' B g l2 ∧ Save g w w' := by
  obtain ⟨V, hV⟩ : ∃ V, V = w.alloc (.cells (vec 32 (bys zb)) 24) := ⟨_, rfl⟩
  have h0 : Arr V w.heap.size 24 32 (bys zb) := by rw [hV]; exact Arr.new w _ _ _
  have hB : Below w.heap.size w V := by rw [hV]; exact (Below.refl _ _).alloc (Nat.le_refl _) _
  have HG := Lib.hid (And.intro h.lt h.le)
  have HN := Lib.hid (next_any (nodeL f) l2 32 (nodeL_length f).symm (by decide) B g V (h.on hB h.lt))
  have HA := Lib.hid (And.intro h0 hB)
  have HW := Lib.hid hV
  have har := fun a c => arr_at_q a c
  clear hV h0 hB h
  unfold cutV
  go_enter Tryd.func20, Tryd.ntmps20
  go_upto_region 1 with fail
  rw [← HW.out]
  clear HW
  go_wp2_with (first
    | (go_at_call 31; refine HN.out.mono ?_; rintro e w1 ⟨A, c, rfl, hl, hc, hct, hs⟩; obtain ⟨a, rfl, hab, hcl⟩ := lies_node hl; have H1 := Lib.hid (And.intro hcl (And.intro hct hs)); clear hl hc hct hs hcl)
    | ((with_reducible show wpList _ _ _ (Oper.mk _ (.load _ _) _ _ _ _ :: _) _ _); refine wl_load_q rfl 24 _ rfl a rfl _ (load_p H1.out.1) ?_)
    | ((with_reducible show wpList _ _ _ (Oper.mk _ (.store _ _ _) _ _ _ _ :: _) _ _); refine wl_store rfl 24 _ _ rfl _ rfl _ rfl (run_store_arr (HA.out.1.save H1.out.2.2 (by have := HG.out.1; omega)) (bys f) info26 (bys_one _ _)) ?_))
  refine bodyPost_ret (results_cell1 rfl _ _ _ rfl (run_load_arr ((HA.out.1.save H1.out.2.2 (by have := HG.out.1; omega)).row _) Tryd.underlying24 rfl info26)) rfl ⟨rfl, ?_, ?_⟩
  · exact H1.out.2.1.on (below_row (Below.refl w.heap.size _) (Nat.le_refl _) _) HG.out.1
  · exact Save.on ⟨H1.out.2.2.os.trans HA.out.2.os, H1.out.2.2.tape.trans HA.out.2.tape, H1.out.2.2.output.trans HA.out.2.output, Nat.le_trans HA.out.2.size H1.out.2.2.size, fun k hk hkg => (H1.out.2.2.block k (Nat.lt_of_lt_of_le hk HA.out.2.size) hkg).trans (HA.out.2.block k hk)⟩ (below_row (Below.refl w.heap.size _) (Nat.le_refl _) _) (Nat.le_refl _)
end Go.Proofs.YtfeiplaiekbdkaaDoor
/- KeyOf; the reference's KeyOf. -/
namespace Go.Proofs.YtfeiplaiekbdkaaDoor
open Go.RowKit
attribute [local go_sem ↓ high] zeroV26 zeroKey

theorem results_ct {fn : Func} {p q : Tmp} {ty : TypeId} {P : Program} {w : World} (h : fn.results = #[.cell p ty, .tmp q]) (tmps : Array Value) (g : Nat) (v : Value)
    (ha : tmps.getD p undef = .pointer (some ⟨g, 0, none⟩)) (hl : (loadVar ty ⟨g, 0, none⟩).run P w = .ok v w) : (results fn tmps).run P w = .ok (.tuple #[v, tmps.getD q undef]) w := by
  have hp' : tmps[p]?.getD undef = .pointer (some ⟨g, 0, none⟩) := by simpa using ha
  simp [results, h, hp', asAddr, hl]
/-- What KeyOf answers of a key's bytes. -/
def keyR (oid : Nat) (root seed : Nd) : Nat → Value := if isO oid then keyF (oid : Int) root seed else keyF 0 zb zb
def keyE (oid : Nat) : Nat := if isO oid then 0 else 80
theorem keyR_one (oid : Nat) (root seed : Nd) (n : Nat) : ∀ i, i < n → (keyR oid root seed i).oneCell' = true := by
  unfold keyR
  split <;> exact keyF_one _ _ _ _
/-- The contract of KeyOf, of each of the two: bytes that are none. -/
def KeyNo (F : Nat) : Prop := ∀ (A : Option Addr) (c : Nat) (b : List UInt8) (w : World), b.length ≤ 3000 → b.length ≠ 68 → Lies w w.heap.size 1 A b.length (u8s b) →
  Calls Tryd.prog F #[.slice A b.length c] w fun e w' => e = .returned (.tuple #[.agg (vec 65 (keyF 0 zb zb)), .int .i64 80]) ∧ Below w.heap.size w w'
/-- .. a key's bytes. -/
def KeyYes (F : Nat) : Prop := ∀ (A : Option Addr) (c : Nat) (oid : Nat) (root seed : Nd) (w : World), oid < 4294967296 → 68 ≤ c → Lies w w.heap.size 1 A 68 (u8s (keyL oid root seed)) →
  Calls Tryd.prog F #[.slice A 68 c] w fun e w' => e = .returned (.tuple #[.agg (vec 65 (keyR oid root seed)), .int .i64 ((keyE oid : Nat) : Int)]) ∧ Below w.heap.size w w'

set_option maxHeartbeats 1000000 in
set_option maxRecDepth 100000 in
theorem keyOf_no : KeyNo 8 := by
  intro A c b w _hb hb _hl
  have h0 : Arr (w.alloc (.cells (vec 65 (keyF 0 zb zb)) 26)) w.heap.size 26 65 (keyF 0 zb zb) := Arr.new w _ _ _
  have t1 : ((b.length : Int) != 68) = true := bne_iff_ne.2 (by omega)
  go_enter Tryd.func8, Tryd.ntmps8
  go_wp2_with (first
    | ((with_reducible show wpList _ _ _ (Oper.mk _ (.build _ _) _ _ _ _ :: _) _ _); refine wl_build rfl 26 _ rfl (vec 65 (keyF 0 zb zb)) (by kernel_rfl) ?_)
    | ((with_reducible show wpList _ _ _ (Oper.mk _ (.store _ _ _) _ _ _ _ :: _) _ _); refine wl_store rfl 26 _ _ rfl _ rfl _ rfl (run_store_arr h0 (keyF 0 zb zb) infoKey (keyF_one _ _ _ _)) ?_))
  exact bodyPost_ret (results_ct rfl _ _ _ rfl (run_load_arr (h0.row _) Tryd.underlying26 rfl infoKey)) rfl ⟨rfl, below_row ((Below.refl _ _).alloc (Nat.le_refl _) _) (Nat.le_refl _) _⟩

set_option maxHeartbeats 1000000 in
set_option maxRecDepth 100000 in
theorem keyOf_yes : KeyYes 8 := by
  intro A c oid root seed w hoid hc hl
  obtain ⟨V, hV⟩ : ∃ V, V = w.alloc (.cells (vec 65 (keyF 0 zb zb)) 26) := ⟨_, rfl⟩
  have h0 : Arr V w.heap.size 26 65 (keyF 0 zb zb) := by rw [hV]; exact Arr.new w _ _ _
  have hB : Below w.heap.size w V := by rw [hV]; exact (Below.refl _ _).alloc (Nat.le_refl _) _
  have e : keyL oid root seed = numBytes 0 4 oid ++ (nodeL root ++ (nodeL seed ++ [])) := by rw [keyL, List.append_nil]
  have hcut := cutter_any A c (keyL oid root seed) V (by rw [keyL_length]; exact hc) (by rw [keyL_length]; exact (hl.below hB).wide hB.size)
  rw [keyL_length, e] at hcut
  have HCut := Lib.hid hcut
  have HA := Lib.hid (And.intro h0 hB)
  have HW := Lib.hid hV
  have HO := Lib.hid hoid
  have HH := Lib.hid (fun W => height_any oid hoid W)
  have HE : Hid (keyR oid root seed = (if isO oid then keyF (oid : Int) root seed else keyF 0 zb zb) ∧ keyE oid = if isO oid then 0 else 80) := Lib.hid ⟨rfl, rfl⟩
  obtain ⟨kr, hkr⟩ : ∃ kr, kr = keyR oid root seed := ⟨_, rfl⟩
  obtain ⟨ke, hke⟩ : ∃ ke, ke = keyE oid := ⟨_, rfl⟩
  obtain ⟨is, his⟩ : ∃ is, is = isO oid := ⟨_, rfl⟩
  rw [← hkr, ← hke, ← his] at HE
  rw [← hkr, ← hke]
  rw [← his] at HH
  obtain ⟨ht, hht⟩ : ∃ ht, ht = hgtO oid := ⟨_, rfl⟩
  rw [← hht] at HH
  clear hV h0 hB hcut e hl hkr hke his hht hoid
  go_enter Tryd.func8, Tryd.ntmps8
  go_upto_region 1 with fail
  rw [← HW.out]
  clear HW
  go_upto_region 4 with (go_at_call 18; refine HCut.out.mono ?_; rintro e w1 ⟨rfl, hct, hd, hsz⟩; have HC := Lib.hid hct; have HD := Lib.hid (And.intro hd hsz); clear hct hd hsz)
  obtain ⟨g, hg⟩ : ∃ g, g = V.heap.size := ⟨_, rfl⟩
  have HS : Hid (Save g w1 w1) := Lib.hid (Save.refl _ _)
  rw [← hg] at HC
  rw [← hg]
  have HG := Lib.hid hg
  clear hg HCut
  go_upto_region 5 with (first
    | (go_at_call 19; refine (number_cut oid HO.out _ _ _ _ HC.out).mono ?_; rintro e wx ⟨rfl, hct, hs⟩; have HC := Lib.hid hct; have HS := Lib.hid (HS.out.trans hs); clear hct hs)
    | (go_at_call 20; refine (node_cut _ _ _ _ _ HC.out).mono ?_; rintro e wx ⟨rfl, hct, hs⟩; have HC := Lib.hid hct; have HS := Lib.hid (HS.out.trans hs); clear hct hs)
    | ((with_reducible show wpList _ _ _ (Oper.mk _ (.build _ _) _ _ _ _ :: _) _ _); refine wl_build rfl 26 _ rfl (vec 65 (keyF (oid : Int) root seed)) (by kernel_rfl) ?_)
    | ((with_reducible show wpList _ _ _ (Oper.mk _ (.store _ _ _) _ _ _ _ :: _) _ _); refine wl_store rfl 26 _ _ rfl _ rfl _ rfl (run_store_arr (Arr.new wx _ _ _) (keyF (oid : Int) root seed) infoKey (keyF_one _ _ _ _)) ?_))
  obtain ⟨r, hr⟩ : ∃ r, r = wx.heap.size := ⟨_, rfl⟩
  obtain ⟨X, hX⟩ : ∃ X, X = (wx.alloc (.cells (vec 65 (keyF 0 zb zb)) 26)).setRow wx.heap.size (vec 65 (keyF (oid : Int) root seed)) := ⟨_, rfl⟩
  have hK : Arr X r 26 65 (keyF (oid : Int) root seed) := by rw [hX, hr]; exact (Arr.new wx _ _ _).row _
  have hb : Below wx.heap.size wx X := by rw [hX]; exact below_row ((Below.refl _ _).alloc (Nat.le_refl _) _) (Nat.le_refl _) _
  have hR : Arr X w.heap.size 26 65 (keyF 0 zb zb) := ((HA.out.1.under HD.out.1).save HS.out (by have := HG.out; have := HA.out.1.lt; omega)).under hb
  have hB : Below w.heap.size w X := HA.out.2.trans ((HD.out.1.mono HA.out.2.size).trans ((HS.out.below (by have := HG.out; have := HA.out.2.size; omega) (Nat.le_trans HA.out.2.size HD.out.1.size)).trans (hb.mono (Nat.le_trans (Nat.le_trans HA.out.2.size HD.out.1.size) HS.out.size))))
  have c0 := key_oid hK
  have HX := Lib.hid (And.intro hK (And.intro hR hB))
  rw [← hX, ← hr]
  clear hX hr hK hb hR hB HC HS HD HA
  cases is
  · have hk := HE.out
    rw [if_neg (by decide), if_neg (by decide)] at hk
    obtain ⟨rfl, rfl⟩ := hk
    clear HE
    go_wp2_with (first
      | (go_at_call 17; refine (HH.out _).mono ?_; rintro e w1 ⟨rfl, hw1⟩; rw [← hw1]; clear hw1)
      | ((with_reducible show wpList _ _ _ (Oper.mk _ (.build _ _) _ _ _ _ :: _) _ _); refine wl_build rfl 26 _ rfl (vec 65 (keyF 0 zb zb)) (by kernel_rfl) ?_)
      | ((with_reducible show wpList _ _ _ (Oper.mk _ (.store _ _ _) _ _ _ _ :: _) _ _); refine wl_store rfl 26 _ _ rfl _ rfl _ rfl (run_store_arr HX.out.2.1 (keyF 0 zb zb) infoKey (keyF_one _ _ _ _)) ?_))
    exact bodyPost_ret (results_ct rfl _ _ _ rfl (run_load_arr (HX.out.2.1.row _) Tryd.underlying26 rfl infoKey)) rfl ⟨rfl, below_row HX.out.2.2 (Nat.le_refl _) _⟩
  · have hk := HE.out
    rw [if_pos rfl, if_pos rfl] at hk
    obtain ⟨rfl, rfl⟩ := hk
    clear HE
    go_wp2_with (first
      | (go_at_call 17; refine (HH.out _).mono ?_; rintro e w1 ⟨rfl, hw1⟩; rw [← hw1]; clear hw1)
      | ((with_reducible show wpList _ _ _ (Oper.mk _ (.load 26 _) _ _ _ _ :: _) _ _); refine wl_load rfl 26 _ rfl r rfl _ (run_load_arr HX.out.1 Tryd.underlying26 rfl infoKey) ?_)
      | ((with_reducible show wpList _ _ _ (Oper.mk _ (.store _ _ _) _ _ _ _ :: _) _ _); refine wl_store rfl 26 _ _ rfl _ rfl _ rfl (run_store_arr HX.out.2.1 (keyF (oid : Int) root seed) infoKey (keyF_one _ _ _ _)) ?_))
    exact bodyPost_ret (results_ct rfl _ _ _ rfl (run_load_arr (HX.out.2.1.row _) Tryd.underlying26 rfl infoKey)) rfl ⟨rfl, below_row HX.out.2.2 (Nat.le_refl _) _⟩
end Go.Proofs.YtfeiplaiekbdkaaDoor
/- Nodes laid behind one another. -/
namespace Go.Proofs.YtfeiplaiekbdkaaDoor
open Go.RowKit
attribute [local go_sem ↓ high] zeroV26

/-- What a round of laid keeps. -/
structure LA (w : World) (base : Nat) (xs : List UInt8) (v : Value) (W : World) : Prop where
  row : W.ownsRow base 5 1 v xs.length (u8s xs)
  b : Below base w W
/-- One node more. -/
theorem LA.step {w W : World} {base : Nat} {xs : List UInt8} {v : Value} (h : LA w base xs v W) (hw : base ≤ w.heap.size) (f : Nd) (hn : xs.length ≤ 1000000000) (ty : TypeId) :
    ∃ v' w', (Builtin.append_ #[28, 28] ty #[v, .slice (some ⟨W.heap.size, 0, none⟩) 32 32]).run Tryd.prog ((W.alloc (.cells (vec 32 (bys zb)) 24)).setRow W.heap.size (vec 32 (bys f))) = .ok v' w' ∧ LA w base (xs ++ nodeL f) v' w' := by
  have hsz := h.b.size
  have hb1 : Below W.heap.size W ((W.alloc (.cells (vec 32 (bys zb)) 24)).setRow W.heap.size (vec 32 (bys f))) := below_row ((Below.refl _ _).alloc (Nat.le_refl _) _) (Nat.le_refl _) _
  obtain ⟨v', w', hr, ho, hb⟩ := app_node (ownsN_below h.row hb1) ((Arr.new W 24 32 (bys zb)).row (bys f)) hn (by have := hb1.size; omega) ty
  refine ⟨v', w', hr, ⟨by rw [List.length_append, nodeL_length]; exact ho, h.b.trans ((hb1.mono (by omega)).trans hb)⟩⟩
set_option maxHeartbeats 1000000 in
set_option maxRecDepth 100000 in
theorem laid_any (A : Option Addr) (c : Nat) (ls : List Nd) (hn : ls.length ≤ 1000) (w : World) (hr : NRow w w.heap.size A ls) :
    Calls Tryd.prog 43 #[.slice A ls.length c] w (Bytes w (nodesL ls)) := by
  obtain ⟨cur, hcur, hmk⟩ := make_u8 (32 * ls.length) (by omega) w
  rw [show ((32 * ls.length : Nat) : Int) = 32 * (ls.length : Int) by simp] at hmk
  obtain ⟨V, hV⟩ : ∃ V, V = w.alloc (.cells cur 5) := ⟨_, rfl⟩
  have hown0 : V.ownsRow w.heap.size 5 1 (.slice (some ⟨w.heap.size, 0, none⟩) 0 (32 * ls.length)) 0 (u8s []) := by
    rw [hV]; exact World.ownsRow_made w cur _ (Nat.le_refl _) (by unfold maxLen; omega) (by rw [hcur, Nat.mul_one])
  have hbel0 : Below w.heap.size w V := by rw [hV]; exact (Below.refl _ _).alloc (Nat.le_refl _) _
  have HI : Hid (LA w w.heap.size (nodesL (ls.take 0)) (.slice (some ⟨w.heap.size, 0, none⟩) 0 (32 * ls.length)) V) := Lib.hid ⟨hown0, hbel0⟩
  have HR := Lib.hid hr
  rw [← hV] at hmk
  have hwn : wrap64 (32 * (ls.length : Int)) = 32 * (ls.length : Int) := by unfold wrap64; omega
  clear hV hown0 hbel0 hr hcur
  go_enter Tryd.func43, Tryd.ntmps43
  go_wp2
  go_loopw [3, 12] (fun v j W => ∃ k : Nat, k ≤ ls.length ∧ j = .int .i64 k ∧ Hid (LA w w.heap.size (nodesL (ls.take k)) v W)) (fun _ i _ => ls.length - (intOf i).toNat)
  case atStart => exact ⟨0, Nat.zero_le _, rfl, HI⟩
  case round =>
    obtain ⟨k, hk, rfl, hQ⟩ := hrel
    clear hmk
    by_cases hlt : k < ls.length
    · have hkI : (k : Int) < (ls.length : Int) := by omega
      obtain ⟨a, p, rfl, hp, hpb, hc⟩ := (HR.out.below hQ.out.b).at hlt
      obtain ⟨f, hf⟩ : ∃ f, f = ls[k] := ⟨_, rfl⟩
      rw [← hf] at hc
      have HC := Lib.hid hc
      have HT : Hid (nodesL (ls.take (k + 1)) = nodesL (ls.take k) ++ nodeL f) := Lib.hid (by rw [List.take_succ_eq_append_getElem hlt, hf, nodesL_snoc])
      have hle : (nodesL (ls.take k)).length ≤ 1000000000 := by rw [nodesL_length, List.length_take]; omega
      obtain ⟨v9, y9, hr9, h9⟩ := hQ.out.step (Nat.le_refl _) f hle 28
      have H9 := Lib.hid h9
      clear hc hf hpb h9 hle
      go_wp2_with (first
        | ((with_reducible show wpList _ _ _ (Oper.mk _ (.load _ _) _ _ _ _ :: _) _ _); refine wl_load_q rfl 24 _ rfl p rfl _ (load_p HC.out) ?_)
        | ((with_reducible show wpList _ _ _ (Oper.mk _ (.store _ _ _) _ _ _ _ :: _) _ _); refine wl_store rfl 24 _ _ rfl _ rfl _ rfl (run_store_arr (Arr.new wr _ _ _) (bys f) info26 (bys_one _ _)) ?_)
        | ((with_reducible show wpList _ _ _ (Oper.mk _ (.call ⟨.builtin .append, _, _⟩) _ _ _ _ :: _) _ _); refine wpList_plain rfl fun K hK => Lib.wp_append_run _ _ _ _ _ rfl _ _ rfl rfl _ _ hr9 (hK _ _ ?_); clear hK K))
      clear hr9
      go_roundw
      case rel => exact ⟨k + 1, by omega, by simp, Lib.hid (by rw [HT.out]; exact H9.out)⟩
      case measure => simp [intOf]; omega
    · obtain rfl : k = ls.length := by omega
      go_wp2
      go_ret
      have h := hQ.out
      rw [List.take_length] at h
      exact ⟨_, rfl, h.row, h.b⟩
end Go.Proofs.YtfeiplaiekbdkaaDoor
/- Slices that a call is handed: of one number, of one or two nodes, of parts. -/
namespace Go.Proofs.YtfeiplaiekbdkaaDoor
open Go.RowKit

theorem info_u32 : (Tryd.prog.info? 22).map (fun i => (i.zero, i.size, i.bytes)) = some (some (.int .u32 0), 1, 4) := by kernel_rfl
theorem info_row8 : (Tryd.prog.info? 28).map (fun i => (i.zero, i.size, i.bytes)) = some (some (.slice none 0 0), 1, 24) := by kernel_rfl
section
variable {o : Oper} {a : Act} {w : World} {K : Act → World → Prop} {Q : Exit → Act → World → Prop}
theorem ow_of_run {t : TypeId} {n : Nat} {parts : Array (Nat × Operand)} (ho : o.op = .buildSlice t n parts) {vs : Array (Nat × Value)} (hv : (parts.map fun (i, x) => (i, a.eval x)) = vs) {v : Value} {w' : World} (hr : (Instr.buildSlice t n vs).run Tryd.prog w = .ok v w') (h : K (a.put o.dst v) w') : o.wp Tryd.prog a w K Q := by
  unfold Oper.wp execOp
  subst hv
  simp only [ho, Sem.run_bind, hr, Result.andThen_ok, Sem.run_pure]
  exact h
set_option maxRecDepth 100000 in
theorem ow_u32 (x : Operand) (ho : o.op = .buildSlice 101 1 #[(0, x)]) (n : Nat) (hx : a.eval x = .int .u32 (n : Int))
    (h : ∀ y p, Lies y y.heap.size 1 (some p) 1 (u32s [n]) → Below w.heap.size w y → K (a.put o.dst (.slice (some p) 1 1)) y) : o.wp Tryd.prog a w K Q := by
  obtain ⟨i0, hi, hz0, hz1, hz2⟩ := info_parts info_u32
  have hr : (Instr.buildSlice 101 1 #[(0, .int .u32 (n : Int))]).run Tryd.prog w = .ok (.slice (some ⟨w.heap.size, 0, none⟩) 1 1) (w.alloc (.cells #[.int .u32 (n : Int)] 22)) := by
    refine run_buildSlice (P := Tryd.prog) w 101 22 1 _ _ i0 (.int .u32 0) Tryd.underlying101 hi hz0 (by rw [hz1]; decide) (by rw [hz1]; decide) ?_
    rw [hz1]
    kernel_rfl
  exact ow_of_run ho (by simp [hx]) hr (h _ _ (lies_one w (.int .u32 (n : Int)) 22) ((Below.refl _ _).alloc (Nat.le_refl _) _))
theorem nrow_arr {y : World} {g : Nat} {t : TypeId} {f : Nd} (h : Arr y g t 32 (bys f)) : NRow y y.heap.size (some ⟨g, 0, none⟩) [f] := fun _ => by
  refine ⟨_, rfl, h.lt, fun j hj i hi => ?_⟩
  obtain rfl : j = 0 := by simpa using hj
  have hadd : (⟨g, 0, none⟩ : Addr).add (0 * 32 + i) = ⟨g, i, none⟩ := by unfold Addr.add; split <;> simp_all
  rw [hadd]
  exact h.cell hi
theorem ow_node1 (x : Operand) (ho : o.op = .buildSlice 27 1 #[(0, x)]) (f : Nd) (hx : a.eval x = .agg (vec 32 (bys f)))
    (h : ∀ y p, NRow y y.heap.size (some p) [f] → Below w.heap.size w y → K (a.put o.dst (.slice (some p) 1 1)) y) : o.wp Tryd.prog a w K Q :=
  ow_build1 x ho f hx (h _ _ (nrow_arr (Arr.new w _ _ _)) ((Below.refl _ _).alloc (Nat.le_refl _) _))
def twoF (f g : Nd) : Nat → Value := fun i => if i < 32 then bys f i else bys g (i - 32)
set_option maxRecDepth 100000 in
theorem ow_node2 (x x' : Operand) (ho : o.op = .buildSlice 27 2 #[(0, x), (1, x')]) (f g : Nd) (hx : a.eval x = .agg (vec 32 (bys f))) (hx' : a.eval x' = .agg (vec 32 (bys g)))
    (h : ∀ y p, NRow y y.heap.size (some p) [f, g] → Below w.heap.size w y → K (a.put o.dst (.slice (some p) 2 2)) y) : o.wp Tryd.prog a w K Q := by
  obtain ⟨i0, hi, hz0, hz1, hz2⟩ := info_parts infoN
  have hr : (Instr.buildSlice 27 2 #[(0, .agg (vec 32 (bys f))), (1, .agg (vec 32 (bys g)))]).run Tryd.prog w = .ok (.slice (some ⟨w.heap.size, 0, none⟩) 2 2) (w.alloc (.cells (vec 64 (twoF f g)) 24)) := by
    refine run_buildSlice (P := Tryd.prog) w 27 24 2 _ _ i0 (.agg (vec 32 (bys zb))) Tryd.underlying27 hi hz0 (by rw [hz1]; decide) (by rw [hz1]; decide) ?_
    rw [hz1]
    kernel_rfl
  have hA : Arr (w.alloc (.cells (vec 64 (twoF f g)) 24)) w.heap.size 24 64 (twoF f g) := Arr.new w _ _ _
  refine ow_of_run ho (by simp [hx, hx']) hr (h _ _ (fun _ => ⟨_, rfl, hA.lt, fun j hj i hi => ?_⟩) ((Below.refl _ _).alloc (Nat.le_refl _) _))
  have hadd : ∀ k, (⟨w.heap.size, 0, none⟩ : Addr).add k = ⟨w.heap.size, k, none⟩ := fun k => by unfold Addr.add; split <;> simp_all
  rw [hadd]
  have hj2 : j = 0 ∨ j = 1 := by simp at hj; omega
  rcases hj2 with rfl | rfl
  · rw [hA.cell (by omega)]
    simp [twoF, hi]
  · rw [hA.cell (by omega)]
    show some (if 1 * 32 + i < 32 then bys f (1 * 32 + i) else bys g (1 * 32 + i - 32)) = _
    rw [if_neg (by omega), show 1 * 32 + i - 32 = i by omega]
    rfl
set_option maxRecDepth 100000 in
theorem ow_part2 (x x' : Operand) (ho : o.op = .buildSlice 76 2 #[(0, x), (1, x')]) (p q : Part) (hx : a.eval x = partV p) (hx' : a.eval x' = partV q)
    (h : ∀ y A, Lies y y.heap.size 1 (some A) 2 ([p, q].map partV) → Below w.heap.size w y → K (a.put o.dst (.slice (some A) 2 2)) y) : o.wp Tryd.prog a w K Q := by
  obtain ⟨i0, hi, hz0, hz1, hz2⟩ := info_parts info_row8
  have hr : (Instr.buildSlice 76 2 #[(0, partV p), (1, partV q)]).run Tryd.prog w = .ok (.slice (some ⟨w.heap.size, 0, none⟩) 2 2) (w.alloc (.cells #[partV p, partV q] 28)) := by
    refine run_buildSlice (P := Tryd.prog) w 76 28 2 _ _ i0 (.slice none 0 0) Tryd.underlying76 hi hz0 (by rw [hz1]; decide) (by rw [hz1]; decide) ?_
    rw [hz1]
    kernel_rfl
  exact ow_of_run ho (by simp [hx, hx']) hr (h _ _ ((lies_new w #[partV p, partV q] 28 2 _ rfl rfl).wide (by simp)) ((Below.refl _ _).alloc (Nat.le_refl _) _))
set_option maxRecDepth 100000 in
theorem ow_part4 (x1 x2 x3 x4 : Operand) (ho : o.op = .buildSlice 76 4 #[(0, x1), (1, x2), (2, x3), (3, x4)]) (p1 p2 p3 p4 : Part) (h1 : a.eval x1 = partV p1) (h2 : a.eval x2 = partV p2) (h3 : a.eval x3 = partV p3) (h4 : a.eval x4 = partV p4)
    (h : ∀ y A, Lies y y.heap.size 1 (some A) 4 ([p1, p2, p3, p4].map partV) → Below w.heap.size w y → K (a.put o.dst (.slice (some A) 4 4)) y) : o.wp Tryd.prog a w K Q := by
  obtain ⟨i0, hi, hz0, hz1, hz2⟩ := info_parts info_row8
  have hr : (Instr.buildSlice 76 4 #[(0, partV p1), (1, partV p2), (2, partV p3), (3, partV p4)]).run Tryd.prog w = .ok (.slice (some ⟨w.heap.size, 0, none⟩) 4 4) (w.alloc (.cells #[partV p1, partV p2, partV p3, partV p4] 28)) := by
    refine run_buildSlice (P := Tryd.prog) w 76 28 4 _ _ i0 (.slice none 0 0) Tryd.underlying76 hi hz0 (by rw [hz1]; decide) (by rw [hz1]; decide) ?_
    rw [hz1]
    kernel_rfl
  exact ow_of_run ho (by simp [h1, h2, h3, h4]) hr (h _ _ ((lies_new w #[partV p1, partV p2, partV p3, partV p4] 28 4 _ rfl rfl).wide (by simp)) ((Below.refl _ _).alloc (Nat.le_refl _) _))
end
/-- PutBe32 of one number, behind nothing. -/
theorem put_one (n : Nat) (hn : n < 4294967296) (D : Option Addr) (d : Nat) (y : World) (h : Lies y y.heap.size 1 D 1 (u32s [n])) :
    Calls Tryd.prog 40 #[.slice none 0 0, .slice D 1 d] y (Bytes y (numBytes 0 4 n)) := by
  have := putBe32_any [] [n] (by simpa using hn) none D 0 d y.heap.size y (Nat.le_refl _) (Lies.nil _ _ _ _) h (by simp)
  rw [show ([] : List UInt8) ++ putAll 0 4 [n] = numBytes 0 4 n by simp [putAll]] at this
  exact this
theorem laid_n (n : Nat) (A : Option Addr) (c : Nat) (ls : List Nd) (hl : n = ls.length) (hn : n ≤ 1000) (w : World) (hr : NRow w w.heap.size A ls) : Calls Tryd.prog 43 #[.slice A n c] w (Bytes w (nodesL ls)) := by
  subst hl
  exact laid_any A c ls hn w hr
theorem cat_n (n : Nat) (A : Option Addr) (c : Nat) (ps : List Part) (L : List UInt8) (hL : catAll ps = L) (hl : n = ps.length) (hn : n ≤ 1000) (hs : L.length ≤ 1000000) (w : World) (h : Lies w w.heap.size 1 A n (ps.map partV))
    (hp : ∀ p ∈ ps, Lies w w.heap.size 1 p.1 p.2.2.length (u8s p.2.2)) : Calls Tryd.prog 42 #[.slice A n c] w (Bytes w L) := by
  subst hl hL
  exact cat_any ps A c w.heap.size w (Nat.le_refl _) h hp (by omega) (by unfold maxLen; omega)
/-- A row that was made, as a part. -/
theorem row_part {w : World} {base : Nat} {v : Value} {L : List UInt8} (h : w.ownsRow base 5 1 v L.length (u8s L)) : ∃ A c, v = partV (A, c, L) ∧ L.length ≤ c ∧ Lies w w.heap.size 1 A L.length (u8s L) := by
  obtain ⟨A, c, e, hc, _, hl⟩ := owns_cap h
  exact ⟨A, c, e, hc, hl⟩
end Go.Proofs.YtfeiplaiekbdkaaDoor
/- Bytes put behind a row by the reference. -/
namespace Go.Proofs.YtfeiplaiekbdkaaDoor
open Go.RowKit

theorem rput_one (n : Nat) (w : World) : Calls Tryd.prog 27 #[.slice none 0 0, .int .u64 (n : Int), .int .i64 4, .bool false] w (Bytes w (numBytes 0 4 n)) :=
  rput_any [] n 4 (by decide) none 0 w.heap.size false w (Nat.le_refl _) (Lies.nil _ _ _ _) (by decide)
theorem app_at {w : World} {base : Nat} {v : Value} {xs : List UInt8} {A : Option Addr} {c : Nat} {f : Nd} (hown : w.ownsRow base 5 1 v xs.length (u8s xs)) (hli : Lies w w.heap.size 1 A 32 (u8s (nodeL f))) (hn : xs.length ≤ 1000000000) (hb : base ≤ w.heap.size) (ty : TypeId) :
    ∃ v' w', (Builtin.append_ #[28, 28] ty #[v, .slice A 32 c]).run Tryd.prog w = .ok v' w' ∧ w'.ownsRow base 5 1 v' (xs ++ nodeL f).length (u8s (xs ++ nodeL f)) ∧ Below base w w' := by
  obtain ⟨i0, hi, hz0, hz1, hz2⟩ := info_parts u8_info
  obtain ⟨v', w', hr, h2, h3, _⟩ := run_app (P := Tryd.prog) base 28 ty 5 i0 (.int .u8 0) 1 Tryd.underlying28 hi hz0 hz1 hz2 rfl v xs.length (u8s xs) hown w.heap.size A 32 c (u8s (nodeL f)) hli (u8s_one _) (by unfold maxLen; omega) (by omega) hb
  rw [u8s_append] at h2
  exact ⟨v', w', hr, by rw [List.length_append, nodeL_length]; exact h2, (Below.refl _ _).grown h3 hb (fun k hk => (hown.lt k hk).1)⟩
end Go.Proofs.YtfeiplaiekbdkaaDoor
/- A signature with its height. -/
namespace Go.Proofs.YtfeiplaiekbdkaaDoor
open Go.RowKit
attribute [local go_sem ↓ high] zeroV26 zeroSig

/-- The cells of a signature with its height. -/
def szF (idx : Int) (r : Nd) (v1 v2 : Value) (h : Int) : Nat → Value := fun i => if i < 35 then sigF idx r v1 v2 i else .int .i64 h
theorem szF_low (idx : Int) (r : Nd) (v1 v2 : Value) (h : Int) (i : Nat) (hi : i < 35) : szF idx r v1 v2 h i = sigF idx r v1 v2 i := if_pos hi
theorem szF_one (idx : Int) (r : Nd) (v1 v2 : Value) (h : Int) (h1 : v1.oneCell' = true) (h2 : v2.oneCell' = true) (n : Nat) : ∀ i, i < n → (szF idx r v1 v2 h i).oneCell' = true := by
  intro i hi
  unfold szF
  split
  · exact sigF_one idx r v1 v2 h1 h2 n i hi
  · rfl
theorem infoSz : (Tryd.prog.info? 62).map (·.size) = some 36 := by kernel_rfl
theorem zeroSz (w : World) : (zeroValue 62).run Tryd.prog w = .ok (.agg (vec 36 (szF 0 zb (.slice none 0 0) (.slice none 0 0) 0))) w :=
  (zero_of_info (P := Tryd.prog) (t := 62) (v := .agg (vec 36 (szF 0 zb (.slice none 0 0) (.slice none 0 0) 0))) (n := 36) (by kernel_rfl)).1 w
attribute [local go_sem ↓ high] zeroSz
/-- A slice of so many nodes. -/
abbrev slN (A : Option Addr) (n c : Nat) : Value := .slice A n c
set_option maxRecDepth 100000 in
theorem ownN_save {w w' : World} {base g : Nat} {v : Value} {l : List Nd} (h : OwnN w base v l) (hs : Save g w w') (hg : g < base) : OwnN w' base v l := by
  refine ⟨h.1, ?_⟩
  rcases h.2 with h2 | ⟨r, cap, cur, hv, hr, hh, rr⟩
  · exact Or.inl h2
  · exact Or.inr ⟨r, cap, cur, hv, hr, (hs.block r (Array.getElem?_eq_some_iff.1 hh).1 (by omega)).trans hh, rr⟩
theorem ownN_at {w : World} {base n c : Nat} {A : Option Addr} {l : List Nd} (h : OwnN w base (.slice A n c) l) : NRow w w.heap.size A l := by
  obtain ⟨B, d, e, -, r⟩ := h.row
  injection e with eA _ _
  rw [eA]; exact r
/-- The first 35 cells of a signature with its height are the signature. -/
theorem load_sig {w : World} {g : Nat} {t : TypeId} {idx : Int} {r : Nd} {v1 v2 : Value} {h : Int} (ha : Arr w g t 36 (szF idx r v1 v2 h)) : (loadVar 44 ⟨g, 0, none⟩).run Tryd.prog w = .ok (.agg (vec 35 (sigF idx r v1 v2))) w :=
  run_load_cells (n := 35) (f := sigF idx r v1 v2) (fun i hi => (ha.cell (by omega)).trans (by rw [szF_low _ _ _ _ _ _ hi])) Tryd.underlying44 rfl infoSig
end Go.Proofs.YtfeiplaiekbdkaaDoor
/- placed, whole. -/
namespace Go.Proofs.YtfeiplaiekbdkaaDoor
open Go.RowKit
attribute [local go_sem ↓ high] zeroV26 zeroSig zeroSz

section
variable {w : World} {g : Nat} {t : TypeId} {idx : Int} {r : Nd} {v1 v2 : Value} {h : Int}
theorem sz_idx (ha : Arr w g t 36 (szF idx r v1 v2 h)) : w.cell? ⟨g, 0, none⟩ = some (.int .u32 idx) := ha.cell (i := 0) (by decide)
theorem sz_v1 (ha : Arr w g t 36 (szF idx r v1 v2 h)) : w.cell? ⟨g, 33, none⟩ = some v1 := ha.cell (i := 33) (by decide)
theorem sz_v2 (ha : Arr w g t 36 (szF idx r v1 v2 h)) : w.cell? ⟨g, 34, none⟩ = some v2 := ha.cell (i := 34) (by decide)
theorem sz_h (ha : Arr w g t 36 (szF idx r v1 v2 h)) : w.cell? ⟨g, 35, none⟩ = some (.int .i64 h) := ha.cell (i := 35) (by decide)
end
/-- Is there such a leaf, and a neighbour at each height? -/
def plcd (idx h n2 : Nat) : Bool := decide (idx < 2 ^ h) && decide (n2 = h)
set_option maxHeartbeats 1000000 in
set_option maxRecDepth 100000 in
theorem szPlaced_10 (idx : Nat) (hidx : idx < 4294967296) (r : Nd) (v1 : Value) (A2 : Option Addr) (n2 c2 : Nat) (w : World) :
    Calls Tryd.prog 41 #[.agg (vec 36 (szF (idx : Int) r v1 (.slice A2 n2 c2) 10))] w fun e w' => e = .returned (.bool (plcd idx 10 n2)) ∧ Below w.heap.size w w' := by
  obtain ⟨V, hV⟩ : ∃ V, V = w.alloc (.cells (vec 36 (szF (idx : Int) r v1 (.slice A2 n2 c2) 10)) 62) := ⟨_, rfl⟩
  have h0 : Arr V w.heap.size 62 36 (szF (idx : Int) r v1 (.slice A2 n2 c2) 10) := by rw [hV]; exact Arr.new w _ _ _
  have hB : Below w.heap.size w V := by rw [hV]; exact (Below.refl _ _).alloc (Nat.le_refl _) _
  have c0 := sz_idx h0
  have c34 := sz_v2 h0
  have c35 := sz_h h0
  have HB := Lib.hid hB
  have HW := Lib.hid hV
  clear hV h0 hB
  by_cases hi : idx < 1024
  · have e1 : ((idx : Int) / 1024 == 0) = true := by simp; omega
    have e2 : plcd idx 10 n2 = decide (n2 = 10) := by
      unfold plcd
      rw [decide_eq_true (show idx < 2 ^ 10 from hi), Bool.true_and]
    have e3 : ((n2 : Int) == 10) = decide (n2 = 10) := by
      by_cases h : n2 = 10
      · subst h; rfl
      · rw [decide_eq_false h]; simp; omega
    obtain ⟨q, hq⟩ : ∃ q, q = decide (n2 = 10) := ⟨_, rfl⟩
    rw [← hq] at e2 e3
    rw [e2]
    clear hq e2
    go_enter Tryd.func41, Tryd.ntmps41
    go_upto_region 1 with fail
    rw [← HW.out]
    clear HW
    go_wp2
    go_ret
    exact ⟨rfl, HB.out⟩
  · have e1 : ((idx : Int) / 1024 == 0) = false := by simp; omega
    have e2 : plcd idx 10 n2 = false := by
      unfold plcd
      rw [decide_eq_false (show ¬ idx < 2 ^ 10 from hi), Bool.false_and]
    rw [e2]
    clear e2
    go_enter Tryd.func41, Tryd.ntmps41
    go_upto_region 1 with fail
    rw [← HW.out]
    clear HW
    go_wp2
    go_ret
    exact ⟨rfl, HB.out⟩
set_option maxHeartbeats 1000000 in
set_option maxRecDepth 100000 in
theorem szPlaced_16 (idx : Nat) (hidx : idx < 4294967296) (r : Nd) (v1 : Value) (A2 : Option Addr) (n2 c2 : Nat) (w : World) :
    Calls Tryd.prog 41 #[.agg (vec 36 (szF (idx : Int) r v1 (.slice A2 n2 c2) 16))] w fun e w' => e = .returned (.bool (plcd idx 16 n2)) ∧ Below w.heap.size w w' := by
  obtain ⟨V, hV⟩ : ∃ V, V = w.alloc (.cells (vec 36 (szF (idx : Int) r v1 (.slice A2 n2 c2) 16)) 62) := ⟨_, rfl⟩
  have h0 : Arr V w.heap.size 62 36 (szF (idx : Int) r v1 (.slice A2 n2 c2) 16) := by rw [hV]; exact Arr.new w _ _ _
  have hB : Below w.heap.size w V := by rw [hV]; exact (Below.refl _ _).alloc (Nat.le_refl _) _
  have c0 := sz_idx h0
  have c34 := sz_v2 h0
  have c35 := sz_h h0
  have HB := Lib.hid hB
  have HW := Lib.hid hV
  clear hV h0 hB
  by_cases hi : idx < 65536
  · have e1 : ((idx : Int) / 65536 == 0) = true := by simp; omega
    have e2 : plcd idx 16 n2 = decide (n2 = 16) := by
      unfold plcd
      rw [decide_eq_true (show idx < 2 ^ 16 from hi), Bool.true_and]
    have e3 : ((n2 : Int) == 16) = decide (n2 = 16) := by
      by_cases h : n2 = 16
      · subst h; rfl
      · rw [decide_eq_false h]; simp; omega
    obtain ⟨q, hq⟩ : ∃ q, q = decide (n2 = 16) := ⟨_, rfl⟩
    rw [← hq] at e2 e3
    rw [e2]
    clear hq e2
    go_enter Tryd.func41, Tryd.ntmps41
    go_upto_region 1 with fail
    rw [← HW.out]
    clear HW
    go_wp2
    go_ret
    exact ⟨rfl, HB.out⟩
  · have e1 : ((idx : Int) / 65536 == 0) = false := by simp; omega
    have e2 : plcd idx 16 n2 = false := by
      unfold plcd
      rw [decide_eq_false (show ¬ idx < 2 ^ 16 from hi), Bool.false_and]
    rw [e2]
    clear e2
    go_enter Tryd.func41, Tryd.ntmps41
    go_upto_region 1 with fail
    rw [← HW.out]
    clear HW
    go_wp2
    go_ret
    exact ⟨rfl, HB.out⟩
set_option maxHeartbeats 1000000 in
set_option maxRecDepth 100000 in
theorem szPlaced_20 (idx : Nat) (hidx : idx < 4294967296) (r : Nd) (v1 : Value) (A2 : Option Addr) (n2 c2 : Nat) (w : World) :
    Calls Tryd.prog 41 #[.agg (vec 36 (szF (idx : Int) r v1 (.slice A2 n2 c2) 20))] w fun e w' => e = .returned (.bool (plcd idx 20 n2)) ∧ Below w.heap.size w w' := by
  obtain ⟨V, hV⟩ : ∃ V, V = w.alloc (.cells (vec 36 (szF (idx : Int) r v1 (.slice A2 n2 c2) 20)) 62) := ⟨_, rfl⟩
  have h0 : Arr V w.heap.size 62 36 (szF (idx : Int) r v1 (.slice A2 n2 c2) 20) := by rw [hV]; exact Arr.new w _ _ _
  have hB : Below w.heap.size w V := by rw [hV]; exact (Below.refl _ _).alloc (Nat.le_refl _) _
  have c0 := sz_idx h0
  have c34 := sz_v2 h0
  have c35 := sz_h h0
  have HB := Lib.hid hB
  have HW := Lib.hid hV
  clear hV h0 hB
  by_cases hi : idx < 1048576
  · have e1 : ((idx : Int) / 1048576 == 0) = true := by simp; omega
    have e2 : plcd idx 20 n2 = decide (n2 = 20) := by
      unfold plcd
      rw [decide_eq_true (show idx < 2 ^ 20 from hi), Bool.true_and]
    have e3 : ((n2 : Int) == 20) = decide (n2 = 20) := by
      by_cases h : n2 = 20
      · subst h; rfl
      · rw [decide_eq_false h]; simp; omega
    obtain ⟨q, hq⟩ : ∃ q, q = decide (n2 = 20) := ⟨_, rfl⟩
    rw [← hq] at e2 e3
    rw [e2]
    clear hq e2
    go_enter Tryd.func41, Tryd.ntmps41
    go_upto_region 1 with fail
    rw [← HW.out]
    clear HW
    go_wp2
    go_ret
    exact ⟨rfl, HB.out⟩
  · have e1 : ((idx : Int) / 1048576 == 0) = false := by simp; omega
    have e2 : plcd idx 20 n2 = false := by
      unfold plcd
      rw [decide_eq_false (show ¬ idx < 2 ^ 20 from hi), Bool.false_and]
    rw [e2]
    clear e2
    go_enter Tryd.func41, Tryd.ntmps41
    go_upto_region 1 with fail
    rw [← HW.out]
    clear HW
    go_wp2
    go_ret
    exact ⟨rfl, HB.out⟩
theorem szPlaced_any (idx : Nat) (hidx : idx < 4294967296) (r : Nd) (v1 : Value) (A2 : Option Addr) (n2 c2 h : Nat) (hh : h = 10 ∨ h = 16 ∨ h = 20) (w : World) :
    Calls Tryd.prog 41 #[.agg (vec 36 (szF (idx : Int) r v1 (.slice A2 n2 c2) (h : Int)))] w fun e w' => e = .returned (.bool (plcd idx h n2)) ∧ Below w.heap.size w w' := by
  rcases hh with rfl | rfl | rfl
  · exact szPlaced_10 idx hidx r v1 A2 n2 c2 w
  · exact szPlaced_16 idx hidx r v1 A2 n2 c2 w
  · exact szPlaced_20 idx hidx r v1 A2 n2 c2 w
set_option maxHeartbeats 1000000 in
set_option maxRecDepth 100000 in
theorem whole_any (idx : Nat) (hidx : idx < 4294967296) (r : Nd) (A1 : Option Addr) (n1 c1 : Nat) (A2 : Option Addr) (n2 c2 h : Nat) (hh : h = 10 ∨ h = 16 ∨ h = 20) (w : World) :
    Calls Tryd.prog 25 #[.agg (vec 36 (szF (idx : Int) r (.slice A1 n1 c1) (.slice A2 n2 c2) (h : Int)))] w fun e w' => e = .returned (.bool (plcd idx h n2 && decide (n1 = 67))) ∧ Below w.heap.size w w' := by
  obtain ⟨V, hV⟩ : ∃ V, V = w.alloc (.cells (vec 36 (szF (idx : Int) r (.slice A1 n1 c1) (.slice A2 n2 c2) (h : Int))) 62) := ⟨_, rfl⟩
  have h0 : Arr V w.heap.size 62 36 (szF (idx : Int) r (.slice A1 n1 c1) (.slice A2 n2 c2) (h : Int)) := by rw [hV]; exact Arr.new w _ _ _
  have hB : Below w.heap.size w V := by rw [hV]; exact (Below.refl _ _).alloc (Nat.le_refl _) _
  have HA := Lib.hid (And.intro h0 hB)
  have HW := Lib.hid hV
  have HP := Lib.hid (fun W => szPlaced_any idx hidx r (.slice A1 n1 c1) A2 n2 c2 h hh W)
  obtain ⟨p, hp⟩ : ∃ p, p = plcd idx h n2 := ⟨_, rfl⟩
  rw [← hp] at HP ⊢
  clear hV h0 hB hp
  have e3 : ((n1 : Int) == 67) = decide (n1 = 67) := by
    by_cases h : n1 = 67
    · subst h; rfl
    · rw [decide_eq_false h]; simp; omega
  obtain ⟨q, hq⟩ : ∃ q, q = decide (n1 = 67) := ⟨_, rfl⟩
  rw [← hq] at e3 ⊢
  clear hq
  cases p
  all_goals
    go_enter Tryd.func25, Tryd.ntmps25
    go_upto_region 1 with fail
    rw [← HW.out]
    clear HW
    go_wp2_with (first
      | ((with_reducible show wpList _ _ _ (Oper.mk _ (.load 62 _) _ _ _ _ :: _) _ _); refine wl_load rfl 62 _ rfl _ rfl _ (run_load_arr HA.out.1 Tryd.underlying62 rfl infoSz) ?_)
      | (go_at_call 41; refine (HP.out _).mono ?_; rintro e w1 ⟨rfl, hd⟩; have c33 := sz_v1 (HA.out.1.under hd); have HD := Lib.hid (HA.out.2.trans (hd.mono HA.out.2.size)); clear hd))
    go_ret
    exact ⟨rfl, HD.out⟩
end Go.Proofs.YtfeiplaiekbdkaaDoor
/- sized.bytes. -/
namespace Go.Proofs.YtfeiplaiekbdkaaDoor
open Go.RowKit
attribute [local go_sem ↓ high] zeroV26 zeroSig zeroSz

set_option maxHeartbeats 2000000 in
set_option maxRecDepth 100000 in
theorem szBytes_any (idx : Nat) (hidx : idx < 4294967296) (r : Nd) (ots auth : List Nd) (ho : ots.length ≤ 1000) (ha : auth.length ≤ 1000) (A1 A2 : Option Addr) (n1 n2 c1 c2 : Nat) (hn1 : n1 = ots.length) (hn2 : n2 = auth.length) (h : Int) (w : World) (h1 : NRow w w.heap.size A1 ots) (h2 : NRow w w.heap.size A2 auth) :
    Calls Tryd.prog 26 #[.agg (vec 36 (szF (idx : Int) r (.slice A1 n1 c1) (.slice A2 n2 c2) h))] w (Bytes w (sigL idx r ots auth)) := by
  obtain ⟨V, hV⟩ : ∃ V, V = w.alloc (.cells (vec 36 (szF (idx : Int) r (.slice A1 n1 c1) (.slice A2 n2 c2) h)) 62) := ⟨_, rfl⟩
  have h0 : Arr V w.heap.size 62 36 (szF (idx : Int) r (.slice A1 n1 c1) (.slice A2 n2 c2) h) := by rw [hV]; exact Arr.new w _ _ _
  have hB : Below w.heap.size w V := by rw [hV]; exact (Below.refl _ _).alloc (Nat.le_refl _) _
  have HA := Lib.hid (And.intro h0 hB)
  have HW := Lib.hid hV
  have HO := Lib.hid (And.intro hidx (And.intro ho (And.intro ha (And.intro hn1 hn2))))
  have HN2 : Hid (NRow V.drew V.drew.heap.size A1 ots) := Lib.hid ((h1.below hB).wide hB.size)
  have HN3 : Hid (NRow V.drew V.drew.heap.size A2 auth) := Lib.hid ((h2.below hB).wide hB.size)
  clear hV h0 hB h1 h2 hidx ho ha hn1 hn2
  go_enter Tryd.func26, Tryd.ntmps26
  go_upto_region 1 with fail
  rw [← HW.out]
  clear HW
  refine wp_region_held_drew (S := fun Y => VS V Y) (by kernel_rfl) (VS.begin V) (fun hS => ?_)
  (refine held_take (i := 0) (oi := ?ot1) (v := ?vt1) ?at1 (by kernel_rfl) (by kernel_rfl) (by kernel_rfl) ?bt1 ?ct1 ?dt1 (by assumption) ?rt1; (case at1 => (simp only [List.getElem?_toArray, List.getElem?_cons_zero]; rfl)); (case bt1 => exact fun _ _ _ h => h); (case ct1 => kernel_rfl); (case dt1 => (intro W hW; (try dsimp only at hW); go_split_ands; go_simp; (try with_reducible rfl))); (case' rt1 => simp only [Act.put, List.setIfInBounds_toArray, List.set_cons_zero, List.set_cons_succ]))
  (refine held_take (i := 1) (oi := ?ot2) (v := ?vt2) ?at2 (by kernel_rfl) (by kernel_rfl) (by kernel_rfl) ?bt2 ?ct2 ?dt2 (by assumption) ?rt2; (case at2 => (simp only [List.getElem?_toArray, List.getElem?_cons_zero, List.getElem?_cons_succ]; rfl)); (case bt2 => exact fun _ _ _ h => h); (case ct2 => kernel_rfl); (case dt2 => (intro W hW; (try dsimp only at hW); go_split_ands; go_simp; (try with_reducible rfl))); (case' rt2 => simp only [Act.put, List.setIfInBounds_toArray, List.set_cons_zero, List.set_cons_succ]))
  (refine held_take (i := 2) (oi := ?ot3) (v := .int .u32 (idx : Int)) ?at3 (by kernel_rfl) (by kernel_rfl) (by kernel_rfl) ?bt3 ?ct3 ?dt3 (by assumption) ?rt3; (case at3 => (simp only [List.getElem?_toArray, List.getElem?_cons_zero, List.getElem?_cons_succ]; rfl)); (case bt3 => exact fun _ _ _ h => h); (case ct3 => kernel_rfl); (case dt3 => (intro W hW; have hc := sz_idx (HA.out.1.under (show Below V.heap.size V W from hW)); clear hW; go_simp; (try with_reducible rfl))); (case' rt3 => simp only [Act.put, List.setIfInBounds_toArray, List.set_cons_zero, List.set_cons_succ]))
  (refine held_take (i := 5) (oi := ?ot4) (v := ?vt4) ?at4 (by kernel_rfl) (by kernel_rfl) (by kernel_rfl) ?bt4 ?ct4 ?dt4 (by assumption) ?rt4; (case at4 => (simp only [List.getElem?_toArray, List.getElem?_cons_zero, List.getElem?_cons_succ]; rfl)); (case bt4 => exact fun _ _ _ h => h); (case ct4 => kernel_rfl); (case dt4 => (intro W hW; (try dsimp only at hW); go_split_ands; go_simp; (try with_reducible rfl))); (case' rt4 => simp only [Act.put, List.setIfInBounds_toArray, List.set_cons_zero, List.set_cons_succ]))
  (refine held_take (i := 6) (oi := ?ot5) (v := ?vt5) ?at5 (by kernel_rfl) (by kernel_rfl) (by kernel_rfl) ?bt5 ?ct5 ?dt5 (by assumption) ?rt5; (case at5 => (simp only [List.getElem?_toArray, List.getElem?_cons_zero, List.getElem?_cons_succ]; rfl)); (case bt5 => exact fun _ _ _ h => h); (case ct5 => kernel_rfl); (case dt5 => (intro W hW; (try dsimp only at hW); go_split_ands; go_simp; (try with_reducible rfl))); (case' rt5 => simp only [Act.put, List.setIfInBounds_toArray, List.set_cons_zero, List.set_cons_succ]))
  (refine held_take (i := 7) (oi := ?ot6) (v := .agg (vec 32 (bys r))) ?at6 (by kernel_rfl) (by kernel_rfl) (by kernel_rfl) ?bt6 ?ct6 ?dt6 (by assumption) ?rt6; (case at6 => (simp only [List.getElem?_toArray, List.getElem?_cons_zero, List.getElem?_cons_succ]; rfl)); (case bt6 => exact fun _ _ _ h => h); (case ct6 => kernel_rfl); (case dt6 => (intro W hW; exact exec_load_at 24 _ rfl _ _ rfl _ (sig_r (HA.out.1.under (show Below V.heap.size V W from hW)) (fun i hi => szF_low _ _ _ _ _ i hi) (by decide)))); (case' rt6 => simp only [Act.put, List.setIfInBounds_toArray, List.set_cons_zero, List.set_cons_succ]))
  (refine held_take (i := 10) (oi := ?ot7) (v := ?vt7) ?at7 (by kernel_rfl) (by kernel_rfl) (by kernel_rfl) ?bt7 ?ct7 ?dt7 (by assumption) ?rt7; (case at7 => (simp only [List.getElem?_toArray, List.getElem?_cons_zero, List.getElem?_cons_succ]; rfl)); (case bt7 => exact fun _ _ _ h => h); (case ct7 => kernel_rfl); (case dt7 => (intro W hW; (try dsimp only at hW); go_split_ands; go_simp; (try with_reducible rfl))); (case' rt7 => simp only [Act.put, List.setIfInBounds_toArray, List.set_cons_zero, List.set_cons_succ]))
  (refine held_take (i := 11) (oi := ?ot8) (v := ?vt8) ?at8 (by kernel_rfl) (by kernel_rfl) (by kernel_rfl) ?bt8 ?ct8 ?dt8 (by assumption) ?rt8; (case at8 => (simp only [List.getElem?_toArray, List.getElem?_cons_zero, List.getElem?_cons_succ]; rfl)); (case bt8 => exact fun _ _ _ h => h); (case ct8 => kernel_rfl); (case dt8 => (intro W hW; (try dsimp only at hW); go_split_ands; go_simp; (try with_reducible rfl))); (case' rt8 => simp only [Act.put, List.setIfInBounds_toArray, List.set_cons_zero, List.set_cons_succ]))
  (refine held_take (i := 12) (oi := ?ot9) (v := .slice A1 n1 c1) ?at9 (by kernel_rfl) (by kernel_rfl) (by kernel_rfl) ?bt9 ?ct9 ?dt9 (by assumption) ?rt9; (case at9 => (simp only [List.getElem?_toArray, List.getElem?_cons_zero, List.getElem?_cons_succ]; rfl)); (case bt9 => exact fun _ _ _ h => h); (case ct9 => kernel_rfl); (case dt9 => (intro W hW; have hc := sz_v1 (HA.out.1.under (show Below V.heap.size V W from hW)); clear hW; go_simp; (try with_reducible rfl))); (case' rt9 => simp only [Act.put, List.setIfInBounds_toArray, List.set_cons_zero, List.set_cons_succ]))
  (refine held_take (i := 14) (oi := ?ot10) (v := ?vt10) ?at10 (by kernel_rfl) (by kernel_rfl) (by kernel_rfl) ?bt10 ?ct10 ?dt10 (by assumption) ?rt10; (case at10 => (simp only [List.getElem?_toArray, List.getElem?_cons_zero, List.getElem?_cons_succ]; rfl)); (case bt10 => exact fun _ _ _ h => h); (case ct10 => kernel_rfl); (case dt10 => (intro W hW; (try dsimp only at hW); go_split_ands; go_simp; (try with_reducible rfl))); (case' rt10 => simp only [Act.put, List.setIfInBounds_toArray, List.set_cons_zero, List.set_cons_succ]))
  (refine held_take (i := 15) (oi := ?ot11) (v := ?vt11) ?at11 (by kernel_rfl) (by kernel_rfl) (by kernel_rfl) ?bt11 ?ct11 ?dt11 (by assumption) ?rt11; (case at11 => (simp only [List.getElem?_toArray, List.getElem?_cons_zero, List.getElem?_cons_succ]; rfl)); (case bt11 => exact fun _ _ _ h => h); (case ct11 => kernel_rfl); (case dt11 => (intro W hW; (try dsimp only at hW); go_split_ands; go_simp; (try with_reducible rfl))); (case' rt11 => simp only [Act.put, List.setIfInBounds_toArray, List.set_cons_zero, List.set_cons_succ]))
  (refine held_take (i := 16) (oi := ?ot12) (v := .slice A2 n2 c2) ?at12 (by kernel_rfl) (by kernel_rfl) (by kernel_rfl) ?bt12 ?ct12 ?dt12 (by assumption) ?rt12; (case at12 => (simp only [List.getElem?_toArray, List.getElem?_cons_zero, List.getElem?_cons_succ]; rfl)); (case bt12 => exact fun _ _ _ h => h); (case ct12 => kernel_rfl); (case dt12 => (intro W hW; have hc := sz_v2 (HA.out.1.under (show Below V.heap.size V W from hW)); clear hW; go_simp; (try with_reducible rfl))); (case' rt12 => simp only [Act.put, List.setIfInBounds_toArray, List.set_cons_zero, List.set_cons_succ]))
  refine held_two (i := 3) (j := 8) (oi := ?oit36) (oj := ?ojt36) (by kernel_rfl) ?ait36 ?ajt36 ?cit36 ?cjt36 (fun K3 hK3 => ?hit36) (fun K8 hK8 => ?hjt36)
  (case ait36 => (simp only [List.getElem?_toArray, List.getElem?_cons_zero, List.getElem?_cons_succ]; rfl))
  (case ajt36 => (simp only [List.getElem?_toArray, List.getElem?_cons_zero, List.getElem?_cons_succ]; rfl))
  (case cit36 => kernel_rfl)
  (case cjt36 => kernel_rfl)
  case hit36 =>
    refine ow_u32 _ rfl idx rfl (fun y3 p3 hl hd => ?_)
    (try have HU := Lib.hid ((HU.out.below hd).wide hd.size))
    (try have HN := Lib.hid ((HN.out.below hd).wide hd.size))
    (try have HN2 := Lib.hid ((HN2.out.below hd).wide hd.size))
    (try have HN3 := Lib.hid ((HN3.out.below hd).wide hd.size))
    (try have HP := Lib.hid ((HP.out.below hd).wide hd.size))
    (try have HL := Lib.hid ((HL.out.below hd).wide hd.size))
    (try have HL2 := Lib.hid ((HL2.out.below hd).wide hd.size))
    (try have HL3 := Lib.hid ((HL3.out.below hd).wide hd.size))
    (try have HR := Lib.hid ((HR.out.below hd).wide hd.size))
    have HU := Lib.hid hl
    refine hK3 _ _ (hS.keep hd) (fun hS3 => ?_)
    clear hS hl hd hK3 K3
    refine held_two (i := 4) (j := 8) (oi := ?oit27) (oj := ?ojt27) (by kernel_rfl) ?ait27 ?ajt27 ?cit27 ?cjt27 (fun K4 hK4 => ?hit27) (fun K8 hK8 => ?hjt27)
    (case ait27 => (simp only [List.getElem?_toArray, List.getElem?_cons_zero, List.getElem?_cons_succ]; rfl))
    (case ajt27 => (simp only [List.getElem?_toArray, List.getElem?_cons_zero, List.getElem?_cons_succ]; rfl))
    (case cit27 => kernel_rfl)
    (case cjt27 => kernel_rfl)
    case hit27 =>
      go_simp
      refine (put_one idx HO.out.1 (some p3) 1 _ HU.out).mono ?_
      rintro e y4 ⟨v, rfl, ho, hd⟩
      (try have HU := Lib.hid ((HU.out.below hd).wide hd.size))
      (try have HN := Lib.hid ((HN.out.below hd).wide hd.size))
      (try have HN2 := Lib.hid ((HN2.out.below hd).wide hd.size))
      (try have HN3 := Lib.hid ((HN3.out.below hd).wide hd.size))
      (try have HP := Lib.hid ((HP.out.below hd).wide hd.size))
      (try have HL := Lib.hid ((HL.out.below hd).wide hd.size))
      (try have HL2 := Lib.hid ((HL2.out.below hd).wide hd.size))
      (try have HL3 := Lib.hid ((HL3.out.below hd).wide hd.size))
      (try have HR := Lib.hid ((HR.out.below hd).wide hd.size))
      obtain ⟨E4, cE4, rfl, hcE4, hl⟩ := row_part ho
      have HP := Lib.hid hl
      refine hK4 _ _ (hS3.keep hd) (fun hS4 => ?_)
      clear hS3 ho hl hd hK4 K4
      refine held_one (i := 8) (oi := ?ot13) (by kernel_rfl) ?at13 ?ct13 (fun K8 hK8 => ?_)
      (case at13 => (simp only [List.getElem?_toArray, List.getElem?_cons_zero, List.getElem?_cons_succ]; rfl))
      (case ct13 => kernel_rfl)
      refine ow_node1 _ rfl r rfl (fun y8 p8 hl hd => ?_)
      (try have HU := Lib.hid ((HU.out.below hd).wide hd.size))
      (try have HN := Lib.hid ((HN.out.below hd).wide hd.size))
      (try have HN2 := Lib.hid ((HN2.out.below hd).wide hd.size))
      (try have HN3 := Lib.hid ((HN3.out.below hd).wide hd.size))
      (try have HP := Lib.hid ((HP.out.below hd).wide hd.size))
      (try have HL := Lib.hid ((HL.out.below hd).wide hd.size))
      (try have HL2 := Lib.hid ((HL2.out.below hd).wide hd.size))
      (try have HL3 := Lib.hid ((HL3.out.below hd).wide hd.size))
      (try have HR := Lib.hid ((HR.out.below hd).wide hd.size))
      have HN := Lib.hid hl
      refine hK8 _ _ (hS4.keep hd) (fun hS8 => ?_)
      clear hS4 hl hd hK8 K8
      refine held_one (i := 9) (oi := ?ot14) (by kernel_rfl) ?at14 ?ct14 (fun K9 hK9 => ?_)
      (case at14 => (simp only [List.getElem?_toArray, List.getElem?_cons_zero, List.getElem?_cons_succ]; rfl))
      (case ct14 => kernel_rfl)
      go_simp
      refine (laid_n 1 (some p8) 1 [r] rfl (by decide) _ HN.out).mono ?_
      rintro e y9 ⟨v, rfl, ho, hd⟩
      (try have HU := Lib.hid ((HU.out.below hd).wide hd.size))
      (try have HN := Lib.hid ((HN.out.below hd).wide hd.size))
      (try have HN2 := Lib.hid ((HN2.out.below hd).wide hd.size))
      (try have HN3 := Lib.hid ((HN3.out.below hd).wide hd.size))
      (try have HP := Lib.hid ((HP.out.below hd).wide hd.size))
      (try have HL := Lib.hid ((HL.out.below hd).wide hd.size))
      (try have HL2 := Lib.hid ((HL2.out.below hd).wide hd.size))
      (try have HL3 := Lib.hid ((HL3.out.below hd).wide hd.size))
      (try have HR := Lib.hid ((HR.out.below hd).wide hd.size))
      obtain ⟨E9, cE9, rfl, hcE9, hl⟩ := row_part ho
      have HL := Lib.hid hl
      refine hK9 _ _ (hS8.keep hd) (fun hS9 => ?_)
      clear hS8 ho hl hd hK9 K9
      refine held_one (i := 13) (oi := ?ot15) (by kernel_rfl) ?at15 ?ct15 (fun K13 hK13 => ?_)
      (case at15 => (simp only [List.getElem?_toArray, List.getElem?_cons_zero, List.getElem?_cons_succ]; rfl))
      (case ct15 => kernel_rfl)
      go_simp
      refine (laid_n n1 A1 c1 ots HO.out.2.2.2.1 (by have := HO.out.2.2.2.1; have := HO.out.2.1; omega) _ HN2.out).mono ?_
      rintro e y13 ⟨v, rfl, ho, hd⟩
      (try have HU := Lib.hid ((HU.out.below hd).wide hd.size))
      (try have HN := Lib.hid ((HN.out.below hd).wide hd.size))
      (try have HN2 := Lib.hid ((HN2.out.below hd).wide hd.size))
      (try have HN3 := Lib.hid ((HN3.out.below hd).wide hd.size))
      (try have HP := Lib.hid ((HP.out.below hd).wide hd.size))
      (try have HL := Lib.hid ((HL.out.below hd).wide hd.size))
      (try have HL2 := Lib.hid ((HL2.out.below hd).wide hd.size))
      (try have HL3 := Lib.hid ((HL3.out.below hd).wide hd.size))
      (try have HR := Lib.hid ((HR.out.below hd).wide hd.size))
      obtain ⟨E13, cE13, rfl, hcE13, hl⟩ := row_part ho
      have HL2 := Lib.hid hl
      refine hK13 _ _ (hS9.keep hd) (fun hS13 => ?_)
      clear hS9 ho hl hd hK13 K13
      refine held_one (i := 17) (oi := ?ot16) (by kernel_rfl) ?at16 ?ct16 (fun K17 hK17 => ?_)
      (case at16 => (simp only [List.getElem?_toArray, List.getElem?_cons_zero, List.getElem?_cons_succ]; rfl))
      (case ct16 => kernel_rfl)
      go_simp
      refine (laid_n n2 A2 c2 auth HO.out.2.2.2.2 (by have := HO.out.2.2.2.2; have := HO.out.2.2.1; omega) _ HN3.out).mono ?_
      rintro e y17 ⟨v, rfl, ho, hd⟩
      (try have HU := Lib.hid ((HU.out.below hd).wide hd.size))
      (try have HN := Lib.hid ((HN.out.below hd).wide hd.size))
      (try have HN2 := Lib.hid ((HN2.out.below hd).wide hd.size))
      (try have HN3 := Lib.hid ((HN3.out.below hd).wide hd.size))
      (try have HP := Lib.hid ((HP.out.below hd).wide hd.size))
      (try have HL := Lib.hid ((HL.out.below hd).wide hd.size))
      (try have HL2 := Lib.hid ((HL2.out.below hd).wide hd.size))
      (try have HL3 := Lib.hid ((HL3.out.below hd).wide hd.size))
      (try have HR := Lib.hid ((HR.out.below hd).wide hd.size))
      obtain ⟨E17, cE17, rfl, hcE17, hl⟩ := row_part ho
      have HL3 := Lib.hid hl
      refine hK17 _ _ (hS13.keep hd) (fun hS17 => ?_)
      clear hS13 ho hl hd hK17 K17
      refine held_one (i := 18) (oi := ?ot17) (by kernel_rfl) ?at17 ?ct17 (fun K18 hK18 => ?_)
      (case at17 => (simp only [List.getElem?_toArray, List.getElem?_cons_zero, List.getElem?_cons_succ]; rfl))
      (case ct17 => kernel_rfl)
      refine ow_part4 _ _ _ _ rfl (E4, cE4, numBytes 0 4 idx) (E9, cE9, nodesL [r]) (E13, cE13, nodesL ots) (E17, cE17, nodesL auth) rfl rfl rfl rfl (fun y18 p18 hl hd => ?_)
      (try have HU := Lib.hid ((HU.out.below hd).wide hd.size))
      (try have HN := Lib.hid ((HN.out.below hd).wide hd.size))
      (try have HN2 := Lib.hid ((HN2.out.below hd).wide hd.size))
      (try have HN3 := Lib.hid ((HN3.out.below hd).wide hd.size))
      (try have HP := Lib.hid ((HP.out.below hd).wide hd.size))
      (try have HL := Lib.hid ((HL.out.below hd).wide hd.size))
      (try have HL2 := Lib.hid ((HL2.out.below hd).wide hd.size))
      (try have HL3 := Lib.hid ((HL3.out.below hd).wide hd.size))
      (try have HR := Lib.hid ((HR.out.below hd).wide hd.size))
      have HC := Lib.hid hl
      refine hK18 _ _ (hS17.keep hd) (fun hS18 => ?_)
      clear hS17 hl hd hK18 K18
      refine held_one (i := 19) (oi := ?ot18) (by kernel_rfl) ?at18 ?ct18 (fun K19 hK19 => ?_)
      (case at18 => (simp only [List.getElem?_toArray, List.getElem?_cons_zero, List.getElem?_cons_succ]; rfl))
      (case ct18 => kernel_rfl)
      go_simp
      refine (cat_n 4 (some p18) 4 [(E4, cE4, numBytes 0 4 idx), (E9, cE9, nodesL [r]), (E13, cE13, nodesL ots), (E17, cE17, nodesL auth)] (sigL idx r ots auth) (by simp [catAll, sigL, nodesL]) rfl (by decide) (by rw [sigL_length]; have := HO.out.2.1; have := HO.out.2.2.1; omega) _ HC.out (fun p hp => ?_)).mono ?_
      · simp only [List.mem_cons, List.not_mem_nil, or_false] at hp
        rcases hp with rfl | rfl | rfl | rfl
        · exact HP.out
        · exact HL.out
        · exact HL2.out
        · exact HL3.out
      rintro e y19 ⟨v, rfl, ho, hd⟩
      have HR := Lib.hid (owns_mono ho ((HA.out.2.trans (Below.mono (show Below V.heap.size V _ from hS18) HA.out.2.size)).size))
      refine hK19 _ _ (hS18.keep hd) (fun hS19 => ?_)
      clear hS18 ho hd hK19 K19
      (refine held_take (i := 20) (oi := ?ot19) (v := ?vt19) ?at19 (by kernel_rfl) (by kernel_rfl) (by kernel_rfl) ?bt19 ?ct19 ?dt19 (by assumption) ?rt19; (case at19 => (simp only [List.getElem?_toArray, List.getElem?_cons_zero, List.getElem?_cons_succ]; rfl)); (case bt19 => exact fun _ _ _ h => h); (case ct19 => kernel_rfl); (case dt19 => (intro W hW; (try dsimp only at hW); go_split_ands; go_simp; (try with_reducible rfl))); (case' rt19 => simp only [Act.put, List.setIfInBounds_toArray, List.set_cons_zero, List.set_cons_succ]))
      refine wpAnyH_done (by kernel_rfl) ?_ _
      go_wp2
      go_ret
      exact ⟨_, rfl, HR.out, VS.below0 hS19 HA.out.2⟩
    case hjt27 =>
      refine ow_node1 _ rfl r rfl (fun y8 p8 hl hd => ?_)
      (try have HU := Lib.hid ((HU.out.below hd).wide hd.size))
      (try have HN := Lib.hid ((HN.out.below hd).wide hd.size))
      (try have HN2 := Lib.hid ((HN2.out.below hd).wide hd.size))
      (try have HN3 := Lib.hid ((HN3.out.below hd).wide hd.size))
      (try have HP := Lib.hid ((HP.out.below hd).wide hd.size))
      (try have HL := Lib.hid ((HL.out.below hd).wide hd.size))
      (try have HL2 := Lib.hid ((HL2.out.below hd).wide hd.size))
      (try have HL3 := Lib.hid ((HL3.out.below hd).wide hd.size))
      (try have HR := Lib.hid ((HR.out.below hd).wide hd.size))
      have HN := Lib.hid hl
      refine hK8 _ _ (hS3.keep hd) (fun hS8 => ?_)
      clear hS3 hl hd hK8 K8
      refine held_one (i := 4) (oi := ?ot20) (by kernel_rfl) ?at20 ?ct20 (fun K4 hK4 => ?_)
      (case at20 => (simp only [List.getElem?_toArray, List.getElem?_cons_zero, List.getElem?_cons_succ]; rfl))
      (case ct20 => kernel_rfl)
      go_simp
      refine (put_one idx HO.out.1 (some p3) 1 _ HU.out).mono ?_
      rintro e y4 ⟨v, rfl, ho, hd⟩
      (try have HU := Lib.hid ((HU.out.below hd).wide hd.size))
      (try have HN := Lib.hid ((HN.out.below hd).wide hd.size))
      (try have HN2 := Lib.hid ((HN2.out.below hd).wide hd.size))
      (try have HN3 := Lib.hid ((HN3.out.below hd).wide hd.size))
      (try have HP := Lib.hid ((HP.out.below hd).wide hd.size))
      (try have HL := Lib.hid ((HL.out.below hd).wide hd.size))
      (try have HL2 := Lib.hid ((HL2.out.below hd).wide hd.size))
      (try have HL3 := Lib.hid ((HL3.out.below hd).wide hd.size))
      (try have HR := Lib.hid ((HR.out.below hd).wide hd.size))
      obtain ⟨E4, cE4, rfl, hcE4, hl⟩ := row_part ho
      have HP := Lib.hid hl
      refine hK4 _ _ (hS8.keep hd) (fun hS4 => ?_)
      clear hS8 ho hl hd hK4 K4
      refine held_one (i := 9) (oi := ?ot21) (by kernel_rfl) ?at21 ?ct21 (fun K9 hK9 => ?_)
      (case at21 => (simp only [List.getElem?_toArray, List.getElem?_cons_zero, List.getElem?_cons_succ]; rfl))
      (case ct21 => kernel_rfl)
      go_simp
      refine (laid_n 1 (some p8) 1 [r] rfl (by decide) _ HN.out).mono ?_
      rintro e y9 ⟨v, rfl, ho, hd⟩
      (try have HU := Lib.hid ((HU.out.below hd).wide hd.size))
      (try have HN := Lib.hid ((HN.out.below hd).wide hd.size))
      (try have HN2 := Lib.hid ((HN2.out.below hd).wide hd.size))
      (try have HN3 := Lib.hid ((HN3.out.below hd).wide hd.size))
      (try have HP := Lib.hid ((HP.out.below hd).wide hd.size))
      (try have HL := Lib.hid ((HL.out.below hd).wide hd.size))
      (try have HL2 := Lib.hid ((HL2.out.below hd).wide hd.size))
      (try have HL3 := Lib.hid ((HL3.out.below hd).wide hd.size))
      (try have HR := Lib.hid ((HR.out.below hd).wide hd.size))
      obtain ⟨E9, cE9, rfl, hcE9, hl⟩ := row_part ho
      have HL := Lib.hid hl
      refine hK9 _ _ (hS4.keep hd) (fun hS9 => ?_)
      clear hS4 ho hl hd hK9 K9
      refine held_one (i := 13) (oi := ?ot22) (by kernel_rfl) ?at22 ?ct22 (fun K13 hK13 => ?_)
      (case at22 => (simp only [List.getElem?_toArray, List.getElem?_cons_zero, List.getElem?_cons_succ]; rfl))
      (case ct22 => kernel_rfl)
      go_simp
      refine (laid_n n1 A1 c1 ots HO.out.2.2.2.1 (by have := HO.out.2.2.2.1; have := HO.out.2.1; omega) _ HN2.out).mono ?_
      rintro e y13 ⟨v, rfl, ho, hd⟩
      (try have HU := Lib.hid ((HU.out.below hd).wide hd.size))
      (try have HN := Lib.hid ((HN.out.below hd).wide hd.size))
      (try have HN2 := Lib.hid ((HN2.out.below hd).wide hd.size))
      (try have HN3 := Lib.hid ((HN3.out.below hd).wide hd.size))
      (try have HP := Lib.hid ((HP.out.below hd).wide hd.size))
      (try have HL := Lib.hid ((HL.out.below hd).wide hd.size))
      (try have HL2 := Lib.hid ((HL2.out.below hd).wide hd.size))
      (try have HL3 := Lib.hid ((HL3.out.below hd).wide hd.size))
      (try have HR := Lib.hid ((HR.out.below hd).wide hd.size))
      obtain ⟨E13, cE13, rfl, hcE13, hl⟩ := row_part ho
      have HL2 := Lib.hid hl
      refine hK13 _ _ (hS9.keep hd) (fun hS13 => ?_)
      clear hS9 ho hl hd hK13 K13
      refine held_one (i := 17) (oi := ?ot23) (by kernel_rfl) ?at23 ?ct23 (fun K17 hK17 => ?_)
      (case at23 => (simp only [List.getElem?_toArray, List.getElem?_cons_zero, List.getElem?_cons_succ]; rfl))
      (case ct23 => kernel_rfl)
      go_simp
      refine (laid_n n2 A2 c2 auth HO.out.2.2.2.2 (by have := HO.out.2.2.2.2; have := HO.out.2.2.1; omega) _ HN3.out).mono ?_
      rintro e y17 ⟨v, rfl, ho, hd⟩
      (try have HU := Lib.hid ((HU.out.below hd).wide hd.size))
      (try have HN := Lib.hid ((HN.out.below hd).wide hd.size))
      (try have HN2 := Lib.hid ((HN2.out.below hd).wide hd.size))
      (try have HN3 := Lib.hid ((HN3.out.below hd).wide hd.size))
      (try have HP := Lib.hid ((HP.out.below hd).wide hd.size))
      (try have HL := Lib.hid ((HL.out.below hd).wide hd.size))
      (try have HL2 := Lib.hid ((HL2.out.below hd).wide hd.size))
      (try have HL3 := Lib.hid ((HL3.out.below hd).wide hd.size))
      (try have HR := Lib.hid ((HR.out.below hd).wide hd.size))
      obtain ⟨E17, cE17, rfl, hcE17, hl⟩ := row_part ho
      have HL3 := Lib.hid hl
      refine hK17 _ _ (hS13.keep hd) (fun hS17 => ?_)
      clear hS13 ho hl hd hK17 K17
      refine held_one (i := 18) (oi := ?ot24) (by kernel_rfl) ?at24 ?ct24 (fun K18 hK18 => ?_)
      (case at24 => (simp only [List.getElem?_toArray, List.getElem?_cons_zero, List.getElem?_cons_succ]; rfl))
      (case ct24 => kernel_rfl)
      refine ow_part4 _ _ _ _ rfl (E4, cE4, numBytes 0 4 idx) (E9, cE9, nodesL [r]) (E13, cE13, nodesL ots) (E17, cE17, nodesL auth) rfl rfl rfl rfl (fun y18 p18 hl hd => ?_)
      (try have HU := Lib.hid ((HU.out.below hd).wide hd.size))
      (try have HN := Lib.hid ((HN.out.below hd).wide hd.size))
      (try have HN2 := Lib.hid ((HN2.out.below hd).wide hd.size))
      (try have HN3 := Lib.hid ((HN3.out.below hd).wide hd.size))
      (try have HP := Lib.hid ((HP.out.below hd).wide hd.size))
      (try have HL := Lib.hid ((HL.out.below hd).wide hd.size))
      (try have HL2 := Lib.hid ((HL2.out.below hd).wide hd.size))
      (try have HL3 := Lib.hid ((HL3.out.below hd).wide hd.size))
      (try have HR := Lib.hid ((HR.out.below hd).wide hd.size))
      have HC := Lib.hid hl
      refine hK18 _ _ (hS17.keep hd) (fun hS18 => ?_)
      clear hS17 hl hd hK18 K18
      refine held_one (i := 19) (oi := ?ot25) (by kernel_rfl) ?at25 ?ct25 (fun K19 hK19 => ?_)
      (case at25 => (simp only [List.getElem?_toArray, List.getElem?_cons_zero, List.getElem?_cons_succ]; rfl))
      (case ct25 => kernel_rfl)
      go_simp
      refine (cat_n 4 (some p18) 4 [(E4, cE4, numBytes 0 4 idx), (E9, cE9, nodesL [r]), (E13, cE13, nodesL ots), (E17, cE17, nodesL auth)] (sigL idx r ots auth) (by simp [catAll, sigL, nodesL]) rfl (by decide) (by rw [sigL_length]; have := HO.out.2.1; have := HO.out.2.2.1; omega) _ HC.out (fun p hp => ?_)).mono ?_
      · simp only [List.mem_cons, List.not_mem_nil, or_false] at hp
        rcases hp with rfl | rfl | rfl | rfl
        · exact HP.out
        · exact HL.out
        · exact HL2.out
        · exact HL3.out
      rintro e y19 ⟨v, rfl, ho, hd⟩
      have HR := Lib.hid (owns_mono ho ((HA.out.2.trans (Below.mono (show Below V.heap.size V _ from hS18) HA.out.2.size)).size))
      refine hK19 _ _ (hS18.keep hd) (fun hS19 => ?_)
      clear hS18 ho hd hK19 K19
      (refine held_take (i := 20) (oi := ?ot26) (v := ?vt26) ?at26 (by kernel_rfl) (by kernel_rfl) (by kernel_rfl) ?bt26 ?ct26 ?dt26 (by assumption) ?rt26; (case at26 => (simp only [List.getElem?_toArray, List.getElem?_cons_zero, List.getElem?_cons_succ]; rfl)); (case bt26 => exact fun _ _ _ h => h); (case ct26 => kernel_rfl); (case dt26 => (intro W hW; (try dsimp only at hW); go_split_ands; go_simp; (try with_reducible rfl))); (case' rt26 => simp only [Act.put, List.setIfInBounds_toArray, List.set_cons_zero, List.set_cons_succ]))
      refine wpAnyH_done (by kernel_rfl) ?_ _
      go_wp2
      go_ret
      exact ⟨_, rfl, HR.out, VS.below0 hS19 HA.out.2⟩
  case hjt36 =>
    refine ow_node1 _ rfl r rfl (fun y8 p8 hl hd => ?_)
    (try have HU := Lib.hid ((HU.out.below hd).wide hd.size))
    (try have HN := Lib.hid ((HN.out.below hd).wide hd.size))
    (try have HN2 := Lib.hid ((HN2.out.below hd).wide hd.size))
    (try have HN3 := Lib.hid ((HN3.out.below hd).wide hd.size))
    (try have HP := Lib.hid ((HP.out.below hd).wide hd.size))
    (try have HL := Lib.hid ((HL.out.below hd).wide hd.size))
    (try have HL2 := Lib.hid ((HL2.out.below hd).wide hd.size))
    (try have HL3 := Lib.hid ((HL3.out.below hd).wide hd.size))
    (try have HR := Lib.hid ((HR.out.below hd).wide hd.size))
    have HN := Lib.hid hl
    refine hK8 _ _ (hS.keep hd) (fun hS8 => ?_)
    clear hS hl hd hK8 K8
    refine held_one (i := 3) (oi := ?ot28) (by kernel_rfl) ?at28 ?ct28 (fun K3 hK3 => ?_)
    (case at28 => (simp only [List.getElem?_toArray, List.getElem?_cons_zero, List.getElem?_cons_succ]; rfl))
    (case ct28 => kernel_rfl)
    refine ow_u32 _ rfl idx rfl (fun y3 p3 hl hd => ?_)
    (try have HU := Lib.hid ((HU.out.below hd).wide hd.size))
    (try have HN := Lib.hid ((HN.out.below hd).wide hd.size))
    (try have HN2 := Lib.hid ((HN2.out.below hd).wide hd.size))
    (try have HN3 := Lib.hid ((HN3.out.below hd).wide hd.size))
    (try have HP := Lib.hid ((HP.out.below hd).wide hd.size))
    (try have HL := Lib.hid ((HL.out.below hd).wide hd.size))
    (try have HL2 := Lib.hid ((HL2.out.below hd).wide hd.size))
    (try have HL3 := Lib.hid ((HL3.out.below hd).wide hd.size))
    (try have HR := Lib.hid ((HR.out.below hd).wide hd.size))
    have HU := Lib.hid hl
    refine hK3 _ _ (hS8.keep hd) (fun hS3 => ?_)
    clear hS8 hl hd hK3 K3
    refine held_one (i := 4) (oi := ?ot29) (by kernel_rfl) ?at29 ?ct29 (fun K4 hK4 => ?_)
    (case at29 => (simp only [List.getElem?_toArray, List.getElem?_cons_zero, List.getElem?_cons_succ]; rfl))
    (case ct29 => kernel_rfl)
    go_simp
    refine (put_one idx HO.out.1 (some p3) 1 _ HU.out).mono ?_
    rintro e y4 ⟨v, rfl, ho, hd⟩
    (try have HU := Lib.hid ((HU.out.below hd).wide hd.size))
    (try have HN := Lib.hid ((HN.out.below hd).wide hd.size))
    (try have HN2 := Lib.hid ((HN2.out.below hd).wide hd.size))
    (try have HN3 := Lib.hid ((HN3.out.below hd).wide hd.size))
    (try have HP := Lib.hid ((HP.out.below hd).wide hd.size))
    (try have HL := Lib.hid ((HL.out.below hd).wide hd.size))
    (try have HL2 := Lib.hid ((HL2.out.below hd).wide hd.size))
    (try have HL3 := Lib.hid ((HL3.out.below hd).wide hd.size))
    (try have HR := Lib.hid ((HR.out.below hd).wide hd.size))
    obtain ⟨E4, cE4, rfl, hcE4, hl⟩ := row_part ho
    have HP := Lib.hid hl
    refine hK4 _ _ (hS3.keep hd) (fun hS4 => ?_)
    clear hS3 ho hl hd hK4 K4
    refine held_one (i := 9) (oi := ?ot30) (by kernel_rfl) ?at30 ?ct30 (fun K9 hK9 => ?_)
    (case at30 => (simp only [List.getElem?_toArray, List.getElem?_cons_zero, List.getElem?_cons_succ]; rfl))
    (case ct30 => kernel_rfl)
    go_simp
    refine (laid_n 1 (some p8) 1 [r] rfl (by decide) _ HN.out).mono ?_
    rintro e y9 ⟨v, rfl, ho, hd⟩
    (try have HU := Lib.hid ((HU.out.below hd).wide hd.size))
    (try have HN := Lib.hid ((HN.out.below hd).wide hd.size))
    (try have HN2 := Lib.hid ((HN2.out.below hd).wide hd.size))
    (try have HN3 := Lib.hid ((HN3.out.below hd).wide hd.size))
    (try have HP := Lib.hid ((HP.out.below hd).wide hd.size))
    (try have HL := Lib.hid ((HL.out.below hd).wide hd.size))
    (try have HL2 := Lib.hid ((HL2.out.below hd).wide hd.size))
    (try have HL3 := Lib.hid ((HL3.out.below hd).wide hd.size))
    (try have HR := Lib.hid ((HR.out.below hd).wide hd.size))
    obtain ⟨E9, cE9, rfl, hcE9, hl⟩ := row_part ho
    have HL := Lib.hid hl
    refine hK9 _ _ (hS4.keep hd) (fun hS9 => ?_)
    clear hS4 ho hl hd hK9 K9
    refine held_one (i := 13) (oi := ?ot31) (by kernel_rfl) ?at31 ?ct31 (fun K13 hK13 => ?_)
    (case at31 => (simp only [List.getElem?_toArray, List.getElem?_cons_zero, List.getElem?_cons_succ]; rfl))
    (case ct31 => kernel_rfl)
    go_simp
    refine (laid_n n1 A1 c1 ots HO.out.2.2.2.1 (by have := HO.out.2.2.2.1; have := HO.out.2.1; omega) _ HN2.out).mono ?_
    rintro e y13 ⟨v, rfl, ho, hd⟩
    (try have HU := Lib.hid ((HU.out.below hd).wide hd.size))
    (try have HN := Lib.hid ((HN.out.below hd).wide hd.size))
    (try have HN2 := Lib.hid ((HN2.out.below hd).wide hd.size))
    (try have HN3 := Lib.hid ((HN3.out.below hd).wide hd.size))
    (try have HP := Lib.hid ((HP.out.below hd).wide hd.size))
    (try have HL := Lib.hid ((HL.out.below hd).wide hd.size))
    (try have HL2 := Lib.hid ((HL2.out.below hd).wide hd.size))
    (try have HL3 := Lib.hid ((HL3.out.below hd).wide hd.size))
    (try have HR := Lib.hid ((HR.out.below hd).wide hd.size))
    obtain ⟨E13, cE13, rfl, hcE13, hl⟩ := row_part ho
    have HL2 := Lib.hid hl
    refine hK13 _ _ (hS9.keep hd) (fun hS13 => ?_)
    clear hS9 ho hl hd hK13 K13
    refine held_one (i := 17) (oi := ?ot32) (by kernel_rfl) ?at32 ?ct32 (fun K17 hK17 => ?_)
    (case at32 => (simp only [List.getElem?_toArray, List.getElem?_cons_zero, List.getElem?_cons_succ]; rfl))
    (case ct32 => kernel_rfl)
    go_simp
    refine (laid_n n2 A2 c2 auth HO.out.2.2.2.2 (by have := HO.out.2.2.2.2; have := HO.out.2.2.1; omega) _ HN3.out).mono ?_
    rintro e y17 ⟨v, rfl, ho, hd⟩
    (try have HU := Lib.hid ((HU.out.below hd).wide hd.size))
    (try have HN := Lib.hid ((HN.out.below hd).wide hd.size))
    (try have HN2 := Lib.hid ((HN2.out.below hd).wide hd.size))
    (try have HN3 := Lib.hid ((HN3.out.below hd).wide hd.size))
    (try have HP := Lib.hid ((HP.out.below hd).wide hd.size))
    (try have HL := Lib.hid ((HL.out.below hd).wide hd.size))
    (try have HL2 := Lib.hid ((HL2.out.below hd).wide hd.size))
    (try have HL3 := Lib.hid ((HL3.out.below hd).wide hd.size))
    (try have HR := Lib.hid ((HR.out.below hd).wide hd.size))
    obtain ⟨E17, cE17, rfl, hcE17, hl⟩ := row_part ho
    have HL3 := Lib.hid hl
    refine hK17 _ _ (hS13.keep hd) (fun hS17 => ?_)
    clear hS13 ho hl hd hK17 K17
    refine held_one (i := 18) (oi := ?ot33) (by kernel_rfl) ?at33 ?ct33 (fun K18 hK18 => ?_)
    (case at33 => (simp only [List.getElem?_toArray, List.getElem?_cons_zero, List.getElem?_cons_succ]; rfl))
    (case ct33 => kernel_rfl)
    refine ow_part4 _ _ _ _ rfl (E4, cE4, numBytes 0 4 idx) (E9, cE9, nodesL [r]) (E13, cE13, nodesL ots) (E17, cE17, nodesL auth) rfl rfl rfl rfl (fun y18 p18 hl hd => ?_)
    (try have HU := Lib.hid ((HU.out.below hd).wide hd.size))
    (try have HN := Lib.hid ((HN.out.below hd).wide hd.size))
    (try have HN2 := Lib.hid ((HN2.out.below hd).wide hd.size))
    (try have HN3 := Lib.hid ((HN3.out.below hd).wide hd.size))
    (try have HP := Lib.hid ((HP.out.below hd).wide hd.size))
    (try have HL := Lib.hid ((HL.out.below hd).wide hd.size))
    (try have HL2 := Lib.hid ((HL2.out.below hd).wide hd.size))
    (try have HL3 := Lib.hid ((HL3.out.below hd).wide hd.size))
    (try have HR := Lib.hid ((HR.out.below hd).wide hd.size))
    have HC := Lib.hid hl
    refine hK18 _ _ (hS17.keep hd) (fun hS18 => ?_)
    clear hS17 hl hd hK18 K18
    refine held_one (i := 19) (oi := ?ot34) (by kernel_rfl) ?at34 ?ct34 (fun K19 hK19 => ?_)
    (case at34 => (simp only [List.getElem?_toArray, List.getElem?_cons_zero, List.getElem?_cons_succ]; rfl))
    (case ct34 => kernel_rfl)
    go_simp
    refine (cat_n 4 (some p18) 4 [(E4, cE4, numBytes 0 4 idx), (E9, cE9, nodesL [r]), (E13, cE13, nodesL ots), (E17, cE17, nodesL auth)] (sigL idx r ots auth) (by simp [catAll, sigL, nodesL]) rfl (by decide) (by rw [sigL_length]; have := HO.out.2.1; have := HO.out.2.2.1; omega) _ HC.out (fun p hp => ?_)).mono ?_
    · simp only [List.mem_cons, List.not_mem_nil, or_false] at hp
      rcases hp with rfl | rfl | rfl | rfl
      · exact HP.out
      · exact HL.out
      · exact HL2.out
      · exact HL3.out
    rintro e y19 ⟨v, rfl, ho, hd⟩
    have HR := Lib.hid (owns_mono ho ((HA.out.2.trans (Below.mono (show Below V.heap.size V _ from hS18) HA.out.2.size)).size))
    refine hK19 _ _ (hS18.keep hd) (fun hS19 => ?_)
    clear hS18 ho hd hK19 K19
    (refine held_take (i := 20) (oi := ?ot35) (v := ?vt35) ?at35 (by kernel_rfl) (by kernel_rfl) (by kernel_rfl) ?bt35 ?ct35 ?dt35 (by assumption) ?rt35; (case at35 => (simp only [List.getElem?_toArray, List.getElem?_cons_zero, List.getElem?_cons_succ]; rfl)); (case bt35 => exact fun _ _ _ h => h); (case ct35 => kernel_rfl); (case dt35 => (intro W hW; (try dsimp only at hW); go_split_ands; go_simp; (try with_reducible rfl))); (case' rt35 => simp only [Act.put, List.setIfInBounds_toArray, List.set_cons_zero, List.set_cons_succ]))
    refine wpAnyH_done (by kernel_rfl) ?_ _
    go_wp2
    go_ret
    exact ⟨_, rfl, HR.out, VS.below0 hS19 HA.out.2⟩
end Go.Proofs.YtfeiplaiekbdkaaDoor
/- PutSig. -/
namespace Go.Proofs.YtfeiplaiekbdkaaDoor
open Go.RowKit
attribute [local go_sem ↓ high] zeroV26 zeroSig zeroSz

/-- May it be put? What PutSig answers. -/
def psOk (oid idx n1 n2 : Nat) : Bool := plcd idx (hgtO oid) n2 && decide (n1 = 67)
def psE (oid idx n1 n2 : Nat) : Nat := if isO oid then (if psOk oid idx n1 n2 then 0 else 81) else 80
def psL (oid idx : Nat) (r : Nd) (ots auth : List Nd) : List UInt8 := if isO oid && psOk oid idx ots.length auth.length then sigL idx r ots auth else []
/-- The contract of PutSig, of each of the two. -/
def SigPut (F : Nat) : Prop := ∀ (oid idx : Nat) (r : Nd) (ots auth : List Nd) (A1 A2 : Option Addr) (n1 n2 c1 c2 : Nat) (w : World), oid < 4294967296 → idx < 4294967296 → ots.length ≤ 1000 → auth.length ≤ 1000 → n1 = ots.length → n2 = auth.length → NRow w w.heap.size A1 ots → NRow w w.heap.size A2 auth →
  Calls Tryd.prog F #[.agg (vec 35 (sigF (idx : Int) r (.slice A1 n1 c1) (.slice A2 n2 c2))), .int .u32 (oid : Int)] w fun e w' => ∃ v, e = .returned (.tuple #[v, .int .i64 ((psE oid idx n1 n2 : Nat) : Int)]) ∧ w'.ownsRow w.heap.size 5 1 v (psL oid idx r ots auth).length (u8s (psL oid idx r ots auth)) ∧ Below w.heap.size w w'
theorem hgtO_is8 {oid : Nat} (h : isO oid = true) : hgtO oid = 10 ∨ hgtO oid = 16 ∨ hgtO oid = 20 := by
  rcases isO_cases h with ⟨_, e⟩ | ⟨_, e⟩ | ⟨_, e⟩ <;> simp [e]

set_option maxHeartbeats 2000000 in
set_option maxRecDepth 100000 in
theorem putSig_any : SigPut 11 := by
  intro oid idx r ots auth A1 A2 n1 n2 c1 c2 w hoid hidx ho ha hn1 hn2 h1 h2
  obtain ⟨V, hV⟩ : ∃ V, V = w.alloc (.cells (vec 35 (sigF (idx : Int) r (.slice A1 n1 c1) (.slice A2 n2 c2))) 44) := ⟨_, rfl⟩
  have h0 : Arr V w.heap.size 44 35 (sigF (idx : Int) r (.slice A1 n1 c1) (.slice A2 n2 c2)) := by rw [hV]; exact Arr.new w _ _ _
  have hB : Below w.heap.size w V := by rw [hV]; exact (Below.refl _ _).alloc (Nat.le_refl _) _
  have HA := Lib.hid (And.intro h0 hB)
  have HW := Lib.hid hV
  have HR := Lib.hid (And.intro ((h1.below hB).wide hB.size) ((h2.below hB).wide hB.size))
  have HH := Lib.hid (fun W => height_any oid hoid W)
  cases his : isO oid with
  | false =>
    have e1 : psE oid idx n1 n2 = 80 := by unfold psE; rw [his]; rfl
    have e2 : psL oid idx r ots auth = [] := by unfold psL; rw [his]; rfl
    rw [e1, e2]
    rw [his] at HH
    obtain ⟨h, hh⟩ : ∃ h, h = hgtO oid := ⟨_, rfl⟩
    rw [← hh] at HH
    clear hV h0 hB h1 h2 e1 e2 his hh hn1 hn2
    go_enter Tryd.func11, Tryd.ntmps11
    go_upto_region 1 with fail
    rw [← HW.out]
    clear HW
    go_wp2_with (go_at_call 17; refine (HH.out _).mono ?_; rintro e w1 ⟨rfl, hw1⟩; rw [← hw1]; clear hw1)
    go_ret2
    exact ⟨_, rfl, World.ownsRow_nil _ _ _ _, HA.out.2⟩
  | true =>
    have hh := hgtO_is8 his
    rw [his] at HH
    have hE : psE oid idx n1 n2 = (if psOk oid idx n1 n2 then 0 else 81) := by unfold psE; rw [his]; rfl
    have hL : psL oid idx r ots auth = (if psOk oid idx n1 n2 then sigL idx r ots auth else []) := by unfold psL; rw [his, Bool.true_and, hn1, hn2]
    have HP := Lib.hid (fun W => whole_any idx hidx r A1 n1 c1 A2 n2 c2 (hgtO oid) hh W)
    have hok : (plcd idx (hgtO oid) n2 && decide (n1 = 67)) = psOk oid idx n1 n2 := rfl
    rw [hok] at HP
    obtain ⟨h, hh⟩ : ∃ h, h = hgtO oid := ⟨_, rfl⟩
    obtain ⟨q, hq⟩ : ∃ q, q = psOk oid idx n1 n2 := ⟨_, rfl⟩
    rw [← hh] at HH HP
    rw [← hq] at HP hE hL
    have HBy := Lib.hid (fun W q1 q2 => szBytes_any idx hidx r ots auth ho ha A1 A2 n1 n2 c1 c2 hn1 hn2 (h : Int) W q1 q2)
    rw [hE, hL]
    clear hV h0 hB h1 h2 hE hL hok his hh hq hn1 hn2 ho ha
    go_enter Tryd.func11, Tryd.ntmps11
    go_upto_region 1 with fail
    rw [← HW.out]
    clear HW
    go_upto_region 5 with (first
      | (go_at_call 17; refine (HH.out _).mono ?_; rintro e w1 ⟨rfl, hw1⟩; rw [← hw1]; clear hw1)
      | ((with_reducible show wpList _ _ _ (Oper.mk _ (.load _ _) _ _ _ _ :: _) _ _); refine wl_load rfl 44 _ rfl _ rfl _ (run_load_arr HA.out.1 Tryd.underlying44 rfl infoSig) ?_)
      | ((with_reducible show wpList _ _ _ (Oper.mk _ (.build _ _) _ _ _ _ :: _) _ _); refine wl_build rfl 62 _ rfl (vec 36 (szF (idx : Int) r (.slice A1 n1 c1) (.slice A2 n2 c2) (h : Int))) (by kernel_rfl) ?_)
      | ((with_reducible show wpList _ _ _ (Oper.mk _ (.store _ _ _) _ _ _ _ :: _) _ _); refine wl_store rfl 62 _ _ rfl _ rfl _ rfl (run_store_arr (Arr.new V _ _ _) (szF (idx : Int) r (.slice A1 n1 c1) (.slice A2 n2 c2) (h : Int)) infoSz (szF_one _ _ _ _ _ rfl rfl _)) ?_))
    obtain ⟨g, hg⟩ : ∃ g, g = V.heap.size := ⟨_, rfl⟩
    obtain ⟨X, hX⟩ : ∃ X, X = (V.alloc (.cells (vec 36 (szF 0 zb (.slice none 0 0) (.slice none 0 0) 0)) 62)).setRow V.heap.size (vec 36 (szF (idx : Int) r (.slice A1 n1 c1) (.slice A2 n2 c2) (h : Int))) := ⟨_, rfl⟩
    have hK : Arr X g 62 36 (szF (idx : Int) r (.slice A1 n1 c1) (.slice A2 n2 c2) (h : Int)) := by rw [hX, hg]; exact (Arr.new V _ _ _).row _
    have hb : Below V.heap.size V X := by rw [hX]; exact below_row ((Below.refl _ _).alloc (Nat.le_refl _) _) (Nat.le_refl _) _
    have HX := Lib.hid (And.intro hK (And.intro (HA.out.2.trans (hb.mono HA.out.2.size)) (And.intro ((HR.out.1.below hb).wide hb.size) ((HR.out.2.below hb).wide hb.size))))
    rw [← hX, ← hg]
    clear hX hg hK hb
    cases q
    · go_wp2_with (first
        | ((with_reducible show wpList _ _ _ (Oper.mk _ (.load _ _) _ _ _ _ :: _) _ _); refine wl_load rfl 62 _ rfl g rfl _ (run_load_arr HX.out.1 Tryd.underlying62 rfl infoSz) ?_)
        | (go_at_call 25; refine (HP.out _).mono ?_; rintro e w3 ⟨rfl, hd⟩; have H3 := Lib.hid hd; clear hd))
      go_ret2
      exact ⟨_, rfl, World.ownsRow_nil _ _ _ _, HX.out.2.1.trans (H3.out.mono HX.out.2.1.size)⟩
    · go_wp2_with (first
        | (go_at_call 25; refine (HP.out _).mono ?_; rintro e w3 ⟨rfl, hd⟩; have H3 := Lib.hid hd; have HX := Lib.hid (And.intro (HX.out.1.under hd) (And.intro (HX.out.2.1.trans (hd.mono HX.out.2.1.size)) (And.intro ((HX.out.2.2.1.below hd).wide hd.size) ((HX.out.2.2.2.below hd).wide hd.size)))); clear hd)
        | ((with_reducible show wpList _ _ _ (Oper.mk _ (.load _ _) _ _ _ _ :: _) _ _); refine wl_load rfl 62 _ rfl g rfl _ (run_load_arr HX.out.1 Tryd.underlying62 rfl infoSz) ?_)
        | (go_at_call 26; refine (HBy.out _ HX.out.2.2.1 HX.out.2.2.2).mono ?_; rintro e w4 ⟨v, rfl, ho, hd⟩; have H4 := Lib.hid (And.intro (owns_mono ho HX.out.2.1.size) (HX.out.2.1.trans (hd.mono HX.out.2.1.size))); clear ho hd))
      go_ret2
      exact ⟨_, rfl, H4.out.1, H4.out.2⟩
end Go.Proofs.YtfeiplaiekbdkaaDoor
/- The reference's PutSig. -/
namespace Go.Proofs.YtfeiplaiekbdkaaDoor
open Go.RowKit
attribute [local go_sem ↓ high] zeroV26 zeroSig

theorem lies_sigr {w : World} {g B : Nat} {t : TypeId} {idx : Int} {r : Nd} {v1 v2 : Value} (h : Arr w g t 35 (sigF idx r v1 v2)) (hg : g < B) (hB : B ≤ w.heap.size) : Lies w w.heap.size 1 (some ⟨g, 1, none⟩) 32 (u8s (nodeL r)) := by
  have hl := h.lies (B := w.heap.size) (by omega) 1 32 (by decide)
  rw [u8s_nodeL]
  have e : ((List.range 32).map fun i => bys r (0 + i)) = (List.range 32).map fun i => sigF idx r v1 v2 (1 + i) := List.map_congr_left fun i hi => by rw [sigF_r _ _ _ _ _ (List.mem_range.1 hi), Nat.zero_add]
  rw [e]; exact hl
set_option maxHeartbeats 2000000 in
set_option maxRecDepth 100000 in
theorem rputSig_any : SigPut 15 := by
  intro oid idx r ots auth A1 A2 n1 n2 c1 c2 w hoid hidx ho ha hn1 hn2 h1 h2
  obtain ⟨V, hV⟩ : ∃ V, V = w.alloc (.cells (vec 35 (sigF (idx : Int) r (.slice A1 n1 c1) (.slice A2 n2 c2))) 44) := ⟨_, rfl⟩
  have h0 : Arr V w.heap.size 44 35 (sigF (idx : Int) r (.slice A1 n1 c1) (.slice A2 n2 c2)) := by rw [hV]; exact Arr.new w _ _ _
  have hB : Below w.heap.size w V := by rw [hV]; exact (Below.refl _ _).alloc (Nat.le_refl _) _
  have HA := Lib.hid (And.intro h0 hB)
  have HW := Lib.hid hV
  have HR := Lib.hid (And.intro ((h1.below hB).wide hB.size) ((h2.below hB).wide hB.size))
  have HH := Lib.hid (fun W => rheight_any oid hoid W)
  have a0 : V.cell? ⟨w.heap.size, 0, none⟩ = some (.int .u32 (idx : Int)) := h0.cell (i := 0) (by decide)
  have a33 : V.cell? ⟨w.heap.size, 33, none⟩ = some (.slice A1 n1 c1) := h0.cell (i := 33) (by decide)
  have a34 : V.cell? ⟨w.heap.size, 34, none⟩ = some (.slice A2 n2 c2) := h0.cell (i := 34) (by decide)
  cases his : isO oid with
  | false =>
    have e1 : psE oid idx n1 n2 = 80 := by unfold psE; rw [his]; rfl
    have e2 : psL oid idx r ots auth = [] := by unfold psL; rw [his]; rfl
    rw [e1, e2]
    rw [his] at HH
    obtain ⟨h, hh⟩ : ∃ h, h = hgtO oid := ⟨_, rfl⟩
    rw [← hh] at HH
    clear hV h0 hB h1 h2 e1 e2 his hh hn1 hn2
    go_enter Tryd.func15, Tryd.ntmps15
    go_upto_region 1 with fail
    rw [← HW.out]
    clear HW
    go_wp2_with (go_at_call 12; refine (HH.out _).mono ?_; rintro e w1 ⟨rfl, hw1⟩; rw [← hw1]; clear hw1)
    go_ret2
    exact ⟨_, rfl, World.ownsRow_nil _ _ _ _, HA.out.2⟩
  | true =>
    have hle := hgtO_le oid
    rw [his] at HH
    have hE : psE oid idx n1 n2 = (if psOk oid idx n1 n2 then 0 else 81) := by unfold psE; rw [his]; rfl
    have hL : psL oid idx r ots auth = (if psOk oid idx n1 n2 then sigL idx r ots auth else []) := by unfold psL; rw [his, Bool.true_and, hn1, hn2]
    obtain ⟨h, hh⟩ : ∃ h, h = hgtO oid := ⟨_, rfl⟩
    have hq : psOk oid idx n1 n2 = (decide (idx < 2 ^ h) && decide (n2 = h) && decide (n1 = 67)) := by unfold psOk plcd; rw [hh]
    rw [← hh] at HH hle
    obtain ⟨P, hP⟩ : ∃ P, P = 2 ^ h := ⟨_, rfl⟩
    have hP20 : P ≤ 1048576 := by rw [hP]; exact Nat.pow_le_pow_right (by decide) hle
    have hsh : IntKind.u32.wrap (2 ^ h) = (P : Int) := by
      have e : (2 : Int) ^ h = ((2 ^ h : Nat) : Int) := by rw [Int.natCast_pow]; rfl
      rw [e, ← hP, IntKind.wrap_u32]; omega
    rw [← hP] at hq
    rw [hE, hL]
    clear hE hL his hh hP
    by_cases g1 : n1 = 67
    · have t1 : ((n1 : Int) != 67) = false := by rw [g1]; rfl
      by_cases g2 : n2 = h
      · have t2 : ((n2 : Int) != (h : Int)) = false := by rw [g2]; simp
        by_cases g3 : idx < P
        · have t3 : ¬ (P : Int) ≤ (idx : Int) := by omega
          have hq2 : psOk oid idx n1 n2 = true := by rw [hq, decide_eq_true g3, decide_eq_true g2, decide_eq_true g1]; rfl
          rw [hq2, if_pos rfl, if_pos rfl]
          clear hq hq2
          have HN := Lib.hid (And.intro hn1 (And.intro hn2 (And.intro ho ha)))
          clear hV h0 hB h1 h2 hn1 hn2 ho ha g1 g2 g3
          go_enter Tryd.func15, Tryd.ntmps15
          go_upto_region 1 with fail
          rw [← HW.out]
          clear HW
          go_upto_region 4 with (go_at_call 12; refine (HH.out _).mono ?_; rintro e w1 ⟨rfl, hw1⟩; rw [← hw1]; clear hw1)
          go_quiet (fail)
          go_upto_region 6 with fail
          obtain ⟨U, hU⟩ : ∃ U, U = V.drewN nq := ⟨_, rfl⟩
          have HU : Hid (Arr U w.heap.size 44 35 (sigF (idx : Int) r (.slice A1 n1 c1) (.slice A2 n2 c2)) ∧ Below w.heap.size w U) := Lib.hid (by rw [hU]; exact ⟨HA.out.1, below_drewN HA.out.2 _⟩)
          have HRU : Hid (NRow U U.heap.size A1 ots ∧ NRow U U.heap.size A2 auth) := Lib.hid (by rw [hU]; exact HR.out)
          have hwn : IntKind.u64.wrap (idx : Int) = (idx : Int) := by rw [IntKind.wrap_u64]; omega
          rw [← hU]
          clear hU HA HR a0 a33 a34 HH t1 t2 t3 hsh hP20
          refine wp_region_held_drew (S := fun Y => VS U Y) (by kernel_rfl) (VS.begin U) (fun hS => ?_)
          (refine held_take (i := 0) (oi := ?ot1) (v := ?vt1) ?at1 (by kernel_rfl) (by kernel_rfl) (by kernel_rfl) ?bt1 ?ct1 ?dt1 (by assumption) ?rt1; (case at1 => (simp only [List.getElem?_toArray, List.getElem?_cons_zero]; rfl)); (case bt1 => exact fun _ _ _ h => h); (case ct1 => kernel_rfl); (case dt1 => (intro W hW; (try dsimp only at hW); go_split_ands; go_simp; (try with_reducible rfl))); (case' rt1 => simp only [Act.put, List.setIfInBounds_toArray, List.set_cons_zero, List.set_cons_succ]))
          (refine held_take (i := 1) (oi := ?ot2) (v := .int .u32 (idx : Int)) ?at2 (by kernel_rfl) (by kernel_rfl) (by kernel_rfl) ?bt2 ?ct2 ?dt2 (by assumption) ?rt2; (case at2 => (simp only [List.getElem?_toArray, List.getElem?_cons_zero, List.getElem?_cons_succ]; rfl)); (case bt2 => exact fun _ _ _ h => h); (case ct2 => kernel_rfl); (case dt2 => (intro W hW; have hc : W.cell? ⟨w.heap.size, 0, none⟩ = some (.int .u32 (idx : Int)) := (HU.out.1.under (show Below U.heap.size U W from hW)).cell (i := 0) (by decide); clear hW; go_simp; (try with_reducible rfl))); (case' rt2 => simp only [Act.put, List.setIfInBounds_toArray, List.set_cons_zero, List.set_cons_succ]))
          (refine held_take (i := 2) (oi := ?ot3) (v := ?vt3) ?at3 (by kernel_rfl) (by kernel_rfl) (by kernel_rfl) ?bt3 ?ct3 ?dt3 (by assumption) ?rt3; (case at3 => (simp only [List.getElem?_toArray, List.getElem?_cons_zero, List.getElem?_cons_succ]; rfl)); (case bt3 => exact fun _ _ _ h => h); (case ct3 => kernel_rfl); (case dt3 => (intro W hW; (try dsimp only at hW); go_split_ands; go_simp; (try with_reducible rfl))); (case' rt3 => simp only [Act.put, List.setIfInBounds_toArray, List.set_cons_zero, List.set_cons_succ]))
          (refine held_take (i := 4) (oi := ?ot4) (v := ?vt4) ?at4 (by kernel_rfl) (by kernel_rfl) (by kernel_rfl) ?bt4 ?ct4 ?dt4 (by assumption) ?rt4; (case at4 => (simp only [List.getElem?_toArray, List.getElem?_cons_zero, List.getElem?_cons_succ]; rfl)); (case bt4 => exact fun _ _ _ h => h); (case ct4 => kernel_rfl); (case dt4 => (intro W hW; (try dsimp only at hW); go_split_ands; go_simp; (try with_reducible rfl))); (case' rt4 => simp only [Act.put, List.setIfInBounds_toArray, List.set_cons_zero, List.set_cons_succ]))
          (refine held_take (i := 5) (oi := ?ot5) (v := ?vt5) ?at5 (by kernel_rfl) (by kernel_rfl) (by kernel_rfl) ?bt5 ?ct5 ?dt5 (by assumption) ?rt5; (case at5 => (simp only [List.getElem?_toArray, List.getElem?_cons_zero, List.getElem?_cons_succ]; rfl)); (case bt5 => exact fun _ _ _ h => h); (case ct5 => kernel_rfl); (case dt5 => (intro W hW; (try dsimp only at hW); go_split_ands; go_simp; (try with_reducible rfl))); (case' rt5 => simp only [Act.put, List.setIfInBounds_toArray, List.set_cons_zero, List.set_cons_succ]))
          refine held_one (i := 3) (oi := ?ot6) (by kernel_rfl) ?at6 ?ct6 (fun K3 hK3 => ?_)
          (case at6 => (simp only [List.getElem?_toArray, List.getElem?_cons_zero, List.getElem?_cons_succ]; rfl))
          (case ct6 => kernel_rfl)
          go_simp
          refine (rput_one idx _).mono ?_
          rintro e y3 ⟨v3, rfl, ho, hd⟩
          have HB := Lib.hid ho
          refine hK3 _ _ (hS.keep hd) (fun hS3 => ?_)
          clear hS ho hd hK3 K3
          refine held_one (i := 6) (oi := ?ot7) (by kernel_rfl) ?at7 ?ct7 (fun K6 hK6 => ?_)
          (case at7 => (simp only [List.getElem?_toArray, List.getElem?_cons_zero, List.getElem?_cons_succ]; rfl))
          (case ct7 => kernel_rfl)
          obtain ⟨v6, y6, hr, ho, hd⟩ := app_at (base := U.heap.size) HB.out (lies_sigr (HU.out.1.under (show Below U.heap.size U _ from hS3)) HU.out.1.lt (show Below U.heap.size U _ from hS3).size) (by rw [numBytes_len]; decide) (show Below U.heap.size U _ from hS3).size 28
          refine Lib.wp_append_run _ _ _ _ _ rfl _ _ rfl rfl _ _ hr ?_
          have HB := Lib.hid ho
          refine hK6 _ _ (Below.trans (show Below U.heap.size U _ from hS3) hd) (fun hS6 => ?_)
          clear hr ho hd hK6 K6
          (refine held_take (i := 7) (oi := ?ot8) (v := ?vt8) ?at8 (by kernel_rfl) (by kernel_rfl) (by kernel_rfl) ?bt8 ?ct8 ?dt8 (by assumption) ?rt8; (case at8 => (simp only [List.getElem?_toArray, List.getElem?_cons_zero, List.getElem?_cons_succ]; rfl)); (case bt8 => exact fun _ _ _ h => h); (case ct8 => kernel_rfl); (case dt8 => (intro W hW; (try dsimp only at hW); go_split_ands; go_simp; (try with_reducible rfl))); (case' rt8 => simp only [Act.put, List.setIfInBounds_toArray, List.set_cons_zero, List.set_cons_succ]))
          refine wpAnyH_done (by kernel_rfl) ?_ _
          have b33 : y6.cell? ⟨w.heap.size, 33, none⟩ = some (.slice A1 n1 c1) := (HU.out.1.below (show Below U.heap.size U y6 from hS6) HU.out.1.lt).cell (i := 33) (by decide)
          have HI : Hid (LA U U.heap.size (numBytes 0 4 idx ++ nodeL r) v6 y6) := Lib.hid ⟨HB.out, hS6⟩
          clear hS6 HB
          go_wp2
          go_loopw [8, 48] (fun v j W => ∃ k : Nat, k ≤ n1 ∧ j = .int .i64 k ∧ Hid (LA U U.heap.size ((numBytes 0 4 idx ++ nodeL r) ++ nodesL (ots.take k)) v W)) (fun _ i _ => n1 - (intOf i).toNat)
          case atStart => exact ⟨0, Nat.zero_le _, rfl, Lib.hid (by rw [List.take_zero, show nodesL [] = [] from rfl, List.append_nil]; exact HI.out)⟩
          case round =>
            obtain ⟨k, hk, rfl, hQ⟩ := hrel
            by_cases hlt : k < n1
            · have hkI : (k : Int) < (n1 : Int) := by omega
              have hk3 : (k : Int) ≤ 1000 := by have := HN.out.1; have := HN.out.2.1; have := HN.out.2.2.1; have := HN.out.2.2.2; omega
              obtain ⟨a, p, rfl, hp, hpb, hc⟩ := ((HRU.out.1.below hQ.out.b)).at (k := k) (by have := HN.out.1; omega)
              obtain ⟨f, hf⟩ : ∃ f, f = ots[k]'(by have := HN.out.1; omega) := ⟨_, rfl⟩
              rw [← hf] at hc
              have HC := Lib.hid hc
              have HT : Hid ((numBytes 0 4 idx ++ nodeL r) ++ nodesL (ots.take (k + 1)) = ((numBytes 0 4 idx ++ nodeL r) ++ nodesL (ots.take k)) ++ nodeL f) := Lib.hid (by rw [List.take_succ_eq_append_getElem (by have := HN.out.1; omega), ← hf, nodesL_snoc]; simp only [List.append_assoc])
              have hle : ((numBytes 0 4 idx ++ nodeL r) ++ nodesL (ots.take k)).length ≤ 1000000000 := by simp only [List.length_append, numBytes_len, nodeL_length, nodesL_length, List.length_take]; have := HN.out.2.2.1; have := HN.out.2.2.2; omega
              obtain ⟨v9, y9, hr9, h9⟩ := hQ.out.step (Nat.le_refl _) f hle 28
              have H9 := Lib.hid h9
              clear hc hf hpb h9 hle b33
              go_wp2_with (first
                | ((with_reducible show wpList _ _ _ (Oper.mk _ (.load _ _) _ _ _ _ :: _) _ _); refine wl_load_q rfl 24 _ rfl p rfl _ (load_p HC.out) ?_)
                | ((with_reducible show wpList _ _ _ (Oper.mk _ (.store _ _ _) _ _ _ _ :: _) _ _); refine wl_store rfl 24 _ _ rfl _ rfl _ rfl (run_store_arr (Arr.new wr _ _ _) (bys f) info26 (bys_one _ _)) ?_)
                | ((with_reducible show wpList _ _ _ (Oper.mk _ (.call ⟨.builtin .append, _, _⟩) _ _ _ _ :: _) _ _); refine wpList_plain rfl fun K hK => Lib.wp_append_run _ _ _ _ _ rfl _ _ rfl rfl _ _ hr9 (hK _ _ ?_); clear hK K))
              clear hr9
              go_roundw
              case rel => exact ⟨k + 1, by omega, by go_num, Lib.hid (by rw [HT.out]; exact H9.out)⟩
              case measure => simp [intOf]; omega
            · obtain rfl : k = n1 := by omega
              have hI := hQ.out
              rw [List.take_of_length_le (by have := HN.out.1; omega)] at hI
              have b34 : wr.cell? ⟨w.heap.size, 34, none⟩ = some (.slice A2 n2 c2) := (HU.out.1.below hI.b HU.out.1.lt).cell (i := 34) (by decide)
              have HI := Lib.hid hI
              clear hI
              go_wp2
              go_loopw [8, 59] (fun v j W => ∃ k : Nat, k ≤ n2 ∧ j = .int .i64 k ∧ Hid (LA U U.heap.size (((numBytes 0 4 idx ++ nodeL r) ++ nodesL ots) ++ nodesL (auth.take k)) v W)) (fun _ i _ => n2 - (intOf i).toNat)
              case atStart => exact ⟨0, Nat.zero_le _, rfl, Lib.hid (by rw [List.take_zero, show nodesL [] = [] from rfl, List.append_nil]; exact HI.out)⟩
              case round =>
                obtain ⟨k, hk, rfl, hQ⟩ := hrel
                by_cases hlt : k < n2
                · have hkI : (k : Int) < (n2 : Int) := by omega
                  have hk3 : (k : Int) ≤ 1000 := by have := HN.out.1; have := HN.out.2.1; have := HN.out.2.2.1; have := HN.out.2.2.2; omega
                  obtain ⟨a, p, rfl, hp, hpb, hc⟩ := ((HRU.out.2.below hQ.out.b)).at (k := k) (by have := HN.out.2.1; omega)
                  obtain ⟨f, hf⟩ : ∃ f, f = auth[k]'(by have := HN.out.2.1; omega) := ⟨_, rfl⟩
                  rw [← hf] at hc
                  have HC := Lib.hid hc
                  have HT : Hid (((numBytes 0 4 idx ++ nodeL r) ++ nodesL ots) ++ nodesL (auth.take (k + 1)) = (((numBytes 0 4 idx ++ nodeL r) ++ nodesL ots) ++ nodesL (auth.take k)) ++ nodeL f) := Lib.hid (by rw [List.take_succ_eq_append_getElem (by have := HN.out.2.1; omega), ← hf, nodesL_snoc]; simp only [List.append_assoc])
                  have hle : (((numBytes 0 4 idx ++ nodeL r) ++ nodesL ots) ++ nodesL (auth.take k)).length ≤ 1000000000 := by simp only [List.length_append, numBytes_len, nodeL_length, nodesL_length, List.length_take]; have := HN.out.2.2.1; have := HN.out.2.2.2; omega
                  obtain ⟨v9, y9, hr9, h9⟩ := hQ.out.step (Nat.le_refl _) f hle 28
                  have H9 := Lib.hid h9
                  clear hc hf hpb h9 hle b34
                  go_wp2_with (first
                    | ((with_reducible show wpList _ _ _ (Oper.mk _ (.load _ _) _ _ _ _ :: _) _ _); refine wl_load_q rfl 24 _ rfl p rfl _ (load_p HC.out) ?_)
                    | ((with_reducible show wpList _ _ _ (Oper.mk _ (.store _ _ _) _ _ _ _ :: _) _ _); refine wl_store rfl 24 _ _ rfl _ rfl _ rfl (run_store_arr (Arr.new wr _ _ _) (bys f) info26 (bys_one _ _)) ?_)
                    | ((with_reducible show wpList _ _ _ (Oper.mk _ (.call ⟨.builtin .append, _, _⟩) _ _ _ _ :: _) _ _); refine wpList_plain rfl fun K hK => Lib.wp_append_run _ _ _ _ _ rfl _ _ rfl rfl _ _ hr9 (hK _ _ ?_); clear hK K))
                  clear hr9
                  go_roundw
                  case rel => exact ⟨k + 1, by omega, by go_num, Lib.hid (by rw [HT.out]; exact H9.out)⟩
                  case measure => simp [intOf]; omega
                · obtain rfl : k = n2 := by omega
                  have hI := hQ.out
                  rw [List.take_of_length_le (by have := HN.out.2.1; omega)] at hI
                  go_wp2
                  go_ret2
                  have hrow := owns_mono hI.row HU.out.2.size
                  have e : ((numBytes 0 4 idx ++ nodeL r) ++ nodesL ots) ++ nodesL auth = sigL idx r ots auth := by simp only [sigL, List.append_assoc]
                  rw [e] at hrow
                  exact ⟨_, rfl, hrow, HU.out.2.trans (hI.b.mono HU.out.2.size)⟩
        · have t3 : (P : Int) ≤ (idx : Int) := by omega
          have hq2 : psOk oid idx n1 n2 = false := by rw [hq, decide_eq_false g3, Bool.false_and, Bool.false_and]
          rw [hq2, if_neg (by decide), if_neg (by decide)]
          clear hq hq2
          clear hV h0 hB h1 h2 hn1 hn2 g1 g2 g3
          go_enter Tryd.func15, Tryd.ntmps15
          go_upto_region 1 with fail
          rw [← HW.out]
          clear HW
          go_upto_region 4 with (go_at_call 12; refine (HH.out _).mono ?_; rintro e w1 ⟨rfl, hw1⟩; rw [← hw1]; clear hw1)
          go_quiet (fail)
          go_wp2
          go_ret2
          exact ⟨_, rfl, World.ownsRow_nil _ _ _ _, below_drewN HA.out.2 _⟩
      · have t2 : ((n2 : Int) != (h : Int)) = true := bne_iff_ne.2 (by omega)
        have hq2 : psOk oid idx n1 n2 = false := by rw [hq, decide_eq_false g2, Bool.and_false, Bool.false_and]
        rw [hq2, if_neg (by decide), if_neg (by decide)]
        clear hq hq2
        clear hV h0 hB h1 h2 hn1 hn2 g1 g2
        go_enter Tryd.func15, Tryd.ntmps15
        go_upto_region 1 with fail
        rw [← HW.out]
        clear HW
        go_upto_region 4 with (go_at_call 12; refine (HH.out _).mono ?_; rintro e w1 ⟨rfl, hw1⟩; rw [← hw1]; clear hw1)
        go_quiet (fail)
        go_wp2
        go_ret2
        exact ⟨_, rfl, World.ownsRow_nil _ _ _ _, below_drewN HA.out.2 _⟩
    · have t1 : ((n1 : Int) != 67) = true := bne_iff_ne.2 (by omega)
      have hq2 : psOk oid idx n1 n2 = false := by rw [hq, decide_eq_false g1, Bool.and_false]
      rw [hq2, if_neg (by decide), if_neg (by decide)]
      clear hq hq2
      clear hV h0 hB h1 h2 hn1 hn2 g1 
      go_enter Tryd.func15, Tryd.ntmps15
      go_upto_region 1 with fail
      rw [← HW.out]
      clear HW
      go_upto_region 4 with (go_at_call 12; refine (HH.out _).mono ?_; rintro e w1 ⟨rfl, hw1⟩; rw [← hw1]; clear hw1)
      go_quiet (fail)
      go_wp2
      go_ret2
      exact ⟨_, rfl, World.ownsRow_nil _ _ _ _, below_drewN HA.out.2 _⟩
end Go.Proofs.YtfeiplaiekbdkaaDoor
