/- Merged: Nodes, Nl, Xp, Xval, Xkind, Xbe, Xcut, Xnd, Xkey, Xref, Xrkey, Xkb, Xsz, Xwhole, Xnds, Xread, Xsig, Xrsig, Xrsigc, Xrsigd, Xsb, Xawake. -/
import Derived.Maps.AppendAt
import Derived.RangeFuncBox
import Derived.Great.BuildSlice
import Derived.Lib.AppendZeros
import Derived.Laws.MakeOwn
import Derived.KernelRfl
import Derived.Deep.Cut
import Derived.Deep.CutRange
import Derived.Test.YtfeiplaiekbdkaaGreatDoorWa
import Derived.Test.YtfeiplaiekbdkaaGreatDoorWc
import Derived.Test.YtfeiplaiekbdkaaGreatDoorPlain
import Derived.Test.YtfeiplaiekbdkaaGreatDoorVs
/- Rows of nodes. -/
namespace Go.Proofs.YtfeiplaiekbdkaaGreatDoor
open Go.RowKit

abbrev Nd := Nat → UInt8
theorem addr_add2 (a : Addr) (i j : Nat) : (a.add i).add j = a.add (i + j) := by
  unfold Addr.add
  by_cases hi : i = 0 <;> by_cases hj : j = 0 <;> simp [hi, hj, Nat.add_assoc]
def nodeC (f : Nd) : List Value := (List.range 32).map (bys f)
theorem nodeC_vec (f : Nd) : (nodeC f).toArray = vec 32 (bys f) := rfl
def cellsN (l : List Nd) : List Value := l.flatMap nodeC
theorem cellsN_append (a b : List Nd) : cellsN (a ++ b) = cellsN a ++ cellsN b := by simp [cellsN]
theorem cellsN_snoc (a : List Nd) (f : Nd) : cellsN (a ++ [f]) = cellsN a ++ nodeC f := by simp [cellsN]
theorem cellsN_cons (f : Nd) (l : List Nd) : cellsN (f :: l) = nodeC f ++ cellsN l := by simp [cellsN]
theorem nodeC_length (f : Nd) : (nodeC f).length = 32 := by simp [nodeC]
theorem cellsN_length (l : List Nd) : (cellsN l).length = l.length * 32 := by
  induction l with
  | nil => rfl
  | cons x r ih => rw [cellsN_cons, List.length_append, nodeC_length, ih, List.length_cons]; omega
theorem cellsN_get : ∀ (l : List Nd) (j : Nat) (h : j < l.length) (i : Nat), i < 32 → (cellsN l)[j * 32 + i]? = some (bys l[j] i)
  | [], j, h, _, _ => by cases h
  | x :: r, 0, _, i, hi => by
    rw [cellsN_cons, Nat.zero_mul, Nat.zero_add, List.getElem?_append_left (by rw [nodeC_length]; exact hi)]
    simp [nodeC, hi]
  | x :: r, j + 1, h, i, hi => by
    have ih := cellsN_get r j (by simpa using h) i hi
    rw [cellsN_cons, List.getElem?_append_right (by rw [nodeC_length]; omega), nodeC_length, show (j + 1) * 32 + i - 32 = j * 32 + i by omega, ih]
    rfl
theorem nodeC_one (f : Nd) : ∀ u ∈ nodeC f, u.oneCell' = true := by
  intro u hu
  obtain ⟨i, _, rfl⟩ := List.mem_map.1 hu
  rfl
/-- The slice of l.length nodes at A holds l; all of it lies below block B. -/
def NRow (w : World) (B : Nat) (A : Option Addr) (l : List Nd) : Prop :=
  l ≠ [] → ∃ a, A = some a ∧ a.block < B ∧ ∀ j (h : j < l.length) i, i < 32 → w.cell? (a.add (j * 32 + i)) = some (bys l[j] i)
section
variable {w w' : World} {B B' : Nat} {A : Option Addr} {l : List Nd}
theorem NRow.nil (w : World) (B : Nat) (A : Option Addr) : NRow w B A [] := fun h => absurd rfl h
theorem NRow.same (h : NRow w B A l) (hk : ∀ p : Addr, p.block < B → w'.cell? p = w.cell? p) : NRow w' B A l := fun hn => by
  obtain ⟨a, e, hb, hc⟩ := h hn
  exact ⟨a, e, hb, fun j hj i hi => (hk _ (by rw [addr_add_block]; exact hb)).trans (hc j hj i hi)⟩
theorem NRow.wide (h : NRow w B A l) (hB : B ≤ B') : NRow w B' A l := fun hn => by
  obtain ⟨a, e, hb, hc⟩ := h hn
  exact ⟨a, e, Nat.lt_of_lt_of_le hb hB, hc⟩
theorem NRow.below (h : NRow w B A l) (hb : Below B w w') : NRow w' B A l := h.same fun _ hp => hb.cell hp
theorem NRow.at {k : Nat} (h : NRow w B A l) (hk : k < l.length) : ∃ a p, A = some a ∧ a.add (k * 32) = p ∧ p.block < B ∧ ∀ i, i < 32 → w.cell? (p.add i) = some (bys l[k] i) := by
  obtain ⟨a, e, hb, hc⟩ := h (fun hn => by subst hn; cases hk)
  refine ⟨a, _, e, rfl, by rw [addr_add_block]; exact hb, fun i hi => ?_⟩
  have h2 := hc k hk i hi
  rw [← addr_add2] at h2
  exact h2
end
/-- A row of the call's own with the nodes l. -/
def OwnN (w : World) (base : Nat) (v : Value) (l : List Nd) : Prop := w.ownsRow base 30 32 v l.length (cellsN l)
theorem OwnN.row {w : World} {base : Nat} {v : Value} {l : List Nd} (h : OwnN w base v l) : ∃ A c, v = .slice A l.length c ∧ l.length ≤ c ∧ NRow w w.heap.size A l := by
  rcases h.2 with ⟨rfl, h0⟩ | ⟨g, cap, cur, rfl, _, hh, hnc, hr⟩
  · have : l = [] := List.eq_nil_of_length_eq_zero h0
    subst this
    exact ⟨none, 0, rfl, Nat.le_refl _, NRow.nil _ _ _⟩
  · refine ⟨_, cap, rfl, hnc, fun _ => ⟨_, rfl, (Array.getElem?_eq_some_iff.1 hh).1, fun j hj i hi => ?_⟩⟩
    obtain ⟨q1, e1⟩ := List.getElem?_eq_some_iff.1 (cellsN_get l j hj i hi)
    exact (h.cells (g := g) rfl (j * 32 + i) _ (List.getElem?_eq_getElem q1)).trans (by rw [e1])
theorem OwnN.low {w : World} {base base' : Nat} {v : Value} {l : List Nd} (h : OwnN w base v l) (hb : base' ≤ base) : OwnN w base' v l := by
  refine ⟨h.1, ?_⟩
  rcases h.2 with h2 | ⟨g, cap, cur, hv, hg, r⟩
  · exact Or.inl h2
  · exact Or.inr ⟨g, cap, cur, hv, Nat.le_trans hb hg, r⟩
theorem ownsN_below {w w' : World} {base size n : Nat} {e : TypeId} {v : Value} {xs : List Value} (h : w.ownsRow base e size v n xs) (hb : Below w.heap.size w w') : w'.ownsRow base e size v n xs := by
  refine ⟨h.1, ?_⟩
  rcases h.2 with h2 | ⟨g, cap, cur, hv, hg, hh, r⟩
  · exact Or.inl h2
  · exact Or.inr ⟨g, cap, cur, hv, hg, (hb.block g (Array.getElem?_eq_some_iff.1 hh).1).trans hh, r⟩
theorem OwnN.below {w w' : World} {base : Nat} {v : Value} {l : List Nd} (h : OwnN w base v l) (hb : Below w.heap.size w w') : OwnN w' base v l := ownsN_below h hb
theorem infoN : (Tryz.prog.info? 30).map (fun i => (i.zero, i.size, i.bytes)) = some (some (.agg (vec 32 (bys zb))), 32, 32) := by kernel_rfl
set_option maxRecDepth 100000 in
/-- []api.Node{x}: a new block. -/
theorem build1 (f : Nd) (w : World) : (Instr.buildSlice 31 1 #[(0, .agg (vec 32 (bys f)))]).run Tryz.prog w = .ok (.slice (some ⟨w.heap.size, 0, none⟩) 1 1) (w.alloc (.cells (vec 32 (bys f)) 30)) := by
  obtain ⟨i0, hi, hz0, hz1, hz2⟩ := info_parts infoN
  refine run_buildSlice (P := Tryz.prog) w 31 30 1 _ _ i0 (.agg (vec 32 (bys zb))) Tryz.underlying31 hi hz0 (by rw [hz1]; decide) (by rw [hz1]; decide) ?_
  rw [hz1]
  kernel_rfl
theorem ow_build1 {o : Oper} {a : Act} {w : World} {K : Act → World → Prop} {Q : Exit → Act → World → Prop} (x : Operand) (ho : o.op = .buildSlice 31 1 #[(0, x)]) (f : Nd) (hx : a.eval x = .agg (vec 32 (bys f)))
    (h : K (a.put o.dst (.slice (some ⟨w.heap.size, 0, none⟩) 1 1)) (w.alloc (.cells (vec 32 (bys f)) 30))) : o.wp Tryz.prog a w K Q := by
  unfold Oper.wp execOp
  have e : (#[(0, x)].map fun (i, x) => (i, a.eval x)) = #[(0, .agg (vec 32 (bys f)))] := by simp [hx]
  simp only [ho, Sem.run_bind, e, build1 f w, Result.andThen_ok, Sem.run_pure]
  exact h
theorem node_cells_new {W : World} {f : Nd} {g : Nat} {t : TypeId} (h : Arr W g t 32 (bys f)) : ∀ j u, (nodeC f)[j]? = some u → W.cell? ((⟨g, 0, none⟩ : Addr).add j) = some u := by
  intro j u hj
  have hlt : j < 32 := by
    have := (List.getElem?_eq_some_iff.1 hj).1
    rwa [nodeC_length] at this
  have hadd : (⟨g, 0, none⟩ : Addr).add j = ⟨g, j, none⟩ := by unfold Addr.add; split <;> simp_all
  rw [hadd, h.cell hlt, ← hj]
  simp [nodeC, hlt]
/-- append(own, x) -/
theorem app_own {w : World} {base : Nat} {v : Value} {n : Nat} {xs : List Value} {g : Nat} {t : TypeId} {f : Nd} (hown : w.ownsRow base 30 32 v n xs) (h : Arr w g t 32 (bys f)) (hn : n ≤ 1000000) (hb : base ≤ w.heap.size) (ty : TypeId) :
    ∃ v' w', (Builtin.append_ #[31, 31] ty #[v, .slice (some ⟨g, 0, none⟩) 1 1]).run Tryz.prog w = .ok v' w' ∧ w'.ownsRow base 30 32 v' (n + 1) (xs ++ nodeC f) ∧ w.grownBy w' v.ownBlock := by
  obtain ⟨i0, hi, hz0, hz1, hz2⟩ := info_parts infoN
  obtain ⟨v', w', hr, h1, h2, _⟩ := run_append_own (P := Tryz.prog) w base 31 ty 30 i0 (.agg (vec 32 (bys zb))) 32 32 Tryz.underlying31 hi hz0 hz1 hz2 (vec_size _ _) (by decide) v n xs hown ⟨g, 0, none⟩ 1 1 (nodeC f) (by rw [nodeC_length])
    (node_cells_new h) (nodeC_one f) (by unfold maxLen; omega) (by omega) hb
  exact ⟨v', w', hr, h1, h2⟩
section
variable {P : Program} {w : World} {o : Oper} {a : Act} {n : Nat} {f : Nat → Value}
theorem run_load_p {p : Addr} {ty : TypeId} {d : TypeDesc} (h : ∀ i, i < n → w.cell? (p.add i) = some (f i)) (hu : P.underlying ty = some d)
    (hd : (match d with | .struct _ | .array _ _ => true | _ => false) = true) (hi : (P.info? ty).map (·.size) = some n) :
    (loadVar ty p).run P w = .ok (.agg (vec n f)) w := by
  have hl : (loadCells p (vec n f).toList.length).run P w = .ok (vec n f).toList.toArray w :=
    run_loadCells_list (P := P) w p (vec n f).toList (fun j v hv => by
      have hj : j < n := by
        have := (List.getElem?_eq_some_iff.1 hv).1
        simpa [vec] using this
      have hv2 : (vec n f)[j]? = some v := by simpa using hv
      rw [vec_at n f j hj] at hv2
      rw [h j hj, hv2])
  cases hq : P.info? ty with
  | none => simp [hq] at hi
  | some i =>
    have hs : i.size = n := by simpa [hq] using hi
    have hagg : (isAgg ty).run P w = .ok true w := by
      unfold isAgg
      rw [Sem.run_bind, run_underlying hu w]
      cases d <;> simp_all
    have hz : (vec n f).size = n := vec_size n f
    simp only [Array.length_toList, Array.toArray_toList] at hl
    rw [hz] at hl
    simp [loadVar, Sem.run_bind, hagg, sizeOf, typeInfo, hq, hs, hl]
theorem exec_load_p (ty : TypeId) (x : Operand) (ho : o.op = .load ty x) (p : Addr) (hx : a.eval x = .pointer (some p)) (v : Value)
    (hl : (loadVar ty p).run P w = .ok v w) : (execOp a.eval o).run P w = .ok (.value v) w := by
  unfold execOp
  simp only [ho, hx, Instr.loadAt, Instr.sureAddr, Sem.run_bind, Sem.run_pure, Result.andThen_ok, hl]
end
theorem load_p {w : World} {p : Addr} {f : Nd} (h : ∀ i, i < 32 → w.cell? (p.add i) = some (bys f i)) : (loadVar 30 p).run Tryz.prog w = .ok (.agg (vec 32 (bys f))) w :=
  run_load_p h Tryz.underlying30 rfl info26
end Go.Proofs.YtfeiplaiekbdkaaGreatDoor
/- A node's bytes; append of a node onto a row of the call's own; numbers of four bytes, there and back. -/
namespace Go.Proofs.YtfeiplaiekbdkaaGreatDoor
open Go.RowKit

/-- A node's bytes. -/
def nodeL (f : Nat → UInt8) : List UInt8 := (List.range 32).map f
set_option maxRecDepth 100000 in
theorem nodeL_length (f : Nat → UInt8) : (nodeL f).length = 32 := by simp [nodeL]
set_option maxRecDepth 100000 in
theorem u8s_nodeL (f : Nat → UInt8) : u8s (nodeL f) = (List.range 32).map fun i => bys f (0 + i) := by simp [u8s, nodeL, bys]
set_option maxRecDepth 100000 in
theorem node_lies {w : World} {g B : Nat} {t : TypeId} {f : Nat → UInt8} (h : Arr w g t 32 (bys f)) (hB : g < B) : Lies w B 1 (some ⟨g, 0, none⟩) (nodeL f).length (u8s (nodeL f)) := by
  rw [u8s_nodeL, nodeL_length]; exact h.lies hB 0 32 (by decide)
set_option maxRecDepth 100000 in
/-- Cells that a new block begins with. -/
theorem lies_pre (w : World) (cs : Array Value) (t : TypeId) (n : Nat) (xs : List Value) (h : ∀ j (hj : j < xs.length), cs[j]? = some xs[j]) (hn : xs.length = n) :
    Lies (w.alloc (.cells cs t)) (w.heap.size + 1) 1 (some ⟨w.heap.size, 0, none⟩) n xs := by
  refine ⟨by omega, fun _ => ⟨_, rfl, Nat.lt_succ_self _, fun j hj => ?_⟩⟩
  have e : ((⟨w.heap.size, 0, none⟩ : Addr).add j) = ⟨w.heap.size, j, none⟩ := by
    unfold Addr.add; by_cases h0 : j = 0 <;> simp [h0]
  rw [e, cell_of_row _ w.heap.size j cs t (0, 0) (heap_alloc_new w _)]
  exact h j hj
set_option maxRecDepth 100000 in
theorem node_src {w : World} {g : Nat} {t : TypeId} {f : Nat → UInt8} (h : Arr w g t 32 (bys f)) : ∀ j u, (u8s (nodeL f))[j]? = some u → w.cell? ((⟨g, 0, none⟩ : Addr).add j) = some u := by
  intro j u hu
  obtain ⟨hj, rfl⟩ := List.getElem?_eq_some_iff.1 hu
  obtain ⟨a, e, _, hc⟩ := (node_lies h h.lt).2 (by rw [nodeL_length]; decide)
  injection e with e
  subst e
  exact hc j hj
set_option maxRecDepth 100000 in
theorem node_len (f : Nat → UInt8) : (u8s (nodeL f)).length = 32 * 1 := by rw [u8s_length, nodeL_length]
set_option maxRecDepth 100000 in
/-- append(own, b[:]...) -/
theorem app_node {w : World} {base : Nat} {v : Value} {n : Nat} {xs : List UInt8} {g : Nat} {t : TypeId} {f : Nat → UInt8} (hown : w.ownsRow base 5 1 v n (u8s xs)) (h : Arr w g t 32 (bys f)) (hn : n ≤ 1000000000) (hb : base ≤ w.heap.size) (ty : TypeId) :
    ∃ v' w', (Builtin.append_ #[22, 22] ty #[v, .slice (some ⟨g, 0, none⟩) 32 32]).run Tryz.prog w = .ok v' w' ∧ w'.ownsRow base 5 1 v' (n + 32) (u8s (xs ++ nodeL f)) ∧ Below base w w' := by
  obtain ⟨i0, hi, hz0, hz1, hz2⟩ := info_parts u8_info
  have hli := node_lies h h.lt
  rw [nodeL_length] at hli
  obtain ⟨v', w', hr, h2, h3, _⟩ := run_app (P := Tryz.prog) base 22 ty 5 i0 (.int .u8 0) 1 Tryz.underlying22 hi hz0 hz1 hz2 rfl v n (u8s xs) hown w.heap.size (some ⟨g, 0, none⟩) 32 32 (u8s (nodeL f)) hli (u8s_one _) (by unfold maxLen; omega) (by omega) hb
  rw [u8s_append] at h2
  exact ⟨v', w', hr, h2, (Below.refl _ _).grown h3 hb (fun k hk => (hown.lt k hk).1)⟩

set_option maxRecDepth 100000 in
theorem putN4 (n i : Nat) (hi : i < 4) : (putByte 0 4 n i).toNat = n / 2 ^ (8 * (3 - i)) % 256 := by
  have e : (shAt 0 (i : Int) ((4 : Nat) : Int)).toNat = 8 * (3 - i) := by rw [shAt_high]; omega
  have h1 := toNat_ofNat_mod (n / 2 ^ (8 * (3 - i)))
  unfold putByte
  rw [e]; omega
/-- A word that was put is read. -/
theorem wdn_put (n : Nat) (hn : n < 4294967296) (b : Nat → UInt8) (h : ∀ i, i < 4 → b i = putByte 0 4 n i) : accB b 4 = n := by
  simp only [accB]
  rw [h 0 (by decide), h 1 (by decide), h 2 (by decide), h 3 (by decide), putN4 n 0 (by decide), putN4 n 1 (by decide), putN4 n 2 (by decide), putN4 n 3 (by decide)]
  omega
/-- A word that was read is put. -/
theorem putn_wd (b : Nat → UInt8) (i : Nat) (hi : i < 4) : putByte 0 4 (accB b 4) i = b i := by
  apply UInt8.toNat_inj.1
  rw [putN4 _ i hi]
  have h0 := (b 0).toNat_lt
  have h1 := (b 1).toNat_lt
  have h2 := (b 2).toNat_lt
  have h3 := (b 3).toNat_lt
  simp only [accB]
  match i, hi with
  | 0, _ => omega
  | 1, _ => omega
  | 2, _ => omega
  | 3, _ => omega
end Go.Proofs.YtfeiplaiekbdkaaGreatDoor
/- Plain: kinds; keys and signatures as bytes. -/
namespace Go.Proofs.YtfeiplaiekbdkaaGreatDoor
open Go.RowKit

/-- The height that a kind has; 0 for none. -/
def hgtO (oid : Nat) : Nat := if oid = 1 then 10 else if oid = 2 then 16 else if oid = 3 then 20 else 0
def isO (oid : Nat) : Bool := decide (1 ≤ oid ∧ oid ≤ 3)
theorem isO_cases {oid : Nat} (h : isO oid = true) : (oid = 1 ∧ hgtO oid = 10) ∨ (oid = 2 ∧ hgtO oid = 16) ∨ (oid = 3 ∧ hgtO oid = 20) := by
  unfold isO at h
  have h := of_decide_eq_true h
  have : oid = 1 ∨ oid = 2 ∨ oid = 3 := by omega
  rcases this with rfl | rfl | rfl
  · exact .inl ⟨rfl, rfl⟩
  · exact .inr (.inl ⟨rfl, rfl⟩)
  · exact .inr (.inr ⟨rfl, rfl⟩)
theorem isO_off {oid : Nat} (h : isO oid = false) : oid ≠ 1 ∧ oid ≠ 2 ∧ oid ≠ 3 := by
  unfold isO at h
  have h := of_decide_eq_false h
  omega
theorem hgtO_off {oid : Nat} (h : isO oid = false) : hgtO oid = 0 := by
  obtain ⟨h1, h2, h3⟩ := isO_off h
  simp [hgtO, h1, h2, h3]
theorem hgtO_le (oid : Nat) : hgtO oid ≤ 20 := by
  unfold hgtO
  repeat' split
  all_goals decide
def nodesL (l : List Nd) : List UInt8 := l.flatMap nodeL
theorem nodesL_cons (f : Nd) (l : List Nd) : nodesL (f :: l) = nodeL f ++ nodesL l := by simp [nodesL]
theorem nodesL_append (a b : List Nd) : nodesL (a ++ b) = nodesL a ++ nodesL b := by simp [nodesL]
theorem nodesL_snoc (a : List Nd) (f : Nd) : nodesL (a ++ [f]) = nodesL a ++ nodeL f := by simp [nodesL]
theorem nodesL_length (l : List Nd) : (nodesL l).length = 32 * l.length := by
  induction l with
  | nil => rfl
  | cons x r ih => rw [nodesL_cons, List.length_append, nodeL_length, ih, List.length_cons]; omega
theorem numBytes_len (n : Nat) : (numBytes 0 4 n).length = 4 := by simp [numBytes]
/-- A key as bytes. -/
def keyL (oid : Nat) (root seed : Nd) : List UInt8 := numBytes 0 4 oid ++ (nodeL root ++ nodeL seed)
theorem keyL_length (oid : Nat) (root seed : Nd) : (keyL oid root seed).length = 68 := by
  simp only [keyL, List.length_append, numBytes_len, nodeL_length]
/-- A signature as bytes. -/
def sigL (idx : Nat) (r : Nd) (ots auth : List Nd) : List UInt8 := numBytes 0 4 idx ++ (nodeL r ++ (nodesL ots ++ nodesL auth))
theorem sigL_length (idx : Nat) (r : Nd) (ots auth : List Nd) : (sigL idx r ots auth).length = 36 + 32 * (ots.length + auth.length) := by
  simp only [sigL, List.length_append, numBytes_len, nodeL_length, nodesL_length]; omega
/-- The number that four bytes are. -/
theorem num_of (l : List UInt8) (h : l.length = 4) : ∃ n, n < 4294967296 ∧ l = numBytes 0 4 n := by
  refine ⟨accB (fun i => l.getD i 0) 4, by have := accB_lt (fun i => l.getD i 0) 4; simpa using this, ?_⟩
  apply List.ext_getElem (by rw [numBytes_len, h])
  intro i h1 h2
  simp only [numBytes, List.getElem_map, List.getElem_range]
  rw [putn_wd _ i (by omega)]
  simp [List.getD_eq_getElem?_getD, h1]
theorem node_of (l : List UInt8) (h : l.length = 32) : ∃ f : Nd, l = nodeL f := by
  refine ⟨fun i => l.getD i 0, ?_⟩
  apply List.ext_getElem (by rw [nodeL_length, h])
  intro i h1 h2
  simp [nodeL, List.getD_eq_getElem?_getD, h1]
theorem nodes_of : ∀ (k : Nat) (l : List UInt8), l.length = 32 * k → ∃ ls : List Nd, ls.length = k ∧ l = nodesL ls
  | 0, l, h => ⟨[], rfl, by have := List.eq_nil_of_length_eq_zero (by omega : l.length = 0); simp [this, nodesL]⟩
  | k + 1, l, h => by
    obtain ⟨f, hf⟩ := node_of (l.take 32) (by rw [List.length_take]; omega)
    obtain ⟨ls, h1, h2⟩ := nodes_of k (l.drop 32) (by rw [List.length_drop]; omega)
    exact ⟨f :: ls, by simp [h1], by rw [nodesL_cons, ← hf, ← h2, List.take_append_drop]⟩
theorem key_of (b : List UInt8) (h : b.length = 68) : ∃ oid root seed, oid < 4294967296 ∧ b = keyL oid root seed := by
  obtain ⟨n, hn, e1⟩ := num_of (b.take 4) (by rw [List.length_take]; omega)
  obtain ⟨f, e2⟩ := node_of ((b.drop 4).take 32) (by rw [List.length_take, List.length_drop]; omega)
  obtain ⟨g, e3⟩ := node_of ((b.drop 4).drop 32) (by rw [List.length_drop, List.length_drop]; omega)
  exact ⟨n, f, g, hn, by rw [keyL, ← e1, ← e2, ← e3, List.take_append_drop, List.take_append_drop]⟩
theorem sig_of (b : List UInt8) (k : Nat) (h : b.length = 36 + 32 * (67 + k)) : ∃ idx r ots auth, idx < 4294967296 ∧ ots.length = 67 ∧ auth.length = k ∧ b = sigL idx r ots auth := by
  obtain ⟨n, hn, e1⟩ := num_of (b.take 4) (by rw [List.length_take]; omega)
  obtain ⟨f, e2⟩ := node_of ((b.drop 4).take 32) (by rw [List.length_take, List.length_drop]; omega)
  obtain ⟨l1, h1, e3⟩ := nodes_of 67 (((b.drop 4).drop 32).take 2144) (by rw [List.length_take, List.length_drop, List.length_drop]; omega)
  obtain ⟨l2, h2, e4⟩ := nodes_of k (((b.drop 4).drop 32).drop 2144) (by rw [List.length_drop, List.length_drop, List.length_drop]; omega)
  exact ⟨n, f, l1, l2, hn, h1, h2, by rw [sigL, ← e1, ← e2, ← e3, ← e4, List.take_append_drop, List.take_append_drop, List.take_append_drop]⟩
/-- The number at the head of bytes. -/
theorem acc_num (n : Nat) (hn : n < 4294967296) (t : List UInt8) : accB (fun j => (numBytes 0 4 n ++ t).getD (0 + j) 0) 4 = n := by
  refine wdn_put n hn _ fun i hi => ?_
  rw [Nat.zero_add, List.getD_eq_getElem?_getD, List.getElem?_append_left (by rw [numBytes_len]; exact hi)]
  simp [numBytes, hi]
end Go.Proofs.YtfeiplaiekbdkaaGreatDoor
/- Keys and signatures by value. -/
namespace Go.Proofs.YtfeiplaiekbdkaaGreatDoor
open Go.RowKit

/-- A key's cells. -/
def keyF (oid : Int) (root seed : Nd) : Nat → Value
  | 0 => .int .u32 oid
  | i + 1 => if i < 32 then bys root i else bys seed (i - 32)
theorem keyF_one (oid : Int) (root seed : Nd) (n : Nat) : ∀ i, i < n → (keyF oid root seed i).oneCell' = true := by
  intro i _
  unfold keyF
  split
  · rfl
  · split <;> rfl
theorem keyF_root (oid : Int) (root seed : Nd) (i : Nat) (h : i < 32) : keyF oid root seed (1 + i) = bys root i := by
  rw [Nat.add_comm]; simp [keyF, h]
theorem keyF_seed (oid : Int) (root seed : Nd) (i : Nat) : keyF oid root seed (33 + i) = bys seed i := by
  rw [show 33 + i = (32 + i) + 1 by omega]
  show (if 32 + i < 32 then bys root (32 + i) else bys seed (32 + i - 32)) = _
  rw [if_neg (by omega), Nat.add_sub_cancel_left]
theorem infoKey : (Tryz.prog.info? 33).map (·.size) = some 65 := by kernel_rfl
theorem zeroKey (w : World) : (zeroValue 33).run Tryz.prog w = .ok (.agg (vec 65 (keyF 0 zb zb))) w :=
  (zero_of_info (P := Tryz.prog) (t := 33) (v := .agg (vec 65 (keyF 0 zb zb))) (n := 65) (by kernel_rfl)).1 w
/-- A signature's cells; v1, v2: its lists. -/
def sigF (idx : Int) (r : Nd) (v1 v2 : Value) : Nat → Value
  | 0 => .int .u32 idx
  | i + 1 => if i < 32 then bys r i else if i = 32 then v1 else v2
theorem sigF_r (idx : Int) (r : Nd) (v1 v2 : Value) (i : Nat) (h : i < 32) : sigF idx r v1 v2 (1 + i) = bys r i := by
  rw [Nat.add_comm]; simp [sigF, h]
theorem sigF_one (idx : Int) (r : Nd) (v1 v2 : Value) (h1 : v1.oneCell' = true) (h2 : v2.oneCell' = true) (n : Nat) : ∀ i, i < n → (sigF idx r v1 v2 i).oneCell' = true := by
  intro i _
  unfold sigF
  split
  · rfl
  · split
    · rfl
    · split <;> assumption
theorem sigF_33 (idx : Int) (r : Nd) (v1 v2 u : Value) : upd (sigF idx r v1 v2) 33 u = sigF idx r u v2 := by
  funext j
  by_cases e : j = 33
  · subst e; rw [upd_at]; rfl
  · rw [upd_ne _ _ _ _ e]
    cases j with
    | zero => rfl
    | succ j =>
      have h32 : j ≠ 32 := fun h => e (by omega)
      simp [sigF, h32]
theorem sigF_34 (idx : Int) (r : Nd) (v1 v2 u : Value) : ∀ j, j < 35 → upd (sigF idx r v1 v2) 34 u j = sigF idx r v1 u j := by
  intro j hj
  by_cases e : j = 34
  · subst e; rw [upd_at]; rfl
  · rw [upd_ne _ _ _ _ e]
    cases j with
    | zero => rfl
    | succ j =>
      by_cases h : j < 32
      · simp [sigF, h]
      · have h32 : j = 32 := by omega
        subst h32; rfl
theorem infoSig : (Tryz.prog.info? 46).map (·.size) = some 35 := by kernel_rfl
theorem zeroSig (w : World) : (zeroValue 46).run Tryz.prog w = .ok (.agg (vec 35 (sigF 0 zb (.slice none 0 0) (.slice none 0 0)))) w :=
  (zero_of_info (P := Tryz.prog) (t := 46) (v := .agg (vec 35 (sigF 0 zb (.slice none 0 0) (.slice none 0 0)))) (n := 35) (by kernel_rfl)).1 w
section
variable {w : World} {g : Nat}
set_option maxRecDepth 100000 in
theorem key_root {t : TypeId} {oid : Int} {root seed : Nd} (h : Arr w g t 65 (keyF oid root seed)) : (loadVar 30 ⟨g, 1, none⟩).run Tryz.prog w = .ok (.agg (vec 32 (bys root))) w :=
  run_load_spl (n := 32) (f := bys root) (fun i hi => (h.cell (i := 1 + i) (by omega)).trans (by rw [keyF_root _ _ _ i hi])) Tryz.underlying30 rfl info26
set_option maxRecDepth 100000 in
theorem key_seed {t : TypeId} {oid : Int} {root seed : Nd} (h : Arr w g t 65 (keyF oid root seed)) : (loadVar 30 ⟨g, 33, none⟩).run Tryz.prog w = .ok (.agg (vec 32 (bys seed))) w :=
  run_load_spl (n := 32) (f := bys seed) (fun i hi => (h.cell (i := 33 + i) (by omega)).trans (by rw [keyF_seed])) Tryz.underlying30 rfl info26
theorem key_oid {t : TypeId} {oid : Int} {root seed : Nd} (h : Arr w g t 65 (keyF oid root seed)) : w.cell? ⟨g, 0, none⟩ = some (.int .u32 oid) := h.cell (i := 0) (by decide)
set_option maxRecDepth 100000 in
theorem sig_r {t : TypeId} {n : Nat} {idx : Int} {r : Nd} {v1 v2 : Value} {f : Nat → Value} (h : Arr w g t n f) (hf : ∀ i, i < 35 → f i = sigF idx r v1 v2 i) (hn : 35 ≤ n) : (loadVar 30 ⟨g, 1, none⟩).run Tryz.prog w = .ok (.agg (vec 32 (bys r))) w :=
  run_load_spl (n := 32) (f := bys r) (fun i hi => (h.cell (i := 1 + i) (by omega)).trans (by rw [hf _ (by omega), sigF_r _ _ _ _ i hi])) Tryz.underlying30 rfl info26
end
end Go.Proofs.YtfeiplaiekbdkaaGreatDoor
/- Kinds: Height, Size. -/
namespace Go.Proofs.YtfeiplaiekbdkaaGreatDoor
open Go.RowKit

set_option maxRecDepth 100000 in
theorem height_any (oid : Nat) (_hoid : oid < 4294967296) (w : World) :
    Calls Tryz.prog 24 #[.int .u32 (oid : Int)] w fun e w' => e = .returned (.tuple #[.int .i64 ((hgtO oid : Nat) : Int), .bool (isO oid)]) ∧ w = w' := by
  by_cases h1 : oid = 1
  · subst h1
    go_enter Tryz.func24, Tryz.ntmps24
    go_wp2
    go_ret2
    exact ⟨rfl, rfl⟩
  by_cases h2 : oid = 2
  · subst h2
    go_enter Tryz.func24, Tryz.ntmps24
    go_wp2
    go_ret2
    exact ⟨rfl, rfl⟩
  by_cases h3 : oid = 3
  · subst h3
    go_enter Tryz.func24, Tryz.ntmps24
    go_wp2
    go_ret2
    exact ⟨rfl, rfl⟩
  have e1 : ((oid : Int) == 1) = false := by simp; omega
  have e2 : ((oid : Int) == 2) = false := by simp; omega
  have e3 : ((oid : Int) == 3) = false := by simp; omega
  have e0 : isO oid = false := by unfold isO; exact decide_eq_false (by omega)
  rw [hgtO_off e0, e0]
  go_enter Tryz.func24, Tryz.ntmps24
  go_wp2
  go_ret2
  exact ⟨rfl, rfl⟩
set_option maxRecDepth 100000 in
theorem rheight_any (oid : Nat) (_hoid : oid < 4294967296) (w : World) :
    Calls Tryz.prog 27 #[.int .u32 (oid : Int)] w fun e w' => e = .returned (.tuple #[.int .i64 ((hgtO oid : Nat) : Int), .bool (isO oid)]) ∧ w = w' := by
  by_cases h1 : oid = 1
  · subst h1
    go_enter Tryz.func27, Tryz.ntmps27
    go_wp2
    go_ret2
    exact ⟨rfl, rfl⟩
  by_cases h2 : oid = 2
  · subst h2
    go_enter Tryz.func27, Tryz.ntmps27
    go_wp2
    go_ret2
    exact ⟨rfl, rfl⟩
  by_cases h3 : oid = 3
  · subst h3
    go_enter Tryz.func27, Tryz.ntmps27
    go_wp2
    go_ret2
    exact ⟨rfl, rfl⟩
  have e1 : ((oid : Int) == 1) = false := by simp; omega
  have e2 : ((oid : Int) == 2) = false := by simp; omega
  have e3 : ((oid : Int) == 3) = false := by simp; omega
  have e0 : isO oid = false := by unfold isO; exact decide_eq_false (by omega)
  rw [hgtO_off e0, e0]
  go_enter Tryz.func27, Tryz.ntmps27
  go_wp2
  go_ret2
  exact ⟨rfl, rfl⟩
def sizeO (oid : Nat) : Nat := if isO oid then 4 + 32 * (68 + hgtO oid) else 0
set_option maxRecDepth 100000 in
theorem size_any (oid : Nat) (hoid : oid < 4294967296) (w : World) :
    Calls Tryz.prog 12 #[.int .u32 (oid : Int)] w fun e w' => e = .returned (.tuple #[.int .i64 ((sizeO oid : Nat) : Int), .bool (isO oid)]) ∧ w = w' := by
  have HH := Lib.hid (height_any oid hoid w)
  have hle := hgtO_le oid
  have HS : Hid (sizeO oid = if isO oid then 4 + 32 * (68 + hgtO oid) else 0) := Lib.hid rfl
  obtain ⟨h, hh⟩ : ∃ h, h = hgtO oid := ⟨_, rfl⟩
  obtain ⟨s, hs⟩ : ∃ s, s = sizeO oid := ⟨_, rfl⟩
  obtain ⟨b, hb⟩ : ∃ b, b = isO oid := ⟨_, rfl⟩
  rw [← hs]
  rw [← hh] at HH HS hle
  rw [← hb] at HH HS ⊢
  rw [← hs] at HS
  clear hh hs hb
  cases b
  · go_enter Tryz.func12, Tryz.ntmps12
    go_wp2_with (go_at_call 24; refine HH.out.mono ?_; rintro e w1 ⟨rfl, hw1⟩; rw [← hw1]; clear hw1)
    go_ret2
    have hs3 := HS.out
    rw [if_neg (by decide)] at hs3
    exact ⟨by rw [hs3]; rfl, rfl⟩
  · go_enter Tryz.func12, Tryz.ntmps12
    go_wp2_with (go_at_call 24; refine HH.out.mono ?_; rintro e w1 ⟨rfl, hw1⟩; rw [← hw1]; clear hw1)
    go_ret2
    have hs3 := HS.out
    rw [if_pos trivial] at hs3
    exact ⟨by rw [hs3]; simp, rfl⟩
end Go.Proofs.YtfeiplaiekbdkaaGreatDoor
/- word.Be32. -/
namespace Go.Proofs.YtfeiplaiekbdkaaGreatDoor
open Go.RowKit

theorem accN_high (w : Nat) (b : Nat → UInt8) (k : Nat) (hk : k ≤ w) : accN 0 w (2 ^ (8 * w)) b k = accB b k * 256 ^ (w - k) := by
  induction k with
  | zero => simp [accN, accB]
  | succ k ih =>
    have e : (shAt 0 (k : Int) (w : Int)).toNat = 8 * (w - 1 - k) := by rw [shAt_high]; omega
    rw [accN, ih (by omega), e, Nat.min_eq_left (by omega), high_or b w k (by omega)]
theorem accN_low (w : Nat) (b : Nat → UInt8) (k : Nat) (hk : k ≤ w) : accN 1 w (2 ^ (8 * w)) b k = leSum b k := by
  induction k with
  | zero => simp [accN, leSum]
  | succ k ih =>
    have e : (shAt 1 (k : Int) (w : Int)).toNat = 8 * k := by rw [shAt_low]; omega
    rw [accN, ih (by omega), e, Nat.min_eq_left (by omega), low_or b w k (by omega)]

theorem accB_step (b : Nat → UInt8) (k : Nat) (hk : k < 8) (x : Int) (hx : x = ((b k).toNat : Int)) :
    bits .or .u64 (((accB b k : Nat) : Int) * 256) x = ((accB b (k + 1) : Nat) : Int) := by
  subst hx
  have h := accB_lt b k
  have hp : 256 ^ k ≤ 256 ^ 7 := Nat.pow_le_pow_right (by decide) (by omega)
  have hb := (b k).toNat_lt
  have e : ((accB b k : Nat) : Int) * 256 = ((accB b k * 256 : Nat) : Int) := by simp
  rw [e, u64_or_nat _ _ (by omega) (by omega), accB_or]
theorem accB_small (b : Nat → UInt8) (k : Nat) (hk : k < 8) : ((accB b k : Nat) : Int) ≤ 72057594037927935 := by
  have h := accB_lt b k
  have hp : 256 ^ k ≤ 256 ^ 7 := Nat.pow_le_pow_right (by decide) (by omega)
  omega
def dnAt (l : List UInt8) (at_ size : Nat) : Nat → UInt8 := fun j => l.getD (at_ + size - 1 - j) 0
theorem dnAt_eq (l : List UInt8) (at_ size k : Nat) (h : at_ + size - 1 - k < l.length) : ((l[at_ + size - 1 - k].toNat : Nat) : Int) = ((dnAt l at_ size k).toNat : Int) := by
  unfold dnAt
  rw [List.getD_eq_getElem?_getD, List.getElem?_eq_getElem h]; rfl

/-- The document's answers, as plain functions. -/
def numHas (n : Nat) (at_ : Int) (size : Nat) : Bool := decide (0 ≤ at_ ∧ at_ + size ≤ n)
def numOf (l : List UInt8) (at_ : Int) (size : Nat) (low : Bool) : Nat :=
  if 0 ≤ at_ ∧ at_ + size ≤ l.length then (if low then accB (dnAt l at_.toNat size) size else accB (bAt l at_.toNat) size) else 0
theorem read32_any (l : List UInt8) (A : Option Addr) (c B : Nat) (at_ : Int) (low : Bool) (w : World) (hl : l.length ≤ maxLen) (h : Lies w B 1 A l.length (u8s l)) :
    Calls Tryz.prog 82 #[.slice A l.length c, .int .i64 at_, .int .i64 (if low then 1 else 0)] w fun e w' => e = .returned (.tuple #[.int .u32 (numOf l at_ 4 low : Nat), .bool (numHas l.length at_ 4)]) ∧ ∃ n, w' = w.drewN n := by
  by_cases hin : 0 ≤ at_ ∧ at_ + (4 : Nat) ≤ l.length
  · obtain ⟨k, rfl⟩ := Int.eq_ofNat_of_zero_le hin.1
    have e1 : numHas l.length (k : Int) 4 = true := by simp only [numHas, decide_eq_true_eq]; exact hin
    have e2 : numOf l (k : Int) 4 low = accN (if low then 1 else 0) 4 4294967296 (bAt l k) 4 := by
      rw [numOf, if_pos hin]
      cases low
      · have := accN_high 4 (bAt l k) 4 (Nat.le_refl _)
        rw [Nat.sub_self, Nat.pow_zero, Nat.mul_one] at this
        exact this.symm
      · have := accN_low 4 (bAt l k) 4 (Nat.le_refl _)
        refine Eq.trans ?_ this.symm
        exact accB_rev4 (bAt l k) _ (fun j hj => by unfold dnAt bAt; rw [Int.toNat_natCast, show k + 4 - 1 - j = k + (4 - 1 - j) by omega])
    rw [e1, e2]
    exact read32_in l A c B k _ (by cases low <;> simp) w (by omega) hl h
  · have e1 : numHas l.length at_ 4 = false := by simp only [numHas, decide_eq_false_iff_not]; exact hin
    have e2 : numOf l at_ 4 low = 0 := by rw [numOf, if_neg hin]
    rw [e1, e2]
    exact (read32_out A l.length c at_ _ w (by omega) hl).mono fun e w' ⟨h1, h2⟩ => ⟨h1, 0, h2.symm⟩

theorem be32_any (l : List UInt8) (A : Option Addr) (c B : Nat) (at_ : Int) (w : World) (hl : l.length ≤ maxLen) (h : Lies w B 1 A l.length (u8s l)) :
    Calls Tryz.prog 59 #[.slice A l.length c, .int .i64 at_] w fun e w' => e = .returned (.tuple #[.int .u32 (numOf l at_ 4 false : Nat), .bool (numHas l.length at_ 4)]) ∧ ∃ n, w' = w.drewN n := by
  have L := Lib.hid (fun c' W' => read32_any l A c' B at_ false W' hl)
  have Hw := Lib.hid h
  clear h hl
  go_enter Tryz.func59, Tryz.ntmps59
  go_wp2_with (go_at_call 82; refine (L.out _ _ Hw.out).mono ?_; rintro e w' ⟨rfl, hn⟩)
  go_ret2
  exact ⟨rfl, hn⟩
end Go.Proofs.YtfeiplaiekbdkaaGreatDoor
/- The cutter: a closure that goes on through bytes. -/
namespace Go.Proofs.YtfeiplaiekbdkaaGreatDoor
open Go.RowKit
attribute [local go_sem ↓ high] zeroV26

def cutV (g : Nat) : Value := .func (.func 58) #[] #[.pointer (some ⟨g, 0, none⟩)]
theorem Blk.set1 {w : World} {g : Nat} {t : TypeId} {v : Value} (h : Blk w g t #[v]) (u : Value) : Blk (w.setCell ⟨g, 0, none⟩ u) g t #[u] := by
  unfold Blk at h ⊢
  simp [World.setCell, Array.getElem?_modify, h]
/-- Box g holds the bytes that are left, l; they lie below block B. -/
structure CutAt (w : World) (B g : Nat) (l : List UInt8) : Prop where
  box : ∃ A c, Blk w g 22 #[.slice A l.length c] ∧ Lies w B 1 A l.length (u8s l) ∧ l.length ≤ c
  le : B ≤ g
theorem lies_left {w : World} {B : Nat} {a : Addr} {l1 l2 : List UInt8} (h : Lies w B 1 (some a) (l1 ++ l2).length (u8s (l1 ++ l2))) (hn : (l1 ++ l2) ≠ []) : Lies w B 1 (some a) l1.length (u8s l1) ∧ Lies w B 1 (some (a.add l1.length)) l2.length (u8s l2) := by
  obtain ⟨a', e, hb, hc⟩ := h.2 (fun h0 => hn (List.eq_nil_of_length_eq_zero h0))
  injection e with e
  subst e
  have e : u8s (l1 ++ l2) = u8s l1 ++ u8s l2 := by simp [u8s]
  have hc' : ∀ j x, (u8s (l1 ++ l2))[j]? = some x → w.cell? (a.add j) = some x := fun j x hx => by
    obtain ⟨hj, rfl⟩ := List.getElem?_eq_some_iff.1 hx
    exact hc j hj
  refine ⟨⟨by simp [u8s_length], fun _ => ⟨a, rfl, hb, fun j hj => ?_⟩⟩, ⟨by simp [u8s_length], fun _ => ⟨_, rfl, by rw [addr_add_block]; exact hb, fun j hj => ?_⟩⟩⟩
  · exact hc' j _ (by rw [e, List.getElem?_append_left hj]; exact List.getElem?_eq_getElem hj)
  · rw [addr_add_add]
    exact hc' _ _ (by rw [e, List.getElem?_append_right (by rw [u8s_length]; omega), u8s_length, Nat.add_sub_cancel_left]; exact List.getElem?_eq_getElem hj)
set_option maxHeartbeats 1000000 in
set_option maxRecDepth 100000 in
theorem next_any (l1 l2 : List UInt8) (k : Nat) (hk : k = l1.length) (hk0 : 0 < k) (B g : Nat) (w : World) (h : CutAt w B g (l1 ++ l2)) :
    Calls Tryz.prog 58 #[.int .i64 (k : Int), .pointer (some ⟨g, 0, none⟩)] w fun e w' => ∃ A c, e = .returned (.slice A k c) ∧ Lies w' B 1 A l1.length (u8s l1) ∧ k ≤ c ∧ CutAt w' B g l2 ∧ Save g w w' := by
  obtain ⟨⟨A, c, hb, hl, hc⟩, hle⟩ := h
  have hne : l1 ++ l2 ≠ [] := fun e => by have h2 := congrArg List.length e; rw [List.length_append, List.length_nil] at h2; omega
  obtain ⟨a, rfl, -, -⟩ := hl.2 (fun h0 => hne (List.eq_nil_of_length_eq_zero h0))
  obtain ⟨n, hn⟩ : ∃ n, n = (l1 ++ l2).length := ⟨_, rfl⟩
  have hn2 : n = k + l2.length := by rw [hn, List.length_append, hk]
  rw [← hn] at hb hc
  have hcell := hb.cellAt 0 (v := .slice (some a) n c) rfl
  have hfz : w.frozen? ⟨g, 0, none⟩ = false := by unfold Blk at hb; simp [World.frozen?, hb]
  have HL := Lib.hid (And.intro (lies_left hl hne) (And.intro hb hle))
  have hkn : k ≤ n := by omega
  clear hl hb hn
  go_enter Tryz.func58, Tryz.ntmps58
  go_wp2
  case inl =>
    go_ret
    refine ⟨_, _, rfl, ?_, Nat.le_refl _, ⟨⟨_, _, HL.out.2.1.set1 _, ?_, by omega⟩, HL.out.2.2⟩, (Save.refl _ _).setCell 0 _⟩
    · exact HL.out.1.1.set HL.out.2.2 _
    · have h0 : l2.length = 0 := by omega
      have : l2 = [] := List.eq_nil_of_length_eq_zero h0
      rw [this]; exact Lies.nil _ _ _ _
  case inr =>
    go_ret
    exact ⟨_, _, rfl, HL.out.1.1.set HL.out.2.2 _, by omega, ⟨⟨_, _, HL.out.2.1.set1 _, HL.out.1.2.set HL.out.2.2 _, by omega⟩, HL.out.2.2⟩, (Save.refl _ _).setCell 0 _⟩
set_option maxRecDepth 100000 in
theorem cutter_any (A : Option Addr) (c : Nat) (l : List UInt8) (w : World) (hc : l.length ≤ c) (h : Lies w w.heap.size 1 A l.length (u8s l)) :
    Calls Tryz.prog 34 #[.slice A l.length c] w fun e w' => e = .returned (cutV w.heap.size) ∧ CutAt w' w.heap.size w.heap.size l ∧ Below w.heap.size w w' ∧ w'.heap.size = w.heap.size + 1 := by
  have HL := Lib.hid (And.intro hc h)
  clear hc h
  go_enter Tryz.func34, Tryz.ntmps34
  go_wp2
  go_ret
  exact ⟨rfl, ⟨⟨_, _, Blk.new _ _ _ rfl, HL.out.2.alloc (Nat.le_refl _) _, HL.out.1⟩, Nat.le_refl _⟩, (Below.refl _ _).alloc (Nat.le_refl _) _, by simp⟩
set_option maxHeartbeats 1000000 in
set_option maxRecDepth 100000 in
theorem number_cut (n : Nat) (hn : n < 4294967296) (l2 : List UInt8) (B g : Nat) (w : World) (h : CutAt w B g (numBytes 0 4 n ++ l2)) :
    Calls Tryz.prog 35 #[cutV g] w fun e w' => e = .returned (.int .u32 (n : Int)) ∧ CutAt w' B g l2 ∧ Save g w w' := by
  have HN := Lib.hid (next_any (numBytes 0 4 n) l2 4 (numBytes_len n).symm (by decide) B g w h)
  have hacc : numOf (numBytes 0 4 n) 0 4 false = n := by
    unfold numOf
    rw [if_pos (by rw [numBytes_len]; decide)]
    have := acc_num n hn []
    rw [List.append_nil] at this
    exact this
  have HA := Lib.hid hacc
  clear hacc h
  unfold cutV
  go_enter Tryz.func35, Tryz.ntmps35
  go_wp2_with (first
    | (go_at_call 58; refine HN.out.mono ?_; rintro e w1 ⟨A, c, rfl, hl, hc, hct, hs⟩; have H1 := Lib.hid (And.intro hl (And.intro hct hs)); clear hl hct hs)
    | (go_at_call 59
       have hb := be32_any (numBytes 0 4 n) A c B 0 w1 (by rw [numBytes_len]; decide) H1.out.1
       rw [numBytes_len, HA.out] at hb
       refine hb.mono ?_; clear hb; rintro e w2 ⟨rfl, hw2⟩; have H2 := Lib.hid hw2; clear hw2))
  go_ret
  obtain ⟨m, hm⟩ := H2.out
  rw [hm]
  exact ⟨rfl, ⟨H1.out.2.1.box, H1.out.2.1.le⟩, H1.out.2.2.drewN _⟩
end Go.Proofs.YtfeiplaiekbdkaaGreatDoor
/- The cutter's node. -/
namespace Go.Proofs.YtfeiplaiekbdkaaGreatDoor
open Go.RowKit
attribute [local go_sem ↓ high] zeroV26

section
variable {P : Program} {w : World} {ops : Array Oper} {rest : List Oper} {o : Oper} {a : Act} {Q : Exit → Act → World → Prop}
theorem wl_load_q (hgd : o.guard = none) (ty : TypeId) (x : Operand) (ho : o.op = .load ty x) (p : Addr) (hx : a.eval x = .pointer (some p)) (v : Value)
    (hl : (loadVar ty p).run P w = .ok v w) (h : wpList P ops Q rest (a.put o.dst v) w) : wpList P ops Q (o :: rest) a w :=
  wpList_plain hgd fun _ hK => by
    unfold Oper.wp
    rw [exec_load_p ty x ho p hx v hl]
    exact hK _ _ h
end
/-- A world that goes on: all below n is as it was. -/
theorem Save.on {g n : Nat} {V Y Z : World} (h : Save g V Y) (hd : Below n Y Z) (hn : V.heap.size ≤ n) : Save g V Z :=
  ⟨hd.os.trans h.os, hd.tape.trans h.tape, hd.output.trans h.output, Nat.le_trans h.size hd.size, fun k hk hkr => (hd.block k (by omega)).trans (h.block k hk hkr)⟩
theorem CutAt.on {B g n : Nat} {Y Z : World} {l : List UInt8} (h : CutAt Y B g l) (hd : Below n Y Z) (hn : g < n) : CutAt Z B g l := by
  obtain ⟨⟨A, c, hb, hl, hc⟩, hle⟩ := h
  exact ⟨⟨A, c, hb.below hd hn, hl.below (hd.mono (by omega)), hc⟩, hle⟩
theorem CutAt.lt {B g : Nat} {w : World} {l : List UInt8} (h : CutAt w B g l) : g < w.heap.size := by
  obtain ⟨⟨A, c, hb, hl, hc⟩, hle⟩ := h
  exact hb.lt
theorem lies_node {w : World} {B : Nat} {A : Option Addr} {f : Nd} (h : Lies w B 1 A (nodeL f).length (u8s (nodeL f))) : ∃ a, A = some a ∧ a.block < B ∧ ∀ i, i < 32 → w.cell? (a.add i) = some (bys f i) := by
  obtain ⟨a, e, hb, hc⟩ := h.2 (by rw [nodeL_length]; decide)
  refine ⟨a, e, hb, fun i hi => ?_⟩
  rw [hc i (by rw [u8s_length, nodeL_length]; exact hi)]
  simp [u8s, nodeL, bys]
theorem arr_at_q (a : Addr) (c : Nat) (w : World) : (Instr.arrayAt 30 (.slice (some a) 32 c)).run Tryz.prog w = .ok (.pointer (some a)) w := by
  simp [Instr.arrayAt, run_underlying Tryz.underlying30]

set_option maxHeartbeats 1000000 in
set_option maxRecDepth 100000 in
theorem node_cut (f : Nd) (l2 : List UInt8) (B g : Nat) (w : World) (h : CutAt w B g (nodeL f ++ l2)) :
    Calls Tryz.prog 36 #[cutV g] w fun e w' => e = .returned (.agg (vec 32 (bys f))) ∧ CutAt w' B g l2 ∧ Save g w w' := by
  obtain ⟨V, hV⟩ : ∃ V, V = w.alloc (.cells (vec 32 (bys zb)) 30) := ⟨_, rfl⟩
  have h0 : Arr V w.heap.size 30 32 (bys zb) := by rw [hV]; exact Arr.new w _ _ _
  have hB : Below w.heap.size w V := by rw [hV]; exact (Below.refl _ _).alloc (Nat.le_refl _) _
  have HG := Lib.hid (And.intro h.lt h.le)
  have HN := Lib.hid (next_any (nodeL f) l2 32 (nodeL_length f).symm (by decide) B g V (h.on hB h.lt))
  have HA := Lib.hid (And.intro h0 hB)
  have HW := Lib.hid hV
  have har := fun a c => arr_at_q a c
  clear hV h0 hB h
  unfold cutV
  go_enter Tryz.func36, Tryz.ntmps36
  go_upto_region 1 with fail
  rw [← HW.out]
  clear HW
  go_wp2_with (first
    | (go_at_call 58; refine HN.out.mono ?_; rintro e w1 ⟨A, c, rfl, hl, hc, hct, hs⟩; obtain ⟨a, rfl, hab, hcl⟩ := lies_node hl; have H1 := Lib.hid (And.intro hcl (And.intro hct hs)); clear hl hc hct hs hcl)
    | ((with_reducible show wpList _ _ _ (Oper.mk _ (.load _ _) _ _ _ _ :: _) _ _); refine wl_load_q rfl 30 _ rfl a rfl _ (load_p H1.out.1) ?_)
    | ((with_reducible show wpList _ _ _ (Oper.mk _ (.store _ _ _) _ _ _ _ :: _) _ _); refine wl_store rfl 30 _ _ rfl _ rfl _ rfl (run_store_arr (HA.out.1.save H1.out.2.2 (by have := HG.out.1; omega)) (bys f) info26 (bys_one _ _)) ?_))
  refine bodyPost_ret (results_cell1 rfl _ _ _ rfl (run_load_arr ((HA.out.1.save H1.out.2.2 (by have := HG.out.1; omega)).row _) Tryz.underlying30 rfl info26)) rfl ⟨rfl, ?_, ?_⟩
  · exact H1.out.2.1.on (below_row (Below.refl w.heap.size _) (Nat.le_refl _) _) HG.out.1
  · exact Save.on ⟨H1.out.2.2.os.trans HA.out.2.os, H1.out.2.2.tape.trans HA.out.2.tape, H1.out.2.2.output.trans HA.out.2.output, Nat.le_trans HA.out.2.size H1.out.2.2.size, fun k hk hkg => (H1.out.2.2.block k (Nat.lt_of_lt_of_le hk HA.out.2.size) hkg).trans (HA.out.2.block k hk)⟩ (below_row (Below.refl w.heap.size _) (Nat.le_refl _) _) (Nat.le_refl _)
end Go.Proofs.YtfeiplaiekbdkaaGreatDoor
/- KeyOf; the reference's KeyOf. -/
namespace Go.Proofs.YtfeiplaiekbdkaaGreatDoor
open Go.RowKit
attribute [local go_sem ↓ high] zeroV26 zeroKey

theorem results_ct {fn : Func} {p q : Tmp} {ty : TypeId} {P : Program} {w : World} (h : fn.results = #[.cell p ty, .tmp q]) (tmps : Array Value) (g : Nat) (v : Value)
    (ha : tmps.getD p undef = .pointer (some ⟨g, 0, none⟩)) (hl : (loadVar ty ⟨g, 0, none⟩).run P w = .ok v w) : (results fn tmps).run P w = .ok (.tuple #[v, tmps.getD q undef]) w := by
  have hp' : tmps[p]?.getD undef = .pointer (some ⟨g, 0, none⟩) := by simpa using ha
  simp [results, h, hp', asAddr, hl]
/-- What KeyOf answers of a key's bytes. -/
def keyR (oid : Nat) (root seed : Nd) : Nat → Value := if isO oid then keyF (oid : Int) root seed else keyF 0 zb zb
def keyE (oid : Nat) : Nat := if isO oid then 0 else 80
theorem keyR_one (oid : Nat) (root seed : Nd) (n : Nat) : ∀ i, i < n → (keyR oid root seed i).oneCell' = true := by
  unfold keyR
  split <;> exact keyF_one _ _ _ _
/-- The contract of KeyOf, of each of the two: bytes that are none. -/
def KeyNo (F : Nat) : Prop := ∀ (A : Option Addr) (c : Nat) (b : List UInt8) (w : World), b.length ≤ 3000 → b.length ≠ 68 → Lies w w.heap.size 1 A b.length (u8s b) →
  Calls Tryz.prog F #[.slice A b.length c] w fun e w' => e = .returned (.tuple #[.agg (vec 65 (keyF 0 zb zb)), .int .i64 80]) ∧ Below w.heap.size w w'
/-- .. a key's bytes. -/
def KeyYes (F : Nat) : Prop := ∀ (A : Option Addr) (c : Nat) (oid : Nat) (root seed : Nd) (w : World), oid < 4294967296 → 68 ≤ c → Lies w w.heap.size 1 A 68 (u8s (keyL oid root seed)) →
  Calls Tryz.prog F #[.slice A 68 c] w fun e w' => e = .returned (.tuple #[.agg (vec 65 (keyR oid root seed)), .int .i64 ((keyE oid : Nat) : Int)]) ∧ Below w.heap.size w w'

set_option maxHeartbeats 1000000 in
set_option maxRecDepth 100000 in
theorem keyOf_no : KeyNo 13 := by
  intro A c b w _hb hb _hl
  have h0 : Arr (w.alloc (.cells (vec 65 (keyF 0 zb zb)) 33)) w.heap.size 33 65 (keyF 0 zb zb) := Arr.new w _ _ _
  have t1 : ((b.length : Int) != 68) = true := bne_iff_ne.2 (by omega)
  go_enter Tryz.func13, Tryz.ntmps13
  go_wp2_with (first
    | ((with_reducible show wpList _ _ _ (Oper.mk _ (.build _ _) _ _ _ _ :: _) _ _); refine wl_build rfl 33 _ rfl (vec 65 (keyF 0 zb zb)) (by kernel_rfl) ?_)
    | ((with_reducible show wpList _ _ _ (Oper.mk _ (.store _ _ _) _ _ _ _ :: _) _ _); refine wl_store rfl 33 _ _ rfl _ rfl _ rfl (run_store_arr h0 (keyF 0 zb zb) infoKey (keyF_one _ _ _ _)) ?_))
  exact bodyPost_ret (results_ct rfl _ _ _ rfl (run_load_arr (h0.row _) Tryz.underlying33 rfl infoKey)) rfl ⟨rfl, below_row ((Below.refl _ _).alloc (Nat.le_refl _) _) (Nat.le_refl _) _⟩

set_option maxHeartbeats 1000000 in
set_option maxRecDepth 100000 in
theorem keyOf_yes : KeyYes 13 := by
  intro A c oid root seed w hoid hc hl
  obtain ⟨V, hV⟩ : ∃ V, V = w.alloc (.cells (vec 65 (keyF 0 zb zb)) 33) := ⟨_, rfl⟩
  have h0 : Arr V w.heap.size 33 65 (keyF 0 zb zb) := by rw [hV]; exact Arr.new w _ _ _
  have hB : Below w.heap.size w V := by rw [hV]; exact (Below.refl _ _).alloc (Nat.le_refl _) _
  have e : keyL oid root seed = numBytes 0 4 oid ++ (nodeL root ++ (nodeL seed ++ [])) := by rw [keyL, List.append_nil]
  have hcut := cutter_any A c (keyL oid root seed) V (by rw [keyL_length]; exact hc) (by rw [keyL_length]; exact (hl.below hB).wide hB.size)
  rw [keyL_length, e] at hcut
  have HCut := Lib.hid hcut
  have HA := Lib.hid (And.intro h0 hB)
  have HW := Lib.hid hV
  have HO := Lib.hid hoid
  have HH := Lib.hid (fun W => height_any oid hoid W)
  have HE : Hid (keyR oid root seed = (if isO oid then keyF (oid : Int) root seed else keyF 0 zb zb) ∧ keyE oid = if isO oid then 0 else 80) := Lib.hid ⟨rfl, rfl⟩
  obtain ⟨kr, hkr⟩ : ∃ kr, kr = keyR oid root seed := ⟨_, rfl⟩
  obtain ⟨ke, hke⟩ : ∃ ke, ke = keyE oid := ⟨_, rfl⟩
  obtain ⟨is, his⟩ : ∃ is, is = isO oid := ⟨_, rfl⟩
  rw [← hkr, ← hke, ← his] at HE
  rw [← hkr, ← hke]
  rw [← his] at HH
  obtain ⟨ht, hht⟩ : ∃ ht, ht = hgtO oid := ⟨_, rfl⟩
  rw [← hht] at HH
  clear hV h0 hB hcut e hl hkr hke his hht hoid
  go_enter Tryz.func13, Tryz.ntmps13
  go_upto_region 1 with fail
  rw [← HW.out]
  clear HW
  go_upto_region 4 with (go_at_call 34; refine HCut.out.mono ?_; rintro e w1 ⟨rfl, hct, hd, hsz⟩; have HC := Lib.hid hct; have HD := Lib.hid (And.intro hd hsz); clear hct hd hsz)
  obtain ⟨g, hg⟩ : ∃ g, g = V.heap.size := ⟨_, rfl⟩
  have HS : Hid (Save g w1 w1) := Lib.hid (Save.refl _ _)
  rw [← hg] at HC
  rw [← hg]
  have HG := Lib.hid hg
  clear hg HCut
  go_upto_region 5 with (first
    | (go_at_call 35; refine (number_cut oid HO.out _ _ _ _ HC.out).mono ?_; rintro e wx ⟨rfl, hct, hs⟩; have HC := Lib.hid hct; have HS := Lib.hid (HS.out.trans hs); clear hct hs)
    | (go_at_call 36; refine (node_cut _ _ _ _ _ HC.out).mono ?_; rintro e wx ⟨rfl, hct, hs⟩; have HC := Lib.hid hct; have HS := Lib.hid (HS.out.trans hs); clear hct hs)
    | ((with_reducible show wpList _ _ _ (Oper.mk _ (.build _ _) _ _ _ _ :: _) _ _); refine wl_build rfl 33 _ rfl (vec 65 (keyF (oid : Int) root seed)) (by kernel_rfl) ?_)
    | ((with_reducible show wpList _ _ _ (Oper.mk _ (.store _ _ _) _ _ _ _ :: _) _ _); refine wl_store rfl 33 _ _ rfl _ rfl _ rfl (run_store_arr (Arr.new wx _ _ _) (keyF (oid : Int) root seed) infoKey (keyF_one _ _ _ _)) ?_))
  obtain ⟨r, hr⟩ : ∃ r, r = wx.heap.size := ⟨_, rfl⟩
  obtain ⟨X, hX⟩ : ∃ X, X = (wx.alloc (.cells (vec 65 (keyF 0 zb zb)) 33)).setRow wx.heap.size (vec 65 (keyF (oid : Int) root seed)) := ⟨_, rfl⟩
  have hK : Arr X r 33 65 (keyF (oid : Int) root seed) := by rw [hX, hr]; exact (Arr.new wx _ _ _).row _
  have hb : Below wx.heap.size wx X := by rw [hX]; exact below_row ((Below.refl _ _).alloc (Nat.le_refl _) _) (Nat.le_refl _) _
  have hR : Arr X w.heap.size 33 65 (keyF 0 zb zb) := ((HA.out.1.under HD.out.1).save HS.out (by have := HG.out; have := HA.out.1.lt; omega)).under hb
  have hB : Below w.heap.size w X := HA.out.2.trans ((HD.out.1.mono HA.out.2.size).trans ((HS.out.below (by have := HG.out; have := HA.out.2.size; omega) (Nat.le_trans HA.out.2.size HD.out.1.size)).trans (hb.mono (Nat.le_trans (Nat.le_trans HA.out.2.size HD.out.1.size) HS.out.size))))
  have c0 := key_oid hK
  have HX := Lib.hid (And.intro hK (And.intro hR hB))
  rw [← hX, ← hr]
  clear hX hr hK hb hR hB HC HS HD HA
  cases is
  · have hk := HE.out
    rw [if_neg (by decide), if_neg (by decide)] at hk
    obtain ⟨rfl, rfl⟩ := hk
    clear HE
    go_wp2_with (first
      | (go_at_call 24; refine (HH.out _).mono ?_; rintro e w1 ⟨rfl, hw1⟩; rw [← hw1]; clear hw1)
      | ((with_reducible show wpList _ _ _ (Oper.mk _ (.build _ _) _ _ _ _ :: _) _ _); refine wl_build rfl 33 _ rfl (vec 65 (keyF 0 zb zb)) (by kernel_rfl) ?_)
      | ((with_reducible show wpList _ _ _ (Oper.mk _ (.store _ _ _) _ _ _ _ :: _) _ _); refine wl_store rfl 33 _ _ rfl _ rfl _ rfl (run_store_arr HX.out.2.1 (keyF 0 zb zb) infoKey (keyF_one _ _ _ _)) ?_))
    exact bodyPost_ret (results_ct rfl _ _ _ rfl (run_load_arr (HX.out.2.1.row _) Tryz.underlying33 rfl infoKey)) rfl ⟨rfl, below_row HX.out.2.2 (Nat.le_refl _) _⟩
  · have hk := HE.out
    rw [if_pos rfl, if_pos rfl] at hk
    obtain ⟨rfl, rfl⟩ := hk
    clear HE
    go_wp2_with (first
      | (go_at_call 24; refine (HH.out _).mono ?_; rintro e w1 ⟨rfl, hw1⟩; rw [← hw1]; clear hw1)
      | ((with_reducible show wpList _ _ _ (Oper.mk _ (.load 33 _) _ _ _ _ :: _) _ _); refine wl_load rfl 33 _ rfl r rfl _ (run_load_arr HX.out.1 Tryz.underlying33 rfl infoKey) ?_)
      | ((with_reducible show wpList _ _ _ (Oper.mk _ (.store _ _ _) _ _ _ _ :: _) _ _); refine wl_store rfl 33 _ _ rfl _ rfl _ rfl (run_store_arr HX.out.2.1 (keyF (oid : Int) root seed) infoKey (keyF_one _ _ _ _)) ?_))
    exact bodyPost_ret (results_ct rfl _ _ _ rfl (run_load_arr (HX.out.2.1.row _) Tryz.underlying33 rfl infoKey)) rfl ⟨rfl, below_row HX.out.2.2 (Nat.le_refl _) _⟩
end Go.Proofs.YtfeiplaiekbdkaaGreatDoor
/- portreeveref01.Number. -/
namespace Go.Proofs.YtfeiplaiekbdkaaGreatDoor
open Go.RowKit
set_option maxHeartbeats 400000 in
set_option maxRecDepth 100000 in
theorem number_high (l : List UInt8) (A : Option Addr) (c B : Nat) (at_ size : Nat) (hs : size ≤ 8) (w : World) (hat : at_ + size ≤ l.length) (hl : l.length ≤ maxLen) (h : Lies w B 1 A l.length (u8s l)) :
    Calls Tryz.prog 47 #[.slice A l.length c, .int .i64 (at_ : Int), .int .i64 (size : Int), .bool false] w fun e w' => e = .returned (.tuple #[.int .u64 (accB (bAt l at_) size : Nat), .bool true]) ∧ w = w' := by
  unfold maxLen at hl
  have Hw := Lib.hid h
  clear h
  go_enter Tryz.func47, Tryz.ntmps47
  go_wp2
  go_loop [10, 11] (fun n j => ∃ k : Nat, k ≤ size ∧ j = .int .i64 k ∧ n = .int .u64 (accB (bAt l at_) k : Nat)) (fun _ i => size - (intOf i).toNat)
  case atStart => exact ⟨0, Nat.zero_le _, rfl, rfl⟩
  case round =>
    obtain ⟨k, hk, rfl, rfl⟩ := hrel
    by_cases hlt : k < size
    · obtain ⟨a, hx, rfl, hb, hc⟩ := Hw.out.atMap (k := at_ + k) (by omega)
      have hb8 := u8_lt l[at_ + k]
      have s0 := accB_step (bAt l at_) k (by omega) _ (bAt_eq l at_ k hx)
      have s1 := accB_small (bAt l at_) k (by omega)
      go_wp2
      go_round
      case rel => exact ⟨k + 1, by omega, by go_num, rfl⟩
      case measure => simp [intOf]; omega
    · obtain rfl : k = size := by omega
      go_wp2
      go_ret2
      exact ⟨rfl, rfl⟩

set_option maxHeartbeats 400000 in
set_option maxRecDepth 100000 in
theorem number_low (l : List UInt8) (A : Option Addr) (c B : Nat) (at_ size : Nat) (hs : size ≤ 8) (w : World) (hat : at_ + size ≤ l.length) (hl : l.length ≤ maxLen) (h : Lies w B 1 A l.length (u8s l)) :
    Calls Tryz.prog 47 #[.slice A l.length c, .int .i64 (at_ : Int), .int .i64 (size : Int), .bool true] w fun e w' => e = .returned (.tuple #[.int .u64 (accB (dnAt l at_ size) size : Nat), .bool true]) ∧ w = w' := by
  unfold maxLen at hl
  have Hw := Lib.hid h
  clear h
  go_enter Tryz.func47, Tryz.ntmps47
  go_wp2
  go_loop [10, 11] (fun n j => ∃ k : Nat, k ≤ size ∧ j = .int .i64 k ∧ n = .int .u64 (accB (dnAt l at_ size) k : Nat)) (fun _ i => size - (intOf i).toNat)
  case atStart => exact ⟨0, Nat.zero_le _, rfl, rfl⟩
  case round =>
    obtain ⟨k, hk, rfl, rfl⟩ := hrel
    by_cases hlt : k < size
    · obtain ⟨a, hx, rfl, hb, hc⟩ := Hw.out.atMap (k := at_ + size - 1 - k) (by omega)
      have hb8 := u8_lt l[at_ + size - 1 - k]
      have s0 := accB_step (dnAt l at_ size) k (by omega) _ (dnAt_eq l at_ size k hx)
      have s1 := accB_small (dnAt l at_ size) k (by omega)
      go_wp2
      go_round
      case rel => exact ⟨k + 1, by omega, by go_num, rfl⟩
      case measure => simp [intOf]; omega
    · obtain rfl : k = size := by omega
      go_wp2
      go_ret2
      exact ⟨rfl, rfl⟩

theorem number_out (A : Option Addr) (n c size : Nat) (at_ : Int) (low : Bool) (w : World) (hat : at_ < 0 ∨ (n : Int) - size < at_) (hs : size ≤ 8) (hl : n ≤ maxLen) :
    Calls Tryz.prog 47 #[.slice A n c, .int .i64 at_, .int .i64 (size : Int), .bool low] w fun e w' => e = .returned (.tuple #[.int .u64 0, .bool false]) ∧ w = w' := by
  unfold maxLen at hl
  by_cases h0 : at_ < 0
  · clear hat
    go_enter Tryz.func47, Tryz.ntmps47
    go_wp2
    go_ret2
    exact ⟨rfl, rfl⟩
  · have h1 : (n : Int) - size < at_ := by omega
    clear hat
    by_cases h2 : n < size
    · go_enter Tryz.func47, Tryz.ntmps47
      go_wp2
      go_ret2
      exact ⟨rfl, rfl⟩
    · go_enter Tryz.func47, Tryz.ntmps47
      go_wp2
      go_ret2
      exact ⟨rfl, rfl⟩

theorem number_any (l : List UInt8) (A : Option Addr) (c B : Nat) (at_ : Int) (size : Nat) (low : Bool) (hs : size ≤ 8) (w : World) (hl : l.length ≤ maxLen) (h : Lies w B 1 A l.length (u8s l)) :
    Calls Tryz.prog 47 #[.slice A l.length c, .int .i64 at_, .int .i64 (size : Int), .bool low] w fun e w' => e = .returned (.tuple #[.int .u64 (numOf l at_ size low : Nat), .bool (numHas l.length at_ size)]) ∧ w = w' := by
  by_cases hin : 0 ≤ at_ ∧ at_ + size ≤ l.length
  · obtain ⟨k, rfl⟩ := Int.eq_ofNat_of_zero_le hin.1
    have e1 : numHas l.length (k : Int) size = true := by simp only [numHas, decide_eq_true_eq]; exact hin
    cases low
    · have e2 : numOf l (k : Int) size false = accB (bAt l k) size := by rw [numOf, if_pos hin]; rfl
      rw [e1, e2]
      exact number_high l A c B k size hs w (by omega) hl h
    · have e2 : numOf l (k : Int) size true = accB (dnAt l k size) size := by rw [numOf, if_pos hin]; rfl
      rw [e1, e2]
      exact number_low l A c B k size hs w (by omega) hl h
  · have e1 : numHas l.length at_ size = false := by simp only [numHas, decide_eq_false_iff_not]; exact hin
    have e2 : numOf l at_ size low = 0 := by rw [numOf, if_neg hin]
    rw [e1, e2]
    exact number_out A l.length c size at_ low w (by omega) hs hl

end Go.Proofs.YtfeiplaiekbdkaaGreatDoor
/- The reference's KeyOf. -/
namespace Go.Proofs.YtfeiplaiekbdkaaGreatDoor
open Go.RowKit
attribute [local go_sem ↓ high] zeroV26 zeroKey

theorem numOf_lt (b : List UInt8) : numOf b 0 4 false < 4294967296 := by
  unfold numOf
  split
  · have := accB_lt (bAt b (0 : Int).toNat) 4
    simpa using this
  · decide
theorem lies_two {w : World} {B : Nat} {A : Option Addr} {n : Nat} {oid : Nat} {root seed : Nd} (h : Lies w B 1 A n (u8s (keyL oid root seed))) (hn : n = 68) : ∃ a, A = some a ∧ a.block < B ∧ (∀ i, i < 32 → w.cell? ((a.add 4).add i) = some (bys root i)) ∧ (∀ i, i < 32 → w.cell? ((a.add 36).add i) = some (bys seed i)) := by
  have hl := keyL_length oid root seed
  rw [hn, ← hl] at h
  have e : keyL oid root seed ≠ [] := fun e => by rw [e] at hl; cases hl
  obtain ⟨a, rfl, hab, -⟩ := h.2 (by rw [hl]; decide)
  unfold keyL at h e
  have h1 := (lies_left h e).2
  rw [numBytes_len] at h1
  have e2 : nodeL root ++ nodeL seed ≠ [] := fun e => by have h2 := congrArg List.length e; rw [List.length_append, nodeL_length, nodeL_length] at h2; cases h2
  obtain ⟨h2, h3⟩ := lies_left h1 e2
  rw [nodeL_length, addr_add_add] at h3
  obtain ⟨a1, e1, _, c1⟩ := lies_node h2
  obtain ⟨a2, e3, _, c2⟩ := lies_node (by rw [nodeL_length]; exact h3)
  injection e1 with e1
  injection e3 with e3
  subst e1 e3
  exact ⟨a, rfl, hab, c1, c2⟩
set_option maxHeartbeats 1000000 in
set_option maxRecDepth 100000 in
theorem rkeyOf_no : KeyNo 18 := by
  intro A c b w hbl hb hl
  have h0 : Arr (w.alloc (.cells (vec 65 (keyF 0 zb zb)) 33)) w.heap.size 33 65 (keyF 0 zb zb) := Arr.new w _ _ _
  have t1 : ((b.length : Int) != 68) = true := bne_iff_ne.2 (by omega)
  obtain ⟨n, hn⟩ : ∃ n, n = numOf b 0 4 false := ⟨_, rfl⟩
  have hn4 : n < 4294967296 := by rw [hn]; exact numOf_lt b
  have hwn : IntKind.u32.wrap (n : Int) = (n : Int) := by rw [IntKind.wrap_u32]; omega
  have HN := Lib.hid (fun W (h : Lies W w.heap.size 1 A b.length (u8s b)) => by have := number_any b A c w.heap.size 0 4 false (by decide) W (by unfold maxLen; omega) h; rw [← hn] at this; exact this)
  have HL := Lib.hid (hl.alloc (Nat.le_refl _) (.cells (vec 65 (keyF 0 zb zb)) 33))
  have HH := Lib.hid (fun W => rheight_any n hn4 W)
  clear hl hn
  go_enter Tryz.func18, Tryz.ntmps18
  go_wp2_with (first
    | (go_at_call 47; refine (HN.out _ HL.out).mono ?_; rintro e w1 ⟨rfl, hw1⟩; rw [← hw1]; clear hw1)
    | (go_at_call 27; refine (HH.out _).mono ?_; rintro e w1 ⟨rfl, hw1⟩; rw [← hw1]; clear hw1)
    | ((with_reducible show wpList _ _ _ (Oper.mk _ (.build _ _) _ _ _ _ :: _) _ _); refine wl_build rfl 33 _ rfl (vec 65 (keyF 0 zb zb)) (by kernel_rfl) ?_)
    | ((with_reducible show wpList _ _ _ (Oper.mk _ (.store _ _ _) _ _ _ _ :: _) _ _); refine wl_store rfl 33 _ _ rfl _ rfl _ rfl (run_store_arr h0 (keyF 0 zb zb) infoKey (keyF_one _ _ _ _)) ?_))
  exact bodyPost_ret (results_ct rfl _ _ _ rfl (run_load_arr (h0.row _) Tryz.underlying33 rfl infoKey)) rfl ⟨rfl, below_row ((Below.refl _ _).alloc (Nat.le_refl _) _) (Nat.le_refl _) _⟩

set_option maxHeartbeats 1000000 in
set_option maxRecDepth 100000 in
theorem rkeyOf_yes : KeyYes 18 := by
  intro A c oid root seed w hoid hc hl
  obtain ⟨V, hV⟩ : ∃ V, V = w.alloc (.cells (vec 65 (keyF 0 zb zb)) 33) := ⟨_, rfl⟩
  have h0 : Arr V w.heap.size 33 65 (keyF 0 zb zb) := by rw [hV]; exact Arr.new w _ _ _
  have hB : Below w.heap.size w V := by rw [hV]; exact (Below.refl _ _).alloc (Nat.le_refl _) _
  have hlV := (hl.below hB).wide hB.size
  obtain ⟨a, rfl, hab, -, -⟩ := lies_two hl rfl
  obtain ⟨a', e', -, c1, c2⟩ := lies_two hlV rfl
  injection e' with e'
  subst e'
  have hacc : numOf (keyL oid root seed) 0 4 false = oid := by
    unfold numOf
    rw [if_pos (by rw [keyL_length]; decide)]
    exact acc_num oid hoid _
  have hnum := number_any (keyL oid root seed) (some a) c V.heap.size 0 4 false (by decide) V (by rw [keyL_length]; decide) (by rw [keyL_length]; exact hlV)
  rw [keyL_length, hacc] at hnum
  have HN := Lib.hid hnum
  have i36 : (36 : Int) ≤ (c : Int) := by omega
  have i4 : ¬ c = 4 := by omega
  have j36 : ¬ c = 36 := by omega
  have hwn : IntKind.u32.wrap (oid : Int) = (oid : Int) := by rw [IntKind.wrap_u32]; omega
  have HA := Lib.hid (And.intro h0 hB)
  have HC := Lib.hid (And.intro hab (And.intro c1 c2))
  have HW := Lib.hid hV
  have HH := Lib.hid (fun W => rheight_any oid hoid W)
  have HE : Hid (keyR oid root seed = (if isO oid then keyF (oid : Int) root seed else keyF 0 zb zb) ∧ keyE oid = if isO oid then 0 else 80) := Lib.hid ⟨rfl, rfl⟩
  obtain ⟨kr, hkr⟩ : ∃ kr, kr = keyR oid root seed := ⟨_, rfl⟩
  obtain ⟨ke, hke⟩ : ∃ ke, ke = keyE oid := ⟨_, rfl⟩
  obtain ⟨is, his⟩ : ∃ is, is = isO oid := ⟨_, rfl⟩
  rw [← hkr, ← hke, ← his] at HE
  rw [← hkr, ← hke]
  rw [← his] at HH
  obtain ⟨ht, hht⟩ : ∃ ht, ht = hgtO oid := ⟨_, rfl⟩
  rw [← hht] at HH
  clear hV h0 hB hlV hab c1 c2 hnum hacc hkr hke his hht hl
  cases is
  · have hk := HE.out
    rw [if_neg (by decide), if_neg (by decide)] at hk
    obtain ⟨rfl, rfl⟩ := hk
    clear HE
    go_enter Tryz.func18, Tryz.ntmps18
    go_upto_region 1 with fail
    rw [← HW.out]
    clear HW
    go_wp2_with (first
      | (go_at_call 47; refine HN.out.mono ?_; rintro e w1 ⟨rfl, hw1⟩; rw [← hw1]; clear hw1)
      | (go_at_call 27; refine (HH.out _).mono ?_; rintro e w1 ⟨rfl, hw1⟩; rw [← hw1]; clear hw1)
      | ((with_reducible show wpList _ _ _ (Oper.mk _ (.build _ _) _ _ _ _ :: _) _ _); refine wl_build rfl 33 _ rfl (vec 65 (keyF 0 zb zb)) (by kernel_rfl) ?_)
      | ((with_reducible show wpList _ _ _ (Oper.mk _ (.store _ _ _) _ _ _ _ :: _) _ _); refine wl_store rfl 33 _ _ rfl _ rfl _ rfl (run_store_arr HA.out.1 (keyF 0 zb zb) infoKey (keyF_one _ _ _ _)) ?_))
    exact bodyPost_ret (results_ct rfl _ _ _ rfl (run_load_arr (HA.out.1.row _) Tryz.underlying33 rfl infoKey)) rfl ⟨rfl, below_row HA.out.2 (Nat.le_refl _) _⟩
  · have hk := HE.out
    rw [if_pos rfl, if_pos rfl] at hk
    obtain ⟨rfl, rfl⟩ := hk
    clear HE
    go_enter Tryz.func18, Tryz.ntmps18
    go_upto_region 1 with fail
    rw [← HW.out]
    clear HW
    go_upto_region 5 with (first
      | (go_at_call 47; refine HN.out.mono ?_; rintro e w1 ⟨rfl, hw1⟩; rw [← hw1]; clear hw1)
      | (go_at_call 27; refine (HH.out _).mono ?_; rintro e w1 ⟨rfl, hw1⟩; rw [← hw1]; clear hw1))
    refine wp_region_held_drew (S := fun Y => Save w.heap.size V Y ∧ ∃ f, Arr Y w.heap.size 33 65 f) (by kernel_rfl) ⟨Save.of_below (VS.begin V), _, HA.out.1⟩ (fun hS => ?_)
    (refine held_take (i := 0) (oi := ?ot1) (v := ?vt1) ?at1 (by kernel_rfl) (by kernel_rfl) (by kernel_rfl) ?bt1 ?ct1 ?dt1 (by assumption) ?rt1; (case at1 => (simp only [List.getElem?_toArray, List.getElem?_cons_zero]; rfl)); (case bt1 => exact fun _ _ _ h => h); (case ct1 => kernel_rfl); (case dt1 => (intro W hW; (try dsimp only at hW); go_split_ands; go_simp; (try with_reducible rfl))); (case' rt1 => simp only [Act.put, List.setIfInBounds_toArray, List.set_cons_zero, List.set_cons_succ]))
    (refine held_take (i := 1) (oi := ?ot2) (v := .int .u32 (oid : Int)) ?at2 (by kernel_rfl) (by kernel_rfl) (by kernel_rfl) ?bt2 ?ct2 ?dt2 (by assumption) ?rt2; (case at2 => (simp only [List.getElem?_toArray, List.getElem?_cons_zero, List.getElem?_cons_succ]; rfl)); (case bt2 => exact fun _ _ _ h => h); (case ct2 => kernel_rfl); (case dt2 => (intro W hW; (try dsimp only at hW); go_simp; (try with_reducible rfl))); (case' rt2 => simp only [Act.put, List.setIfInBounds_toArray, List.set_cons_zero, List.set_cons_succ]))
    (refine held_take (i := 2) (oi := ?ot3) (v := ?vt3) ?at3 (by kernel_rfl) (by kernel_rfl) (by kernel_rfl) ?bt3 ?ct3 ?dt3 (by assumption) ?rt3; (case at3 => (simp only [List.getElem?_toArray, List.getElem?_cons_zero, List.getElem?_cons_succ]; rfl)); (case bt3 => exact fun _ _ _ h => h); (case ct3 => kernel_rfl); (case dt3 => (intro W hW; (try dsimp only at hW); go_split_ands; go_simp; (try with_reducible rfl))); (case' rt3 => simp only [Act.put, List.setIfInBounds_toArray, List.set_cons_zero, List.set_cons_succ]))
    (refine held_take (i := 3) (oi := ?ot4) (v := .slice (some (a.add 4)) 32 (c - 4)) ?at4 (by kernel_rfl) (by kernel_rfl) (by kernel_rfl) ?bt4 ?ct4 ?dt4 (by assumption) ?rt4; (case at4 => (simp only [List.getElem?_toArray, List.getElem?_cons_zero, List.getElem?_cons_succ]; rfl)); (case bt4 => exact fun _ _ _ h => h); (case ct4 => kernel_rfl); (case dt4 => (intro W hW; clear hW; go_simp; (try with_reducible rfl); (try (intro h; omega)))); (case' rt4 => simp only [Act.put, List.setIfInBounds_toArray, List.set_cons_zero, List.set_cons_succ]))
    (refine held_take (i := 4) (oi := ?ot5) (v := .pointer (some (a.add 4))) ?at5 (by kernel_rfl) (by kernel_rfl) (by kernel_rfl) ?bt5 ?ct5 ?dt5 (by assumption) ?rt5; (case at5 => (simp only [List.getElem?_toArray, List.getElem?_cons_zero, List.getElem?_cons_succ]; rfl)); (case bt5 => exact fun _ _ _ h => h); (case ct5 => kernel_rfl); (case dt5 => (intro W hW; clear hW; have har := arr_at_q ⟨a.block, a.off + 4, none⟩ (c - 4) W; go_simp; (try with_reducible rfl))); (case' rt5 => simp only [Act.put, List.setIfInBounds_toArray, List.set_cons_zero, List.set_cons_succ]))
    (refine held_take (i := 5) (oi := ?ot6) (v := .agg (vec 32 (bys root))) ?at6 (by kernel_rfl) (by kernel_rfl) (by kernel_rfl) ?bt6 ?ct6 ?dt6 (by assumption) ?rt6; (case at6 => (simp only [List.getElem?_toArray, List.getElem?_cons_zero, List.getElem?_cons_succ]; rfl)); (case bt6 => exact fun _ _ _ h => h); (case ct6 => kernel_rfl); (case dt6 => (intro W hW; exact exec_load_p 30 _ rfl (a.add 4) rfl _ (load_p fun i hi => (hW.1.cell (p := (a.add 4).add i) (by rw [addr_add_block, addr_add_block]; exact Nat.lt_of_lt_of_le HC.out.1 HA.out.2.size) (by rw [addr_add_block, addr_add_block]; exact Nat.ne_of_lt HC.out.1)).trans (HC.out.2.1 i hi)))); (case' rt6 => simp only [Act.put, List.setIfInBounds_toArray, List.set_cons_zero, List.set_cons_succ]))
    (refine held_take (i := 6) (oi := ?ot7) (v := ?vt7) ?at7 (by kernel_rfl) (by kernel_rfl) (by kernel_rfl) ?bt7 ?ct7 ?dt7 (by assumption) ?rt7; (case at7 => (simp only [List.getElem?_toArray, List.getElem?_cons_zero, List.getElem?_cons_succ]; rfl)); (case bt7 => exact fun _ _ _ h => h); (case ct7 => kernel_rfl); (case dt7 => (intro W hW; (try dsimp only at hW); go_split_ands; go_simp; (try with_reducible rfl))); (case' rt7 => simp only [Act.put, List.setIfInBounds_toArray, List.set_cons_zero, List.set_cons_succ]))
    (refine held_take (i := 7) (oi := ?ot8) (v := .slice (some (a.add 36)) 32 (c - 36)) ?at8 (by kernel_rfl) (by kernel_rfl) (by kernel_rfl) ?bt8 ?ct8 ?dt8 (by assumption) ?rt8; (case at8 => (simp only [List.getElem?_toArray, List.getElem?_cons_zero, List.getElem?_cons_succ]; rfl)); (case bt8 => exact fun _ _ _ h => h); (case ct8 => kernel_rfl); (case dt8 => (intro W hW; clear hW; go_simp; (try with_reducible rfl); (try (intro h; omega)))); (case' rt8 => simp only [Act.put, List.setIfInBounds_toArray, List.set_cons_zero, List.set_cons_succ]))
    (refine held_take (i := 8) (oi := ?ot9) (v := .pointer (some (a.add 36))) ?at9 (by kernel_rfl) (by kernel_rfl) (by kernel_rfl) ?bt9 ?ct9 ?dt9 (by assumption) ?rt9; (case at9 => (simp only [List.getElem?_toArray, List.getElem?_cons_zero, List.getElem?_cons_succ]; rfl)); (case bt9 => exact fun _ _ _ h => h); (case ct9 => kernel_rfl); (case dt9 => (intro W hW; clear hW; have har := arr_at_q ⟨a.block, a.off + 36, none⟩ (c - 36) W; go_simp; (try with_reducible rfl))); (case' rt9 => simp only [Act.put, List.setIfInBounds_toArray, List.set_cons_zero, List.set_cons_succ]))
    (refine held_take (i := 9) (oi := ?ot10) (v := .agg (vec 32 (bys seed))) ?at10 (by kernel_rfl) (by kernel_rfl) (by kernel_rfl) ?bt10 ?ct10 ?dt10 (by assumption) ?rt10; (case at10 => (simp only [List.getElem?_toArray, List.getElem?_cons_zero, List.getElem?_cons_succ]; rfl)); (case bt10 => exact fun _ _ _ h => h); (case ct10 => kernel_rfl); (case dt10 => (intro W hW; exact exec_load_p 30 _ rfl (a.add 36) rfl _ (load_p fun i hi => (hW.1.cell (p := (a.add 36).add i) (by rw [addr_add_block, addr_add_block]; exact Nat.lt_of_lt_of_le HC.out.1 HA.out.2.size) (by rw [addr_add_block, addr_add_block]; exact Nat.ne_of_lt HC.out.1)).trans (HC.out.2.2 i hi)))); (case' rt10 => simp only [Act.put, List.setIfInBounds_toArray, List.set_cons_zero, List.set_cons_succ]))
    (refine held_take (i := 10) (oi := ?ot11) (v := .agg (vec 65 (keyF (oid : Int) root seed))) ?at11 (by kernel_rfl) (by kernel_rfl) (by kernel_rfl) ?bt11 ?ct11 ?dt11 (by assumption) ?rt11; (case at11 => (simp only [List.getElem?_toArray, List.getElem?_cons_zero, List.getElem?_cons_succ]; rfl)); (case bt11 => exact fun _ _ _ h => h); (case ct11 => kernel_rfl); (case dt11 => (intro W hW; exact exec_build 33 _ rfl (vec 65 (keyF (oid : Int) root seed)) (by kernel_rfl) W)); (case' rt11 => simp only [Act.put, List.setIfInBounds_toArray, List.set_cons_zero, List.set_cons_succ]))
    refine held_one (i := 11) (oi := ?ot12) (by kernel_rfl) ?at12 ?ct12 (fun K11 hK11 => ?_)
    (case at12 => (simp only [List.getElem?_toArray, List.getElem?_cons_zero, List.getElem?_cons_succ]; rfl))
    (case ct12 => kernel_rfl)
    obtain ⟨fR, hR⟩ := hS.2
    refine ow_store 33 _ _ rfl _ rfl _ rfl (run_store_arr hR (keyF (oid : Int) root seed) infoKey (keyF_one _ _ _ _)) ?_
    have hRR := hR.row (keyF (oid : Int) root seed)
    refine hK11 _ _ ⟨hS.1.setRow _, _, hRR⟩ (fun hS11 => ?_)
    have HF := Lib.hid hRR
    clear hK11 K11 hRR
    (refine held_take (i := 12) (oi := ?ot13) (v := ?vt13) ?at13 (by kernel_rfl) (by kernel_rfl) (by kernel_rfl) ?bt13 ?ct13 ?dt13 (by assumption) ?rt13; (case at13 => (simp only [List.getElem?_toArray, List.getElem?_cons_zero, List.getElem?_cons_succ]; rfl)); (case bt13 => exact fun _ _ _ h => h); (case ct13 => kernel_rfl); (case dt13 => (intro W hW; (try dsimp only at hW); go_split_ands; go_simp; (try with_reducible rfl))); (case' rt13 => simp only [Act.put, List.setIfInBounds_toArray, List.set_cons_zero, List.set_cons_succ]))
    refine wpAnyH_done (by kernel_rfl) ?_ _
    go_wp2
    exact bodyPost_ret (results_ct rfl _ _ _ rfl (run_load_arr HF.out Tryz.underlying33 rfl infoKey)) rfl ⟨rfl, HA.out.2.trans (hS11.1.below (Nat.le_refl _) HA.out.2.size)⟩
end Go.Proofs.YtfeiplaiekbdkaaGreatDoor
/- What both KeyOf answer. -/
namespace Go.Proofs.YtfeiplaiekbdkaaGreatDoor
open Go.RowKit

/-- What both KeyOf answer of bytes. -/
def KeyBoth (F : Nat) (b : List UInt8) (o : Nat) (r s : Nd) (k : Nat) : Prop := ∀ (A : Option Addr) (c : Nat) (W : World), b.length ≤ c → Lies W W.heap.size 1 A b.length (u8s b) →
  Calls Tryz.prog F #[.slice A b.length c] W fun e W' => e = .returned (.tuple #[.agg (vec 65 (keyF (o : Int) r s)), .int .i64 ((k : Nat) : Int)]) ∧ Below W.heap.size W W'
theorem keyR_form (oid : Nat) (hoid : oid < 4294967296) (root seed : Nd) : ∃ o r s, o < 4294967296 ∧ keyR oid root seed = keyF ((o : Nat) : Int) r s := by
  unfold keyR
  split
  · exact ⟨oid, root, seed, hoid, rfl⟩
  · exact ⟨0, zb, zb, by decide, rfl⟩
theorem keyOf_both (b : List UInt8) (hb : b.length ≤ 3000) : ∃ o r s k, o < 4294967296 ∧ KeyBoth 13 b o r s k ∧ KeyBoth 18 b o r s k := by
  by_cases h : b.length = 68
  · obtain ⟨oid, root, seed, hoid, rfl⟩ := key_of b h
    obtain ⟨o, r, s, ho, e⟩ := keyR_form oid hoid root seed
    refine ⟨o, r, s, keyE oid, ho, fun A c W hc hl => ?_, fun A c W hc hl => ?_⟩
    · rw [keyL_length] at hc hl ⊢
      rw [← e]; exact keyOf_yes A c oid root seed W hoid hc hl
    · rw [keyL_length] at hc hl ⊢
      rw [← e]; exact rkeyOf_yes A c oid root seed W hoid hc hl
  · exact ⟨0, zb, zb, 80, by decide, fun A c W _ hl => keyOf_no A c b W hb h hl, fun A c W _ hl => rkeyOf_no A c b W hb h hl⟩

end Go.Proofs.YtfeiplaiekbdkaaGreatDoor
/- A signature with its height. -/
namespace Go.Proofs.YtfeiplaiekbdkaaGreatDoor
open Go.RowKit
attribute [local go_sem ↓ high] zeroV26 zeroSig

/-- The cells of a signature with its height. -/
def szF (idx : Int) (r : Nd) (v1 v2 : Value) (h : Int) : Nat → Value := fun i => if i < 35 then sigF idx r v1 v2 i else .int .i64 h
theorem szF_low (idx : Int) (r : Nd) (v1 v2 : Value) (h : Int) (i : Nat) (hi : i < 35) : szF idx r v1 v2 h i = sigF idx r v1 v2 i := if_pos hi
theorem szF_one (idx : Int) (r : Nd) (v1 v2 : Value) (h : Int) (h1 : v1.oneCell' = true) (h2 : v2.oneCell' = true) (n : Nat) : ∀ i, i < n → (szF idx r v1 v2 h i).oneCell' = true := by
  intro i hi
  unfold szF
  split
  · exact sigF_one idx r v1 v2 h1 h2 n i hi
  · rfl
theorem infoSz : (Tryz.prog.info? 58).map (·.size) = some 36 := by kernel_rfl
theorem zeroSz (w : World) : (zeroValue 58).run Tryz.prog w = .ok (.agg (vec 36 (szF 0 zb (.slice none 0 0) (.slice none 0 0) 0))) w :=
  (zero_of_info (P := Tryz.prog) (t := 58) (v := .agg (vec 36 (szF 0 zb (.slice none 0 0) (.slice none 0 0) 0))) (n := 36) (by kernel_rfl)).1 w
attribute [local go_sem ↓ high] zeroSz
/-- A slice of so many nodes. -/
abbrev slN (A : Option Addr) (n c : Nat) : Value := .slice A n c
set_option maxRecDepth 100000 in
theorem ownN_save {w w' : World} {base g : Nat} {v : Value} {l : List Nd} (h : OwnN w base v l) (hs : Save g w w') (hg : g < base) : OwnN w' base v l := by
  refine ⟨h.1, ?_⟩
  rcases h.2 with h2 | ⟨r, cap, cur, hv, hr, hh, rr⟩
  · exact Or.inl h2
  · exact Or.inr ⟨r, cap, cur, hv, hr, (hs.block r (Array.getElem?_eq_some_iff.1 hh).1 (by omega)).trans hh, rr⟩
theorem ownN_at {w : World} {base n c : Nat} {A : Option Addr} {l : List Nd} (h : OwnN w base (.slice A n c) l) : NRow w w.heap.size A l := by
  obtain ⟨B, d, e, -, r⟩ := h.row
  injection e with eA _ _
  rw [eA]; exact r
/-- The first 35 cells of a signature with its height are the signature. -/
theorem load_sig {w : World} {g : Nat} {t : TypeId} {idx : Int} {r : Nd} {v1 v2 : Value} {h : Int} (ha : Arr w g t 36 (szF idx r v1 v2 h)) : (loadVar 46 ⟨g, 0, none⟩).run Tryz.prog w = .ok (.agg (vec 35 (sigF idx r v1 v2))) w :=
  run_load_cells (n := 35) (f := sigF idx r v1 v2) (fun i hi => (ha.cell (by omega)).trans (by rw [szF_low _ _ _ _ _ _ hi])) Tryz.underlying46 rfl infoSig
end Go.Proofs.YtfeiplaiekbdkaaGreatDoor
/- placed, whole. -/
namespace Go.Proofs.YtfeiplaiekbdkaaGreatDoor
open Go.RowKit
attribute [local go_sem ↓ high] zeroV26 zeroSig zeroSz

section
variable {w : World} {g : Nat} {t : TypeId} {idx : Int} {r : Nd} {v1 v2 : Value} {h : Int}
theorem sz_idx (ha : Arr w g t 36 (szF idx r v1 v2 h)) : w.cell? ⟨g, 0, none⟩ = some (.int .u32 idx) := ha.cell (i := 0) (by decide)
theorem sz_v1 (ha : Arr w g t 36 (szF idx r v1 v2 h)) : w.cell? ⟨g, 33, none⟩ = some v1 := ha.cell (i := 33) (by decide)
theorem sz_v2 (ha : Arr w g t 36 (szF idx r v1 v2 h)) : w.cell? ⟨g, 34, none⟩ = some v2 := ha.cell (i := 34) (by decide)
theorem sz_h (ha : Arr w g t 36 (szF idx r v1 v2 h)) : w.cell? ⟨g, 35, none⟩ = some (.int .i64 h) := ha.cell (i := 35) (by decide)
end
/-- Is there such a leaf, and a neighbour at each height? -/
def plcd (idx h n2 : Nat) : Bool := decide (idx < 2 ^ h) && decide (n2 = h)
set_option maxHeartbeats 1000000 in
set_option maxRecDepth 100000 in
theorem szPlaced_10 (idx : Nat) (hidx : idx < 4294967296) (r : Nd) (v1 : Value) (A2 : Option Addr) (n2 c2 : Nat) (w : World) :
    Calls Tryz.prog 25 #[.agg (vec 36 (szF (idx : Int) r v1 (.slice A2 n2 c2) 10))] w fun e w' => e = .returned (.bool (plcd idx 10 n2)) ∧ Below w.heap.size w w' := by
  obtain ⟨V, hV⟩ : ∃ V, V = w.alloc (.cells (vec 36 (szF (idx : Int) r v1 (.slice A2 n2 c2) 10)) 58) := ⟨_, rfl⟩
  have h0 : Arr V w.heap.size 58 36 (szF (idx : Int) r v1 (.slice A2 n2 c2) 10) := by rw [hV]; exact Arr.new w _ _ _
  have hB : Below w.heap.size w V := by rw [hV]; exact (Below.refl _ _).alloc (Nat.le_refl _) _
  have c0 := sz_idx h0
  have c34 := sz_v2 h0
  have c35 := sz_h h0
  have HB := Lib.hid hB
  have HW := Lib.hid hV
  clear hV h0 hB
  by_cases hi : idx < 1024
  · have e1 : ((idx : Int) / 1024 == 0) = true := by simp; omega
    have e2 : plcd idx 10 n2 = decide (n2 = 10) := by
      unfold plcd
      rw [decide_eq_true (show idx < 2 ^ 10 from hi), Bool.true_and]
    have e3 : ((n2 : Int) == 10) = decide (n2 = 10) := by
      by_cases h : n2 = 10
      · subst h; rfl
      · rw [decide_eq_false h]; simp; omega
    obtain ⟨q, hq⟩ : ∃ q, q = decide (n2 = 10) := ⟨_, rfl⟩
    rw [← hq] at e2 e3
    rw [e2]
    clear hq e2
    go_enter Tryz.func25, Tryz.ntmps25
    go_upto_region 1 with fail
    rw [← HW.out]
    clear HW
    go_wp2
    go_ret
    exact ⟨rfl, HB.out⟩
  · have e1 : ((idx : Int) / 1024 == 0) = false := by simp; omega
    have e2 : plcd idx 10 n2 = false := by
      unfold plcd
      rw [decide_eq_false (show ¬ idx < 2 ^ 10 from hi), Bool.false_and]
    rw [e2]
    clear e2
    go_enter Tryz.func25, Tryz.ntmps25
    go_upto_region 1 with fail
    rw [← HW.out]
    clear HW
    go_wp2
    go_ret
    exact ⟨rfl, HB.out⟩
set_option maxHeartbeats 1000000 in
set_option maxRecDepth 100000 in
theorem szPlaced_16 (idx : Nat) (hidx : idx < 4294967296) (r : Nd) (v1 : Value) (A2 : Option Addr) (n2 c2 : Nat) (w : World) :
    Calls Tryz.prog 25 #[.agg (vec 36 (szF (idx : Int) r v1 (.slice A2 n2 c2) 16))] w fun e w' => e = .returned (.bool (plcd idx 16 n2)) ∧ Below w.heap.size w w' := by
  obtain ⟨V, hV⟩ : ∃ V, V = w.alloc (.cells (vec 36 (szF (idx : Int) r v1 (.slice A2 n2 c2) 16)) 58) := ⟨_, rfl⟩
  have h0 : Arr V w.heap.size 58 36 (szF (idx : Int) r v1 (.slice A2 n2 c2) 16) := by rw [hV]; exact Arr.new w _ _ _
  have hB : Below w.heap.size w V := by rw [hV]; exact (Below.refl _ _).alloc (Nat.le_refl _) _
  have c0 := sz_idx h0
  have c34 := sz_v2 h0
  have c35 := sz_h h0
  have HB := Lib.hid hB
  have HW := Lib.hid hV
  clear hV h0 hB
  by_cases hi : idx < 65536
  · have e1 : ((idx : Int) / 65536 == 0) = true := by simp; omega
    have e2 : plcd idx 16 n2 = decide (n2 = 16) := by
      unfold plcd
      rw [decide_eq_true (show idx < 2 ^ 16 from hi), Bool.true_and]
    have e3 : ((n2 : Int) == 16) = decide (n2 = 16) := by
      by_cases h : n2 = 16
      · subst h; rfl
      · rw [decide_eq_false h]; simp; omega
    obtain ⟨q, hq⟩ : ∃ q, q = decide (n2 = 16) := ⟨_, rfl⟩
    rw [← hq] at e2 e3
    rw [e2]
    clear hq e2
    go_enter Tryz.func25, Tryz.ntmps25
    go_upto_region 1 with fail
    rw [← HW.out]
    clear HW
    go_wp2
    go_ret
    exact ⟨rfl, HB.out⟩
  · have e1 : ((idx : Int) / 65536 == 0) = false := by simp; omega
    have e2 : plcd idx 16 n2 = false := by
      unfold plcd
      rw [decide_eq_false (show ¬ idx < 2 ^ 16 from hi), Bool.false_and]
    rw [e2]
    clear e2
    go_enter Tryz.func25, Tryz.ntmps25
    go_upto_region 1 with fail
    rw [← HW.out]
    clear HW
    go_wp2
    go_ret
    exact ⟨rfl, HB.out⟩
set_option maxHeartbeats 1000000 in
set_option maxRecDepth 100000 in
theorem szPlaced_20 (idx : Nat) (hidx : idx < 4294967296) (r : Nd) (v1 : Value) (A2 : Option Addr) (n2 c2 : Nat) (w : World) :
    Calls Tryz.prog 25 #[.agg (vec 36 (szF (idx : Int) r v1 (.slice A2 n2 c2) 20))] w fun e w' => e = .returned (.bool (plcd idx 20 n2)) ∧ Below w.heap.size w w' := by
  obtain ⟨V, hV⟩ : ∃ V, V = w.alloc (.cells (vec 36 (szF (idx : Int) r v1 (.slice A2 n2 c2) 20)) 58) := ⟨_, rfl⟩
  have h0 : Arr V w.heap.size 58 36 (szF (idx : Int) r v1 (.slice A2 n2 c2) 20) := by rw [hV]; exact Arr.new w _ _ _
  have hB : Below w.heap.size w V := by rw [hV]; exact (Below.refl _ _).alloc (Nat.le_refl _) _
  have c0 := sz_idx h0
  have c34 := sz_v2 h0
  have c35 := sz_h h0
  have HB := Lib.hid hB
  have HW := Lib.hid hV
  clear hV h0 hB
  by_cases hi : idx < 1048576
  · have e1 : ((idx : Int) / 1048576 == 0) = true := by simp; omega
    have e2 : plcd idx 20 n2 = decide (n2 = 20) := by
      unfold plcd
      rw [decide_eq_true (show idx < 2 ^ 20 from hi), Bool.true_and]
    have e3 : ((n2 : Int) == 20) = decide (n2 = 20) := by
      by_cases h : n2 = 20
      · subst h; rfl
      · rw [decide_eq_false h]; simp; omega
    obtain ⟨q, hq⟩ : ∃ q, q = decide (n2 = 20) := ⟨_, rfl⟩
    rw [← hq] at e2 e3
    rw [e2]
    clear hq e2
    go_enter Tryz.func25, Tryz.ntmps25
    go_upto_region 1 with fail
    rw [← HW.out]
    clear HW
    go_wp2
    go_ret
    exact ⟨rfl, HB.out⟩
  · have e1 : ((idx : Int) / 1048576 == 0) = false := by simp; omega
    have e2 : plcd idx 20 n2 = false := by
      unfold plcd
      rw [decide_eq_false (show ¬ idx < 2 ^ 20 from hi), Bool.false_and]
    rw [e2]
    clear e2
    go_enter Tryz.func25, Tryz.ntmps25
    go_upto_region 1 with fail
    rw [← HW.out]
    clear HW
    go_wp2
    go_ret
    exact ⟨rfl, HB.out⟩
theorem szPlaced_any (idx : Nat) (hidx : idx < 4294967296) (r : Nd) (v1 : Value) (A2 : Option Addr) (n2 c2 h : Nat) (hh : h = 10 ∨ h = 16 ∨ h = 20) (w : World) :
    Calls Tryz.prog 25 #[.agg (vec 36 (szF (idx : Int) r v1 (.slice A2 n2 c2) (h : Int)))] w fun e w' => e = .returned (.bool (plcd idx h n2)) ∧ Below w.heap.size w w' := by
  rcases hh with rfl | rfl | rfl
  · exact szPlaced_10 idx hidx r v1 A2 n2 c2 w
  · exact szPlaced_16 idx hidx r v1 A2 n2 c2 w
  · exact szPlaced_20 idx hidx r v1 A2 n2 c2 w
set_option maxHeartbeats 1000000 in
set_option maxRecDepth 100000 in
theorem whole_any (idx : Nat) (hidx : idx < 4294967296) (r : Nd) (A1 : Option Addr) (n1 c1 : Nat) (A2 : Option Addr) (n2 c2 h : Nat) (hh : h = 10 ∨ h = 16 ∨ h = 20) (w : World) :
    Calls Tryz.prog 38 #[.agg (vec 36 (szF (idx : Int) r (.slice A1 n1 c1) (.slice A2 n2 c2) (h : Int)))] w fun e w' => e = .returned (.bool (plcd idx h n2 && decide (n1 = 67))) ∧ Below w.heap.size w w' := by
  obtain ⟨V, hV⟩ : ∃ V, V = w.alloc (.cells (vec 36 (szF (idx : Int) r (.slice A1 n1 c1) (.slice A2 n2 c2) (h : Int))) 58) := ⟨_, rfl⟩
  have h0 : Arr V w.heap.size 58 36 (szF (idx : Int) r (.slice A1 n1 c1) (.slice A2 n2 c2) (h : Int)) := by rw [hV]; exact Arr.new w _ _ _
  have hB : Below w.heap.size w V := by rw [hV]; exact (Below.refl _ _).alloc (Nat.le_refl _) _
  have HA := Lib.hid (And.intro h0 hB)
  have HW := Lib.hid hV
  have HP := Lib.hid (fun W => szPlaced_any idx hidx r (.slice A1 n1 c1) A2 n2 c2 h hh W)
  obtain ⟨p, hp⟩ : ∃ p, p = plcd idx h n2 := ⟨_, rfl⟩
  rw [← hp] at HP ⊢
  clear hV h0 hB hp
  have e3 : ((n1 : Int) == 67) = decide (n1 = 67) := by
    by_cases h : n1 = 67
    · subst h; rfl
    · rw [decide_eq_false h]; simp; omega
  obtain ⟨q, hq⟩ : ∃ q, q = decide (n1 = 67) := ⟨_, rfl⟩
  rw [← hq] at e3 ⊢
  clear hq
  cases p
  all_goals
    go_enter Tryz.func38, Tryz.ntmps38
    go_upto_region 1 with fail
    rw [← HW.out]
    clear HW
    go_wp2_with (first
      | ((with_reducible show wpList _ _ _ (Oper.mk _ (.load 58 _) _ _ _ _ :: _) _ _); refine wl_load rfl 58 _ rfl _ rfl _ (run_load_arr HA.out.1 Tryz.underlying58 rfl infoSz) ?_)
      | (go_at_call 25; refine (HP.out _).mono ?_; rintro e w1 ⟨rfl, hd⟩; have c33 := sz_v1 (HA.out.1.under hd); have HD := Lib.hid (HA.out.2.trans (hd.mono HA.out.2.size)); clear hd))
    go_ret
    exact ⟨rfl, HD.out⟩
end Go.Proofs.YtfeiplaiekbdkaaGreatDoor
/- The cutter's nodes. -/
namespace Go.Proofs.YtfeiplaiekbdkaaGreatDoor
open Go.RowKit
attribute [local go_sem ↓ high] zeroV26

theorem make_nodes (n : Nat) (hn : n ≤ 1000) : ∃ C : Array Value, C.size = n * 32 ∧ ∀ w : World, (Instr.makeSlice 31 (.int .i64 0) (.int .i64 (n : Int))).run Tryz.prog w = .ok (.slice (some ⟨w.heap.size, 0, none⟩) 0 n) (w.alloc (.cells C 30)) := by
  obtain ⟨i0, hi, hz0, hz1, hz2⟩ := info_parts infoN
  refine ⟨madeCells (Value.agg (vec 32 (bys zb))).cells (n * 32), size_madeCells _ _, fun w => ?_⟩
  have h := run_make (P := Tryz.prog) (w := w) 31 30 i0 (.agg (vec 32 (bys zb))) Tryz.underlying31 hi hz0 .i64 .i64 0 (n : Int) (by omega) (by omega) (by rw [hz2]; omega) (by omega)
  rw [hz1] at h
  simpa using h
theorem made_nodes (w : World) (n : Nat) (hn : n ≤ 1000) (C : Array Value) (hC : C.size = n * 32) : (w.alloc (.cells C 30)).ownsRow w.heap.size 30 32 (.slice (some ⟨w.heap.size, 0, none⟩) 0 n) 0 [] :=
  ⟨rfl, .inr ⟨w.heap.size, n, C, rfl, Nat.le_refl _, heap_alloc_new w _, Nat.zero_le _, by unfold maxLen; omega, hC, by simp⟩⟩

/-- What a round of nodes keeps. -/
structure NC (w : World) (B g : Nat) (ls : List Nd) (l2 : List UInt8) (k : Nat) (v : Value) (W : World) : Prop where
  cut : CutAt W B g (nodesL (ls.drop k) ++ l2)
  row : OwnN W w.heap.size v (ls.take k)
  save : Save g w W
set_option maxHeartbeats 1000000 in
set_option maxRecDepth 100000 in
theorem nodes_cut (ls : List Nd) (hn : ls.length ≤ 1000) (l2 : List UInt8) (B g : Nat) (w : World) (h : CutAt w B g (nodesL ls ++ l2)) :
    Calls Tryz.prog 60 #[cutV g, .int .i64 (ls.length : Int)] w fun e w' => ∃ v, e = .returned v ∧ OwnN w' w.heap.size v ls ∧ CutAt w' B g l2 ∧ Save g w w' := by
  obtain ⟨C, hC, hmk⟩ := make_nodes ls.length hn
  have hO := made_nodes w ls.length hn C hC
  obtain ⟨V, hV⟩ : ∃ V, V = w.alloc (.cells C 30) := ⟨_, rfl⟩
  have hB : Below w.heap.size w V := by rw [hV]; exact (Below.refl _ _).alloc (Nat.le_refl _) _
  rw [← hV] at hO
  have HI : Hid (NC w B g ls l2 0 (.slice (some ⟨w.heap.size, 0, none⟩) 0 ls.length) V) := Lib.hid ⟨by rw [List.drop_zero]; exact h.on hB h.lt, by rw [List.take_zero]; exact hO, (Save.refl g w).on hB (Nat.le_refl _)⟩
  have HG := Lib.hid h.lt
  have hmk1 := hmk w
  rw [← hV] at hmk1
  clear hV hB hO h hmk hC
  unfold cutV
  go_enter Tryz.func60, Tryz.ntmps60
  go_wp2
  go_loopw [5, 9] (fun v j W => ∃ k : Nat, k ≤ ls.length ∧ j = .int .i64 k ∧ Hid (NC w B g ls l2 k v W)) (fun _ i _ => ls.length - (intOf i).toNat)
  case atStart => exact ⟨0, Nat.zero_le _, rfl, HI⟩
  case round =>
    obtain ⟨k, hk, rfl, hQ⟩ := hrel
    clear hmk1
    by_cases hlt : k < ls.length
    · have hkI : (k : Int) < (ls.length : Int) := by omega
      have hcut := hQ.out.cut
      obtain ⟨f, hf⟩ : ∃ f, f = ls[k] := ⟨_, rfl⟩
      rw [List.drop_eq_getElem_cons hlt, ← hf, nodesL_cons, List.append_assoc] at hcut
      have HC := Lib.hid hcut
      have HT : Hid (ls.take (k + 1) = ls.take k ++ [f]) := Lib.hid (by rw [List.take_succ_eq_append_getElem hlt, hf])
      have hkl : (ls.take k).length = k := by rw [List.length_take]; omega
      clear hcut hf
      go_wp2_with (first
        | (go_at_call 36
           refine (node_cut f (nodesL (ls.drop (k + 1)) ++ l2) B g _ HC.out).mono ?_
           rintro e w1 ⟨rfl, hct, hs⟩
           have hrow : OwnN w1 w.heap.size u5 (ls.take k) := by
             refine ⟨hQ.out.row.1, ?_⟩
             rcases hQ.out.row.2 with h2 | ⟨r, cap, cur, hv, hr, hh, rr⟩
             · exact Or.inl h2
             · exact Or.inr ⟨r, cap, cur, hv, hr, (hs.block r (Array.getElem?_eq_some_iff.1 hh).1 (by have := HG.out; omega)).trans hh, rr⟩
           have hsv : Save g w w1 := hQ.out.save.trans hs
           have H1 := Lib.hid (And.intro hct (And.intro hrow hsv))
           clear hct hs hrow hsv)
        | ((with_reducible show wpList _ _ _ (Oper.mk _ (.buildSlice _ _ _) _ _ _ _ :: _) _ _); refine wpList_plain rfl fun K hK => ow_build1 _ rfl f rfl (hK _ _ ?_); clear hK K
           obtain ⟨v9, y9, hr9, hown9, hg9⟩ := app_own (H1.out.2.1.alloc (.cells (vec 32 (bys f)) 30)) (Arr.new w1 30 32 (bys f)) (by rw [hkl]; omega) (by have := H1.out.2.2.size; simp; omega) 31)
        | ((with_reducible show wpList _ _ _ (Oper.mk _ (.call ⟨.builtin .append, _, _⟩) _ _ _ _ :: _) _ _); refine wpList_plain rfl fun K hK => Lib.wp_append_run _ _ _ _ _ rfl _ _ rfl rfl _ _ hr9 (hK _ _ ?_); clear hK K))
      have hb9 : Below w.heap.size w1 y9 := ((Below.refl w.heap.size w1).alloc H1.out.2.2.size _).grown hg9 (by have := H1.out.2.2.size; simp; omega) (fun r hr => (H1.out.2.1.lt r hr).1)
      go_roundw
      case rel => exact ⟨k + 1, by omega, by simp, Lib.hid ⟨H1.out.1.on hb9 HG.out, by unfold OwnN; rw [HT.out, cellsN_snoc, List.length_append, hkl]; rw [hkl] at hown9; exact hown9, H1.out.2.2.on hb9 (Nat.le_refl _)⟩⟩
      case measure => simp [intOf]; omega
    · obtain rfl : k = ls.length := by omega
      go_wp2
      go_ret
      have hR := hQ.out.row
      have hC := hQ.out.cut
      rw [List.take_length] at hR
      rw [List.drop_length] at hC
      exact ⟨_, rfl, hR, hC, hQ.out.save⟩
end Go.Proofs.YtfeiplaiekbdkaaGreatDoor
/- read. -/
namespace Go.Proofs.YtfeiplaiekbdkaaGreatDoor
open Go.RowKit
attribute [local go_sem ↓ high] zeroV26 zeroSig zeroSz

set_option maxHeartbeats 1000000 in
set_option maxRecDepth 100000 in
theorem read_any (A : Option Addr) (c : Nat) (idx : Nat) (r : Nd) (ots auth : List Nd) (h n : Nat) (hidx : idx < 4294967296) (hot : ots.length = 67) (hau : auth.length = h) (hh : h ≤ 20) (hn : n = 36 + 32 * (67 + h)) (w : World) (hc : n ≤ c) (hl : Lies w w.heap.size 1 A n (u8s (sigL idx r ots auth))) :
    Calls Tryz.prog 37 #[.slice A n c, .int .i64 (h : Int)] w fun e w' => ∃ A1 c1 A2 c2, e = .returned (.agg (vec 36 (szF (idx : Int) r (.slice A1 67 c1) (.slice A2 h c2) (h : Int)))) ∧ OwnN w' w.heap.size (.slice A1 67 c1) ots ∧ OwnN w' w.heap.size (.slice A2 h c2) auth ∧ Below w.heap.size w w' := by
  obtain ⟨V, hV⟩ : ∃ V, V = w.alloc (.cells (vec 36 (szF 0 zb (.slice none 0 0) (.slice none 0 0) 0)) 58) := ⟨_, rfl⟩
  have h0 : Arr V w.heap.size 58 36 (szF 0 zb (.slice none 0 0) (.slice none 0 0) 0) := by rw [hV]; exact Arr.new w _ _ _
  have hB : Below w.heap.size w V := by rw [hV]; exact (Below.refl _ _).alloc (Nat.le_refl _) _
  have e : sigL idx r ots auth = numBytes 0 4 idx ++ (nodeL r ++ (nodesL ots ++ (nodesL auth ++ []))) := by rw [sigL, List.append_nil]
  have hlen : (sigL idx r ots auth).length = n := by rw [sigL_length, hot, hau, hn]
  have hcut := cutter_any A c (sigL idx r ots auth) V (by rw [hlen]; exact hc) (by rw [hlen]; exact (hl.below hB).wide hB.size)
  rw [hlen, e] at hcut
  have HCut := Lib.hid hcut
  have HA := Lib.hid (And.intro h0 hB)
  have HW := Lib.hid hV
  have HO := Lib.hid (And.intro hidx (And.intro (show ots.length ≤ 1000 by omega) (show auth.length ≤ 1000 by omega)))
  have HN := Lib.hid (And.intro hot hau)
  clear hV h0 hB hcut e hl hlen hidx hot hau hn hc
  go_enter Tryz.func37, Tryz.ntmps37
  go_upto_region 1 with fail
  rw [← HW.out]
  clear HW
  go_upto_region 2 with (go_at_call 34; refine HCut.out.mono ?_; rintro e w1 ⟨rfl, hct, hd, hsz⟩; have HC := Lib.hid hct; have HD := Lib.hid (And.intro hd hsz); clear hct hd hsz)
  obtain ⟨g, hg⟩ : ∃ g, g = V.heap.size := ⟨_, rfl⟩
  have HS : Hid (Save g w1 w1) := Lib.hid (Save.refl _ _)
  rw [← hg] at HC
  rw [← hg]
  have HG := Lib.hid hg
  clear hg HCut
  have N1 := nodes_cut ots HO.out.2.1
  have N2 := nodes_cut auth HO.out.2.2
  rw [HN.out.1] at N1
  rw [HN.out.2] at N2
  have HN1 := Lib.hid N1
  have HN2 := Lib.hid N2
  clear N1 N2
  go_upto_region 3 with (first
    | (go_at_call 35; refine (number_cut idx HO.out.1 _ _ _ _ HC.out).mono ?_; rintro e wx ⟨rfl, hct, hs⟩; have HC := Lib.hid hct; have HS := Lib.hid (HS.out.trans hs); clear hct hs)
    | (go_at_call 36; refine (node_cut _ _ _ _ _ HC.out).mono ?_; rintro e wx ⟨rfl, hct, hs⟩; have HC := Lib.hid hct; have HS := Lib.hid (HS.out.trans hs); clear hct hs)
    | ((with_reducible show Calls _ _ #[_, .int .i64 67] _ _); refine (HN1.out _ _ _ _ HC.out).mono ?_; rintro e wy ⟨v, rfl, ho, hct, hs⟩; obtain ⟨A1, c1, rfl, -, -⟩ := ho.row; have HR1 := Lib.hid (And.intro ho HC.out.lt); have HC := Lib.hid hct; have HS := Lib.hid (HS.out.trans hs); clear ho hct hs)
    | ((with_reducible show Calls _ _ #[_, .int .i64 _] _ _); refine (HN2.out _ _ _ _ HC.out).mono ?_; rintro e wz ⟨v, rfl, ho, hct, hs⟩; obtain ⟨A2, c2, rfl, -, -⟩ := ho.row; have HR2 := Lib.hid (And.intro ho HC.out.lt); have HR1 := Lib.hid (And.intro (ownN_save HR1.out.1 hs HR1.out.2) HR1.out.2); have HS := Lib.hid (HS.out.trans hs); clear ho hct hs)
    | ((with_reducible show wpList _ _ _ (Oper.mk _ (.build _ _) _ _ _ _ :: _) _ _); refine wl_build rfl 46 _ rfl (vec 35 (sigF (idx : Int) r (.slice A1 ots.length c1) (.slice A2 auth.length c2))) (by kernel_rfl) ?_)
    | ((with_reducible show wpList _ _ _ (Oper.mk _ (.store _ _ _) _ _ _ _ :: _) _ _); refine wl_store rfl 46 _ _ rfl _ rfl _ rfl (run_store_arr (Arr.new wz _ _ _) (sigF (idx : Int) r (.slice A1 ots.length c1) (.slice A2 auth.length c2)) infoSig (sigF_one _ _ _ _ rfl rfl _)) ?_))
  obtain ⟨q, hq⟩ : ∃ q, q = wz.heap.size := ⟨_, rfl⟩
  obtain ⟨X, hX⟩ : ∃ X, X = (wz.alloc (.cells (vec 35 (sigF 0 zb (.slice none 0 0) (.slice none 0 0))) 46)).setRow wz.heap.size (vec 35 (sigF (idx : Int) r (.slice A1 ots.length c1) (.slice A2 auth.length c2))) := ⟨_, rfl⟩
  have hK : Arr X q 46 35 (sigF (idx : Int) r (.slice A1 ots.length c1) (.slice A2 auth.length c2)) := by rw [hX, hq]; exact (Arr.new wz _ _ _).row _
  have hb : Below wz.heap.size wz X := by rw [hX]; exact below_row ((Below.refl _ _).alloc (Nat.le_refl _) _) (Nat.le_refl _) _
  have hR : Arr X w.heap.size 58 36 (szF 0 zb (.slice none 0 0) (.slice none 0 0) 0) := ((HA.out.1.under HD.out.1).save HS.out (by have := HG.out; have := HA.out.1.lt; omega)).under hb
  have hB : Below w.heap.size w X := HA.out.2.trans ((HD.out.1.mono HA.out.2.size).trans ((HS.out.below (by have := HG.out; have := HA.out.2.size; omega) (Nat.le_trans HA.out.2.size HD.out.1.size)).trans (hb.mono (Nat.le_trans (Nat.le_trans HA.out.2.size HD.out.1.size) HS.out.size))))
  have hr1 := HR1.out.1.below hb
  have hr2 := HR2.out.1.below hb
  rw [HN.out.1] at hr1
  rw [HN.out.2] at hr2
  have r1 : OwnN X wx.heap.size (.slice A1 67 c1) ots ∧ w.heap.size < wx.heap.size := ⟨hr1, Nat.lt_trans (Nat.lt_of_lt_of_le HA.out.1.lt (by rw [HG.out]; exact Nat.le_refl _)) HR1.out.2⟩
  have r2 : OwnN X wy.heap.size (.slice A2 h c2) auth ∧ w.heap.size < wy.heap.size := ⟨hr2, Nat.lt_trans (Nat.lt_of_lt_of_le HA.out.1.lt (by rw [HG.out]; exact Nat.le_refl _)) HR2.out.2⟩
  rw [HN.out.1, HN.out.2] at hK
  have HX := Lib.hid (And.intro hK (And.intro hR (And.intro hB (And.intro r1 r2))))
  rw [← hX, ← hq]
  clear hX hq hK hb hR hB r1 r2 hr1 hr2 HR1 HR2 HC HS HD HG
  go_wp2_with (first
    | ((with_reducible show wpList _ _ _ (Oper.mk _ (.load _ _) _ _ _ _ :: _) _ _); refine wl_load rfl 46 _ rfl q rfl _ (run_load_arr HX.out.1 Tryz.underlying46 rfl infoSig) ?_)
    | ((with_reducible show wpList _ _ _ (Oper.mk _ (.build _ _) _ _ _ _ :: _) _ _); refine wl_build rfl 58 _ rfl (vec 36 (szF (idx : Int) r (.slice A1 67 c1) (.slice A2 h c2) (h : Int))) (by kernel_rfl) ?_)
    | ((with_reducible show wpList _ _ _ (Oper.mk _ (.store _ _ _) _ _ _ _ :: _) _ _); refine wl_store rfl 58 _ _ rfl _ rfl _ rfl (run_store_arr HX.out.2.1 (szF (idx : Int) r (.slice A1 67 c1) (.slice A2 h c2) (h : Int)) infoSz (szF_one _ _ _ _ _ rfl rfl _)) ?_))
  refine bodyPost_ret (results_cell1 rfl _ _ _ rfl (run_load_arr (HX.out.2.1.row _) Tryz.underlying58 rfl infoSz)) rfl ⟨A1, c1, A2, c2, rfl, ?_, ?_, below_row HX.out.2.2.1 (Nat.le_refl _) _⟩
  · exact (ownN_save (g := w.heap.size) HX.out.2.2.2.1.1 ((Save.refl _ _).setRow _) HX.out.2.2.2.1.2).low (Nat.le_of_lt HX.out.2.2.2.1.2)
  · exact (ownN_save (g := w.heap.size) HX.out.2.2.2.2.1 ((Save.refl _ _).setRow _) HX.out.2.2.2.2.2).low (Nat.le_of_lt HX.out.2.2.2.2.2)
end Go.Proofs.YtfeiplaiekbdkaaGreatDoor
/- SigOf. -/
namespace Go.Proofs.YtfeiplaiekbdkaaGreatDoor
open Go.RowKit
attribute [local go_sem ↓ high] zeroV26 zeroSig zeroSz

/-- What a SigOf answers of bytes. -/
def SigAns (F : Nat) (b : List UInt8) (oid idx : Nat) (r : Nd) (ots auth : List Nd) (k : Nat) : Prop := ∀ (A : Option Addr) (c : Nat) (W : World), b.length ≤ c → Lies W W.heap.size 1 A b.length (u8s b) →
  Calls Tryz.prog F #[.slice A b.length c, .int .u32 (oid : Int)] W fun e W' => ∃ A1 c1 A2 c2, e = .returned (.tuple #[.agg (vec 35 (sigF (idx : Int) r (.slice A1 ots.length c1) (.slice A2 auth.length c2))), .int .i64 ((k : Nat) : Int)]) ∧ NRow W' W'.heap.size A1 ots ∧ NRow W' W'.heap.size A2 auth ∧ Below W.heap.size W W'
def sig0 : Nat → Value := sigF 0 zb (.slice none 0 0) (.slice none 0 0)
theorem sig0_one (n : Nat) : ∀ i, i < n → (sig0 i).oneCell' = true := sigF_one _ _ _ _ rfl rfl n
theorem sizeO_of {oid : Nat} (h : isO oid = true) : sizeO oid = 36 + 32 * (67 + hgtO oid) := by unfold sizeO; rw [if_pos h]; omega
theorem hgtO_is {oid : Nat} (h : isO oid = true) : hgtO oid = 10 ∨ hgtO oid = 16 ∨ hgtO oid = 20 := by
  rcases isO_cases h with ⟨_, e⟩ | ⟨_, e⟩ | ⟨_, e⟩ <;> simp [e]

set_option maxHeartbeats 1000000 in
set_option maxRecDepth 100000 in
theorem sigOf_a (b : List UInt8) (oid : Nat) (hoid : oid < 4294967296) (his : isO oid = false) : SigAns 14 b oid 0 zb [] [] 80 := by
  intro A c w _ _
  have h0 : Arr (w.alloc (.cells (vec 35 sig0) 46)) w.heap.size 46 35 sig0 := Arr.new w _ _ _
  have HS := Lib.hid (fun W => size_any oid hoid W)
  obtain ⟨s, hs⟩ : ∃ s, s = sizeO oid := ⟨_, rfl⟩
  rw [← hs, his] at HS
  clear hs
  unfold sig0 at h0
  go_enter Tryz.func14, Tryz.ntmps14
  go_wp2_with (first
    | (go_at_call 12; refine (HS.out _).mono ?_; rintro e w1 ⟨rfl, hw1⟩; rw [← hw1]; clear hw1)
    | ((with_reducible show wpList _ _ _ (Oper.mk _ (.build _ _) _ _ _ _ :: _) _ _); refine wl_build rfl 46 _ rfl (vec 35 sig0) (by kernel_rfl) ?_)
    | ((with_reducible show wpList _ _ _ (Oper.mk _ (.store _ _ _) _ _ _ _ :: _) _ _); refine wl_store rfl 46 _ _ rfl _ rfl _ rfl (run_store_arr h0 sig0 infoSig (sig0_one _)) ?_))
  exact bodyPost_ret (results_ct rfl _ _ _ rfl (run_load_arr (h0.row _) Tryz.underlying46 rfl infoSig)) rfl ⟨none, 0, none, 0, rfl, NRow.nil _ _ _, NRow.nil _ _ _, below_row ((Below.refl _ _).alloc (Nat.le_refl _) _) (Nat.le_refl _) _⟩
set_option maxHeartbeats 1000000 in
set_option maxRecDepth 100000 in
theorem sigOf_b (b : List UInt8) (oid : Nat) (hoid : oid < 4294967296) (his : isO oid = true) (hb : b.length ≠ 36 + 32 * (67 + hgtO oid)) : SigAns 14 b oid 0 zb [] [] 81 := by
  intro A c w _ _
  have h0 : Arr (w.alloc (.cells (vec 35 sig0) 46)) w.heap.size 46 35 sig0 := Arr.new w _ _ _
  have HS := Lib.hid (fun W => size_any oid hoid W)
  obtain ⟨s, hs⟩ : ∃ s, s = sizeO oid := ⟨_, rfl⟩
  have hne : b.length ≠ s := by rw [hs, sizeO_of his]; exact hb
  rw [← hs, his] at HS
  have t1 : ((b.length : Int) != (s : Int)) = true := bne_iff_ne.2 (by omega)
  clear hs hne hb
  unfold sig0 at h0
  go_enter Tryz.func14, Tryz.ntmps14
  go_wp2_with (first
    | (go_at_call 12; refine (HS.out _).mono ?_; rintro e w1 ⟨rfl, hw1⟩; rw [← hw1]; clear hw1)
    | ((with_reducible show wpList _ _ _ (Oper.mk _ (.build _ _) _ _ _ _ :: _) _ _); refine wl_build rfl 46 _ rfl (vec 35 sig0) (by kernel_rfl) ?_)
    | ((with_reducible show wpList _ _ _ (Oper.mk _ (.store _ _ _) _ _ _ _ :: _) _ _); refine wl_store rfl 46 _ _ rfl _ rfl _ rfl (run_store_arr h0 sig0 infoSig (sig0_one _)) ?_))
  exact bodyPost_ret (results_ct rfl _ _ _ rfl (run_load_arr (h0.row _) Tryz.underlying46 rfl infoSig)) rfl ⟨none, 0, none, 0, rfl, NRow.nil _ _ _, NRow.nil _ _ _, below_row ((Below.refl _ _).alloc (Nat.le_refl _) _) (Nat.le_refl _) _⟩
/-- What SigOf answers of a signature's bytes. -/
def CdPost (q : Bool) (w : World) (idx : Nat) (r : Nd) (ots auth : List Nd) (h : Nat) (e : Ending) (W' : World) : Prop :=
  ∃ A1 c1 A2 c2, e = .returned (.tuple #[.agg (vec 35 (if q then sigF (idx : Int) r (.slice A1 67 c1) (.slice A2 h c2) else sig0)), .int .i64 (if q then 0 else 81)]) ∧ (q = true → NRow W' W'.heap.size A1 ots ∧ NRow W' W'.heap.size A2 auth) ∧ Below w.heap.size w W'
set_option maxHeartbeats 2000000 in
set_option maxRecDepth 100000 in
theorem sigOf_cd (oid idx : Nat) (r : Nd) (ots auth : List Nd) (hoid : oid < 4294967296) (his : isO oid = true) (hidx : idx < 4294967296) (hot : ots.length = 67) (hau : auth.length = hgtO oid) :
    (¬ idx < 2 ^ hgtO oid → SigAns 14 (sigL idx r ots auth) oid 0 zb [] [] 81) ∧ (idx < 2 ^ hgtO oid → SigAns 14 (sigL idx r ots auth) oid idx r ots auth 0) := by
  have hbl : (sigL idx r ots auth).length = 36 + 32 * (67 + hgtO oid) := by rw [sigL_length, hot, hau]
  have hh := hgtO_is his
  have hle := hgtO_le oid
  have HS := Lib.hid (fun W => size_any oid hoid W)
  have HH := Lib.hid (fun W => height_any oid hoid W)
  obtain ⟨h, he⟩ : ∃ h, h = hgtO oid := ⟨_, rfl⟩
  obtain ⟨n, hn⟩ : ∃ n, n = 36 + 32 * (67 + h) := ⟨_, rfl⟩
  have hsn : sizeO oid = n := by rw [sizeO_of his, hn, he]
  rw [hsn, his] at HS
  rw [← he] at HH hbl hh hau hle ⊢
  rw [his] at HH
  rw [← hn] at hbl
  have HB := Lib.hid hbl
  have HR := Lib.hid (fun A c W hc hl => read_any A c idx r ots auth h n hidx hot hau hle hn W hc hl)
  have HP := Lib.hid (fun A1 c1 A2 c2 W => whole_any idx hidx r A1 67 c1 A2 h c2 h hh W)
  have hpl : (plcd idx h h && decide (67 = 67)) = decide (idx < 2 ^ h) := by unfold plcd; simp
  rw [hpl] at HP
  have HN := Lib.hid (And.intro hot hau)
  have key : ∀ (q : Bool), decide (idx < 2 ^ h) = q → ∀ (A : Option Addr) (c : Nat) (w : World), n ≤ c → Lies w w.heap.size 1 A n (u8s (sigL idx r ots auth)) →
      Calls Tryz.prog 14 #[.slice A n c, .int .u32 (oid : Int)] w fun e W' => CdPost q w idx r ots auth h e W' := by
    intro q hq A c w hc hl
    rw [hq] at HP
    obtain ⟨V, hV⟩ : ∃ V, V = w.alloc (.cells (vec 35 sig0) 46) := ⟨_, rfl⟩
    have h0 : Arr V w.heap.size 46 35 sig0 := by rw [hV]; exact Arr.new w _ _ _
    have hB : Below w.heap.size w V := by rw [hV]; exact (Below.refl _ _).alloc (Nat.le_refl _) _
    have hlV := (hl.below hB).wide hB.size
    have HA := Lib.hid (And.intro h0 hB)
    have HW := Lib.hid hV
    have HRd := Lib.hid (HR.out A c V hc hlV)
    clear hV h0 hB hlV hl HR hq hpl HB he hn hot hau hsn hbl his
    unfold sig0 at HW
    go_enter Tryz.func14, Tryz.ntmps14
    go_upto_region 1 with fail
    rw [← HW.out]
    clear HW
    go_upto_region 8 with (first
      | (go_at_call 12; refine (HS.out _).mono ?_; rintro e w1 ⟨rfl, hw1⟩; rw [← hw1]; clear hw1)
      | (go_at_call 24; refine (HH.out _).mono ?_; rintro e w1 ⟨rfl, hw1⟩; rw [← hw1]; clear hw1)
      | (go_at_call 37; refine HRd.out.mono ?_; rintro e w2 ⟨A1, c1, A2, c2, rfl, hr1, hr2, hd⟩; have HQ := Lib.hid (And.intro hr1 (And.intro hr2 hd)); clear hr1 hr2 hd)
      | ((with_reducible show wpList _ _ _ (Oper.mk _ (.store _ _ _) _ _ _ _ :: _) _ _); refine wl_store rfl 58 _ _ rfl _ rfl _ rfl (run_store_arr (Arr.new w2 _ _ _) (szF (idx : Int) r (.slice A1 67 c1) (.slice A2 h c2) (h : Int)) infoSz (szF_one _ _ _ _ _ rfl rfl _)) ?_))
    obtain ⟨g, hg⟩ : ∃ g, g = w2.heap.size := ⟨_, rfl⟩
    obtain ⟨X, hX⟩ : ∃ X, X = (w2.alloc (.cells (vec 36 (szF 0 zb (.slice none 0 0) (.slice none 0 0) 0)) 58)).setRow w2.heap.size (vec 36 (szF (idx : Int) r (.slice A1 67 c1) (.slice A2 h c2) (h : Int))) := ⟨_, rfl⟩
    have hK : Arr X g 58 36 (szF (idx : Int) r (.slice A1 67 c1) (.slice A2 h c2) (h : Int)) := by rw [hX, hg]; exact (Arr.new w2 _ _ _).row _
    have hb : Below w2.heap.size w2 X := by rw [hX]; exact below_row ((Below.refl _ _).alloc (Nat.le_refl _) _) (Nat.le_refl _) _
    have hVX : Below V.heap.size V X := HQ.out.2.2.trans (hb.mono HQ.out.2.2.size)
    have HX := Lib.hid (And.intro hK (And.intro hVX (And.intro (HQ.out.1.below hb) (HQ.out.2.1.below hb))))
    rw [← hX, ← hg]
    clear hX hg hK hb hVX HQ HRd
    cases q
    · go_wp2_with (first
        | ((with_reducible show wpList _ _ _ (Oper.mk _ (.load 58 _) _ _ _ _ :: _) _ _); refine wl_load rfl 58 _ rfl g rfl _ (run_load_arr HX.out.1 Tryz.underlying58 rfl infoSz) ?_)
        | (go_at_call 38; refine (HP.out _ _ _ _ _).mono ?_; rintro e w3 ⟨rfl, hd⟩; have H3 := Lib.hid hd; clear hd)
        | ((with_reducible show wpList _ _ _ (Oper.mk _ (.build _ _) _ _ _ _ :: _) _ _); refine wl_build rfl 46 _ rfl (vec 35 sig0) (by kernel_rfl) ?_)
        | ((with_reducible show wpList _ _ _ (Oper.mk _ (.store _ _ _) _ _ _ _ :: _) _ _); refine wl_store rfl 46 _ _ rfl _ rfl _ rfl (run_store_arr (HA.out.1.under (HX.out.2.1.trans (H3.out.mono HX.out.2.1.size))) sig0 infoSig (sig0_one _)) ?_))
      have hVX := HX.out.2.1.trans (H3.out.mono HX.out.2.1.size)
      have hwX := HA.out.2.trans (hVX.mono HA.out.2.size)
      exact bodyPost_ret (results_ct rfl _ _ _ rfl (run_load_arr ((HA.out.1.under hVX).row _) Tryz.underlying46 rfl infoSig)) rfl (by unfold CdPost; exact ⟨A1, c1, A2, c2, rfl, fun e => (by cases e), below_row hwX (Nat.le_refl _) _⟩)
    · go_wp2_with (first
        | ((with_reducible show wpList _ _ _ (Oper.mk _ (.load 58 _) _ _ _ _ :: _) _ _); refine wl_load rfl 58 _ rfl g rfl _ (run_load_arr HX.out.1 Tryz.underlying58 rfl infoSz) ?_)
        | (go_at_call 38; refine (HP.out _ _ _ _ _).mono ?_; rintro e w3 ⟨rfl, hd⟩; have H3 := Lib.hid hd; clear hd)
        | ((with_reducible show wpList _ _ _ (Oper.mk _ (.load 46 _) _ _ _ _ :: _) _ _); refine wl_load rfl 46 _ rfl g rfl _ (load_sig (HX.out.1.under H3.out)) ?_)
        | ((with_reducible show wpList _ _ _ (Oper.mk _ (.store _ _ _) _ _ _ _ :: _) _ _); refine wl_store rfl 46 _ _ rfl _ rfl _ rfl (run_store_arr (HA.out.1.under (HX.out.2.1.trans (H3.out.mono HX.out.2.1.size))) (sigF (idx : Int) r (.slice A1 67 c1) (.slice A2 h c2)) infoSig (sigF_one _ _ _ _ rfl rfl _)) ?_))
      have hVX := HX.out.2.1.trans (H3.out.mono HX.out.2.1.size)
      have hwX := HA.out.2.trans (hVX.mono HA.out.2.size)
      refine bodyPost_ret (results_ct rfl _ _ _ rfl (run_load_arr ((HA.out.1.under hVX).row _) Tryz.underlying46 rfl infoSig)) rfl (by
        unfold CdPost
        refine ⟨A1, c1, A2, c2, rfl, fun _ => ⟨?_, ?_⟩, below_row hwX (Nat.le_refl _) _⟩
        · exact ownN_at (ownN_save (g := w.heap.size) (HX.out.2.2.1.below H3.out) ((Save.refl _ _).setRow _) HA.out.1.lt)
        · exact ownN_at (ownN_save (g := w.heap.size) (HX.out.2.2.2.below H3.out) ((Save.refl _ _).setRow _) HA.out.1.lt))
  refine ⟨fun hn2 => ?_, fun hy => ?_⟩
  · intro A c w hc hl
    rw [hbl] at hc hl ⊢
    refine (key false (decide_eq_false hn2) A c w hc hl).mono ?_
    rintro e w' ⟨A1, c1, A2, c2, rfl, -, hd⟩
    exact ⟨none, 0, none, 0, rfl, NRow.nil _ _ _, NRow.nil _ _ _, hd⟩
  · intro A c w hc hl
    rw [hbl] at hc hl ⊢
    refine (key true (decide_eq_true hy) A c w hc hl).mono ?_
    rintro e w' ⟨A1, c1, A2, c2, rfl, hr, hd⟩
    exact ⟨A1, c1, A2, c2, by rw [hot, hau]; rfl, (hr rfl).1, (hr rfl).2, hd⟩
end Go.Proofs.YtfeiplaiekbdkaaGreatDoor
/- The reference's SigOf. -/
namespace Go.Proofs.YtfeiplaiekbdkaaGreatDoor
open Go.RowKit
attribute [local go_sem ↓ high] zeroV26 zeroSig

theorem u8s_nodesL (l : List Nd) : u8s (nodesL l) = cellsN l := by
  induction l with
  | nil => rfl
  | cons f l ih =>
    rw [nodesL_cons, cellsN_cons, ← ih]
    simp [u8s, nodeL, nodeC, bys]
theorem lies_nodes {w : World} {B : Nat} {p : Addr} {l : List Nd} (h : Lies w B 1 (some p) (nodesL l).length (u8s (nodesL l))) : NRow w B (some p) l := fun hn => by
  have hl : (nodesL l).length ≠ 0 := by rw [nodesL_length]; have := List.length_pos_iff.2 hn; omega
  obtain ⟨a, e, hb, hc⟩ := h.2 hl
  injection e with e
  subst e
  refine ⟨_, rfl, hb, fun j hj i hi => ?_⟩
  have hc' : ∀ j x, (u8s (nodesL l))[j]? = some x → w.cell? (p.add j) = some x := fun j x hx => by
    obtain ⟨hj, rfl⟩ := List.getElem?_eq_some_iff.1 hx
    exact hc j hj
  exact hc' _ _ (by rw [u8s_nodesL]; exact cellsN_get l j hj i hi)
/-- Where the parts of a signature lie. -/
theorem lies_sig {w : World} {B : Nat} {A : Option Addr} {n idx : Nat} {r : Nd} {ots auth : List Nd} (h : Lies w B 1 A n (u8s (sigL idx r ots auth))) (hn : n = (sigL idx r ots auth).length) :
    ∃ a, A = some a ∧ a.block < B ∧ (∀ i, i < 32 → w.cell? ((a.add 4).add i) = some (bys r i)) ∧ NRow w B (some (a.add 36)) (ots ++ auth) := by
  subst hn
  have hl := sigL_length idx r ots auth
  have e : sigL idx r ots auth ≠ [] := fun e => by rw [e] at hl; simp at hl; omega
  obtain ⟨a, rfl, hab, -⟩ := h.2 (by rw [hl]; omega)
  unfold sigL at h e
  have h1 := (lies_left h e).2
  rw [numBytes_len] at h1
  have e2 : nodeL r ++ (nodesL ots ++ nodesL auth) ≠ [] := fun e => by have h2 := congrArg List.length e; rw [List.length_append, nodeL_length, List.length_nil] at h2; omega
  obtain ⟨h2, h3⟩ := lies_left h1 e2
  rw [nodeL_length, addr_add_add, ← nodesL_append] at h3
  obtain ⟨a1, e1, _, c1⟩ := lies_node h2
  injection e1 with e1
  subst e1
  exact ⟨a, rfl, hab, c1, lies_nodes h3⟩

set_option maxHeartbeats 1000000 in
set_option maxRecDepth 100000 in
theorem rsigOf_a (b : List UInt8) (oid : Nat) (hoid : oid < 4294967296) (his : isO oid = false) : SigAns 19 b oid 0 zb [] [] 80 := by
  intro A c w _ _
  have h0 : Arr (w.alloc (.cells (vec 35 sig0) 46)) w.heap.size 46 35 sig0 := Arr.new w _ _ _
  have HS := Lib.hid (fun W => rheight_any oid hoid W)
  obtain ⟨s, hs⟩ : ∃ s, s = hgtO oid := ⟨_, rfl⟩
  rw [← hs, his] at HS
  clear hs
  unfold sig0 at h0
  go_enter Tryz.func19, Tryz.ntmps19
  go_wp2_with (first
    | (go_at_call 27; refine (HS.out _).mono ?_; rintro e w1 ⟨rfl, hw1⟩; rw [← hw1]; clear hw1)
    | ((with_reducible show wpList _ _ _ (Oper.mk _ (.build _ _) _ _ _ _ :: _) _ _); refine wl_build rfl 46 _ rfl (vec 35 sig0) (by kernel_rfl) ?_)
    | ((with_reducible show wpList _ _ _ (Oper.mk _ (.store _ _ _) _ _ _ _ :: _) _ _); refine wl_store rfl 46 _ _ rfl _ rfl _ rfl (run_store_arr h0 sig0 infoSig (sig0_one _)) ?_))
  exact bodyPost_ret (results_ct rfl _ _ _ rfl (run_load_arr (h0.row _) Tryz.underlying46 rfl infoSig)) rfl ⟨none, 0, none, 0, rfl, NRow.nil _ _ _, NRow.nil _ _ _, below_row ((Below.refl _ _).alloc (Nat.le_refl _) _) (Nat.le_refl _) _⟩
set_option maxHeartbeats 1000000 in
set_option maxRecDepth 100000 in
theorem rsigOf_b (b : List UInt8) (oid : Nat) (hbl : b.length ≤ 3000) (hoid : oid < 4294967296) (his : isO oid = true) (hb : b.length ≠ 36 + 32 * (67 + hgtO oid)) : SigAns 19 b oid 0 zb [] [] 81 := by
  intro A c w _ hl
  have h0 : Arr (w.alloc (.cells (vec 35 sig0) 46)) w.heap.size 46 35 sig0 := Arr.new w _ _ _
  have HS := Lib.hid (fun W => rheight_any oid hoid W)
  have hle := hgtO_le oid
  obtain ⟨s, hs⟩ : ∃ s, s = hgtO oid := ⟨_, rfl⟩
  rw [← hs, his] at HS
  rw [← hs] at hb hle
  have t1 : ((b.length : Int) != 36 + 32 * (67 + (s : Int))) = true := bne_iff_ne.2 (by omega)
  obtain ⟨n, hn⟩ : ∃ n, n = numOf b 0 4 false := ⟨_, rfl⟩
  have HN := Lib.hid (fun W (h : Lies W w.heap.size 1 A b.length (u8s b)) => by have := number_any b A c w.heap.size 0 4 false (by decide) W (by unfold maxLen; omega) h; rw [← hn] at this; exact this)
  have HL := Lib.hid (hl.alloc (Nat.le_refl _) (.cells (vec 35 sig0) 46))
  have HL2 : Hid (Lies (w.alloc (.cells (vec 35 (sigF 0 zb (.slice none 0 0) (.slice none 0 0))) 46)) w.heap.size 1 A b.length (u8s b)) := HL
  clear hs hb hn hl HL
  unfold sig0 at h0
  go_enter Tryz.func19, Tryz.ntmps19
  go_wp2_with (first
    | (go_at_call 27; refine (HS.out _).mono ?_; rintro e w1 ⟨rfl, hw1⟩; rw [← hw1]; clear hw1)
    | (go_at_call 47; refine (HN.out _ HL2.out).mono ?_; rintro e w1 ⟨rfl, hw1⟩; rw [← hw1]; clear hw1)
    | ((with_reducible show wpList _ _ _ (Oper.mk _ (.build _ _) _ _ _ _ :: _) _ _); refine wl_build rfl 46 _ rfl (vec 35 sig0) (by kernel_rfl) ?_)
    | ((with_reducible show wpList _ _ _ (Oper.mk _ (.store _ _ _) _ _ _ _ :: _) _ _); refine wl_store rfl 46 _ _ rfl _ rfl _ rfl (run_store_arr h0 sig0 infoSig (sig0_one _)) ?_))
  exact bodyPost_ret (results_ct rfl _ _ _ rfl (run_load_arr (h0.row _) Tryz.underlying46 rfl infoSig)) rfl ⟨none, 0, none, 0, rfl, NRow.nil _ _ _, NRow.nil _ _ _, below_row ((Below.refl _ _).alloc (Nat.le_refl _) _) (Nat.le_refl _) _⟩
end Go.Proofs.YtfeiplaiekbdkaaGreatDoor
/- The reference's SigOf, of a signature's bytes. -/
namespace Go.Proofs.YtfeiplaiekbdkaaGreatDoor
open Go.RowKit
attribute [local go_sem ↓ high] zeroV26 zeroSig

/-- What a round keeps: k nodes are laid; B: where the row of the first list may lie, B2: of the second. -/
structure RSg (V : World) (gs : Nat) (idx : Nat) (r : Nd) (ots auth : List Nd) (k : Nat) (v1 v2 : Value) (B2 : Nat) (W : World) : Prop where
  arr : Arr W gs 46 35 (sigF (idx : Int) r v1 v2)
  r1 : OwnN W V.heap.size v1 (ots.take k)
  r2 : OwnN W B2 v2 (auth.take (k - 67))
  nl : k ≤ 67 → v2 = .slice none 0 0
  lo : 67 ≤ k → ∀ g, v1.ownBlock = some g → g < B2
  B : V.heap.size ≤ B2
  B2 : B2 ≤ W.heap.size
  sv : Save gs V W
theorem ownN_keep {w w' : World} {base n : Nat} {v : Value} {l : List Nd} (h : OwnN w base v l) (hb : Below n w w') (hv : ∀ g, v.ownBlock = some g → g < n) : OwnN w' base v l := by
  refine ⟨h.1, ?_⟩
  rcases h.2 with h2 | ⟨r, cap, cur, hv2, hr, hh, rr⟩
  · exact Or.inl h2
  · refine Or.inr ⟨r, cap, cur, hv2, hr, (hb.block r (hv r ?_)).trans hh, rr⟩
    rw [hv2]; rfl
theorem ownN_one {w : World} {base : Nat} {v : Value} {l : List Nd} (h : OwnN w base v l) : v.oneCell' = true := by
  obtain ⟨A, c, rfl, _, _⟩ := h.row
  rfl
theorem addr_lit (b o i : Nat) : (⟨b, o, none⟩ : Addr).add i = ⟨b, o + i, none⟩ := by unfold Addr.add; by_cases h : i = 0 <;> simp [h]

/-- A node more in the first list. -/
theorem RSg.put1 {V W : World} {gs idx k B2 : Nat} {r : Nd} {ots auth : List Nd} {v1 v2 : Value} (h : RSg V gs idx r ots auth k v1 v2 B2 W) (hgs : gs < V.heap.size) (hk : k < 67) (hot : ots.length = 67) (f : Nd) (hf : ots.take (k + 1) = ots.take k ++ [f]) (W1 : World) (hb1 : Below W.heap.size W W1) :
    ∃ (A' : Option Addr) (n' c' : Nat) (W' : World), (Builtin.append_ #[31, 31] 31 #[v1, .slice (some ⟨W1.heap.size, 0, none⟩) 1 1]).run Tryz.prog (W1.alloc (.cells (vec 32 (bys f)) 30)) = .ok (.slice A' n' c') W' ∧
      W'.cell? ⟨gs, 33, none⟩ = some v1 ∧ W'.frozen? ⟨gs, 33, none⟩ = false ∧ RSg V gs idx r ots auth (k + 1) (.slice A' n' c') v2 (W'.setCell ⟨gs, 33, none⟩ (.slice A' n' c')).heap.size (W'.setCell ⟨gs, 33, none⟩ (.slice A' n' c')) := by
  have hsz := h.sv.size
  have hkl : (ots.take k).length = k := by rw [List.length_take]; omega
  obtain ⟨v', W', hr, ho, hg⟩ := app_own ((h.r1.below hb1).alloc (.cells (vec 32 (bys f)) 30)) (Arr.new W1 30 32 (bys f)) (by rw [hkl]; omega) (by have := hb1.size; simp; omega) 31
  have hb2 : Below V.heap.size W1 W' := ((Below.refl V.heap.size W1).alloc (Nat.le_trans hsz hb1.size) _).grown hg (by have := hb1.size; simp; omega) (fun g hg => ((h.r1.below hb1).lt g hg).1)
  have hA' : Arr W' gs 46 35 (sigF (idx : Int) r v1 v2) := (h.arr.under hb1).below hb2 hgs
  have hown : OwnN W' V.heap.size v' (ots.take (k + 1)) := by unfold OwnN; rw [hf, cellsN_snoc, List.length_append]; exact ho
  obtain ⟨A', c', rfl, -, -⟩ := hown.row
  have hs : Save gs W' (W'.setCell ⟨gs, 33, none⟩ _) := (Save.refl _ _).setCell 33 (.slice A' (ots.take (k + 1)).length c')
  refine ⟨A', _, c', W', hr, hA'.cell (i := 33) (by decide), hA'.frozen 33, ⟨?_, ownN_save hown hs hgs, ?_, ?_, ?_, ?_, Nat.le_refl _, ?_⟩⟩
  · rw [← sigF_33 (idx : Int) r v1 v2]; exact hA'.set 33 _
  · rw [show k + 1 - 67 = 0 by omega, List.take_zero, h.nl (by omega)]; exact World.ownsRow_nil _ _ _ _
  · intro _; exact h.nl (by omega)
  · intro _ g hg2
    exact Nat.lt_of_lt_of_le (hown.lt g hg2).2 hs.size
  · exact Nat.le_trans hsz (Nat.le_trans hb1.size (Nat.le_trans hb2.size hs.size))
  · exact ((h.sv.trans (Save.of_below hb1)).on hb2 (Nat.le_refl _)).trans hs
/-- .. in the second. -/
theorem RSg.put2 {V W : World} {gs idx k B2 : Nat} {r : Nd} {ots auth : List Nd} {v1 v2 : Value} (h : RSg V gs idx r ots auth k v1 v2 B2 W) (hgs : gs < V.heap.size) (hk : 67 ≤ k) (hot : ots.length = 67) (hau : k - 67 < auth.length) (hal : auth.length ≤ 20) (f : Nd) (hf : auth.take (k - 67 + 1) = auth.take (k - 67) ++ [f]) (W1 : World) (hb1 : Below W.heap.size W W1) :
    ∃ (A' : Option Addr) (n' c' : Nat) (W' : World), (Builtin.append_ #[31, 31] 31 #[v2, .slice (some ⟨W1.heap.size, 0, none⟩) 1 1]).run Tryz.prog (W1.alloc (.cells (vec 32 (bys f)) 30)) = .ok (.slice A' n' c') W' ∧
      W'.cell? ⟨gs, 34, none⟩ = some v2 ∧ W'.frozen? ⟨gs, 34, none⟩ = false ∧ RSg V gs idx r ots auth (k + 1) v1 (.slice A' n' c') B2 (W'.setCell ⟨gs, 34, none⟩ (.slice A' n' c')) := by
  have hsz := h.sv.size
  have hkl : (auth.take (k - 67)).length = k - 67 := by rw [List.length_take]; omega
  obtain ⟨v', W', hr, ho, hg⟩ := app_own ((h.r2.below hb1).alloc (.cells (vec 32 (bys f)) 30)) (Arr.new W1 30 32 (bys f)) (by rw [hkl]; omega) (by have := hb1.size; have := h.B2; simp; omega) 31
  have hb2 : Below B2 W1 W' := ((Below.refl B2 W1).alloc (Nat.le_trans h.B2 hb1.size) _).grown hg (by have := hb1.size; have := h.B2; simp; omega) (fun g hg => ((h.r2.below hb1).lt g hg).1)
  have hA' : Arr W' gs 46 35 (sigF (idx : Int) r v1 v2) := (h.arr.under hb1).below hb2 (Nat.lt_of_lt_of_le hgs h.B)
  have hown : OwnN W' B2 v' (auth.take (k + 1 - 67)) := by unfold OwnN; rw [show k + 1 - 67 = k - 67 + 1 by omega, hf, cellsN_snoc, List.length_append]; exact ho
  obtain ⟨A', c', rfl, -, -⟩ := hown.row
  have hs : Save gs W' (W'.setCell ⟨gs, 34, none⟩ _) := (Save.refl _ _).setCell 34 (.slice A' (auth.take (k + 1 - 67)).length c')
  have h1 : OwnN W' V.heap.size v1 (ots.take k) := ownN_keep (h.r1.below hb1) hb2 (h.lo hk)
  have h1' : OwnN W' V.heap.size v1 (ots.take (k + 1)) := by
    rw [List.take_of_length_le (by omega)]
    rw [List.take_of_length_le (by omega)] at h1
    exact h1
  refine ⟨A', _, c', W', hr, hA'.cell (i := 34) (by decide), hA'.frozen 34, ⟨(hA'.set 34 _).congr (sigF_34 _ _ _ _ _), ?_, ownN_save hown hs (Nat.lt_of_lt_of_le hgs h.B), ?_, fun _ => h.lo hk, h.B, ?_, ?_⟩⟩
  · exact ownN_save h1' hs hgs
  · intro h67; omega
  · exact Nat.le_trans h.B2 (Nat.le_trans hb1.size (Nat.le_trans hb2.size hs.size))
  · exact ((h.sv.trans (Save.of_below hb1)).on hb2 h.B).trans hs
end Go.Proofs.YtfeiplaiekbdkaaGreatDoor
/- The reference's SigOf, of a signature's bytes: the walk. -/
namespace Go.Proofs.YtfeiplaiekbdkaaGreatDoor
open Go.RowKit
attribute [local go_sem ↓ high] zeroV26 zeroSig

set_option maxHeartbeats 2000000 in
set_option maxRecDepth 100000 in
theorem rsigOf_cd (oid idx : Nat) (r : Nd) (ots auth : List Nd) (hoid : oid < 4294967296) (his : isO oid = true) (hidx : idx < 4294967296) (hot : ots.length = 67) (hau : auth.length = hgtO oid) :
    (¬ idx < 2 ^ hgtO oid → SigAns 19 (sigL idx r ots auth) oid 0 zb [] [] 81) ∧ (idx < 2 ^ hgtO oid → SigAns 19 (sigL idx r ots auth) oid idx r ots auth 0) := by
  have hbl : (sigL idx r ots auth).length = 36 + 32 * (67 + hgtO oid) := by rw [sigL_length, hot, hau]
  have hle := hgtO_le oid
  have HH := Lib.hid (fun W => rheight_any oid hoid W)
  obtain ⟨h, he⟩ : ∃ h, h = hgtO oid := ⟨_, rfl⟩
  obtain ⟨n, hn⟩ : ∃ n, n = 36 + 32 * (67 + h) := ⟨_, rfl⟩
  rw [← he] at HH hbl hau hle ⊢
  rw [his] at HH
  rw [← hn] at hbl
  have hacc : numOf (sigL idx r ots auth) 0 4 false = idx := by
    unfold numOf
    rw [if_pos (by rw [hbl]; omega)]
    exact acc_num idx hidx _
  have t1 : ((n : Int) != 36 + 32 * (67 + (h : Int))) = false := by rw [hn]; simp
  have hwn : IntKind.u32.wrap (idx : Int) = (idx : Int) := by rw [IntKind.wrap_u32]; omega
  obtain ⟨P, hP⟩ : ∃ P, P = 2 ^ h := ⟨_, rfl⟩
  have hP20 : P ≤ 1048576 := by rw [hP]; exact Nat.pow_le_pow_right (by decide) hle
  have hsh : IntKind.u64.wrap (2 ^ h) = (P : Int) := by
    have e : (2 : Int) ^ h = ((2 ^ h : Nat) : Int) := by rw [Int.natCast_pow]; rfl
    rw [e, ← hP, IntKind.wrap_u64]; omega
  have HP2 := Lib.hid hP
  have key : ∀ (q : Bool), decide (idx < P) = q → ∀ (A : Option Addr) (c : Nat) (w : World), n ≤ c → Lies w w.heap.size 1 A n (u8s (sigL idx r ots auth)) →
      Calls Tryz.prog 19 #[.slice A n c, .int .u32 (oid : Int)] w fun e W' => CdPost q w idx r ots auth h e W' := by
    intro q hq A c w hc hl
    obtain ⟨V, hV⟩ : ∃ V, V = w.alloc (.cells (vec 35 sig0) 46) := ⟨_, rfl⟩
    have h0 : Arr V w.heap.size 46 35 sig0 := by rw [hV]; exact Arr.new w _ _ _
    have hB : Below w.heap.size w V := by rw [hV]; exact (Below.refl _ _).alloc (Nat.le_refl _) _
    have hlV := (hl.below hB).wide hB.size
    have hnum := number_any (sigL idx r ots auth) A c V.heap.size 0 4 false (by decide) V (by rw [hbl]; unfold maxLen; omega) (by rw [hbl]; exact hlV)
    rw [hbl, hacc] at hnum
    have HN := Lib.hid hnum
    have HA := Lib.hid (And.intro h0 hB)
    have HW := Lib.hid hV
    obtain ⟨a, rfl, hab, hcr, hcn⟩ := lies_sig hl hbl.symm
    have HC := Lib.hid (And.intro hab (And.intro (fun i hi => ((Below.cell hB (p := (a.add 4).add i) (by rw [addr_add_block, addr_add_block]; exact hab)).trans (hcr i hi))) hcn))
    have HL := Lib.hid (And.intro hot (And.intro hau (And.intro hc hn)))
    unfold sig0 at HW
    have i36 : (36 : Int) ≤ (c : Int) := by omega
    have i4 : ¬ c = 4 := by omega
    clear hV h0 hB hlV hl hnum hacc hab hcr hcn hbl hot hau hn he his hP hc
    cases q
    · have hi : ¬ idx < P := of_decide_eq_false hq
      have t2 : (P : Int) ≤ (idx : Int) := by omega
      clear hq
      go_enter Tryz.func19, Tryz.ntmps19
      go_upto_region 1 with fail
      rw [← HW.out]
      clear HW
      go_wp2_with (first
        | (go_at_call 27; refine (HH.out _).mono ?_; rintro e w1 ⟨rfl, hw1⟩; rw [← hw1]; clear hw1)
        | (go_at_call 47; refine HN.out.mono ?_; rintro e w1 ⟨rfl, hw1⟩; rw [← hw1]; clear hw1)
        | ((with_reducible show wpList _ _ _ (Oper.mk _ (.build _ _) _ _ _ _ :: _) _ _); refine wl_build rfl 46 _ rfl (vec 35 sig0) (by kernel_rfl) ?_)
        | ((with_reducible show wpList _ _ _ (Oper.mk _ (.store _ _ _) _ _ _ _ :: _) _ _); refine wl_store rfl 46 _ _ rfl _ rfl _ rfl (run_store_arr HA.out.1 sig0 infoSig (sig0_one _)) ?_))
      exact bodyPost_ret (results_ct rfl _ _ _ rfl (run_load_arr (HA.out.1.row _) Tryz.underlying46 rfl infoSig)) rfl (by unfold CdPost; exact ⟨none, 0, none, 0, rfl, fun e => (by cases e), below_row HA.out.2 (Nat.le_refl _) _⟩)
    · have hi : idx < P := of_decide_eq_true hq
      have t2 : ¬ (P : Int) ≤ (idx : Int) := by omega
      clear hq
      have har := fun a c => arr_at_q a c
      go_enter Tryz.func19, Tryz.ntmps19
      go_upto_region 1 with fail
      rw [← HW.out]
      clear HW
      go_upto_region 8 with (first
        | (go_at_call 27; refine (HH.out _).mono ?_; rintro e w1 ⟨rfl, hw1⟩; rw [← hw1]; clear hw1)
        | (go_at_call 47; refine HN.out.mono ?_; rintro e w1 ⟨rfl, hw1⟩; rw [← hw1]; clear hw1)
        | ((with_reducible show wpList _ _ _ (Oper.mk _ (.load _ _) _ _ _ _ :: _) _ _); refine wl_load_q rfl 30 _ rfl (a.add 4) rfl _ (load_p HC.out.2.1) ?_)
        | ((with_reducible show wpList _ _ _ (Oper.mk _ (.build _ _) _ _ _ _ :: _) _ _); refine wl_build rfl 46 _ rfl (vec 35 (sigF (idx : Int) r (.slice none 0 0) (.slice none 0 0))) (by kernel_rfl) ?_)
        | ((with_reducible show wpList _ _ _ (Oper.mk _ (.store _ _ _) _ _ _ _ :: _) _ _); refine wl_store rfl 46 _ _ rfl _ rfl _ rfl (run_store_arr (Arr.new V _ _ _) (sigF (idx : Int) r (.slice none 0 0) (.slice none 0 0)) infoSig (sigF_one _ _ _ _ rfl rfl _)) ?_))
      obtain ⟨gs, hgs⟩ : ∃ g, g = V.heap.size := ⟨_, rfl⟩
      obtain ⟨X, hX⟩ : ∃ X, X = (V.alloc (.cells (vec 35 (sigF 0 zb (.slice none 0 0) (.slice none 0 0))) 46)).setRow V.heap.size (vec 35 (sigF (idx : Int) r (.slice none 0 0) (.slice none 0 0))) := ⟨_, rfl⟩
      have hK : Arr X gs 46 35 (sigF (idx : Int) r (.slice none 0 0) (.slice none 0 0)) := by rw [hX, hgs]; exact (Arr.new V _ _ _).row _
      have hb : Below V.heap.size V X := by rw [hX]; exact below_row ((Below.refl _ _).alloc (Nat.le_refl _) _) (Nat.le_refl _) _
      have hwX : Below w.heap.size w X := HA.out.2.trans (hb.mono HA.out.2.size)
      have HX := Lib.hid (And.intro hK.lt (And.intro (HA.out.1.under hb) (And.intro hwX (And.intro (show w.heap.size ≠ gs by rw [hgs]; exact Nat.ne_of_lt HA.out.1.lt) (show gs < X.heap.size ∧ w.heap.size < gs from ⟨hK.lt, by rw [hgs]; exact HA.out.1.lt⟩)))))
      have HI : Hid (RSg X gs idx r ots auth 0 (.slice none 0 0) (.slice none 0 0) X.heap.size X) := Lib.hid ⟨hK, by rw [List.take_zero]; exact World.ownsRow_nil _ _ _ _, by rw [Nat.zero_sub, List.take_zero]; exact World.ownsRow_nil _ _ _ _, fun _ => rfl, fun h => by omega, Nat.le_refl _, Nat.le_refl _, Save.refl _ _⟩
      rw [← hX, ← hgs]
      clear hX hgs hK hb hwX HA HN HH t1 t2 hsh hP20 i36 i4
      go_wp2
      go_loopw [11] (fun i W => ∃ k : Nat, k ≤ 67 + h ∧ i = .int .i64 k ∧ Hid (∃ v1 v2 B2, RSg X gs idx r ots auth k v1 v2 B2 W)) (fun i _ => 67 + h - (intOf i).toNat)
      case atStart => exact ⟨0, Nat.zero_le _, rfl, Lib.hid ⟨_, _, _, HI.out⟩⟩
      case round =>
        obtain ⟨k, hk, rfl, hQ⟩ := hrel
        obtain ⟨v1, v2, B2, hq⟩ := hQ.out
        have HQ := Lib.hid hq
        clear hq
        by_cases hlt : k < 67 + h
        · have hkI : (k : Int) < 67 + (h : Int) := by omega
          have hl2 := HL.out
          have s1 : 68 + 32 * (k : Int) ≤ (c : Int) := by omega
          have s2 : ¬ c = 36 + 32 * k := by omega
          have s3 : (k : Int) ≤ 86 := by omega
          have s4 : 68 + 32 * k - (36 + 32 * k) = 32 := by omega
          have s5 : (68 + 32 * (k : Int) - (36 + 32 * (k : Int))).toNat = 32 := by omega
          clear hl2
          obtain ⟨f, hf⟩ : ∃ f, f = (ots ++ auth)[k]'(by rw [List.length_append, HL.out.1, HL.out.2.1]; exact hlt) := ⟨_, rfl⟩
          have hcell : ∀ i, i < 32 → wr.cell? ((a.add (36 + 32 * k)).add i) = some (bys f i) := fun i hi => by
            obtain ⟨_, e, hpb, hc⟩ := HC.out.2.2 (fun e => by have := congrArg List.length e; rw [List.length_append, HL.out.1, List.length_nil] at this; omega)
            injection e with e
            subst e
            have h1 := hc k (by rw [List.length_append, HL.out.1, HL.out.2.1]; exact hlt) i hi
            rw [← hf] at h1
            have e2 : (a.add 36).add (k * 32 + i) = (a.add (36 + 32 * k)).add i := by
              rw [addr_add_add, addr_add_add]
              congr 1; omega
            rw [e2] at h1
            have hb2 : ((a.add (36 + 32 * k)).add i).block = a.block := by rw [addr_add_block, addr_add_block]
            rw [← h1]
            have hx := HX.out.2.2.2.2
            rw [HQ.out.sv.cell (by rw [hb2]; have := HC.out.1; omega) (by rw [hb2]; have := HC.out.1; omega)]
            exact HX.out.2.2.1.cell (by rw [hb2]; exact HC.out.1)
          have HCc := Lib.hid hcell
          have HF := Lib.hid hf
          clear hcell hf
          go_upto_region 12 with (first
            | ((with_reducible show wpList _ _ _ (Oper.mk _ (.load _ _) _ _ _ _ :: _) _ _); refine wl_load_q rfl 30 _ rfl (a.add (36 + 32 * k)) rfl _ (load_p HCc.out) ?_)
            | ((with_reducible show wpList _ _ _ (Oper.mk _ (.store _ _ _) _ _ _ _ :: _) _ _); refine wl_store rfl 30 _ _ rfl _ rfl _ rfl (run_store_arr (Arr.new wr _ _ _) (bys f) info26 (bys_one _ _)) ?_))
          obtain ⟨gn, hgn⟩ : ∃ g, g = wr.heap.size := ⟨_, rfl⟩
          obtain ⟨W1, hW1⟩ : ∃ X, X = (wr.alloc (.cells (vec 32 (bys zb)) 30)).setRow wr.heap.size (vec 32 (bys f)) := ⟨_, rfl⟩
          have hN1 : Arr W1 gn 30 32 (bys f) := by rw [hW1, hgn]; exact (Arr.new wr _ _ _).row _
          have hb1 : Below wr.heap.size wr W1 := by rw [hW1]; exact below_row ((Below.refl _ _).alloc (Nat.le_refl _) _) (Nat.le_refl _) _
          have c33 : W1.cell? ⟨gs, 33, none⟩ = some v1 := (HQ.out.arr.under hb1).cell (i := 33) (by decide)
          have c34 : W1.cell? ⟨gs, 34, none⟩ = some v2 := (HQ.out.arr.under hb1).cell (i := 34) (by decide)
          have H1 := Lib.hid (And.intro hN1 hb1)
          rw [← hW1, ← hgn]
          clear hW1 hgn hN1 hb1 HCc
          by_cases h67 : k < 67
          · have h67I : (k : Int) < 67 := by omega
            have hft : ots.take (k + 1) = ots.take k ++ [f] := by
              rw [List.take_succ_eq_append_getElem (by rw [HL.out.1]; exact h67), HF.out, List.getElem_append_left]
            obtain ⟨A9, n9, c9, y9, hr9, hc9, hz9, h9⟩ := HQ.out.put1 HX.out.2.2.2.2.1 h67 HL.out.1 f hft W1 H1.out.2
            have H9 := Lib.hid h9
            clear h9 hft c34
            go_wp2_with (first
              | ((with_reducible show wpList _ _ _ (Oper.mk _ (.load 30 _) _ _ _ _ :: _) _ _); refine wl_load rfl 30 _ rfl gn rfl _ (run_load_arr H1.out.1 Tryz.underlying30 rfl info26) ?_)
              | ((with_reducible show wpList _ _ _ (Oper.mk _ (.buildSlice _ _ _) _ _ _ _ :: _) _ _); refine wpList_plain rfl fun K hK => ow_build1 _ rfl f rfl (hK _ _ ?_); clear hK K)
              | ((with_reducible show wpList _ _ _ (Oper.mk _ (.call ⟨.builtin .append, _, _⟩) _ _ _ _ :: _) _ _); refine wpList_plain rfl fun K hK => Lib.wp_append_run _ _ _ _ _ rfl _ _ rfl rfl _ _ hr9 (hK _ _ ?_); clear hK K))
            clear hr9 hc9 hz9
            go_roundw
            case rel => exact ⟨k + 1, by omega, by simp, Lib.hid ⟨_, _, _, H9.out⟩⟩
            case measure => simp [intOf]; omega
          · have h67I : ¬ (k : Int) < 67 := by omega
            have hft : auth.take (k - 67 + 1) = auth.take (k - 67) ++ [f] := by
              rw [List.take_succ_eq_append_getElem (by rw [HL.out.2.1]; omega), HF.out, List.getElem_append_right (by rw [HL.out.1]; omega)]
              simp only [HL.out.1]
            obtain ⟨A9, n9, c9, y9, hr9, hc9, hz9, h9⟩ := HQ.out.put2 (Nat.lt_of_lt_of_le HX.out.2.2.2.2.1 (Nat.le_refl _)) (by omega) HL.out.1 (by rw [HL.out.2.1]; omega) (by rw [HL.out.2.1]; exact hle) f hft W1 H1.out.2
            have H9 := Lib.hid h9
            clear h9 hft c33
            go_wp2_with (first
              | ((with_reducible show wpList _ _ _ (Oper.mk _ (.load 30 _) _ _ _ _ :: _) _ _); refine wl_load rfl 30 _ rfl gn rfl _ (run_load_arr H1.out.1 Tryz.underlying30 rfl info26) ?_)
              | ((with_reducible show wpList _ _ _ (Oper.mk _ (.buildSlice _ _ _) _ _ _ _ :: _) _ _); refine wpList_plain rfl fun K hK => ow_build1 _ rfl f rfl (hK _ _ ?_); clear hK K)
              | ((with_reducible show wpList _ _ _ (Oper.mk _ (.call ⟨.builtin .append, _, _⟩) _ _ _ _ :: _) _ _); refine wpList_plain rfl fun K hK => Lib.wp_append_run _ _ _ _ _ rfl _ _ rfl rfl _ _ hr9 (hK _ _ ?_); clear hK K))
            clear hr9 hc9 hz9
            go_roundw
            case rel => exact ⟨k + 1, by omega, by simp, Lib.hid ⟨_, _, _, H9.out⟩⟩
            case measure => simp [intOf]; omega
        · obtain rfl : k = 67 + h := by omega
          have hR1 := HQ.out.r1
          have hR2 := HQ.out.r2
          rw [List.take_of_length_le (by rw [HL.out.1]; omega)] at hR1
          rw [List.take_of_length_le (by rw [HL.out.2.1]; omega)] at hR2
          obtain ⟨A1, c1, rfl, -, -⟩ := hR1.row
          obtain ⟨A2, c2, rfl, -, -⟩ := hR2.row
          rw [HL.out.1] at hR1 HQ
          rw [HL.out.2.1] at hR2 HQ
          have hgr : w.heap.size < X.heap.size := Nat.lt_trans HX.out.2.2.2.2.2 HX.out.2.2.2.2.1
          have hgB := Nat.lt_of_lt_of_le hgr HQ.out.B
          have HR := Lib.hid (And.intro hR1 (And.intro hR2 (And.intro hgr (And.intro hgB (And.intro (HX.out.2.1.save HQ.out.sv HX.out.2.2.2.1) (HX.out.2.2.1.trans (HQ.out.sv.below (Nat.le_of_lt HX.out.2.2.2.2.2) HX.out.2.2.1.size)))))))
          clear hR1 hR2 hgr hgB
          go_wp2_with (first
            | ((with_reducible show wpList _ _ _ (Oper.mk _ (.load _ _) _ _ _ _ :: _) _ _); refine wl_load rfl 46 _ rfl gs rfl _ (run_load_arr HQ.out.arr Tryz.underlying46 rfl infoSig) ?_)
            | ((with_reducible show wpList _ _ _ (Oper.mk _ (.store _ _ _) _ _ _ _ :: _) _ _); refine wl_store rfl 46 _ _ rfl _ rfl _ rfl (run_store_arr HR.out.2.2.2.2.1 (sigF (idx : Int) r (.slice A1 67 c1) (.slice A2 h c2)) infoSig (sigF_one _ _ _ _ rfl rfl _)) ?_))
          refine bodyPost_ret (results_ct rfl _ _ _ rfl (run_load_arr (HR.out.2.2.2.2.1.row _) Tryz.underlying46 rfl infoSig)) rfl (by
            unfold CdPost
            refine ⟨A1, c1, A2, c2, rfl, fun _ => ⟨?_, ?_⟩, below_row HR.out.2.2.2.2.2 (Nat.le_refl _) _⟩
            · exact ownN_at (ownN_save (g := w.heap.size) HR.out.1 ((Save.refl _ _).setRow _) HR.out.2.2.1)
            · exact ownN_at (ownN_save (g := w.heap.size) HR.out.2.1 ((Save.refl _ _).setRow _) HR.out.2.2.2.1))
  refine ⟨fun hn2 => ?_, fun hy => ?_⟩
  · intro A c w hc hl
    rw [hbl] at hc hl ⊢
    refine (key false (decide_eq_false (by rw [HP2.out]; exact hn2)) A c w hc hl).mono ?_
    rintro e w' ⟨A1, c1, A2, c2, rfl, -, hd⟩
    exact ⟨none, 0, none, 0, rfl, NRow.nil _ _ _, NRow.nil _ _ _, hd⟩
  · intro A c w hc hl
    rw [hbl] at hc hl ⊢
    refine (key true (decide_eq_true (by rw [HP2.out]; exact hy)) A c w hc hl).mono ?_
    rintro e w' ⟨A1, c1, A2, c2, rfl, hr, hd⟩
    exact ⟨A1, c1, A2, c2, by rw [hot, hau]; rfl, (hr rfl).1, (hr rfl).2, hd⟩
end Go.Proofs.YtfeiplaiekbdkaaGreatDoor
/- What both SigOf answer. -/
namespace Go.Proofs.YtfeiplaiekbdkaaGreatDoor
open Go.RowKit

/-- What both SigOf answer of bytes. -/
theorem sigOf_both (b : List UInt8) (hb : b.length ≤ 3000) (oid : Nat) (hoid : oid < 4294967296) : ∃ idx r ots auth k, idx < 4294967296 ∧ ots.length ≤ 1000 ∧ auth.length ≤ 1000 ∧ SigAns 14 b oid idx r ots auth k ∧ SigAns 19 b oid idx r ots auth k := by
  cases his : isO oid with
  | false => exact ⟨0, zb, [], [], 80, by decide, by decide, by decide, sigOf_a b oid hoid his, rsigOf_a b oid hoid his⟩
  | true =>
    by_cases hl : b.length = 36 + 32 * (67 + hgtO oid)
    · obtain ⟨idx, r, ots, auth, hidx, hot, hau, rfl⟩ := sig_of b _ hl
      have hle := hgtO_le oid
      by_cases hi : idx < 2 ^ hgtO oid
      · exact ⟨idx, r, ots, auth, 0, hidx, by omega, by omega, (sigOf_cd oid idx r ots auth hoid his hidx hot hau).2 hi, (rsigOf_cd oid idx r ots auth hoid his hidx hot hau).2 hi⟩
      · exact ⟨0, zb, [], [], 81, by decide, by decide, by decide, (sigOf_cd oid idx r ots auth hoid his hidx hot hau).1 hi, (rsigOf_cd oid idx r ots auth hoid his hidx hot hau).1 hi⟩
    · exact ⟨0, zb, [], [], 81, by decide, by decide, by decide, sigOf_b b oid hoid his hl, rsigOf_b b oid hb hoid his hl⟩
end Go.Proofs.YtfeiplaiekbdkaaGreatDoor
/- The chapter's examples: awake. -/
namespace Go.Proofs.YtfeiplaiekbdkaaGreatDoor
open Go.RowKit
attribute [local go_sem ↓ high] zeroV26 zeroKey

set_option maxRecDepth 100000 in
theorem make68 (w : World) : (Instr.makeSlice 22 (.int .i64 68) (.int .i64 68)).run Tryz.prog w = .ok (.slice (some ⟨w.heap.size, 0, none⟩) 68 68) (w.alloc (.cells (vec 68 (bys zb)) 5)) := by
  obtain ⟨i0, hi, hz0, hz1, hz2⟩ := info_parts u8_info
  have h := run_make (P := Tryz.prog) (w := w) 22 5 i0 (.int .u8 0) Tryz.underlying22 hi hz0 .i64 .i64 68 68 (by omega) (by omega) (by rw [hz2]; omega) (by omega)
  rw [hz1] at h
  rw [h]
  congr 3
  kernel_rfl
set_option maxRecDepth 100000 in
theorem zeros_key : (vec 68 (bys zb)).toList = u8s (keyL 0 zb zb) := by kernel_rfl
set_option maxHeartbeats 1000000 in
set_option maxRecDepth 100000 in
theorem awake8_any (w : World) :
    Calls Tryz.prog 5 #[] w fun e w' => e = .returned (.bool true) ∧ Below w.heap.size w w' := by
  have hmk := make68 w
  obtain ⟨V, hV⟩ : ∃ V, V = w.alloc (.cells (vec 68 (bys zb)) 5) := ⟨_, rfl⟩
  have hl : Lies V V.heap.size 1 (some ⟨w.heap.size, 0, none⟩) 68 (u8s (keyL 0 zb zb)) := by
    rw [hV]; exact (lies_new w (vec 68 (bys zb)) 5 68 _ zeros_key (by rw [u8s_length, keyL_length])).wide (by simp)
  have hB : Below w.heap.size w V := by rw [hV]; exact (Below.refl _ _).alloc (Nat.le_refl _) _
  rw [← hV] at hmk
  have HK := Lib.hid (keyOf_yes (some ⟨w.heap.size, 0, none⟩) 68 0 zb zb V (by decide) (Nat.le_refl _) hl)
  have HS := Lib.hid (fun W => size_any 1 (by decide) W)
  have HB := Lib.hid hB
  clear hl hB hV
  go_enter Tryz.func5, Tryz.ntmps5
  go_wp2_with (first
    | (go_at_call 12; refine (HS.out _).mono ?_; rintro e w1 ⟨rfl, hw1⟩; rw [← hw1]; clear hw1)
    | (go_at_call 13; refine HK.out.mono ?_; rintro e w1 ⟨rfl, hd⟩; have HD := Lib.hid hd; clear hd)
    | ((with_reducible show wpList _ _ _ (Oper.mk _ (.store _ _ _) _ _ _ _ :: _) _ _); refine wl_store rfl 33 _ _ rfl _ rfl _ rfl (run_store_arr (Arr.new w1 _ _ _) (keyR 0 zb zb) infoKey (keyR_one _ _ _ _)) ?_))
  go_ret
  exact ⟨rfl, HB.out.trans ((HD.out.mono HB.out.size).trans (below_row ((Below.refl _ _).alloc (Nat.le_trans HB.out.size HD.out.size) _) (Nat.le_trans HB.out.size HD.out.size) _))⟩
end Go.Proofs.YtfeiplaiekbdkaaGreatDoor
