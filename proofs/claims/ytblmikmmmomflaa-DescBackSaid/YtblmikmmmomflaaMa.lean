/- Merged: Mem, Law, App, Vec, Ge, Held, Held3, Vs9. -/
import Derived.Below
import Derived.WalkKit
import Derived.Laws.OwnMore
import Derived.Deep.Draws
import Derived.Lib.Hide
import Derived.Deep.QuietTactic
import Derived.IntWalk
import Derived.ProofKit
import Derived.OpenShut
import Derived.Deep.DeepHandedRow
import Derived.Lib.LaidTab
import Derived.Maps.AppendAt
import Derived.Deep.AppendLies
import Derived.RegionTactic
import Derived.OwnWalk
import Derived.Deep.WholeRow
import Derived.Laws.CopyRow
import Derived.Great.BuildSlice
import Derived.Deep.RegionHeld
import Derived.Deep.Cut
import Derived.BigQuiet
/- Words for memory: a slice that reads as a list of cells. Own lemmas of the verifier. -/
namespace Go.Proofs.Ytblmikmmmomflaa
open Go.RowKit

theorem addr_add_block (a : Addr) (n : Nat) : (a.add n).block = a.block := by
  unfold Addr.add
  by_cases h : n = 0 <;> simp [h]
theorem addr_add_add (a : Addr) (i j : Nat) : (a.add i).add j = a.add (i + j) := by
  unfold Addr.add
  by_cases hi : i = 0 <;> by_cases hj : j = 0 <;> simp [hi, hj, Nat.add_assoc]

/-- The slice of n elements of 'size' cells at A holds the cells xs; all of it lies below block B. -/
def Lies (w : World) (B size : Nat) (A : Option Addr) (n : Nat) (xs : List Value) : Prop :=
  xs.length = n * size ∧ (n ≠ 0 → ∃ a, A = some a ∧ a.block < B ∧ ∀ j (h : j < xs.length), w.cell? (a.add j) = some xs[j])

section
variable {w w' : World} {B B' size n : Nat} {A : Option Addr} {xs : List Value}
theorem Lies.nil (w : World) (B size : Nat) (A : Option Addr) : Lies w B size A 0 [] := ⟨by simp, fun h => absurd rfl h⟩
theorem Lies.at1 {k : Nat} (h : Lies w B 1 A n xs) (hk : k < n) : ∃ (a : Addr) (hx : k < xs.length), A = some a ∧ a.block < B ∧ w.cell? (a.add k) = some xs[k] := by
  obtain ⟨a, e, hb, hc⟩ := h.2 (by omega)
  have hl : k < xs.length := by have := h.1; omega
  exact ⟨a, hl, e, hb, hc k hl⟩
theorem Lies.atMap {α : Type} {f : α → Value} {ys : List α} {k : Nat} (h : Lies w B 1 A n (ys.map f)) (hk : k < n) : ∃ (a : Addr) (hx : k < ys.length), A = some a ∧ a.block < B ∧ w.cell? (a.add k) = some (f ys[k]) := by
  obtain ⟨a, hl, e, hb, hc⟩ := h.at1 hk
  exact ⟨a, by simpa using hl, e, hb, by simpa using hc⟩
theorem Lies.same (h : Lies w B size A n xs) (hk : ∀ p : Addr, p.block < B → w'.cell? p = w.cell? p) : Lies w' B size A n xs :=
  ⟨h.1, fun hn => by
    obtain ⟨a, e, hb, hc⟩ := h.2 hn
    exact ⟨a, e, hb, fun j hj => (hk _ (by rw [addr_add_block]; exact hb)).trans (hc j hj)⟩⟩
theorem Lies.wide (h : Lies w B size A n xs) (hB : B ≤ B') : Lies w B' size A n xs :=
  ⟨h.1, fun hn => by
    obtain ⟨a, e, hb, hc⟩ := h.2 hn
    exact ⟨a, e, Nat.lt_of_lt_of_le hb hB, hc⟩⟩
theorem Lies.below (h : Lies w B size A n xs) (hb : Below B w w') : Lies w' B size A n xs := h.same fun _ hp => hb.cell hp
theorem Lies.drew (h : Lies w B size A n xs) : Lies w.drew B size A n xs := h
theorem Lies.drewN (h : Lies w B size A n xs) (k : Nat) : Lies (w.drewN k) B size A n xs := h
theorem Lies.alloc (h : Lies w B size A n xs) (hB : B ≤ w.heap.size) (o : Obj) : Lies (w.alloc o) B size A n xs := h.same fun p hp => World.cell?_alloc_lt w o p (by omega)
theorem Lies.set (h : Lies w B size A n xs) {p : Addr} (hB : B ≤ p.block) (u : Value) : Lies (w.setCell p u) B size A n xs :=
  h.same fun q hq => World.cell?_setCell_other w p q u (fun e => by subst e; omega)
theorem Lies.grown (h : Lies w B size A n xs) {row : Option Nat} (hg : w.grownBy w' row) (hB : B ≤ w.heap.size) (hr : ∀ g, row = some g → B ≤ g) : Lies w' B size A n xs :=
  h.same fun p hp => World.cell?_of_block (hg.block p.block (by omega) (fun e => by have := hr _ e.symm; omega))
theorem Lies.of_owns {base : Nat} {e : TypeId} {c : Nat} (h : w.ownsRow base e size (.slice A n c) n xs) : Lies w w.heap.size size A n xs := by
  refine ⟨h.1, fun hn => ?_⟩
  rcases h.2 with ⟨_, hz⟩ | ⟨g, cap, cur, hv, hg, hh, _⟩
  · exact absurd hz hn
  · injection hv with hA
    subst hA
    have hlt : g < w.heap.size := by
      rcases Nat.lt_or_ge g w.heap.size with hl | hl
      · exact hl
      · rw [Array.getElem?_eq_none hl] at hh; cases hh
    exact ⟨_, rfl, hlt, fun j hj => h.cells (g := g) rfl j _ (List.getElem?_eq_getElem hj)⟩
end

/-- A callee that leaves the world as it was, inside a region that draws its order. -/
theorem quiet_eq {P : Program} {f : FuncId} {args : Array Value} {w : World} {n : Nat} {v : Value}
    (h : Calls P f args (w.drewN n) fun e w' => e = .returned v ∧ w.drewN n = w') : Calls P f args (w.drewN n) fun e w'' => e = .returned v ∧ ∃ m, w'' = w.drewN m :=
  h.mono fun _ _ ⟨he, hm⟩ => ⟨he, n, hm.symm⟩

/-- Bytes as cells. -/
def u8s (l : List UInt8) : List Value := l.map fun b => Value.int .u8 (b.toNat : Int)
theorem u8s_length (l : List UInt8) : (u8s l).length = l.length := by simp [u8s]
theorem u8_lt (b : UInt8) : (b.toNat : Int) < 256 := by have := b.toNat_lt; omega
theorem lies_new (w : World) (cs : Array Value) (t : TypeId) (n : Nat) (xs : List Value) (h : cs.toList = xs) (hn : xs.length = n) :
    Lies (w.alloc (.cells cs t)) (w.heap.size + 1) 1 (some ⟨w.heap.size, 0, none⟩) n xs := by
  refine ⟨by omega, fun _ => ⟨_, rfl, Nat.lt_succ_self _, fun j hj => ?_⟩⟩
  subst h
  have e : ((⟨w.heap.size, 0, none⟩ : Addr).add j) = ⟨w.heap.size, j, none⟩ := by
    unfold Addr.add; by_cases h0 : j = 0 <;> simp [h0]
  rw [e, cell_of_row _ w.heap.size j cs t (0, 0) (heap_alloc_new w _)]
  simp at hj ⊢
end Go.Proofs.Ytblmikmmmomflaa
/- The frame of every law: a call that returns true and leaves what was there as it was. -/
namespace Go.Proofs.Ytblmikmmmomflaa
open Go.ChangeShapes Go.WideShapes Go.ChangeAt Go.RowKit
section
variable {H : Type} {enc : TypeId × Value → H} {P : Program}

theorem trodAll_still {W W' : World} {sp : Nat → Bool} (hl : laidOutB P = true) : ∀ (ts : List TypeId) (vs : List Value) (ds : List (DataW H)) (ps : List MemPlace),
    (∀ t ∈ ts, P.readableRec t = true ∧ t < P.types.size) → DataW.TrodAll enc P W 0 (fun _ => true) true ts vs ds ps → (∀ p ∈ ps, W.sameAt W' p) → (∀ p ∈ ps, sp p.block = true) →
    DataW.TrodAll enc P W' 0 sp true ts vs ds ps
  | [], [], [], _, _, h, _, _ => h
  | [], [], _ :: _, _, _, h, _, _ => (h : False).elim
  | [], _ :: _, _, _, _, h, _, _ => (h : False).elim
  | _ :: _, [], _, _, _, h, _, _ => (h : False).elim
  | _ :: _, _ :: _, [], _, _, h, _, _ => (h : False).elim
  | t :: ts, v :: vs, d :: ds, ps, hr, h, hs, hp => by
    obtain ⟨p, q, h1, h2, rfl⟩ := h
    have ht := hr t (by simp)
    exact ⟨p, q, WideElems.Trod_stays hl ht.1 ht.2 h1 (fun x hx => hs x (by simp [hx])) (fun x hx => hp x (by simp [hx])),
      trodAll_still hl ts vs ds q (fun t' h' => hr t' (by simp [h'])) h2 (fun x hx => hs x (by simp [hx])) (fun x hx => hp x (by simp [hx])), rfl⟩

/-- WHAT EVERY LAW's END ASKS: 'true', and nothing that was there has turned. -/
theorem law_post {f : Func} {s : ChangeSpec} {W W' : World} {args : Array Value} {ds gs : List (DataW H)} {before : List MemPlace} {tb : TypeId} (hl : laidOutB P = true)
    (hr : ∀ t ∈ f.params.toList, P.readableRec t = true ∧ t < P.types.size) (hv : s.vars = []) (hf : f.resultTypes = #[tb]) (hb : P.underlying tb = some .bool)
    (hfn : gs = [] → (s.fn H ds).results = [.lit (.bool true)] ∧ (s.fn H ds).args = ds ∧ (s.fn H ds).vars = [])
    (hW : DataW.Whole enc P f.params.toList s.vars false W args.toList ds gs before) (hbel : Below W.heap.size W W') :
    s.post enc P f false true false false W args (.bool true) W' := by
  have hlt : ∀ p ∈ before, p.block < W.heap.size := fun p hp => hW.lt p hp
  have hW2 := hW
  obtain ⟨p, q, hA, hV, rfl, _, _⟩ := hW
  rw [hv] at hV
  obtain ⟨rfl, rfl⟩ := trodVars_none hV
  obtain ⟨e1, e2, e3⟩ := hfn rfl
  simp only [List.append_nil] at hlt hW2
  refine ⟨ds, [], p, [], p, [], hW2, ?_, ?_, ?_, hbel.frame _, fun h => by cases h⟩
  · rw [List.append_nil, e1, hf]
    exact trodAll_mk1 (shut_bool hb _)
  · rw [List.append_nil, e2]
    exact trodAll_still hl _ _ _ _ hr hA (fun x hx => hbel.same (hlt x hx)) (fun x hx => by simpa using hlt x hx)
  · rw [List.append_nil, e3, hv]
    exact rfl
end

theorem u8_of_wf {z : Int} (h : (Lit.int .u8 z).wf = true) : ∃ b : UInt8, z = (b.toNat : Int) := by
  have hb := bounds_u8 h
  refine ⟨UInt8.ofNat z.toNat, ?_⟩
  rw [UInt8.toNat_ofNat']
  omega
theorem u8s_of_wf : ∀ (zs : List Int), (∀ n ∈ zs, (Lit.int .u8 n).wf = true) → ∃ l : List UInt8, zs = l.map fun b => (b.toNat : Int)
  | [], _ => ⟨[], rfl⟩
  | z :: zs, h => by
    obtain ⟨b, rfl⟩ := u8_of_wf (h z (by simp))
    obtain ⟨l, rfl⟩ := u8s_of_wf zs (fun n hn => h n (by simp [hn]))
    exact ⟨b :: l, rfl⟩
/-- An argument of type []byte: bytes, below the heap's end. -/
theorem open_bytes {H : Type} {enc : TypeId × Value → H} {P : Program} {W : World} {t e : TypeId} {v : Value} {d : DataW H} {ps : List MemPlace} {r : Reach} {base : Nat}
    (ht : P.underlying t = some (.slice e)) (he : P.underlying e = some (.int .u8)) (hc : P.cellsOf e = 1) (hv : Value.okWide P W r base t v)
    (h : DataW.Trod enc P W 0 (fun _ => true) true t v d ps) : ∃ (A : Option Addr) (c : Nat) (l : List UInt8), v = .slice A l.length c ∧ l.length ≤ maxLen ∧ Lies W W.heap.size 1 A l.length (u8s l) := by
  obtain ⟨a0, len, cap, rfl⟩ := okWide_slice ht hv
  obtain ⟨fuel, hf⟩ := h
  rcases open_ints ht he hc hf with ⟨hcs, _⟩ | ⟨a, len', cap', zs, hcs, _, hle, hm, hz, _, hcell, hwz⟩
  · simp [Value.cells] at hcs
    obtain ⟨rfl, rfl, rfl⟩ := hcs
    exact ⟨none, 0, [], rfl, Nat.zero_le _, Lies.nil _ _ _ _⟩
  · simp [Value.cells] at hcs
    obtain ⟨rfl, rfl, rfl⟩ := hcs
    obtain ⟨l, hl⟩ := u8s_of_wf (zs.take len) (fun n hn => hwz n (List.mem_of_mem_take hn))
    simp at hz
    have hll : l.length = len := by
      have := congrArg List.length hl
      simp at this; omega
    refine ⟨some a, cap, l, by rw [hll], by omega, by rw [u8s_length]; omega, fun hn => ⟨a, rfl, ?_, fun j hj => ?_⟩⟩
    · have h0 := hcell 0 (by omega)
      have e0 : a.add 0 = a := by simp [Addr.add]
      rw [e0] at h0
      exact World.block_lt_of_cell? W a h0
    · rw [u8s_length] at hj
      rw [hcell j (by omega)]
      have hj2 : (zs.take len)[j]? = (l.map fun b => (b.toNat : Int))[j]? := by rw [hl]
      rw [List.getElem?_take, if_pos (by omega), List.getElem?_map, List.getElem?_eq_getElem hj] at hj2
      simp only [u8s, List.getElem_map]
      rw [List.getD_eq_getElem?_getD, hj2]
      rfl

theorem laid_mem {P : Program} {w : World} : ∀ (l : List (String × DataW Unit)) (ps : List MemPlace), DataW.LaidVars P w l ps → ∀ n d, (n, d) ∈ l →
    ∃ g t cs fuel p, P.globalNamed n = some g ∧ (P.globals[g]?).map (·.type) = some t ∧ w.var? P n = some cs ∧ DataW.trod (fun _ => ()) P w 0 (fun _ => true) false fuel t cs.toList = some (d, p)
  | [], _, _, _, _, h => by cases h
  | (n', d') :: r, ps, hl, n, d, h => by
    obtain ⟨g, t, cs, fuel, p, q, h1, h2, h3, h4, h5, _⟩ := hl
    rcases List.mem_cons.1 h with h | h
    · injection h with e1 e2
      subst e1 e2
      exact ⟨g, t, cs, fuel, p, h1, h2, h3, h4⟩
    · exact laid_mem r q h5 n d h
/-- A table of integers that is listed, wherever it stands on the list: its cells. -/
theorem laid_tab {P : Program} {W : World} {l : List (String × DataW Unit)} {name : String} {k : IntKind} {zs : List Int} {g : Nat} {t e : TypeId} {n : Nat} (h : laidMet P l W) (hm : (name, Lib.tabData k zs) ∈ l)
    (hg : P.globalNamed name = some g) (hty : (P.globals[g]?).map (·.type) = some t) (ht : P.underlying t = some (.array n e)) (he : P.underlying e = some (.int k)) (hce : P.cellsOf e = 1) (hct : P.cellsOf t = n)
    (i : Nat) (hi : i < zs.length) : W.cell? ⟨g, i, none⟩ = some (.int k (zs.getD i 0)) := by
  obtain ⟨ps, hl, _⟩ := h
  obtain ⟨g', t', cs, fuel, p, h1, h2, h3, h4⟩ := laid_mem l ps hl _ _ hm
  obtain rfl := Option.some.inj (hg.symm.trans h1)
  obtain rfl := Option.some.inj (hty.symm.trans h2)
  have hcs := Lib.cells_of_tab ht he hce hct h4
  have h5 := World.var?_cell hg h3 i
  rw [h5]
  have : cs[i]? = cs.toList[i]? := by simp
  rw [this, hcs, List.getElem?_map, List.getElem?_eq_getElem hi, List.getD_eq_getElem?_getD, List.getElem?_eq_getElem hi]
  rfl
end Go.Proofs.Ytblmikmmmomflaa
/- append onto a row of the call's own: the source may be nil, empty or not. -/
namespace Go.Proofs.Ytblmikmmmomflaa
open Go.RowKit
section
variable {P : Program} {w : World}

theorem run_app_nil (base : Nat) (t ty e : TypeId) (i : TypeInfo) (ht : P.underlying t = some (.slice e)) (hi : P.info? e = some i)
    (v : Value) (n : Nat) (xs : List Value) (hown : w.ownsRow base e 1 v n xs) (c : Nat) : (Builtin.append_ #[t, t] ty #[v, .slice none 0 c]).run P w = .ok v w := by
  rcases hown.2 with ⟨rfl, _⟩ | ⟨g, cap, cur, rfl, _, _, hle, _⟩
  · simp [Builtin.append_, Builtin.lenOf, Builtin.firstCells, run_underlying ht, sizeOf, typeInfo, hi]
  · simp [Builtin.append_, Builtin.lenOf, Builtin.firstCells, run_underlying ht, sizeOf, typeInfo, hi, hle, storeCells]

theorem run_app (base : Nat) (t ty e : TypeId) (i : TypeInfo) (z : Value) (bytes : Nat) (ht : P.underlying t = some (.slice e)) (hi : P.info? e = some i) (hz : i.zero = some z)
    (hsize : i.size = 1) (hby : i.bytes = bytes) (hzs : z.cells.size = 1) (v : Value) (n : Nat) (xs : List Value) (hown : w.ownsRow base e 1 v n xs)
    (B : Nat) (A : Option Addr) (m c : Nat) (news : List Value) (hr : Lies w B 1 A m news) (h1 : ∀ u ∈ news, u.oneCell' = true)
    (h63 : n + m ≤ maxLen) (hbytes : (n + m) * bytes ≤ 140737488355328) (hbase : base ≤ w.heap.size) :
    ∃ v' w', (Builtin.append_ #[t, t] ty #[v, .slice A m c]).run P w = .ok v' w' ∧ w'.ownsRow base e 1 v' (n + m) (xs ++ news) ∧ w.grownBy w' v.ownBlock ∧
      (v'.ownBlock = v.ownBlock ∨ v'.ownBlock = some w.heap.size) := by
  have hlen : news.length = m * 1 := hr.1
  rcases A with _ | a
  · obtain rfl : m = 0 := by
      rcases Nat.eq_zero_or_pos m with h0 | h0
      · exact h0
      · obtain ⟨_, h, _⟩ := hr.2 (by omega)
        cases h
    obtain rfl : news = [] := List.eq_nil_of_length_eq_zero (by omega)
    exact ⟨v, w, run_app_nil base t ty e i ht hi v n xs hown c, by simpa using hown, World.grownBy.refl w _, Or.inl rfl⟩
  · have hc : ∀ (j : Nat) (u : Value), news[j]? = some u → w.cell? (a.add j) = some u := by
      intro j u hu
      obtain ⟨hj, rfl⟩ := List.getElem?_eq_some_iff.1 hu
      obtain ⟨a', h, _, hc⟩ := hr.2 (by omega)
      injection h with h
      subst h
      exact hc j hj
    obtain ⟨v', w', hrun, h2, h3, _, h5⟩ := run_append_own_at (P := P) w base t ty e i z 1 bytes ht hi hz hsize hby hzs (by omega) v n xs hown a m c news hlen hc h1 h63 hbytes hbase
    exact ⟨v', w', hrun, h2, h3, h5⟩

theorem wpList_app {ops : Array Oper} {rest : List Oper} {o : Oper} {a : Act} {Q : Exit → Act → World → Prop} (hgd : o.guard = none) (s x : Operand) (t : TypeId)
    (ho : o.op = .call { callee := .builtin .append, args := #[s, x], argTypes := #[t, t] })
    (base : Nat) (e : TypeId) (i : TypeInfo) (z : Value) (bytes : Nat) (ht : P.underlying t = some (.slice e)) (hi : P.info? e = some i) (hz : i.zero = some z)
    (hsize : i.size = 1) (hby : i.bytes = bytes) (hzs : z.cells.size = 1) (v : Value) (n : Nat) (xs : List Value) (hs : a.eval s = v) (hown : w.ownsRow base e 1 v n xs)
    (B : Nat) (A : Option Addr) (m c : Nat) (news : List Value) (hx : a.eval x = .slice A m c) (hr : Lies w B 1 A m news) (h1 : ∀ u ∈ news, u.oneCell' = true)
    (h63 : n + m ≤ maxLen) (hbytes : (n + m) * bytes ≤ 140737488355328) (hbase : base ≤ w.heap.size)
    (h : ∀ v' w', w'.ownsRow base e 1 v' (n + m) (xs ++ news) → w.grownBy w' v.ownBlock → (v'.ownBlock = v.ownBlock ∨ v'.ownBlock = some w.heap.size) → wpList P ops Q rest (a.put o.dst v') w') :
    wpList P ops Q (o :: rest) a w := by
  refine wpList_plain hgd fun K hK => ?_
  obtain ⟨v', w', hrun, h2, h3, h4⟩ := run_app (P := P) base t o.type e i z bytes ht hi hz hsize hby hzs v n xs hown B A m c news hr h1 h63 hbytes hbase
  unfold Oper.wp execOp
  simp only [ho, resolve, invoke, builtin, Sem.run_bind, Sem.run_pure, Result.andThen_ok, List.map_toArray, List.map_cons, List.map_nil, hs, hx, hrun]
  exact hK _ _ (h v' w' h2 h3 h4)
end

/-- An owned row is the call's own: a slice value with its cells. -/
theorem owns_form {w : World} {base : Nat} {e : TypeId} {v : Value} {n : Nat} {xs : List Value} (h : w.ownsRow base e 1 v n xs) :
    ∃ A c, v = .slice A n c ∧ Lies w w.heap.size 1 A n xs := by
  rcases h.2 with ⟨rfl, rfl⟩ | ⟨g, cap, cur, rfl, _⟩
  · exact ⟨none, 0, rfl, Lies.of_owns h⟩
  · exact ⟨_, cap, rfl, Lies.of_owns h⟩
theorem owns_below {w w' : World} {base : Nat} {e : TypeId} {v : Value} {n : Nat} {xs : List Value} (h : w.ownsRow base e 1 v n xs) (hb : Below w.heap.size w w') : w'.ownsRow base e 1 v n xs := by
  refine ⟨h.1, ?_⟩
  rcases h.2 with h2 | ⟨g, cap, cur, hv, hg, hh, r⟩
  · exact Or.inl h2
  · have hlt : g < w.heap.size := by
      rcases Nat.lt_or_ge g w.heap.size with hl | hl
      · exact hl
      · rw [Array.getElem?_eq_none hl] at hh; cases hh
    exact Or.inr ⟨g, cap, cur, hv, hg, (hb.block g hlt).trans hh, r⟩
theorem owns_mono {w : World} {base base' : Nat} {e : TypeId} {v : Value} {n : Nat} {xs : List Value} (h : w.ownsRow base e 1 v n xs) (hb : base' ≤ base) : w.ownsRow base' e 1 v n xs := by
  refine ⟨h.1, ?_⟩
  rcases h.2 with h2 | ⟨g, cap, cur, hv, hg, r⟩
  · exact Or.inl h2
  · exact Or.inr ⟨g, cap, cur, hv, Nat.le_trans hb hg, r⟩
theorem u8s_one (l : List UInt8) : ∀ u ∈ u8s l, u.oneCell' = true := by
  intro u hu
  obtain ⟨b, _, rfl⟩ := List.mem_map.1 hu
  rfl
theorem u8s_append (a b : List UInt8) : u8s a ++ u8s b = u8s (a ++ b) := by simp [u8s]
/-- What grew by an append onto an owned row, below a base. -/
theorem below_app {B base : Nat} {a w w' : World} {v : Value} (h : Below B a w) (hg : w.grownBy w' v.ownBlock) (hB : B ≤ w.heap.size) (hv : ∀ k, v.ownBlock = some k → base ≤ k) (hb : B ≤ base) : Below B a w' :=
  h.grown hg hB fun k hk => Nat.le_trans hb (hv k hk)
theorem below_up {B : Nat} {w w1 : World} (h : Below B w w1) (o : Obj) : w.heap.size ≤ (w1.alloc o).heap.size := by
  have := h.size
  simp; omega
theorem lies_up {w w1 : World} {A : Option Addr} {n : Nat} {xs : List Value} (h : Lies w w.heap.size 1 A n xs) (hb : Below w.heap.size w w1) (o : Obj) : Lies (w1.alloc o) (w1.alloc o).heap.size 1 A n xs :=
  ((h.below hb).alloc hb.size o).wide (below_up hb o)
theorem lies_one (w : World) (x : Value) (t : TypeId) : Lies (w.alloc (.cells #[x] t)) (w.alloc (.cells #[x] t)).heap.size 1 (some ⟨w.heap.size, 0, none⟩) 1 [x] := by
  have := lies_new w #[x] t 1 [x] rfl rfl
  simpa using this

end Go.Proofs.Ytblmikmmmomflaa
/- Arrays and blocks of cells that are told by a function: of any program. -/
namespace Go.Proofs.Ytblmikmmmomflaa
open Go.RowKit

def vec (n : Nat) (f : Nat → Value) : Array Value := ((List.range n).map f).toArray
theorem vec_size (n : Nat) (f : Nat → Value) : (vec n f).size = n := by simp [vec]
theorem vec_at (n : Nat) (f : Nat → Value) (i : Nat) (h : i < n) : (vec n f)[i]? = some (f i) := by
  simp [vec, h]
theorem vec_congr {n : Nat} {f g : Nat → Value} (h : ∀ i, i < n → f i = g i) : vec n f = vec n g := by
  unfold vec
  congr 1
  exact List.map_congr_left fun i hi => h i (List.mem_range.1 hi)
theorem vec_inj {n : Nat} {f g : Nat → Value} (h : vec n f = vec n g) : ∀ i, i < n → f i = g i := by
  intro i hi
  have h1 := vec_at n f i hi
  rw [h, vec_at n g i hi] at h1
  exact (Option.some.inj h1).symm
def upd {α : Type} (f : Nat → α) (i : Nat) (x : α) : Nat → α := fun j => if j = i then x else f j
theorem upd_at {α : Type} (f : Nat → α) (i : Nat) (x : α) : upd f i x i = x := by simp [upd]
theorem upd_ne {α : Type} (f : Nat → α) (i : Nat) (x : α) (j : Nat) (h : j ≠ i) : upd f i x j = f j := by simp [upd, h]
theorem vec_set (n : Nat) (f : Nat → Value) (i : Nat) (x : Value) : (vec n f).setIfInBounds i x = vec n (upd f i x) := by
  apply Array.ext_getElem?
  intro j
  rw [Array.getElem?_setIfInBounds, vec_size]
  by_cases hj : j < n
  · rw [vec_at n _ j hj, vec_at n _ j hj]
    by_cases e : i = j
    · subst e; simp [upd, hj]
    · simp [upd, e, Ne.symm e]
  · by_cases e : i = j
    · subst e; simp [hj, vec]
    · simp [e, hj, vec]

/-- Block g is an array of n cells, no more. -/
def Arr (w : World) (g : Nat) (t : TypeId) (n : Nat) (f : Nat → Value) : Prop := w.heap[g]? = some (.cells (vec n f) t (0, 0))
section
variable {w w' : World} {g n : Nat} {t : TypeId} {f f' : Nat → Value}
theorem Arr.lt (h : Arr w g t n f) : g < w.heap.size := by
  rcases Nat.lt_or_ge g w.heap.size with hlt | hge
  · exact hlt
  · unfold Arr at h; rw [Array.getElem?_eq_none hge] at h; cases h
theorem Arr.cell (h : Arr w g t n f) {i : Nat} (hi : i < n) : w.cell? ⟨g, i, none⟩ = some (f i) := (cell_of_row w g i _ t (0, 0) h).trans (vec_at n f i hi)
theorem Arr.frozen (h : Arr w g t n f) (i : Nat) : w.frozen? ⟨g, i, none⟩ = false := by
  unfold Arr at h; simp [World.frozen?, h]
theorem Arr.new (w : World) (t : TypeId) (n : Nat) (f : Nat → Value) : Arr (w.alloc (.cells (vec n f) t)) w.heap.size t n f := heap_alloc_new w _
theorem Arr.new' (w : World) (t : TypeId) (n : Nat) (f : Nat → Value) (cs : Array Value) (hc : cs = vec n f) : Arr (w.alloc (.cells cs t)) w.heap.size t n f := by
  subst hc; exact Arr.new w t n f
theorem Arr.newAt (w : World) (t : TypeId) (n : Nat) (f : Nat → Value) {g : Nat} (hg : g = w.heap.size) : Arr (w.alloc (.cells (vec n f) t)) g t n f := by
  subst hg; exact Arr.new w t n f
theorem Arr.drewN (h : Arr w g t n f) (k : Nat) : Arr (w.drewN k) g t n f := h
theorem Arr.alloc (h : Arr w g t n f) (o : Obj) : Arr (w.alloc o) g t n f := (Below.heap_alloc w o g h.lt).trans h
theorem Arr.set (h : Arr w g t n f) (i : Nat) (u : Value) : Arr (w.setCell ⟨g, i, none⟩ u) g t n (upd f i u) := by
  unfold Arr at h ⊢
  rw [← vec_set]
  simp [World.setCell, Array.getElem?_modify, h]
theorem Arr.far (h : Arr w g t n f) {p : Addr} (hp : g ≠ p.block) (u : Value) : Arr (w.setCell p u) g t n f := (Below.heap_setCell w p u g hp).trans h
theorem Arr.below {B : Nat} (h : Arr w g t n f) (hb : Below B w w') (hg : g < B) : Arr w' g t n f := (hb.block g hg).trans h
theorem Arr.under (h : Arr w g t n f) (hb : Below w.heap.size w w') : Arr w' g t n f := h.below hb h.lt
theorem Arr.grown {row : Option Nat} (h : Arr w g t n f) (hb : w.grownBy w' row) (hg : some g ≠ row) : Arr w' g t n f := (hb.block g h.lt hg).trans h
theorem Arr.congr (h : Arr w g t n f) (hf : ∀ i, i < n → f i = f' i) : Arr w g t n f' := by
  unfold Arr at h ⊢; rw [← vec_congr hf]; exact h
theorem Arr.row (h : Arr w g t n f) (f' : Nat → Value) : Arr (w.setRow g (vec n f')) g t n f' := by
  unfold Arr at h ⊢
  simp [World.setRow, Array.getElem?_modify, h]
theorem Arr.rowFar (h : Arr w g t n f) {g' : Nat} (hp : g ≠ g') (c : Array Value) : Arr (w.setRow g' c) g t n f := by
  unfold Arr at h ⊢
  simp [World.setRow, Array.getElem?_modify, h, Ne.symm hp]
theorem Arr.lies {B : Nat} (h : Arr w g t n f) (hB : g < B) (a m : Nat) (hm : a + m ≤ n) : Lies w B 1 (some ⟨g, a, none⟩) m ((List.range m).map fun i => f (a + i)) := by
  refine ⟨by simp, fun _ => ⟨_, rfl, hB, fun j hj => ?_⟩⟩
  have e : ((⟨g, a, none⟩ : Addr).add j) = ⟨g, a + j, none⟩ := by
    unfold Addr.add; by_cases h0 : j = 0 <;> simp [h0]
  simp at hj
  rw [e, h.cell (by omega)]
  simp
theorem below_drewN {B : Nat} (h : Below B w w') (k : Nat) : Below B w (w'.drewN k) := ⟨h.1, h.2, h.3, h.4, h.5⟩
theorem below_row {B : Nat} (h : Below B w w') (hB : B ≤ g) (c : Array Value) : Below B w (w'.setRow g c) := by
  refine ⟨h.1, h.2, h.3, by have := h.4; simpa [World.setRow] using this, fun b hb => ?_⟩
  rw [← h.5 b hb]
  simp [World.setRow, Array.getElem?_modify, show g ≠ b by omega]
theorem run_load_arr {P : Program} {ty : TypeId} {d : TypeDesc} (h : Arr w g t n f) (hu : P.underlying ty = some d) (hd : (match d with | .struct _ | .array _ _ => true | _ => false) = true) (hi : (P.info? ty).map (·.size) = some n) :
    (loadVar ty ⟨g, 0, none⟩).run P w = .ok (.agg (vec n f)) w :=
  run_loadVar_row w g t ty (vec n f) (0, 0) d h hu hd (by rw [vec_size]; exact hi)
theorem run_store_arr {P : Program} {ty : TypeId} (h : Arr w g t n f) (f' : Nat → Value) (hi : (P.info? ty).map (·.size) = some n) (h1 : ∀ i, i < n → (f' i).oneCell' = true) :
    (storeVar ty ⟨g, 0, none⟩ (.agg (vec n f'))).run P w = .ok () (w.setRow g (vec n f')) :=
  run_storeVar_row w g t ty (vec n f) (vec n f') h (by rw [vec_size]; exact hi) (by rw [vec_size, vec_size]) (by
    rw [Array.all_eq_true_iff_forall_mem]
    intro v hv
    simp [vec] at hv
    obtain ⟨i, hi, rfl⟩ := hv
    exact h1 i hi)
end
def bys (b : Nat → UInt8) : Nat → Value := fun i => .int .u8 ((b i).toNat : Int)
theorem bys_one (h : Nat → UInt8) (n : Nat) : ∀ i, i < n → (bys h i).oneCell' = true := fun _ _ => rfl
theorem bys_upd (h : Nat → UInt8) (i : Nat) (x : UInt8) : upd (bys h) i (.int .u8 (x.toNat : Int)) = bys (upd h i x) := by
  funext j; by_cases e : j = i <;> simp [upd, bys, e]
section
variable {P : Program} {w w' : World} {ops : Array Oper} {rest : List Oper} {o : Oper} {a : Act} {Q : Exit → Act → World → Prop}
theorem results_cell1 {fn : Func} {p : Tmp} {ty : TypeId} (h : fn.results = #[.cell p ty]) (tmps : Array Value) (g : Nat) (v : Value)
    (ha : tmps.getD p undef = .pointer (some ⟨g, 0, none⟩)) (hl : (loadVar ty ⟨g, 0, none⟩).run P w = .ok v w) : (results fn tmps).run P w = .ok v w := by
  have hp' : tmps[p]?.getD undef = .pointer (some ⟨g, 0, none⟩) := by simpa using ha
  simp [results, h, hp', asAddr, hl]
theorem wl_load (hgd : o.guard = none) (ty : TypeId) (x : Operand) (ho : o.op = .load ty x) (g : Nat) (hx : a.eval x = .pointer (some ⟨g, 0, none⟩)) (v : Value)
    (hl : (loadVar ty ⟨g, 0, none⟩).run P w = .ok v w) (h : wpList P ops Q rest (a.put o.dst v) w) : wpList P ops Q (o :: rest) a w :=
  wpList_plain hgd fun K hK => by
    unfold Oper.wp execOp
    simp only [ho, hx, Instr.loadAt, Instr.sureAddr, Sem.run_bind, Sem.run_pure, Result.andThen_ok, hl]
    exact hK _ _ h
theorem exec_load (ty : TypeId) (x : Operand) (ho : o.op = .load ty x) (g : Nat) (hx : a.eval x = .pointer (some ⟨g, 0, none⟩)) (v : Value)
    (hl : (loadVar ty ⟨g, 0, none⟩).run P w = .ok v w) : (execOp a.eval o).run P w = .ok (.value v) w := by
  unfold execOp
  simp only [ho, hx, Instr.loadAt, Instr.sureAddr, Sem.run_bind, Sem.run_pure, Result.andThen_ok, hl]
theorem ow_store {K : Act → World → Prop} (ty : TypeId) (x y : Operand) (ho : o.op = .store ty x y) (g : Nat) (hx : a.eval x = .pointer (some ⟨g, 0, none⟩)) (v : Value) (hy : a.eval y = v)
    (hs : (storeVar ty ⟨g, 0, none⟩ v).run P w = .ok () w') (h : K (a.put o.dst undef) w') : o.wp P a w K Q := by
  unfold Oper.wp execOp
  simp only [ho, hx, hy, Instr.storeAt, Instr.sureAddr, Sem.run_bind, Sem.run_pure, Result.andThen_ok, hs]
  exact h
theorem wl_store (hgd : o.guard = none) (ty : TypeId) (x y : Operand) (ho : o.op = .store ty x y) (g : Nat) (hx : a.eval x = .pointer (some ⟨g, 0, none⟩)) (v : Value) (hy : a.eval y = v)
    (hs : (storeVar ty ⟨g, 0, none⟩ v).run P w = .ok () w') (h : wpList P ops Q rest (a.put o.dst undef) w') : wpList P ops Q (o :: rest) a w :=
  wpList_plain hgd fun K hK => by
    unfold Oper.wp execOp
    simp only [ho, hx, hy, Instr.storeAt, Instr.sureAddr, Sem.run_bind, Sem.run_pure, Result.andThen_ok, hs]
    exact hK _ _ h
end
theorem agg_cells (c : Array Value) : (Value.agg c).cells = c := rfl
theorem run_load_cells {P : Program} {w : World} {g n : Nat} {ty : TypeId} {d : TypeDesc} {f : Nat → Value} (h : ∀ i, i < n → w.cell? ⟨g, i, none⟩ = some (f i)) (hu : P.underlying ty = some d)
    (hd : (match d with | .struct _ | .array _ _ => true | _ => false) = true) (hi : (P.info? ty).map (·.size) = some n) :
    (loadVar ty ⟨g, 0, none⟩).run P w = .ok (.agg (vec n f)) w := by
  have hl : (loadCells ⟨g, 0, none⟩ (vec n f).toList.length).run P w = .ok (vec n f).toList.toArray w :=
    run_loadCells_list (P := P) w ⟨g, 0, none⟩ (vec n f).toList (fun j v hv => by
      have hadd : (⟨g, 0, none⟩ : Addr).add j = ⟨g, j, none⟩ := by unfold Addr.add; split <;> simp_all
      have hj : j < n := by
        have := (List.getElem?_eq_some_iff.1 hv).1
        simpa [vec] using this
      have hv2 : (vec n f)[j]? = some v := by simpa using hv
      rw [vec_at n f j hj] at hv2
      rw [hadd, h j hj, hv2])
  cases hq : P.info? ty with
  | none => simp [hq] at hi
  | some i =>
    have hs : i.size = n := by simpa [hq] using hi
    have hagg : (isAgg ty).run P w = .ok true w := by
      unfold isAgg
      rw [Sem.run_bind, run_underlying hu w]
      cases d <;> simp_all
    have hz : (vec n f).size = n := vec_size n f
    simp only [Array.length_toList, Array.toArray_toList] at hl
    rw [hz] at hl
    simp [loadVar, Sem.run_bind, hagg, sizeOf, typeInfo, hq, hs, hl]

def spl (o m : Nat) (c f : Nat → Value) : Nat → Value := fun i => if o ≤ i ∧ i < o + m then c (i - o) else f i
theorem vec_spl (n o m : Nat) (c f : Nat → Value) (h : o + m ≤ n) : ((vec n f).toList.take o ++ (List.range m).map c ++ (vec n f).toList.drop (o + m)).toArray = vec n (spl o m c f) := by
  unfold vec
  congr 1
  apply List.ext_getElem?
  intro i
  simp only [List.getElem?_append, List.length_append, List.length_take, List.length_map, List.length_range, List.getElem?_take, List.getElem?_drop, List.getElem?_map]
  by_cases h1 : i < o
  · rw [if_pos (by omega), if_pos (by omega), if_pos h1]
    by_cases hn : i < n
    · simp [List.getElem?_range hn, spl]; omega
    · omega
  · by_cases h2 : i < o + m
    · rw [if_pos (by omega), if_neg (by omega)]
      have e : i - min o n = i - o := by omega
      rw [e, List.getElem?_range (by omega), List.getElem?_range (by omega)]
      simp [spl]; omega
    · rw [if_neg (by omega)]
      have e : o + m + (i - (min o n + m)) = i := by omega
      rw [e]
      by_cases hn : i < n
      · rw [List.getElem?_range hn]; simp [spl]; omega
      · rw [List.getElem?_eq_none (by simp; omega)]; rfl
/-- All but block g is as it was. -/
structure Save (g : Nat) (w w' : World) : Prop where
  os : w'.os = w.os
  tape : w'.tape = w.tape
  output : w'.output = w.output
  size : w.heap.size ≤ w'.heap.size
  block : ∀ k, k < w.heap.size → k ≠ g → w'.heap[k]? = w.heap[k]?
theorem Save.refl (g : Nat) (w : World) : Save g w w := ⟨rfl, rfl, rfl, Nat.le_refl _, fun _ _ _ => rfl⟩
theorem Save.trans {g : Nat} {a b c : World} (h : Save g a b) (k : Save g b c) : Save g a c :=
  ⟨k.os.trans h.os, k.tape.trans h.tape, k.output.trans h.output, Nat.le_trans h.size k.size, fun i hi hg => (k.block i (Nat.lt_of_lt_of_le hi h.size) hg).trans (h.block i hi hg)⟩
theorem Save.of_below {g : Nat} {w w' : World} (h : Below w.heap.size w w') : Save g w w' := ⟨h.1, h.2, h.3, h.4, fun k hk _ => h.5 k hk⟩
theorem Save.below {g B : Nat} {w w' : World} (h : Save g w w') (hB : B ≤ g) (hs : B ≤ w.heap.size) : Below B w w' := ⟨h.1, h.2, h.3, h.4, fun k hk => h.5 k (by omega) (by omega)⟩
theorem Save.drewN {g : Nat} {w w' : World} (h : Save g w w') (n : Nat) : Save g w (w'.drewN n) := ⟨h.1, h.2, h.3, h.4, h.5⟩
theorem Save.setCell {g : Nat} {w w' : World} (h : Save g w w') (i : Nat) (u : Value) : Save g w (w'.setCell ⟨g, i, none⟩ u) := by
  refine ⟨h.1, h.2, h.3, by have := h.4; simpa [World.setCell] using this, fun k hk hg => ?_⟩
  rw [← h.5 k hk hg]
  exact Below.heap_setCell w' ⟨g, i, none⟩ u k hg
theorem Save.setRow {g : Nat} {w w' : World} (h : Save g w w') (c : Array Value) : Save g w (w'.setRow g c) := by
  refine ⟨h.1, h.2, h.3, by have := h.4; simpa [World.setRow] using this, fun k hk hg => ?_⟩
  rw [← h.5 k hk hg]
  simp [World.setRow, Array.getElem?_modify, Ne.symm hg]
theorem Save.cell {g : Nat} {w w' : World} (h : Save g w w') {p : Addr} (hp : p.block < w.heap.size) (hg : p.block ≠ g) : w'.cell? p = w.cell? p :=
  World.cell?_of_block (h.5 p.block hp hg)
theorem Arr.save {g g' n : Nat} {w w' : World} {t : TypeId} {f : Nat → Value} (h : Arr w g n t f) (hs : Save g' w w') (hg : g ≠ g') : Arr w' g n t f := (hs.block g h.lt hg).trans h
/-- Cells into a longer block, from place o on. -/
theorem run_store_spl {P : Program} {w : World} {g n o m : Nat} {t ty : TypeId} {f : Nat → Value} (h : Arr w g t n f) (c : Nat → Value) (ho : o + m ≤ n) (hi : (P.info? ty).map (·.size) = some m) (h1 : ∀ i, i < m → (c i).oneCell' = true) :
    (storeVar ty ⟨g, o, none⟩ (.agg (vec m c))).run P w = .ok () (w.setRow g (vec n (spl o m c f))) := by
  have hst := run_storeCells_at P g o t ((List.range m).map c) 0 (vec n f) w h (by rw [vec_size]; simp; omega) (by
    intro v hv
    simp at hv
    obtain ⟨i, hi, rfl⟩ := hv
    exact h1 i hi)
  have e := vec_spl n o m c f ho
  cases hq : P.info? ty with
  | none => simp [hq] at hi
  | some i =>
    have hs : i.size = m := by simpa [hq] using hi
    have hz : (vec m c).size = m := vec_size m c
    have hl : (vec m c).toList = (List.range m).map c := by simp [vec]
    simp only [Nat.add_zero, List.length_map, List.length_range] at hst
    rw [e] at hst
    simp [storeVar, sizeOf, typeInfo, hq, hs, Value.cells, hz, hl, hst]
theorem run_load_spl {P : Program} {w : World} {g o n : Nat} {ty : TypeId} {d : TypeDesc} {f : Nat → Value} (h : ∀ i, i < n → w.cell? ⟨g, o + i, none⟩ = some (f i)) (hu : P.underlying ty = some d)
    (hd : (match d with | .struct _ | .array _ _ => true | _ => false) = true) (hi : (P.info? ty).map (·.size) = some n) :
    (loadVar ty ⟨g, o, none⟩).run P w = .ok (.agg (vec n f)) w := by
  have hl : (loadCells ⟨g, o, none⟩ (vec n f).toList.length).run P w = .ok (vec n f).toList.toArray w :=
    run_loadCells_list (P := P) w ⟨g, o, none⟩ (vec n f).toList (fun j v hv => by
      have hadd : (⟨g, o, none⟩ : Addr).add j = ⟨g, o + j, none⟩ := by unfold Addr.add; split <;> simp_all
      have hj : j < n := by
        have := (List.getElem?_eq_some_iff.1 hv).1
        simpa [vec] using this
      have hv2 : (vec n f)[j]? = some v := by simpa using hv
      rw [vec_at n f j hj] at hv2
      rw [hadd, h j hj, hv2])
  cases hq : P.info? ty with
  | none => simp [hq] at hi
  | some i =>
    have hs : i.size = n := by simpa [hq] using hi
    have hagg : (isAgg ty).run P w = .ok true w := by
      unfold isAgg
      rw [Sem.run_bind, run_underlying hu w]
      cases d <;> simp_all
    have hz : (vec n f).size = n := vec_size n f
    simp only [Array.length_toList, Array.toArray_toList] at hl
    rw [hz] at hl
    simp [loadVar, Sem.run_bind, hagg, sizeOf, typeInfo, hq, hs, hl]
/-- copy into a longer block. -/
theorem run_copy_spl {P : Program} {w : World} {g n o dLen dCap sLen sCap : Nat} {dT sT ty elem t : TypeId} {a : Addr} {f c : Nat → Value} (m : Nat) (h : Arr w g t n f)
    (hu : P.underlying dT = some (.slice elem)) (hs : (P.info? elem).map (·.size) = some 1) (hm : m = Nat.min sLen dLen)
    (hsrc : ∀ j, j < m → w.cell? (a.add j) = some (c j)) (ho : o + m ≤ n) (h1 : ∀ i, i < m → (c i).oneCell' = true) :
    (Builtin.copy_ #[dT, sT] ty #[.slice (some ⟨g, o, none⟩) dLen dCap, .slice (some a) sLen sCap]).run P w = .ok (goInt (m : Nat)) (w.setRow g (vec n (spl o m c f))) := by
  have := run_copy_row P w dT sT ty elem g o dLen dCap a sLen sCap (vec n f) t ((List.range m).map c) hu hs h (by simpa using hm) (by
    intro j v hv
    obtain ⟨hj, rfl⟩ := List.getElem?_eq_some_iff.1 hv
    simp at hj ⊢
    exact hsrc j hj) (by rw [vec_size]; simp; omega) (by
    intro v hv
    simp at hv
    obtain ⟨i, hi, rfl⟩ := hv
    exact h1 i hi)
  rw [List.length_map, List.length_range, vec_spl n o m c f ho] at this
  exact this
theorem ow_copy {P : Program} {w w' : World} {o : Oper} {a : Act} {K : Act → World → Prop} {Q : Exit → Act → World → Prop} (d s : Operand) (t t' : TypeId)
    (ho : o.op = .call { callee := .builtin .copy, args := #[d, s], argTypes := #[t, t'] }) (v u : Value) (hd : a.eval d = v) (hs : a.eval s = u) {v' : Value}
    (hr : (Builtin.copy_ #[t, t'] o.type #[v, u]).run P w = .ok v' w') (h : K (a.put o.dst v') w') : o.wp P a w K Q := by
  unfold Oper.wp execOp
  simp only [ho, resolve, invoke, builtin, Sem.run_bind, Sem.run_pure, Result.andThen_ok, List.map_toArray, List.map_cons, List.map_nil, hd, hs, hr]
  exact h
theorem ow_load {P : Program} {w : World} {o : Oper} {a : Act} {K : Act → World → Prop} {Q : Exit → Act → World → Prop} (ty : TypeId) (x : Operand) (ho : o.op = .load ty x) (g k : Nat) (hx : a.eval x = .pointer (some ⟨g, k, none⟩)) (v : Value)
    (hl : (loadVar ty ⟨g, k, none⟩).run P w = .ok v w) (h : K (a.put o.dst v) w) : o.wp P a w K Q := by
  unfold Oper.wp execOp
  simp only [ho, hx, Instr.loadAt, Instr.sureAddr, Sem.run_bind, Sem.run_pure, Result.andThen_ok, hl]
  exact h
theorem exec_load_at {P : Program} {w : World} {o : Oper} {a : Act} (ty : TypeId) (x : Operand) (ho : o.op = .load ty x) (g k : Nat) (hx : a.eval x = .pointer (some ⟨g, k, none⟩)) (v : Value)
    (hl : (loadVar ty ⟨g, k, none⟩).run P w = .ok v w) : (execOp a.eval o).run P w = .ok (.value v) w := by
  unfold execOp
  simp only [ho, hx, Instr.loadAt, Instr.sureAddr, Sem.run_bind, Sem.run_pure, Result.andThen_ok, hl]
theorem wl_build {P : Program} {w : World} {ops : Array Oper} {rest : List Oper} {o : Oper} {a : Act} {Q : Exit → Act → World → Prop} (hg : o.guard = none) (t : TypeId) (parts : Array (Nat × Operand)) (ho : o.op = .build t parts)
    (cs : Array Value) (hb : P.built t (parts.map fun (i, x) => (i, a.eval x)).toList = some cs) (h : wpList P ops Q rest (a.put o.dst (.agg cs)) w) : wpList P ops Q (o :: rest) a w :=
  wpList_build hg t parts ho (by rw [hb]; rfl) (by rw [hb]; exact h)
theorem wl_load_at {P : Program} {w : World} {ops : Array Oper} {rest : List Oper} {o : Oper} {a : Act} {Q : Exit → Act → World → Prop} (hgd : o.guard = none) (ty : TypeId) (x : Operand) (ho : o.op = .load ty x) (g k : Nat) (hx : a.eval x = .pointer (some ⟨g, k, none⟩)) (v : Value)
    (hl : (loadVar ty ⟨g, k, none⟩).run P w = .ok v w) (h : wpList P ops Q rest (a.put o.dst v) w) : wpList P ops Q (o :: rest) a w :=
  wpList_plain hgd fun _ hK => ow_load ty x ho g k hx v hl (hK _ _ h)
theorem owns_cap {w : World} {base : Nat} {e : TypeId} {v : Value} {n : Nat} {xs : List Value} (h : w.ownsRow base e 1 v n xs) :
    ∃ A c, v = .slice A n c ∧ n ≤ c ∧ (∀ a, A = some a → base ≤ a.block) ∧ Lies w w.heap.size 1 A n xs := by
  rcases h.2 with ⟨rfl, rfl⟩ | ⟨g, cap, cur, rfl, hb, _, hc, _⟩
  · exact ⟨none, 0, rfl, Nat.le_refl _, (fun _ h => by cases h), Lies.of_owns h⟩
  · exact ⟨_, cap, rfl, hc, fun a ha => by injection ha with ha; subst ha; exact hb, Lies.of_owns h⟩
theorem owns_blk {w : World} {base : Nat} {e : TypeId} {v : Value} {n : Nat} {xs : List Value} (h : w.ownsRow base e 1 v n xs) (hn : n ≠ 0) :
    ∃ g c, v = .slice (some ⟨g, 0, none⟩) n c ∧ base ≤ g ∧ n ≤ c ∧ ∀ j (hj : j < xs.length), w.cell? ⟨g, 0 + j, none⟩ = some xs[j] := by
  rcases h.2 with ⟨_, h0⟩ | ⟨g, cap, cur, rfl, hb, hg, hc, hm, hs, hx⟩
  · exact absurd h0 hn
  · refine ⟨g, cap, rfl, hb, hc, fun j hj => ?_⟩
    have := h.cells (g := g) rfl j _ (List.getElem?_eq_getElem hj)
    rw [Nat.zero_add]
    have e : ((⟨g, 0, none⟩ : Addr).add j) = ⟨g, j, none⟩ := by unfold Addr.add; by_cases h0 : j = 0 <;> simp [h0]
    rw [e] at this; exact this

/-- Block g holds just these cells. -/
def Blk (w : World) (g : Nat) (t : TypeId) (cs : Array Value) : Prop := w.heap[g]? = some (.cells cs t (0, 0))
section
variable {w w' : World} {g : Nat} {t : TypeId} {cs : Array Value}
theorem Blk.lt (h : Blk w g t cs) : g < w.heap.size := by
  rcases Nat.lt_or_ge g w.heap.size with hlt | hge
  · exact hlt
  · unfold Blk at h; rw [Array.getElem?_eq_none hge] at h; cases h
theorem Blk.new (w : World) (t : TypeId) (cs : Array Value) {g : Nat} (h : g = w.heap.size) : Blk (w.alloc (.cells cs t)) g t cs := by subst h; exact heap_alloc_new w _
theorem Blk.alloc (h : Blk w g t cs) (o : Obj) : Blk (w.alloc o) g t cs := (Below.heap_alloc w o g h.lt).trans h
theorem Blk.under (h : Blk w g t cs) (hb : Below w.heap.size w w') : Blk w' g t cs := (hb.block g h.lt).trans h
theorem Blk.below {B : Nat} (h : Blk w g t cs) (hb : Below B w w') (hg : g < B) : Blk w' g t cs := (hb.block g hg).trans h
theorem Blk.save {g' : Nat} (h : Blk w g t cs) (hs : Save g' w w') (hg : g ≠ g') : Blk w' g t cs := (hs.block g h.lt hg).trans h
theorem Blk.row (h : Blk w g t cs) (cs' : Array Value) : Blk (w.setRow g cs') g t cs' := by
  unfold Blk at h ⊢
  simp [World.setRow, Array.getElem?_modify, h]
theorem Blk.rowFar (h : Blk w g t cs) {g' : Nat} (hp : g ≠ g') (c : Array Value) : Blk (w.setRow g' c) g t cs := by
  unfold Blk at h ⊢
  simp [World.setRow, Array.getElem?_modify, h, Ne.symm hp]
theorem Blk.drewN (h : Blk w g t cs) (k : Nat) : Blk (w.drewN k) g t cs := h
theorem Blk.grown {row : Option Nat} (h : Blk w g t cs) (hb : w.grownBy w' row) (hg : some g ≠ row) : Blk w' g t cs := (hb.block g h.lt hg).trans h
theorem Blk.cell (h : Blk w g t cs) (i : Nat) : w.cell? ⟨g, i, none⟩ = cs[i]? := cell_of_row w g i _ t (0, 0) h
theorem Blk.cellAt (h : Blk w g t cs) (i : Nat) {v : Value} (hv : cs[i]? = some v) : w.cell? ⟨g, i, none⟩ = some v := (h.cell i).trans hv
theorem Blk.load {P : Program} {ty : TypeId} {d : TypeDesc} (h : Blk w g t cs) (hu : P.underlying ty = some d)
    (hd : (match d with | .struct _ | .array _ _ => true | _ => false) = true) (hi : (P.info? ty).map (·.size) = some cs.size) : (loadVar ty ⟨g, 0, none⟩).run P w = .ok (.agg cs) w :=
  run_loadVar_row w g t ty cs (0, 0) d h hu hd hi
theorem Blk.store {P : Program} {ty : TypeId} (h : Blk w g t cs) (cs' : Array Value) (hs : cs'.size = cs.size) (hi : (P.info? ty).map (·.size) = some cs'.size) (h1 : cs'.toList.all Value.oneCell' = true) :
    (storeVar ty ⟨g, 0, none⟩ (.agg cs')).run P w = .ok () (w.setRow g cs') :=
  run_storeVar_row w g t ty cs cs' h hi hs.symm (by rw [← Array.all_toList]; exact h1)
end
end Go.Proofs.Ytblmikmmmomflaa
/- Rows of elements of n cells, told by a function of the element: laid, the call's own, grown at their end. Of any program. -/
namespace Go.Proofs.Ytblmikmmmomflaa
open Go.RowKit

section
variable {α : Type} {n : Nat} {enc : α → Nat → Value}
def elC (n : Nat) (f : Nat → Value) : List Value := (List.range n).map f
theorem elC_length (n : Nat) (f : Nat → Value) : (elC n f).length = n := by simp [elC]
theorem elC_at {n i : Nat} (f : Nat → Value) (h : i < n) : (elC n f)[i]? = some (f i) := by simp [elC, h]
theorem elC_vec (n : Nat) (f : Nat → Value) : (vec n f).toList = elC n f := by simp [vec, elC]
def cellsE (n : Nat) (enc : α → Nat → Value) (l : List α) : List Value := l.flatMap fun x => elC n (enc x)
theorem cellsE_append (a b : List α) : cellsE n enc (a ++ b) = cellsE n enc a ++ cellsE n enc b := by simp [cellsE]
theorem cellsE_cons (x : α) (l : List α) : cellsE n enc (x :: l) = elC n (enc x) ++ cellsE n enc l := by simp [cellsE]
theorem cellsE_snoc (a : List α) (x : α) : cellsE n enc (a ++ [x]) = cellsE n enc a ++ elC n (enc x) := by simp [cellsE]
theorem cellsE_length (l : List α) : (cellsE n enc l).length = l.length * n := by
  induction l with
  | nil => simp [cellsE]
  | cons x r ih => rw [cellsE_cons, List.length_append, elC_length, ih, List.length_cons, Nat.add_mul, Nat.one_mul, Nat.add_comm]
theorem cellsE_get : ∀ (l : List α) (j : Nat) (h : j < l.length) (i : Nat), i < n → (cellsE n enc l)[j * n + i]? = some (enc l[j] i)
  | [], j, h, _, _ => by cases h
  | x :: r, 0, _, i, hi => by
    rw [cellsE_cons, Nat.zero_mul, Nat.zero_add, List.getElem?_append_left (by rw [elC_length]; exact hi)]
    exact elC_at _ hi
  | x :: r, j + 1, h, i, hi => by
    have ih := cellsE_get r j (by simpa using h) i hi
    have e : (j + 1) * n + i - n = j * n + i := by rw [Nat.add_mul, Nat.one_mul]; omega
    rw [cellsE_cons, List.getElem?_append_right (by rw [elC_length, Nat.add_mul, Nat.one_mul]; omega), elC_length, e, ih]
    rfl
theorem cellsE_one (h1 : ∀ (x : α) i, i < n → (enc x i).oneCell' = true) (l : List α) : ∀ u ∈ cellsE n enc l, u.oneCell' = true := by
  intro u hu
  obtain ⟨x, _, hx⟩ := List.mem_flatMap.1 hu
  obtain ⟨i, hi, rfl⟩ := List.mem_map.1 hx
  exact h1 x i (List.mem_range.1 hi)
/-- The slice of l.length elements at A holds l; all of it lies below block B. -/
def RowE (n : Nat) (enc : α → Nat → Value) (w : World) (B : Nat) (A : Option Addr) (l : List α) : Prop :=
  l ≠ [] → ∃ a, A = some a ∧ a.block < B ∧ ∀ j (h : j < l.length) i, i < n → w.cell? (a.add (j * n + i)) = some (enc l[j] i)
variable {w w' : World} {B B' : Nat} {A : Option Addr} {l : List α}
theorem RowE.nil (w : World) (B : Nat) (A : Option Addr) : RowE n enc w B A [] := fun h => absurd rfl h
theorem RowE.same (h : RowE n enc w B A l) (hk : ∀ p : Addr, p.block < B → w'.cell? p = w.cell? p) : RowE n enc w' B A l := fun hn => by
  obtain ⟨a, e, hb, hc⟩ := h hn
  exact ⟨a, e, hb, fun j hj i hi => (hk _ (by rw [addr_add_block]; exact hb)).trans (hc j hj i hi)⟩
theorem RowE.wide (h : RowE n enc w B A l) (hB : B ≤ B') : RowE n enc w B' A l := fun hn => by
  obtain ⟨a, e, hb, hc⟩ := h hn
  exact ⟨a, e, Nat.lt_of_lt_of_le hb hB, hc⟩
theorem RowE.below (h : RowE n enc w B A l) (hb : Below B w w') : RowE n enc w' B A l := h.same fun _ hp => hb.cell hp
theorem RowE.up (h : RowE n enc w w.heap.size A l) (hb : Below w.heap.size w w') : RowE n enc w' w'.heap.size A l := (h.below hb).wide hb.size
/-- Element k: where it lies. -/
theorem RowE.at {k : Nat} (h : RowE n enc w B A l) (hk : k < l.length) : ∃ a p, A = some a ∧ a.add (k * n) = p ∧ p.block < B ∧ ∀ i, i < n → w.cell? (p.add i) = some (enc l[k] i) := by
  obtain ⟨a, e, hb, hc⟩ := h (fun hn => by subst hn; cases hk)
  refine ⟨a, _, e, rfl, by rw [addr_add_block]; exact hb, fun i hi => ?_⟩
  rw [addr_add_add]; exact hc k hk i hi
end
end Go.Proofs.Ytblmikmmmomflaa
/- A region that draws its order, walked with a condition that may grow stronger on the way: what a call has made may then be read like what was there. -/
namespace Go.Proofs.Ytblmikmmmomflaa
open Go.RowKit
section
variable {P : Program} {ops : Array Oper} {Q : Exit → Act → World → Prop} {md : Region.Mode} {S S' : World → Prop}

theorem held_mono (hs : ∀ W, S' W → S W) : ∀ (fuel : Nat) (listed : Array Bool) (a : Act) (w : World), wpAnyH P md ops Q S' fuel listed a w → wpAnyH P md ops Q S fuel listed a w
  | 0, _, _, _, h => h
  | fuel + 1, _, _, _, h => ⟨h.1, fun i hi => wpOp_mono (fun a' w' h' => ⟨hs _ h'.1, held_mono hs fuel _ a' w' h'.2⟩) (h.2 i hi)⟩

/-- From here on more is known of the world. -/
theorem held_and {T : World → Prop} {fuel : Nat} {listed : Array Bool} {a : Act} {w : World} (hS : S w) (hT : T w) (h : S w ∧ T w → wpAnyH P md ops Q (fun W => S W ∧ T W) fuel listed a w) : wpAnyH P md ops Q S fuel listed a w :=
  held_mono (fun _ h => h.1) fuel listed a w (h ⟨hS, hT⟩)

/-- One operation alone may come up, and it is wanted: it is carried out. -/
theorem held_one {i : Nat} {oi : Oper} {fuel : Nat} {listed : Array Bool} {a : Act} {w : World} (hr : Region.ready md ops listed = [i]) (hi : ops[i]? = some oi)
    (hw : Region.wanted oi (yielded ops a.tmps) = true)
    (h : ∀ K' : Act → World → Prop, (∀ a w, S w → (S w → wpAnyH P md ops Q S fuel (listed.setIfInBounds i true) a w) → K' a w) → Oper.wp P oi a w K' Q) :
    wpAnyH P md ops Q S (fuel + 1) listed a w := by
  refine wpAnyH_ready hr (by simp) (AllReadyH.cons hi (fun K' hK => ?_) AllReadyH.nil)
  rw [if_pos hw]
  exact h K' fun a w h1 h2 => hK.out a w h1 h2
/-- Two operations may come up, in either order: both are wanted. -/
theorem held_two {i j : Nat} {oi oj : Oper} {fuel : Nat} {listed : Array Bool} {a : Act} {w : World} (hr : Region.ready md ops listed = [i, j]) (hi : ops[i]? = some oi) (hj : ops[j]? = some oj)
    (hwi : Region.wanted oi (yielded ops a.tmps) = true) (hwj : Region.wanted oj (yielded ops a.tmps) = true)
    (h1 : ∀ K' : Act → World → Prop, (∀ a w, S w → (S w → wpAnyH P md ops Q S fuel (listed.setIfInBounds i true) a w) → K' a w) → Oper.wp P oi a w K' Q)
    (h2 : ∀ K' : Act → World → Prop, (∀ a w, S w → (S w → wpAnyH P md ops Q S fuel (listed.setIfInBounds j true) a w) → K' a w) → Oper.wp P oj a w K' Q) :
    wpAnyH P md ops Q S (fuel + 1) listed a w := by
  refine wpAnyH_ready hr (by simp) (AllReadyH.cons hi (fun K' hK => ?_) (AllReadyH.cons hj (fun K' hK => ?_) AllReadyH.nil))
  · rw [if_pos hwi]
    exact h1 K' fun a w h1 h2 => hK.out a w h1 h2
  · rw [if_pos hwj]
    exact h2 K' fun a w h1 h2 => hK.out a w h1 h2
/-- An operation that looks at the world, and yields in every world that meets S, is taken first. -/
theorem held_take {i : Nat} {oi : Oper} {v : Value} {fuel : Nat} {listed : Array Bool} {a : Act} {w : World} (hi : ops[i]? = some oi)
    (hs : Region.noSelect ops = true) (hf : Region.free md ops listed i = true) (hr : (Region.ready md ops listed).contains i = true)
    (hQ : ∀ c a w, Q (.panic c) (a.put oi.dst v) w → Q (.panic c) a w) (hw : Region.wanted oi (yielded ops a.tmps) = true) (hy : ∀ w, S w → (execOp a.eval oi).run P w = .ok (.value v) w) (hS : S w)
    (h : wpAnyH P md ops Q S fuel (listed.setIfInBounds i true) (a.put oi.dst v) w) : wpAnyH P md ops Q S (fuel + 1) listed a w :=
  wpAnyH_take hi hs hf hr hQ (Or.inl ⟨hw, hy⟩) hS h
/-- An operation whose guard says no is passed over. -/
theorem held_skip {i : Nat} {oi : Oper} {fuel : Nat} {listed : Array Bool} {a : Act} {w : World} (hi : ops[i]? = some oi)
    (hs : Region.noSelect ops = true) (hf : Region.free md ops listed i = true) (hr : (Region.ready md ops listed).contains i = true)
    (hQ : ∀ c a w, Q (.panic c) (a.put oi.dst undef) w → Q (.panic c) a w) (hw : Region.wanted oi (yielded ops a.tmps) = false) (hS : S w)
    (h : wpAnyH P md ops Q S fuel (listed.setIfInBounds i true) (a.put oi.dst undef) w) : wpAnyH P md ops Q S (fuel + 1) listed a w :=
  wpAnyH_take hi hs hf hr hQ (Or.inr ⟨hw, rfl⟩) hS h
end
end Go.Proofs.Ytblmikmmmomflaa
/- Three operations of a drawn region may come up, in any order. -/
namespace Go.Proofs.Ytblmikmmmomflaa
open Go.RowKit
section
variable {P : Program} {ops : Array Oper} {Q : Exit → Act → World → Prop} {md : Region.Mode} {S : World → Prop}
theorem held_three {i j k : Nat} {oi oj ok : Oper} {fuel : Nat} {listed : Array Bool} {a : Act} {w : World} (hr : Region.ready md ops listed = [i, j, k]) (hi : ops[i]? = some oi) (hj : ops[j]? = some oj) (hk : ops[k]? = some ok)
    (hwi : Region.wanted oi (yielded ops a.tmps) = true) (hwj : Region.wanted oj (yielded ops a.tmps) = true) (hwk : Region.wanted ok (yielded ops a.tmps) = true)
    (h1 : ∀ K' : Act → World → Prop, (∀ a w, S w → (S w → wpAnyH P md ops Q S fuel (listed.setIfInBounds i true) a w) → K' a w) → Oper.wp P oi a w K' Q)
    (h2 : ∀ K' : Act → World → Prop, (∀ a w, S w → (S w → wpAnyH P md ops Q S fuel (listed.setIfInBounds j true) a w) → K' a w) → Oper.wp P oj a w K' Q)
    (h3 : ∀ K' : Act → World → Prop, (∀ a w, S w → (S w → wpAnyH P md ops Q S fuel (listed.setIfInBounds k true) a w) → K' a w) → Oper.wp P ok a w K' Q) :
    wpAnyH P md ops Q S (fuel + 1) listed a w := by
  refine wpAnyH_ready hr (by simp) (AllReadyH.cons hi (fun K' hK => ?_) (AllReadyH.cons hj (fun K' hK => ?_) (AllReadyH.cons hk (fun K' hK => ?_) AllReadyH.nil)))
  · rw [if_pos hwi]
    exact h1 K' fun a w h1 h2 => hK.out a w h1 h2
  · rw [if_pos hwj]
    exact h2 K' fun a w h1 h2 => hK.out a w h1 h2
  · rw [if_pos hwk]
    exact h3 K' fun a w h1 h2 => hK.out a w h1 h2
end
end Go.Proofs.Ytblmikmmmomflaa
/- A region that leaves all as it was in V. -/
namespace Go.Proofs.Ytblmikmmmomflaa
open Go.RowKit
theorem exec_build {P : Program} {o : Oper} {a : Act} (t : TypeId) (parts : Array (Nat × Operand)) (ho : o.op = .build t parts) (cs : Array Value)
    (hb : P.built t (parts.map fun (i, x) => (i, a.eval x)).toList = some cs) (w : World) : (execOp a.eval o).run P w = .ok (.value (.agg cs)) w := by
  unfold execOp
  simp only [ho, Sem.run_bind, run_build w t _ cs hb, Result.andThen_ok, Sem.run_pure]
/-- A region that leaves all as it was in V. -/
def VS (V Y : World) : Prop := Below V.heap.size V Y
theorem VS.keep {V Y Z : World} (h : VS V Y) (hd : Below Y.heap.size Y Z) : VS V Z := Below.trans h (hd.mono h.size)
theorem VS.begin (V : World) : VS V V.drew := ⟨rfl, rfl, rfl, Nat.le_refl _, fun _ _ => rfl⟩
theorem VS.below0 {w V Y : World} (h : VS V Y) (hV : Below w.heap.size w V) : Below w.heap.size w Y := hV.trans (Below.mono h hV.size)
theorem keep2 {w W W1 : World} {p q : Addr} {x y : Value} (hd : Below W.heap.size W W1) (h : Below w.heap.size w W ∧ W.cell? p = some x ∧ W.cell? q = some y) :
    Below w.heap.size w W1 ∧ W1.cell? p = some x ∧ W1.cell? q = some y := by
  obtain ⟨h0, h1, h2⟩ := h
  exact ⟨h0.trans (hd.mono h0.size), (hd.cell (World.block_lt_of_cell? W p h1)).trans h1, (hd.cell (World.block_lt_of_cell? W q h2)).trans h2⟩
theorem drew2 {w W : World} {p q : Addr} {x y : Value} (h : Below w.heap.size w W ∧ W.cell? p = some x ∧ W.cell? q = some y) :
    Below w.heap.size w W.drew ∧ W.drew.cell? p = some x ∧ W.drew.cell? q = some y := ⟨⟨h.1.os, h.1.tape, h.1.output, h.1.size, h.1.block⟩, h.2.1, h.2.2⟩
end Go.Proofs.Ytblmikmmmomflaa
