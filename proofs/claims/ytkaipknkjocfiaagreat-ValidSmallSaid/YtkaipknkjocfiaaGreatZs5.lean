import Derived.Deep.Strs
import Derived.Deep.Slices
import Derived.Lib.SmallJoins
import Derived.Lib.LaidU8
import Derived.ChangeArms
import Derived.Lib.Hide
import Derived.Test.YtkaipknkjocfiaaGreatZs4
namespace Go.Proofs.YtkaipknkjocfiaaGreat
open Go.RowKit
attribute [local go_sem ↓ high] builtin_appS
theorem app_E1 {α : Type} {n : Nat} {enc : α → Nat → Value} {w : World} {base : Nat} {t : TypeId} {v : Value} {l : List α} {P : Program} {ts : TypeId} {bytes : Nat} {z : Value} (hu : P.underlying ts = some (.slice t)) (hinfo : (P.info? t).map (fun i => (i.zero, i.size, i.bytes)) = some (some z, n, bytes)) (hz : z.cells.size = n) (hn : 0 < n)
  (x : α) (h1 : ∀ i, i < n → (enc x i).oneCell' = true) (hown : OwnE t n enc w base v l) (hb : base ≤ w.heap.size) (hl : l.length ≤ 1000000) (hby : bytes ≤ 100000) (ty : TypeId) :
  ∃ B d w', (appS #[ts, ts] ty #[v, .slice (some ⟨w.heap.size, 0, none⟩) 1 1]).run P (w.alloc (.cells (vec n (enc x)) t)) = .ok (.slice B (l.length + 1) d) w' ∧ OwnE t n enc w' base (.slice B (l.length + 1) d) (l ++ [x]) ∧ Below base w w' ∧ w.heap.size ≤ w'.heap.size ∧ (∀ k, k < w.heap.size → some k ≠ v.ownBlock → w'.heap[k]? = w.heap[k]?) ∧ ((Value.slice B (l.length + 1) d).ownBlock = v.ownBlock ∨ (Value.slice B (l.length + 1) d).ownBlock = some (w.heap.size + 1)) := by
 obtain ⟨i0, hi, hz0, hz1, hz2⟩ := info_parts hinfo
 have hbz : (l.length + 1) * bytes ≤ 140737488355328 := Nat.le_trans (Nat.mul_le_mul (show l.length + 1 ≤ 1000001 by omega) hby) (by decide)
 obtain ⟨v', w', hr, h2, h3, _, h5⟩ := run_append_own_at (P := P) (w.alloc (.cells (vec n (enc x)) t)) base ts ty t i0 z n bytes hu hi hz0 hz1 hz2 hz hn v l.length (cellsE n enc l) (hown.on ((Below.refl _ _).alloc (Nat.le_refl _) _) (Nat.le_refl _))
  ⟨w.heap.size, 0, none⟩ 1 1 (elC n (enc x)) (by rw [elC_length, Nat.one_mul]) (elC_new w (enc x) t n) (by
   intro u hu
   obtain ⟨i, hi, rfl⟩ := List.mem_map.1 hu
   exact h1 i (List.mem_range.1 hi)) (by unfold maxLen; omega) hbz (by simp; omega)
 have hown2 : OwnE t n enc w' base v' (l ++ [x]) := by
  unfold OwnE
  rw [cellsE_snoc, List.length_append]
  exact h2
 obtain ⟨B, d, e, _, _, hbk⟩ := hown2.form
 obtain ⟨_, _, _, _, _, hbv⟩ := hown.form
 rw [List.length_append, List.length_singleton] at e
 subst e
 have hbl : Below base w w' := ((Below.refl base w).alloc hb _).grown h3 (by simp; omega) fun k hk => (hbv k hk).1
 exact ⟨B, d, w', hr, hown2, hbl, hbl.size, fun k hk hne => (h3.block k (by simp; omega) hne).trans (Below.heap_alloc w _ k hk), h5.imp id fun h => by rw [h]; simp⟩
theorem OwnE.grown {α : Type} {n : Nat} {enc : α → Nat → Value} {w w' : World} {base : Nat} {t : TypeId} {v : Value} {l : List α} (h : OwnE t n enc w base v l) {o : Option Nat} (hs : ∀ k, k < w.heap.size → some k ≠ o → w'.heap[k]? = w.heap[k]?) (ho : v.ownBlock = none ∨ v.ownBlock ≠ o) : OwnE t n enc w' base v l := by
 refine ⟨h.1, ?_⟩
 rcases h.2 with h2 | ⟨k, cap, cur, rfl, hk, hh, r⟩
 · exact Or.inl h2
 · refine Or.inr ⟨k, cap, cur, rfl, hk, (hs k (Array.getElem?_eq_some_iff.1 hh).1 fun e => ?_).trans hh, r⟩
   rcases ho with h0 | h0
   · simp [Value.ownBlock] at h0
   · exact h0 (by simp [Value.ownBlock]; exact e)
structure Apart (y : GV) (v : Value) : Prop where
 w : ∀ k, y.wv.ownBlock = some k → v.ownBlock ≠ some k
 d : ∀ k, y.dv.ownBlock = some k → v.ownBlock ≠ some k
 i : ∀ k, y.iv.ownBlock = some k → v.ownBlock ≠ some k
 s : ∀ k, y.sv.ownBlock = some k → v.ownBlock ≠ some k
theorem OwnE.bnd {α : Type} {n : Nat} {enc : α → Nat → Value} {w : World} {base : Nat} {t : TypeId} {v : Value} {l : List α} (h : OwnE t n enc w base v l) {k : Nat} (hk : v.ownBlock = some k) : base ≤ k ∧ k < w.heap.size := by
 obtain ⟨_, _, _, _, _, hb⟩ := h.form
 exact hb k hk
theorem OwnE.growN {α : Type} {n : Nat} {enc : α → Nat → Value} {w w' : World} {base : Nat} {t : TypeId} {v : Value} {l : List α} (h : OwnE t n enc w base v l) {o : Option Nat} (hs : ∀ k, k < w.heap.size → some k ≠ o → w'.heap[k]? = w.heap[k]?) (ho : ∀ k, v.ownBlock = some k → o ≠ some k) : OwnE t n enc w' base v l := by
 refine h.grown hs ?_
 cases hv : v.ownBlock with
 | none => exact .inl rfl
 | some k => exact .inr fun e => ho k hv e.symm
theorem GOwn.growN {w w' : World} {base : Nat} {y : GV} {v : Value} (h : GOwn w base y) (hs : ∀ k, k < w.heap.size → some k ≠ v.ownBlock → w'.heap[k]? = w.heap[k]?) (ha : Apart y v) : GOwn w' base y :=
 ⟨h.wi.growN hs ha.w, h.de.growN hs ha.d, h.ir.growN hs ha.i, h.st.growN hs ha.s⟩
theorem Apart.next {w : World} {base m : Nat} {y : GV} {v v' : Value} (ha : Apart y v) (h : GOwn w base y) (hm : w.heap.size ≤ m) (ho : v'.ownBlock = v.ownBlock ∨ v'.ownBlock = some m) : Apart y v' := by
 refine ⟨fun k hk => ?_, fun k hk => ?_, fun k hk => ?_, fun k hk => ?_⟩
 · rcases ho with e | e <;> rw [e]
   · exact ha.w k hk
   · intro e2; injection e2 with e2; have := (h.wi.bnd hk).2; omega
 · rcases ho with e | e <;> rw [e]
   · exact ha.d k hk
   · intro e2; injection e2 with e2; have := (h.de.bnd hk).2; omega
 · rcases ho with e | e <;> rw [e]
   · exact ha.i k hk
   · intro e2; injection e2 with e2; have := (h.ir.bnd hk).2; omega
 · rcases ho with e | e <;> rw [e]
   · exact ha.s k hk
   · intro e2; injection e2 with e2; have := (h.st.bnd hk).2; omega
theorem Apart.new {w : World} {m : Nat} {y : GV} {v : Value} (h : GOwn w m y) (hv : ∀ k, v.ownBlock = some k → k < m) : Apart y v := by
 refine ⟨fun k hk e => ?_, fun k hk e => ?_, fun k hk e => ?_, fun k hk e => ?_⟩
 · have := hv k e; have := (h.wi.bnd hk).1; omega
 · have := hv k e; have := (h.de.bnd hk).1; omega
 · have := hv k e; have := (h.ir.bnd hk).1; omega
 · have := hv k e; have := (h.st.bnd hk).1; omega
def guestsV (base : Nat) (w : World) (l : List Gs) (v : Value) : Prop := ∃ ys : List GV, ys.map GV.g = l ∧ (∀ y ∈ ys, y.g.key.length = 68) ∧ OwnE 63 79 guestE w base v ys ∧ ∀ y ∈ ys, GOwn w base y ∧ Apart y v
theorem guestsV.nil (base : Nat) (w : World) : guestsV base w [] (.slice none 0 0) := ⟨[], rfl, (fun _ h => by cases h), OwnE.nil _ _, (fun _ h => by cases h)⟩
theorem guestsV.save {base g : Nat} {w w' : World} {l : List Gs} {v : Value} (h : guestsV base w l v) (hs : Save g w w') (hg : g < base) : guestsV base w' l v := by
 obtain ⟨ys, h1, h2, h3, h4⟩ := h
 exact ⟨ys, h1, h2, h3.save hs hg, fun y hy => ⟨(h4 y hy).1.save hs hg, (h4 y hy).2⟩⟩
theorem guestsV.on {base m : Nat} {w w' : World} {l : List Gs} {v : Value} (h : guestsV base w l v) (hs : Below m w w') (hm : w.heap.size ≤ m) : guestsV base w' l v := by
 obtain ⟨ys, h1, h2, h3, h4⟩ := h
 exact ⟨ys, h1, h2, h3.on hs hm, fun y hy => ⟨(h4 y hy).1.on hs hm, (h4 y hy).2⟩⟩
theorem guestsV.form {base : Nat} {w : World} {l : List Gs} {v : Value} (h : guestsV base w l v) : ∃ A c, v = .slice A l.length c := by
 obtain ⟨ys, h1, h2, h3, h4⟩ := h
 obtain ⟨A, c, e, _⟩ := h3.form
 exact ⟨A, c, by rw [e, ← h1, List.length_map]⟩
theorem info_guest : (Tryz.prog.info? 63).map (fun i => (i.zero, i.size, i.bytes)) = some (some (.agg (vec 79 (guestE zGV))), 79, 216) := by kernel_rfl
theorem guestsV.app {base : Nat} {w w1 : World} {g : Nat} {l : List Gs} {v : Value} {x : Gs} {y : GV} (h : guestsV base w l v) (hs : Save g w w1) (hg : g < base) (hb : base ≤ w.heap.size) (hl : l.length ≤ 1000) (hy : y.g = x) (hk : x.key.length = 68) (ho : GOwn w1 w.heap.size y) :
   ∃ B d w2, (appS #[28, 28] 28 #[v, .slice (some ⟨w1.heap.size, 0, none⟩) 1 1]).run Tryz.prog (w1.alloc (.cells (vec 79 (guestE y)) 63)) = .ok (.slice B (l.length + 1) d) w2 ∧ guestsV base w2 (l ++ [x]) (.slice B (l.length + 1) d) ∧ Below base w1 w2 := by
 obtain ⟨ys, h1, h2, h3, h4⟩ := h
 have hlen : ys.length = l.length := by rw [← h1, List.length_map]
 obtain ⟨B, d, w2, hr, h5, h6, h7, h8, h9⟩ := app_E1 (P := Tryz.prog) Tryz.underlying28 info_guest (vec_size _ _) (by decide) y (guestE_one y ho.one 79) (h3.save hs hg) (Nat.le_trans hb hs.size) (by omega) (by decide) 28
 rw [hlen] at hr h5 h9
 have hvb : ∀ k, v.ownBlock = some k → k < w.heap.size := fun k hk => (h3.bnd hk).2
 refine ⟨B, d, w2, hr, ⟨ys ++ [y], by rw [List.map_append, h1]; simp [hy], fun z hz => ?_, h5, fun z hz => ?_⟩, h6⟩
 · rcases List.mem_append.1 hz with hz | hz
   · exact h2 z hz
   · obtain rfl : z = y := by simpa using hz
     rw [hy]; exact hk
 · rcases List.mem_append.1 hz with hz | hz
   · have ho1 := (h4 z hz).1.save hs hg
     exact ⟨ho1.growN h8 (h4 z hz).2, (h4 z hz).2.next ho1 (Nat.le_succ _) h9⟩
   · obtain rfl : z = y := by simpa using hz
     have ha := Apart.new ho hvb
     exact ⟨(ho.growN h8 ha).low hb, ha.next ho (Nat.le_succ _) h9⟩
end Go.Proofs.YtkaipknkjocfiaaGreat
namespace Go.Proofs.YtkaipknkjocfiaaGreat
open Go.RowKit
def cfE (ver : Int) (a c : Value) : Nat → Value
 | 0 => .int .u32 ver
 | 1 => a
 | _ => c
theorem cfE_one (ver : Int) (a c : Value) (ha : a.oneCell' = true) (hc : c.oneCell' = true) (n : Nat) : ∀ i, i < n → (cfE ver a c i).oneCell' = true := by
 intro i _
 match i with
 | 0 => rfl
 | 1 => exact ha
 | _ + 2 => exact hc
theorem infoCf : (Tryz.prog.info? 31).map (·.size) = some 3 := by kernel_rfl
theorem zeroCf (w : World) : (zeroValue 31).run Tryz.prog w = .ok (.agg (vec 3 (cfE 0 nilV nilV))) w :=
 (zero_of_info (P := Tryz.prog) (t := 31) (v := .agg (vec 3 (cfE 0 nilV nilV))) (n := 3) (by kernel_rfl)).1 w
attribute [local go_sem ↓ high] zeroCf
theorem guestsV.low {base base' : Nat} {w : World} {l : List Gs} {v : Value} (h : guestsV base w l v) (hb : base' ≤ base) : guestsV base' w l v := by
 obtain ⟨ys, h1, h2, h3, h4⟩ := h
 exact ⟨ys, h1, h2, h3.low hb, fun y hy => ⟨(h4 y hy).1.low hb, (h4 y hy).2⟩⟩
end Go.Proofs.YtkaipknkjocfiaaGreat
namespace Go.Proofs.YtkaipknkjocfiaaGreat
open Go.RowKit
attribute [local go_sem ↓ high] zeroGu
theorem GRow.one {w : World} {B : Nat} {x : GV} (h : GRow w B x) : GV1 x := by
 obtain ⟨⟨A, c, e, _, _⟩, ⟨A2, c2, e2, _, _⟩, ⟨A3, c3, e3, _, _⟩, ⟨A4, c4, e4, _, _⟩⟩ := h
 exact ⟨by rw [e]; rfl, by rw [e2]; rfl, by rw [e3]; rfl, by rw [e4]; rfl⟩
structure GsR (w : World) (B : Nat) (A : Option Addr) (ys : List GV) : Prop where
 row : RowE 79 guestE w B A ys
 all : ∀ y ∈ ys, GRow w B y
theorem GsR.below {w w' : World} {B : Nat} {A : Option Addr} {ys : List GV} (h : GsR w B A ys) (hb : Below B w w') : GsR w' B A ys := ⟨h.row.below hb, fun y hy => (h.all y hy).below hb⟩
theorem GsR.wide {w : World} {B B' : Nat} {A : Option Addr} {ys : List GV} (h : GsR w B A ys) (hb : B ≤ B') : GsR w B' A ys := ⟨h.row.wide hb, fun y hy => (h.all y hy).wide hb⟩
theorem GsR.up {w w' : World} {A : Option Addr} {ys : List GV} (h : GsR w w.heap.size A ys) (hb : Below w.heap.size w w') : GsR w' w'.heap.size A ys := (h.below hb).wide hb.size
structure CfR (w : World) (B : Nat) (x : Cf) (a c : Value) : Prop where
 gs : ∃ A d ys, a = .slice A x.gs.length d ∧ ys.map GV.g = x.gs ∧ GsR w B A ys ∧ x.gs.length ≤ 9223372036854775807
 chs : ∃ A d, c = .slice A x.chs.length d ∧ RowE 8 chE w B A x.chs ∧ x.chs.length ≤ 9223372036854775807
theorem CfR.below {w w' : World} {B : Nat} {x : Cf} {a c : Value} (h : CfR w B x a c) (hb : Below B w w') : CfR w' B x a c := by
 obtain ⟨⟨A, d, ys, e, hm, hr, hl⟩, ⟨A2, d2, e2, hr2, hl2⟩⟩ := h
 exact ⟨⟨A, d, ys, e, hm, hr.below hb, hl⟩, ⟨A2, d2, e2, hr2.below hb, hl2⟩⟩
theorem CfR.wide {w : World} {B B' : Nat} {x : Cf} {a c : Value} (h : CfR w B x a c) (hb : B ≤ B') : CfR w B' x a c := by
 obtain ⟨⟨A, d, ys, e, hm, hr, hl⟩, ⟨A2, d2, e2, hr2, hl2⟩⟩ := h
 exact ⟨⟨A, d, ys, e, hm, hr.wide hb, hl⟩, ⟨A2, d2, e2, hr2.wide hb, hl2⟩⟩
theorem CfR.up {w w' : World} {x : Cf} {a c : Value} (h : CfR w w.heap.size x a c) (hb : Below w.heap.size w w') : CfR w' w'.heap.size x a c := (h.below hb).wide hb.size
def cfVal (x : Cf) (a c : Value) : Value := .agg (vec 3 (cfE x.ver a c))
theorem cf_cells {w : World} {g : Nat} {t : TypeId} {x : Cf} {a c : Value} (h : Arr w g t 3 (cfE x.ver a c)) : w.cell? ⟨g, 0, none⟩ = some (.int .u32 x.ver) ∧ w.cell? ⟨g, 1, none⟩ = some a ∧ w.cell? ⟨g, 2, none⟩ = some c := ⟨h.cell (i := 0) (by decide), h.cell (i := 1) (by decide), h.cell (i := 2) (by decide)⟩
end Go.Proofs.YtkaipknkjocfiaaGreat
namespace Go.Proofs.YtkaipknkjocfiaaGreat
open Go.ChangeShapes Go.WideShapes Go.ChangeAt Go.RowKit Go.Deep
def u64B (z : Int) : Prop := 0 ≤ z ∧ z ≤ 18446744073709551615
def u32B (z : Int) : Prop := 0 ≤ z ∧ z ≤ 4294967295
def i64B (z : Int) : Prop := -9223372036854775808 ≤ z ∧ z ≤ 9223372036854775807
def WiB (x : Wi) : Prop := u64B x.ipa ∧ u64B x.pa ∧ u64B x.size ∧ i64B x.perm
def DeB (x : De) : Prop := u64B x.ipa ∧ u64B x.pa ∧ u64B x.size
def IrB (x : Ir) : Prop := i64B x.number ∧ i64B x.cpu
def EnB (x : En) : Prop := i64B x.guest ∧ i64B x.perm ∧ u64B x.ipa
def ChB (x : Ch) : Prop := u64B x.pa ∧ u64B x.size ∧ EnB x.a ∧ EnB x.b
structure GsB (g : Gs) : Prop where
 off : u32B g.off
 len : u32B g.len
 cpus : u32B g.cpus
 entry : u64B g.entry
 dtb : u64B g.dtb
 key : g.key.length = 68
 wins : ∀ y ∈ g.wins, WiB y
 devs : ∀ y ∈ g.devs, DeB y
 irqs : ∀ y ∈ g.irqs, IrB y
 strs : ∀ y ∈ g.strs, u32B y
structure CfB (c : Cf) : Prop where
 ver : u32B c.ver
 gs : ∀ g ∈ c.gs, GsB g
 chs : ∀ y ∈ c.chs, ChB y
def CapW (y : GV) : Prop := ∃ A c, y.wv = .slice A y.g.wins.length c ∧ y.g.wins.length ≤ c
def CfRW (w : World) (B : Nat) (x : Cf) (a c : Value) : Prop := CfR w B x a c ∧ ∃ A d ys, a = .slice A x.gs.length d ∧ ys.map GV.g = x.gs ∧ GsR w B A ys ∧ ∀ y ∈ ys, CapW y
theorem CfRW.below {w w' : World} {B : Nat} {x : Cf} {a c : Value} (h : CfRW w B x a c) (hb : Below B w w') : CfRW w' B x a c := by
 obtain ⟨h1, A, d, ys, e, hm, hr, hc⟩ := h
 exact ⟨h1.below hb, A, d, ys, e, hm, hr.below hb, hc⟩
theorem CfRW.wide {w : World} {B B' : Nat} {x : Cf} {a c : Value} (h : CfRW w B x a c) (hb : B ≤ B') : CfRW w B' x a c := by
 obtain ⟨h1, A, d, ys, e, hm, hr, hc⟩ := h
 exact ⟨h1.wide hb, A, d, ys, e, hm, hr.wide hb, hc⟩
theorem list_of {α : Type} {Φ : Nat → α → Prop} : ∀ n, (∀ i, i < n → ∃ x, Φ i x) → ∃ l : List α, l.length = n ∧ ∀ j (h : j < l.length), Φ j l[j]
 | 0, _ => ⟨[], rfl, fun j h => by cases h⟩
 | n + 1, h => by
  obtain ⟨l, hl, hf⟩ := list_of n fun i hi => h i (by omega)
  obtain ⟨x, hx⟩ := h n (by omega)
  refine ⟨l ++ [x], by simp [hl], fun j hj => ?_⟩
  rw [List.getElem_append]
  split
  · rename_i h1; exact hf j h1
  · rename_i h1
    have : j = n := by simp at hj; omega
    subst this
    simp only [hl, Nat.sub_self, List.getElem_cons_zero]
    exact hx
theorem take1_at {L : List Value} {o : Nat} (h : o < L.length) : (L.drop o).take 1 = [L[o]] := by
 rw [List.drop_eq_getElem_cons h]; rfl
section
variable {H : Type} {enc : TypeId × Value → H} {P : Program} {W : World} {r : Reach} {base : Nat} {sp : Nat → Bool} {held : Bool} {fuel : Nat}
theorem trod_arr_form {t e : TypeId} {n : Nat} {cs : List Value} {x : DataW H × List MemPlace} (ht : P.underlying t = some (.array n e))
  (h : DataW.trod enc P W base sp held fuel t cs = some x) : ∃ ds p, x = (.agg ds, p) := by
 cases fuel with
 | zero => simp [DataW.trod] at h
 | succ fuel =>
  simp only [DataW.trod, ht] at h
  split at h
  · obtain ⟨xs, hm, hx⟩ := Option.map_eq_some_iff.1 h
    exact ⟨_, _, hx.symm⟩
  · cases h
section
variable {t : TypeId} {L : List Value} {o : Nat} {y : DataW H × List MemPlace}
end
end
section
variable {H : Type} {enc : TypeId × Value → H} {W : World} {r : Reach} {base : Nat} {sp : Nat → Bool} {held : Bool} {fuel : Nat} {L : List Value} {x : DataW H × List MemPlace}
theorem c1U8 : Tryz.prog.cellsOf 5 = 1 := by kernel_rfl
set_option maxRecDepth 100000 in
theorem key_cells (hl : L.length = 68) (h : DataW.trod enc Tryz.prog W 0 sp held fuel 52 L = some x) : ∃ k : By, k.length = 68 ∧ ∀ i, i < 68 → L[i]? = some (bys (kF k) i) := by
 obtain ⟨ds, p, hx⟩ := trod_arr_form Tryz.underlying52 h
 rw [hx] at h
 have hel : ∀ j, j < 68 → ∃ b : UInt8, L[j]? = some (.int .u8 (b.toNat : Int)) := by
  intro j hj
  obtain ⟨f1, d1, q1, _, g1⟩ := Lib.array_elem Tryz.underlying52 h j hj
  rw [c1U8, Nat.mul_one] at g1
  rw [take1_at (by omega)] at g1
  obtain ⟨z, e2, _, hw⟩ := DataW.trod_int Tryz.underlying5 g1
  simp at e2
  have hb := bounds_u8 hw
  refine ⟨UInt8.ofNat z.toNat, ?_⟩
  rw [List.getElem?_eq_getElem (by omega), e2]
  congr 2
  rw [UInt8.toNat_ofNat']; omega
 obtain ⟨k, hk, hc⟩ := list_of 68 hel
 refine ⟨k, hk, fun i hi => ?_⟩
 rw [hc i (by omega)]
 simp [bys, kF, List.getElem?_eq_getElem (show i < k.length by omega)]
end
section
variable {H : Type} {enc : TypeId × Value → H} {W : World} {r : Reach} {base : Nat} {sp : Nat → Bool} {held : Bool} {fuel : Nat}
end
end Go.Proofs.YtkaipknkjocfiaaGreat
namespace Go.Proofs.YtkaipknkjocfiaaGreat
abbrev Sp := Nat × Nat
def TT : Nat := 18446744073709551616
def fit (x : Sp) : Prop := x.1 < 18446744073709551616 ∧ x.2 < 18446744073709551616
def good (x : Sp) : Bool := decide (0 < x.2) && decide (x.1 + x.2 ≤ 18446744073709551616)
def last (x : Sp) : Nat := if good x then x.1 + x.2 - 1 else 0
def has (x : Sp) (p : Nat) : Bool := good x && (decide (x.1 ≤ p) && decide (p < x.1 + x.2))
def overlap (x y : Sp) : Bool := good x && (good y && (decide (x.1 < y.1 + y.2) && decide (y.1 < x.1 + x.2)))
def within (x y : Sp) : Bool := good x && (good y && (decide (y.1 ≤ x.1) && decide (x.1 + x.2 ≤ y.1 + y.2)))
def paged (x : Sp) : Bool := good x && (decide (x.1 % 4096 = 0) && decide (x.2 % 4096 = 0))
theorem good_iff (x : Sp) : good x = true ↔ 0 < x.2 ∧ x.1 + x.2 ≤ 18446744073709551616 := by simp [good]
theorem has_iff (x : Sp) (p : Nat) : has x p = true ↔ good x = true ∧ x.1 ≤ p ∧ p < x.1 + x.2 := by simp [has]
theorem overlap_iff (x y : Sp) : overlap x y = true ↔ good x = true ∧ good y = true ∧ x.1 < y.1 + y.2 ∧ y.1 < x.1 + x.2 := by simp [overlap]
theorem last_good {x : Sp} (h : good x = true) : last x + 1 = x.1 + x.2 := by
 unfold last; rw [if_pos h]; have := (good_iff x).1 h; omega
theorem last_bad {x : Sp} (h : good x = false) : last x = 0 := by unfold last; rw [h]; rfl
def Rise : Nat → List Sp → Prop
 | _, [] => True
 | lo, x :: r => lo ≤ x.1 ∧ 0 < x.2 ∧ x.1 + x.2 ≤ TT ∧ Rise (x.1 + x.2 + 1) r
def Mem (l : List Sp) (p : Nat) : Prop := ∃ x ∈ l, x.1 ≤ p ∧ p < x.1 + x.2
theorem Rise.mono {a b : Nat} (h : a ≤ b) : ∀ {l : List Sp}, Rise b l → Rise a l
 | [], _ => trivial
 | _ :: _, ⟨h1, h2, h3, h4⟩ => ⟨Nat.le_trans h h1, h2, h3, h4⟩
theorem Rise.lo {a p : Nat} : ∀ {l : List Sp}, Rise a l → Mem l p → a ≤ p
 | [], _, ⟨_, hx, _⟩ => by cases hx
 | y :: r, ⟨h1, h2, h3, h4⟩, ⟨x, hx, hp1, hp2⟩ => by
  rcases List.mem_cons.1 hx with rfl | hx
  · omega
  · have := Rise.lo h4 ⟨x, hx, hp1, hp2⟩; omega
theorem mem_cons {x : Sp} {r : List Sp} {p : Nat} : Mem (x :: r) p ↔ (x.1 ≤ p ∧ p < x.1 + x.2) ∨ Mem r p := by
 constructor
 · rintro ⟨y, hy, h⟩
   rcases List.mem_cons.1 hy with rfl | hy
   · exact .inl h
   · exact .inr ⟨y, hy, h⟩
 · rintro (h | ⟨y, hy, h⟩)
   · exact ⟨x, by simp, h⟩
   · exact ⟨y, by simp [hy], h⟩
def half : Nat := 9223372036854775808
def split (l : List Sp) : List Sp := l.flatMap fun x => if x = (0, TT) then [(0, half), (half, half)] else [x]
def ERise : Nat → List Sp → Prop
 | _, [] => True
 | lo, x :: r => lo ≤ x.1 ∧ x.1 ≤ x.2 ∧ x.2 < TT ∧ ERise (x.2 + 2) r
theorem ERise.mono {a b : Nat} (h : a ≤ b) : ∀ {l : List Sp}, ERise b l → ERise a l
 | [], _ => trivial
 | _ :: _, ⟨h1, h2, h3, h4⟩ => ⟨Nat.le_trans h h1, h2, h3, h4⟩
end Go.Proofs.YtkaipknkjocfiaaGreat
