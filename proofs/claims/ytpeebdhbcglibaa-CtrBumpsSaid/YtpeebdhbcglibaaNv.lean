/- A store of words: what it is, what is done with it; where it lies. -/
import Derived.Test.YtpeebdhbcglibaaNw
import Derived.Test.YtpeebdhbcglibaaTurn
import Derived.Test.YtpeebdhbcglibaaVs9
import Derived.Laws.Rows
namespace Go.Proofs.Ytpeebdhbcglibaa
open Go.RowKit

/-- A store: its words, the cuts that are left, the count, whether there is power. -/
structure St where
  ws : List W32
  cs : List Ct
  cnt : Nat
  on : Bool
/-- The cut that strikes at the next write. -/
def St.hit (s : St) : Option W32 := match s.cs with
  | [] => none
  | c :: _ => if c.after = (s.cnt : Int) then some c.mask else none
/-- A write's error. -/
def St.wrE (s : St) (i : Int) : Nat := if s.on = false then 100 else if ¬ (0 ≤ i ∧ i < (s.ws.length : Int)) then 1 else match s.hit with
  | some _ => 100
  | none => 0
/-- What a write makes of it. -/
def St.wr (s : St) (i : Int) (x : W32) : St := if s.on = false then s else if ¬ (0 ≤ i ∧ i < (s.ws.length : Int)) then s else match s.hit with
  | some m => ⟨s.ws.set i.toNat (tornW (s.ws.getD i.toNat 0) x m), s.cs, s.cnt, false⟩
  | none => ⟨s.ws.set i.toNat x, s.cs, s.cnt + 1, true⟩
def St.boot (s : St) : St := ⟨s.ws, s.cs.drop 1, 0, true⟩
theorem St.wr_len (s : St) (i : Int) (x : W32) : (s.wr i x).ws.length = s.ws.length := by
  unfold St.wr
  split
  · rfl
  · split
    · rfl
    · split <;> simp
theorem St.wr_cs (s : St) (i : Int) (x : W32) : (s.wr i x).cs = s.cs := by
  unfold St.wr
  split
  · rfl
  · split
    · rfl
    · split <;> rfl
theorem St.wr_cnt (s : St) (i : Int) (x : W32) : (s.wr i x).cnt ≤ s.cnt + 1 := by
  unfold St.wr
  split
  · omega
  · split
    · omega
    · split <;> simp
/-- Where a store's lists lie: p is its block, v its row of words, A its cuts; G: the blocks that it may change. -/
structure Lay (w : World) (G : Nat → Prop) (p : Nat) (s : St) (v : Value) (A : Option Addr) (c : Nat) : Prop where
  row : w.ownsRow 0 30 1 v s.ws.length (u32s s.ws)
  gp : G p
  gv : ∀ k, v.ownBlock = some k → G k ∧ k ≠ p
  lt : ∀ i, G i → i < w.heap.size
  ct : Lies w w.heap.size 2 A s.cs.length (cellsC s.cs)
  ca : s.cs.length ≤ c
  ok : ∀ x ∈ s.cs, CtOk x
  ng : ∀ a, A = some a → s.cs.length ≠ 0 → ¬ G a.block
section
variable {w w' : World} {G : Nat → Prop} {p c : Nat} {s : St} {v : Value} {A : Option Addr}
theorem Blk.froz {g : Nat} {t : TypeId} {cs : Array Value} (h : Blk w g t cs) (i : Nat) : w.frozen? ⟨g, i, none⟩ = false := by
  unfold Blk at h; simp [World.frozen?, h]
theorem Blk.set {g : Nat} {t : TypeId} {cs : Array Value} (h : Blk w g t cs) (i : Nat) (u : Value) : Blk (w.setCell ⟨g, i, none⟩ u) g t (cs.setIfInBounds i u) := by
  unfold Blk at h ⊢
  simp [World.setCell, Array.getElem?_modify, h]
theorem Blk.far {g : Nat} {t : TypeId} {cs : Array Value} (h : Blk w g t cs) {q : Addr} (hq : g ≠ q.block) (u : Value) : Blk (w.setCell q u) g t cs := by
  unfold Blk at h ⊢
  rw [heap_setCell_other w q g u hq]; exact h
theorem owns_same {base : Nat} {e : TypeId} {n size : Nat} {xs : List Value} (h : w.ownsRow base e size v n xs) (hs : ∀ k, v.ownBlock = some k → w'.heap[k]? = w.heap[k]?) : w'.ownsRow base e size v n xs := by
  refine ⟨h.1, ?_⟩
  rcases h.2 with h2 | ⟨g, cap, cur, hv, hg, hh, rest⟩
  · exact Or.inl h2
  · exact Or.inr ⟨g, cap, cur, hv, hg, (hs g (by rw [hv]; rfl)).trans hh, rest⟩
theorem owns_set {base : Nat} {e : TypeId} {n g cap k : Nat} {xs : List Value} (h : w.ownsRow base e 1 (.slice (some ⟨g, 0, none⟩) n cap) n xs) (u : Value) : (w.setCell ⟨g, k, none⟩ u).ownsRow base e 1 (.slice (some ⟨g, 0, none⟩) n cap) n (xs.set k u) := by
  refine ⟨by rw [List.length_set]; exact h.1, ?_⟩
  rcases h.2 with ⟨h2, _⟩ | ⟨g', cap', cur, hv, hg, hh, h1, h2, h3, h4⟩
  · cases h2
  · injection hv with e1 e2 e3
    injection e1 with e1
    injection e1 with e1
    subst e1 e3
    refine Or.inr ⟨g, cap, cur.setIfInBounds k u, rfl, hg, heap_setCell_same w g k cur e u hh, h1, h2, by simpa using h3, ?_⟩
    rw [Array.toList_setIfInBounds, List.take_set, h4]
theorem Lay.same (h : Lay w G p s v A c) (hz : w.heap.size ≤ w'.heap.size) (hs : ∀ i, G i → w'.heap[i]? = w.heap[i]?) (hc : ∀ a, A = some a → s.cs.length ≠ 0 → w'.heap[a.block]? = w.heap[a.block]?) : Lay w' G p s v A c :=
  ⟨owns_same h.row fun k hk => hs k (h.gv k hk).1, h.gp, h.gv, fun i hi => Nat.lt_of_lt_of_le (h.lt i hi) hz, ⟨h.ct.1, fun hn => by
    obtain ⟨a, e, hb, hl⟩ := h.ct.2 hn
    refine ⟨a, e, by omega, fun j hj => (World.cell?_of_block ?_).trans (hl j hj)⟩
    rw [addr_add_block]; exact hc a e hn⟩, h.ca, h.ok, h.ng⟩
theorem Lay.turn {G' : Nat → Prop} (h : Lay w G p s v A c) (k : Turn G' w w') (hd : ∀ i, G i → ¬ G' i) (hn : ∀ a, A = some a → s.cs.length ≠ 0 → ¬ G' a.block) : Lay w' G p s v A c :=
  h.same k.size (fun i hi => k.block i (h.lt i hi) (hd i hi)) fun a e hl => k.block _ (by obtain ⟨b, e2, hb, _⟩ := h.ct.2 hl; rw [e] at e2; cases e2; exact hb) (hn a e hl)
theorem Lay.under (h : Lay w G p s v A c) (k : Below w.heap.size w w') : Lay w' G p s v A c :=
  h.same k.size (fun i hi => k.block i (h.lt i hi)) fun a e hl => k.block _ (by obtain ⟨b, e2, hb, _⟩ := h.ct.2 hl; rw [e] at e2; cases e2; exact hb)
theorem Lay.form (h : Lay w G p s v A c) : ∃ B d, v = .slice B s.ws.length d ∧ s.ws.length ≤ d ∧ Lies w w.heap.size 1 B s.ws.length (u32s s.ws) := by
  obtain ⟨B, d, e, h1, _, h2⟩ := owns_cap h.row
  exact ⟨B, d, e, h1, h2⟩
/-- A word's place. -/
theorem Lay.at (h : Lay w G p s v A c) {k : Nat} (hk : k < s.ws.length) : ∃ g d, v = .slice (some ⟨g, 0, none⟩) s.ws.length d ∧ s.ws.length ≤ d ∧ G g ∧ g ≠ p ∧ w.cell? ⟨g, k, none⟩ = some (.int .u32 (num (s.ws.getD k 0))) ∧ w.frozen? ⟨g, k, none⟩ = false := by
  rcases h.row.2 with ⟨_, h2⟩ | ⟨g, cap, cur, h1, _, hh, h4, _⟩
  · omega
  · have hc := h.row.cells (g := g) (by rw [h1]; rfl)
    have hadd : ∀ j, (⟨g, 0, none⟩ : Addr).add j = ⟨g, j, none⟩ := fun j => by unfold Addr.add; split <;> simp_all
    have e1 := hc _ _ (u32s_at s.ws k hk)
    rw [hadd] at e1
    have h2 := h.gv g (by rw [h1]; rfl)
    refine ⟨g, cap, h1, h4, h2.1, h2.2, ?_, by simp [World.frozen?, hh]⟩
    rw [e1, List.getD_eq_getElem?_getD, List.getElem?_eq_getElem hk]; rfl
/-- The first cut. -/
theorem Lay.cut (h : Lay w G p s v A c) {x : Ct} {xs : List Ct} (hx : s.cs = x :: xs) : ∃ a, A = some a ∧ w.cell? a = some (.int .i64 x.after) ∧ w.cell? ⟨a.block, a.off + 1, none⟩ = some (.int .u32 (num x.mask)) := by
  obtain ⟨a, e, _, hl⟩ := h.ct.2 (by rw [hx]; simp)
  have h0 := hl 0 (by rw [hx]; simp [cellsC])
  have h1 := hl 1 (by rw [hx]; simp [cellsC])
  simp only [hx, cellsC, List.getElem_cons_zero, List.getElem_cons_succ] at h0 h1
  have e0 : a.add 0 = a := by simp [Addr.add]
  rw [e0] at h0
  exact ⟨a, e, h0, h1⟩
/-- A word is written. -/
theorem Lay.put (h : Lay w G p s v A c) {g d : Nat} (hv : v = .slice (some ⟨g, 0, none⟩) s.ws.length d) (k : Nat) (x : W32) (cnt : Nat) (on : Bool) : Lay (w.setCell ⟨g, k, none⟩ (.int .u32 (num x))) G p ⟨s.ws.set k x, s.cs, cnt, on⟩ v A c := by
  have hg := h.gv g (by rw [hv]; rfl)
  refine ⟨?_, h.gp, h.gv, fun i hi => by have := h.lt i hi; simpa [World.setCell] using this, ?_, h.ca, h.ok, h.ng⟩
  · have h1 := h.row
    rw [hv] at h1
    have h2 := owns_set (k := k) h1 (.int .u32 (num x))
    rw [u32s_set] at h2
    rw [hv, List.length_set]
    exact h2
  · have hsz : (w.setCell ⟨g, k, none⟩ (.int .u32 (num x))).heap.size = w.heap.size := by simp [World.setCell]
    rw [hsz]
    refine ⟨h.ct.1, fun hn => ?_⟩
    obtain ⟨a, e, hb, hl⟩ := h.ct.2 hn
    refine ⟨a, e, hb, fun j hj => (World.cell?_of_block ?_).trans (hl j hj)⟩
    rw [addr_add_block]
    exact heap_setCell_other w _ _ _ fun e2 => h.ng a e hn (by rw [e2]; exact hg.1)
/-- A cell of the store's own block is written. -/
theorem Lay.own (h : Lay w G p s v A c) (k : Nat) (u : Value) (cnt : Nat) (on : Bool) : Lay (w.setCell ⟨p, k, none⟩ u) G p ⟨s.ws, s.cs, cnt, on⟩ v A c := by
  have h1 : Lay (w.setCell ⟨p, k, none⟩ u) G p s v A c := by
    refine ⟨owns_same h.row fun i hi => heap_setCell_other w _ _ _ (h.gv i hi).2, h.gp, h.gv, fun i hi => by have := h.lt i hi; simpa [World.setCell] using this, ?_, h.ca, h.ok, h.ng⟩
    have hsz : (w.setCell ⟨p, k, none⟩ u).heap.size = w.heap.size := by simp [World.setCell]
    rw [hsz]
    refine ⟨h.ct.1, fun hn => ?_⟩
    obtain ⟨a, e, hb, hl⟩ := h.ct.2 hn
    refine ⟨a, e, hb, fun j hj => (World.cell?_of_block ?_).trans (hl j hj)⟩
    rw [addr_add_block]
    exact heap_setCell_other w _ _ _ fun e2 => h.ng a e hn (by rw [e2]; exact h.gp)
  exact ⟨h1.1, h1.2, h1.3, h1.4, h1.5, h1.6, h1.7, h1.8⟩
/-- The first cut is dropped. -/
theorem Lay.tail (h : Lay w G p s v A c) {x : Ct} {xs : List Ct} (hx : s.cs = x :: xs) (a : Addr) (ha : A = some a) (cnt : Nat) (on : Bool) (B : Option Addr) (hB : B = some (a.add 2) ∨ xs = []) : Lay w G p ⟨s.ws, xs, cnt, on⟩ v B (c - 1) := by
  have hn : s.cs.length ≠ 0 := by rw [hx]; simp
  have hca := h.ca
  rw [hx] at hca
  refine ⟨h.row, h.gp, h.gv, h.lt, ⟨cellsC_length xs, fun h0 => ?_⟩, by simp at hca ⊢; omega, fun y hy => h.ok y (by rw [hx]; exact List.mem_cons_of_mem _ hy), fun b hb h0 => ?_⟩
  · obtain ⟨a', e, hb, hl⟩ := h.ct.2 hn
    rw [ha] at e
    cases e
    rcases hB with hB | hB
    · refine ⟨a.add 2, hB, by rw [addr_add_block]; exact hb, fun j hj => ?_⟩
      have hj' : j < (cellsC xs).length := hj
      have := hl (2 + j) (by rw [hx]; simp only [cellsC, List.length_cons]; omega)
      rw [addr_add_add, this]
      simp only [hx, cellsC, show 2 + j = j + 1 + 1 by omega, List.getElem_cons_succ]
    · exact absurd (by rw [hB]; rfl) h0
  · rcases hB with hB | hB
    · rw [hB] at hb
      cases hb
      rw [addr_add_block]
      exact h.ng a ha hn
    · exact absurd (by rw [hB]; rfl) h0
end
end Go.Proofs.Ytpeebdhbcglibaa
