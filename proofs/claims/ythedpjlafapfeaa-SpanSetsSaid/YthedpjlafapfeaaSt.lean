/- The row as a whole: what it holds, and that all else is as it was (but for new blocks). -/
import Derived.Test.YthedpjlafapfeaaPivot
import Derived.Sort.LotD5
import Derived.Sort.LotD1
import Derived.Deep.RegionHeld
namespace Go.Proofs.Ythedpjlafapfeaa
open Go.RowKit Go.Shelf Go.Lib Go.Sort Go.Proofs

structure St (w W : World) (blk off : Nat) (d : Array Int) : Prop where
  holds : Holds encU W blk off d
  grown : w.grownBy W (some blk)
  shape : ∀ c e fr, w.heap[blk]? = some (.cells c e fr) → ∃ c', W.heap[blk]? = some (.cells c' e fr) ∧ c'.size = c.size
  lt : blk < w.heap.size
section
variable {w W W' : World} {blk off : Nat} {d d' : Array Int}
theorem St.refl (h : Holds encU w blk off d) (hlt : blk < w.heap.size) : St w w blk off d := ⟨h, World.grownBy.refl _ _, fun c _ _ hc => ⟨c, hc, rfl⟩, hlt⟩
theorem St.below (h : St w W blk off d) (hb : RowKit.Below W.heap.size W W') : St w W' blk off d := by
  have hl := Nat.lt_of_lt_of_le h.lt h.grown.size
  refine ⟨fun j hj => ⟨(hb.cell hl).trans (h.holds j hj).1, (hb.frozen hl).trans (h.holds j hj).2⟩, h.grown.trans ⟨hb.os, hb.tape, hb.output, hb.size, fun k hk _ => hb.block k hk⟩, fun c e fr hc => ?_, h.lt⟩
  obtain ⟨c', h1, h2⟩ := h.shape c e fr hc
  exact ⟨c', (hb.block blk hl).trans h1, h2⟩
theorem grownBy_putRow (W : World) (n blk off : Nat) (d : Array Int) : W.grownBy (putRow encU (Sort.ahead W n) blk off d) (some blk) := by
  refine ⟨rfl, rfl, rfl, by simp, fun k hk hne => ?_⟩
  have : blk ≠ k := fun e => hne (by rw [e])
  simp [putRow, mapBlock, Sort.ahead, Array.getElem?_modify, this]
theorem St.put (h : St w W blk off d) {n : Nat} (hs : d'.size = d.size) (hW : W' = putRow encU (Sort.ahead W n) blk off d') : St w W' blk off d' := by
  subst hW
  refine ⟨holds_putRow encU _ blk off d d' (holds_ahead encU W n blk off d h.holds) hs, h.grown.trans (grownBy_putRow W n blk off d'), fun c e fr hc => ?_, h.lt⟩
  obtain ⟨c', h1, h2⟩ := h.shape c e fr hc
  refine ⟨putCells encU off d' c', ?_, by simp [putCells, h2]⟩
  simp [putRow, mapBlock, Sort.ahead, Array.getElem?_modify, h1, onCells]
theorem swap_put (h : Holds encU W blk off d) {i j : Nat} (hi : i < d.size) (hj : j < d.size) (q : Nat) :
    ((W.drewN q).setCell ⟨blk, off + i, none⟩ (encU d[j]!)).setCell ⟨blk, off + j, none⟩ (encU d[i]!) = putRow encU (Sort.ahead W q) blk off (swp d i j) := by
  have := swap_worldA encU W 0 q blk off d i j hi hj
  rw [show putRow encU (Sort.ahead W 0) blk off d = W from putRow_self encU W blk off d h] at this
  rwa [Nat.zero_add] at this
theorem St.swap (h : St w W blk off d) {i j : Nat} (hi : i < d.size) (hj : j < d.size) (q : Nat) :
    St w (((W.drewN q).setCell ⟨blk, off + i, none⟩ (encU d[j]!)).setCell ⟨blk, off + j, none⟩ (encU d[i]!)) blk off (swp d i j) :=
  h.put (size_swp d i j) (swap_put h.holds hi hj q)
theorem St.other (h : St w W blk off d) {sb : Nat} (hs : w.heap.size ≤ sb) (v : Value) (q : Nat) : St w ((W.setCell ⟨sb, 0, none⟩ v).drewN q) blk off d := by
  have hne : sb ≠ blk := by have := h.lt; omega
  have hcell : ∀ a : Addr, a.block = blk → (W.setCell ⟨sb, 0, none⟩ v).cell? a = W.cell? a := fun a ha => World.cell?_setCell_far W ⟨sb, 0, none⟩ a v (by simp [ha, hne])
  have hblk : ∀ k, k ≠ sb → (W.setCell ⟨sb, 0, none⟩ v).heap[k]? = W.heap[k]? := fun k hk => RowKit.Below.heap_setCell W ⟨sb, 0, none⟩ v k hk
  have hB : RowKit.Below sb W ((W.setCell ⟨sb, 0, none⟩ v).drewN q) := below_drewN ((RowKit.Below.refl sb W).setCell (Nat.le_refl _) v) q
  refine ⟨fun j hj => ⟨(hcell _ rfl).trans (h.holds j hj).1, ?_⟩, ?_, fun c e fr hc => ?_, h.lt⟩
  · have := (h.holds j hj).2
    rw [World.frozen?_drewN, World.frozen?_setCell]
    exact this
  · exact ⟨hB.os.trans h.grown.os, hB.tape.trans h.grown.tape, hB.output.trans h.grown.output, Nat.le_trans h.grown.size hB.size, fun k hk hk2 => (hblk k (by omega)).trans (h.grown.block k hk hk2)⟩
  · obtain ⟨c', h1, h2⟩ := h.shape c e fr hc
    exact ⟨c', (hblk blk (Ne.symm hne)).trans h1, h2⟩
end
theorem st_view {w W : World} {blk off : Nat} {dk : Array Int} {m : Nat} (h : St w W blk off dk) (hs : dk.size = m) :
    ∃ G : Nat → Int, (∀ t, G t = dk[t]!) ∧ (∀ t, t < m → W.cell? ⟨blk, off + t, none⟩ = some (.int .u64 (G t))) ∧ (∀ t, t < m → W.frozen? ⟨blk, off + t, none⟩ = false) :=
  ⟨fun t => dk[t]!, fun _ => rfl, fun t ht => (h.holds t (by omega)).1, fun t ht => (h.holds t (by omega)).2⟩
end Go.Proofs.Ythedpjlafapfeaa
