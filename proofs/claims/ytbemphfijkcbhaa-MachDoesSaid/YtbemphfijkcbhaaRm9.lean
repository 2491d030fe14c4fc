/- The reference's memory: pages in a list. -/
import Derived.Test.YtbemphfijkcbhaaMem9
import Derived.Test.YtbemphfijkcbhaaWa
namespace Go.Proofs.Ytbemphfijkcbhaa
open Go.RowKit

/-- A page: its address, the block of its bytes. -/
abbrev RP := Nat × Nat
def cellsP : List RP → List Value
  | [] => []
  | x :: xs => .int .u64 (x.1 : Int) :: .slice (some ⟨x.2, 0, none⟩) 4096 4096 :: cellsP xs
theorem cellsP_length : ∀ ps : List RP, (cellsP ps).length = ps.length * 2
  | [] => rfl
  | _ :: xs => by simp [cellsP, cellsP_length xs]; omega
theorem cellsP_append : ∀ a b : List RP, cellsP (a ++ b) = cellsP a ++ cellsP b
  | [], _ => rfl
  | _ :: xs, b => by simp [cellsP, cellsP_append xs b]
theorem cellsP_at : ∀ (ps : List RP) (k : Nat) (h : k < ps.length), (cellsP ps)[k * 2]? = some (.int .u64 (ps[k].1 : Int)) ∧ (cellsP ps)[k * 2 + 1]? = some (.slice (some ⟨ps[k].2, 0, none⟩) 4096 4096)
  | _ :: _, 0, _ => ⟨rfl, rfl⟩
  | _ :: xs, k + 1, h => by
    have := cellsP_at xs k (by simpa using h)
    rw [show (k + 1) * 2 = k * 2 + 1 + 1 by omega]
    exact this
theorem cellsP_one : ∀ ps : List RP, ∀ u ∈ cellsP ps, u.oneCell' = true
  | [], u, h => by cases h
  | _ :: xs, u, h => by
    rcases List.mem_cons.1 h with rfl | h
    · rfl
    · rcases List.mem_cons.1 h with rfl | h
      · rfl
      · exact cellsP_one xs u h
/-- Where the page at a stands. -/
def findR (ps : List RP) (a : Nat) : Option Nat := ps.findIdx? fun x => x.1 == a
theorem findR_some {ps : List RP} {a j : Nat} (h : findR ps a = some j) : ∃ hj : j < ps.length, ps[j].1 = a := by
  unfold findR at h
  obtain ⟨hj, h1, _⟩ := List.findIdx?_eq_some_iff_getElem.1 h
  exact ⟨hj, by simpa using h1⟩
theorem findR_none {ps : List RP} {a : Nat} (h : findR ps a = none) : ∀ x ∈ ps, x.1 ≠ a := by
  unfold findR at h
  intro x hx
  have := List.findIdx?_eq_none_iff.1 h x hx
  simpa using this
theorem findR_at {ps : List RP} {a j : Nat} (hj : j < ps.length) (h : ps[j].1 = a) (hb : ∀ k (hk : k < ps.length), k < j → ps[k].1 ≠ a) : findR ps a = some j := by
  unfold findR
  refine List.findIdx?_eq_some_iff_getElem.2 ⟨hj, by simpa using h, fun k hk => ?_⟩
  simpa using hb k (by omega) hk
theorem findR_no {ps : List RP} {a : Nat} (hb : ∀ k (hk : k < ps.length), ps[k].1 ≠ a) : findR ps a = none := by
  unfold findR
  refine List.findIdx?_eq_none_iff.2 fun x hx => ?_
  obtain ⟨k, hk, rfl⟩ := List.mem_iff_getElem.1 hx
  simpa using hb k hk
/-- Memory of the reference's: its block r, its row v of the pages ps, which read as m. -/
structure MR (w : World) (G : Nat → Prop) (r : Nat) (ram : Sp) (n : Nat) (v : Value) (ps : List RP) (m : Bytes8) : Prop where
  blk : Blk w r 90 #[.int .u64 (ram.1 : Int), .int .u64 (ram.2 : Int), v]
  gr : G r
  row : w.ownsRow 0 102 2 v ps.length (cellsP ps)
  grow : ∀ k, v.ownBlock = some k → G k ∧ k ≠ r
  lt : ∀ i, G i → i < w.heap.size
  pg : ∀ x ∈ ps, G x.2 ∧ x.2 ≠ r ∧ some x.2 ≠ v.ownBlock ∧ x.1 % 4096 = 0 ∧ x.1 < 18446744073709551616 ∧ Arr w x.2 5 4096 (bys fun i => m (x.1 + i))
  inj : ∀ x ∈ ps, ∀ y ∈ ps, (x.1 = y.1 ∨ x.2 = y.2) → x = y
  nd : (ps.map (·.1)).Nodup
  no : ∀ k, k % 4096 = 0 → (∀ x ∈ ps, x.1 ≠ k) → ∀ i, i < 4096 → m (k + i) = 0
  cnt : ps.length ≤ n
  ok : RamOk ram
section
variable {w w' : World} {G : Nat → Prop} {r n : Nat} {ram : Sp} {v : Value} {ps : List RP} {m : Bytes8}
theorem MR.same (h : MR w G r ram n v ps m) (hz : w.heap.size ≤ w'.heap.size) (hs : ∀ i, G i → w'.heap[i]? = w.heap[i]?) : MR w' G r ram n v ps m := by
  refine ⟨(hs r h.gr).trans h.blk, h.gr, ⟨h.row.1, ?_⟩, h.grow, fun i hi => Nat.lt_of_lt_of_le (h.lt i hi) hz, fun x hx => ?_, h.inj, h.nd, h.no, h.cnt, h.ok⟩
  · rcases h.row.2 with h2 | ⟨g, cap, cur, hv, hg, hh, rest⟩
    · exact Or.inl h2
    · exact Or.inr ⟨g, cap, cur, hv, hg, (hs g (h.grow g (by rw [hv]; rfl)).1).trans hh, rest⟩
  · obtain ⟨h1, h2, h3, h4, h5, h6⟩ := h.pg x hx
    exact ⟨h1, h2, h3, h4, h5, (hs _ h1).trans h6⟩
theorem MR.turn {G' : Nat → Prop} (h : MR w G r ram n v ps m) (k : Turn G' w w') (hd : ∀ i, G i → ¬ G' i) : MR w' G r ram n v ps m := h.same k.size fun i hi => k.block i (h.lt i hi) (hd i hi)
theorem MR.under (h : MR w G r ram n v ps m) (k : Below w.heap.size w w') : MR w' G r ram n v ps m := h.same k.size fun i hi => k.block i (h.lt i hi)
theorem MR.alloc (h : MR w G r ram n v ps m) (o : Obj) : MR (w.alloc o) G r ram n v ps m := h.under ((Below.refl _ _).alloc (Nat.le_refl _) o)
theorem MR.drewN (h : MR w G r ram n v ps m) (q : Nat) : MR (w.drewN q) G r ram n v ps m := h.same (Nat.le_refl _) fun _ _ => rfl
theorem MR.mono {n' : Nat} (h : MR w G r ram n v ps m) (hn : n ≤ n') : MR w G r ram n' v ps m := ⟨h.1, h.2, h.3, h.4, h.5, h.6, h.7, h.8, h.9, Nat.le_trans h.cnt hn, h.ok⟩
theorem MR.congr {m' : Bytes8} (h : MR w G r ram n v ps m) (hm : ∀ a, m' a = m a) : MR w G r ram n v ps m' := by
  obtain rfl : m' = m := funext hm
  exact h
/-- The row, as a slice value. -/
theorem MR.form (h : MR w G r ram n v ps m) : ∃ A c, v = .slice A ps.length c := by
  rcases h.row.2 with ⟨h1, h2⟩ | ⟨g, cap, cur, h1, _⟩
  · exact ⟨none, 0, by rw [h1, h2]⟩
  · exact ⟨_, cap, h1⟩
theorem MR.cells (h : MR w G r ram n v ps m) {k : Nat} (hk : k < ps.length) : ∃ g c, v = .slice (some ⟨g, 0, none⟩) ps.length c ∧ ps.length ≤ c ∧ G g ∧ w.cell? ⟨g, k * 2, none⟩ = some (.int .u64 (ps[k].1 : Int)) ∧ w.cell? ⟨g, k * 2 + 1, none⟩ = some (.slice (some ⟨ps[k].2, 0, none⟩) 4096 4096) := by
  rcases h.row.2 with ⟨_, h2⟩ | ⟨g, cap, cur, h1, _, _, h4, _⟩
  · omega
  · have hc := h.row.cells (g := g) (by rw [h1]; rfl)
    have hadd : ∀ j, (⟨g, 0, none⟩ : Addr).add j = ⟨g, j, none⟩ := fun j => by unfold Addr.add; split <;> simp_all
    obtain ⟨h5, h6⟩ := cellsP_at ps k hk
    have e1 := hc _ _ h5
    have e2 := hc _ _ h6
    rw [hadd] at e1 e2
    exact ⟨g, cap, h1, h4, (h.grow g (by rw [h1]; rfl)).1, e1, e2⟩
theorem MR.cell0 (h : MR w G r ram n v ps m) : w.cell? ⟨r, 0, none⟩ = some (.int .u64 (ram.1 : Int)) := h.blk.cellAt 0 rfl
theorem MR.cell1 (h : MR w G r ram n v ps m) : w.cell? ⟨r, 1, none⟩ = some (.int .u64 (ram.2 : Int)) := h.blk.cellAt 1 rfl
theorem MR.cell2 (h : MR w G r ram n v ps m) : w.cell? ⟨r, 2, none⟩ = some v := h.blk.cellAt 2 rfl
theorem MR.at_page (h : MR w G r ram n v ps m) {k : Nat} (hk : k < ps.length) : G ps[k].2 ∧ ps[k].2 ≠ r ∧ some ps[k].2 ≠ v.ownBlock ∧ ps[k].1 % 4096 = 0 ∧ ps[k].1 < 18446744073709551616 ∧ Arr w ps[k].2 5 4096 (bys fun i => m (ps[k].1 + i)) := h.pg _ (List.getElem_mem hk)
/-- A page is written. -/
theorem MR.store (h : MR w G r ram n v ps m) {k : Nat} (hk : k < ps.length) {m' : Bytes8} (hm : ∀ a, ¬ (ps[k].1 ≤ a ∧ a < ps[k].1 + 4096) → m' a = m a) :
    MR (w.setRow ps[k].2 (vec 4096 (bys fun i => m' (ps[k].1 + i)))) G r ram n v ps m' := by
  obtain ⟨x, hx⟩ : ∃ x, x = ps[k] := ⟨_, rfl⟩
  have hmem : x ∈ ps := by rw [hx]; exact List.getElem_mem hk
  rw [← hx] at hm ⊢
  obtain ⟨g1, g2, g3, g4, g5, g6⟩ := h.pg x hmem
  refine ⟨h.blk.rowFar (Ne.symm g2) _, h.gr, ⟨h.row.1, ?_⟩, h.grow, fun i hi => by have := h.lt i hi; simpa [World.setRow] using this, fun y hy => ?_, h.inj, h.nd, fun j hj1 hj2 i hi => ?_, h.cnt, h.ok⟩
  · rcases h.row.2 with h2 | ⟨g, cap, cur, hv, hg, hh, rest⟩
    · exact Or.inl h2
    · refine Or.inr ⟨g, cap, cur, hv, hg, ?_, rest⟩
      rw [← hh]
      have : x.2 ≠ g := fun e => g3 (by rw [hv, e]; rfl)
      simp [World.setRow, Array.getElem?_modify, this]
  · obtain ⟨j1, j2, j3, j4, j5, j6⟩ := h.pg y hy
    by_cases e : y = x
    · subst e
      exact ⟨j1, j2, j3, j4, j5, j6.row _⟩
    · have hne1 : y.1 ≠ x.1 := fun e2 => e (h.inj y hy x hmem (Or.inl e2))
      have hne2 : y.2 ≠ x.2 := fun e2 => e (h.inj y hy x hmem (Or.inr e2))
      refine ⟨j1, j2, j3, j4, j5, (j6.rowFar hne2 _).congr fun i hi => ?_⟩
      simp only [bys]
      rw [hm _ (by omega)]
  · have := hj2 x hmem
    rw [hm _ (by omega)]
    exact h.no j hj1 hj2 i hi
theorem infoRP : (Try.prog.info? 102).map (fun i => (i.zero, i.size, i.bytes)) = some (some (.agg #[.int .u64 0, .slice none 0 0]), 2, 32) := by kernel_rfl
set_option maxRecDepth 100000 in
/-- A page is laid: all 0. -/
theorem MR.grow_run (h : MR w G r ram n v ps m) {a g q : Nat} (hg : Arr w g 5 4096 (bys fun _ => 0)) (hgn : ¬ G g) (hq : w.heap[q]? = some (.cells #[.int .u64 (a : Int), .slice (some ⟨g, 0, none⟩) 4096 4096] 102 (0, 0))) (ha : a % 4096 = 0) (ha2 : a < 18446744073709551616) (hno : findR ps a = none) (hn : n + 1 ≤ 1000000) (ty : TypeId) :
    ∃ v' w', (Builtin.append_ #[88, 88] ty #[v, .slice (some ⟨q, 0, none⟩) 1 1]).run Try.prog w = .ok v' w' ∧
      MR (w'.setCell ⟨r, 2, none⟩ v') (fun i => G i ∨ i = g ∨ some i = v'.ownBlock) r ram (n + 1) v' (ps ++ [(a, g)]) m ∧ w.grownBy w' v.ownBlock ∧ (∀ i, some i = v'.ownBlock → G i ∨ w.heap.size ≤ i) ∧ w'.cell? ⟨r, 2, none⟩ = some v ∧ w'.frozen? ⟨r, 2, none⟩ = false := by
  obtain ⟨i0, hi, hz0, hz1, hz2⟩ := info_parts infoRP
  have hnews : ∀ j u, (cellsP [(a, g)])[j]? = some u → w.cell? ((⟨q, 0, none⟩ : Addr).add j) = some u := by
    intro j u hu
    have hadd : (⟨q, 0, none⟩ : Addr).add j = ⟨q, j, none⟩ := by unfold Addr.add; split <;> simp_all
    rw [hadd, cell_of_row _ q j _ _ (0, 0) hq]
    have e : cellsP [(a, g)] = (#[.int .u64 (a : Int), .slice (some ⟨g, 0, none⟩) 4096 4096] : Array Value).toList := rfl
    rw [e, Array.getElem?_toList] at hu
    exact hu
  have hcnt := h.cnt
  obtain ⟨v', w', h1, h2, h3, _, h5⟩ := run_append_own_at (P := Try.prog) w 0 88 ty 102 i0 (.agg #[.int .u64 0, .slice none 0 0]) 2 32 Try.underlying88 hi hz0 hz1 hz2 rfl (by decide) v ps.length (cellsP ps) h.row
    ⟨q, 0, none⟩ 1 1 (cellsP [(a, g)]) (cellsP_length _) hnews (cellsP_one _) (by unfold maxLen; omega) (by omega) (Nat.zero_le _)
  have hvr : some r ≠ v.ownBlock := fun e => (h.grow r e.symm).2 rfl
  have hrl := h.lt r h.gr
  have hblk : Blk w' r 90 #[.int .u64 (ram.1 : Int), .int .u64 (ram.2 : Int), v] := h.blk.grown h3 hvr
  have hsz := h3.size
  have hv'r : some r ≠ v'.ownBlock := fun e => by
    rcases h5 with e2 | e2
    · exact hvr (e.trans e2)
    · rw [e2] at e; injection e with e; omega
  have hset : ∀ i, i ≠ r → (w'.setCell ⟨r, 2, none⟩ v').heap[i]? = w'.heap[i]? := fun i hi => by
    simp [World.setCell, Array.getElem?_modify, Ne.symm hi]
  have hsz2 : (w'.setCell ⟨r, 2, none⟩ v').heap.size = w'.heap.size := by simp [World.setCell]
  have hgv : some g ≠ v.ownBlock := fun e => hgn (h.grow g e.symm).1
  have hglt := hg.lt
  have hgr2 : g ≠ r := fun e => hgn (by rw [e]; exact h.gr)
  have hown : ∀ k, v'.ownBlock = some k → k ≠ r ∧ k < w'.heap.size ∧ k ≠ g := fun k hk => by
    have hlt := (h2.lt k hk).2
    rcases h5 with e2 | e2
    · rw [e2] at hk
      exact ⟨(h.grow k hk).2, hlt, fun e => hgn (e ▸ (h.grow k hk).1)⟩
    · rw [e2] at hk
      injection hk with hk
      exact ⟨by omega, hlt, by omega⟩
  refine ⟨v', w', h1, ?_, h3, fun i hi => ?_, hblk.cellAt 2 rfl, by have := hblk; unfold Blk at this; simp [World.frozen?, this]⟩
  · refine ⟨?_, Or.inl h.gr, ⟨by rw [cellsP_length], ?_⟩, fun k hk => ⟨Or.inr (Or.inr hk.symm), (hown k hk).1⟩, fun i hi => ?_, fun x hx => ?_, fun x hx y hy hxy => ?_, ?_, fun k hk1 hk2 i hi => ?_, by simp; exact hcnt, h.ok⟩
    · unfold Blk at hblk ⊢
      simp [World.setCell, Array.getElem?_modify, hblk]
    · have h2' : w'.ownsRow 0 102 2 v' (ps.length + 1) (cellsP ps ++ cellsP [(a, g)]) := h2
      rw [← cellsP_append] at h2'
      rw [List.length_append]
      rcases h2'.2 with hh | ⟨g', cap, cur, hv, hg', hh, rest⟩
      · exact Or.inl hh
      · refine Or.inr ⟨g', cap, cur, hv, hg', ?_, rest⟩
        rw [hset g' (fun e => hv'r (by rw [hv, e]; rfl))]
        exact hh
    · rw [hsz2]
      rcases hi with hi | rfl | hi
      · have := h.lt i hi; omega
      · omega
      · exact (hown i hi.symm).2.1
    · rcases List.mem_append.1 hx with hx | hx
      · obtain ⟨j1, j2, j3, j4, j5, j6⟩ := h.pg x hx
        have hlx := h.lt _ j1
        refine ⟨Or.inl j1, j2, fun e => ?_, j4, j5, ?_⟩
        · rcases h5 with e2 | e2
          · exact j3 (e.trans e2)
          · rw [e2] at e; injection e with e; omega
        · have := j6.grown h3 j3
          unfold Arr at this ⊢
          rw [hset _ j2]
          exact this
      · obtain rfl : x = (a, g) := List.mem_singleton.1 hx
        refine ⟨Or.inr (Or.inl rfl), hgr2, fun e => (hown g e.symm).2.2 rfl, ha, ha2, ?_⟩
        have hz : Arr w g 5 4096 (bys fun i => m (a + i)) := hg.congr fun i hi => by
          simp only [bys]
          rw [h.no a ha (findR_none hno) i hi]
        have := hz.grown h3 hgv
        unfold Arr at this ⊢
        rw [hset _ hgr2]
        exact this
    · have fresh : ∀ z ∈ ps, z.1 ≠ a ∧ z.2 ≠ g := fun z hz => ⟨findR_none hno z hz, fun e => hgn (e ▸ (h.pg z hz).1)⟩
      rcases List.mem_append.1 hx with hx | hx <;> rcases List.mem_append.1 hy with hy | hy
      · exact h.inj x hx y hy hxy
      · obtain rfl : y = (a, g) := List.mem_singleton.1 hy
        rcases hxy with e | e
        · exact absurd e (fresh x hx).1
        · exact absurd e (fresh x hx).2
      · obtain rfl : x = (a, g) := List.mem_singleton.1 hx
        rcases hxy with e | e
        · exact absurd e.symm (fresh y hy).1
        · exact absurd e.symm (fresh y hy).2
      · exact (List.mem_singleton.1 hx).trans (List.mem_singleton.1 hy).symm
    · rw [List.map_append]
      refine List.nodup_append.2 ⟨h.nd, by simp, fun x hx y hy => ?_⟩
      obtain ⟨z, hz, rfl⟩ := List.mem_map.1 hx
      obtain rfl : y = a := by simpa using hy
      exact findR_none hno z hz
    · exact h.no k hk1 (fun x hx => hk2 x (List.mem_append_left _ hx)) i hi
  · rcases h5 with e2 | e2
    · rw [e2] at hi
      exact Or.inl (h.grow i hi.symm).1
    · rw [e2] at hi
      injection hi with hi
      exact Or.inr (by omega)
end
end Go.Proofs.Ytbemphfijkcbhaa
