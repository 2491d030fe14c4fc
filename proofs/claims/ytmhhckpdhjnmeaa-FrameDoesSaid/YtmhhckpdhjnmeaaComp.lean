/- slices.Compact at []uint64: a sorted row becomes a strictly rising one. -/
import Derived.Shelf.SlicesE.Compact
import Derived.Test.YtmhhckpdhjnmeaaSort
namespace Go.Proofs.Ytmhhckpdhjnmeaa
open Go.RowKit Go.Shelf Go.Lib Go.Sort Go.Proofs

/-- Of a sorted row what compacting leaves: strictly rising, with the same numbers. -/
theorem compact_spec (d : Array Int) (hs : ∀ i j, i < j → j < d.size → d[i]! ≤ d[j]!) : ∀ m, m ≤ d.size →
    (compactUpTo d m).Pairwise (· < ·) ∧ ∀ x, x ∈ compactUpTo d m ↔ ∃ j, j < m ∧ d[j]! = x
  | 0, _ => ⟨by simp [compactUpTo], fun x => by simp [compactUpTo]⟩
  | m + 1, hm => by
    obtain ⟨h1, h2⟩ := compact_spec d hs m (by omega)
    rw [compactUpTo_succ]
    by_cases hk : keeps d m = true
    · rw [if_pos hk]
      have hlt : ∀ j, j < m → d[j]! < d[m]! := by
        intro j hj
        have hne : d[m]! ≠ d[m - 1]! := by
          unfold keeps at hk
          simp at hk
          rcases hk with h | h
          · omega
          · intro e; exact h (by rw [e])
        have h5 := hs (m - 1) m (by omega) (by omega)
        rcases Nat.lt_or_ge j (m - 1) with h | h
        · have := hs j (m - 1) h (by omega); omega
        · have : j = m - 1 := by omega
          subst this; omega
      refine ⟨List.pairwise_append.2 ⟨h1, List.pairwise_singleton _ _, fun x hx y hy => ?_⟩, fun x => ?_⟩
      · obtain ⟨j, hj, rfl⟩ := (h2 x).1 hx
        rw [List.mem_singleton.1 hy]
        exact hlt j hj
      · rw [List.mem_append, h2 x, List.mem_singleton]
        constructor
        · rintro (⟨j, hj, rfl⟩ | rfl)
          · exact ⟨j, by omega, rfl⟩
          · exact ⟨m, by omega, rfl⟩
        · rintro ⟨j, hj, rfl⟩
          rcases Nat.lt_or_ge j m with h | h
          · exact .inl ⟨j, h, rfl⟩
          · obtain rfl : j = m := by omega
            exact .inr rfl
    · rw [if_neg hk, List.append_nil]
      refine ⟨h1, fun x => (h2 x).trans ⟨fun ⟨j, hj, e⟩ => ⟨j, by omega, e⟩, ?_⟩⟩
      rintro ⟨j, hj, rfl⟩
      rcases Nat.lt_or_ge j m with h | h
      · exact ⟨j, h, rfl⟩
      · obtain rfl : j = m := by omega
        unfold keeps at hk
        simp at hk
        exact ⟨j - 1, by omega, hk.2.symm⟩

/-- What the slice (A, n) holds: the numbers l. -/
def Nums (w : World) (B : Nat) (A : Option Addr) (l : List Nat) : Prop := Lies w B 1 A l.length (u64s l)
theorem compact_nil (w : World) : Calls Try.prog 61 #[.slice none 0 0] w fun e w' => e = .returned (.slice none 0 0) ∧ w' = w := by
  go_enter Try.func61, Try.ntmps61
  go_wp2
  go_ret
  exact ⟨rfl, rfl⟩
theorem compact_any (l : List Nat) (hp : l.Pairwise (· ≤ ·)) (hlen : l.length ≤ 1000000) (base : Nat) (v : Value) (w : World) (hv : OwnN w base v l) :
    Calls Try.prog 61 #[v] w fun e w' => ∃ (g : Option Addr) (c : Nat) (bs : List Nat), e = .returned (.slice g bs.length c) ∧ bs.Pairwise (· < ·) ∧ (∀ b, b ∈ bs ↔ b ∈ l) ∧ bs.length ≤ l.length ∧
      (bs ≠ [] → ∃ k cur, g = some ⟨k, 0, none⟩ ∧ base ≤ k ∧ w'.heap[k]? = some (.cells cur 22 (0, 0)) ∧ ∀ j (h : j < bs.length), cur[j]? = some (.int .u64 (bs[j] : Int))) ∧ w.grownBy w' v.ownBlock := by
  rcases hv.2 with ⟨rfl, h0⟩ | ⟨g, cap, cur, rfl, hbase, hh, hle, hcap, hsz, ht⟩
  · obtain rfl : l = [] := List.eq_nil_of_length_eq_zero h0
    refine (compact_nil w).mono ?_
    rintro e w' ⟨rfl, rfl⟩
    exact ⟨none, 0, [], rfl, List.Pairwise.nil, fun _ => Iff.rfl, Nat.le_refl _, fun h => absurd rfl h, World.grownBy.refl _ _⟩
  · have hil : (ints l).length = l.length := by simp [ints]
    have hH := holds_own (l := ints l) hh (by rw [hil, ← Nat.mul_one l.length, ht, u64s_ints])
    have hds : (ints l).toArray.size = l.length := by simp [ints]
    have hcon := AnyE.slices_Compact layC encU (fun _ => rfl) (EqlAt.intD Try.prog 22 .u64) (NeqAt.intD Try.prog 22 .u64) (0 : Int) Try.zeroValue22 g 0 cap (ints l).toArray w hH (by omega) (by omega)
    rw [hds] at hcon
    refine hcon.mono ?_
    rintro e w' ⟨rfl, q, rfl⟩
    have hget : ∀ j (h : j < l.length), (ints l).toArray[j]! = (l[j] : Int) := fun j h => by simp [ints, h]
    have hspec := compact_spec (ints l).toArray (fun i j hij hj => by
      rw [hds] at hj
      rw [hget i (by omega), hget j hj]
      have := List.pairwise_iff_getElem.1 hp i j (by omega) hj hij
      omega) l.length (by omega)
    obtain ⟨hs1, hs2⟩ := hspec
    have hlc : (compactUpTo (ints l).toArray l.length).length ≤ l.length := by
      unfold compactUpTo
      rw [List.length_map]
      exact Nat.le_trans (List.length_filter_le _ _) (by simp)
    generalize compactUpTo (ints l).toArray l.length = C at hs1 hs2 hlc ⊢
    have hmem : ∀ x, x ∈ C ↔ ∃ n ∈ l, (n : Int) = x := fun x => (hs2 x).trans ⟨fun ⟨j, hj, e⟩ => ⟨l[j], List.getElem_mem hj, by rw [← hget j hj]; exact e⟩, fun ⟨n, hn, e⟩ => by
      obtain ⟨j, hj, rfl⟩ := List.getElem_of_mem hn
      exact ⟨j, hj, by rw [hget j hj]; exact e⟩⟩
    have hnn : ∀ x ∈ C, 0 ≤ x := fun x hx => by obtain ⟨n, _, rfl⟩ := (hmem x).1 hx; omega
    have hbl : (C.map Int.toNat).length = C.length := by simp
    refine ⟨_, cap, C.map Int.toNat, by rw [hbl], ?_, ?_, by rw [hbl]; exact hlc, ?_, (by have := grown_row (w := w) (g := g) (n := q) (C ++ List.replicate (l.length - C.length) (0 : Int)).toArray #[]; rw [grow_empty] at this; exact this)⟩
    · rw [List.pairwise_map]
      refine hs1.imp_of_mem fun {a b} ha hb h => ?_
      have := hnn a ha; have := hnn b hb; omega
    · intro b
      rw [List.mem_map]
      constructor
      · rintro ⟨x, hx, rfl⟩
        obtain ⟨n, hn, rfl⟩ := (hmem x).1 hx
        simpa using hn
      · intro hb
        exact ⟨(b : Int), (hmem _).2 ⟨b, hb, rfl⟩, by simp⟩
    · intro _
      refine ⟨g, _, rfl, hbase, heap_row _ hh, fun j hj => ?_⟩
      have hj' : j < C.length := by simpa using hj
      have hx := hnn _ (List.getElem_mem hj')
      have hcs : j < cur.size := by omega
      have e1 : ((C ++ List.replicate (l.length - C.length) (0 : Int)).toArray)[j]! = C[j] := by
        rw [getElem!_pos _ j (by simp; omega)]
        simp [List.getElem_append_left hj']
      have e2 : (putCells encU 0 (C ++ List.replicate (l.length - C.length) (0 : Int)).toArray cur)[j]? = some (encU ((C ++ List.replicate (l.length - C.length) (0 : Int)).toArray)[j]!) := by
        unfold putCells
        rw [Array.getElem?_mapIdx, Array.getElem?_eq_getElem hcs]
        simp only [Option.map_some]
        rw [if_pos ⟨Nat.zero_le _, by simp; omega⟩]
        rfl
      rw [e2, e1]
      simp only [List.getElem_map]
      congr 2
      omega
end Go.Proofs.Ytmhhckpdhjnmeaa
