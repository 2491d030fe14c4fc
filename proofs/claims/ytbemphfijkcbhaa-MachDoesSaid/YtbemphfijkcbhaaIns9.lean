/- Rising lists of addresses; one more among them; the slices of it. -/
import Derived.ArgAppend
import Derived.Test.YtbemphfijkcbhaaColl9
import Derived.Test.YtbemphfijkcbhaaRw9
import Derived.Test.YtbemphfijkcbhaaApz9
namespace Go.Proofs.Ytbemphfijkcbhaa
open Go.RowKit

/-- Strictly rising. -/
def Up (l : List Nat) : Prop := l.Pairwise (· < ·)
theorem up_ext : ∀ {a b : List Nat}, Up a → Up b → (∀ x, x ∈ a ↔ x ∈ b) → a = b
  | [], [], _, _, _ => rfl
  | [], y :: b, _, _, h => by have := (h y).2 (by simp); cases this
  | x :: a, [], _, _, h => by have := (h x).1 (by simp); cases this
  | x :: a, y :: b, ha, hb, h => by
    obtain ⟨ha1, ha2⟩ := List.pairwise_cons.1 ha
    obtain ⟨hb1, hb2⟩ := List.pairwise_cons.1 hb
    have e : x = y := by
      rcases List.mem_cons.1 ((h x).1 (by simp)) with e | e
      · exact e
      · rcases List.mem_cons.1 ((h y).2 (by simp)) with e2 | e2
        · exact e2.symm
        · have := ha1 _ e2; have := hb1 _ e; omega
    subst e
    congr 1
    refine up_ext ha2 hb2 fun z => ?_
    have hz := h z
    simp only [List.mem_cons] at hz
    constructor
    · intro hm
      rcases hz.1 (Or.inr hm) with e | e
      · subst e; have := ha1 _ hm; omega
      · exact e
    · intro hm
      rcases hz.2 (Or.inr hm) with e | e
      · subst e; have := hb1 _ hm; omega
      · exact e
theorem up_insert {l : List Nat} {k x : Nat} (h : Up l) (h1 : ∀ y ∈ l.take k, y < x) (h2 : ∀ y ∈ l.drop k, x < y) : Up (l.take k ++ (x :: l.drop k)) := by
  unfold Up at h ⊢
  have hs : (l.take k ++ l.drop k).Pairwise (· < ·) := by rw [List.take_append_drop]; exact h
  rw [List.pairwise_append] at hs ⊢
  refine ⟨hs.1, List.pairwise_cons.2 ⟨h2, hs.2.1⟩, fun a ha b hb => ?_⟩
  rcases List.mem_cons.1 hb with rfl | hb
  · exact h1 a ha
  · exact hs.2.2 a ha b hb
theorem up_drop {l : List Nat} {k x : Nat} (h : Up l) (hk : ∀ hk : k < l.length, x < l[k]) : ∀ y ∈ l.drop k, x < y := by
  intro y hy
  obtain ⟨j, hj, rfl⟩ := List.mem_iff_getElem.1 hy
  have hj2 : k + j < l.length := by simp at hj; omega
  rw [List.getElem_drop]
  have h0 := hk (by omega)
  by_cases e : j = 0
  · subst e; simpa using h0
  · have := (List.pairwise_iff_getElem.1 h) k (k + j) (by omega) hj2 (by omega)
    omega
theorem mem_ins {l : List Nat} {k x y : Nat} : y ∈ l.take k ++ (x :: l.drop k) ↔ (y = x ∨ y ∈ l) := by
  rw [List.mem_append, List.mem_cons]
  have : y ∈ l ↔ (y ∈ l.take k ∨ y ∈ l.drop k) := by rw [← List.mem_append, List.take_append_drop]
  rw [this]
  constructor
  · rintro (h | h | h)
    · exact Or.inr (Or.inl h)
    · exact Or.inl h
    · exact Or.inr (Or.inr h)
  · rintro (h | h | h)
    · exact Or.inr (Or.inl h)
    · exact Or.inl h
    · exact Or.inr (Or.inr h)
theorem u64s_one (l : List Nat) : ∀ u ∈ u64s l, u.oneCell' = true := by
  intro u hu
  obtain ⟨b, _, rfl⟩ := List.mem_map.1 hu
  rfl
theorem u64s_len (l : List Nat) : (u64s l).length = l.length := by simp [u64s]
/-- What is behind place k; what is ahead of it, full. -/
theorem cut_tail {w : World} {A : Option Addr} {c : Nat} {l : List Nat} {k : Nat} (hk : k ≤ l.length) (hc : l.length ≤ c) (h : Lies w w.heap.size 1 A l.length (u64s l)) :
    ∃ B, (∀ W, (Instr.sliceAt 46 (.slice A l.length c) (some (.int .i64 (k : Int))) none none).run Try.prog W = .ok (.slice B (l.drop k).length (c - k)) W) ∧ Lies w w.heap.size 1 B (l.drop k).length (u64s (l.drop k)) := by
  have hlen : (l.drop k).length = l.length - k := by simp
  refine ⟨if c = k then A else A.map fun a => a.add (k * 1), fun W => ?_, ?_⟩
  · rw [hlen]
    have he : Try.prog.underlying 46 = some (.slice (Try.prog.elem 46)) := by kernel_rfl
    rw [run_sliceAt_slice W _ _ _ _ _ he, run_slice_l W _ _ _ _ he .i64 (k : Int) (by omega) (by omega)]
    have hs : (sizeOf (Try.prog.elem 46)).run Try.prog W = .ok 1 W := by kernel_rfl
    rw [hs]
    simp only [Result.andThen_ok, sliced, Int.toNat_natCast]
  · refine ⟨by rw [u64s_len]; omega, fun h0 => ?_⟩
    obtain ⟨a, rfl, hb, hcell⟩ := h.2 (by omega)
    rw [if_neg (by omega)]
    refine ⟨a.add (k * 1), rfl, by rw [addr_add_block]; exact hb, fun j hj => ?_⟩
    have hj2 : j < l.length - k := by rw [u64s_len, hlen] at hj; exact hj
    rw [Nat.mul_one, addr_add_add, hcell (k + j) (by rw [u64s_len]; omega)]
    simp [u64s]
theorem cut_head {w : World} {A : Option Addr} {c : Nat} {l : List Nat} {k : Nat} (hk : k ≤ l.length) (hc : l.length ≤ c) (h : Lies w w.heap.size 1 A l.length (u64s l)) :
    ∃ B, (∀ W, (Instr.sliceAt 46 (.slice A l.length c) none (some (.int .i64 (k : Int))) (some (.int .i64 (k : Int)))).run Try.prog W = .ok (.slice B (l.take k).length k) W) ∧ Lies w w.heap.size 1 B (l.take k).length (u64s (l.take k)) := by
  have hlen : (l.take k).length = k := by simp; omega
  refine ⟨if k = 0 then A else A.map fun a => a.add (0 * 1), fun W => ?_, ?_⟩
  · rw [hlen]
    have he : Try.prog.underlying 46 = some (.slice (Try.prog.elem 46)) := by kernel_rfl
    rw [run_sliceAt_slice W _ _ _ _ _ he]
    have hs : (sizeOf (Try.prog.elem 46)).run Try.prog W = .ok 1 W := by kernel_rfl
    have hr := run_slice_hm (P := Try.prog) (w := W) 46 A l.length c he .i64 .i64 (k : Int) (k : Int) (by omega) (by omega) (by omega)
    rw [hr, hs]
    simp only [Result.andThen_ok, sliced, Int.toNat_natCast, Nat.sub_zero]
  · rw [hlen]
    refine ⟨by rw [u64s_len]; omega, fun h0 => ?_⟩
    obtain ⟨a, rfl, hb, hcell⟩ := h.2 (by omega)
    rw [if_neg h0]
    refine ⟨a, by simp [Addr.add], hb, fun j hj => ?_⟩
    have hj2 : j < k := by rw [u64s_len, hlen] at hj; exact hj
    rw [hcell j (by rw [u64s_len]; omega)]
    simp [u64s]
/-- append onto a slice that is full: a row of the call's own. -/
theorem app_full {w : World} {A B : Option Addr} {c : Nat} {l m : List Nat} (hA : Lies w w.heap.size 1 A l.length (u64s l)) (hB : Lies w w.heap.size 1 B m.length (u64s m)) (hm : m ≠ []) (hn : l.length + m.length ≤ 1000000) (ty : TypeId) :
    ∃ A' c' w', (appS9 #[46, 46] ty #[.slice A l.length l.length, .slice B m.length c]).run Try.prog w = .ok (.slice A' (l.length + m.length) c') w' ∧ OwnU w' w.heap.size (.slice A' (l.length + m.length) c') (l ++ m) ∧ Below w.heap.size w w' := by
  obtain ⟨i0, hi, hz0, hz1, hz2⟩ := info_parts infoU
  have hml : 0 < m.length := List.length_pos_iff.2 hm
  obtain ⟨b, rfl, _, hcb⟩ := hB.2 (by omega)
  have hnews : ∀ j u, (u64s m)[j]? = some u → w.cell? (b.add j) = some u := fun j u hu => by
    obtain ⟨hj, rfl⟩ := List.getElem?_eq_some_iff.1 hu
    exact hcb j hj
  have fin : ∀ v' w', (Builtin.append_ #[46, 46] ty #[.slice A l.length l.length, .slice (some b) m.length c]).run Try.prog w = .ok v' w' → w'.ownsRow w.heap.size 22 1 v' (l.length + m.length) (u64s l ++ u64s m) → Below w.heap.size w w' →
      ∃ A' c' w', (appS9 #[46, 46] ty #[.slice A l.length l.length, .slice (some b) m.length c]).run Try.prog w = .ok (.slice A' (l.length + m.length) c') w' ∧ OwnU w' w.heap.size (.slice A' (l.length + m.length) c') (l ++ m) ∧ Below w.heap.size w w' := fun v' w' h1 h2 h3 => by
    obtain ⟨A', c', rfl, _⟩ := owns_form h2
    refine ⟨A', c', w', h1, ?_, h3⟩
    unfold OwnU
    rw [u64s_append, List.length_append]
    exact h2
  cases A with
  | some a =>
    have holds : ∀ j u, (u64s l)[j]? = some u → w.cell? (a.add j) = some u := fun j u hu => by
      obtain ⟨hj, rfl⟩ := List.getElem?_eq_some_iff.1 hu
      obtain ⟨a', e, _, hca⟩ := hA.2 (by rw [u64s_len] at hj; omega)
      cases e
      exact hca j hj
    obtain ⟨v', w', h1, h2, h3⟩ := run_append_arg_grows (P := Try.prog) w 46 ty 22 i0 (.int .u64 0) 1 8 Try.underlying46 hi hz0 hz1 hz2 rfl (by decide) a l.length l.length (u64s l) (by rw [u64s_len]; omega) holds b m.length c (u64s m) (by rw [u64s_len]; omega) hnews (by omega) (by unfold maxLen; omega) (by omega)
    exact fin v' w' h1 h2 ((Below.refl _ _).grown h3 (Nat.le_refl _) (fun k hk => by cases hk))
  | none =>
    have h0 : l.length = 0 := Classical.byContradiction fun h => by obtain ⟨_, e, _⟩ := hA.2 h; cases e
    obtain rfl : l = [] := List.eq_nil_of_length_eq_zero h0
    obtain ⟨v', w', h1, h2, h3, _⟩ := run_append_own (P := Try.prog) w w.heap.size 46 ty 22 i0 (.int .u64 0) 1 8 Try.underlying46 hi hz0 hz1 hz2 rfl (by decide) (.slice none 0 0) 0 [] (World.ownsRow_nil w _ _ _) b m.length c (u64s m) (by rw [u64s_len]; omega) hnews (u64s_one _) (by unfold maxLen; omega) (by omega) (Nat.le_refl _)
    exact fin v' w' h1 h2 ((Below.refl _ _).grown h3 (Nat.le_refl _) (fun k hk => by simp [Value.ownBlock] at hk))
/-- append onto a row of the call's own. -/
theorem app_ownU {w : World} {base : Nat} {B : Option Addr} {v : Value} {c : Nat} {l m : List Nat} (hA : OwnU w base v l) (hb : base ≤ w.heap.size) (hB : Lies w w.heap.size 1 B m.length (u64s m)) (hn : l.length + m.length ≤ 1000000) (ty : TypeId) :
    ∃ A' c' w', (appS9 #[46, 46] ty #[v, .slice B m.length c]).run Try.prog w = .ok (.slice A' (l.length + m.length) c') w' ∧ OwnU w' base (.slice A' (l.length + m.length) c') (l ++ m) ∧ w.grownBy w' v.ownBlock := by
  obtain ⟨i0, hi, hz0, hz1, hz2⟩ := info_parts infoU
  obtain ⟨v', w', h1, h2, h3, _⟩ := run_app (P := Try.prog) (w := w) base 46 ty 22 i0 (.int .u64 0) 8 Try.underlying46 hi hz0 hz1 hz2 rfl v l.length (u64s l) hA w.heap.size B m.length c (u64s m) hB (u64s_one _) (by unfold maxLen; omega) (by omega) hb
  obtain ⟨A', c', rfl, _⟩ := owns_form h2
  refine ⟨A', c', w', h1, ?_, h3⟩
  unfold OwnU
  rw [u64s_append, List.length_append]
  exact h2
set_option maxRecDepth 100000 in
theorem build_u64 (x : Nat) (w : World) : (Instr.buildSlice 46 1 #[(0, .int .u64 (x : Int))]).run Try.prog w = .ok (.slice (some ⟨w.heap.size, 0, none⟩) 1 1) (w.alloc (.cells #[.int .u64 (x : Int)] 22)) := by
  obtain ⟨i0, hi, hz0, hz1, hz2⟩ := info_parts infoU
  refine run_buildSlice (P := Try.prog) w 46 22 1 _ _ i0 (.int .u64 0) Try.underlying46 hi hz0 (by rw [hz1]; decide) (by rw [hz1]; decide) ?_
  rw [hz1]
  kernel_rfl
end Go.Proofs.Ytbemphfijkcbhaa
