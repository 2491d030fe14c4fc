/- The reference's SigOf, of a signature's bytes. -/
import Derived.Test.YtfeiplaiekbdkaaXrsig
import Derived.Deep.CutRange
namespace Go.Proofs.Ytfeiplaiekbdkaa
open Go.RowKit
attribute [local go_sem ↓ high] zeroV26 zeroSig

/-- What a round keeps: k nodes are laid; B: where the row of the first list may lie, B2: of the second. -/
structure RS (V : World) (gs : Nat) (idx : Nat) (r : Nd) (ots auth : List Nd) (k : Nat) (v1 v2 : Value) (B2 : Nat) (W : World) : Prop where
  arr : Arr W gs 44 35 (sigF (idx : Int) r v1 v2)
  r1 : OwnN W V.heap.size v1 (ots.take k)
  r2 : OwnN W B2 v2 (auth.take (k - 67))
  nl : k ≤ 67 → v2 = .slice none 0 0
  lo : 67 ≤ k → ∀ g, v1.ownBlock = some g → g < B2
  B : V.heap.size ≤ B2
  B2 : B2 ≤ W.heap.size
  sv : Save gs V W
theorem ownN_keep {w w' : World} {base n : Nat} {v : Value} {l : List Nd} (h : OwnN w base v l) (hb : Below n w w') (hv : ∀ g, v.ownBlock = some g → g < n) : OwnN w' base v l := by
  refine ⟨h.1, ?_⟩
  rcases h.2 with h2 | ⟨r, cap, cur, hv2, hr, hh, rr⟩
  · exact Or.inl h2
  · refine Or.inr ⟨r, cap, cur, hv2, hr, (hb.block r (hv r ?_)).trans hh, rr⟩
    rw [hv2]; rfl
theorem ownN_one {w : World} {base : Nat} {v : Value} {l : List Nd} (h : OwnN w base v l) : v.oneCell' = true := by
  obtain ⟨A, c, rfl, _, _⟩ := h.row
  rfl
theorem addr_lit (b o i : Nat) : (⟨b, o, none⟩ : Addr).add i = ⟨b, o + i, none⟩ := by unfold Addr.add; by_cases h : i = 0 <;> simp [h]

/-- A node more in the first list. -/
theorem RS.put1 {V W : World} {gs idx k B2 : Nat} {r : Nd} {ots auth : List Nd} {v1 v2 : Value} (h : RS V gs idx r ots auth k v1 v2 B2 W) (hgs : gs < V.heap.size) (hk : k < 67) (hot : ots.length = 67) (f : Nd) (hf : ots.take (k + 1) = ots.take k ++ [f]) (W1 : World) (hb1 : Below W.heap.size W W1) :
    ∃ (A' : Option Addr) (n' c' : Nat) (W' : World), (Builtin.append_ #[42, 42] 42 #[v1, .slice (some ⟨W1.heap.size, 0, none⟩) 1 1]).run Try.prog (W1.alloc (.cells (vec 32 (bys f)) 29)) = .ok (.slice A' n' c') W' ∧
      W'.cell? ⟨gs, 33, none⟩ = some v1 ∧ W'.frozen? ⟨gs, 33, none⟩ = false ∧ RS V gs idx r ots auth (k + 1) (.slice A' n' c') v2 (W'.setCell ⟨gs, 33, none⟩ (.slice A' n' c')).heap.size (W'.setCell ⟨gs, 33, none⟩ (.slice A' n' c')) := by
  have hsz := h.sv.size
  have hkl : (ots.take k).length = k := by rw [List.length_take]; omega
  obtain ⟨v', W', hr, ho, hg⟩ := app_own ((h.r1.below hb1).alloc (.cells (vec 32 (bys f)) 29)) (Arr.new W1 29 32 (bys f)) (by rw [hkl]; omega) (by have := hb1.size; simp; omega) 42
  have hb2 : Below V.heap.size W1 W' := ((Below.refl V.heap.size W1).alloc (Nat.le_trans hsz hb1.size) _).grown hg (by have := hb1.size; simp; omega) (fun g hg => ((h.r1.below hb1).lt g hg).1)
  have hA' : Arr W' gs 44 35 (sigF (idx : Int) r v1 v2) := (h.arr.under hb1).below hb2 hgs
  have hown : OwnN W' V.heap.size v' (ots.take (k + 1)) := by unfold OwnN; rw [hf, cellsN_snoc, List.length_append]; exact ho
  obtain ⟨A', c', rfl, -, -⟩ := hown.row
  have hs : Save gs W' (W'.setCell ⟨gs, 33, none⟩ _) := (Save.refl _ _).setCell 33 (.slice A' (ots.take (k + 1)).length c')
  refine ⟨A', _, c', W', hr, hA'.cell (i := 33) (by decide), hA'.frozen 33, ⟨?_, ownN_save hown hs hgs, ?_, ?_, ?_, ?_, Nat.le_refl _, ?_⟩⟩
  · rw [← sigF_33 (idx : Int) r v1 v2]; exact hA'.set 33 _
  · rw [show k + 1 - 67 = 0 by omega, List.take_zero, h.nl (by omega)]; exact World.ownsRow_nil _ _ _ _
  · intro _; exact h.nl (by omega)
  · intro _ g hg2
    exact Nat.lt_of_lt_of_le (hown.lt g hg2).2 hs.size
  · exact Nat.le_trans hsz (Nat.le_trans hb1.size (Nat.le_trans hb2.size hs.size))
  · exact ((h.sv.trans (Save.of_below hb1)).on hb2 (Nat.le_refl _)).trans hs
/-- .. in the second. -/
theorem RS.put2 {V W : World} {gs idx k B2 : Nat} {r : Nd} {ots auth : List Nd} {v1 v2 : Value} (h : RS V gs idx r ots auth k v1 v2 B2 W) (hgs : gs < V.heap.size) (hk : 67 ≤ k) (hot : ots.length = 67) (hau : k - 67 < auth.length) (hal : auth.length ≤ 20) (f : Nd) (hf : auth.take (k - 67 + 1) = auth.take (k - 67) ++ [f]) (W1 : World) (hb1 : Below W.heap.size W W1) :
    ∃ (A' : Option Addr) (n' c' : Nat) (W' : World), (Builtin.append_ #[42, 42] 42 #[v2, .slice (some ⟨W1.heap.size, 0, none⟩) 1 1]).run Try.prog (W1.alloc (.cells (vec 32 (bys f)) 29)) = .ok (.slice A' n' c') W' ∧
      W'.cell? ⟨gs, 34, none⟩ = some v2 ∧ W'.frozen? ⟨gs, 34, none⟩ = false ∧ RS V gs idx r ots auth (k + 1) v1 (.slice A' n' c') B2 (W'.setCell ⟨gs, 34, none⟩ (.slice A' n' c')) := by
  have hsz := h.sv.size
  have hkl : (auth.take (k - 67)).length = k - 67 := by rw [List.length_take]; omega
  obtain ⟨v', W', hr, ho, hg⟩ := app_own ((h.r2.below hb1).alloc (.cells (vec 32 (bys f)) 29)) (Arr.new W1 29 32 (bys f)) (by rw [hkl]; omega) (by have := hb1.size; have := h.B2; simp; omega) 42
  have hb2 : Below B2 W1 W' := ((Below.refl B2 W1).alloc (Nat.le_trans h.B2 hb1.size) _).grown hg (by have := hb1.size; have := h.B2; simp; omega) (fun g hg => ((h.r2.below hb1).lt g hg).1)
  have hA' : Arr W' gs 44 35 (sigF (idx : Int) r v1 v2) := (h.arr.under hb1).below hb2 (Nat.lt_of_lt_of_le hgs h.B)
  have hown : OwnN W' B2 v' (auth.take (k + 1 - 67)) := by unfold OwnN; rw [show k + 1 - 67 = k - 67 + 1 by omega, hf, cellsN_snoc, List.length_append]; exact ho
  obtain ⟨A', c', rfl, -, -⟩ := hown.row
  have hs : Save gs W' (W'.setCell ⟨gs, 34, none⟩ _) := (Save.refl _ _).setCell 34 (.slice A' (auth.take (k + 1 - 67)).length c')
  have h1 : OwnN W' V.heap.size v1 (ots.take k) := ownN_keep (h.r1.below hb1) hb2 (h.lo hk)
  have h1' : OwnN W' V.heap.size v1 (ots.take (k + 1)) := by
    rw [List.take_of_length_le (by omega)]
    rw [List.take_of_length_le (by omega)] at h1
    exact h1
  refine ⟨A', _, c', W', hr, hA'.cell (i := 34) (by decide), hA'.frozen 34, ⟨(hA'.set 34 _).congr (sigF_34 _ _ _ _ _), ?_, ownN_save hown hs (Nat.lt_of_lt_of_le hgs h.B), ?_, fun _ => h.lo hk, h.B, ?_, ?_⟩⟩
  · exact ownN_save h1' hs hgs
  · intro h67; omega
  · exact Nat.le_trans h.B2 (Nat.le_trans hb1.size (Nat.le_trans hb2.size hs.size))
  · exact ((h.sv.trans (Save.of_below hb1)).on hb2 h.B).trans hs
end Go.Proofs.Ytfeiplaiekbdkaa
