/- ahead: a header's bytes and what follows them, joined. -/
import Derived.Test.YtgoblolbkchggaaDoorHc
namespace Go.Proofs.YtgoblolbkchggaaDoor
open Go.RowKit
attribute [local go_sem ↓ high] builtin_appS

theorem wl_pt_own {ops : Array Oper} {rest : List Oper} {o : Oper} {a : Act} {w : World} {Q : Exit → Act → World → Prop} (hgd : o.guard = none) (x0 : Operand) (ho : o.op = .buildSlice 69 1 #[(0, x0)]) (n0 : Part) (h0 : a.eval x0 = partV n0)
    (h : ∀ y p, y.ownsRow w.heap.size 27 1 (.slice (some p) 1 1) 1 [partV n0] → Below w.heap.size w y → wpList Tryd.prog ops Q rest (a.put o.dst (.slice (some p) 1 1)) y) : wpList Tryd.prog ops Q (o :: rest) a w := by
  refine wpList_plain hgd fun K hK => ?_
  exact ow_of_run ho (by simp [h0]) (build_pt_1 n0 w) (hK _ _ (h _ _ (World.ownsRow_lit w #[partV n0] 1 (Nat.le_refl _) (by decide) rfl) ((Below.refl _ _).alloc (Nat.le_refl _) _)))
set_option maxHeartbeats 2000000 in
set_option maxRecDepth 100000 in
theorem ahead_any (h : Hd) (b : By) (hb : b.length = 64) (ps : List Part) (A : Option Addr) (c : Nat) (w : World) (hps : Lies w w.heap.size 1 A ps.length (ps.map partV)) (hp : ∀ p ∈ ps, Lies w w.heap.size 1 p.1 p.2.2.length (u8s p.2.2))
    (htot : (catAll ps).length ≤ 1000000) (hn : ps.length ≤ 100) : Calls Tryd.prog 17 #[.agg (vec 99 (hvF h b)), .slice A ps.length c] w (Bytes w (b ++ catAll ps)) := by
  obtain ⟨V, hV⟩ : ∃ V, V = w.alloc (.cells (vec 99 (hvF h b)) 49) := ⟨_, rfl⟩
  have h0 : Arr V w.heap.size 49 99 (hvF h b) := by rw [hV]; exact Arr.new w _ _ _
  have hB : Below w.heap.size w V := by rw [hV]; exact (Below.refl _ _).alloc (Nat.le_refl _) _
  have hl64 := hv_lies h0 hb h0.lt
  have HP : Hid (Value.slice (some ⟨w.heap.size, 35, none⟩) 64 64 = partV (some ⟨w.heap.size, 35, none⟩, 64, b)) := Lib.hid (by show _ = Value.slice _ b.length _; rw [hb])
  have HL : Hid (∀ p ∈ (some ⟨w.heap.size, 35, none⟩, 64, b) :: ps, Lies V V.heap.size 1 p.1 p.2.2.length (u8s p.2.2)) := Lib.hid (allc (by show Lies V V.heap.size 1 _ b.length (u8s b); rw [hb]; exact hl64) fun p hq => ((hp p hq).below hB).wide hB.size)
  have HS : Hid (Lies V V.heap.size 1 A ps.length (ps.map partV)) := Lib.hid ((hps.below hB).wide hB.size)
  have HT : Hid ((catAll ((some ⟨w.heap.size, 35, none⟩, 64, b) :: ps)).length ≤ 70368744177664 ∧ ((some (⟨w.heap.size, 35, none⟩ : Addr), 64, b) :: ps).length ≤ maxLen) := Lib.hid (by
    have e : catAll ((some (⟨w.heap.size, 35, none⟩ : Addr), 64, b) :: ps) = b ++ catAll ps := by simp [catAll]
    rw [e, List.length_append, hb, List.length_cons]; unfold maxLen; omega)
  have HE : Hid (catAll ((some (⟨w.heap.size, 35, none⟩ : Addr), 64, b) :: ps) = b ++ catAll ps) := Lib.hid (by simp [catAll])
  have HB := Lib.hid hB
  have HW := Lib.hid hV
  have HN := Lib.hid hn
  obtain ⟨P0, hP0⟩ : ∃ p : Part, p = (some ⟨w.heap.size, 35, none⟩, 64, b) := ⟨_, rfl⟩
  rw [← hP0] at HP HL HT HE
  obtain ⟨N, hNN⟩ : ∃ n, n = ps.length := ⟨_, rfl⟩
  have HNN := Lib.hid hNN
  rw [← hNN] at HS ⊢
  clear hV h0 hl64 hps hp htot hn hB hP0 hb hNN
  go_enter Tryd.func17, Tryd.ntmps17
  go_upto_region 1 with fail
  rw [← HW.out]
  clear HW
  go_upto_region 2 with ((with_reducible show wpList _ _ _ (Oper.mk _ (.buildSlice _ _ _) _ _ _ _ :: _) _ _); refine wl_pt_own rfl _ rfl P0 HP.out ?_; intro y p hw hd; have HY := Lib.hid (And.intro hw hd); clear hw hd)
  obtain ⟨i0, hi, hz0, hz1, hz2⟩ := info_parts info_pt
  have HAP : Hid (∃ v' w', (appS #[69, 69] 69 #[.slice (some p) 1 1, .slice A N c]).run Tryd.prog y = .ok v' w' ∧ Below V.heap.size V w' ∧ ∃ A' c', v' = .slice A' (P0 :: ps).length c' ∧ Lies w' w'.heap.size 1 A' (P0 :: ps).length ((P0 :: ps).map partV)) := Lib.hid (by
    have hd := HY.out.2
    have hn := HN.out
    have hnn := HNN.out
    obtain ⟨v', w', hr, ho, hg, _⟩ := run_app (P := Tryd.prog) V.heap.size 69 69 27 i0 (.slice none 0 0) 24 Tryd.underlying69 hi hz0 hz1 hz2 rfl (.slice (some p) 1 1) 1 [partV P0] HY.out.1 V.heap.size A N c (ps.map partV) (HS.out.below hd) (by
      intro u hu
      obtain ⟨q, _, rfl⟩ := List.mem_map.1 hu
      rfl) (by unfold maxLen; omega) (by omega) hd.size
    obtain ⟨A', c', rfl, hl⟩ := owns_form ho
    have hown : ∀ k, (Value.slice (some p) 1 1).ownBlock = some k → V.heap.size ≤ k := fun k hk => by
      obtain ⟨_, _, e, hk2, _⟩ := HY.out.1.form (by decide)
      rw [e] at hk
      simp only [Value.ownBlock, Option.some.injEq] at hk
      omega
    have e1 : (P0 :: ps).length = 1 + N := by rw [List.length_cons, hnn]; omega
    refine ⟨_, w', hr, hd.grown hg hd.size hown, A', c', by rw [e1], ?_⟩
    rw [e1]
    exact hl)
  obtain ⟨v', w', hr, hVw, A', c', rfl, hli⟩ := HAP.out
  have HCT := Lib.hid (cat_any (P0 :: ps) A' c' w'.heap.size w' (Nat.le_refl _) hli (fun q hq => ((HL.out q hq).below hVw).wide hVw.size) HT.out.1 HT.out.2)
  rw [HE.out] at HCT
  have HVW := Lib.hid hVw
  obtain ⟨M, hM⟩ : ∃ n, n = (P0 :: ps).length := ⟨_, rfl⟩
  rw [← hM] at hr HCT
  clear HAP hli hVw hM HT HE HL HS HP HN HNN
  go_wp2_with (go_at_call 26; refine HCT.out.mono ?_; rintro e w2 ⟨v, rfl, hv1, hv2⟩)
  go_ret
  have hs := HVW.out.size
  have hs0 := HB.out.size
  exact ⟨_, rfl, owns_mono hv1 (by omega), (HB.out.trans (HVW.out.mono hs0)).trans (hv2.mono (by omega))⟩
end Go.Proofs.YtgoblolbkchggaaDoor
