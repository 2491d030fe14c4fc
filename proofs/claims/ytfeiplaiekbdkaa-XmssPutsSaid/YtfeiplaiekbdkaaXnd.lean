/- The cutter's node. -/
import Derived.Test.YtfeiplaiekbdkaaXcut
import Derived.Test.YtfeiplaiekbdkaaNodes
namespace Go.Proofs.Ytfeiplaiekbdkaa
open Go.RowKit
attribute [local go_sem ↓ high] zeroV26

section
variable {P : Program} {w : World} {ops : Array Oper} {rest : List Oper} {o : Oper} {a : Act} {Q : Exit → Act → World → Prop}
theorem wl_load_q (hgd : o.guard = none) (ty : TypeId) (x : Operand) (ho : o.op = .load ty x) (p : Addr) (hx : a.eval x = .pointer (some p)) (v : Value)
    (hl : (loadVar ty p).run P w = .ok v w) (h : wpList P ops Q rest (a.put o.dst v) w) : wpList P ops Q (o :: rest) a w :=
  wpList_plain hgd fun _ hK => by
    unfold Oper.wp
    rw [exec_load_p ty x ho p hx v hl]
    exact hK _ _ h
end
/-- A world that goes on: all below n is as it was. -/
theorem Save.on {g n : Nat} {V Y Z : World} (h : Save g V Y) (hd : Below n Y Z) (hn : V.heap.size ≤ n) : Save g V Z :=
  ⟨hd.os.trans h.os, hd.tape.trans h.tape, hd.output.trans h.output, Nat.le_trans h.size hd.size, fun k hk hkr => (hd.block k (by omega)).trans (h.block k hk hkr)⟩
theorem CutAt.on {B g n : Nat} {Y Z : World} {l : List UInt8} (h : CutAt Y B g l) (hd : Below n Y Z) (hn : g < n) : CutAt Z B g l := by
  obtain ⟨⟨A, c, hb, hl, hc⟩, hle⟩ := h
  exact ⟨⟨A, c, hb.below hd hn, hl.below (hd.mono (by omega)), hc⟩, hle⟩
theorem CutAt.lt {B g : Nat} {w : World} {l : List UInt8} (h : CutAt w B g l) : g < w.heap.size := by
  obtain ⟨⟨A, c, hb, hl, hc⟩, hle⟩ := h
  exact hb.lt
theorem lies_node {w : World} {B : Nat} {A : Option Addr} {f : Nd} (h : Lies w B 1 A (nodeL f).length (u8s (nodeL f))) : ∃ a, A = some a ∧ a.block < B ∧ ∀ i, i < 32 → w.cell? (a.add i) = some (bys f i) := by
  obtain ⟨a, e, hb, hc⟩ := h.2 (by rw [nodeL_length]; decide)
  refine ⟨a, e, hb, fun i hi => ?_⟩
  rw [hc i (by rw [u8s_length, nodeL_length]; exact hi)]
  simp [u8s, nodeL, bys]
theorem arr_at_q (a : Addr) (c : Nat) (w : World) : (Instr.arrayAt 29 (.slice (some a) 32 c)).run Try.prog w = .ok (.pointer (some a)) w := by
  simp [Instr.arrayAt, run_underlying Try.underlying29]

set_option maxHeartbeats 1000000 in
set_option maxRecDepth 100000 in
theorem node_cut (f : Nd) (l2 : List UInt8) (B g : Nat) (w : World) (h : CutAt w B g (nodeL f ++ l2)) :
    Calls Try.prog 22 #[cutV g] w fun e w' => e = .returned (.agg (vec 32 (bys f))) ∧ CutAt w' B g l2 ∧ Save g w w' := by
  obtain ⟨V, hV⟩ : ∃ V, V = w.alloc (.cells (vec 32 (bys zb)) 29) := ⟨_, rfl⟩
  have h0 : Arr V w.heap.size 29 32 (bys zb) := by rw [hV]; exact Arr.new w _ _ _
  have hB : Below w.heap.size w V := by rw [hV]; exact (Below.refl _ _).alloc (Nat.le_refl _) _
  have HG := Lib.hid (And.intro h.lt h.le)
  have HN := Lib.hid (next_any (nodeL f) l2 32 (nodeL_length f).symm (by decide) B g V (h.on hB h.lt))
  have HA := Lib.hid (And.intro h0 hB)
  have HW := Lib.hid hV
  have har := fun a c => arr_at_q a c
  clear hV h0 hB h
  unfold cutV
  go_enter Try.func22, Try.ntmps22
  go_upto_region 1 with fail
  rw [← HW.out]
  clear HW
  go_wp2_with (first
    | (go_at_call 32; refine HN.out.mono ?_; rintro e w1 ⟨A, c, rfl, hl, hc, hct, hs⟩; obtain ⟨a, rfl, hab, hcl⟩ := lies_node hl; have H1 := Lib.hid (And.intro hcl (And.intro hct hs)); clear hl hc hct hs hcl)
    | ((with_reducible show wpList _ _ _ (Oper.mk _ (.load _ _) _ _ _ _ :: _) _ _); refine wl_load_q rfl 29 _ rfl a rfl _ (load_p H1.out.1) ?_)
    | ((with_reducible show wpList _ _ _ (Oper.mk _ (.store _ _ _) _ _ _ _ :: _) _ _); refine wl_store rfl 29 _ _ rfl _ rfl _ rfl (run_store_arr (HA.out.1.save H1.out.2.2 (by have := HG.out.1; omega)) (bys f) info26 (bys_one _ _)) ?_))
  refine bodyPost_ret (results_cell1 rfl _ _ _ rfl (run_load_arr ((HA.out.1.save H1.out.2.2 (by have := HG.out.1; omega)).row _) Try.underlying29 rfl info26)) rfl ⟨rfl, ?_, ?_⟩
  · exact H1.out.2.1.on (below_row (Below.refl w.heap.size _) (Nat.le_refl _) _) HG.out.1
  · exact Save.on ⟨H1.out.2.2.os.trans HA.out.2.os, H1.out.2.2.tape.trans HA.out.2.tape, H1.out.2.2.output.trans HA.out.2.output, Nat.le_trans HA.out.2.size H1.out.2.2.size, fun k hk hkg => (H1.out.2.2.block k (Nat.lt_of_lt_of_le hk HA.out.2.size) hkg).trans (HA.out.2.block k hk)⟩ (below_row (Below.refl w.heap.size _) (Nat.le_refl _) _) (Nat.le_refl _)
end Go.Proofs.Ytfeiplaiekbdkaa
