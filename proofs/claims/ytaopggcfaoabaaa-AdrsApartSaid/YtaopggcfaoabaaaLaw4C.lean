/- The walk of AdrsApart. -/
import Derived.Test.YtaopggcfaoabaaaAwake4
namespace Go.Proofs.Ytaopggcfaoabaaa
open Go.RowKit
attribute [local go_sem ↓ high] zeroV26

theorem adB15 (l t k a b c m : Nat) : adB l t k a b c m 15 = UInt8.ofNat (k / 2 ^ (shAt 0 3 4).toNat % 256) := rfl
theorem node_ne {f g : Nat → UInt8} (h : f 15 ≠ g 15) : nodeEq f g = false := by
  cases hq : nodeEq f g
  · rfl
  · exact absurd ((nodeEq_iff f g).1 hq 15 (by decide)) h
/-- Three new nodes. -/
theorem three (w : World) : ∀ o, o = Obj.cells (vec 32 (bys zb)) 28 → Arr (((w.alloc o).alloc o).alloc o) w.heap.size 28 32 (bys zb) ∧ Arr (((w.alloc o).alloc o).alloc o) (w.heap.size + 1) 28 32 (bys zb) ∧
    Arr (((w.alloc o).alloc o).alloc o) (w.heap.size + 1 + 1) 28 32 (bys zb) ∧ Below w.heap.size w (((w.alloc o).alloc o).alloc o) := by
  rintro o rfl
  exact ⟨((Arr.new w _ _ _).alloc _).alloc _, (Arr.newAt (w.alloc _) _ _ _ (by simp)).alloc _, Arr.newAt ((w.alloc _).alloc _) _ _ _ (by simp), (((Below.refl _ _).alloc (Nat.le_refl _) _).alloc (by simp) _).alloc (by simp; omega) _⟩

/-- An operation that looks at the world, its guard met or none. -/
theorem wl_exec {P : Program} {ops : Array Oper} {Q : Exit → Act → World → Prop} {a : Act} {w : World} {rest : List Oper} {o : Oper} {v : Value} (hw : Region.wanted o (yielded ops a.tmps) = true)
    (he : (execOp a.eval o).run P w = .ok (.value v) w) (h : wpList P ops Q rest (a.put o.dst v) w) : wpList P ops Q (o :: rest) a w :=
  wpList_step fun K hK => by
    simp only [hw, if_true]
    unfold Oper.wp
    rw [he]
    exact hK _ _ h
theorem exec_neq_true {o : Oper} {a : Act} (x y : Operand) (t : TypeId) (ho : o.op = .binOp .neq 28 x y t) (f g : Nat → UInt8) (hn : nodeEq f g = false) (hx : a.eval x = .agg (vec 32 (bys f))) (hy : a.eval y = .agg (vec 32 (bys g))) (w : World) :
    (execOp a.eval o).run Try.prog w = .ok (.value (.bool true)) w := by
  rw [exec_neq_two x y t ho f g hx hy w, hn]; rfl
set_option maxHeartbeats 1000000 in
set_option maxRecDepth 100000 in
theorem adrsApart_walk (a b c d e f : Nat) (w : World) (ha : a < 4294967296) (hb : b < 4294967296) (hc : c < 4294967296) (hd : d < 4294967296) (he : e < 4294967296) (hf : f < 4294967296) :
    Calls Try.prog 6 #[.int .u32 (a : Int), .int .u32 (b : Int), .int .u32 (c : Int), .int .u32 (d : Int), .int .u32 (e : Int), .int .u32 (f : Int)] w fun e w' => e = .returned (.bool true) ∧ Below w.heap.size w w' := by
  have k1 : AdOk 0 0 0 a b c 0 := ⟨by decide, by decide, by decide, ha, hb, hc, by decide⟩
  have k2 : AdOk 0 0 1 d e f 0 := ⟨by decide, by decide, by decide, hd, he, hf, by decide⟩
  have k3 : AdOk 0 0 2 0 b f 0 := ⟨by decide, by decide, by decide, by decide, hb, hf, by decide⟩
  have HK := Lib.hid (And.intro k1 (And.intro k2 k3))
  clear k1 k2 k3 ha hb hc hd he hf
  obtain ⟨F, hF⟩ : ∃ F, F = adB 0 0 0 a b c 0 := ⟨_, rfl⟩
  obtain ⟨G, hG⟩ : ∃ G, G = adB 0 0 1 d e f 0 := ⟨_, rfl⟩
  obtain ⟨K, hK⟩ : ∃ K, K = adB 0 0 2 0 b f 0 := ⟨_, rfl⟩
  have n1 : nodeEq F G = false := node_ne (by rw [hF, hG, adB15, adB15]; decide)
  have n2 : nodeEq G K = false := node_ne (by rw [hK, hG, adB15, adB15]; decide)
  have n3 : nodeEq F K = false := node_ne (by rw [hF, hK, adB15, adB15]; decide)
  have HF := Lib.hid (And.intro hF (And.intro hG hK))
  clear hF hG hK
  go_enter Try.func6, Try.ntmps6
  go_upto_region 4 with (first
    | (go_at_call 7; refine (awake4_any _).mono ?_; rintro e0 w1 ⟨rfl, hd⟩; have H1 := Lib.hid hd; clear hd)
    | (go_at_call 13; refine (ots_any a b c _).mono ?_; rintro e0 w2 ⟨rfl, hd⟩; have H2 := Lib.hid (H1.out.trans (hd.mono H1.out.size)); clear hd)
    | (go_at_call 14; refine (ltree_any d e f _).mono ?_; rintro e0 w4 ⟨rfl, hd⟩; have H4 := Lib.hid (H3.out.trans (hd.mono H3.out.size)); clear hd)
    | (go_at_call 12; refine (tree_any b f _).mono ?_; rintro e0 w6 ⟨rfl, hd⟩; have H6 := Lib.hid (H5.out.trans (hd.mono H5.out.size)); clear hd)
    | (go_at_call 8; (with_reducible show Calls _ _ #[adV 0 0 0 _ _ _ _] _ _); refine (bytes_any 0 0 0 a b c 0 HK.out.1 w2).mono ?_; rw [← HF.out.1]; rintro e0 w3 ⟨rfl, hd⟩; have H3 := Lib.hid (H2.out.trans (hd.mono H2.out.size)); clear hd)
    | (go_at_call 8; (with_reducible show Calls _ _ #[adV 0 0 1 _ _ _ _] _ _); refine (bytes_any 0 0 1 d e f 0 HK.out.2.1 w4).mono ?_; rw [← HF.out.2.1]; rintro e0 w5 ⟨rfl, hd⟩; have H5 := Lib.hid (H4.out.trans (hd.mono H4.out.size)); clear hd)
    | (go_at_call 8; (with_reducible show Calls _ _ #[adV 0 0 2 _ _ _ _] _ _); refine (bytes_any 0 0 2 0 b f 0 HK.out.2.2 w6).mono ?_; rw [← HF.out.2.2]; rintro e0 w7 ⟨rfl, hd⟩; have H7 := Lib.hid (H6.out.trans (hd.mono H6.out.size)); have H8 := Lib.hid (three w7 _ rfl); clear hd)
    | ((with_reducible show wpList _ _ _ (Oper.mk _ (.store _ (.tmp 13) _) _ _ _ _ :: _) _ _)
       refine wl_store rfl 28 _ _ rfl _ rfl _ rfl (run_store_arr H8.out.1 (bys F) info26 (bys_one _ _)) ?_)
    | ((with_reducible show wpList _ _ _ (Oper.mk _ (.store _ (.tmp 14) _) _ _ _ _ :: _) _ _)
       refine wl_store rfl 28 _ _ rfl _ rfl _ rfl (run_store_arr (H8.out.2.1.rowFar (by omega) _) (bys G) info26 (bys_one _ _)) ?_)
    | ((with_reducible show wpList _ _ _ (Oper.mk _ (.store _ (.tmp 15) _) _ _ _ _ :: _) _ _)
       refine wl_store rfl 28 _ _ rfl _ rfl _ rfl (run_store_arr ((H8.out.2.2.1.rowFar (by omega) _).rowFar (by omega) _) (bys K) info26 (bys_one _ _)) ?_))
  obtain ⟨V, hV⟩ : ∃ V, V = ((((((w7.alloc (.cells (vec 32 (bys zb)) 28)).alloc (.cells (vec 32 (bys zb)) 28)).alloc (.cells (vec 32 (bys zb)) 28)).setRow w7.heap.size (vec 32 (bys F))).setRow (w7.heap.size + 1) (vec 32 (bys G))).setRow (w7.heap.size + 1 + 1) (vec 32 (bys K))) := ⟨_, rfl⟩
  have hV1 : Arr V w7.heap.size 28 32 (bys F) := by rw [hV]; exact ((H8.out.1.row _).rowFar (by omega) _).rowFar (by omega) _
  have hV2 : Arr V (w7.heap.size + 1) 28 32 (bys G) := by rw [hV]; exact ((H8.out.2.1.rowFar (by omega) _).row _).rowFar (by omega) _
  have hV3 : Arr V (w7.heap.size + 1 + 1) 28 32 (bys K) := by rw [hV]; exact ((H8.out.2.2.1.rowFar (by omega) _).rowFar (by omega) _).row _
  have hVb : Below w.heap.size w V := by rw [hV]; have := H7.out.size; exact below_row (below_row (below_row (H7.out.trans (H8.out.2.2.2.mono this)) this _) (by omega) _) (by omega) _
  rw [← hV]
  have HV := Lib.hid (And.intro hV1 (And.intro hV2 (And.intro hV3 hVb)))
  clear hV hV1 hV2 hV3 hVb
  go_wp2_with (first
    | ((with_reducible show wpList _ _ _ (Oper.mk _ (.load _ (.tmp 13)) _ _ _ _ :: _) _ _)
       refine wl_exec (by kernel_rfl) (exec_load 28 _ rfl _ rfl _ (run_load_arr HV.out.1 Try.underlying28 rfl info26)) ?_)
    | ((with_reducible show wpList _ _ _ (Oper.mk _ (.load _ (.tmp 14)) _ _ _ _ :: _) _ _)
       refine wl_exec (by kernel_rfl) (exec_load 28 _ rfl _ rfl _ (run_load_arr HV.out.2.1 Try.underlying28 rfl info26)) ?_)
    | ((with_reducible show wpList _ _ _ (Oper.mk _ (.load _ (.tmp 15)) _ _ _ _ :: _) _ _)
       refine wl_exec (by kernel_rfl) (exec_load 28 _ rfl _ rfl _ (run_load_arr HV.out.2.2.1 Try.underlying28 rfl info26)) ?_)
    | ((with_reducible show wpList _ _ _ (Oper.mk _ (.binOp _ _ (.tmp 32) (.tmp 33) _) _ _ _ _ :: _) _ _)
       refine wl_exec (by kernel_rfl) (exec_neq_true _ _ _ rfl F G n1 rfl rfl _) ?_)
    | ((with_reducible show wpList _ _ _ (Oper.mk _ (.binOp _ _ (.tmp 36) (.tmp 37) _) _ _ _ _ :: _) _ _)
       refine wl_exec (by kernel_rfl) (exec_neq_true _ _ _ rfl G K n2 rfl rfl _) ?_)
    | ((with_reducible show wpList _ _ _ (Oper.mk _ (.binOp _ _ (.tmp 41) (.tmp 42) _) _ _ _ _ :: _) _ _)
       refine wl_exec (by kernel_rfl) (exec_neq_true _ _ _ rfl F K n3 rfl rfl _) ?_))
  go_ret
  exact ⟨rfl, HV.out.2.2.2⟩
end Go.Proofs.Ytaopggcfaoabaaa
