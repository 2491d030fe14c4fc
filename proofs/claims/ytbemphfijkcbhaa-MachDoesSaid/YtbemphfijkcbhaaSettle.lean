/- mach.pages.settle: a page that has become all 0 is forgotten. -/
import Derived.Test.YtbemphfijkcbhaaWa
import Derived.Test.YtbemphfijkcbhaaPg
import Derived.Maps.OwnIn
namespace Go.Proofs.Ytbemphfijkcbhaa
open Go.RowKit Go.Maps

theorem wl_exec {P : Program} {ops : Array Oper} {Q : Exit → Act → World → Prop} {a : Act} {w : World} {rest : List Oper} {o : Oper} {v : Value} (hw : Region.wanted o (yielded ops a.tmps) = true)
    (he : (execOp a.eval o).run P w = .ok (.value v) w) (h : wpList P ops Q rest (a.put o.dst v) w) : wpList P ops Q (o :: rest) a w :=
  wpList_step fun K hK => by
    simp only [hw, if_true]
    unfold Oper.wp
    rw [he]
    exact hK _ _ h
/-- The run of 'delete' at a key. -/
def DelRun (b k : Nat) (w w' : World) : Prop := (Builtin.delete_ #[85, 22] 0 #[.map (some b), .int .u64 (k : Int)]).run Try.prog w = .ok (.tuple #[]) w'
theorem DelRun.any {b k : Nat} {w w' : World} (h : DelRun b k w w') (ty : TypeId) : (Builtin.delete_ #[85, 22] ty #[.map (some b), .int .u64 (k : Int)]).run Try.prog w = .ok (.tuple #[]) w' := h
theorem del_run {w : World} {b n k : Nat} {D : DataW Unit} (h : w.ownsMap Try.prog 22 ptrR b n D) (hk : k < 18446744073709551616) :
    ∃ w', DelRun b k w w' ∧ w'.ownsMap Try.prog 22 ptrR b n (D.del (klit k)) ∧ w.mapTurned w' b := h.drop kLaw Try.underlying85 (klit_key hk) 0
theorem wl_del {P : Program} {ops : Array Oper} {Q : Exit → Act → World → Prop} {a : Act} {w w' : World} {rest : List Oper} {o : Oper} (hg : o.guard = none) (m x : Operand) (t k : TypeId) (hop : o.op = Op.call { callee := Callee.builtin Builtin.delete, args := #[m, x], argTypes := #[t, k] })
    (vm vx : Value) (hm : a.eval m = vm) (hx : a.eval x = vx) (hrun : ∀ ty, (Builtin.delete_ #[t, k] ty #[vm, vx]).run P w = .ok (.tuple #[]) w') (hK : wpList P ops Q rest (a.put o.dst (.tuple #[])) w') :
    wpList P ops Q (o :: rest) a w := by
  refine wpList_plain hg fun K' hK' => ?_
  have hr := hrun o.type
  unfold Oper.wp
  simp [execOp, hop, resolve, invoke, builtin, hm, hx, hr, Result.andThen]
  exact hK' _ _ hK
theorem run_load_page {w : World} {g : Nat} {f : Nat → Value} (h : Arr w g 134 4096 f) : (loadVar 134 ⟨g, 0, none⟩).run Try.prog w = .ok (.agg (vec 4096 f)) w :=
  run_load_arr h Try.underlying134 rfl infoP
set_option maxRecDepth 100000 in
set_option maxHeartbeats 1000000 in
theorem settle_any {w : World} {G : Nat → Prop} {b n k g : Nat} {D : DataW Unit} {m : Bytes8} {X : Nat → Prop} (hP : Pg w G b n D m X) (hk : pm D k = some g) :
    Calls Try.prog 78 #[.map (some b), .int .u64 (k : Int)] w fun e w' => e = .returned (.tuple #[]) ∧
      (((∃ i, i < 4096 ∧ m (k + i) ≠ 0) ∧ w' = w) ∨ ((∀ i, i < 4096 → m (k + i) = 0) ∧ DelRun b k w w')) := by
  obtain ⟨g1, g2, g3, g4, g5⟩ := hP.pg k g hk
  have hlk := hP.look g3
  rw [hk] at hlk
  simp only [pval] at hlk
  have HA := Lib.hid g4
  obtain ⟨w2, hd, -, -⟩ := del_run hP.own g3
  have HD := Lib.hid hd
  obtain ⟨z, hz⟩ : ∃ z, z = (List.range 4096).all (fun i => (fun j => m (k + j)) i == (fun _ => (0 : UInt8)) i) := ⟨_, rfl⟩
  have HZ := Lib.hid hz
  have HL := Lib.hid hlk
  clear hP hk g1 g2 g3 g4 g5 hd hz hlk
  go_enter Try.func78, Try.ntmps78
  have hlk := HL.out
  cases z
  · have HN := Lib.hid ((pageZ_no fun j => m (k + j)).1 HZ.out.symm)
    go_wp2_with (first
      | (at_delete; refine wl_del rfl _ _ _ _ rfl _ _ rfl rfl HD.out.any ?_)
      | ((with_reducible show wpList _ _ _ (Oper.mk _ (.load _ _) _ _ _ _ :: _) _ _); refine wl_load rfl 134 _ rfl _ rfl _ (run_load_page HA.out) ?_)
      | ((with_reducible show wpList _ _ _ (Oper.mk _ (.build _ _) _ _ _ _ :: _) _ _); refine wl_build rfl 134 _ rfl _ builtP ?_)
      | ((with_reducible show wpList _ _ _ (Oper.mk _ (.binOp .eql _ _ _ _) _ _ _ _ :: _) _ _); refine wl_exec (by kernel_rfl) (exec_eqlP _ _ _ rfl (fun j => m (k + j)) (fun _ => 0) rfl rfl _) ?_; rw [← HZ.out]))
    go_end0
    exact ⟨rfl, Or.inl ⟨HN.out, rfl⟩⟩
  · have HN := Lib.hid ((pageZ_iff fun j => m (k + j)).1 HZ.out.symm)
    go_wp2_with (first
      | (at_delete; refine wl_del rfl _ _ _ _ rfl _ _ rfl rfl HD.out.any ?_)
      | ((with_reducible show wpList _ _ _ (Oper.mk _ (.load _ _) _ _ _ _ :: _) _ _); refine wl_load rfl 134 _ rfl _ rfl _ (run_load_page HA.out) ?_)
      | ((with_reducible show wpList _ _ _ (Oper.mk _ (.build _ _) _ _ _ _ :: _) _ _); refine wl_build rfl 134 _ rfl _ builtP ?_)
      | ((with_reducible show wpList _ _ _ (Oper.mk _ (.binOp .eql _ _ _ _) _ _ _ _ :: _) _ _); refine wl_exec (by kernel_rfl) (exec_eqlP _ _ _ rfl (fun j => m (k + j)) (fun _ => 0) rfl rfl _) ?_; rw [← HZ.out]))
    go_end0
    exact ⟨rfl, Or.inr ⟨HN.out, HD.out⟩⟩
end Go.Proofs.Ytbemphfijkcbhaa
