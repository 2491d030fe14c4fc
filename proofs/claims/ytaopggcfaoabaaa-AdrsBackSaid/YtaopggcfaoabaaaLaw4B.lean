/- The walk of AdrsMakes. -/
import Derived.Test.YtaopggcfaoabaaaAwake4
namespace Go.Proofs.Ytaopggcfaoabaaa
open Go.RowKit

theorem part32 (xs : Array Value) (k : Nat) (v : Value) (h : xs[k]? = some v) (w : World) : (Go.part 22 xs k).run Try.prog w = .ok v w := by
  simp [Go.part, go_sem, Try.isAgg22, Try.sizeOf22, h]
theorem part64 (xs : Array Value) (k : Nat) (v : Value) (h : xs[k]? = some v) (w : World) : (Go.part 23 xs k).run Try.prog w = .ok v w := by
  simp [Go.part, go_sem, Try.isAgg23, Try.sizeOf23, h]
theorem eq_fields_self (xs : Array Value) (d : Nat) (w : World) : ∀ fs : List Field, (∀ f ∈ fs, (f.type = 22 ∧ ∃ z, xs[f.offset]? = some (.int .u32 z)) ∨ (f.type = 23 ∧ ∃ z, xs[f.offset]? = some (.int .u64 z))) →
    (Op.eqFields (d + 1) xs xs fs).run Try.prog w = .ok true w
  | [], _ => by simp [Op.eqFields]
  | f :: fs, h => by
    have ih := eq_fields_self xs d w fs (fun g hg => h g (by simp [hg]))
    unfold Op.eqFields
    split
    · rcases h f (by simp) with ⟨ht, z, hz⟩ | ⟨ht, z, hz⟩
      · have he := run_equalIn_int (P := Try.prog) w d 22 .u32 .u32 z z Try.underlying22
        rw [beq_self_eq_true] at he
        rw [ht]
        simp only [Sem.run_bind, part32 xs _ _ hz, Result.andThen_ok, he]
        exact ih
      · have he := run_equalIn_int (P := Try.prog) w d 23 .u64 .u64 z z Try.underlying23
        rw [beq_self_eq_true] at he
        rw [ht]
        simp only [Sem.run_bind, part64 xs _ _ hz, Result.andThen_ok, he]
        exact ih
    · exact ih
theorem fieldsAd : (Try.prog.fieldsOf 25).toList.map (fun f => (f.type, f.offset)) = [(22, 0), (23, 1), (22, 2), (22, 3), (22, 4), (22, 5), (22, 6)] := by kernel_rfl
theorem eqlAd (l t k a b c m : Int) (w : World) : (binOp .eql 25 (adV l t k a b c m) (adV l t k a b c m)).run Try.prog w = .ok (.bool true) w := by
  rw [run_eql_struct, run_equalIn_struct w 9999 25 _ _ Try.underlying25 (by kernel_rfl)]
  rw [eq_fields_self _ 9998 w _ (fun f hf => ?_)]
  · rfl
  · have hm : (f.type, f.offset) ∈ (Try.prog.fieldsOf 25).toList.map (fun f => (f.type, f.offset)) := List.mem_map.2 ⟨f, hf, rfl⟩
    rw [fieldsAd] at hm
    simp only [List.mem_cons, List.not_mem_nil, or_false, Prod.mk.injEq] at hm
    rcases hm with ⟨h1, h2⟩ | ⟨h1, h2⟩ | ⟨h1, h2⟩ | ⟨h1, h2⟩ | ⟨h1, h2⟩ | ⟨h1, h2⟩ | ⟨h1, h2⟩ <;> rw [h2]
    · exact Or.inl ⟨h1, _, rfl⟩
    · exact Or.inr ⟨h1, _, rfl⟩
    · exact Or.inl ⟨h1, _, rfl⟩
    · exact Or.inl ⟨h1, _, rfl⟩
    · exact Or.inl ⟨h1, _, rfl⟩
    · exact Or.inl ⟨h1, _, rfl⟩
    · exact Or.inl ⟨h1, _, rfl⟩
theorem eqgAd (op : BinOp) (x y : Operand) (l t k a b c m : Int) (w : World) : (eqGuard op 25 x y (adV l t k a b c m) (adV l t k a b c m)).run Try.prog w = .ok () w :=
  run_eqGuard_agg w op 25 x y _ _ (by kernel_rfl)
theorem exec_eqlAd {o : Oper} {act : Act} (x y : Operand) (ty : TypeId) (ho : o.op = .binOp .eql 25 x y ty) (l t k a b c m : Int) (hx : act.eval x = adV l t k a b c m) (hy : act.eval y = adV l t k a b c m) (w : World) :
    (execOp act.eval o).run Try.prog w = .ok (.value (.bool true)) w := by
  unfold execOp
  simp only [ho, hx, hy, Sem.run_bind, Sem.run_pure, eqgAd, eqlAd, Result.andThen_ok]
set_option maxHeartbeats 1000000 in
set_option maxRecDepth 100000 in
theorem adrsMakes_walk (a b c m : Nat) (w : World) (_ : a < 4294967296) (_ : b < 4294967296) (_ : c < 4294967296) (_ : m < 4294967296) :
    Calls Try.prog 5 #[.int .u32 (a : Int), .int .u32 (b : Int), .int .u32 (c : Int), .int .u32 (m : Int)] w fun e w' => e = .returned (.bool true) ∧ Below w.heap.size w w' := by
  go_enter Try.func5, Try.ntmps5
  go_upto_region 4 with (first
    | (go_at_call 7; refine (awake4_any _).mono ?_; rintro e w1 ⟨rfl, hd⟩; have H1 := Lib.hid hd; clear hd)
    | (go_at_call 12; refine (tree_any b c _).mono ?_; rintro e w2 ⟨rfl, hd⟩; have H2 := Lib.hid (H1.out.trans (hd.mono H1.out.size)); clear hd)
    | (go_at_call 11; refine (masked_any 0 0 2 0 b c 0 m _).mono ?_; rintro e w3 ⟨rfl, hd⟩; have H3 := Lib.hid (H2.out.trans (hd.mono H2.out.size)); clear hd))
  obtain ⟨V, hV⟩ : ∃ V, V = w3.alloc (.cells #[.int .u32 0, .int .u64 0, .int .u32 2, .int .u32 0, .int .u32 (b : Int), .int .u32 (c : Int), .int .u32 (m : Int)] 25) := ⟨_, rfl⟩
  have hBV : Blk V w3.heap.size 25 (adA 0 0 2 0 b c m) := by rw [hV]; exact Blk.new _ _ _ rfl
  have hbV : Below w.heap.size w V := by rw [hV]; exact H3.out.alloc H3.out.size _
  rw [← hV]
  have HV := Lib.hid (And.intro hBV hbV)
  clear hV hBV hbV
  have q1 := fun W => eqlAd 0 0 0 a b c 0 W
  have q2 := fun x y W => eqgAd .eql x y 0 0 0 a b c 0 W
  have q3 := fun W => eqlAd 0 0 1 a b c 0 W
  have q4 := fun x y W => eqgAd .eql x y 0 0 1 a b c 0 W
  have q5 := fun W => eqlAd 0 0 2 0 b c m W
  have q6 := fun x y W => eqgAd .eql x y 0 0 2 0 b c m W
  go_wp2_with (first
    | (go_at_call 13; refine (ots_any a b c _).mono ?_; rintro e w4 ⟨rfl, hd⟩; have H4 := Lib.hid (And.intro (HV.out.1.under hd) (HV.out.2.trans (hd.mono HV.out.2.size))); clear hd)
    | (go_at_call 14
       refine (ltree_any a b c _).mono ?_
       rintro e w5 ⟨rfl, hd⟩
       have H5 := Lib.hid (And.intro (H4.out.1.under hd) (H4.out.2.trans (hd.mono H4.out.2.size)))
       have c0 : w5.cell? ⟨w3.heap.size, 0, none⟩ = some (.int .u32 0) := H5.out.1.cellAt 0 rfl
       have c1 : w5.cell? ⟨w3.heap.size, 1, none⟩ = some (.int .u64 0) := H5.out.1.cellAt 1 rfl
       have c2 : w5.cell? ⟨w3.heap.size, 2, none⟩ = some (.int .u32 2) := H5.out.1.cellAt 2 rfl
       have c3 : w5.cell? ⟨w3.heap.size, 3, none⟩ = some (.int .u32 0) := H5.out.1.cellAt 3 rfl
       have c4 : w5.cell? ⟨w3.heap.size, 4, none⟩ = some (.int .u32 (b : Int)) := H5.out.1.cellAt 4 rfl
       have c5 : w5.cell? ⟨w3.heap.size, 5, none⟩ = some (.int .u32 (c : Int)) := H5.out.1.cellAt 5 rfl
       have c6 : w5.cell? ⟨w3.heap.size, 6, none⟩ = some (.int .u32 (m : Int)) := H5.out.1.cellAt 6 rfl
       clear hd))
  go_ret
  exact ⟨rfl, H5.out.2⟩
end Go.Proofs.Ytaopggcfaoabaaa
