/- Keys alike. -/
import Derived.Test.YtfeiplaiekbdkaaXval
namespace Go.Proofs.Ytfeiplaiekbdkaa
open Go.RowKit

theorem vec_extract (n o m : Nat) (f : Nat → Value) (h : o + m ≤ n) : (vec n f).extract o (o + m) = vec m (fun i => f (o + i)) := by
  apply Array.ext_getElem?
  intro i
  by_cases hi : i < m
  · rw [vec_at m _ i hi, Array.getElem?_extract, if_pos (by rw [vec_size]; omega), vec_at n f _ (by omega)]
  · rw [Array.getElem?_eq_none (by rw [Array.size_extract, vec_size]; omega), Array.getElem?_eq_none (by rw [vec_size]; omega)]
set_option maxRecDepth 100000 in
theorem part_root (oid : Int) (root seed : Nd) (w : World) : (Go.part 29 (vec 65 (keyF oid root seed)) 1).run Try.prog w = .ok (.agg (vec 32 (bys root))) w := by
  have e : vec 32 (fun i => keyF oid root seed (1 + i)) = vec 32 (bys root) := vec_congr fun i hi => keyF_root oid root seed i hi
  have h := vec_extract 65 1 32 (keyF oid root seed) (by decide)
  rw [e] at h
  simp [Go.part, go_sem, Try.isAgg29, Try.sizeOf29, h]
set_option maxRecDepth 100000 in
theorem part_seed (oid : Int) (root seed : Nd) (w : World) : (Go.part 29 (vec 65 (keyF oid root seed)) 33).run Try.prog w = .ok (.agg (vec 32 (bys seed))) w := by
  have e : vec 32 (fun i => keyF oid root seed (33 + i)) = vec 32 (bys seed) := vec_congr fun i _ => keyF_seed oid root seed i
  have h := vec_extract 65 33 32 (keyF oid root seed) (by decide)
  rw [e] at h
  simp [Go.part, go_sem, Try.isAgg29, Try.sizeOf29, h]
theorem part_oid (oid : Int) (root seed : Nd) (w : World) : (Go.part 22 (vec 65 (keyF oid root seed)) 0).run Try.prog w = .ok (.int .u32 oid) w := by
  have hv := vec_at 65 (keyF oid root seed) 0 (by decide)
  simp [Go.part, go_sem, Try.isAgg22, Try.sizeOf22, hv, keyF]
theorem eq_items_n (f : Nat → UInt8) (d : Nat) (w : World) : ∀ is : List Nat, (∀ i ∈ is, i < 32) → (Op.eqItems (d + 1) 5 1 (vec 32 (bys f)) (vec 32 (bys f)) is).run Try.prog w = .ok true w := eq_items32 f d w
set_option maxRecDepth 100000 in
theorem equalIn_node (d : Nat) (f : Nd) (w : World) : (Op.equalIn (d + 2) 29 (.agg (vec 32 (bys f))) (.agg (vec 32 (bys f)))).run Try.prog w = .ok true w := by
  obtain ⟨i, hi, hs⟩ : ∃ i, Try.prog.info? 5 = some i ∧ i.size = 1 := by
    have h : (Try.prog.info? 5).map (·.size) = some 1 := by kernel_rfl
    cases hq : Try.prog.info? 5 with
    | none => simp [hq] at h
    | some i => exact ⟨i, rfl, by simpa [hq] using h⟩
  have := run_equalIn_array (P := Try.prog) w (d + 1) (vec 32 (bys f)) (vec 32 (bys f)) Try.underlying29 hi
  have hc : Try.prog.cellsOf 5 = 1 := by kernel_rfl
  rw [hc, eq_items32 f d w (List.range 32) (fun i hi => List.mem_range.1 hi)] at this
  exact this
set_option maxRecDepth 100000 in
theorem eqlKey (oid : Int) (root seed : Nd) (w : World) : (Op.equalIn 10000 31 (.agg (vec 65 (keyF oid root seed))) (.agg (vec 65 (keyF oid root seed)))).run Try.prog w = .ok true w := by
  rw [run_equalIn_struct (P := Try.prog) w 9999 31 _ _ (by kernel_rfl) (by kernel_rfl)]
  unfold Program.fieldsOf
  rw [Try.underlying31]
  have h1 := equalIn_node 9997 root w
  have h2 := equalIn_node 9997 seed w
  have h0 := run_equalIn_int (P := Try.prog) w 9998 22 .u32 .u32 oid oid Try.underlying22
  rw [beq_self_eq_true] at h0
  simp [Op.eqFields, Sem.run_bind, part_oid, part_root, part_seed, h0, h1, h2]
end Go.Proofs.Ytfeiplaiekbdkaa
