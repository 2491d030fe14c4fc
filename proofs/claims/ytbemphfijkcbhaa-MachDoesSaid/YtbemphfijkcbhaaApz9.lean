/- append of zeros onto a row of the call's own. -/
import Derived.Lib.AppendZeros
import Derived.Test.YtbemphfijkcbhaaWa
import Derived.Test.YtbemphfijkcbhaaRm9
namespace Go.Proofs.Ytbemphfijkcbhaa
open Go.RowKit
section
variable {P : Program} {w : World}
theorem zero_cells1 (z : Value) (k : Nat) : Builtin.zeroCells #[z] k = (List.replicate k z).toArray := by
  apply Array.ext_getElem?
  intro i
  by_cases hi : i < k
  · simp [Builtin.zeroCells, hi, Nat.mod_one]
  · simp [Builtin.zeroCells, hi]
theorem run_app_zeros (kv : IntKind) (base : Nat) (t tn ty e : TypeId) (i : TypeInfo) (z : Value) (kn : IntKind) (bytes : Nat) (ht : P.underlying t = some (.slice e)) (htn : P.underlying tn = some (.int kn)) (hi : P.info? e = some i) (hz : i.zero = some z)
    (hsize : i.size = 1) (hby : i.bytes = bytes) (hzc : z.cells = #[z]) (hz1 : z.oneCell' = true) (v : Value) (n : Nat) (xs : List Value) (hown : w.ownsRow base e 1 v n xs) (k : Nat) (h0 : 0 < k)
    (h63 : n + k ≤ maxLen) (hbytes : (n + k) * bytes ≤ 140737488355328) (hbase : base ≤ w.heap.size) :
    ∃ v' w', (Builtin.append_ #[t, tn] ty #[v, .int kv (k : Int)]).run P w = .ok v' w' ∧ w'.ownsRow base e 1 v' (n + k) (xs ++ List.replicate k z) ∧ w.grownBy w' v.ownBlock := by
  subst hby
  have hsmall : n + k ≤ 9223372036854775807 := by simp only [maxLen] at h63; omega
  have hlx : xs.length = n := by have := hown.1; omega
  have hlen : (xs ++ List.replicate k z).length = (n + k) * 1 := by rw [List.length_append, hlx, List.length_replicate]; omega
  have hw : IntKind.i64.wrap (k : Int) = k := by rw [IntKind.wrap_i64]; omega
  have hneg : ¬ ((k : Int) < 0) := by omega
  have hk0 : k ≠ 0 := by omega
  have hkb : k * i.bytes ≤ (n + k) * i.bytes := Nat.mul_le_mul_right _ (by omega)
  have h48i : ¬ (281474976710656 < (k : Int) * (i.bytes : Int)) := by
    rw [← Int.natCast_mul]; omega
  have grown : ∀ (old : Nat), old < n + k → ∀ (row : Option Nat),
      (w.drew.alloc (.cells (xs.toArray ++ (List.replicate k z).toArray ++ Builtin.zeroCells z.cells (grownCap w (n + k) old e - (n + k))) e)).ownsRow base e 1
        (.slice (some ⟨w.heap.size, 0, none⟩) (n + k) (grownCap w (n + k) old e)) (n + k) (xs ++ List.replicate k z) ∧
      w.grownBy (w.drew.alloc (.cells (xs.toArray ++ (List.replicate k z).toArray ++ Builtin.zeroCells z.cells (grownCap w (n + k) old e - (n + k))) e)) row := by
    intro old ho row
    have hge := grownCap_ge w (n + k) old e
    have hcm : grownCap w (n + k) old e ≤ maxLen := grownCap_le_maxLen w (n + k) old e h63
    refine ⟨⟨hlen, .inr ⟨w.heap.size, _, _, rfl, hbase, heap_alloc_new w.drew _, hge, hcm, ?_, ?_⟩⟩, ⟨rfl, rfl, rfl, by simp, fun k hk _ => heap_alloc_old w.drew _ hk⟩⟩
    · simp only [Array.size_append, List.size_toArray, size_zeroCells, hzc, hlx, List.length_replicate]
      simp; omega
    · simp only [Array.toList_append, List.append_assoc]
      rw [← List.append_assoc, ← hlen]
      exact List.take_left
  rcases hown.2 with ⟨rfl, rfl⟩ | ⟨g, cap, cur, rfl, hbg, hg, hnc, hcm, hcs, htake⟩
  · have hx : xs = [] := List.eq_nil_of_length_eq_zero hlx
    subst hx
    have hr := Lib.run_append_nil_zeros (P := P) w t tn ty e i z kv kn ht htn hi hz k h0 (by omega) (by omega) (by have hb := hbytes; simp only [Nat.zero_add] at hb; omega)
    have hgr := grown 0 (by omega) (Value.ownBlock (.slice none 0 0))
    simp only [Nat.zero_add, List.nil_append, Array.empty_append] at hgr ⊢
    rw [hzc, zero_cells1] at hr
    rw [hzc] at hgr
    exact ⟨_, _, hr, hgr.1, hgr.2⟩
  · by_cases hroom : n + k ≤ cap
    · have hfit : n * 1 + (List.replicate k z).length ≤ cur.size := by rw [List.length_replicate, hcs]; omega
      have hst := run_storeCells_at P g (n * 1) e (List.replicate k z) 0 cur w hg (by simpa using hfit) (fun u hu => by rw [List.eq_of_mem_replicate hu]; exact hz1)
      simp only [Nat.add_zero] at hst
      have hr : (Builtin.append_ #[t, tn] ty #[.slice (some ⟨g, 0, none⟩) n cap, .int kv (k : Int)]).run P w =
          .ok (.slice (some ⟨g, 0, none⟩) (n + k) cap) (w.setRow g (cur.toList.take (n * 1) ++ List.replicate k z ++ cur.toList.drop (n * 1 + (List.replicate k z).length)).toArray) := by
        simp [Builtin.append_, run_underlying ht, run_underlying htn, sizeOf, typeInfo, zeroValue, hi, hz, hzc, hsize, asInt, asIntOf, hw, hneg, hk0, h48i, zero_cells1, hroom, Addr.add_lit] at hst ⊢
        simp [hst]
      refine ⟨_, _, hr, ⟨hlen, .inr ⟨g, cap, _, rfl, hbg, setRow_heap w g cur _ e _ hg, hroom, hcm, ?_, ?_⟩⟩, ⟨rfl, rfl, rfl, by simp, fun k _ hk => setRow_other w g k _ (fun e => hk (by simp [Value.ownBlock, e]))⟩⟩
      · simp only [List.size_toArray, List.length_append, List.length_take, List.length_drop, Array.length_toList, List.length_replicate]
        omega
      · rw [htake, ← hlen]
        exact List.take_left
    · have holds : ∀ j u, xs[j]? = some u → w.cell? ((⟨g, 0, none⟩ : Addr).add j) = some u := hown.cells (g := g) rfl
      have hfo := run_firstCells_some (P := P) w.drew 1 n ⟨g, 0, none⟩ n cap xs hown.1 (by simpa using holds)
      have h63' : ¬ (9223372036854775807 < ((n : Int) + (k : Int))) := by omega
      have hfit := growslice_fits (need := n + k) (old := cap) (by omega) hbytes
      have h48' : ¬ (281474976710656 < Builtin.nextslicecap (n + k) cap * i.bytes) := by omega
      have hr : (Builtin.append_ #[t, tn] ty #[.slice (some ⟨g, 0, none⟩) n cap, .int kv (k : Int)]).run P w =
          .ok (.slice (some ⟨w.heap.size, 0, none⟩) (n + k) (grownCap w (n + k) cap e)) (w.drew.alloc (.cells (xs.toArray ++ (List.replicate k z).toArray ++ Builtin.zeroCells z.cells (grownCap w (n + k) cap e - (n + k))) e)) := by
        simp [Builtin.append_, run_underlying ht, run_underlying htn, sizeOf, typeInfo, zeroValue, hi, hz, hzc, hsize, asInt, asIntOf, hw, hneg, hk0, h48i, zero_cells1, hroom, h63', h48', Question.forced, hfo, newRow, grownCap]
      have hgr := grown cap (by omega) (Value.ownBlock (.slice (some ⟨g, 0, none⟩) n cap))
      exact ⟨_, _, hr, hgr.1, hgr.2⟩
end
/-- append, as a word of its own: a walk takes it by an equation. -/
def appS9 (ts : Array TypeId) (ty : TypeId) (vs : Array Value) : Sem Value := Builtin.append_ ts ty vs
theorem builtin_appS9 (ats : Array TypeId) (ty : TypeId) (cs : Array Bool) (args : Array Value) : builtin .append ats ty cs args = (do pure (.value (← appS9 ats ty args))) := rfl
theorem rdM_add (m : Bytes8) (a k s : Nat) : rdM m a (k + s) = rdM m a k ++ rdM m (a + k) s := by
  unfold rdM
  rw [List.range_add, List.map_append, List.map_map]
  congr 1
  exact List.map_congr_left fun i _ => by simp [Nat.add_assoc]
theorem u8s_zeros (s : Nat) : u8s (List.replicate s 0) = List.replicate s (Value.int .u8 0) := by simp [u8s]
theorem info8a : (Try.prog.info? 5).map (fun i => (i.zero, i.size, i.bytes)) = some (some (.int .u8 0), 1, 1) := by kernel_rfl
/-- A page's part, or zeros, behind what was read. -/
theorem app_page {w : World} {base : Nat} {v : Value} {k : Nat} {L : List UInt8} {g o s d : Nat} {m : Bytes8} {x : Nat} (hown : w.ownsRow base 5 1 v k (u8s L)) (hA : Arr w g 5 4096 (bys fun i => m (x + i))) (ho : o + s ≤ 4096) (hk : k + s ≤ 1048576) (hb : base ≤ w.heap.size) (ty : TypeId) :
    ∃ A' c' w', (Builtin.append_ #[41, 41] ty #[v, .slice (some ⟨g, o, none⟩) s d]).run Try.prog w = .ok (.slice A' (k + s) c') w' ∧ w'.ownsRow base 5 1 (.slice A' (k + s) c') (k + s) (u8s (L ++ rdM m (x + o) s)) ∧ w.grownBy w' v.ownBlock := by
  obtain ⟨i0, hi, hz0, hz1, hz2⟩ := info_parts info8a
  have hl : Lies w w.heap.size 1 (some ⟨g, o, none⟩) s (u8s (rdM m (x + o) s)) := by
    have := hA.lies hA.lt o s ho
    have e : ((List.range s).map fun i => bys (fun j => m (x + j)) (o + i)) = u8s (rdM m (x + o) s) := by
      unfold u8s rdM
      rw [List.map_map]
      exact List.map_congr_left fun i _ => by simp [bys, Nat.add_assoc]
    rw [e] at this
    exact this
  obtain ⟨v', w', h1, h2, h3, _⟩ := run_app (P := Try.prog) (w := w) base 41 ty 5 i0 (.int .u8 0) 1 Try.underlying41 hi hz0 hz1 hz2 rfl v k (u8s L) hown w.heap.size (some ⟨g, o, none⟩) s d (u8s (rdM m (x + o) s)) hl (u8s_one _) (by unfold maxLen; omega) (by omega) hb
  obtain ⟨A', c', rfl, _⟩ := owns_form h2
  rw [u8s_append] at h2
  exact ⟨A', c', w', h1, h2, h3⟩
theorem app_zeros {w : World} {base : Nat} {v : Value} {k : Nat} {L : List UInt8} {s : Nat} {m : Bytes8} {x : Nat} (hown : w.ownsRow base 5 1 v k (u8s L)) (hz : ∀ i, i < s → m (x + i) = 0) (hs : 0 < s) (hk : k + s ≤ 1048576) (hb : base ≤ w.heap.size) (ty : TypeId) :
    ∃ A' c' w', (Builtin.append_ #[41, 22] ty #[v, .int .u64 (s : Int)]).run Try.prog w = .ok (.slice A' (k + s) c') w' ∧ w'.ownsRow base 5 1 (.slice A' (k + s) c') (k + s) (u8s (L ++ rdM m x s)) ∧ w.grownBy w' v.ownBlock := by
  obtain ⟨i0, hi, hz0, hz1, hz2⟩ := info_parts info8a
  obtain ⟨v', w', h1, h2, h3⟩ := run_app_zeros (P := Try.prog) (w := w) .u64 base 41 22 ty 5 i0 (.int .u8 0) .u64 1 Try.underlying41 Try.underlying22 hi hz0 hz1 hz2 rfl rfl v k (u8s L) hown s hs (by unfold maxLen; omega) (by omega) hb
  obtain ⟨A', c', rfl, _⟩ := owns_form h2
  have e : rdM m x s = List.replicate s 0 := by
    refine List.ext_getElem? fun i => ?_
    by_cases h : i < s
    · rw [rdM_get _ _ _ _ h, hz i h]; simp [h]
    · rw [List.getElem?_eq_none (by rw [rdM_length]; omega), List.getElem?_eq_none (by simp; omega)]
  rw [← u8s_zeros, u8s_append, ← e] at h2
  exact ⟨A', c', w', h1, h2, h3⟩
end Go.Proofs.Ytbemphfijkcbhaa
