/- word.Cat: parts, one behind the other, in new memory. -/
import Derived.Test.YtmcpmcicolpoeaaDoorChecked
import Derived.Test.YtmcpmcicolpoeaaDoorApp
import Derived.Laws.MakeOwn
import Derived.WalkSpells
import Derived.KernelRfl
namespace Go.Proofs.YtmcpmcicolpoeaaDoor
open Go.RowKit

/-- A part: where it lies, its room, its bytes. -/
abbrev Part := Option Addr × Nat × List UInt8
def partV (p : Part) : Value := .slice p.1 p.2.2.length p.2.1
def catAll (ps : List Part) : List UInt8 := (ps.map fun p => p.2.2).flatten
set_option maxRecDepth 100000 in
theorem cat_succ (ps : List Part) (k : Nat) (h : k < ps.length) : catAll (ps.take (k + 1)) = catAll (ps.take k) ++ ps[k].2.2 := by
  unfold catAll
  rw [List.take_succ_eq_append_getElem h, List.map_append, List.flatten_append]; simp
set_option maxRecDepth 100000 in
theorem cat_take_le (ps : List Part) (k : Nat) : (catAll (ps.take k)).length ≤ (catAll ps).length := by
  have h : catAll ps = catAll (ps.take k) ++ catAll (ps.drop k) := by
    unfold catAll
    rw [← List.flatten_append, ← List.map_append, List.take_append_drop]
  rw [h, List.length_append]; omega

/-- New bytes: a row of the call's own, all else as it was. -/
def Bytes (w : World) (l : List UInt8) (e : Ending) (w' : World) : Prop :=
  ∃ v, e = .returned v ∧ w'.ownsRow w.heap.size 5 1 v l.length (u8s l) ∧ Below w.heap.size w w'

set_option maxRecDepth 100000 in
theorem u8_info : (Tryd.prog.info? 5).map (fun i => (i.zero, i.size, i.bytes)) = some (some (.int .u8 0), 1, 1) := by kernel_rfl
set_option maxRecDepth 100000 in
theorem make_u8 (n : Nat) (hn : n ≤ 140737488355328) (w : World) : ∃ cur : Array Value, cur.size = n ∧
    (Instr.makeSlice 22 (.int .i64 0) (.int .i64 (n : Int))).run Tryd.prog w = .ok (.slice (some ⟨w.heap.size, 0, none⟩) 0 n) (w.alloc (.cells cur 5)) := by
  obtain ⟨i0, hi, hz0, hz1, hz2⟩ := info_parts u8_info
  have h := run_make (P := Tryd.prog) (w := w) 22 5 i0 (.int .u8 0) Tryd.underlying22 hi hz0 .i64 .i64 0 (n : Int) (by omega) (by omega) (by rw [hz2]; omega) (by omega)
  simp only [Int.toNat_natCast, Int.toNat_zero, hz1] at h
  exact ⟨_, by simp [madeCells, Value.cells], h⟩

set_option maxHeartbeats 400000 in
set_option maxRecDepth 100000 in
theorem cat_any (ps : List Part) (A : Option Addr) (c B : Nat) (w : World) (hB : B ≤ w.heap.size) (h : Lies w B 1 A ps.length (ps.map partV))
    (hp : ∀ p ∈ ps, Lies w B 1 p.1 p.2.2.length (u8s p.2.2)) (htot : (catAll ps).length ≤ 70368744177664) (hn : ps.length ≤ maxLen) :
    Calls Tryd.prog 54 #[.slice A ps.length c] w (Bytes w (catAll ps)) := by
  unfold maxLen at hn
  obtain ⟨i0, hi, hz0, hz1, hz2⟩ := info_parts u8_info
  have Hi := Lib.hid (And.intro hi (And.intro hz0 (And.intro hz1 hz2)))
  clear hi hz0 hz1 hz2
  have Hh := Lib.hid h
  have Hp := Lib.hid hp
  clear h hp
  go_enter Tryd.func54, Tryd.ntmps54
  go_wp2
  go_loop [3, 11] (fun n j => ∃ k : Nat, k ≤ ps.length ∧ j = .int .i64 k ∧ n = .int .i64 ((catAll (ps.take k)).length : Nat)) (fun _ i => ps.length - (intOf i).toNat)
  case atStart => exact ⟨0, Nat.zero_le _, rfl, rfl⟩
  case round =>
    obtain ⟨k, hk, rfl, rfl⟩ := hrel
    have hle := cat_take_le ps k
    by_cases hlt : k < ps.length
    · obtain ⟨a, hx, rfl, hb, hc⟩ := Hh.out.atMap hlt
      have hs : (catAll (ps.take (k + 1))).length = (catAll (ps.take k)).length + ps[k].2.2.length := by rw [cat_succ ps k hlt, List.length_append]
      have hle2 := cat_take_le ps (k + 1)
      have hl2 : (catAll (ps.take k)).length + ps[k].2.2.length ≤ 70368744177664 := by omega
      have Hs := Lib.hid hs
      clear hs hle2
      unfold partV at hc
      go_wp2
      go_round
      case rel => exact ⟨k + 1, by omega, by go_num, by rw [Hs.out]; go_num⟩
      case measure => simp [intOf]; omega
    · obtain rfl : k = ps.length := by omega
      obtain ⟨cur, hcur, hmk⟩ := make_u8 (catAll ps).length (by omega) w
      have Hcur := Lib.hid hcur
      clear hcur
      rw [List.take_length] at *
      have hpo := Lib.hid hlt
      clear hlt hle
      go_wp2
      obtain ⟨W0, hW0⟩ : ∃ W0, W0 = w.alloc (.cells cur 5) := ⟨_, rfl⟩
      have hown0 : W0.ownsRow w.heap.size 5 1 (.slice (some ⟨w.heap.size, 0, none⟩) 0 (catAll ps).length) 0 (u8s []) := by
        rw [hW0]; exact World.ownsRow_made w cur _ (Nat.le_refl _) (by unfold maxLen; omega) (by rw [Hcur.out, Nat.mul_one])
      have hbel0 : Below w.heap.size w W0 := by rw [hW0]; exact (Below.refl _ _).alloc (Nat.le_refl _) _
      rw [← hW0]
      clear hW0 hmk
      go_loopw [6, 24] (fun v j W => ∃ k : Nat, k ≤ ps.length ∧ j = .int .i64 k ∧ W.ownsRow w.heap.size 5 1 v (catAll (ps.take k)).length (u8s (catAll (ps.take k))) ∧ Below w.heap.size w W) (fun _ i _ => ps.length - (intOf i).toNat)
      case atStart => exact ⟨0, Nat.zero_le _, rfl, hown0, hbel0⟩
      case round =>
        obtain ⟨k, hk, rfl, hown, hbel⟩ := hrel
        have Hown := Lib.hid hown
        have Hbel := Lib.hid hbel
        clear hown0 hbel0 hown hbel
        by_cases hlt : k < ps.length
        · obtain ⟨a, hx, rfl, hb, hc⟩ := ((Hh.out.wide hB).below Hbel.out).atMap hlt
          have hs : (catAll (ps.take (k + 1))) = (catAll (ps.take k)) ++ ps[k].2.2 := cat_succ ps k hlt
          have hle2 := cat_take_le ps (k + 1)
          have hl2 : (catAll (ps.take k)).length + ps[k].2.2.length ≤ 70368744177664 := by rw [hs, List.length_append] at hle2; omega
          have hr := ((Hp.out _ (List.getElem_mem hx)).wide hB).below Hbel.out
          have Hs := Lib.hid hs
          have Hr := Lib.hid hr
          clear hs hle2 hr
          unfold partV at hc
          obtain ⟨hi, hz0, hz1, hz2⟩ := Hi.out
          have hfin : ∀ v' w', w'.ownsRow w.heap.size 5 1 v' ((catAll (ps.take k)).length + ps[k].2.2.length) (u8s (catAll (ps.take k)) ++ u8s ps[k].2.2) → wr.grownBy w' u6.ownBlock → Below w.heap.size w w' ∧ w'.ownsRow w.heap.size 5 1 v' (catAll (ps.take (k + 1))).length (u8s (catAll (ps.take (k + 1)))) := by
            intro v' w' h1 h2
            refine ⟨Hbel.out.grown h2 Hbel.out.size (fun g hg => (Hown.out.lt g hg).1), ?_⟩
            rw [Hs.out, List.length_append, ← u8s_append]; exact h1
          go_wp2_with (at_builtin; refine wpList_app rfl (.tmp 28) (.tmp 29) 22 rfl w.heap.size 5 i0 (.int .u8 0) 1 Tryd.underlying22 hi hz0 hz1 hz2 rfl _ _ _ rfl Hown.out _ _ _ _ _ rfl Hr.out (u8s_one _) (by unfold maxLen; omega) (by omega) Hbel.out.size ?_; intro v' w' h1 h2 h3)
          obtain ⟨f1, f2⟩ := hfin v' w' h1 h2
          clear hfin hi hz0 hz1 hz2 h1 h2 h3
          go_roundw
          case rel => exact ⟨k + 1, by omega, by go_num, f2, f1⟩
          case measure => simp [intOf]; omega
        · obtain rfl : k = ps.length := by omega
          go_wp2
          go_ret
          have h1 := Hown.out
          rw [List.take_length] at h1
          exact ⟨_, rfl, h1, Hbel.out⟩
end Go.Proofs.YtmcpmcicolpoeaaDoor
