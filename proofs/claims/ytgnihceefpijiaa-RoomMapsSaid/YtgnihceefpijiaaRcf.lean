/- A guest of a configuration: where its windows and devices lie; rows of spans that grow. -/
import Derived.Test.YtgnihceefpijiaaRat
import Derived.Test.YtgnihceefpijiaaOpn14
import Derived.Test.YtgnihceefpijiaaFw
import Derived.Test.YtgnihceefpijiaaLi
namespace Go.Proofs.Ytgnihceefpijiaa
open Go.RowKit

theorem cf_guest {x : Cf} {a c : Value} {V : World} (hx : CfR V V.heap.size x a c) : ∃ (A : Option Addr) (d : Nat) (A2 : Option Addr) (d2 : Nat), a = .slice A x.gs.length d ∧ c = .slice A2 x.chs.length d2 ∧ (∀ Y, Below V.heap.size V Y → RowE 8 chE Y Y.heap.size A2 x.chs) ∧
    ∀ i (hi : i < x.gs.length), ∃ (a0 q : Addr) (A1 : Option Addr) (e1 : Nat) (A3 : Option Addr) (e3 : Nat), A = some a0 ∧ a0.add (i * 79) = q ∧ ∀ Y, Below V.heap.size V Y → (Y.cell? ⟨q.block, q.off + 75, none⟩ = some (.slice A1 (x.gs[i]).wins.length e1) ∧ Y.cell? ⟨q.block, q.off + 76, none⟩ = some (.slice A3 (x.gs[i]).devs.length e3)) ∧ RowE 4 winE Y Y.heap.size A1 (x.gs[i]).wins ∧ RowE 3 devE Y Y.heap.size A3 (x.gs[i]).devs := by
  obtain ⟨⟨A, d, ys, rfl, hm, hr, -⟩, ⟨A2, d2, rfl, hr2, -⟩⟩ := hx
  refine ⟨A, d, A2, d2, rfl, rfl, fun Y hY => hr2.up hY, fun i hi => ?_⟩
  have hlen : ys.length = x.gs.length := by rw [← hm, List.length_map]
  have hiy : i < ys.length := by omega
  have hg : ys[i].g = x.gs[i] := by simp [← hm]
  obtain ⟨a0, q, rfl, hq, -, -⟩ := hr.row.at hiy
  obtain ⟨⟨A1, e1, f1, r1, -⟩, ⟨A3, e3, f3, r3, -⟩, -, -⟩ := hr.all _ (List.getElem_mem hiy)
  rw [hg] at f1 f3 r1 r3
  refine ⟨a0, q, A1, e1, A3, e3, rfl, hq, fun Y hY => ?_⟩
  obtain ⟨a', q', ea, hq', -, hcp⟩ := (hr.up hY).row.at hiy
  injection ea with ea
  subst ea
  rw [hq] at hq'
  subst hq'
  have z1 := hcp 75 (by decide)
  have z2 := hcp 76 (by decide)
  have w1 : guestE ys[i] 75 = ys[i].wv := rfl
  have w2 : guestE ys[i] 76 = ys[i].dv := rfl
  rw [w1, f1] at z1
  rw [w2, f3] at z2
  exact ⟨⟨z1, z2⟩, r1.up hY, r3.up hY⟩
theorem info_span : (Try.prog.info? 49).map (fun i => (i.zero, i.size, i.bytes)) = some (some (.agg (vec 2 (spE (0, 0)))), 2, 16) := by kernel_rfl
set_option maxRecDepth 100000 in
theorem build_span (x : Sp) (w : World) : (Instr.buildSlice 45 1 #[(0, .agg (vec 2 (spE x)))]).run Try.prog w = .ok (.slice (some ⟨w.heap.size, 0, none⟩) 1 1) (w.alloc (.cells (vec 2 (spE x)) 49)) := by
  obtain ⟨i0, hi, hz0, hz1, hz2⟩ := info_parts info_span
  refine run_buildSlice (P := Try.prog) w 45 49 1 _ _ i0 (.agg (vec 2 (spE (0, 0)))) Try.underlying45 hi hz0 (by rw [hz1]; decide) (by rw [hz1]; decide) ?_
  rw [hz1]
  kernel_rfl
/-- Spans of the call's own. -/
abbrev OwnS (w : World) (base : Nat) (v : Value) (l : List Sp) : Prop := OwnE 49 2 spE w base v l
/-- One span more. -/
theorem app_span {w : World} {base : Nat} {v : Value} {l : List Sp} (x : Sp) (hown : OwnS w base v l) (hb : base ≤ w.heap.size) (hl : l.length ≤ 1000000) :
    ∃ B d w', (appS #[45, 45] 45 #[v, .slice (some ⟨w.heap.size, 0, none⟩) 1 1]).run Try.prog (w.alloc (.cells (vec 2 (spE x)) 49)) = .ok (.slice B (l.length + 1) d) w' ∧ OwnS w' base (.slice B (l.length + 1) d) (l ++ [x]) ∧ Below base w w' :=
  app_E (P := Try.prog) Try.underlying45 info_span (vec_size _ _) (by decide) (fun x => spE_one x 2) x hown hb hl (by decide) 45
/-- Spans are told: a row of the call's own. -/
def SpansP (l : List Sp) (w : World) (e : Ending) (w' : World) : Prop := ∃ v, e = .returned v ∧ OwnS w' w.heap.size v l ∧ Below w.heap.size w w'
end Go.Proofs.Ytgnihceefpijiaa
