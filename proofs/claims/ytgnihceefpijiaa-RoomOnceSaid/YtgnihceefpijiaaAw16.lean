/- portreevelaw16.awake: the chapter's example. -/
import Derived.Test.YtgnihceefpijiaaLw16
import Derived.Test.YtgnihceefpijiaaLg
namespace Go.Proofs.Ytgnihceefpijiaa
open Go.RowKit
attribute [local go_sem ↓ high] zeroCf

def aW0 : Wi := ⟨8192, 32768, 4096, 1⟩
def aW1 : Wi := ⟨4096, 36864, 4096, 1⟩
def aG (g : Nat) : GV := ⟨⟨[], false, 0, 0, 0, 0, 0, List.replicate 68 0, [aW0, aW1], [], [], []⟩, .slice (some ⟨g, 0, none⟩) 2 2, nilV, nilV, nilV⟩
def aX : Cf := ⟨0, [(aG 0).g], []⟩
def aM : List Mp := [⟨4096, 36864, 4096, 1, 0⟩, ⟨8192, 32768, 4096, 1, 0⟩]
theorem aX_maps : mapsP aX 0 = .ok aM := by kernel_rfl
theorem aX_few : fewC aX = true := by kernel_rfl
theorem info_win : (Try.prog.info? 64).map (fun i => (i.zero, i.size, i.bytes)) = some (some (.agg (vec 4 (winE zWi))), 4, 32) := by kernel_rfl
set_option maxRecDepth 100000 in
theorem info_gu : (Try.prog.info? 61).map (fun i => (i.zero, i.size)) = some (some (.agg (vec 79 (guestE zGV))), 79) := by kernel_rfl
def aC : Array Value := (cellsE 4 winE [aW0, aW1]).toArray
set_option maxRecDepth 100000 in
theorem build_wins (w : World) : (Instr.buildSlice 56 2 #[(0, .agg (vec 4 (winE aW0))), (1, .agg (vec 4 (winE aW1)))]).run Try.prog w = .ok (.slice (some ⟨w.heap.size, 0, none⟩) 2 2) (w.alloc (.cells aC 64)) := by
  obtain ⟨i0, hi, hz0, hz1, hz2⟩ := info_parts info_win
  refine run_buildSlice (P := Try.prog) w 56 64 2 _ _ i0 (.agg (vec 4 (winE zWi))) Try.underlying56 hi hz0 (by rw [hz1]; decide) (by rw [hz1]; decide) ?_
  rw [hz1]
  kernel_rfl
theorem own_wins (w : World) : OwnE 64 4 winE (w.alloc (.cells aC 64)) w.heap.size (.slice (some ⟨w.heap.size, 0, none⟩) 2 2) [aW0, aW1] := by
  have h := World.ownsRow_lit (base := w.heap.size) (e := 64) (size := 4) w aC 2 (Nat.le_refl _) (by decide) (by rfl)
  unfold OwnE
  exact h
set_option maxRecDepth 100000 in
theorem build_guests (g : Nat) (w : World) : (Instr.buildSlice 23 1 #[(0, .agg (vec 79 (guestE (aG g))))]).run Try.prog w = .ok (.slice (some ⟨w.heap.size, 0, none⟩) 1 1) (w.alloc (.cells (vec 79 (guestE (aG g))) 61)) := by
  obtain ⟨i0, hi, hz0, hz1⟩ : ∃ i, Try.prog.info? 61 = some i ∧ i.zero = some (.agg (vec 79 (guestE zGV))) ∧ i.size = 79 := by
    have h := info_gu
    cases hi : Try.prog.info? 61 with
    | none => rw [hi] at h; cases h
    | some i =>
      rw [hi] at h
      simp only [Option.map_some, Option.some.injEq, Prod.mk.injEq] at h
      exact ⟨i, rfl, h.1, h.2⟩
  refine run_buildSlice (P := Try.prog) w 23 61 1 _ _ i0 (.agg (vec 79 (guestE zGV))) Try.underlying23 hi hz0 (by rw [hz1]; decide) (by rw [hz1]; decide) ?_
  rw [hz1]
  kernel_rfl
theorem own_guest (g : Nat) (w : World) : OwnE 61 79 guestE (w.alloc (.cells (vec 79 (guestE (aG g))) 61)) w.heap.size (.slice (some ⟨w.heap.size, 0, none⟩) 1 1) [aG g] := by
  have h := World.ownsRow_lit (base := w.heap.size) (e := 61) (size := 79) w (vec 79 (guestE (aG g))) 1 (Nat.le_refl _) (by decide) (by rw [vec_size])
  unfold OwnE
  have e : (vec 79 (guestE (aG g))).toList = cellsE 79 guestE [aG g] := by rw [elC_vec]; simp [cellsE]
  rw [e] at h
  exact h
theorem aX_lies {w : World} {g h : Nat} {W : World} (h1 : OwnE 64 4 winE W w.heap.size (.slice (some ⟨g, 0, none⟩) 2 2) [aW0, aW1]) (h2 : OwnE 61 79 guestE W w.heap.size (.slice (some ⟨h, 0, none⟩) 1 1) [aG g]) : CfR W W.heap.size aX (.slice (some ⟨h, 0, none⟩) 1 1) nilV := by
  obtain ⟨A1, c1, e1, -, r1, -⟩ := h1.form
  obtain ⟨A2, c2, e2, -, r2, -⟩ := h2.form
  injection e1 with e1 _ f1
  injection e2 with e2 _ f2
  subst e1 f1 e2 f2
  refine ⟨⟨_, _, [aG g], rfl, rfl, ⟨r2, fun y hy => ?_⟩, by decide⟩, ⟨none, 0, rfl, fun h => absurd rfl h, by decide⟩⟩
  obtain rfl := List.mem_singleton.1 hy
  have h0 : 0 ≤ 9223372036854775807 := by decide
  exact ⟨⟨_, _, rfl, r1, (by decide : 2 ≤ 9223372036854775807)⟩, ⟨none, 0, rfl, fun h => absurd rfl h, h0⟩, ⟨none, 0, rfl, fun h => absurd rfl h, h0⟩, ⟨none, 0, rfl, fun h => absurd rfl h, h0⟩⟩
theorem aX_B : CfB aX := ⟨by unfold u32B; decide, fun y hy => by
  obtain rfl := List.mem_singleton.1 hy
  refine ⟨by unfold u32B; decide, by unfold u32B; decide, by unfold u32B; decide, by unfold u64B; decide, by unfold u64B; decide, by rfl, fun y hy => ?_, (fun y hy => by cases hy), (fun y hy => by cases hy), (fun y hy => by cases hy)⟩
  have hy2 : y ∈ [aW0, aW1] := hy
  rcases List.mem_cons.1 hy2 with rfl | h
  · unfold WiB u64B i64B; decide
  · obtain rfl := List.mem_singleton.1 h
    unfold WiB u64B i64B; decide, fun y hy => by cases hy⟩
theorem wl_bs2 {P : Program} {w w' : World} {ops : Array Oper} {rest : List Oper} {o : Oper} {a : Act} {Q : Exit → Act → World → Prop} (hg : o.guard = none) {t : TypeId} {n : Nat} (y z : Operand) (ho : o.op = .buildSlice t n #[(0, y), (1, z)]) (v0 v1 : Value) (hy : a.eval y = v0) (hz : a.eval z = v1) {v : Value} (hr : (Instr.buildSlice t n #[(0, v0), (1, v1)]).run P w = .ok v w')
    (h : wpList P ops Q rest (a.put o.dst v) w') : wpList P ops Q (o :: rest) a w :=
  wpList_plain hg fun K hK => by
    unfold Oper.wp execOp
    subst hy hz
    simp only [ho, Sem.run_bind, List.map_toArray, List.map_cons, List.map_nil, hr, Result.andThen_ok, Sem.run_pure]
    exact hK _ _ h
set_option maxHeartbeats 2000000 in
set_option maxRecDepth 100000 in
theorem awake16_any (HCM : CodeMaps) : Awake16 := fun w => by
  obtain ⟨w1, hw1⟩ : ∃ W, W = w.alloc (.cells aC 64) := ⟨_, rfl⟩
  obtain ⟨g, hg⟩ : ∃ g, g = w.heap.size := ⟨_, rfl⟩
  obtain ⟨w2, hw2⟩ : ∃ W, W = w1.alloc (.cells (vec 79 (guestE (aG g))) 61) := ⟨_, rfl⟩
  obtain ⟨h, hh⟩ : ∃ h, h = w1.heap.size := ⟨_, rfl⟩
  have hb1 : (Instr.buildSlice 56 2 #[(0, .agg (vec 4 (winE aW0))), (1, .agg (vec 4 (winE aW1)))]).run Try.prog w = .ok (.slice (some ⟨g, 0, none⟩) 2 2) w1 := by rw [hw1, hg]; exact build_wins w
  have hb2 : (Instr.buildSlice 23 1 #[(0, .agg (vec 79 (guestE (aG g))))]).run Try.prog w1 = .ok (.slice (some ⟨h, 0, none⟩) 1 1) w2 := by rw [hw2, hh]; exact build_guests g w1
  have b1 : Below w.heap.size w w1 := by rw [hw1]; exact (Below.refl _ _).alloc (Nat.le_refl _) _
  have b2 : Below w1.heap.size w1 w2 := by rw [hw2]; exact (Below.refl _ _).alloc (Nat.le_refl _) _
  have o1 : OwnE 64 4 winE w1 w.heap.size (.slice (some ⟨g, 0, none⟩) 2 2) [aW0, aW1] := by rw [hw1, hg]; exact own_wins w
  have o2 : OwnE 61 79 guestE w2 w1.heap.size (.slice (some ⟨h, 0, none⟩) 1 1) [aG g] := by rw [hw2, hh]; exact own_guest g w1
  have hcf := aX_lies (w := w) (o1.on b2 (Nat.le_refl _)) (o2.low b1.size)
  obtain ⟨r, hr⟩ : ∃ r, r = w2.heap.size := ⟨_, rfl⟩
  obtain ⟨X, hX⟩ : ∃ X, X = (w2.alloc (.cells (vec 3 (cfE 0 nilV nilV)) 26)).setRow w2.heap.size (vec 3 (cfE 0 (.slice (some ⟨h, 0, none⟩) 1 1) nilV)) := ⟨_, rfl⟩
  have b3 : Below w2.heap.size w2 X := by rw [hX]; exact below_row ((Below.refl _ _).alloc (Nat.le_refl _) _) (Nat.le_refl _) _
  have a3 : Arr X r 26 3 (cfE 0 (.slice (some ⟨h, 0, none⟩) 1 1) nilV) := by rw [hX, hr]; exact (Arr.new w2 _ _ _).row _
  have bX : Below w.heap.size w X := (b1.trans (b2.mono b1.size)).trans (b3.mono (Nat.le_trans b1.size b2.size))
  have HM : Hid (Calls Try.prog 9 #[.agg (vec 3 (cfE 0 (.slice (some ⟨h, 0, none⟩) 1 1) nilV)), .int .i64 0] X (fun e w' => ∃ v, e = .returned (.tuple #[v, .int .i64 0]) ∧ OwnM w' X.heap.size v aM ∧ Below X.heap.size X w')) := Lib.hid (by
    have hm := HCM aX (.slice (some ⟨h, 0, none⟩) 1 1) nilV 0 X (hcf.up b3) aX_B aX_few
    rw [aX_maps] at hm
    exact hm)
  have HX := Lib.hid hX
  have HRR := Lib.hid hr
  have HA := Lib.hid a3
  have HBX := Lib.hid bX
  clear HCM hw1 hg hw2 hh b1 b2 o1 o2 hcf hr hX b3 a3 bX
  go_enter Try.func7, Try.ntmps7
  go_upto_region 2 with (first
    | ((with_reducible show wpList _ _ _ (Oper.mk _ (.build 64 #[(0, .const (.int .u64 8192)), _, _, _]) _ _ _ _ :: _) _ _); refine wl_build rfl 64 _ rfl (vec 4 (winE aW0)) (by kernel_rfl) ?_)
    | ((with_reducible show wpList _ _ _ (Oper.mk _ (.build 64 #[(0, .const (.int .u64 4096)), _, _, _]) _ _ _ _ :: _) _ _); refine wl_build rfl 64 _ rfl (vec 4 (winE aW1)) (by kernel_rfl) ?_)
    | ((with_reducible show wpList _ _ _ (Oper.mk _ (.buildSlice _ 2 _) _ _ _ _ :: _) _ _); refine wl_bs2 rfl _ _ rfl (.agg (vec 4 (winE aW0))) (.agg (vec 4 (winE aW1))) rfl rfl hb1 ?_)
    | ((with_reducible show wpList _ _ _ (Oper.mk _ (.build 61 _) _ _ _ _ :: _) _ _); refine wl_build rfl 61 _ rfl (vec 79 (guestE (aG g))) (by kernel_rfl) ?_)
    | ((with_reducible show wpList _ _ _ (Oper.mk _ (.buildSlice _ 1 _) _ _ _ _ :: _) _ _); refine wl_bs1 rfl _ rfl (.agg (vec 79 (guestE (aG g)))) rfl hb2 ?_)
    | ((with_reducible show wpList _ _ _ (Oper.mk _ (.build 26 _) _ _ _ _ :: _) _ _); refine wl_build rfl 26 _ rfl (vec 3 (cfE 0 (.slice (some ⟨h, 0, none⟩) 1 1) nilV)) (by kernel_rfl) ?_)
    | ((with_reducible show wpList _ _ _ (Oper.mk _ (.store _ _ _) _ _ _ _ :: _) _ _); refine wl_store rfl 26 _ _ rfl _ rfl _ rfl (run_store_arr (Arr.new w2 _ _ _) (cfE 0 (.slice (some ⟨h, 0, none⟩) 1 1) nilV) infoCf (cfE_one _ _ _ rfl rfl _)) ?_))
  rw [← HX.out, ← HRR.out]
  clear HX HRR hb1 hb2
  go_upto_region 3 with (first
    | ((with_reducible show wpList _ _ _ (Oper.mk _ (.load _ _) _ _ _ _ :: _) _ _); refine wl_load rfl 26 _ rfl _ rfl _ (run_load_arr HA.out Try.underlying26 rfl infoCf) ?_)
    | (go_at_call 9; refine HM.out.mono ?_; rintro e w3 ⟨v, rfl, ho, hd⟩; obtain ⟨A, c, rfl, -, hr, -⟩ := ho.form; have HR := Lib.hid hr; have HD := Lib.hid (HBX.out.trans (hd.mono HBX.out.size)); clear hd ho hr))
  obtain ⟨a, rfl, -, hcell⟩ := HR.out (by decide)
  have c0 : w3.cell? a = some (.int .u64 4096) := by
    have := hcell 0 (by decide) 0 (by decide)
    have e0 : a.add (0 * 5 + 0) = a := by simp [Addr.add]
    rw [e0] at this; exact this
  have c1 : w3.cell? ⟨a.block, a.off + 1, none⟩ = some (.int .u64 36864) := hcell 0 (by decide) 1 (by decide)
  have e0 : a.add 0 = a := by simp [Addr.add]
  have hl : aM.length = 2 := rfl
  clear hcell
  go_wp2_with fail
  go_ret
  exact ⟨rfl, HD.out⟩
end Go.Proofs.Ytgnihceefpijiaa
