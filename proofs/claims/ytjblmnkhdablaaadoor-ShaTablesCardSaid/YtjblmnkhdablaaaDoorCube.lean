/- portreeveref03.cube, portreeveref03.Root3. -/
import Derived.Test.YtjblmnkhdablaaaDoorCubeP
import Derived.Test.YtjblmnkhdablaaaDoorRTab
import Derived.Deep.Cut
namespace Go.Proofs.YtjblmnkhdablaaaDoor
open Go.RowKit
def nil0 : Nat → Nat := fun _ => 0
theorem built71 (a b c : Int) : Program.built Tryd.prog 71 [(0, .int .u64 a), (1, .int .u64 b), (2, .int .u64 c), (3, .int .u64 0)] = some #[.int .u64 a, .int .u64 b, .int .u64 c, .int .u64 0] := by
  obtain ⟨i1, h1, z1⟩ : ∃ i, Tryd.prog.info? 71 = some i ∧ i.zero = some (.agg #[.int .u64 0, .int .u64 0, .int .u64 0, .int .u64 0]) := by
    have h : (Tryd.prog.info? 71).map (·.zero) = some (some (.agg #[.int .u64 0, .int .u64 0, .int .u64 0, .int .u64 0])) := by kernel_rfl
    cases hq : Tryd.prog.info? 71 with
    | none => simp [hq] at h
    | some i => exact ⟨i, rfl, by simpa [hq] using h⟩
  obtain ⟨i2, h2, z2⟩ : ∃ i, Tryd.prog.info? 43 = some i ∧ i.size = 1 := by
    have h : (Tryd.prog.info? 43).map (·.size) = some 1 := by kernel_rfl
    cases hq : Tryd.prog.info? 43 with
    | none => simp [hq] at h
    | some i => exact ⟨i, rfl, by simpa [hq] using h⟩
  unfold Program.built
  rw [h1, Tryd.underlying71]
  simp only [z1, h2, z2]
  rfl
theorem info71 : (Tryd.prog.info? 71).map (·.size) = some 4 := by kernel_rfl
theorem zeroV71 (w : World) : (zeroValue 71).run Tryd.prog w = .ok (.agg (vec 4 (u64f nil0))) w :=
  (zero_of_info (P := Tryd.prog) (t := 71) (v := .agg (vec 4 (u64f nil0))) (n := 4) (by kernel_rfl)).1 w
theorem zeroV72 (w : World) : (zeroValue 72).run Tryd.prog w = .ok (.agg (vec 5 (u64f nil0))) w :=
  (zero_of_info (P := Tryd.prog) (t := 72) (v := .agg (vec 5 (u64f nil0))) (n := 5) (by kernel_rfl)).1 w
theorem built71v (a b c : Nat) : Program.built Tryd.prog 71 [(0, .int .u64 (a : Int)), (1, .int .u64 (b : Int)), (2, .int .u64 (c : Int)), (3, .int .u64 0)] = some (vec 4 (u64f (q4 a b c 0))) :=
  (built71 a b c).trans (congrArg some (by rfl))
theorem u64f_one (c : Nat → Nat) (n : Nat) : ∀ i, i < n → (u64f c i).oneCell' = true := fun _ _ => rfl
theorem vec_one (c : Nat → Nat) (n : Nat) : (vec n (u64f c)).all (·.oneCell') = true := by
  rw [Array.all_eq_true_iff_forall_mem]
  intro v hv
  simp [vec] at hv
  obtain ⟨i, hi, rfl⟩ := hv
  rfl
attribute [local go_sem ↓ high] zeroV71 zeroV72
attribute [local go_sem] vec_size

set_option maxHeartbeats 4000000 in
set_option maxRecDepth 100000 in
theorem cube_any (x p : Nat) (hx : x < 34359738368) (hp : p ≤ 311) (w : World) :
    Calls Tryd.prog 38 #[.int .u64 (x : Int), .int .u64 (p : Int)] w fun e w' => e = .returned (.bool (fit3 p x)) ∧ Below w.heap.size w w' := by
  obtain ⟨zz, hzz⟩ : ∃ zz, zz = fit3 p x := ⟨_, rfl⟩
  rw [← hzz]
  have HZ := Lib.hid hzz
  clear hzz
  obtain ⟨a, ha⟩ : ∃ a, a = x % 4294967296 := ⟨_, rfl⟩
  obtain ⟨b, hb⟩ : ∃ b, b = x / 4294967296 := ⟨_, rfl⟩
  obtain ⟨aa, haa⟩ : ∃ aa, aa = a * a := ⟨_, rfl⟩
  obtain ⟨ab, hab⟩ : ∃ ab, ab = a * b := ⟨_, rfl⟩
  obtain ⟨bb, hbb⟩ : ∃ bb, bb = b * b := ⟨_, rfl⟩
  have ba : a < 4294967296 := by omega
  have bb8 : b < 8 := by omega
  have baa : aa ≤ 4294967295 * 4294967295 := by rw [haa]; exact Nat.mul_le_mul (by omega) (by omega)
  have bab : ab ≤ 4294967295 * 7 := by rw [hab]; exact Nat.mul_le_mul (by omega) (by omega)
  have bbb : bb ≤ 7 * 7 := by rw [hbb]; exact Nat.mul_le_mul (by omega) (by omega)
  obtain ⟨q0, hq0⟩ : ∃ q0, q0 = aa % 4294967296 := ⟨_, rfl⟩
  obtain ⟨ah, hah⟩ : ∃ ah, ah = aa / 4294967296 := ⟨_, rfl⟩
  obtain ⟨al, hal⟩ : ∃ al, al = ab % 4294967296 := ⟨_, rfl⟩
  obtain ⟨al2, hal2⟩ : ∃ al2, al2 = 2 * al := ⟨_, rfl⟩
  obtain ⟨r1, hr1⟩ : ∃ r1, r1 = ah + al2 := ⟨_, rfl⟩
  obtain ⟨bh, hbh⟩ : ∃ bh, bh = ab / 4294967296 := ⟨_, rfl⟩
  obtain ⟨bh2, hbh2⟩ : ∃ bh2, bh2 = 2 * bh := ⟨_, rfl⟩
  obtain ⟨r2, hr2⟩ : ∃ r2, r2 = bh2 + bb := ⟨_, rfl⟩
  obtain ⟨h1, hh1⟩ : ∃ h1, h1 = r1 / 4294967296 := ⟨_, rfl⟩
  obtain ⟨q2, hq2⟩ : ∃ q2, q2 = r2 + h1 := ⟨_, rfl⟩
  obtain ⟨q1, hq1⟩ : ∃ q1, q1 = r1 % 4294967296 := ⟨_, rfl⟩
  have hq2s : q2 < 4294967296 := by omega
  have hval := cube_val x a b aa ab bb (by omega) haa hab hbb q0 q1 q2 hq0 (by omega) (by omega)
  have ea : bits BinOp.and .u64 (x : Int) 4294967295 = (a : Int) := by rw [ha]; exact mask32 x (by omega)
  have eb : (x : Int) / 4294967296 = (b : Int) := by omega
  have eaa : (a : Int) * (a : Int) = (aa : Int) := by rw [haa]; exact mulC a a
  have waa : IntKind.u64.wrap (aa : Int) = (aa : Int) := wrap64 aa (by omega)
  have eq0 : bits BinOp.and .u64 (aa : Int) 4294967295 = (q0 : Int) := by rw [hq0]; exact mask32 aa (by omega)
  have eah : (aa : Int) / 4294967296 = (ah : Int) := by omega
  have eab : (a : Int) * (b : Int) = (ab : Int) := by rw [hab]; exact mulC a b
  have wab : IntKind.u64.wrap (ab : Int) = (ab : Int) := wrap64 ab (by omega)
  have eal : bits BinOp.and .u64 (ab : Int) 4294967295 = (al : Int) := by rw [hal]; exact mask32 ab (by omega)
  have eal2 : IntKind.u64.wrap (2 * (al : Int)) = (al2 : Int) := by rw [IntKind.wrap_u64]; omega
  have er1 : IntKind.u64.wrap ((ah : Int) + (al2 : Int)) = (r1 : Int) := by rw [IntKind.wrap_u64]; omega
  have ebh : (ab : Int) / 4294967296 = (bh : Int) := by omega
  have ebh2 : IntKind.u64.wrap (2 * (bh : Int)) = (bh2 : Int) := by rw [IntKind.wrap_u64]; omega
  have ebb : (b : Int) * (b : Int) = (bb : Int) := by rw [hbb]; exact mulC b b
  have wbb : IntKind.u64.wrap (bb : Int) = (bb : Int) := wrap64 bb (by omega)
  have er2 : IntKind.u64.wrap ((bh2 : Int) + (bb : Int)) = (r2 : Int) := by rw [IntKind.wrap_u64]; omega
  have eh1 : (r1 : Int) / 4294967296 = (h1 : Int) := by omega
  have eq2 : IntKind.u64.wrap ((r2 : Int) + (h1 : Int)) = (q2 : Int) := by rw [IntKind.wrap_u64]; omega
  have eq1 : bits BinOp.and .u64 (r1 : Int) 4294967295 = (q1 : Int) := by rw [hq1]; exact mask32 r1 (by omega)
  have eq3 : (q2 : Int) / 4294967296 = 0 := by omega
  have eq2b : bits BinOp.and .u64 (q2 : Int) 4294967295 = (q2 : Int) := by
    have := mask32 q2 (by omega)
    rwa [Nat.mod_eq_of_lt hq2s] at this
  obtain ⟨q, hq⟩ : ∃ q, q = q4 q0 q1 q2 0 := ⟨_, rfl⟩
  have hqs : ∀ i, q i < 4294967296 := fun i => by
    rw [hq]; unfold q4
    split
    · omega
    · split
      · omega
      · split <;> omega
  rw [← hq] at hval
  have HQ := Lib.hid (And.intro hval (And.intro hqs (And.intro hq (And.intro ba (And.intro bb8 hp)))))
  obtain ⟨V0, hV0⟩ : ∃ V0, V0 = w.alloc (.cells (vec 4 (u64f (q4 q0 r1 r2 0))) 71) := ⟨_, rfl⟩
  have hA : Arr V0 w.heap.size 71 4 (u64f (q4 q0 r1 r2 0)) := by rw [hV0]; exact Arr.new w _ _ _
  have hB : Below w.heap.size w V0 := by rw [hV0]; exact (Below.refl _ _).alloc (Nat.le_refl _) _
  have HS := run_storeCells_new (P := Tryd.prog) w 71 (vec 4 (u64f nil0)) (vec 4 (u64f (q4 q0 r1 r2 0))) info71 (by rw [vec_size, vec_size]) (vec_one _ _)
  have HV := Lib.hid hV0
  have HAB := Lib.hid (And.intro hA hB)
  clear ha hb haa hab hbb baa bab bbb hq0 hah hal hal2 hr1 hbh hbh2 hr2 hh1 hq2 hq1 hq2s hval hqs hq ba bb8 hV0 hA hB
  go_enter Tryd.func38, Tryd.ntmps38
  go_upto_region 3 with (with_reducible refine wl_build rfl 71 _ rfl (vec 4 (u64f (q4 q0 r1 r2 0))) ?hb ?_)
  case hb => exact built71v q0 r1 r2
  clear ea eaa waa eq0 eah eab wab eal eal2 er1 ebh ebh2 ebb wbb er2
  (try simp only [Act.put])
  rw [← HV.out]
  clear HV HS
  obtain ⟨hA, hB⟩ := HAB.out
  have c1 : V0.cell? ⟨w.heap.size, 1, none⟩ = some (.int .u64 (r1 : Nat)) := hA.cell (i := 1) (by decide)
  have c2 : V0.cell? ⟨w.heap.size, 2, none⟩ = some (.int .u64 (r2 : Nat)) := hA.cell (i := 2) (by decide)
  have hf := hA.frozen 2
  clear hA hB
  go_upto_region 4 with fail
  clear hf c1 c2
  obtain ⟨V1, hV⟩ : ∃ V1, V1 = V0.setCell ⟨w.heap.size, 2, none⟩ (.int .u64 (q2 : Int)) := ⟨_, rfl⟩
  have hA2 : Arr V1 w.heap.size 71 4 (u64f (q4 q0 r1 q2 0)) := by
    rw [hV]
    exact (HAB.out.1.set 2 _).congr (fun i hi => by
      have h : i = 0 ∨ i = 1 ∨ i = 2 ∨ i = 3 := by omega
      rcases h with rfl | rfl | rfl | rfl <;> rfl)
  have hB2 : Below w.heap.size w V1 := by rw [hV]; exact HAB.out.2.setCell (Nat.le_refl _) _
  (try simp only [Act.put])
  rw [← hV]
  replace HAB := Lib.hid (And.intro hA2 hB2)
  clear hV hA2 hB2
  obtain ⟨hA, hB⟩ := HAB.out
  have c1 : V1.cell? ⟨w.heap.size, 1, none⟩ = some (.int .u64 (r1 : Nat)) := hA.cell (i := 1) (by decide)
  have hf := hA.frozen 1
  clear hA hB
  go_upto_region 5 with fail
  clear hf c1
  obtain ⟨V2, hV⟩ : ∃ V2, V2 = V1.setCell ⟨w.heap.size, 1, none⟩ (.int .u64 (q1 : Int)) := ⟨_, rfl⟩
  have hA2 : Arr V2 w.heap.size 71 4 (u64f (q4 q0 q1 q2 0)) := by
    rw [hV]
    exact (HAB.out.1.set 1 _).congr (fun i hi => by
      have h : i = 0 ∨ i = 1 ∨ i = 2 ∨ i = 3 := by omega
      rcases h with rfl | rfl | rfl | rfl <;> rfl)
  have hB2 : Below w.heap.size w V2 := by rw [hV]; exact HAB.out.2.setCell (Nat.le_refl _) _
  (try simp only [Act.put])
  rw [← hV]
  replace HAB := Lib.hid (And.intro hA2 hB2)
  clear hV hA2 hB2
  obtain ⟨hA, hB⟩ := HAB.out
  have c2 : V2.cell? ⟨w.heap.size, 2, none⟩ = some (.int .u64 (q2 : Nat)) := hA.cell (i := 2) (by decide)
  have c3 : V2.cell? ⟨w.heap.size, 3, none⟩ = some (.int .u64 (0 : Nat)) := hA.cell (i := 3) (by decide)
  have hf := hA.frozen 3
  clear hA hB
  go_upto_region 6 with fail
  clear hf c2 c3
  obtain ⟨V3, hV⟩ : ∃ V3, V3 = V2.setCell ⟨w.heap.size, 3, none⟩ (.int .u64 0) := ⟨_, rfl⟩
  have hA2 : Arr V3 w.heap.size 71 4 (u64f (q4 q0 q1 q2 0)) := by
    rw [hV]
    exact (HAB.out.1.set 3 _).congr (fun i hi => by
      have h : i = 0 ∨ i = 1 ∨ i = 2 ∨ i = 3 := by omega
      rcases h with rfl | rfl | rfl | rfl <;> rfl)
  have hB2 : Below w.heap.size w V3 := by rw [hV]; exact HAB.out.2.setCell (Nat.le_refl _) _
  (try simp only [Act.put])
  rw [← hV]
  replace HAB := Lib.hid (And.intro hA2 hB2)
  clear hV hA2 hB2
  obtain ⟨hA, hB⟩ := HAB.out
  have c2 : V3.cell? ⟨w.heap.size, 2, none⟩ = some (.int .u64 (q2 : Nat)) := hA.cell (i := 2) (by decide)
  have hf := hA.frozen 2
  clear hA hB
  go_upto_region 7 with fail
  clear hf c2
  obtain ⟨V4, hV⟩ : ∃ V4, V4 = V3.setCell ⟨w.heap.size, 2, none⟩ (.int .u64 (q2 : Int)) := ⟨_, rfl⟩
  have hA2 : Arr V4 w.heap.size 71 4 (u64f (q4 q0 q1 q2 0)) := by
    rw [hV]
    exact (HAB.out.1.set 2 _).congr (fun i hi => by
      have h : i = 0 ∨ i = 1 ∨ i = 2 ∨ i = 3 := by omega
      rcases h with rfl | rfl | rfl | rfl <;> rfl)
  have hB2 : Below w.heap.size w V4 := by rw [hV]; exact HAB.out.2.setCell (Nat.le_refl _) _
  (try simp only [Act.put])
  rw [← hV]
  replace HAB := Lib.hid (And.intro hA2 hB2)
  clear hV hA2 hB2
  rw [← HQ.out.2.2.1] at HAB
  clear eb eh1 eq2 eq1 eq3 eq2b
  obtain ⟨g8, hg8⟩ : ∃ g8, g8 = V4.heap.size := ⟨_, rfl⟩
  obtain ⟨U, hU⟩ : ∃ U, U = V4.alloc (.cells (vec 5 (u64f nil0)) 72) := ⟨_, rfl⟩
  have hne : w.heap.size < g8 := by rw [hg8]; exact HAB.out.1.lt
  have HI : Hid (Arr U w.heap.size 71 4 (u64f q) ∧ Arr U g8 72 5 (u64f (cs q a b 0)) ∧ Below w.heap.size w U) := by
    refine Lib.hid ⟨by rw [hU]; exact HAB.out.1.alloc _, ?_, by rw [hU]; exact HAB.out.2.alloc HAB.out.2.size _⟩
    rw [hU, hg8]; exact Arr.new V4 _ _ _
  have HU := Lib.hid (And.intro hU hg8)
  clear hU hg8
  go_wp2
  rw [← HU.out.1, ← HU.out.2]
  clear HU HAB
  go_loopw [9] (fun u W => ∃ i : Nat, i ≤ 4 ∧ u = .int .i64 i ∧ Arr W w.heap.size 71 4 (u64f q) ∧ Arr W g8 72 5 (u64f (cs q a b i)) ∧ Below w.heap.size w W) (fun u _ => 4 - (intOf u).toNat)
  case atStart => exact ⟨0, by decide, rfl, HI.out⟩
  case round =>
    obtain ⟨i, hi, rfl, hA, hC, hB⟩ := hrel
    clear HI
    by_cases hlt : i < 4
    · obtain ⟨d, hd⟩ : ∃ d, d = cs q a b i := ⟨_, rfl⟩
      have hdl : ∀ j, d j ≤ 68719476736 := fun j => by
        rw [hd]; have := cs_le q a b HQ.out.2.1 HQ.out.2.2.2.1 HQ.out.2.2.2.2.1 i hi j; omega
      rw [← hd] at hC
      obtain ⟨t, ht⟩ : ∃ t, t = q i := ⟨_, rfl⟩
      have ht32 : t < 4294967296 := by rw [ht]; exact HQ.out.2.1 i
      have ha32 := HQ.out.2.2.2.1
      have hb8 := HQ.out.2.2.2.2.1
      obtain ⟨m1, hm1⟩ : ∃ m1, m1 = t * a := ⟨_, rfl⟩
      obtain ⟨m2, hm2⟩ : ∃ m2, m2 = t * b := ⟨_, rfl⟩
      have bm1 : m1 ≤ 4294967295 * 4294967295 := by rw [hm1]; exact Nat.mul_le_mul (by omega) (by omega)
      have bm2 : m2 ≤ 4294967295 * 7 := by rw [hm2]; exact Nat.mul_le_mul (by omega) (by omega)
      obtain ⟨lo1, hlo1⟩ : ∃ z, z = m1 % 4294967296 := ⟨_, rfl⟩
      obtain ⟨hi1, hhi1⟩ : ∃ z, z = m1 / 4294967296 := ⟨_, rfl⟩
      obtain ⟨lo2, hlo2⟩ : ∃ z, z = m2 % 4294967296 := ⟨_, rfl⟩
      obtain ⟨hi2, hhi2⟩ : ∃ z, z = m2 / 4294967296 := ⟨_, rfl⟩
      obtain ⟨x1, hx1⟩ : ∃ z, z = d i := ⟨_, rfl⟩
      obtain ⟨y1, hy1⟩ : ∃ z, z = x1 + lo1 := ⟨_, rfl⟩
      obtain ⟨d1, hd1⟩ : ∃ z, z = upd d i y1 := ⟨_, rfl⟩
      obtain ⟨x2, hx2⟩ : ∃ z, z = d1 (i + 1) := ⟨_, rfl⟩
      obtain ⟨y2, hy2⟩ : ∃ z, z = x2 + hi1 := ⟨_, rfl⟩
      obtain ⟨d2, hd2⟩ : ∃ z, z = upd d1 (i + 1) y2 := ⟨_, rfl⟩
      obtain ⟨x3, hx3⟩ : ∃ z, z = d2 (i + 1) := ⟨_, rfl⟩
      obtain ⟨y3, hy3⟩ : ∃ z, z = x3 + lo2 := ⟨_, rfl⟩
      obtain ⟨d3, hd3⟩ : ∃ z, z = upd d2 (i + 1) y3 := ⟨_, rfl⟩
      obtain ⟨x4, hx4⟩ : ∃ z, z = d3 (i + 2) := ⟨_, rfl⟩
      obtain ⟨y4, hy4⟩ : ∃ z, z = x4 + hi2 := ⟨_, rfl⟩
      obtain ⟨d4, hd4⟩ : ∃ z, z = upd d3 (i + 2) y4 := ⟨_, rfl⟩
      have hstep : cs q a b (i + 1) = if i < 3 then d4 else d2 := by
        rw [hd4, hy4, hx4, hd3, hy3, hx3, hd2, hy2, hx2, hd1, hy1, hx1, hlo1, hhi1, hlo2, hhi2, hm1, hm2, ht, hd]
        rfl
      have s1 : ∀ j, d1 j ≤ 68719476736 + 4294967296 := by rw [hd1, hy1, hx1]; exact upd_le i hdl (by omega)
      have s2 : ∀ j, d2 j ≤ 68719476736 + 4294967296 + 4294967296 := by rw [hd2, hy2, hx2]; exact upd_le (i + 1) s1 (by omega)
      have s3 : ∀ j, d3 j ≤ 68719476736 + 4294967296 + 4294967296 + 4294967296 := by rw [hd3, hy3, hx3]; exact upd_le (i + 1) s2 (by omega)
      have bx1 : x1 ≤ 68719476736 := by rw [hx1]; exact hdl i
      have bx2 : x2 ≤ 68719476736 + 4294967296 := by rw [hx2]; exact s1 _
      have bx3 : x3 ≤ 68719476736 + 4294967296 + 4294967296 := by rw [hx3]; exact s2 _
      have bx4 : x4 ≤ 68719476736 + 4294967296 + 4294967296 + 4294967296 := by rw [hx4]; exact s3 _
      have em1 : (t : Int) * (a : Int) = (m1 : Int) := by rw [hm1]; exact mulC t a
      have wm1 : IntKind.u64.wrap (m1 : Int) = (m1 : Int) := wrap64 m1 (by omega)
      have em2 : (t : Int) * (b : Int) = (m2 : Int) := by rw [hm2]; exact mulC t b
      have wm2 : IntKind.u64.wrap (m2 : Int) = (m2 : Int) := wrap64 m2 (by omega)
      have el1 : bits BinOp.and .u64 (m1 : Int) 4294967295 = (lo1 : Int) := by rw [hlo1]; exact mask32 m1 (by omega)
      have el2 : bits BinOp.and .u64 (m2 : Int) 4294967295 = (lo2 : Int) := by rw [hlo2]; exact mask32 m2 (by omega)
      have eh1 : (m1 : Int) / 4294967296 = (hi1 : Int) := by omega
      have eh2 : (m2 : Int) / 4294967296 = (hi2 : Int) := by omega
      have ey1 : IntKind.u64.wrap ((x1 : Int) + (lo1 : Int)) = (y1 : Int) := by rw [IntKind.wrap_u64]; omega
      have ey2 : IntKind.u64.wrap ((x2 : Int) + (hi1 : Int)) = (y2 : Int) := by rw [IntKind.wrap_u64]; omega
      have ey3 : IntKind.u64.wrap ((x3 : Int) + (lo2 : Int)) = (y3 : Int) := by rw [IntKind.wrap_u64]; omega
      have ey4 : IntKind.u64.wrap ((x4 : Int) + (hi2 : Int)) = (y4 : Int) := by rw [IntKind.wrap_u64]; omega
      have HE1 := Lib.hid (And.intro em1 wm1)
      have HE2 := Lib.hid (And.intro el1 ey1)
      have HE3 := Lib.hid (And.intro eh1 ey2)
      have HE4 := Lib.hid (And.intro em2 wm2)
      have HE5 := Lib.hid (And.intro el2 ey3)
      have HE6 := Lib.hid (And.intro eh2 ey4)
      have HX1 := Lib.hid (And.intro hx1 hd1)
      have HX2 := Lib.hid (And.intro hx2 hd2)
      have HX3 := Lib.hid (And.intro hx3 hd3)
      have HX4 := Lib.hid (And.intro hx4 hd4)
      have HT := Lib.hid ht
      have HStep := Lib.hid hstep
      have HS0 := Lib.hid (And.intro hA (And.intro hC hB))
      obtain ⟨W0, rfl⟩ : ∃ W0 : World, W0 = wr := ⟨_, rfl⟩
      clear hd hdl ht ht32 ha32 hb8 hm1 hm2 bm1 bm2 hlo1 hhi1 hlo2 hhi2 hx1 hy1 hd1 hx2 hy2 hd2 hx3 hy3 hd3 hx4 hy4 hd4 hstep s1 s2 s3 bx1 bx2 bx3 bx4 em1 wm1 em2 wm2 el1 el2 eh1 eh2 ey1 ey2 ey3 ey4 hA hC hB
      have cq : W0.cell? ⟨w.heap.size, i, none⟩ = some (.int .u64 (t : Int)) := by rw [HT.out]; exact HS0.out.1.cell hlt
      obtain ⟨e1, e2⟩ := HE1.out
      go_upto_region 12 with fail
      clear cq e1 e2
      have cx : W0.cell? ⟨g8, i, none⟩ = some (.int .u64 (x1 : Int)) := by rw [HX1.out.1]; exact HS0.out.2.1.cell (i := i) (by omega)
      have hf := HS0.out.2.1.frozen (i)
      obtain ⟨e1, e2⟩ := HE2.out
      go_upto_region 13 with fail
      clear cx hf e1 e2
      obtain ⟨W1, hV⟩ : ∃ W1, W1 = W0.setCell ⟨g8, i, none⟩ (.int .u64 (y1 : Int)) := ⟨_, rfl⟩
      have hA2 : Arr W1 w.heap.size 71 4 (u64f q) := by rw [hV]; exact HS0.out.1.far (Nat.ne_of_lt hne) _
      have hC2 : Arr W1 g8 72 5 (u64f d1) := by rw [hV, HX1.out.2, ← u64f_upd]; exact HS0.out.2.1.set (i) _
      have hB2 : Below w.heap.size w W1 := by rw [hV]; exact HS0.out.2.2.setCell (Nat.le_of_lt hne) _
      (try simp only [Act.put])
      rw [← hV]
      have HS1 := Lib.hid (And.intro hA2 (And.intro hC2 hB2))
      clear hV hA2 hC2 hB2
      have cx : W1.cell? ⟨g8, i + 1, none⟩ = some (.int .u64 (x2 : Int)) := by rw [HX2.out.1]; exact HS1.out.2.1.cell (i := i + 1) (by omega)
      have hf := HS1.out.2.1.frozen (i + 1)
      obtain ⟨e1, e2⟩ := HE3.out
      go_upto_region 14 with fail
      clear cx hf e1 e2
      obtain ⟨W2, hV⟩ : ∃ W2, W2 = W1.setCell ⟨g8, i + 1, none⟩ (.int .u64 (y2 : Int)) := ⟨_, rfl⟩
      have hA2 : Arr W2 w.heap.size 71 4 (u64f q) := by rw [hV]; exact HS1.out.1.far (Nat.ne_of_lt hne) _
      have hC2 : Arr W2 g8 72 5 (u64f d2) := by rw [hV, HX2.out.2, ← u64f_upd]; exact HS1.out.2.1.set (i + 1) _
      have hB2 : Below w.heap.size w W2 := by rw [hV]; exact HS1.out.2.2.setCell (Nat.le_of_lt hne) _
      (try simp only [Act.put])
      rw [← hV]
      have HS2 := Lib.hid (And.intro hA2 (And.intro hC2 hB2))
      clear hV hA2 hC2 hB2
      by_cases h3 : i < 3
      · have hE : cs q a b (i + 1) = d4 := by rw [HStep.out, if_pos h3]
        have HEq := Lib.hid hE
        have ht5 : (i : Int) + 2 < 5 := by omega
        have cq : W2.cell? ⟨w.heap.size, i, none⟩ = some (.int .u64 (t : Int)) := by rw [HT.out]; exact HS2.out.1.cell hlt
        obtain ⟨e1, e2⟩ := HE4.out
        clear hE
        go_upto_region 16 with fail
        clear cq e1 e2 ht5
        have cx : W2.cell? ⟨g8, i + 1, none⟩ = some (.int .u64 (x3 : Int)) := by rw [HX3.out.1]; exact HS2.out.2.1.cell (i := i + 1) (by omega)
        have hf := HS2.out.2.1.frozen (i + 1)
        obtain ⟨e1, e2⟩ := HE5.out
        go_upto_region 17 with fail
        clear cx hf e1 e2
        obtain ⟨W3, hV⟩ : ∃ W3, W3 = W2.setCell ⟨g8, i + 1, none⟩ (.int .u64 (y3 : Int)) := ⟨_, rfl⟩
        have hA2 : Arr W3 w.heap.size 71 4 (u64f q) := by rw [hV]; exact HS2.out.1.far (Nat.ne_of_lt hne) _
        have hC2 : Arr W3 g8 72 5 (u64f d3) := by rw [hV, HX3.out.2, ← u64f_upd]; exact HS2.out.2.1.set (i + 1) _
        have hB2 : Below w.heap.size w W3 := by rw [hV]; exact HS2.out.2.2.setCell (Nat.le_of_lt hne) _
        (try simp only [Act.put])
        rw [← hV]
        have HS3 := Lib.hid (And.intro hA2 (And.intro hC2 hB2))
        clear hV hA2 hC2 hB2
        have cx : W3.cell? ⟨g8, i + 2, none⟩ = some (.int .u64 (x4 : Int)) := by rw [HX4.out.1]; exact HS3.out.2.1.cell (i := i + 2) (by omega)
        have hf := HS3.out.2.1.frozen (i + 2)
        obtain ⟨e1, e2⟩ := HE6.out
        go_wp2
        clear cx hf e1 e2
        obtain ⟨W4, hV⟩ : ∃ W4, W4 = W3.setCell ⟨g8, i + 2, none⟩ (.int .u64 (y4 : Int)) := ⟨_, rfl⟩
        have hA2 : Arr W4 w.heap.size 71 4 (u64f q) := by rw [hV]; exact HS3.out.1.far (Nat.ne_of_lt hne) _
        have hC2 : Arr W4 g8 72 5 (u64f d4) := by rw [hV, HX4.out.2, ← u64f_upd]; exact HS3.out.2.1.set (i + 2) _
        have hB2 : Below w.heap.size w W4 := by rw [hV]; exact HS3.out.2.2.setCell (Nat.le_of_lt hne) _
        (try simp only [Act.put])
        rw [← hV]
        have HS4 := Lib.hid (And.intro hA2 (And.intro hC2 hB2))
        clear hV hA2 hC2 hB2
        go_roundw
        case rel => exact ⟨i + 1, by omega, by go_num, HS4.out.1, by rw [HEq.out]; exact HS4.out.2.1, HS4.out.2.2⟩
        case measure => simp [intOf]; omega
      · have hE : cs q a b (i + 1) = d2 := by rw [HStep.out, if_neg h3]
        have HEq := Lib.hid hE
        have ht5 : ¬ (i : Int) + 2 < 5 := by omega
        clear hE
        go_wp2
        go_roundw
        case rel => exact ⟨i + 1, by omega, by go_num, HS2.out.1, by rw [HEq.out]; exact HS2.out.2.1, HS2.out.2.2⟩
        case measure => simp [intOf]; omega
    · obtain rfl : i = 4 := by omega
      obtain ⟨W0, rfl⟩ : ∃ W0 : World, W0 = wr := ⟨_, rfl⟩
      obtain ⟨e, he⟩ : ∃ e, e = cs q a b 4 := ⟨_, rfl⟩
      have hel : ∀ j, e j ≤ 68719476736 := fun j => by
        rw [he]; have := cs_le q a b HQ.out.2.1 HQ.out.2.2.2.1 HQ.out.2.2.2.2.1 4 hi j; omega
      have hev : val e = x * x * x := by rw [he]; exact HQ.out.1
      rw [← he] at hC
      have HEL := Lib.hid (And.intro hel (And.intro hev HQ.out.2.2.2.2.2))
      have HS := Lib.hid (show Arr W0 g8 72 5 (u64f (ns e 0)) ∧ Below w.heap.size w W0 from ⟨hC, hB⟩)
      clear he hel hev hA hC hB HQ hlt hi
      rw [show ((4 : Nat) : Int) = 4 from rfl]
      go_wp2
      go_loopw [11] (fun u W => ∃ i : Nat, i ≤ 4 ∧ u = .int .i64 i ∧ Arr W g8 72 5 (u64f (ns e i)) ∧ Below w.heap.size w W) (fun u _ => 4 - (intOf u).toNat)
      case atStart => exact ⟨0, by decide, rfl, HS.out⟩
      case round =>
        obtain ⟨i, hi, rfl, hC, hB⟩ := hrel
        clear HS
        by_cases hlt : i < 4
        · obtain ⟨d, hd⟩ : ∃ d, d = ns e i := ⟨_, rfl⟩
          have hdl : ∀ j, d j ≤ 68719476736 + 4 * 64 := fun j => by
            rw [hd]; have := ns_le e HEL.out.1 i hi j; omega
          rw [← hd] at hC
          obtain ⟨x1, hx1⟩ : ∃ z, z = d (i + 1) := ⟨_, rfl⟩
          obtain ⟨x0, hx0⟩ : ∃ z, z = d i := ⟨_, rfl⟩
          obtain ⟨h0, hh0⟩ : ∃ z, z = x0 / 4294967296 := ⟨_, rfl⟩
          obtain ⟨y1, hy1⟩ : ∃ z, z = x1 + h0 := ⟨_, rfl⟩
          obtain ⟨d1, hd1⟩ : ∃ z, z = upd d (i + 1) y1 := ⟨_, rfl⟩
          obtain ⟨l0, hl0⟩ : ∃ z, z = x0 % 4294967296 := ⟨_, rfl⟩
          obtain ⟨d2, hd2⟩ : ∃ z, z = upd d1 i l0 := ⟨_, rfl⟩
          have hx01 : d1 i = x0 := by rw [hd1, upd_ne _ _ _ _ (by omega), hx0]
          have hstep : ns e (i + 1) = d2 := by
            rw [hd2, hl0, ← hx01, hd1, hy1, hh0, hx1, hx0, hd]
            rfl
          have bx1 : x1 ≤ 68719476736 + 4 * 64 := by rw [hx1]; exact hdl _
          have bx0 : x0 ≤ 68719476736 + 4 * 64 := by rw [hx0]; exact hdl _
          have eh0 : (x0 : Int) / 4294967296 = (h0 : Int) := by omega
          have ey1 : IntKind.u64.wrap ((x1 : Int) + (h0 : Int)) = (y1 : Int) := by rw [IntKind.wrap_u64]; omega
          have el0 : bits BinOp.and .u64 (x0 : Int) 4294967295 = (l0 : Int) := by rw [hl0]; exact mask32 x0 (by omega)
          have HE1 := Lib.hid (And.intro eh0 ey1)
          have HE2 := Lib.hid el0
          have HX := Lib.hid (And.intro hx0 (And.intro hx1 (And.intro hd1 (And.intro hd2 hx01))))
          have HStep := Lib.hid hstep
          have HS0 := Lib.hid (And.intro hC hB)
          obtain ⟨W0, rfl⟩ : ∃ W0 : World, W0 = wr := ⟨_, rfl⟩
          clear hd hdl hx1 hx0 hh0 hy1 hd1 hl0 hd2 hx01 hstep bx1 bx0 eh0 ey1 el0 hC hB
          have c0 : W0.cell? ⟨g8, i, none⟩ = some (.int .u64 (x0 : Int)) := by rw [HX.out.1]; exact HS0.out.1.cell (i := i) (by omega)
          have c1 : W0.cell? ⟨g8, i + 1, none⟩ = some (.int .u64 (x1 : Int)) := by rw [HX.out.2.1]; exact HS0.out.1.cell (i := i + 1) (by omega)
          have hf := HS0.out.1.frozen (i + 1)
          obtain ⟨e1, e2⟩ := HE1.out
          go_upto_region 21 with fail
          go_region
          go_goals
          clear c0 c1 hf e1 e2
          obtain ⟨W1, hV⟩ : ∃ W1, W1 = (W0.setCell ⟨g8, i + 1, none⟩ (.int .u64 (y1 : Int))).drew := ⟨_, rfl⟩
          have hC2 : Arr W1 g8 72 5 (u64f d1) := by rw [hV, HX.out.2.2.1, ← u64f_upd]; exact (HS0.out.1.set (i + 1) _).drewN 1
          have hB2 : Below w.heap.size w W1 := by rw [hV]; exact below_drewN (HS0.out.2.setCell (Nat.le_of_lt hne) _) 1
          rw [← hV]
          have HS1 := Lib.hid (And.intro hC2 hB2)
          clear hV hC2 hB2
          have c0 : W1.cell? ⟨g8, i, none⟩ = some (.int .u64 (x0 : Int)) := by rw [← HX.out.2.2.2.2]; exact HS1.out.1.cell (i := i) (by omega)
          have hf := HS1.out.1.frozen i
          have e1 := HE2.out
          go_wp2
          clear c0 hf e1
          obtain ⟨W2, hV⟩ : ∃ W2, W2 = W1.setCell ⟨g8, i, none⟩ (.int .u64 (l0 : Int)) := ⟨_, rfl⟩
          have hC2 : Arr W2 g8 72 5 (u64f d2) := by rw [hV, HX.out.2.2.2.1, ← u64f_upd]; exact HS1.out.1.set i _
          have hB2 : Below w.heap.size w W2 := by rw [hV]; exact HS1.out.2.setCell (Nat.le_of_lt hne) _
          (try simp only [Act.put])
          rw [← hV]
          have HS2 := Lib.hid (And.intro hC2 hB2)
          clear hV hC2 hB2
          go_roundw
          case rel => exact ⟨i + 1, by omega, by go_num, by rw [HStep.out]; exact HS2.out.1, HS2.out.2⟩
          case measure => simp [intOf]; omega
        · obtain rfl : i = 4 := by omega
          obtain ⟨W0, rfl⟩ : ∃ W0 : World, W0 = wr := ⟨_, rfl⟩
          obtain ⟨f, hf⟩ : ∃ f, f = ns e 4 := ⟨_, rfl⟩
          have hsm : ∀ j, j < 4 → f j < 4294967296 := by rw [hf]; exact ns_small e 4 (by decide)
          have hv : val f = x * x * x := by
            rw [hf, ns_val e 3 (by decide), ns_val e 2 (by decide), ns_val e 1 (by decide), ns_val e 0 (by decide)]
            exact HEL.out.2.1
          have hfit : fit3 p x = fitD f p := by
            rw [fitD_val f p HEL.out.2.2 hsm, hv]; rfl
          have hzz : zz = fitD f p := HZ.out.trans hfit
          rw [← hf] at hC
          obtain ⟨v0, hv0⟩ : ∃ z, z = f 0 := ⟨_, rfl⟩
          obtain ⟨v1, hv1⟩ : ∃ z, z = f 1 := ⟨_, rfl⟩
          obtain ⟨v2, hv2⟩ : ∃ z, z = f 2 := ⟨_, rfl⟩
          obtain ⟨v3, hv3⟩ : ∃ z, z = f 3 := ⟨_, rfl⟩
          obtain ⟨v4, hv4⟩ : ∃ z, z = f 4 := ⟨_, rfl⟩
          have hD : fitD f p = (!(decide (v4 ≠ 0) || decide (p < v3)) && (decide (v3 < p) || (decide (v0 = 0) && decide (v1 = 0) && decide (v2 = 0)))) := by
            rw [hv0, hv1, hv2, hv3, hv4]; rfl
          rw [hD] at hzz
          have c0 : W0.cell? ⟨g8, 0, none⟩ = some (.int .u64 (v0 : Int)) := by rw [hv0]; exact hC.cell (i := 0) (by decide)
          have c1 : W0.cell? ⟨g8, 1, none⟩ = some (.int .u64 (v1 : Int)) := by rw [hv1]; exact hC.cell (i := 1) (by decide)
          have c2 : W0.cell? ⟨g8, 2, none⟩ = some (.int .u64 (v2 : Int)) := by rw [hv2]; exact hC.cell (i := 2) (by decide)
          have c3 : W0.cell? ⟨g8, 3, none⟩ = some (.int .u64 (v3 : Int)) := by rw [hv3]; exact hC.cell (i := 3) (by decide)
          have c4 : W0.cell? ⟨g8, 4, none⟩ = some (.int .u64 (v4 : Int)) := by rw [hv4]; exact hC.cell (i := 4) (by decide)
          have HB := Lib.hid hB
          clear hD hf hsm hv hfit HZ hC hB hv0 hv1 hv2 hv3 hv4 HEL hlt hi
          (try rw [show ((4 : Nat) : Int) = 4 from rfl])
          by_cases h4 : v4 = 0
          · have kv4 : ((v4 : Int) == 0) = true := by simp; omega
            have lv4 : ((v4 : Int) != 0) = false := by simp; omega
            by_cases h3 : p < v3
            · have t3 : (p : Int) < (v3 : Int) := by omega
              have e : (!(decide (v4 ≠ 0) || decide (p < v3)) && (decide (v3 < p) || (decide (v0 = 0) && decide (v1 = 0) && decide (v2 = 0)))) = false := by simp [h4, h3]
              have HE := Lib.hid (hzz.trans e)
              clear e hzz h4 h3
              go_wp2
              go_ret
              exact ⟨by rw [HE.out]; rfl, HB.out⟩
            · have t3 : ¬ (p : Int) < (v3 : Int) := by omega
              by_cases h3b : v3 < p
              · have t3b : (v3 : Int) < (p : Int) := by omega
                have e : (!(decide (v4 ≠ 0) || decide (p < v3)) && (decide (v3 < p) || (decide (v0 = 0) && decide (v1 = 0) && decide (v2 = 0)))) = true := by simp [h4, h3, h3b]
                have HE := Lib.hid (hzz.trans e)
                clear e hzz h4 h3 h3b
                go_wp2
                go_ret
                exact ⟨by rw [HE.out]; rfl, HB.out⟩
              · have t3b : ¬ (v3 : Int) < (p : Int) := by omega
                by_cases h0 : v0 = 0
                · have kv0 : ((v0 : Int) == 0) = true := by simp; omega
                  have lv0 : ((v0 : Int) != 0) = false := by simp; omega
                  by_cases h1 : v1 = 0
                  · have kv1 : ((v1 : Int) == 0) = true := by simp; omega
                    have lv1 : ((v1 : Int) != 0) = false := by simp; omega
                    by_cases h2 : v2 = 0
                    · have kv2 : ((v2 : Int) == 0) = true := by simp; omega
                      have lv2 : ((v2 : Int) != 0) = false := by simp; omega
                      have e : (!(decide (v4 ≠ 0) || decide (p < v3)) && (decide (v3 < p) || (decide (v0 = 0) && decide (v1 = 0) && decide (v2 = 0)))) = true := by simp [h4, h3, h3b, h0, h1, h2]
                      have HE := Lib.hid (hzz.trans e)
                      clear e hzz h4 h3 h3b h0 h1 h2
                      go_wp2
                      go_ret
                      exact ⟨by rw [HE.out]; rfl, HB.out⟩
                    · have kv2 : ((v2 : Int) == 0) = false := by simp; omega
                      have lv2 : ((v2 : Int) != 0) = true := by simp; omega
                      have e : (!(decide (v4 ≠ 0) || decide (p < v3)) && (decide (v3 < p) || (decide (v0 = 0) && decide (v1 = 0) && decide (v2 = 0)))) = false := by simp [h4, h3, h3b, h0, h1, h2]
                      have HE := Lib.hid (hzz.trans e)
                      clear e hzz h4 h3 h3b h0 h1 h2
                      go_wp2
                      go_ret
                      exact ⟨by rw [HE.out]; rfl, HB.out⟩
                  · have kv1 : ((v1 : Int) == 0) = false := by simp; omega
                    have lv1 : ((v1 : Int) != 0) = true := by simp; omega
                    have e : (!(decide (v4 ≠ 0) || decide (p < v3)) && (decide (v3 < p) || (decide (v0 = 0) && decide (v1 = 0) && decide (v2 = 0)))) = false := by simp [h4, h3, h3b, h0, h1]
                    have HE := Lib.hid (hzz.trans e)
                    clear e hzz h4 h3 h3b h0 h1
                    go_wp2
                    go_ret
                    exact ⟨by rw [HE.out]; rfl, HB.out⟩
                · have kv0 : ((v0 : Int) == 0) = false := by simp; omega
                  have lv0 : ((v0 : Int) != 0) = true := by simp; omega
                  have e : (!(decide (v4 ≠ 0) || decide (p < v3)) && (decide (v3 < p) || (decide (v0 = 0) && decide (v1 = 0) && decide (v2 = 0)))) = false := by simp [h4, h3, h3b, h0]
                  have HE := Lib.hid (hzz.trans e)
                  clear e hzz h4 h3 h3b h0
                  go_wp2
                  go_ret
                  exact ⟨by rw [HE.out]; rfl, HB.out⟩
          · have kv4 : ((v4 : Int) == 0) = false := by simp; omega
            have lv4 : ((v4 : Int) != 0) = true := by simp; omega
            have e : (!(decide (v4 ≠ 0) || decide (p < v3)) && (decide (v3 < p) || (decide (v0 = 0) && decide (v1 = 0) && decide (v2 = 0)))) = false := by simp [h4]
            have HE := Lib.hid (hzz.trans e)
            clear e hzz h4
            go_wp2
            go_ret
            exact ⟨by rw [HE.out]; rfl, HB.out⟩
end Go.Proofs.YtjblmnkhdablaaaDoor
