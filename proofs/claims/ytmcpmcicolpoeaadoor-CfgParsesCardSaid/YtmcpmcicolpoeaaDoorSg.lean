/- Guests alike: sameGuest. -/
import Derived.Test.YtmcpmcicolpoeaaDoorMe
import Derived.Test.YtmcpmcicolpoeaaDoorGu
import Derived.Deep.CutRange
namespace Go.Proofs.YtmcpmcicolpoeaaDoor
open Go.RowKit

def nmEq (a b : By) : Bool := (strOf a).toList == (strOf b).toList
def gR1 (x y : Gs) : Bool := nmEq x.name y.name && (x.must == y.must && kyEq (kF x.key) (kF y.key))
def gR2 (x y : Gs) : Bool := x.off == y.off && (x.len == y.len && (x.cpus == y.cpus && (x.entry == y.entry && x.dtb == y.dtb)))
def gR3 (x y : Gs) : Bool := eqL wiEq x.wins y.wins && eqL deEq x.devs y.devs
def gsEq (x y : Gs) : Bool := gR1 x y && (gR2 x y && (gR3 x y && (eqL irEq x.irqs y.irqs && eqL nuEq x.strs y.strs)))
theorem gsEq_self (x : Gs) : gsEq x x = true := by
  simp [gsEq, gR1, gR2, gR3, nmEq, kyEq_self, eqL_self wiEq_self, eqL_self deEq_self, eqL_self irEq_self, eqL_self nuEq_self]
/-- A guest's lists can be read. -/
structure GRow (w : World) (B : Nat) (x : GV) : Prop where
  wi : ∃ A c, x.wv = .slice A x.g.wins.length c ∧ RowE 4 winE w B A x.g.wins ∧ x.g.wins.length ≤ 9223372036854775807
  de : ∃ A c, x.dv = .slice A x.g.devs.length c ∧ RowE 3 devE w B A x.g.devs ∧ x.g.devs.length ≤ 9223372036854775807
  ir : ∃ A c, x.iv = .slice A x.g.irqs.length c ∧ RowE 3 irqE w B A x.g.irqs ∧ x.g.irqs.length ≤ 9223372036854775807
  st : ∃ A c, x.sv = .slice A x.g.strs.length c ∧ RowE 1 numE w B A x.g.strs ∧ x.g.strs.length ≤ 9223372036854775807
theorem GRow.below {w w' : World} {B : Nat} {x : GV} (h : GRow w B x) (hb : Below B w w') : GRow w' B x := by
  obtain ⟨⟨A, c, e, r, l⟩, ⟨A2, c2, e2, r2, l2⟩, ⟨A3, c3, e3, r3, l3⟩, ⟨A4, c4, e4, r4, l4⟩⟩ := h
  exact ⟨⟨A, c, e, r.below hb, l⟩, ⟨A2, c2, e2, r2.below hb, l2⟩, ⟨A3, c3, e3, r3.below hb, l3⟩, ⟨A4, c4, e4, r4.below hb, l4⟩⟩
theorem GRow.wide {w : World} {B B' : Nat} {x : GV} (h : GRow w B x) (hb : B ≤ B') : GRow w B' x := by
  obtain ⟨⟨A, c, e, r, l⟩, ⟨A2, c2, e2, r2, l2⟩, ⟨A3, c3, e3, r3, l3⟩, ⟨A4, c4, e4, r4, l4⟩⟩ := h
  exact ⟨⟨A, c, e, r.wide hb, l⟩, ⟨A2, c2, e2, r2.wide hb, l2⟩, ⟨A3, c3, e3, r3.wide hb, l3⟩, ⟨A4, c4, e4, r4.wide hb, l4⟩⟩
theorem GRow.drewN {w : World} {B : Nat} {x : GV} (h : GRow w B x) (k : Nat) : GRow (w.drewN k) B x := h.below (below_drewN (Below.refl B w) k)
theorem wl_execG {P : Program} {ops : Array Oper} {Q : Exit → Act → World → Prop} {a : Act} {w : World} {rest : List Oper} {o : Oper} {v : Value} (hw : Region.wanted o (yielded ops a.tmps) = true)
    (he : (execOp a.eval o).run P w = .ok (.value v) w) (h : wpList P ops Q rest (a.put o.dst v) w) : wpList P ops Q (o :: rest) a w :=
  wpList_step fun K hK => by
    simp only [hw, if_true]
    unfold Oper.wp
    rw [he]
    exact hK _ _ h
/-- A Bool is told; the heap stays. -/
def EqV (r : Bool) (w : World) (e : Ending) (w' : World) : Prop := e = .returned (.bool r) ∧ Below w.heap.size w w'
theorem guest_key {w : World} {g : Nat} {t : TypeId} {x : GV} (h : Arr w g t 79 (guestE x)) : ∀ i, i < 68 → w.cell? ⟨g, 7 + i, none⟩ = some (bys (kF x.g.key) i) := fun i hi => by
  rw [h.cell (by omega), Nat.add_comm 7 i]
  show some (if i < 68 then bys (kF x.g.key) i else _) = _
  rw [if_pos hi]
theorem and3 (a b c : Bool) : (a = false ∧ (a && (b && c)) = false) ∨ (a = true ∧ b = false ∧ (a && (b && c)) = false) ∨ (a = true ∧ b = true ∧ c = false ∧ (a && (b && c)) = false) ∨ (a = true ∧ b = true ∧ c = true ∧ (a && (b && c)) = true) := by
  cases a <;> cases b <;> cases c <;> simp
theorem and5 (a b c d e : Bool) : (a = false ∧ (a && (b && (c && (d && e)))) = false) ∨ (a = true ∧ b = false ∧ (a && (b && (c && (d && e)))) = false) ∨ (a = true ∧ b = true ∧ c = false ∧ (a && (b && (c && (d && e)))) = false) ∨ (a = true ∧ b = true ∧ c = true ∧ d = false ∧ (a && (b && (c && (d && e)))) = false) ∨
    (a = true ∧ b = true ∧ c = true ∧ d = true ∧ e = false ∧ (a && (b && (c && (d && e)))) = false) ∨ (a = true ∧ b = true ∧ c = true ∧ d = true ∧ e = true ∧ (a && (b && (c && (d && e)))) = true) := by
  cases a <;> cases b <;> cases c <;> cases d <;> cases e <;> simp
set_option maxHeartbeats 4000000 in
set_option maxRecDepth 100000 in
theorem sameGuest_any (x y : GV) (w : World) (hx : GRow w w.heap.size x) (hy : GRow w w.heap.size y) : Calls Tryd.prog 35 #[.agg (vec 79 (guestE x)), .agg (vec 79 (guestE y))] w (EqV (gsEq x.g y.g) w) := by
  obtain ⟨V, hV⟩ : ∃ V, V = (w.alloc (.cells (vec 79 (guestE x)) 64)).alloc (.cells (vec 79 (guestE y)) 64) := ⟨_, rfl⟩
  have k1 : Arr V w.heap.size 64 79 (guestE x) := by rw [hV]; exact (Arr.new w _ _ _).alloc _
  have k2 : Arr V (w.heap.size + 1) 64 79 (guestE y) := by rw [hV]; exact Arr.newAt _ _ _ _ (by simp)
  have hB : Below w.heap.size w V := by rw [hV]; exact ((Below.refl _ _).alloc (by simp <;> omega) _).alloc (by simp <;> omega) _
  have HX := Lib.hid ((hx.below hB).wide hB.size)
  have HY := Lib.hid ((hy.below hB).wide hB.size)
  have HK := Lib.hid (And.intro k1 (And.intro k2 hB))
  have HW := Lib.hid hV
  have a0 : V.cell? ⟨w.heap.size, 0, none⟩ = some (.string (strOf x.g.name)) := k1.cell (i := 0) (by decide)
  have a1 : V.cell? ⟨w.heap.size, 1, none⟩ = some (.bool x.g.must) := k1.cell (i := 1) (by decide)
  have a2 : V.cell? ⟨w.heap.size, 2, none⟩ = some (.int .u32 x.g.off) := k1.cell (i := 2) (by decide)
  have a3 : V.cell? ⟨w.heap.size, 3, none⟩ = some (.int .u32 x.g.len) := k1.cell (i := 3) (by decide)
  have a4 : V.cell? ⟨w.heap.size, 4, none⟩ = some (.int .u32 x.g.cpus) := k1.cell (i := 4) (by decide)
  have a5 : V.cell? ⟨w.heap.size, 5, none⟩ = some (.int .u64 x.g.entry) := k1.cell (i := 5) (by decide)
  have a6 : V.cell? ⟨w.heap.size, 6, none⟩ = some (.int .u64 x.g.dtb) := k1.cell (i := 6) (by decide)
  have a75 : V.cell? ⟨w.heap.size, 75, none⟩ = some (x.wv) := k1.cell (i := 75) (by decide)
  have a76 : V.cell? ⟨w.heap.size, 76, none⟩ = some (x.dv) := k1.cell (i := 76) (by decide)
  have a77 : V.cell? ⟨w.heap.size, 77, none⟩ = some (x.iv) := k1.cell (i := 77) (by decide)
  have a78 : V.cell? ⟨w.heap.size, 78, none⟩ = some (x.sv) := k1.cell (i := 78) (by decide)
  have b0 : V.cell? ⟨w.heap.size + 1, 0, none⟩ = some (.string (strOf y.g.name)) := k2.cell (i := 0) (by decide)
  have b1 : V.cell? ⟨w.heap.size + 1, 1, none⟩ = some (.bool y.g.must) := k2.cell (i := 1) (by decide)
  have b2 : V.cell? ⟨w.heap.size + 1, 2, none⟩ = some (.int .u32 y.g.off) := k2.cell (i := 2) (by decide)
  have b3 : V.cell? ⟨w.heap.size + 1, 3, none⟩ = some (.int .u32 y.g.len) := k2.cell (i := 3) (by decide)
  have b4 : V.cell? ⟨w.heap.size + 1, 4, none⟩ = some (.int .u32 y.g.cpus) := k2.cell (i := 4) (by decide)
  have b5 : V.cell? ⟨w.heap.size + 1, 5, none⟩ = some (.int .u64 y.g.entry) := k2.cell (i := 5) (by decide)
  have b6 : V.cell? ⟨w.heap.size + 1, 6, none⟩ = some (.int .u64 y.g.dtb) := k2.cell (i := 6) (by decide)
  have b75 : V.cell? ⟨w.heap.size + 1, 75, none⟩ = some (y.wv) := k2.cell (i := 75) (by decide)
  have b76 : V.cell? ⟨w.heap.size + 1, 76, none⟩ = some (y.dv) := k2.cell (i := 76) (by decide)
  have b77 : V.cell? ⟨w.heap.size + 1, 77, none⟩ = some (y.iv) := k2.cell (i := 77) (by decide)
  have b78 : V.cell? ⟨w.heap.size + 1, 78, none⟩ = some (y.sv) := k2.cell (i := 78) (by decide)
  obtain ⟨s1, hs1⟩ : ∃ s, s = strOf x.g.name := ⟨_, rfl⟩
  obtain ⟨s2, hs2⟩ : ∃ s, s = strOf y.g.name := ⟨_, rfl⟩
  obtain ⟨r1, hr1⟩ : ∃ r, r = gR1 x.g y.g := ⟨_, rfl⟩
  obtain ⟨r2, hr2⟩ : ∃ r, r = gR2 x.g y.g := ⟨_, rfl⟩
  obtain ⟨r3, hr3⟩ : ∃ r, r = gR3 x.g y.g := ⟨_, rfl⟩
  have HR1 := Lib.hid hr1
  have HR2 := Lib.hid hr2
  have HR3 := Lib.hid hr3
  have HSS := Lib.hid (And.intro hs1 hs2)
  rw [← hs1] at a0
  rw [← hs2] at b0
  have hG : gsEq x.g y.g = (r1 && (r2 && (r3 && (eqL irEq x.g.irqs y.g.irqs && eqL nuEq x.g.strs y.g.strs)))) := by rw [hr1, hr2, hr3]; rfl
  rw [hG]
  clear hV k1 k2 hB hx hy hs1 hs2 hr1 hr2 hr3 hG
  unfold EqV
  go_enter Tryd.func35, Tryd.ntmps35
  go_upto_region 1 with fail
  rw [← HW.out]
  clear HW
  go_cut [5] from 8 to 93 (fun s5 wx => s5 = .bool r1 ∧ wx = V)
  case first =>
    have hr := HR1.out
    unfold gR1 nmEq at hr
    rw [← HSS.out.1, ← HSS.out.2] at hr
    have hc := and3 (s1.toList == s2.toList) (x.g.must == y.g.must) (kyEq (kF x.g.key) (kF y.g.key))
    rw [← hr] at hc
    clear hr
    rcases hc with ⟨e1, e⟩ | ⟨e1, e2, e⟩ | ⟨e1, e2, e3, e⟩ | ⟨e1, e2, e3, e⟩
    all_goals subst e
    · go_wp2_with fail
      go_meet
      exact ⟨rfl, rfl⟩
    · go_wp2_with fail
      go_meet
      exact ⟨rfl, rfl⟩
    · have HE := Lib.hid e3
      clear e3
      go_wp2_with (first
        | ((with_reducible show wpList _ _ _ (Oper.mk _ (.load 58 (.tmp 21)) _ _ _ _ :: _) _ _); refine wl_execG (by kernel_rfl) (exec_load_at 58 _ rfl _ _ rfl _ (run_load_spl (guest_key HK.out.1) Tryd.underlying58 rfl info_key)) ?_)
        | ((with_reducible show wpList _ _ _ (Oper.mk _ (.load 58 (.tmp 23)) _ _ _ _ :: _) _ _); refine wl_execG (by kernel_rfl) (exec_load_at 58 _ rfl _ _ rfl _ (run_load_spl (guest_key HK.out.2.1) Tryd.underlying58 rfl info_key)) ?_)
        | ((with_reducible show wpList _ _ _ (Oper.mk _ (.binOp _ 58 _ _ _) _ _ _ _ :: _) _ _); refine wl_execG (by kernel_rfl) (exec_eql_key _ _ _ rfl _ _ rfl rfl _ HE.out) ?_))
      go_meet
      exact ⟨rfl, rfl⟩
    · have HE := Lib.hid e3
      clear e3
      go_wp2_with (first
        | ((with_reducible show wpList _ _ _ (Oper.mk _ (.load 58 (.tmp 21)) _ _ _ _ :: _) _ _); refine wl_execG (by kernel_rfl) (exec_load_at 58 _ rfl _ _ rfl _ (run_load_spl (guest_key HK.out.1) Tryd.underlying58 rfl info_key)) ?_)
        | ((with_reducible show wpList _ _ _ (Oper.mk _ (.load 58 (.tmp 23)) _ _ _ _ :: _) _ _); refine wl_execG (by kernel_rfl) (exec_load_at 58 _ rfl _ _ rfl _ (run_load_spl (guest_key HK.out.2.1) Tryd.underlying58 rfl info_key)) ?_)
        | ((with_reducible show wpList _ _ _ (Oper.mk _ (.binOp _ 58 _ _ _) _ _ _ _ :: _) _ _); refine wl_execG (by kernel_rfl) (exec_eql_key _ _ _ rfl _ _ rfl rfl _ HE.out) ?_))
      go_meet
      exact ⟨rfl, rfl⟩
  case rest =>
    obtain ⟨rfl, hw⟩ := hcut
    have hw2 := hw.symm
    subst hw2
    go_upto_region 2 with fail
    go_cut [6] from 8 to 93 (fun s6 wx => s6 = .bool r2 ∧ wx = V)
    case first =>
      have hr := HR2.out
      unfold gR2 at hr
      have hc := and5 (x.g.off == y.g.off) (x.g.len == y.g.len) (x.g.cpus == y.g.cpus) (x.g.entry == y.g.entry) (x.g.dtb == y.g.dtb)
      rw [← hr] at hc
      clear hr
      rcases hc with ⟨e1, e⟩ | ⟨e1, e2, e⟩ | ⟨e1, e2, e3, e⟩ | ⟨e1, e2, e3, e4, e⟩ | ⟨e1, e2, e3, e4, e5, e⟩ | ⟨e1, e2, e3, e4, e5, e⟩
      all_goals subst e
      all_goals (go_wp2_with fail; go_meet; exact ⟨rfl, rfl⟩)
    case rest =>
      obtain ⟨rfl, hw⟩ := hcut
      have hw2 := hw.symm
      subst hw2
      clear a0 a1 a2 a3 a4 a5 a6 b0 b1 b2 b3 b4 b5 b6
      obtain ⟨⟨A1, c1, hA1, rA1, lA1⟩, ⟨A2, c2, hA2, rA2, lA2⟩, ⟨A3, c3, hA3, rA3, lA3⟩, ⟨A4, c4, hA4, rA4, lA4⟩⟩ := HX.out
      obtain ⟨⟨B1, d1, hB1, rB1, lB1⟩, ⟨B2, d2, hB2, rB2, lB2⟩, ⟨B3, d3, hB3, rB3, lB3⟩, ⟨B4, d4, hB4, rB4, lB4⟩⟩ := HY.out
      rw [hA1] at a75
      rw [hA2] at a76
      rw [hA3] at a77
      rw [hA4] at a78
      rw [hB1] at b75
      rw [hB2] at b76
      rw [hB3] at b77
      rw [hB4] at b78
      have HQ1 := Lib.hid (fun (W : World) h1 h2 => equal_win x.g.wins y.g.wins A1 B1 c1 d1 W lA1 h1 h2)
      have HQ2 := Lib.hid (fun (W : World) h1 h2 => equal_dev x.g.devs y.g.devs A2 B2 c2 d2 W lA2 h1 h2)
      have HQ3 := Lib.hid (fun (W : World) h1 h2 => equal_irq x.g.irqs y.g.irqs A3 B3 c3 d3 W lA3 h1 h2)
      have HQ4 := Lib.hid (fun (W : World) h1 h2 => equal_num x.g.strs y.g.strs A4 B4 c4 d4 W lA4 h1 h2)
      have HRW := Lib.hid (And.intro (And.intro rA1 rB1) (And.intro (And.intro rA2 rB2) (And.intro (And.intro rA3 rB3) (And.intro rA4 rB4))))
      obtain ⟨q1, hq1⟩ : ∃ q, q = eqL wiEq x.g.wins y.g.wins := ⟨_, rfl⟩
      obtain ⟨q2, hq2⟩ : ∃ q, q = eqL deEq x.g.devs y.g.devs := ⟨_, rfl⟩
      obtain ⟨q3, hq3⟩ : ∃ q, q = eqL irEq x.g.irqs y.g.irqs := ⟨_, rfl⟩
      obtain ⟨q4, hq4⟩ : ∃ q, q = eqL nuEq x.g.strs y.g.strs := ⟨_, rfl⟩
      rw [← hq1] at HQ1
      rw [← hq2] at HQ2
      rw [← hq3] at HQ3
      rw [← hq4] at HQ4
      have HQ34 := Lib.hid (And.intro hq3 hq4)
      have hr := HR3.out
      unfold gR3 at hr
      rw [← hq1, ← hq2] at hr
      clear hA1 hA2 hA3 hA4 hB1 hB2 hB3 hB4 rA1 rA2 rA3 rA4 rB1 rB2 rB3 rB4 lA1 lA2 lA3 lA4 lB1 lB2 lB3 lB4 hq1 hq2 hq3 hq4
      go_upto_region 3 with fail
      go_cut [7] from 8 to 93 (fun s7 wx => s7 = .bool r3 ∧ ∃ n, wx = V.drewN n)
      case first =>
        subst hr
        cases q1
        · go_wp2_with (go_at_call 64; refine (HQ1.out _ HRW.out.1.1 HRW.out.1.2).mono ?_; rintro e w1 ⟨rfl, n1, rfl⟩)
          go_meet
          exact ⟨rfl, _, rfl⟩
        · go_wp2_with (first
            | (go_at_call 64; refine (HQ1.out _ HRW.out.1.1 HRW.out.1.2).mono ?_; rintro e w1 ⟨rfl, n1, rfl⟩)
            | (go_at_call 65; refine (HQ2.out _ (HRW.out.2.1.1.up (below_drewN (Below.refl _ V) n1)) (HRW.out.2.1.2.up (below_drewN (Below.refl _ V) n1))).mono ?_; rintro e w1 ⟨rfl, n2, rfl⟩))
          go_meet
          exact ⟨rfl, _, rfl⟩
      case rest =>
        obtain ⟨rfl, n, rfl⟩ := hcut
        have a77 : (V.drewN n).cell? ⟨w.heap.size, 77, none⟩ = some (.slice A3 x.g.irqs.length c3) := a77
        have b77 : (V.drewN n).cell? ⟨w.heap.size + 1, 77, none⟩ = some (.slice B3 y.g.irqs.length d3) := b77
        have a78 : (V.drewN n).cell? ⟨w.heap.size, 78, none⟩ = some (.slice A4 x.g.strs.length c4) := a78
        have b78 : (V.drewN n).cell? ⟨w.heap.size + 1, 78, none⟩ = some (.slice B4 y.g.strs.length d4) := b78
        have HP : Hid (∀ W : World, (∃ n, W = V.drewN n) → Below w.heap.size w W) := Lib.hid fun W ⟨n, hn⟩ => by rw [hn]; exact below_drewN HK.out.2.2 n
        have HQQ : Hid ((eqL irEq x.g.irqs y.g.irqs && eqL nuEq x.g.strs y.g.strs) = (q3 && q4)) := Lib.hid (by rw [HQ34.out.1, HQ34.out.2])
        clear hr
        cases r1
        · go_wp2_with fail
          go_ret
          exact ⟨by simp, HP.out _ ⟨_, rfl⟩⟩
        cases r2
        · go_wp2_with fail
          go_ret
          exact ⟨by simp, HP.out _ ⟨_, rfl⟩⟩
        cases r3
        · go_wp2_with fail
          go_ret
          exact ⟨by simp, HP.out _ ⟨_, rfl⟩⟩
        cases q3
        · go_wp2_with (go_at_call 66; refine (HQ3.out _ (HRW.out.2.2.1.1.up (below_drewN (Below.refl _ V) n)) (HRW.out.2.2.1.2.up (below_drewN (Below.refl _ V) n))).mono ?_; rintro e w1 ⟨rfl, n3, rfl⟩)
          go_ret
          exact ⟨by rw [HQQ.out]; rfl, HP.out _ ⟨_, rfl⟩⟩
        · go_wp2_with (first
            | (go_at_call 66; refine (HQ3.out _ (HRW.out.2.2.1.1.up (below_drewN (Below.refl _ V) n)) (HRW.out.2.2.1.2.up (below_drewN (Below.refl _ V) n))).mono ?_; rintro e w1 ⟨rfl, n3, rfl⟩)
            | (go_at_call 67; refine (HQ4.out _ (HRW.out.2.2.2.1.up (below_drewN (Below.refl _ V) (n + n3))) (HRW.out.2.2.2.2.up (below_drewN (Below.refl _ V) (n + n3)))).mono ?_; rintro e w1 ⟨rfl, n4, rfl⟩))
          go_ret
          exact ⟨by rw [HQQ.out]; rfl, HP.out _ ⟨_, rfl⟩⟩
end Go.Proofs.YtmcpmcicolpoeaaDoor
