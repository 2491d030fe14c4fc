import Derived.Test.YtkaipknkjocfiaaGreatZo48
namespace Go.Proofs.YtkaipknkjocfiaaGreat
open Go.RowKit Go.Maps
attribute [local go_sem ↓ high] zeroGu zeroIr zeroCf zeroBd
theorem zeroI17 (w : World) : (zeroValue 3).run Tryz.prog w = .ok (.int .i64 0) w := by kernel_rfl
theorem lawI17 : Keyed Tryz.prog 3 := int_keyed Tryz.underlying3
theorem lawU17 : Keyed Tryz.prog 27 := int_keyed Tryz.underlying27
theorem lit_i {a c : Int} (h : (DataW.lit (.int .i64 a) : DataW Unit) = .lit (.int .i64 c)) : c = a := by
 injection h with h
 injection h with _ h
 exact h.symm
structure CntM (kd : IntKind) (KT : TypeId) (w : World) (m n : Nat) (L : List Lit) : Prop where
 ex : ∃ D : DataW Unit, w.ownsMap Tryz.prog KT (plainElem Tryz.prog 3) m n D ∧ ∀ v : Int, D.atKey (.int kd v) (.lit (.int .i64 0)) = .lit (.int .i64 (if inL L (.int kd v) = true then 1 else 0))
theorem CntM.begin (kd : IntKind) (KT : TypeId) (w : World) : CntM kd KT (w.alloc (.map #[] 0)) w.heap.size 0 [] := ⟨⟨.map [], World.ownsMap_made _ _ _ _, fun _ => rfl⟩⟩
theorem CntM.under {kd : IntKind} {KT : TypeId} {w w' : World} {m n : Nat} {L : List Lit} (h : CntM kd KT w m n L) (hb : Below w.heap.size w w') : CntM kd KT w' m n L := by
 obtain ⟨D, h1, h2⟩ := h.ex
 exact ⟨D, h1.kept (grown_below hb) (by simp), h2⟩
theorem CntM.save {kd : IntKind} {KT : TypeId} {w w' : World} {m n g : Nat} {L : List Lit} (h : CntM kd KT w m n L) (hg : Save g w w') (hne : m ≠ g) : CntM kd KT w' m n L := by
 obtain ⟨D, h1, h2⟩ := h.ex
 exact ⟨D, h1.kept (grown_save hg) (by simpa using hne), h2⟩
theorem CntM.lt {kd : IntKind} {KT : TypeId} {w : World} {m n : Nat} {L : List Lit} (h : CntM kd KT w m n L) : m < w.heap.size := by
 obtain ⟨D, h1, h2⟩ := h.ex
 exact h1.lt
theorem inL_snoc (L : List Lit) (k l : Lit) : inL (L ++ [k]) l = (inL L l || k.sameKey l) := by
 unfold inL
 rw [List.any_append]
 simp
theorem CntM.put {kd : IntKind} {KT : TypeId} {w w1 : World} {m n : Nat} {L : List Lit} {D : DataW Unit} {v : Int} (ho : w.ownsMap Tryz.prog KT (plainElem Tryz.prog 3) m n D) (hz : ∀ v : Int, D.atKey (.int kd v) (.lit (.int .i64 0)) = .lit (.int .i64 (if inL L (.int kd v) = true then 1 else 0)))
   (h1 : w1.ownsMap Tryz.prog KT (plainElem Tryz.prog 3) m (n + 1) (D.put (.int kd v) (.lit (.int .i64 1)))) : CntM kd KT w1 m (n + 1) (L ++ [.int kd v]) := by
 refine ⟨_, h1, fun u => ?_⟩
 rw [inL_snoc]
 by_cases e : u = v
 · subst e
   rw [atKey_put_same ho.isMap (show WideAt.IsKeyLit (.int kd u) from trivial), WideAt.sameKey_self (show WideAt.IsKeyLit (.int kd u) from trivial), Bool.or_true]
   rfl
 · rw [atKey_put_other (by intro h; injection h with _ h; exact e h), hz u]
   have : (Lit.int kd v).sameKey (.int kd u) = false := by
    rw [← Bool.not_eq_true]
    intro h
    have := WideAt.sameKey_eq h
    injection this with _ this
    exact e this.symm
   rw [this, Bool.or_false]
structure OSt (V W : World) (m1 m2 : Nat) (L1 L2 : List Lit) (k1 k2 : Nat) : Prop where
 c1 : ∃ n, n ≤ k1 ∧ CntM .i64 3 W m1 n L1
 c2 : ∃ n, n ≤ k2 ∧ CntM .u32 27 W m2 n L2
 b : Below V.heap.size V W
 o : V.heap.size ≤ m1 ∧ V.heap.size ≤ m2 ∧ m1 ≠ m2
theorem OSt.under {V W W' : World} {m1 m2 : Nat} {L1 L2 : List Lit} {k1 k2 : Nat} (h : OSt V W m1 m2 L1 L2 k1 k2) (hb : Below W.heap.size W W') : OSt V W' m1 m2 L1 L2 k1 k2 := by
 obtain ⟨n1, a1, b1⟩ := h.c1
 obtain ⟨n2, a2, b2⟩ := h.c2
 exact ⟨⟨n1, a1, b1.under hb⟩, ⟨n2, a2, b2.under hb⟩, h.b.trans (hb.mono h.b.size), h.o⟩
theorem OSt.lt {V W : World} {m1 m2 : Nat} {L1 L2 : List Lit} {k1 k2 : Nat} (h : OSt V W m1 m2 L1 L2 k1 k2) : m1 < W.heap.size ∧ m2 < W.heap.size := by
 obtain ⟨n1, a1, b1⟩ := h.c1
 obtain ⟨n2, a2, b2⟩ := h.c2
 exact ⟨b1.lt, b2.lt⟩
theorem OSt.put1 {V W w1 : World} {m1 m2 n : Nat} {L1 L2 : List Lit} {k1 k2 : Nat} {D : DataW Unit} {v : Int} (h : OSt V W m1 m2 L1 L2 k1 k2) (hn : n ≤ k1) (ho : W.ownsMap Tryz.prog 3 (plainElem Tryz.prog 3) m1 n D) (hz : ∀ v : Int, D.atKey (.int .i64 v) (.lit (.int .i64 0)) = .lit (.int .i64 (if inL L1 (.int .i64 v) = true then 1 else 0)))
  (h1 : w1.ownsMap Tryz.prog 3 (plainElem Tryz.prog 3) m1 (n + 1) (D.put (.int .i64 v) (.lit (.int .i64 1)))) (hg : W.grownBy w1 (some m1)) : OSt V w1 m1 m2 (L1 ++ [.int .i64 v]) L2 (k1 + 1) k2 := by
 obtain ⟨n2, a2, b2⟩ := h.c2
 exact ⟨⟨n + 1, by omega, CntM.put ho hz h1⟩, ⟨n2, a2, b2.save (Save.of_grown hg) h.o.2.2.symm⟩, h.b.trans ((Save.of_grown hg).below h.o.1 h.b.size), h.o⟩
theorem OSt.put2 {V W w1 : World} {m1 m2 n : Nat} {L1 L2 : List Lit} {k1 k2 : Nat} {D : DataW Unit} {v : Int} (h : OSt V W m1 m2 L1 L2 k1 k2) (hn : n ≤ k2) (ho : W.ownsMap Tryz.prog 27 (plainElem Tryz.prog 3) m2 n D) (hz : ∀ v : Int, D.atKey (.int .u32 v) (.lit (.int .i64 0)) = .lit (.int .i64 (if inL L2 (.int .u32 v) = true then 1 else 0)))
  (h1 : w1.ownsMap Tryz.prog 27 (plainElem Tryz.prog 3) m2 (n + 1) (D.put (.int .u32 v) (.lit (.int .i64 1)))) (hg : W.grownBy w1 (some m2)) : OSt V w1 m1 m2 L1 (L2 ++ [.int .u32 v]) k1 (k2 + 1) := by
 obtain ⟨n1, a1, b1⟩ := h.c1
 exact ⟨⟨n1, a1, b1.save (Save.of_grown hg) h.o.2.2⟩, ⟨n + 1, by omega, CntM.put ho hz h1⟩, h.b.trans ((Save.of_grown hg).below h.o.2.1 h.b.size), h.o⟩
def orM (x : Cf) (n : Nat) : Nat := (x.gs.take n).foldl (fun a t => a ||| maskN t) 0
theorem orM_succ (x : Cf) (n : Nat) (hn : n < x.gs.length) : orM x (n + 1) = orM x n ||| maskN x.gs[n] := by
 unfold orM
 rw [List.take_succ_eq_append_getElem hn, List.foldl_append]
 rfl
theorem mask_lt {t : Gs} (h : u32B t.cpus) : maskN t < 4294967296 ∧ ((maskN t : Nat) : Int) = t.cpus := by
 unfold maskN
 unfold u32B at h
 omega
theorem orM_lt {x : Cf} (hb : CfB x) : ∀ n, n ≤ x.gs.length → orM x n < 4294967296
 | 0, _ => by show (0 : Nat) < 4294967296; decide
 | n + 1, h => by
  rw [orM_succ x n (by omega)]
  exact Nat.or_lt_two_pow (n := 32) (orM_lt hb n (by omega)) (mask_lt (hb.gs _ (List.getElem_mem _)).cpus).1
theorem orM_bit {x : Cf} (j : Nat) : ∀ n, n ≤ x.gs.length → (orM x n).testBit j = true → ∃ (i : Nat) (hi : i < x.gs.length), i < n ∧ (maskN x.gs[i]).testBit j = true
 | 0, _, h => by
  have : orM x 0 = 0 := rfl
  rw [this] at h
  simp at h
 | n + 1, hn, h => by
  rw [orM_succ x n (by omega), Nat.testBit_or, Bool.or_eq_true] at h
  rcases h with h | h
  · obtain ⟨i, hi, h1, h2⟩ := orM_bit j n (by omega) h
    exact ⟨i, hi, by omega, h2⟩
  · exact ⟨n, by omega, by omega, h⟩
theorem mask_new {b : Bd} {x : Cf} (h : CheckOk b x) {n : Nat} (hn : n < x.gs.length) : maskN x.gs[n] &&& orM x n = 0 := by
 rw [and_zero]
 intro j hj
 rw [← Bool.not_eq_true]
 intro hk
 obtain ⟨i, hi, h1, h2⟩ := orM_bit j n (by omega) hk
 have hc := (h.guests n hn).cpus
 unfold cpusB at hc
 rw [List.getElem?_eq_getElem hn] at hc
 simp only [Bool.and_eq_true, List.all_eq_true, List.mem_range] at hc
 have := hc.2 i h1
 rw [List.getElem?_eq_getElem hi, Option.getD_some, beq_iff_eq, and_zero] at this
 rw [this j hj] at h2
 cases h2
theorem irq_new {b : Bd} {x : Cf} (h : CheckOk b x) {n i : Nat} (hn : n < x.gs.length) (hi : i < x.gs[n].irqs.length) : inL (irqT x n x.gs[n] i) (.int .i64 x.gs[n].irqs[i].number) = false := by
 have hc := (h.guests n hn).irqs
 unfold irqsB at hc
 rw [List.all_eq_true] at hc
 have := hc i (List.mem_range.2 hi)
 rw [List.getElem?_eq_getElem hi] at this
 simp only [Bool.and_eq_true] at this
 have h2 := this.2
 rw [← irq_once x n i _ hn] at h2
 simpa using h2
theorem str_new {b : Bd} {x : Cf} (h : CheckOk b x) {n i : Nat} (hn : n < x.gs.length) (hi : i < x.gs[n].strs.length) : inL (strT x n x.gs[n] i) (.int .u32 x.gs[n].strs[i]) = false := by
 have hc := (h.guests n hn).strs
 unfold strsB at hc
 rw [List.all_eq_true] at hc
 have := hc i (List.mem_range.2 hi)
 rw [List.getElem?_eq_getElem hi] at this
 simp only [Bool.and_eq_true] at this
 have h2 := this.2
 rw [← str_once x n i _ hn] at h2
 simpa using h2
theorem wf_i64 {v : Int} (hv : i64B v) : (Lit.int .i64 v).wf = true := by unfold i64B at hv; simp [Lit.wf, IntKind.min, IntKind.max, IntKind.bits, IntKind.signed]; omega
theorem wf_u32 {v : Int} (hv : u32B v) : (Lit.int .u32 v).wf = true := by unfold u32B at hv; simp [Lit.wf, IntKind.min, IntKind.max, IntKind.bits, IntKind.signed]; omega
set_option maxHeartbeats 16000000 in
set_option maxRecDepth 100000 in
theorem validOwners_walk (b : Bd) (x : Cf) (a c : Value) (w : World) (hr : fit b.r) (hl : fit b.l) (hx : CfRW w w.heap.size x a c) (hb : CfB x) :
   Calls Tryz.prog 7 #[.agg (vec 7 (bdE b)), cfVal x a c] w fun e w' => e = .returned (.bool true) ∧ Below w.heap.size w w' := by
 obtain ⟨A, d, A2, d2, rfl, rfl, hch, hgu⟩ := cf_guest hx.1
 obtain ⟨NG, hNG⟩ : ∃ n, n = x.gs.length := ⟨_, rfl⟩
 obtain ⟨NC, hNC⟩ : ∃ n, n = x.chs.length := ⟨_, rfl⟩
 obtain ⟨V0, hV0⟩ : ∃ V, V = (w.alloc (.cells (vec 7 (bdE b)) 26)).alloc (.cells (vec 3 (cfE x.ver (.slice A NG d) (.slice A2 NC d2))) 31) := ⟨_, rfl⟩
 obtain ⟨r2, hr2⟩ : ∃ r, r = w.heap.size := ⟨_, rfl⟩
 obtain ⟨r3, hr3⟩ : ∃ r, r = w.heap.size + 1 := ⟨_, rfl⟩
 have k2 : Arr V0 r2 26 7 (bdE b) := by rw [hV0, hr2]; exact (Arr.new w _ _ _).alloc _
 have k3 : Arr V0 r3 31 3 (cfE x.ver (.slice A NG d) (.slice A2 NC d2)) := by rw [hV0, hr3]; exact Arr.newAt _ _ _ _ (by simp)
 have hB : Below w.heap.size w V0 := by rw [hV0]; exact (Below.alloc_own w _).alloc (by simp) _
 unfold cfVal
 rw [← hNG, ← hNC] at hx ⊢
 have HW := Lib.hid hV0
 have HR := Lib.hid (And.intro hr2 hr3)
 have H0 := Lib.hid (And.intro hB (And.intro (And.intro k2 k3) (fun (Y : World) (hY : Below V0.heap.size V0 Y) => (hx.below (hB.trans (hY.mono hB.size))).wide (Nat.le_trans hB.size hY.size))))
 have HCB := Lib.hid hb
 have HFIT := Lib.hid (And.intro hr hl)
 have HNG := Lib.hid (And.intro hNG hNC)
 clear hV0 k2 k3 hB hx hb hr2 hr3 hr hl hNG hNC hch hgu
 go_enter Tryz.func7, Tryz.ntmps7
 go_upto_region 1 with fail
 rw [← HW.out, ← HR.out.2, ← HR.out.1]
 clear HW HR
 go_upto_region 3 with (go_at_call 8; refine (awake17 _).mono ?_; rintro e V ⟨rfl, hd⟩; have HAW := Lib.hid hd; clear hd)
 have HV : Hid (Below w.heap.size w V) := Lib.hid (H0.out.1.trans (HAW.out.mono H0.out.1.size))
 have HK2 := Lib.hid (H0.out.2.1.1.under HAW.out)
 have HK3 := Lib.hid (H0.out.2.1.2.under HAW.out)
 have HX : Hid (∀ Y, Below V.heap.size V Y → CfRW Y Y.heap.size x (.slice A NG d) (.slice A2 NC d2)) := Lib.hid fun Y hY => H0.out.2.2 Y (HAW.out.trans (Below.mono hY HAW.out.size))
 have HD : Hid (Below V.heap.size V V) := Lib.hid (Below.refl _ _)
 clear H0 HAW
 obtain ⟨fx, hfx⟩ : ∃ f, f = fewC x := ⟨_, rfl⟩
 have HFA : Hid (∀ Y, Below V.heap.size V Y → Calls Tryz.prog 9 #[.agg (vec 3 (cfE x.ver (.slice A NG d) (.slice A2 NC d2)))] Y (FewP fx Y)) := Lib.hid (fun Y hY => by rw [hfx]; exact few_any x _ _ Y (HX.out Y hY).1)
 unfold FewP at HFA
 cases fx
 · clear hfx
   go_wp2_with (first
     | ((with_reducible show wpList _ _ _ (Oper.mk _ (.load 31 _) _ _ _ _ :: _) _ _); refine wl_load rfl 31 _ rfl r3 rfl _ (run_load_arr (HK3.out.under HD.out) Tryz.underlying31 rfl infoCf) ?_)
     | (go_at_call 9; refine (HFA.out _ HD.out).mono ?_; rintro e w1 ⟨rfl, hd⟩; have HD := Lib.hid hd; clear hd))
   go_ret
   exact ⟨rfl, HV.out.trans (HD.out.mono HV.out.size)⟩
 have HFW := Lib.hid hfx.symm
 clear hfx
 have hN20 : NG ≤ 20 := by rw [HNG.out.1]; exact (few_gs HFW.out).1
 have hC40 : NC ≤ 40 := by rw [HNG.out.2]; exact (few_gs HFW.out).2.1
 obtain ⟨R0, hR0⟩ : ∃ R, R = checkP b x := ⟨_, rfl⟩
 have HCK : Hid (∀ Y, Below V.heap.size V Y → Calls Tryz.prog 10 #[.agg (vec 7 (bdE b)), .agg (vec 3 (cfE x.ver (.slice A NG d) (.slice A2 NC d2)))] Y fun e w' => e = .returned (.tuple #[.int .i64 (R0.1 : Int), .int .i64 (R0.2.1 : Int), .int .i64 (R0.2.2 : Int)]) ∧ Below Y.heap.size Y w') := Lib.hid fun Y hY => by
   rw [hR0]
   exact kcheck_any x _ _ b Y (HX.out Y hY) HCB.out HFW.out HFIT.out.1 HFIT.out.2
 have HR0 := Lib.hid hR0
 clear hR0
 obtain ⟨q0, q1, q2⟩ := R0
 go_upto_region 5 with (first
     | ((with_reducible show wpList _ _ _ (Oper.mk _ (.load 31 _) _ _ _ _ :: _) _ _); refine wl_load rfl 31 _ rfl r3 rfl _ (run_load_arr (HK3.out.under HD.out) Tryz.underlying31 rfl infoCf) ?_)
     | (go_at_call 9; refine (HFA.out _ HD.out).mono ?_; rintro e w1 ⟨rfl, hd⟩; have HD := Lib.hid hd; clear hd))
 clear HFA
 by_cases hq : q2 = 0
 case neg =>
   have hq2 : ((q2 : Int) == 0) = false := by rw [beq_eq_false_iff_ne]; omega
   have hq3 : ¬ (q2 : Int) = 0 := by omega
   go_upto_region 6 with (first
     | ((with_reducible show wpList _ _ _ (Oper.mk _ (.load 26 _) _ _ _ _ :: _) _ _); refine wl_load rfl 26 _ rfl r2 rfl _ (run_load_arr (HK2.out.under HD.out) Tryz.underlying26 rfl infoBd) ?_)
     | ((with_reducible show wpList _ _ _ (Oper.mk _ (.load 31 _) _ _ _ _ :: _) _ _); refine wl_load rfl 31 _ rfl r3 rfl _ (run_load_arr (HK3.out.under HD.out) Tryz.underlying31 rfl infoCf) ?_)
     | (go_at_call 10; refine (HCK.out _ HD.out).mono ?_; rintro e w2 ⟨rfl, hd⟩; have HD := Lib.hid (HD.out.trans (Below.mono hd HD.out.size)); clear hd))
   go_wp2_with fail
   go_ret
   exact ⟨rfl, HV.out.trans (HD.out.mono HV.out.size)⟩
 subst hq
 have HOK : Hid (CheckOk b x) := Lib.hid (check_ok (by rw [← HR0.out]))
 go_upto_region 6 with (first
     | ((with_reducible show wpList _ _ _ (Oper.mk _ (.load 26 _) _ _ _ _ :: _) _ _); refine wl_load rfl 26 _ rfl r2 rfl _ (run_load_arr (HK2.out.under HD.out) Tryz.underlying26 rfl infoBd) ?_)
     | ((with_reducible show wpList _ _ _ (Oper.mk _ (.load 31 _) _ _ _ _ :: _) _ _); refine wl_load rfl 31 _ rfl r3 rfl _ (run_load_arr (HK3.out.under HD.out) Tryz.underlying31 rfl infoCf) ?_)
     | (go_at_call 10; refine (HCK.out _ HD.out).mono ?_; rintro e w2 ⟨rfl, hd⟩; have HD := Lib.hid (HD.out.trans (Below.mono hd HD.out.size)); clear hd))
 clear HCK
 go_upto_region 8 with fail
 have HCF1 : Hid (∀ Y, Below V.heap.size V Y → Y.cell? ⟨r3, 1, none⟩ = some (.slice A NG d)) := Lib.hid fun Y hY => (HK3.out.under hY).cell (i := 1) (by decide)
 obtain ⟨ys, hHM, HRW⟩ : ∃ ys : List GV, ys.map GV.g = x.gs ∧ Hid (∀ Y, Below V.heap.size V Y → GsR Y V.heap.size A ys) := by
   obtain ⟨-, A', d', ys, e1, hm, hr, -⟩ := HX.out V (Below.refl _ _)
   injection e1 with e1
   subst e1
   exact ⟨ys, hm, Lib.hid fun Y hY => hr.below hY⟩
 have HNM : Hid (∀ i (h1 : i < ys.length) (h2 : i < x.gs.length), ys[i].g = x.gs[i]) := Lib.hid fun i h1 h2 => by simp [← hHM]
 have HLEN : Hid (ys.length = x.gs.length) := Lib.hid (by rw [← hHM, List.length_map])
 clear hHM HX
 have hmm := @run_makeMap Tryz.prog
 go_upto_region 9 with fail
 clear hmm
 (try simp only [Act.put])
 obtain ⟨m1, hm1⟩ : ∃ m, m = w2.heap.size := ⟨_, rfl⟩
 obtain ⟨m2, hm2⟩ : ∃ m, m = w2.heap.size + 1 := ⟨_, rfl⟩
 obtain ⟨M, hM⟩ : ∃ M, M = (w2.alloc (.map #[] 0)).alloc (.map #[] 0) := ⟨_, rfl⟩
 have hb1 : Below w2.heap.size w2 (w2.alloc (.map #[] 0)) := (Below.refl _ _).alloc (Nat.le_refl _) _
 have hb2 : Below (w2.alloc (.map #[] 0)).heap.size (w2.alloc (.map #[] 0)) M := by rw [hM]; exact (Below.refl _ _).alloc (Nat.le_refl _) _
 have h0 : OSt V M m1 m2 (irqN x 0) (strN x 0) 0 0 := by
   have hs := HD.out.size
   refine ⟨⟨0, Nat.le_refl _, ?_⟩, ⟨0, Nat.le_refl _, ?_⟩, (HD.out.trans (hb1.mono HD.out.size)).trans (hb2.mono (by have := hb1.size; omega)), by omega⟩
   · rw [hm1]; exact (CntM.begin .i64 3 w2).under hb2
   · have := CntM.begin .u32 27 (w2.alloc (.map #[] 0))
     rw [← hM] at this
     rw [hm2]
     show CntM .u32 27 M (w2.heap.size + 1) 0 []
     simpa using this
 have HST := Lib.hid h0
 rw [← hM, ← hm2, ← hm1]
 have c1 := HCF1.out M h0.b
 clear hM hm1 hm2 hb1 hb2 h0
 go_upto_region 10 with fail
 clear c1
 go_loopw [10, 36] (fun u v W => ∃ i : Nat, i ≤ NG ∧ v = .int .i64 i ∧ u = .int .u32 ((orM x i : Nat) : Int) ∧ Hid (OSt V W m1 m2 (irqN x i) (strN x i) (70 * i) (40 * i))) (fun _ v _ => NG - (intOf v).toNat)
 case atStart => exact ⟨0, Nat.zero_le _, rfl, rfl, HST⟩
 case round =>
   clear HST HD
   obtain ⟨i, hi, rfl, rfl, HR⟩ := hrel
   obtain ⟨W, hW⟩ : ∃ W : World, W = wr := ⟨_, rfl⟩
   subst hW
   by_cases hlt : i < NG
   · have hig : (i : Int) < (NG : Int) := by omega
     have hix : i < x.gs.length := by have := HNG.out.1; omega
     have hny : i < ys.length := by have := HLEN.out; omega
     obtain ⟨a0, q, ea, hq, -, hcp⟩ := (HRW.out W HR.out.b).row.at hny
     obtain ⟨y, hy⟩ : ∃ y, y = ys[i] := ⟨_, rfl⟩
     rw [← hy] at hcp
     have hyg : y.g = x.gs[i] := by rw [hy]; exact HNM.out i hny hix
     have hgr : ∀ Y, Below V.heap.size V Y → GRow Y V.heap.size y := fun Y hY => by rw [hy]; exact (HRW.out Y hY).all _ (List.getElem_mem _)
     have hone : GV1 y := (hgr W HR.out.b).one
     obtain ⟨t, ht⟩ : ∃ t, t = x.gs[i] := ⟨_, rfl⟩
     obtain ⟨A3, e3, w3, -, -⟩ := (hgr W HR.out.b).ir
     obtain ⟨A4, e4, w4, -, -⟩ := (hgr W HR.out.b).st
     have HROW : Hid (∀ Y, Below V.heap.size V Y → RowE 3 irqE Y V.heap.size A3 t.irqs ∧ RowE 1 numE Y V.heap.size A4 t.strs) := Lib.hid fun Y hY => by
      obtain ⟨-, -, ⟨_, _, f3, g3, _⟩, ⟨_, _, f4, g4, _⟩⟩ := hgr Y hY
      rw [w3] at f3
      rw [w4] at f4
      injection f3 with f3
      injection f4 with f4
      rw [ht, ← hyg, f3, f4]
      exact ⟨g3, g4⟩
     rw [hyg, ← ht] at w3 w4
     have htb := HCB.out.gs _ (List.getElem_mem hix)
     have hfw := gFew_iff ((few_gs HFW.out).2.2 _ (List.getElem_mem hix))
     have hms := mask_lt htb.cpus
     have hnw := mask_new HOK.out hix
     have hol := orM_lt HCB.out i (by omega)
     have hos := orM_succ x i hix
     have hi1 : ∀ (j : Nat) (hj : j < x.gs[i].irqs.length), inL (irqT x i x.gs[i] j) (.int .i64 x.gs[i].irqs[j].number) = false := fun j hj => irq_new HOK.out hix hj
     have hi2 := irqT_succ x i x.gs[i]
     have hi3 := irqT_all x i hix
     have hs1 : ∀ (j : Nat) (hj : j < x.gs[i].strs.length), inL (strT x i x.gs[i] j) (.int .u32 x.gs[i].strs[j]) = false := fun j hj => str_new HOK.out hix hj
     have hs2 := strT_succ x i x.gs[i]
     have hs3 := strT_all x i hix
     rw [← ht] at htb hfw hms hnw hos hi1 hi2 hi3 hs1 hs2 hs3
     have HTB := Lib.hid htb
     have HI := Lib.hid (And.intro hi1 (And.intro hi2 hi3))
     have HS := Lib.hid (And.intro hs1 (And.intro hs2 hs3))
     obtain ⟨C, hC⟩ : ∃ C, C = maskN t := ⟨_, rfl⟩
     obtain ⟨O, hO⟩ : ∃ C, C = orM x i := ⟨_, rfl⟩
     obtain ⟨O2, hO2⟩ : ∃ C, C = orM x (i + 1) := ⟨_, rfl⟩
     rw [← hC] at hms hnw hos
     rw [← hO] at hnw hol hos ⊢
     rw [← hO2] at hos
     have hand : bits .and .u32 (C : Int) (O : Int) = 0 := by rw [u32_and_nat C O hms.1 hol, hnw]; rfl
     have hor : bits .or .u32 (O : Int) (C : Int) = (O2 : Int) := by rw [u32_or_nat O C hol hms.1, hos]
     have HO2 := Lib.hid hO2
     have HCP := Lib.hid hcp
     have HONE := Lib.hid hone
     obtain ⟨n3, hn3⟩ : ∃ n, n = t.irqs.length := ⟨_, rfl⟩
     obtain ⟨n4, hn4⟩ : ∃ n, n = t.strs.length := ⟨_, rfl⟩
     have hn3b : n3 ≤ 70 := by rw [hn3]; exact hfw.2.2.1
     have hn4b : n4 ≤ 40 := by rw [hn4]; exact hfw.2.2.2.1
     rw [← hn3] at w3
     rw [← hn4] at w4
     have HN34 := Lib.hid (And.intro hn3 hn4)
     have hg4 : guestE y 4 = .int .u32 (C : Int) := by show Value.int _ y.g.cpus = _; rw [hyg, ← ht, ← hms.2]
     subst ea
     clear hcp hy hyg hgr hone ht htb hfw hms hnw hol hos hi1 hi2 hi3 hs1 hs2 hs3 hC hO hO2 hn3 hn4 hny
     go_upto_region 12 with (first
      | ((with_reducible show wpList _ _ _ (Oper.mk _ (.load 63 _) _ _ _ _ :: _) _ _); refine wl_load_q rfl 63 _ rfl q rfl _ (run_load_q HCP.out Tryz.underlying63 rfl infoGu) ?_)
      | ((with_reducible show wpList _ _ _ (Oper.mk _ (.store 63 _ _) _ _ _ _ :: _) _ _); refine wl_store rfl 63 _ _ rfl _ rfl _ rfl (run_store_arr (Arr.new W _ _ _) (guestE y) infoGu (guestE_one _ HONE.out _)) ?_))
     obtain ⟨r5, hr5⟩ : ∃ r, r = W.heap.size := ⟨_, rfl⟩
     obtain ⟨X, hX⟩ : ∃ X, X = (W.alloc (.cells (vec 79 (guestE zGV)) 63)).setRow W.heap.size (vec 79 (guestE y)) := ⟨_, rfl⟩
     have bx : Below W.heap.size W X := by rw [hX]; exact below_row ((Below.refl _ _).alloc (Nat.le_refl _) _) (Nat.le_refl _) _
     have ax : Arr X r5 63 79 (guestE y) := by rw [hX, hr5]; exact (Arr.new W _ _ _).row _
     rw [← hX, ← hr5]
     have aw := ax.cell (i := 4) (by decide)
     have ai := ax.cell (i := 77) (by decide)
     have as4 := ax.cell (i := 78) (by decide)
     rw [hg4] at aw
     have ai' : X.cell? ⟨r5, 77, none⟩ = some (.slice A3 n3 e3) := by rw [ai]; exact congrArg some w3
     have HSV : Hid (∀ Y, Arr Y r5 63 79 (guestE y) → Y.cell? ⟨r5, 78, none⟩ = some (.slice A4 n4 e4)) := Lib.hid fun Y hY => (hY.cell (i := 78) (by decide)).trans (congrArg some w4)
     have hl := HR.out.lt
     have HNE : Hid (r5 ≠ m1 ∧ r5 ≠ m2) := Lib.hid (by omega)
     have HX0 := Lib.hid (And.intro (HR.out.under bx) ax)
     clear hX hr5 bx ax ai as4 w3 w4 hg4 hl HCP HR
     go_upto_region 16 with fail
     clear aw ai' hand hor
     have HX1 : Hid (OSt V X m1 m2 (irqT x i t 0) (strN x i) (70 * i + 0) (40 * i) ∧ Arr X r5 63 79 (guestE y)) := Lib.hid (by
      have e : irqT x i t 0 = irqN x i := by unfold irqT; simp
      rw [e]
      exact HX0.out)
     clear HX0
     go_loopw [52] (fun v W => ∃ j : Nat, j ≤ n3 ∧ v = .int .i64 j ∧ Hid (OSt V W m1 m2 (irqT x i t j) (strN x i) (70 * i + j) (40 * i) ∧ Arr W r5 63 79 (guestE y))) (fun v _ => n3 - (intOf v).toNat)
     case atStart => exact ⟨0, Nat.zero_le _, rfl, HX1⟩
     case round =>
      clear HX1
      obtain ⟨j, hj, rfl, HR⟩ := hrel
      obtain ⟨W, hW⟩ : ∃ W : World, W = wr := ⟨_, rfl⟩
      subst hW
      by_cases hlt2 : j < n3
      · have hji : (j : Int) < (n3 : Int) := by omega
        have hjl : j < t.irqs.length := by have := HN34.out.1; omega
        obtain ⟨b3, q3, eb, hq3, -, hcp⟩ := (HROW.out W HR.out.1.b).1.at hjl
        have hnew := HI.out.1 j hjl
        have hsucc := HI.out.2.1 j hjl
        have hyb := HTB.out.irqs _ (List.getElem_mem hjl)
        obtain ⟨yq, hyq⟩ : ∃ y, y = t.irqs[j] := ⟨_, rfl⟩
        rw [← hyq] at hcp hnew hsucc hyb
        obtain ⟨z, hz⟩ : ∃ z, z = yq.number := ⟨_, rfl⟩
        rw [← hz] at hnew hsucc
        have HKEY : Hid (keyOf Tryz.prog 3 (.int .i64 z) = some (.int .i64 z)) := Lib.hid (keyOf_int_mk Tryz.underlying3 (by rw [hz]; exact wf_i64 hyb.1))
        have HSUC := Lib.hid hsucc
        have HCP := Lib.hid hcp
        subst eb
        clear hcp hyb hsucc hyq hjl
        go_upto_region 18 with (first
      | ((with_reducible show wpList _ _ _ (Oper.mk _ (.load 65 _) _ _ _ _ :: _) _ _); refine wl_load_q rfl 65 _ rfl q3 rfl _ (run_load_q HCP.out Tryz.underlying65 rfl infoIr) ?_)
      | ((with_reducible show wpList _ _ _ (Oper.mk _ (.store 65 _ _) _ _ _ _ :: _) _ _); refine wl_store rfl 65 _ _ rfl _ rfl _ rfl (run_store_arr (Arr.new W _ _ _) (irqE yq) infoIr (irqE_one _ _)) ?_))
        obtain ⟨r7, hr7⟩ : ∃ r, r = W.heap.size := ⟨_, rfl⟩
        obtain ⟨X3, hX⟩ : ∃ X, X = (W.alloc (.cells (vec 3 (irqE zIr)) 65)).setRow W.heap.size (vec 3 (irqE yq)) := ⟨_, rfl⟩
        have bx : Below W.heap.size W X3 := by rw [hX]; exact below_row ((Below.refl _ _).alloc (Nat.le_refl _) _) (Nat.le_refl _) _
        have ax : Arr X3 r7 65 3 (irqE yq) := by rw [hX, hr7]; exact (Arr.new W _ _ _).row _
        rw [← hX, ← hr7]
        have d0 : X3.cell? ⟨r7, 0, none⟩ = some (.int .i64 z) := by rw [hz]; exact ax.cell (i := 0) (by decide)
        have hst := HR.out.1.under bx
        obtain ⟨n, hn, hcm⟩ := hst.c1
        obtain ⟨D, hown, hat0⟩ := hcm.ex
        have HC0 : Hid (D.atKey (.int .i64 z) (.lit (.int .i64 0)) = .lit (.int .i64 0)) := Lib.hid (by rw [hat0, hnew]; rfl)
        have HC1 : Hid ((D.put (.int .i64 z) (.lit (.int .i64 1))).atKey (.int .i64 z) (.lit (.int .i64 0)) = .lit (.int .i64 1)) := Lib.hid (atKey_put_same hown.isMap (show WideAt.IsKeyLit (.int .i64 z) from trivial) _ _)
        have HNB : Hid (n < maxLen) := Lib.hid (by unfold maxLen; omega)
        have HP : Hid (∀ w1 : World, w1.ownsMap Tryz.prog 3 (plainElem Tryz.prog 3) m1 (n + 1) (D.put (.int .i64 z) (.lit (.int .i64 1))) ∧ X3.grownBy w1 (some m1) → (OSt V w1 m1 m2 (irqT x i t (j + 1)) (strN x i) (70 * i + (j + 1)) (40 * i) ∧ Arr w1 r5 63 79 (guestE y)) ∧ w1.cell? ⟨r7, 0, none⟩ = some (.int .i64 z)) := Lib.hid fun w1 hw => by
         have hsv := Save.of_grown hw.2
         have h7 : r7 ≠ m1 := by have := HR.out.1.lt; omega
         refine ⟨⟨?_, (HR.out.2.under bx).save hsv HNE.out.1⟩, by rw [← d0]; exact ((ax.save hsv h7).cell (i := 0) (by decide)).trans (ax.cell (i := 0) (by decide)).symm⟩
         rw [HSUC.out]
         exact hst.put1 hn hown hat0 hw.1 hw.2
        have HOWN := Lib.hid hown
        clear hX hr7 bx ax hst hn hcm hown hat0 hnew hz HCP HSUC
        go_upto_region 19 with (first
         | (at_lookup; refine wpList_lookup_own_int _ rfl _ _ 56 rfl 3 3 .i64 lawI17 Tryz.underlying56 Tryz.underlying3 (zeroI17 _) m1 _ _ rfl HOWN.out _ _ rfl HKEY.out ?_; intro c hat hwc; obtain rfl := lit_i (HC0.out.symm.trans hat); clear hat hwc)
         | (at_mapUpdate; refine wpList_mapUpdate_own _ rfl _ _ _ 56 rfl 3 3 lawI17 Tryz.underlying56 (plainElem Tryz.prog 3) m1 _ _ rfl HOWN.out HNB.out _ _ _ rfl rfl HKEY.out _ [] (plainElem_int Tryz.underlying3 (by decide)) ?_; intro w1 hown1 hgrow1; have HO1 := Lib.hid (And.intro hown1 hgrow1); clear hown1 hgrow1))
        have d1 := (HP.out w1 HO1.out).2
        clear d0 HOWN
        go_wp2_with (at_lookup; refine wpList_lookup_own_int _ rfl _ _ 56 rfl 3 3 .i64 lawI17 Tryz.underlying56 Tryz.underlying3 (zeroI17 _) m1 _ _ rfl HO1.out.1 _ _ rfl HKEY.out ?_; intro c hat hwc; obtain rfl := lit_i (HC1.out.symm.trans hat); clear hat hwc)
        go_roundw
        case rel => exact ⟨j + 1, by omega, by go_num, Lib.hid (HP.out w1 HO1.out).1⟩
        case measure => simp [intOf]; omega
      · obtain rfl : j = n3 := by omega
        have hjj : ¬ (j : Int) < (j : Int) := by omega
        have as4 := HSV.out W HR.out.2
        go_upto_region 23 with fail
        clear as4 hjj
        have HX2 : Hid (OSt V W m1 m2 (irqN x (i + 1)) (strT x i t 0) (70 * i + j) (40 * i + 0) ∧ Arr W r5 63 79 (guestE y)) := Lib.hid (by
         have e : strT x i t 0 = strN x i := by unfold strT; simp
         have h := HR.out
         rw [e, ← HI.out.2.2]
         rw [HN34.out.1] at h ⊢
         exact h)
        clear HR
        go_loopw [70] (fun v W => ∃ k : Nat, k ≤ n4 ∧ v = .int .i64 k ∧ Hid (OSt V W m1 m2 (irqN x (i + 1)) (strT x i t k) (70 * i + j) (40 * i + k) ∧ Arr W r5 63 79 (guestE y))) (fun v _ => n4 - (intOf v).toNat)
        case atStart => exact ⟨0, Nat.zero_le _, rfl, HX2⟩
        case round =>
         clear HX2
         obtain ⟨k, hk, rfl, HR⟩ := hrel
         obtain ⟨W, hW⟩ : ∃ W : World, W = wr := ⟨_, rfl⟩
         subst hW
         by_cases hlt3 : k < n4
         · have hki : (k : Int) < (n4 : Int) := by omega
           have hkl : k < t.strs.length := by have := HN34.out.2; omega
           obtain ⟨b3, p, eb, hq3, -, hcp⟩ := (HROW.out W HR.out.1.b).2.at hkl
           have hnew := HS.out.1 k hkl
           have HSUC := Lib.hid (HS.out.2.1 k hkl)
           have hyb := HTB.out.strs _ (List.getElem_mem hkl)
           obtain ⟨z, hz⟩ : ∃ y, y = t.strs[k] := ⟨_, rfl⟩
           rw [← hz] at hcp hnew HSUC hyb
           have hc0 : W.cell? p = some (.int .u32 z) := by have h := hcp 0 (by decide); rw [show p.add 0 = p by simp [Addr.add]] at h; exact h
           rw [Nat.mul_one] at hq3
           have HKEY : Hid (keyOf Tryz.prog 27 (.int .u32 z) = some (.int .u32 z)) := Lib.hid (keyOf_int_mk Tryz.underlying27 (wf_u32 hyb))
           obtain ⟨n, hn, hcm⟩ := HR.out.1.c2
           obtain ⟨D, hown, hat0⟩ := hcm.ex
           have HC0 : Hid (D.atKey (.int .u32 z) (.lit (.int .i64 0)) = .lit (.int .i64 0)) := Lib.hid (by rw [hat0, hnew]; rfl)
           have HC1 : Hid ((D.put (.int .u32 z) (.lit (.int .i64 1))).atKey (.int .u32 z) (.lit (.int .i64 0)) = .lit (.int .i64 1)) := Lib.hid (atKey_put_same hown.isMap (show WideAt.IsKeyLit (.int .u32 z) from trivial) _ _)
           have HNB : Hid (n < maxLen) := Lib.hid (by unfold maxLen; omega)
           have HP : Hid (∀ w1 : World, w1.ownsMap Tryz.prog 27 (plainElem Tryz.prog 3) m2 (n + 1) (D.put (.int .u32 z) (.lit (.int .i64 1))) ∧ W.grownBy w1 (some m2) → OSt V w1 m1 m2 (irqN x (i + 1)) (strT x i t (k + 1)) (70 * i + j) (40 * i + (k + 1)) ∧ Arr w1 r5 63 79 (guestE y)) := Lib.hid fun w1 hw => by
            refine ⟨?_, HR.out.2.save (Save.of_grown hw.2) HNE.out.2⟩
            rw [HSUC.out]
            exact HR.out.1.put2 hn hown hat0 hw.1 hw.2
           have HOWN := Lib.hid hown
           subst eb
           clear hcp hyb hz hn hcm hown hat0 hnew hkl HSUC
           go_upto_region 26 with (first
            | (at_lookup; refine wpList_lookup_own_int _ rfl _ _ 57 rfl 27 3 .i64 lawU17 Tryz.underlying57 Tryz.underlying3 (zeroI17 _) m2 _ _ rfl HOWN.out _ _ rfl HKEY.out ?_; intro c hat hwc; obtain rfl := lit_i (HC0.out.symm.trans hat); clear hat hwc)
            | (at_mapUpdate; refine wpList_mapUpdate_own _ rfl _ _ _ 57 rfl 27 3 lawU17 Tryz.underlying57 (plainElem Tryz.prog 3) m2 _ _ rfl HOWN.out HNB.out _ _ _ rfl rfl HKEY.out _ [] (plainElem_int Tryz.underlying3 (by decide)) ?_; intro w1 hown1 hgrow1; have HO1 := Lib.hid (And.intro hown1 hgrow1); clear hown1 hgrow1))
           clear hc0 HOWN
           go_wp2_with (at_lookup; refine wpList_lookup_own_int _ rfl _ _ 57 rfl 27 3 .i64 lawU17 Tryz.underlying57 Tryz.underlying3 (zeroI17 _) m2 _ _ rfl HO1.out.1 _ _ rfl HKEY.out ?_; intro c hat hwc; obtain rfl := lit_i (HC1.out.symm.trans hat); clear hat hwc)
           go_roundw
           case rel => exact ⟨k + 1, by omega, by go_num, Lib.hid (HP.out w1 HO1.out)⟩
           case measure => simp [intOf]; omega
         · obtain rfl : k = n4 := by omega
           have HE : Hid (OSt V W m1 m2 (irqN x (i + 1)) (strN x (i + 1)) (70 * (i + 1)) (40 * (i + 1))) := Lib.hid (by
            have h := HR.out.1
            have e : strT x i t k = strN x (i + 1) := by rw [HN34.out.2]; exact HS.out.2.2
            rw [e] at h
            obtain ⟨⟨n1, u1, u2⟩, ⟨n2, u3, u4⟩, u5, u6⟩ := h
            exact ⟨⟨n1, by omega, u2⟩, ⟨n2, by omega, u4⟩, u5, u6⟩)
           go_wp2_with fail
           go_roundw
           case rel => exact ⟨i + 1, by omega, by go_num, by rw [HO2.out], HE⟩
           case measure => simp [intOf]; omega
   · obtain rfl : i = NG := by omega
     go_wp2_with fail
     go_ret
     exact ⟨rfl, HV.out.trans (HR.out.b.mono HV.out.size)⟩
end Go.Proofs.YtkaipknkjocfiaaGreat
