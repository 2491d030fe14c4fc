/- The code's Put, whole; the laws of stage 18. -/
import Derived.Test.YtblmikmmmomflaaFe
namespace Go.Proofs.Ytblmikmmmomflaa
open Go.RowKit
attribute [local go_sem ↓ high] zeroDs zeroPl zeroFld builtin_appS

theorem low_or (m r w f k : Bool) : ((if m then 1 else 15) * 2 ^ 2 ||| r.toNat * 2 ^ 6 ||| w.toNat * 2 ^ 7 ||| (if m then 2 else 3) * 2 ^ 8 ||| f.toNat * 2 ^ 10 ||| (if k then 3 else 1)) =
    (if m then 516 else 828) + r.toNat * 64 + w.toNat * 128 + f.toNat * 1024 + (if k then 3 else 1) := by
  cases m <;> cases r <;> cases w <;> cases f <;> cases k <;> decide
theorem page_or {pa c : Nat} (hp : pa % 4096 = 0) (hc : c < 4096) : pa ||| c = pa + c := by
  obtain ⟨q, rfl⟩ : ∃ q, pa = q * 4096 := ⟨pa / 4096, by omega⟩
  rw [show q * 4096 = q <<< 12 by rw [Nat.shiftLeft_eq], ← Nat.shiftLeft_add_eq_or_of_lt (show c < 2 ^ 12 from hc)]
theorem top_or {a : Nat} (x : Bool) (ha : a < 2 ^ 54) : a ||| x.toNat * 2 ^ 54 = a + x.toNat * 2 ^ 54 := by
  rw [Nat.or_comm, ← Nat.shiftLeft_eq, ← Nat.shiftLeft_add_eq_or_of_lt ha, Nat.add_comm]
theorem or_turn (p a r w s f x k : Nat) : (((((((0 ||| p) ||| a) ||| r) ||| w) ||| s) ||| f) ||| x) ||| k = (p ||| (a ||| r ||| w ||| s ||| f ||| k)) ||| x := by
  rw [Nat.zero_or]
  ac_rfl
theorem join_map {pa : Nat} {kd pm mm : Int} {af : Bool} (k : Bool) (hp : pa < 1099511627776) (h4 : pa % 4096 = 0) :
    joinN (mapF ⟨kd, pa, pm, mm, af⟩ ++ [(if k then 3 else 1, 0)]) = pa + (if k then 3 else 1) + (if mm = 1 then 516 else 828) + (if pm % 2 = 1 then 64 else 0) + (if pm / 2 % 2 = 1 then 128 else 0) + (if af then 1024 else 0) + (if pm / 4 % 2 = 0 then 18014398509481984 else 0) := by
  have e : joinN (mapF ⟨kd, pa, pm, mm, af⟩ ++ [(if k then 3 else 1, 0)]) = (((((((0 ||| pa) ||| (if decide (mm = 1) then 1 else 15) * 2 ^ 2) ||| (pm % 2 == 1).toNat * 2 ^ 6) ||| (pm / 2 % 2 == 1).toNat * 2 ^ 7) ||| (if decide (mm = 1) then 2 else 3) * 2 ^ 8) ||| af.toNat * 2 ^ 10) ||| (pm / 4 % 2 == 0).toNat * 2 ^ 54) ||| (if k then 3 else 1) := by
    simp only [joinN, mapF, List.cons_append, List.nil_append, List.foldl_cons, List.foldl_nil, Nat.pow_zero, Nat.mul_one, decide_eq_true_eq]
  have b1 : ∀ b : Bool, b.toNat ≤ 1 := fun b => by cases b <;> decide
  rw [e, or_turn, low_or]
  obtain ⟨c, hc⟩ : ∃ c : Nat, c = (if decide (mm = 1) then 516 else 828) + (pm % 2 == 1).toNat * 64 + (pm / 2 % 2 == 1).toNat * 128 + af.toNat * 1024 + (if k then 3 else 1) := ⟨_, rfl⟩
  have hc2 : c < 4096 := by
    have h1 := b1 (pm % 2 == 1)
    have h2 := b1 (pm / 2 % 2 == 1)
    have h3 := b1 af
    have h5 : (if decide (mm = 1) then 516 else 828) ≤ 828 := by split <;> decide
    have h6 : (if k then 3 else 1) ≤ 3 := by split <;> decide
    omega
  rw [← hc, page_or h4 hc2, top_or _ (by omega), hc, show (2 : Nat) ^ 54 = 18014398509481984 from rfl]
  have t : ∀ (P : Prop) [Decidable P] (b : Bool), (b = true ↔ P) → ∀ n, b.toNat * n = if P then n else 0 := fun P _ b h n => by
    cases b
    · rw [if_neg (fun hh => by simp at h; exact h hh)]; simp
    · rw [if_pos (h.1 rfl)]; simp
  rw [t (pm % 2 = 1) (pm % 2 == 1) (by simp) 64, t (pm / 2 % 2 = 1) (pm / 2 % 2 == 1) (by simp) 128, t (af = true) af (by simp) 1024, t (pm / 4 % 2 = 0) (pm / 4 % 2 == 0) (by simp) 18014398509481984]
  simp only [decide_eq_true_eq]
  omega
theorem put_word {L : Int} {d : Ds} (h : isPut L d = true) : joinN (fieldsF d) = putW L d ∧ (d.kind = 0 ∨ d.kind = 1 ∨ ((d.kind = 2 ∨ d.kind = 3) ∧ 0 ≤ d.perm ∧ d.perm ≤ 7)) := by
  unfold isPut inLv at h
  simp only [Bool.and_eq_true, decide_eq_true_eq, Bool.or_eq_true] at h
  obtain ⟨⟨l1, l2, hp⟩, h⟩ := h
  rcases h with h | ⟨h0, h⟩ | ⟨h0, h⟩
  · unfold isNone at h
    obtain ⟨k, pa, perm, mem, af⟩ := d
    simp only [Bool.and_eq_true, beq_iff_eq, Bool.not_eq_true'] at h
    obtain ⟨rfl, rfl, rfl, rfl, rfl⟩ := h
    exact ⟨rfl, .inl rfl⟩
  · unfold isTab at h
    obtain ⟨k, pa, perm, mem, af⟩ := d
    simp only [Bool.and_eq_true, beq_iff_eq, Bool.not_eq_true', beq_eq_false_iff_ne] at h h0 hp
    obtain ⟨h3, h4, rfl, rfl, rfl⟩ := h
    subst h0
    refine ⟨?_, .inr (.inl rfl)⟩
    show joinN [(pa, 0), (3, 0)] = pa + 3
    simp only [joinN, List.foldl_cons, List.foldl_nil, Nat.pow_zero, Nat.mul_one, Nat.zero_or]
    exact page_or h4 (by decide)
  · unfold isBlk at h
    simp only [Bool.and_eq_true, beq_iff_eq, decide_eq_true_eq] at h h0
    obtain ⟨hk, hm, h1, h2, h3, h4⟩ := h
    have hL : L = 1 ∨ L = 2 ∨ L = 3 := by omega
    have hpa : d.pa % 4096 = 0 := by
      rcases hL with rfl | rfl | rfl
      · rw [show sizeP 1 = 1073741824 from rfl] at hm; omega
      · rw [show sizeP 2 = 2097152 from rfl] at hm; omega
      · exact hm
    refine ⟨?_, .inr (.inr ⟨h0, h1, h2⟩)⟩
    obtain ⟨k, pa, perm, mem, af⟩ := d
    simp only at h0 hk hp hpa h1 h2 h3 h4
    have hmm : (if mem = 0 then 828 else 516) = if mem = 1 then 516 else 828 := by
      by_cases hm1 : mem = 1
      · rw [if_pos hm1, if_neg (by omega)]
      · rw [if_neg hm1, if_pos (by omega)]
    rcases h0 with rfl | rfl
    · have hL3 : ¬ L = 3 := by
        intro h5
        rw [h5] at hk
        simp at hk
      show joinN (mapF ⟨2, pa, perm, mem, af⟩ ++ [(1, 0)]) = wordP L ⟨2, pa, perm, mem, af⟩
      have h := join_map (kd := 2) (pm := perm) (mm := mem) (af := af) false hp hpa
      simp only [Bool.false_eq_true, if_false] at h
      rw [h]
      unfold wordP
      simp only [if_neg hL3, hmm]
      try omega
    · have hL3 : L = 3 := by
        by_cases h5 : L = 3
        · exact h5
        · rw [show (L == 3) = false by simpa using h5] at hk
          simp at hk
      show joinN (mapF ⟨3, pa, perm, mem, af⟩ ++ [(3, 0)]) = wordP L ⟨3, pa, perm, mem, af⟩
      have h := join_map (kd := 3) (pm := perm) (mm := mem) (af := af) true hp hpa
      simp only [if_true] at h
      rw [h]
      unfold wordP
      simp only [if_pos hL3, hmm]
      try omega
theorem fieldsF_ok {L : Int} {d : Ds} (h : isPut L d = true) : (fieldsF d).length ≤ 100 ∧ ∀ y ∈ fieldsF d, y.1 < 2 ^ 64 ∧ y.2 ≤ 63 ∧ y.1 * 2 ^ y.2 < 2 ^ 64 := by
  have hp : d.pa < 1099511627776 := by
    unfold isPut inLv at h
    simp only [Bool.and_eq_true, decide_eq_true_eq] at h
    exact h.1.2.2
  have hb : ∀ b : Bool, b.toNat < 2 := fun b => by cases b <;> decide
  have hq : ∀ y : Nat × Nat, (y = (d.pa, 0) ∨ (y.1 < 16 ∧ y.2 ≤ 55)) → y.1 < 2 ^ 64 ∧ y.2 ≤ 63 ∧ y.1 * 2 ^ y.2 < 2 ^ 64 := by
    rintro ⟨a, b⟩ (h | ⟨h1, h2⟩)
    · cases h
      exact ⟨by show d.pa < 2 ^ 64; omega, Nat.zero_le _, by show d.pa * 2 ^ 0 < 2 ^ 64; omega⟩
    · refine ⟨by simp only at h1 ⊢; omega, by simp only at h2 ⊢; omega, ?_⟩
      simp only at h1 h2 ⊢
      exact Nat.lt_of_lt_of_le (Nat.mul_lt_mul_of_pos_right h1 (Nat.pos_of_ne_zero (by simp))) (by rw [show 16 = 2 ^ 4 from rfl, ← Nat.pow_add]; exact Nat.pow_le_pow_right (by decide) (by omega))
  have hm : ∀ y ∈ mapF d, y = (d.pa, 0) ∨ (y.1 < 16 ∧ y.2 ≤ 55) := by
    intro y hy
    unfold mapF at hy
    simp only [List.mem_cons, List.not_mem_nil, or_false] at hy
    rcases hy with rfl | rfl | rfl | rfl | rfl | rfl | rfl
    · exact .inl rfl
    · exact .inr ⟨by simp only; split <;> decide, by (simp only; omega)⟩
    · exact .inr ⟨Nat.lt_trans (hb _) (by decide), by (simp only; omega)⟩
    · exact .inr ⟨Nat.lt_trans (hb _) (by decide), by (simp only; omega)⟩
    · exact .inr ⟨by simp only; split <;> decide, by (simp only; omega)⟩
    · exact .inr ⟨Nat.lt_trans (hb _) (by decide), by (simp only; omega)⟩
    · exact .inr ⟨Nat.lt_trans (hb _) (by decide), by (simp only; omega)⟩
  have ha : ∀ n, n < 16 → ∀ y ∈ mapF d ++ [(n, 0)], y.1 < 2 ^ 64 ∧ y.2 ≤ 63 ∧ y.1 * 2 ^ y.2 < 2 ^ 64 := fun n hn y hy => by
    rcases List.mem_append.1 hy with h | h
    · exact hq y (hm y h)
    · rw [List.mem_singleton] at h
      subst h
      exact hq _ (.inr ⟨hn, Nat.zero_le _⟩)
  unfold fieldsF
  split
  · refine ⟨by simp, fun y hy => ?_⟩
    simp only [List.mem_cons, List.not_mem_nil, or_false] at hy
    rcases hy with rfl | rfl
    · exact hq _ (.inl rfl)
    · exact hq _ (.inr (by decide))
  · split
    · exact ⟨by simp [mapF], ha 1 (by decide)⟩
    · split
      · exact ⟨by simp [mapF], ha 3 (by decide)⟩
      · exact ⟨by decide, fun y hy => by simp at hy⟩
set_option maxRecDepth 100000 in
theorem fields0 (pa : Nat) (pm mm : Int) (af : Bool) (L : Int) (W : World) : Calls Try.prog 16 #[.agg (vec 6 (plE ⟨0, pa, pm, mm, af⟩ L))] W fun e w' => ∃ A c, e = .returned (.slice A (fieldsF ⟨0, pa, pm, mm, af⟩).length c) ∧ OwnF w' W.heap.size (.slice A (fieldsF ⟨0, pa, pm, mm, af⟩).length c) (fieldsF ⟨0, pa, pm, mm, af⟩) ∧ Below W.heap.size W w' := by
  rw [show fieldsF ⟨0, pa, pm, mm, af⟩ = [] from rfl]
  obtain ⟨r, hr⟩ : ∃ r, r = W.heap.size := ⟨_, rfl⟩
  obtain ⟨V1, hV⟩ : ∃ V, V = W.alloc (.cells (vec 6 (plE ⟨0, pa, pm, mm, af⟩ L)) 35) := ⟨_, rfl⟩
  have ar : Arr V1 r 35 6 (plE ⟨0, pa, pm, mm, af⟩ L) := by rw [hV, hr]; exact Arr.new _ _ _ _
  have HB0 : Hid (Below W.heap.size W V1) := Lib.hid (by rw [hV]; exact (Below.refl _ _).alloc (Nat.le_refl _) _)
  have c0 : V1.cell? ⟨r, 0, none⟩ = some (.int .i64 0) := ar.cell (i := 0) (by decide)
  have HV := Lib.hid hV
  have HR := Lib.hid hr
  clear hV hr ar
  go_enter Try.func16, Try.ntmps16
  go_upto_region 1 with fail
  rw [← HV.out, ← HR.out]
  clear HV HR
  go_wp2_with fail
  go_ret
  exact ⟨_, _, rfl, OwnE.nil _ _, HB0.out⟩
theorem fields_any (L : Int) (d : Ds) (W : World) (h : isPut L d = true) : Calls Try.prog 16 #[.agg (vec 6 (plE d L))] W fun e w' => ∃ A c, e = .returned (.slice A (fieldsF d).length c) ∧ RowE 2 fldE w' w'.heap.size A (fieldsF d) ∧ Below W.heap.size W w' := by
  have hk := (put_word h).2
  obtain ⟨k, pa, pm, mm, af⟩ := d
  have hrow : ∀ {l : List (Nat × Nat)} {w' : World} {A : Option Addr} {c b : Nat}, OwnF w' b (.slice A l.length c) l → RowE 2 fldE w' w'.heap.size A l := fun ho => by
    obtain ⟨A2, c2, e, _, hr, _⟩ := OwnE.form ho
    cases e
    exact hr
  simp only at hk
  have hall : Calls Try.prog 16 #[.agg (vec 6 (plE ⟨k, pa, pm, mm, af⟩ L))] W fun e w' => ∃ A c, e = .returned (.slice A (fieldsF ⟨k, pa, pm, mm, af⟩).length c) ∧ OwnF w' W.heap.size (.slice A (fieldsF ⟨k, pa, pm, mm, af⟩).length c) (fieldsF ⟨k, pa, pm, mm, af⟩) ∧ Below W.heap.size W w' := by
    rcases hk with rfl | rfl | ⟨rfl | rfl, hp⟩
    · exact fields0 pa pm mm af L W
    · exact fields1 pa pm mm af L W
    · exact fields2 pa pm mm af L W hp
    · exact fields3 pa pm mm af L W hp
  refine hall.mono ?_
  rintro e w' ⟨A, c, rfl, ho, hb⟩
  exact ⟨A, c, rfl, hrow ho, hb⟩
set_option maxRecDepth 100000 in
set_option maxHeartbeats 1000000 in
theorem code_put : CodePut := by
  intro L d W _ _
  unfold PutC putP
  obtain ⟨r1, hr1⟩ : ∃ r, r = W.heap.size := ⟨_, rfl⟩
  obtain ⟨V1, hV1⟩ : ∃ V, V = W.alloc (.cells (vec 5 (descE d)) 25) := ⟨_, rfl⟩
  have HA1 : Hid (Arr V1 r1 25 5 (descE d)) := Lib.hid (by rw [hV1, hr1]; exact Arr.new _ _ _ _)
  have HB1 : Hid (Below W.heap.size W V1) := Lib.hid (by rw [hV1]; exact (Below.refl _ _).alloc (Nat.le_refl _) _)
  obtain ⟨r2, hr2⟩ : ∃ r, r = V1.heap.size := ⟨_, rfl⟩
  obtain ⟨V2, hV2⟩ : ∃ V, V = (V1.alloc (.cells (vec 6 (plE zDs 0)) 35)).setRow V1.heap.size (vec 6 (plE d L)) := ⟨_, rfl⟩
  have HA2 : Hid (Arr V2 r2 35 6 (plE d L)) := Lib.hid (by rw [hV2, hr2]; exact (Arr.new _ _ _ _).row _)
  have HB2 : Hid (Below W.heap.size W V2) := Lib.hid (by
    rw [hV2]
    exact HB1.out.trans ((below_row ((Below.refl _ _).alloc (Nat.le_refl _) _) (Nat.le_refl _) _).mono HB1.out.size))
  have HM := Lib.hid (mayBe_any L d)
  have HV1 := Lib.hid hV1
  have HV2 := Lib.hid hV2
  have HR1 := Lib.hid hr1
  have HR2 := Lib.hid hr2
  clear hV1 hV2 hr1 hr2
  by_cases hp : isPut L d = true
  · have HW := Lib.hid (put_word hp).1
    have HK := Lib.hid (fieldsF_ok hp)
    have HF := Lib.hid fun (W : World) => fields_any L d W hp
    rw [if_pos hp]
    rw [hp] at HM
    obtain ⟨l, hl⟩ : ∃ l, l = fieldsF d := ⟨_, rfl⟩
    obtain ⟨x, hx⟩ : ∃ x, x = putW L d := ⟨_, rfl⟩
    rw [← hl] at HW HK HF
    rw [← hx] at HW ⊢
    have HJ : Hid (∀ (A : Option Addr) (c : Nat) (w : World), RowE 2 fldE w w.heap.size A l → Calls Try.prog 15 #[.slice A l.length c] w fun e w' => e = .returned (.int .u64 (x : Int)) ∧ Below w.heap.size w w') := Lib.hid fun A c w hr => by
      have h := join_any l A c w hr HK.out.1 HK.out.2
      rw [HW.out] at h
      exact h
    clear hl hx HW HK hp
    go_enter Try.func12, Try.ntmps12
    go_upto_region 1 with fail
    rw [← HV1.out, ← HR1.out]
    go_upto_region 2 with (first
      | ((with_reducible show wpList _ _ _ (Oper.mk _ (.load 25 _) _ _ _ _ :: _) _ _); refine wl_load rfl 25 _ rfl r1 rfl _ (run_load_arr HA1.out Try.underlying25 rfl infoDs) ?_)
      | ((with_reducible show wpList _ _ _ (Oper.mk _ (.build _ _) _ _ _ _ :: _) _ _); refine wl_build rfl 35 _ rfl (vec 6 (plE d L)) (by kernel_rfl) ?_)
      | ((with_reducible show wpList _ _ _ (Oper.mk _ (.store 35 _ _) _ _ _ _ :: _) _ _); refine wl_store rfl 35 _ _ rfl _ rfl _ rfl (run_store_arr (Arr.new V1 _ _ _) (plE d L) infoPl (plE_one _ _)) ?_))
    rw [← HV2.out, ← HR2.out]
    clear HV1 HV2 HR1 HR2
    go_upto_region 4 with (first
      | ((with_reducible show wpList _ _ _ (Oper.mk _ (.load 35 _) _ _ _ _ :: _) _ _); refine wl_load rfl 35 _ rfl r2 rfl _ (run_load_arr HA2.out Try.underlying35 rfl infoPl) ?_)
      | (go_at_call 14; refine (HM.out _).mono ?_; rintro e w2 ⟨rfl, hd⟩; have HD2 := Lib.hid hd; clear hd))
    go_wp2_with (first
      | ((with_reducible show wpList _ _ _ (Oper.mk _ (.load 35 _) _ _ _ _ :: _) _ _); refine wl_load rfl 35 _ rfl r2 rfl _ (run_load_arr (HA2.out.under HD2.out) Try.underlying35 rfl infoPl) ?_)
      | (go_at_call 16; refine (HF.out _).mono ?_; rintro e w3 ⟨A, c, rfl, hr, hd⟩; have HRW := Lib.hid hr; have HD3 := Lib.hid hd; clear hd hr)
      | (go_at_call 15; refine (HJ.out _ _ _ HRW.out).mono ?_; rintro e w4 ⟨rfl, hd⟩; have HD4 := Lib.hid hd; clear hd))
    refine bodyPost_ret (results_tmp2 rfl _ _ _) rfl ?_
    have b3 := HB2.out.trans (HD2.out.mono HB2.out.size)
    have b4 := b3.trans (HD3.out.mono b3.size)
    exact ⟨rfl, b4.trans (HD4.out.mono b4.size)⟩
  · rw [if_neg hp]
    have hpf : isPut L d = false := by simpa using hp
    rw [hpf] at HM
    clear hp hpf
    go_enter Try.func12, Try.ntmps12
    go_upto_region 1 with fail
    rw [← HV1.out, ← HR1.out]
    go_upto_region 2 with (first
      | ((with_reducible show wpList _ _ _ (Oper.mk _ (.load 25 _) _ _ _ _ :: _) _ _); refine wl_load rfl 25 _ rfl r1 rfl _ (run_load_arr HA1.out Try.underlying25 rfl infoDs) ?_)
      | ((with_reducible show wpList _ _ _ (Oper.mk _ (.build _ _) _ _ _ _ :: _) _ _); refine wl_build rfl 35 _ rfl (vec 6 (plE d L)) (by kernel_rfl) ?_)
      | ((with_reducible show wpList _ _ _ (Oper.mk _ (.store 35 _ _) _ _ _ _ :: _) _ _); refine wl_store rfl 35 _ _ rfl _ rfl _ rfl (run_store_arr (Arr.new V1 _ _ _) (plE d L) infoPl (plE_one _ _)) ?_))
    rw [← HV2.out, ← HR2.out]
    clear HV1 HV2 HR1 HR2
    go_wp2_with (first
      | ((with_reducible show wpList _ _ _ (Oper.mk _ (.load 35 _) _ _ _ _ :: _) _ _); refine wl_load rfl 35 _ rfl r2 rfl _ (run_load_arr HA2.out Try.underlying35 rfl infoPl) ?_)
      | (go_at_call 14; refine (HM.out _).mono ?_; rintro e w2 ⟨rfl, hd⟩; have HD2 := Lib.hid hd; clear hd))
    refine bodyPost_ret (results_tmp2 rfl _ _ _) rfl ?_
    exact ⟨rfl, HB2.out.trans (HD2.out.mono HB2.out.size)⟩
theorem descReads_walk (L : Int) (n : Nat) (W : World) (bd : LevB L) (hn : n < 2 ^ 64) : Calls Try.prog 3 #[.int .i64 L, .int .u64 (n : Int)] W fun e w' => e = .returned (.bool true) ∧ Below W.heap.size W w' :=
  descReads_law code_of code_put L bd n hn W
theorem descFields_walk (n : Nat) (hi lo : Int) (W : World) (hn : n < 2 ^ 64) (b1 : LevB hi) (b2 : LevB lo) : Calls Try.prog 4 #[.int .u64 (n : Int), .int .i64 hi, .int .i64 lo] W fun e w' => e = .returned (.bool true) ∧ Below W.heap.size W w' :=
  descFields_law code_of code_put code_field n hn hi lo b1 b2 W
theorem descBack_walk (L : Int) (D : Ds) (W : World) (bd : LevB L) (hd : DsB D) : Calls Try.prog 5 #[.int .i64 L, .agg (vec 5 (descE D))] W fun e w' => e = .returned (.bool true) ∧ Below W.heap.size W w' :=
  descBack_law code_of code_put L bd D hd W
theorem descOnce_walk (L : Int) (n : Nat) (W : World) (bd : LevB L) (hn : n < 2 ^ 64) : Calls Try.prog 6 #[.int .i64 L, .int .u64 (n : Int)] W fun e w' => e = .returned (.bool true) ∧ Below W.heap.size W w' :=
  descOnce_law code_of code_put L bd n hn W
end Go.Proofs.Ytblmikmmmomflaa
