/- ctr: recovered, Recover. -/
import Derived.Test.YtpeebdhbcglibaaCn
namespace Go.Proofs.Ytpeebdhbcglibaa
open Go.RowKit

/-- What recovered tells. -/
def rvA (r : Rv) : Array Value := #[.int .u32 (num r.seq), .int .u32 (num r.val), .int .i64 ((cond r.snd 1 0 : Nat) : Int)]
theorem rv_none {x : W32} {f g : Nat → W32} (h : (tpO x f g).fnd = false) : rvOf x f g = ⟨130, false, 0, 0⟩ := by
  unfold tpO at h
  unfold rvOf
  cases ht : top2 x f g with
  | none => rfl
  | some b => rw [ht] at h; cases h
theorem rv_some {x : W32} {f g : Nat → W32} (h : (tpO x f g).fnd = true) : ∃ b, (tpO x f g).pl = cond b 1 0 ∧ rvOf x f g = if (tpO x f g).sq = ones ∨ (tpO x f g).vl = ones then ⟨131, false, 0, 0⟩ else ⟨0, b, (tpO x f g).sq, (tpO x f g).vl⟩ := by
  unfold tpO at h ⊢
  unfold rvOf
  cases ht : top2 x f g with
  | none => rw [ht] at h; cases h
  | some b => exact ⟨b, rfl, rfl⟩
theorem ones_num {x : W32} (h : x = ones) : num x = 4294967295 := by subst h; rfl
theorem ones_ne {x : W32} (h : x ≠ ones) : ¬ num x = 4294967295 := fun e => h (num_inj e)
section
variable {w : World} {G : Nat → Prop} {p c : Nat} {s : St} {v : Value} {A : Option Addr}
set_option maxRecDepth 100000 in
set_option maxHeartbeats 1000000 in
theorem recovered_any (h : NC w G p s v A c) (hl : s.ws.length ≤ 100000) (id : Int) (r : Rv) (hr : r = rv s.ws id) :
    Calls Try.prog 28 #[.agg #[.pointer (some ⟨p, 0, none⟩), .int .i64 id]] w fun e w' => e = .returned (.tuple #[.agg (rvA r), .int .i64 (r.err : Int)]) ∧ Below w.heap.size w w' := by
  obtain ⟨V, hV⟩ : ∃ V, V = (w.alloc (.cells #[.pointer (some ⟨p, 0, none⟩), .int .i64 id] 71)).alloc (.cells #[.int .u32 0, .int .u32 0, .int .i64 0] 68) := ⟨_, rfl⟩
  have hVB : Below w.heap.size w V := by rw [hV]; exact ((Below.refl _ _).alloc (Nat.le_refl _) _).alloc (by simp) _
  have hB : Blk V w.heap.size 71 #[.pointer (some ⟨p, 0, none⟩), .int .i64 id] := by rw [hV]; exact (Blk.new _ _ _ rfl).alloc _
  have hR : Blk V (w.heap.size + 1) 68 (tpA tp0) := by rw [hV]; exact Blk.new _ _ _ (by simp)
  have HTH := Lib.hid (there_any (h.under hVB) (by omega) id)
  have HNW0 : Hid (∀ k : Nat, id = (k : Int) → k < s.ws.length / 8 → ∀ W, Below V.heap.size V W → Calls Try.prog 41 #[.agg #[.pointer (some ⟨p, 0, none⟩), .int .i64 id]] W fun e w' => e = .returned (.tuple #[.agg (tpA (tpO (idW k) (slotF s.ws k 0) (slotF s.ws k 1))), .bool (tpO (idW k) (slotF s.ws k 0) (slotF s.ws k 1)).fnd]) ∧ Below W.heap.size W w') := Lib.hid fun k e hk W hW => by
    rw [e]
    exact newest_any ((h.under hVB).under hW) hl k hk _ rfl
  have HV := Lib.hid hV
  have HVB := Lib.hid hVB
  have HB := Lib.hid hB
  have HR := Lib.hid hR
  clear hV hVB hB hR h
  by_cases hin : 0 ≤ id ∧ id < ((s.ws.length / 8 : Nat) : Int)
  case neg =>
    rw [decide_eq_false hin] at HTH
    rw [rv_out _ _ hin] at hr
    clear HNW0 hin hl
    subst hr
    go_enter Try.func28, Try.ntmps28
    go_upto_region 1 with fail
    rw [← HV.out]
    go_wp2_with (first
      | ((with_reducible show wpList _ _ _ (Oper.mk _ (.load 71 _) _ _ _ _ :: _) _ _); refine wl_load rfl 71 _ rfl _ rfl _ (HB.out.load Try.underlying71 rfl infoC) ?_)
      | (go_at_call 40; refine HTH.out.mono ?_; rintro e w1 ⟨rfl, hd⟩; have H1 := Lib.hid hd; clear hd)
      | ((with_reducible show wpList _ _ _ (Oper.mk _ (.store 68 _ _) _ _ _ _ :: _) _ _); refine wl_store rfl 68 _ _ rfl _ rfl _ rfl ((HR.out.under H1.out).store (tpA tp0) rfl infoPl rfl) ?_))
    exact bodyPost_ret (results_ct rfl _ _ _ rfl (((HR.out.under H1.out).row _).load Try.underlying68 rfl infoPl)) rfl ⟨rfl, below_row (HVB.out.trans (Below.mono H1.out HVB.out.size)) (by omega) _⟩
  obtain ⟨k, rfl⟩ := Int.eq_ofNat_of_zero_le hin.1
  have hk : k < s.ws.length / 8 := by omega
  rw [decide_eq_true hin] at HTH
  rw [rv_at _ _ hk] at hr
  have HNW := Lib.hid (HNW0.out k rfl hk)
  obtain ⟨T, hT⟩ : ∃ T, T = tpO (idW k) (slotF s.ws k 0) (slotF s.ws k 1) := ⟨_, rfl⟩
  rw [← hT] at HNW
  have h1 : T.fnd = false → r = ⟨130, false, 0, 0⟩ := fun e => hr.trans (rv_none (by rw [← hT]; exact e))
  have h2 : T.fnd = true → ∃ b, T.pl = cond b 1 0 ∧ r = if T.sq = ones ∨ T.vl = ones then ⟨131, false, 0, 0⟩ else ⟨0, b, T.sq, T.vl⟩ := fun e => by
    rw [hr, hT]
    exact rv_some (by rw [← hT]; exact e)
  obtain ⟨fd, sq, vl, pl⟩ := T
  simp only at h1 h2 HNW
  clear hr hT hk HNW0 hin hl
  cases fd with
  | false =>
    obtain rfl := h1 rfl
    have HNW : Hid (∀ W, Below V.heap.size V W → Calls Try.prog 41 #[.agg #[.pointer (some ⟨p, 0, none⟩), .int .i64 (k : Int)]] W fun e w' => e = .returned (.tuple #[.agg #[.int .u32 (num sq), .int .u32 (num vl), .int .i64 (pl : Int)], .bool false]) ∧ Below W.heap.size W w') := HNW
    clear h1 h2
    go_enter Try.func28, Try.ntmps28
    go_upto_region 1 with fail
    rw [← HV.out]
    go_wp2_with (first
      | ((with_reducible show wpList _ _ _ (Oper.mk _ (.load 71 _) _ _ _ _ :: _) _ _); refine wl_load rfl 71 _ rfl _ rfl _ (HB.out.load Try.underlying71 rfl infoC) ?_)
      | ((with_reducible show wpList _ _ _ (Oper.mk _ (.load 71 _) _ _ _ _ :: _) _ _); refine wl_load rfl 71 _ rfl _ rfl _ ((HB.out.under H1.out).load Try.underlying71 rfl infoC) ?_)
      | (go_at_call 40; refine HTH.out.mono ?_; rintro e w1 ⟨rfl, hd⟩; have H1 := Lib.hid hd; clear hd)
      | (go_at_call 41; refine (HNW.out w1 H1.out).mono ?_; rintro e w2 ⟨rfl, hd⟩; have H2 := Lib.hid (Below.trans H1.out (hd.mono H1.out.size)); clear hd)
      | ((with_reducible show wpList _ _ _ (Oper.mk _ (.store 68 _ _) _ _ _ _ :: _) _ _); refine wl_store rfl 68 _ _ rfl _ rfl _ rfl (((HR.out.under H2.out).alloc _).store (tpA tp0) rfl infoPl rfl) ?_))
    exact bodyPost_ret (results_ct rfl _ _ _ rfl ((((HR.out.under H2.out).alloc _).row _).load Try.underlying68 rfl infoPl)) rfl ⟨rfl, below_row ((HVB.out.trans (Below.mono H2.out HVB.out.size)).alloc (by have := HVB.out.size; have := H2.out.size; omega) _) (by omega) _⟩
  | true =>
    obtain ⟨b, rfl, hr⟩ := h2 rfl
    clear h1 h2
    obtain ⟨q, hq⟩ : ∃ q : Nat, q = cond b 1 0 := ⟨_, rfl⟩
    have HQ := Lib.hid hq
    rw [← hq] at HNW
    have HNW : Hid (∀ W, Below V.heap.size V W → Calls Try.prog 41 #[.agg #[.pointer (some ⟨p, 0, none⟩), .int .i64 (k : Int)]] W fun e w' => e = .returned (.tuple #[.agg #[.int .u32 (num sq), .int .u32 (num vl), .int .i64 (q : Int)], .bool true]) ∧ Below W.heap.size W w') := HNW
    clear hq
    by_cases hv : vl = ones
    · rw [if_pos (.inr hv)] at hr
      subst hr
      have v1 := ones_num hv
      have v2 : (num vl == 4294967295) = true := by simp [v1]
      clear hv
      go_enter Try.func28, Try.ntmps28
      go_upto_region 1 with fail
      rw [← HV.out]
      go_wp2_with (first
        | ((with_reducible show wpList _ _ _ (Oper.mk _ (.load 71 _) _ _ _ _ :: _) _ _); refine wl_load rfl 71 _ rfl _ rfl _ (HB.out.load Try.underlying71 rfl infoC) ?_)
        | ((with_reducible show wpList _ _ _ (Oper.mk _ (.load 71 _) _ _ _ _ :: _) _ _); refine wl_load rfl 71 _ rfl _ rfl _ ((HB.out.under H1.out).load Try.underlying71 rfl infoC) ?_)
        | (go_at_call 40; refine HTH.out.mono ?_; rintro e w1 ⟨rfl, hd⟩; have H1 := Lib.hid hd; clear hd)
        | (go_at_call 41; refine (HNW.out w1 H1.out).mono ?_; rintro e w2 ⟨rfl, hd⟩; have H2 := Lib.hid (Below.trans H1.out (hd.mono H1.out.size)); clear hd)
        | ((with_reducible show wpList _ _ _ (Oper.mk _ (.store 68 _ _) _ _ _ _ :: _) _ _); refine wl_store rfl 68 _ _ rfl _ rfl _ rfl (((HR.out.under H2.out).alloc _).store (tpA tp0) rfl infoPl rfl) ?_))
      exact bodyPost_ret (results_ct rfl _ _ _ rfl ((((HR.out.under H2.out).alloc _).row _).load Try.underlying68 rfl infoPl)) rfl ⟨rfl, below_row ((HVB.out.trans (Below.mono H2.out HVB.out.size)).alloc (by have := HVB.out.size; have := H2.out.size; omega) _) (by omega) _⟩
    by_cases hs : sq = ones
    · rw [if_pos (.inl hs)] at hr
      subst hr
      have v1 := ones_ne hv
      have v2 : (num vl == 4294967295) = false := by simp [v1]
      have v3 := ones_num hs
      have v4 : (num sq == 4294967295) = true := by simp [v3]
      clear hv hs
      go_enter Try.func28, Try.ntmps28
      go_upto_region 1 with fail
      rw [← HV.out]
      go_wp2_with (first
        | ((with_reducible show wpList _ _ _ (Oper.mk _ (.load 71 _) _ _ _ _ :: _) _ _); refine wl_load rfl 71 _ rfl _ rfl _ (HB.out.load Try.underlying71 rfl infoC) ?_)
        | ((with_reducible show wpList _ _ _ (Oper.mk _ (.load 71 _) _ _ _ _ :: _) _ _); refine wl_load rfl 71 _ rfl _ rfl _ ((HB.out.under H1.out).load Try.underlying71 rfl infoC) ?_)
        | (go_at_call 40; refine HTH.out.mono ?_; rintro e w1 ⟨rfl, hd⟩; have H1 := Lib.hid hd; clear hd)
        | (go_at_call 41; refine (HNW.out w1 H1.out).mono ?_; rintro e w2 ⟨rfl, hd⟩; have H2 := Lib.hid (Below.trans H1.out (hd.mono H1.out.size)); clear hd)
        | ((with_reducible show wpList _ _ _ (Oper.mk _ (.store 68 _ _) _ _ _ _ :: _) _ _); refine wl_store rfl 68 _ _ rfl _ rfl _ rfl (((HR.out.under H2.out).alloc _).store (tpA tp0) rfl infoPl rfl) ?_))
      exact bodyPost_ret (results_ct rfl _ _ _ rfl ((((HR.out.under H2.out).alloc _).row _).load Try.underlying68 rfl infoPl)) rfl ⟨rfl, below_row ((HVB.out.trans (Below.mono H2.out HVB.out.size)).alloc (by have := HVB.out.size; have := H2.out.size; omega) _) (by omega) _⟩
    rw [if_neg (by rintro (h | h); exact hs h; exact hv h)] at hr
    subst hr
    have v1 := ones_ne hv
    have v2 : (num vl == 4294967295) = false := by simp [v1]
    have v3 := ones_ne hs
    have v4 : (num sq == 4294967295) = false := by simp [v3]
    clear hv hs
    go_enter Try.func28, Try.ntmps28
    go_upto_region 1 with fail
    rw [← HV.out]
    go_wp2_with (first
      | ((with_reducible show wpList _ _ _ (Oper.mk _ (.load 71 _) _ _ _ _ :: _) _ _); refine wl_load rfl 71 _ rfl _ rfl _ (HB.out.load Try.underlying71 rfl infoC) ?_)
      | ((with_reducible show wpList _ _ _ (Oper.mk _ (.load 71 _) _ _ _ _ :: _) _ _); refine wl_load rfl 71 _ rfl _ rfl _ ((HB.out.under H1.out).load Try.underlying71 rfl infoC) ?_)
      | (go_at_call 40; refine HTH.out.mono ?_; rintro e w1 ⟨rfl, hd⟩; have H1 := Lib.hid hd; clear hd)
      | (go_at_call 41; refine (HNW.out w1 H1.out).mono ?_; rintro e w2 ⟨rfl, hd⟩; have H2 := Lib.hid (Below.trans H1.out (hd.mono H1.out.size)); clear hd)
      | ((with_reducible show wpList _ _ _ (Oper.mk _ (.load 68 _) _ _ _ _ :: _) _ _); refine wl_load rfl 68 _ rfl _ rfl _ ((Blk.new _ _ _ rfl).load Try.underlying68 rfl infoPl) ?_)
      | ((with_reducible show wpList _ _ _ (Oper.mk _ (.store 68 _ _) _ _ _ _ :: _) _ _); refine wl_store rfl 68 _ _ rfl _ rfl _ rfl (((HR.out.under H2.out).alloc _).store #[.int .u32 (num sq), .int .u32 (num vl), .int .i64 (q : Int)] rfl infoPl rfl) ?_))
    have HE : Hid (rvA ⟨0, b, sq, vl⟩ = #[.int .u32 (num sq), .int .u32 (num vl), .int .i64 (q : Int)]) := Lib.hid (by rw [HQ.out]; rfl)
    rw [HE.out]
    exact bodyPost_ret (results_ct rfl _ _ _ rfl ((((HR.out.under H2.out).alloc _).row _).load Try.underlying68 rfl infoPl)) rfl ⟨rfl, below_row ((HVB.out.trans (Below.mono H2.out HVB.out.size)).alloc (by have := HVB.out.size; have := H2.out.size; omega) _) (by omega) _⟩
/-- What Recover tells. -/
theorem recover_any (h : NC w G p s v A c) (hl : s.ws.length ≤ 100000) (id : Int) (r : Rv) (hr : r = rv s.ws id) :
    Calls Try.prog 10 #[.pointer (some ⟨p, 0, none⟩), .int .i64 id] w fun e w' => e = .returned (.tuple #[.int .u32 (num r.val), .int .i64 (r.err : Int)]) ∧ Below w.heap.size w w' := by
  have HRC := Lib.hid (recovered_any h hl id r hr)
  obtain ⟨sq, hsq⟩ : ∃ sq, sq = r.seq := ⟨_, rfl⟩
  obtain ⟨vl, hvl⟩ : ∃ vl, vl = r.val := ⟨_, rfl⟩
  obtain ⟨er, her⟩ : ∃ er, er = r.err := ⟨_, rfl⟩
  obtain ⟨q, hq⟩ : ∃ q : Nat, q = cond r.snd 1 0 := ⟨_, rfl⟩
  unfold rvA at HRC
  rw [← hsq, ← hvl, ← her, ← hq] at HRC
  rw [← hvl, ← her]
  clear hsq hvl her hq hr h hl
  go_enter Try.func10, Try.ntmps10
  go_wp2_with (go_at_call 28; refine HRC.out.mono ?_; rintro e w1 ⟨rfl, hd⟩; have H1 := Lib.hid hd; clear hd)
  go_ret2
  exact ⟨rfl, H1.out.alloc H1.out.size _⟩
end
end Go.Proofs.Ytpeebdhbcglibaa
