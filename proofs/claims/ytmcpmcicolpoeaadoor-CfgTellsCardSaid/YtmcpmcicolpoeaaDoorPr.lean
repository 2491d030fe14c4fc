/- What a reader answers; flags, permissions, counts, names. -/
import Derived.Test.YtmcpmcicolpoeaaDoorTr
namespace Go.Proofs.YtmcpmcicolpoeaaDoor
open Go.RowKit

/-- A value was read, or the parse was given up. -/
def Rd {α : Type} (c : Cod α) (val : World → α → Value → Prop) (b : By) (q g : Nat) (A : Option Addr) (cp : Nat) (w : World) (e : Ending) (w' : World) : Prop :=
  (∃ x r v t, c.get b q = .ok (x, r) ∧ e = .returned v ∧ val w' x v ∧ Cur w' g A cp b t r ∧ Save g w w') ∨ (∃ er pl, c.get b q = .error (er, pl) ∧ e = .panicked (faultC pl er) ∧ Save g w w')
theorem Rd.ok {α : Type} {c : Cod α} {val : World → α → Value → Prop} {b : By} {q g : Nat} {A : Option Addr} {cp : Nat} {w w' : World} {e : Ending} {x : α} {r t : Nat} {v : Value} (h : c.get b q = .ok (x, r)) (he : e = .returned v) (hv : val w' x v) (hc : Cur w' g A cp b t r) (hs : Save g w w') : Rd c val b q g A cp w e w' := .inl ⟨x, r, v, t, h, he, hv, hc, hs⟩
theorem Rd.no {α : Type} {c : Cod α} {val : World → α → Value → Prop} {b : By} {q g : Nat} {A : Option Addr} {cp : Nat} {w w' : World} {e : Ending} {er pl : Nat} (h : c.get b q = .error (er, pl)) (he : e = .panicked (faultC pl er)) (hs : Save g w w') : Rd c val b q g A cp w e w' := .inr ⟨er, pl, h, he, hs⟩
theorem fld_get (m lo hi e : Nat) (b : By) (q : Nat) : (fld m lo hi e).get b q = if q + m ≤ b.length then (if lo ≤ numAt b q m ∧ numAt b q m ≤ hi then .ok ((numAt b q m : Int), q + m) else .error (e, q)) else .error (141, q) := by
  unfold fld raw numAt
  dsimp only
  by_cases h : q + m ≤ b.length
  · rw [if_pos h, if_pos h]
    by_cases h2 : lo ≤ val ((b.drop q).take m) ∧ val ((b.drop q).take m) ≤ hi
    · rw [if_pos h2, if_pos h2]
    · rw [if_neg h2, if_neg h2]
  · rw [if_neg h, if_neg h]
theorem bool_get (b : By) (q : Nat) : boolC.get b q = if q + 4 ≤ b.length then (if numAt b q 4 ≤ 1 then .ok (decide ((numAt b q 4 : Int) = 1), q + 4) else .error (144, q)) else .error (141, q) := by
  unfold boolC Cod.map
  dsimp only
  rw [fld_get]
  by_cases h : q + 4 ≤ b.length
  · rw [if_pos h, if_pos h]
    by_cases h2 : numAt b q 4 ≤ 1
    · rw [if_pos h2, if_pos ⟨Nat.zero_le _, h2⟩]
    · rw [if_neg h2, if_neg (fun h3 => h2 h3.2)]
  · rw [if_neg h, if_neg h]
theorem name_short (b : By) (q : Nat) (h : ¬ q + 16 ≤ b.length) : nameC.get b q = .error (141, q) := by
  unfold nameC raw
  dsimp only
  rw [if_neg h]
theorem name_get (b : By) (q m : Nat) (h : q + 16 ≤ b.length) (l : By) (hl : l = (b.drop q).take 16) (ht : Trim l m) : nameC.get b q = if nameOk (l.take m) = true then .ok (l.take m, q + 16) else .error (143, q) := by
  have hn : l.length = 16 := by rw [hl]; exact cut_len b q 16 h
  have t := trim_name hn ht
  unfold nameC raw
  dsimp only
  rw [if_pos h, ← hl]
  by_cases h1 : nameOk (nameD l) = true ∧ (l.drop (nameD l).length).all (fun c => c == 0) = true
  · rw [if_pos h1] at t ⊢
    dsimp only
    by_cases h2 : nameOk (l.take m) = true
    · rw [if_pos h2] at t ⊢
      injection t with t
      rw [t]
    · rw [if_neg h2] at t; cases t
  · rw [if_neg h1] at t ⊢
    dsimp only
    by_cases h2 : nameOk (l.take m) = true
    · rw [if_pos h2] at t; cases t
    · rw [if_neg h2]
theorem NumP.yes {b : By} {q m : Nat} {k : IntKind} {g : Nat} {A : Option Addr} {c : Nat} {w w' : World} {e : Ending} (h : NumP b q m k g A c w e w') (hm : q + m ≤ b.length) : e = .returned (.int k (numAt b q m : Nat)) ∧ Cur w' g A c b q (q + m) ∧ Save g w w' := by
  rcases h with h | h
  · exact h.2
  · exact absurd hm h.1
theorem NumP.no {b : By} {q m : Nat} {k : IntKind} {g : Nat} {A : Option Addr} {c : Nat} {w w' : World} {e : Ending} (h : NumP b q m k g A c w e w') (hm : ¬ q + m ≤ b.length) : e = .panicked (faultC q 141) ∧ Save g w w' := by
  rcases h with h | h
  · exact absurd h.1 hm
  · exact h.2
def intV (k : IntKind) (_ : World) (x : Int) (v : Value) : Prop := v = .int k x
def boolV (_ : World) (x : Bool) (v : Value) : Prop := v = .bool x
def strV (_ : World) (x : By) (v : Value) : Prop := v = .string (strOf x)
/-- Plain numbers are read. -/
theorem NumP.rd {b : By} {q m hi : Nat} {k : IntKind} {g : Nat} {A : Option Addr} {c : Nat} {w w' : World} {e : Ending} (h : NumP b q m k g A c w e w') (hhi : 256 ^ m ≤ hi + 1) (er : Nat) : Rd (fld m 0 hi er) (intV k) b q g A c w e w' := by
  rcases h with ⟨h1, h2, h3, h4⟩ | ⟨h1, h2, h3⟩
  · refine .ok (x := (numAt b q m : Int)) (r := q + m) ?_ h2 rfl h3 h4
    rw [fld_get, if_pos h1, if_pos ⟨Nat.zero_le _, by have := numAt_lt b q m; omega⟩]
  · refine .no ?_ h2 h3
    rw [fld_get, if_neg h1]
section
variable {w : World} {g c at_ q : Nat} {A : Option Addr} {b : By}
theorem long_rd (h : Cur w g A c b at_ q) : Calls Tryd.prog 38 #[.pointer (some ⟨g, 0, none⟩)] w (Rd u32C (intV .u32) b q g A c w) := (long_any h).mono fun _ _ h => h.rd (by decide) 144
theorem wide_rd (h : Cur w g A c b at_ q) : Calls Tryd.prog 72 #[.pointer (some ⟨g, 0, none⟩)] w (Rd u64C (intV .u64) b q g A c w) := (wide_any h).mono fun _ _ h => h.rd (by decide) 144
theorem short_rd (h : Cur w g A c b at_ q) : Calls Tryd.prog 39 #[.pointer (some ⟨g, 0, none⟩)] w (Rd (fld 2 0 65535 144) (intV .i64) b q g A c w) := (short_any h).mono fun _ _ h => h.rd (by decide) 144
set_option maxHeartbeats 1000000 in
set_option maxRecDepth 100000 in
theorem flag_any (h : Cur w g A c b at_ q) : Calls Tryd.prog 71 #[.pointer (some ⟨g, 0, none⟩)] w (Rd boolC boolV b q g A c w) := by
  have hg := bool_get b q
  by_cases hm : q + 4 ≤ b.length
  · rw [if_pos hm] at hg
    have HL : Hid (Calls Tryd.prog 38 #[.pointer (some ⟨g, 0, none⟩)] w fun e w' => e = .returned (.int .u32 (numAt b q 4 : Nat)) ∧ Cur w' g A c b q (q + 4) ∧ Save g w w') := Lib.hid ((long_any h).mono fun _ _ k => k.yes hm)
    obtain ⟨n, hn⟩ : ∃ n, n = numAt b q 4 := ⟨_, rfl⟩
    rw [← hn] at hg HL
    by_cases h1 : n ≤ 1
    · rw [if_pos h1] at hg
      have HG := Lib.hid hg
      clear hg h hm hn
      have hn2 : n = 0 ∨ n = 1 := by omega
      rcases hn2 with rfl | rfl
      all_goals
        clear h1
        go_enter Tryd.func71, Tryd.ntmps71
        go_wp2_with (first
          | (go_at_call 38; refine HL.out.mono ?_; rintro e w1 ⟨rfl, hk, hs⟩; have H1 := Lib.hid (And.intro hk hs); clear hk hs)
          | (go_at_call 37; refine (must_yes _ _ _).mono ?_; rintro e w2 ⟨rfl, rfl⟩))
        go_ret
        exact .ok HG.out rfl rfl H1.out.1 H1.out.2
    · rw [if_neg h1] at hg
      have HG := Lib.hid hg
      have hd : decide ((n : Int) ≤ 1) = false := by simp; omega
      clear hg h hm hn h1
      go_enter Tryd.func71, Tryd.ntmps71
      go_wp2_with (first
        | (go_at_call 38; refine HL.out.mono ?_; rintro e w1 ⟨rfl, hk, hs⟩; have H1 := Lib.hid (And.intro hk hs); clear hk hs)
        | (go_at_call 37; refine (must_no 144 H1.out.1.at1).mono ?_; rintro e w2 ⟨rfl, rfl⟩; exact ⟨rfl, .no HG.out rfl H1.out.2⟩))
  · rw [if_neg hm] at hg
    have HL : Hid (Calls Tryd.prog 38 #[.pointer (some ⟨g, 0, none⟩)] w fun e w' => e = .panicked (faultC q 141) ∧ Save g w w') := Lib.hid ((long_any h).mono fun _ _ k => k.no hm)
    have HG := Lib.hid hg
    clear hg h hm
    go_enter Tryd.func71, Tryd.ntmps71
    go_wp2_with (go_at_call 38; refine HL.out.mono ?_; rintro e w1 ⟨rfl, hs⟩; exact ⟨rfl, .no HG.out rfl hs⟩)
set_option maxHeartbeats 1000000 in
set_option maxRecDepth 100000 in
theorem perm_any (h : Cur w g A c b at_ q) (n : Nat) (hn : n < 4294967296) : Calls Tryd.prog 110 #[.pointer (some ⟨g, 0, none⟩), .int .u32 (n : Int)] w fun e w' => (∃ k, w' = w.drewN k) ∧ e = if n ≤ 7 then .returned (.int .i64 (n : Int)) else .panicked (faultC at_ 144) := by
  have HF := Lib.hid (permFits_any (n : Int))
  have HC := Lib.hid h
  have hwn : IntKind.i64.wrap (n : Int) = (n : Int) := by rw [IntKind.wrap_i64]; omega
  have hb : inB (n : Int) 0 7 = decide (n ≤ 7) := by unfold inB; congr 1; simp only [eq_iff_iff]; omega
  rw [hb] at HF
  clear hb h
  by_cases h7 : n ≤ 7
  · rw [if_pos h7]
    rw [decide_eq_true h7] at HF
    go_enter Tryd.func110, Tryd.ntmps110
    go_upto_region 1 with fail
    refine wp_region_held_drew (S := fun Y => Y = w.drew) (by kernel_rfl) rfl (fun hS => ?_)
    (refine held_take (i := 0) (oi := ?ot1) (v := ?vt1) ?at1 (by kernel_rfl) (by kernel_rfl) (by kernel_rfl) ?bt1 ?ct1 ?dt1 (by assumption) ?rt1; (case at1 => (simp only [List.getElem?_toArray, List.getElem?_cons_zero]; rfl)); (case bt1 => exact fun _ _ _ h => h); (case ct1 => kernel_rfl); (case dt1 => (intro W hW; subst hW; go_simp; (try with_reducible rfl))); (case' rt1 => simp only [Act.put, List.setIfInBounds_toArray, List.set_cons_zero, List.set_cons_succ]))
    (refine held_take (i := 1) (oi := ?ot2) (v := ?vt2) ?at2 (by kernel_rfl) (by kernel_rfl) (by kernel_rfl) ?bt2 ?ct2 ?dt2 (by assumption) ?rt2; (case at2 => (simp only [List.getElem?_toArray, List.getElem?_cons_zero, List.getElem?_cons_succ]; rfl)); (case bt2 => exact fun _ _ _ h => h); (case ct2 => kernel_rfl); (case dt2 => (intro W hW; subst hW; go_simp; (try with_reducible rfl))); (case' rt2 => simp only [Act.put, List.setIfInBounds_toArray, List.set_cons_zero, List.set_cons_succ]))
    (refine held_take (i := 2) (oi := ?ot3) (v := ?vt3) ?at3 (by kernel_rfl) (by kernel_rfl) (by kernel_rfl) ?bt3 ?ct3 ?dt3 (by assumption) ?rt3; (case at3 => (simp only [List.getElem?_toArray, List.getElem?_cons_zero, List.getElem?_cons_succ]; rfl)); (case bt3 => exact fun _ _ _ h => h); (case ct3 => kernel_rfl); (case dt3 => (intro W hW; subst hW; go_simp; (try with_reducible rfl))); (case' rt3 => simp only [Act.put, List.setIfInBounds_toArray, List.set_cons_zero, List.set_cons_succ]))
    (refine held_take (i := 3) (oi := ?ot4) (v := ?vt4) ?at4 (by kernel_rfl) (by kernel_rfl) (by kernel_rfl) ?bt4 ?ct4 ?dt4 (by assumption) ?rt4; (case at4 => (simp only [List.getElem?_toArray, List.getElem?_cons_zero, List.getElem?_cons_succ]; rfl)); (case bt4 => exact fun _ _ _ h => h); (case ct4 => kernel_rfl); (case dt4 => (intro W hW; subst hW; go_simp; (try with_reducible rfl))); (case' rt4 => simp only [Act.put, List.setIfInBounds_toArray, List.set_cons_zero, List.set_cons_succ]))
    (refine held_take (i := 4) (oi := ?ot5) (v := ?vt5) ?at5 (by kernel_rfl) (by kernel_rfl) (by kernel_rfl) ?bt5 ?ct5 ?dt5 (by assumption) ?rt5; (case at5 => (simp only [List.getElem?_toArray, List.getElem?_cons_zero, List.getElem?_cons_succ]; rfl)); (case bt5 => exact fun _ _ _ h => h); (case ct5 => kernel_rfl); (case dt5 => (intro W hW; subst hW; go_simp; (try with_reducible rfl))); (case' rt5 => simp only [Act.put, List.setIfInBounds_toArray, List.set_cons_zero, List.set_cons_succ]))
    refine held_one (i := 5) (oi := ?ot6) (by kernel_rfl) ?at6 ?ct6 (fun K5 hK5 => ?_)
    (case at6 => (simp only [List.getElem?_toArray, List.getElem?_cons_zero, List.getElem?_cons_succ]; rfl))
    (case ct6 => kernel_rfl)
    go_simp
    refine (HF.out _).mono ?_
    rintro e yy ⟨rfl, rfl⟩
    refine hK5 _ _ rfl (fun hS5 => ?_)
    clear hS hK5 K5
    refine held_one (i := 6) (oi := ?ot7) (by kernel_rfl) ?at7 ?ct7 (fun K6 hK6 => ?_)
    (case at7 => (simp only [List.getElem?_toArray, List.getElem?_cons_zero, List.getElem?_cons_succ]; rfl))
    (case ct7 => kernel_rfl)
    go_simp
    refine (must_yes _ _ _).mono ?_
    rintro e yy ⟨rfl, rfl⟩
    refine hK6 _ _ rfl (fun hS6 => ?_)
    clear hS5 hK6 K6
    refine wpAnyH_done (by kernel_rfl) ?_ _
    go_wp2
    go_ret
    exact ⟨⟨1, rfl⟩, rfl⟩
  · rw [if_neg h7]
    rw [decide_eq_false h7] at HF
    go_enter Tryd.func110, Tryd.ntmps110
    go_upto_region 1 with fail
    refine wp_region_held_drew (S := fun Y => Y = w.drew) (by kernel_rfl) rfl (fun hS => ?_)
    (refine held_take (i := 0) (oi := ?ot8) (v := ?vt8) ?at8 (by kernel_rfl) (by kernel_rfl) (by kernel_rfl) ?bt8 ?ct8 ?dt8 (by assumption) ?rt8; (case at8 => (simp only [List.getElem?_toArray, List.getElem?_cons_zero]; rfl)); (case bt8 => exact fun _ _ _ h => h); (case ct8 => kernel_rfl); (case dt8 => (intro W hW; subst hW; go_simp; (try with_reducible rfl))); (case' rt8 => simp only [Act.put, List.setIfInBounds_toArray, List.set_cons_zero, List.set_cons_succ]))
    (refine held_take (i := 1) (oi := ?ot9) (v := ?vt9) ?at9 (by kernel_rfl) (by kernel_rfl) (by kernel_rfl) ?bt9 ?ct9 ?dt9 (by assumption) ?rt9; (case at9 => (simp only [List.getElem?_toArray, List.getElem?_cons_zero, List.getElem?_cons_succ]; rfl)); (case bt9 => exact fun _ _ _ h => h); (case ct9 => kernel_rfl); (case dt9 => (intro W hW; subst hW; go_simp; (try with_reducible rfl))); (case' rt9 => simp only [Act.put, List.setIfInBounds_toArray, List.set_cons_zero, List.set_cons_succ]))
    (refine held_take (i := 2) (oi := ?ot10) (v := ?vt10) ?at10 (by kernel_rfl) (by kernel_rfl) (by kernel_rfl) ?bt10 ?ct10 ?dt10 (by assumption) ?rt10; (case at10 => (simp only [List.getElem?_toArray, List.getElem?_cons_zero, List.getElem?_cons_succ]; rfl)); (case bt10 => exact fun _ _ _ h => h); (case ct10 => kernel_rfl); (case dt10 => (intro W hW; subst hW; go_simp; (try with_reducible rfl))); (case' rt10 => simp only [Act.put, List.setIfInBounds_toArray, List.set_cons_zero, List.set_cons_succ]))
    (refine held_take (i := 3) (oi := ?ot11) (v := ?vt11) ?at11 (by kernel_rfl) (by kernel_rfl) (by kernel_rfl) ?bt11 ?ct11 ?dt11 (by assumption) ?rt11; (case at11 => (simp only [List.getElem?_toArray, List.getElem?_cons_zero, List.getElem?_cons_succ]; rfl)); (case bt11 => exact fun _ _ _ h => h); (case ct11 => kernel_rfl); (case dt11 => (intro W hW; subst hW; go_simp; (try with_reducible rfl))); (case' rt11 => simp only [Act.put, List.setIfInBounds_toArray, List.set_cons_zero, List.set_cons_succ]))
    (refine held_take (i := 4) (oi := ?ot12) (v := ?vt12) ?at12 (by kernel_rfl) (by kernel_rfl) (by kernel_rfl) ?bt12 ?ct12 ?dt12 (by assumption) ?rt12; (case at12 => (simp only [List.getElem?_toArray, List.getElem?_cons_zero, List.getElem?_cons_succ]; rfl)); (case bt12 => exact fun _ _ _ h => h); (case ct12 => kernel_rfl); (case dt12 => (intro W hW; subst hW; go_simp; (try with_reducible rfl))); (case' rt12 => simp only [Act.put, List.setIfInBounds_toArray, List.set_cons_zero, List.set_cons_succ]))
    refine held_one (i := 5) (oi := ?ot13) (by kernel_rfl) ?at13 ?ct13 (fun K5 hK5 => ?_)
    (case at13 => (simp only [List.getElem?_toArray, List.getElem?_cons_zero, List.getElem?_cons_succ]; rfl))
    (case ct13 => kernel_rfl)
    go_simp
    refine (HF.out _).mono ?_
    rintro e yy ⟨rfl, rfl⟩
    refine hK5 _ _ rfl (fun hS5 => ?_)
    clear hS hK5 K5
    refine held_one (i := 6) (oi := ?ot14) (by kernel_rfl) ?at14 ?ct14 (fun K6 hK6 => ?_)
    (case at14 => (simp only [List.getElem?_toArray, List.getElem?_cons_zero, List.getElem?_cons_succ]; rfl))
    (case ct14 => kernel_rfl)
    go_simp
    refine (must_no 144 (HC.out.drewN 1).at1).mono ?_
    rintro e yy ⟨rfl, rfl⟩
    exact ⟨rfl, ⟨1, rfl⟩, rfl⟩

theorem lies_take {w : World} {B n m : Nat} {A : Option Addr} {l : By} (h : Lies w B 1 A n (u8s l)) (hm : m ≤ n) (hn : l.length = n) : Lies w B 1 A m (u8s (l.take m)) := by
  refine ⟨by simp [u8s_length]; omega, fun h0 => ?_⟩
  obtain ⟨a, e, hb, hc⟩ := h.2 (by omega)
  refine ⟨a, e, hb, fun j hj => ?_⟩
  have hj2 : j < (u8s l).length := by simp [u8s_length] at hj ⊢; omega
  rw [hc j hj2]
  simp [u8s]
set_option maxHeartbeats 1000000 in
set_option maxRecDepth 100000 in
theorem pname_any (h : Cur w g A c b at_ q) : Calls Tryd.prog 70 #[.pointer (some ⟨g, 0, none⟩)] w (Rd nameC strV b q g A c w) := by
  by_cases hm : q + 16 ≤ b.length
  · have HFI := Lib.hid (field_yes h 16 hm (by decide) (by decide))
    have hn := cut_len b q 16 hm
    have HNG := Lib.hid (fun m => name_get b q m hm _ rfl)
    obtain ⟨l, hl0⟩ : ∃ l, l = (b.drop q).take 16 := ⟨_, rfl⟩
    rw [← hl0] at hn HFI HNG
    have HLN := Lib.hid hn
    clear h hm hl0 hn
    go_enter Tryd.func70, Tryd.ntmps70
    go_upto_region 2 with (first
      | (go_at_call 69; refine HFI.out.mono ?_; rintro e w1 ⟨A', c', rfl, hc', hl, hk, hs⟩; have H1 := Lib.hid (And.intro hl (And.intro hk hs)); clear hl hk hs)
      | (go_at_call 108; refine (trim_any _ _ _ _ _ HLN.out hc' H1.out.1).mono ?_; rintro e w2 ⟨m, rfl, hm2, rfl⟩
         have hcv := conv_str w1 g A' m c' (l.take m) (lies_take H1.out.1 (by have := hm2.le; have := HLN.out; omega) HLN.out); have HTR := Lib.hid hm2; clear hm2))
    have hg := HNG.out m HTR.out
    have hsl : (l.take m).length ≤ 1000000 := by have := HLN.out; simp; omega
    obtain ⟨s, hs⟩ : ∃ s, s = l.take m := ⟨_, rfl⟩
    rw [← hs] at hg hsl ⊢
    have HN := Lib.hid (name_any s hsl)
    clear hcv hs hsl
    by_cases h1 : nameOk s = true
    · rw [if_pos h1] at hg
      rw [h1] at HN
      have HG := Lib.hid hg
      clear hg h1
      refine wp_region_held_drew (S := fun Y => Y = w1.drew) (by kernel_rfl) rfl (fun hS => ?_)
      (refine held_take (i := 0) (oi := ?ot15) (v := ?vt15) ?at15 (by kernel_rfl) (by kernel_rfl) (by kernel_rfl) ?bt15 ?ct15 ?dt15 (by assumption) ?rt15; (case at15 => (simp only [List.getElem?_toArray, List.getElem?_cons_zero]; rfl)); (case bt15 => exact fun _ _ _ h => h); (case ct15 => kernel_rfl); (case dt15 => (intro W hW; subst hW; go_simp; (try with_reducible rfl))); (case' rt15 => simp only [Act.put, List.setIfInBounds_toArray, List.set_cons_zero, List.set_cons_succ]))
      (refine held_take (i := 1) (oi := ?ot16) (v := ?vt16) ?at16 (by kernel_rfl) (by kernel_rfl) (by kernel_rfl) ?bt16 ?ct16 ?dt16 (by assumption) ?rt16; (case at16 => (simp only [List.getElem?_toArray, List.getElem?_cons_zero, List.getElem?_cons_succ]; rfl)); (case bt16 => exact fun _ _ _ h => h); (case ct16 => kernel_rfl); (case dt16 => (intro W hW; subst hW; go_simp; (try with_reducible rfl))); (case' rt16 => simp only [Act.put, List.setIfInBounds_toArray, List.set_cons_zero, List.set_cons_succ]))
      (refine held_take (i := 2) (oi := ?ot17) (v := ?vt17) ?at17 (by kernel_rfl) (by kernel_rfl) (by kernel_rfl) ?bt17 ?ct17 ?dt17 (by assumption) ?rt17; (case at17 => (simp only [List.getElem?_toArray, List.getElem?_cons_zero, List.getElem?_cons_succ]; rfl)); (case bt17 => exact fun _ _ _ h => h); (case ct17 => kernel_rfl); (case dt17 => (intro W hW; subst hW; go_simp; (try with_reducible rfl))); (case' rt17 => simp only [Act.put, List.setIfInBounds_toArray, List.set_cons_zero, List.set_cons_succ]))
      (refine held_take (i := 3) (oi := ?ot18) (v := ?vt18) ?at18 (by kernel_rfl) (by kernel_rfl) (by kernel_rfl) ?bt18 ?ct18 ?dt18 (by assumption) ?rt18; (case at18 => (simp only [List.getElem?_toArray, List.getElem?_cons_zero, List.getElem?_cons_succ]; rfl)); (case bt18 => exact fun _ _ _ h => h); (case ct18 => kernel_rfl); (case dt18 => (intro W hW; subst hW; go_simp; (try with_reducible rfl))); (case' rt18 => simp only [Act.put, List.setIfInBounds_toArray, List.set_cons_zero, List.set_cons_succ]))
      refine held_one (i := 4) (oi := ?ot19) (by kernel_rfl) ?at19 ?ct19 (fun K4 hK4 => ?_)
      (case at19 => (simp only [List.getElem?_toArray, List.getElem?_cons_zero, List.getElem?_cons_succ]; rfl))
      (case ct19 => kernel_rfl)
      go_simp
      refine (HN.out _).mono ?_
      rintro e yy ⟨rfl, rfl⟩
      refine hK4 _ _ rfl (fun hS4 => ?_)
      clear hS hK4 K4
      refine held_one (i := 5) (oi := ?ot20) (by kernel_rfl) ?at20 ?ct20 (fun K5 hK5 => ?_)
      (case at20 => (simp only [List.getElem?_toArray, List.getElem?_cons_zero, List.getElem?_cons_succ]; rfl))
      (case ct20 => kernel_rfl)
      go_simp
      refine (must_yes _ _ _).mono ?_
      rintro e yy ⟨rfl, rfl⟩
      refine hK5 _ _ rfl (fun hS5 => ?_)
      clear hS4 hK5 K5
      refine wpAnyH_done (by kernel_rfl) ?_ _
      go_wp2
      go_ret
      exact .ok HG.out rfl rfl (H1.out.2.1.drewN 1) (H1.out.2.2.drewN 1)
    · rw [if_neg h1] at hg
      rw [Bool.eq_false_iff.2 h1] at HN
      have HG := Lib.hid hg
      clear hg h1
      refine wp_region_held_drew (S := fun Y => Y = w1.drew) (by kernel_rfl) rfl (fun hS => ?_)
      (refine held_take (i := 0) (oi := ?ot21) (v := ?vt21) ?at21 (by kernel_rfl) (by kernel_rfl) (by kernel_rfl) ?bt21 ?ct21 ?dt21 (by assumption) ?rt21; (case at21 => (simp only [List.getElem?_toArray, List.getElem?_cons_zero]; rfl)); (case bt21 => exact fun _ _ _ h => h); (case ct21 => kernel_rfl); (case dt21 => (intro W hW; subst hW; go_simp; (try with_reducible rfl))); (case' rt21 => simp only [Act.put, List.setIfInBounds_toArray, List.set_cons_zero, List.set_cons_succ]))
      (refine held_take (i := 1) (oi := ?ot22) (v := ?vt22) ?at22 (by kernel_rfl) (by kernel_rfl) (by kernel_rfl) ?bt22 ?ct22 ?dt22 (by assumption) ?rt22; (case at22 => (simp only [List.getElem?_toArray, List.getElem?_cons_zero, List.getElem?_cons_succ]; rfl)); (case bt22 => exact fun _ _ _ h => h); (case ct22 => kernel_rfl); (case dt22 => (intro W hW; subst hW; go_simp; (try with_reducible rfl))); (case' rt22 => simp only [Act.put, List.setIfInBounds_toArray, List.set_cons_zero, List.set_cons_succ]))
      (refine held_take (i := 2) (oi := ?ot23) (v := ?vt23) ?at23 (by kernel_rfl) (by kernel_rfl) (by kernel_rfl) ?bt23 ?ct23 ?dt23 (by assumption) ?rt23; (case at23 => (simp only [List.getElem?_toArray, List.getElem?_cons_zero, List.getElem?_cons_succ]; rfl)); (case bt23 => exact fun _ _ _ h => h); (case ct23 => kernel_rfl); (case dt23 => (intro W hW; subst hW; go_simp; (try with_reducible rfl))); (case' rt23 => simp only [Act.put, List.setIfInBounds_toArray, List.set_cons_zero, List.set_cons_succ]))
      (refine held_take (i := 3) (oi := ?ot24) (v := ?vt24) ?at24 (by kernel_rfl) (by kernel_rfl) (by kernel_rfl) ?bt24 ?ct24 ?dt24 (by assumption) ?rt24; (case at24 => (simp only [List.getElem?_toArray, List.getElem?_cons_zero, List.getElem?_cons_succ]; rfl)); (case bt24 => exact fun _ _ _ h => h); (case ct24 => kernel_rfl); (case dt24 => (intro W hW; subst hW; go_simp; (try with_reducible rfl))); (case' rt24 => simp only [Act.put, List.setIfInBounds_toArray, List.set_cons_zero, List.set_cons_succ]))
      refine held_one (i := 4) (oi := ?ot25) (by kernel_rfl) ?at25 ?ct25 (fun K4 hK4 => ?_)
      (case at25 => (simp only [List.getElem?_toArray, List.getElem?_cons_zero, List.getElem?_cons_succ]; rfl))
      (case ct25 => kernel_rfl)
      go_simp
      refine (HN.out _).mono ?_
      rintro e yy ⟨rfl, rfl⟩
      refine hK4 _ _ rfl (fun hS4 => ?_)
      clear hS hK4 K4
      refine held_one (i := 5) (oi := ?ot26) (by kernel_rfl) ?at26 ?ct26 (fun K5 hK5 => ?_)
      (case at26 => (simp only [List.getElem?_toArray, List.getElem?_cons_zero, List.getElem?_cons_succ]; rfl))
      (case ct26 => kernel_rfl)
      go_simp
      refine (must_no 143 (H1.out.2.1.drewN 1).at1).mono ?_
      rintro e yy ⟨rfl, rfl⟩
      exact ⟨rfl, .no HG.out rfl (H1.out.2.2.drewN 1)⟩
  · have hg := name_short b q hm
    have HFI := Lib.hid (field_no h 16 hm (by decide))
    have HG := Lib.hid hg
    clear hg h hm
    go_enter Tryd.func70, Tryd.ntmps70
    go_upto_region 2 with (go_at_call 69; refine HFI.out.mono ?_; rintro e w1 ⟨rfl, hs⟩; exact ⟨rfl, .no HG.out rfl hs⟩)
end
end Go.Proofs.YtmcpmcicolpoeaaDoor
