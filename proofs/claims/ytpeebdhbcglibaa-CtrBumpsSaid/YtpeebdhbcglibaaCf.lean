/- ctr: Format; fresh counters as words. -/
import Derived.Test.YtpeebdhbcglibaaCa
namespace Go.Proofs.Ytpeebdhbcglibaa
open Go.RowKit

/-- A fresh counter's words, and those of many. -/
def fmt1 (i : Nat) (v : W32) : List W32 := [mark, 1, v, sumW (idW i) 1 v, 0, 0, 0, 0]
def fmtL (vs : List W32) (k : Nat) : List W32 := (List.range k).flatMap fun (i : Nat) => fmt1 i (vs.getD i 0)
theorem fmtL_succ (vs : List W32) (k : Nat) : fmtL vs (k + 1) = fmtL vs k ++ fmt1 k (vs.getD k 0) := by simp [fmtL, List.range_succ]
theorem fmtL_len (vs : List W32) : ∀ k, (fmtL vs k).length = 8 * k
  | 0 => rfl
  | k + 1 => by rw [fmtL_succ, List.length_append, fmtL_len vs k]; simp [fmt1]; omega
theorem u32s_append (l m : List W32) : u32s (l ++ m) = u32s l ++ u32s m := by simp [u32s]
theorem infoU1 : (Try.prog.info? 30).map (·.size) = some 1 := by kernel_rfl
theorem zero8 (w : World) : (zeroValue 85).run Try.prog w = .ok (.agg (vec 8 (wds zw))) w :=
  (zero_of_info (P := Try.prog) (t := 85) (v := .agg (vec 8 (wds zw))) (n := 8) (by kernel_rfl)).1 w
theorem fmt_spl (k : Nat) (x : W32) : vec 8 (spl 0 4 (wds (recW (idW k) 1 x)) (wds zw)) = (u32s (fmt1 k x)).toArray := rfl
/-- A row of words that is the call's own. -/
def OwnU (w : World) (base : Nat) (v : Value) (l : List W32) : Prop := w.ownsRow base 30 1 v l.length (u32s l)
theorem OwnU.nil (w : World) (base : Nat) : OwnU w base (.slice none 0 0) [] := World.ownsRow_nil _ _ _ _
theorem OwnU.under {w w' : World} {base : Nat} {v : Value} {l : List W32} (h : OwnU w base v l) (hb : Below w.heap.size w w') : OwnU w' base v l := by
  refine ⟨h.1, ?_⟩
  rcases h.2 with h2 | ⟨g, cap, cur, hv, hg, hh, r⟩
  · exact Or.inl h2
  · have hlt : g < w.heap.size := (Array.getElem?_eq_some_iff.1 hh).1
    exact Or.inr ⟨g, cap, cur, hv, hg, (hb.block g hlt).trans hh, r⟩
theorem OwnU.form {w : World} {base : Nat} {v : Value} {l : List W32} (h : OwnU w base v l) : ∃ A c, v = .slice A l.length c ∧ l.length ≤ c ∧ Lies w w.heap.size 1 A l.length (u32s l) ∧ v.ownBlock = A.map (·.block) ∧ ∀ k, v.ownBlock = some k → base ≤ k ∧ k < w.heap.size := by
  rcases h.2 with ⟨rfl, h0⟩ | ⟨g, cap, cur, rfl, hg, hh, hle, _⟩
  · obtain rfl : l = [] := List.eq_nil_of_length_eq_zero h0
    exact ⟨none, 0, rfl, Nat.le_refl _, Lies.of_owns h, rfl, fun k hk => by simp [Value.ownBlock] at hk⟩
  · exact ⟨_, cap, rfl, hle, Lies.of_owns h, rfl, fun k hk => by
      simp [Value.ownBlock] at hk
      subst hk
      exact ⟨hg, (Array.getElem?_eq_some_iff.1 hh).1⟩⟩
theorem app_u (w : World) (base : Nat) (v : Value) (l m : List W32) (g c : Nat) (hown : OwnU w base v l) (hb : base ≤ w.heap.size) (hk : l.length + m.length ≤ 1000000) (ty : TypeId) (hg : ∀ j (hj : j < m.length), w.cell? ⟨g, j, none⟩ = some (.int .u32 (num m[j]))) :
    ∃ v' w', (appS #[22, 22] ty #[v, .slice (some ⟨g, 0, none⟩) m.length c]).run Try.prog w = .ok v' w' ∧ OwnU w' base v' (l ++ m) ∧ w.grownBy w' v.ownBlock ∧ (v'.ownBlock = v.ownBlock ∨ v'.ownBlock = some w.heap.size) := by
  obtain ⟨i0, hi, hz0, hz1, hz2⟩ := info_parts infoU32
  have hnews : ∀ j u, (u32s m)[j]? = some u → w.cell? ((⟨g, 0, none⟩ : Addr).add j) = some u := by
    intro j u hu
    have e : ((⟨g, 0, none⟩ : Addr).add j) = ⟨g, j, none⟩ := by unfold Addr.add; by_cases h0 : j = 0 <;> simp [h0]
    obtain ⟨hj, rfl⟩ := List.getElem?_eq_some_iff.1 hu
    rw [u32s_length] at hj
    rw [e, hg j hj]
    simp [u32s]
  obtain ⟨v', w', h1, h2, h3, _, h5⟩ := run_append_own_at (P := Try.prog) w base 22 ty 30 i0 (.int .u32 0) 1 4 Try.underlying22 hi hz0 hz1 hz2 rfl (by decide) v l.length (u32s l) hown
    ⟨g, 0, none⟩ m.length c (u32s m) (by rw [u32s_length]; omega) hnews (u32s_one m) (by unfold maxLen; omega) (by omega) hb
  exact ⟨v', w', h1, by unfold OwnU; rw [u32s_append, List.length_append]; exact h2, h3, h5⟩
/-- How Format ends. -/
def FmtP (w : World) (vs : List W32) (e : Ending) (w' : World) : Prop := ∃ B d, e = .returned (.slice B (8 * vs.length) d) ∧ 8 * vs.length ≤ d ∧ Lies w' w'.heap.size 1 B (8 * vs.length) (u32s (fmtL vs vs.length)) ∧ Below w.heap.size w w'
/-- The row so far. -/
structure FmtAt (w W : World) (v : Value) (l : List W32) : Prop where
  own : OwnU W w.heap.size v l
  be : Below w.heap.size w W
theorem FmtAt.app {w W w' : World} {v v' : Value} {l l' : List W32} (H : FmtAt w W v l) (hown : OwnU w' w.heap.size v' l') (hgr : W.grownBy w' v.ownBlock) : FmtAt w w' v' l' := by
  obtain ⟨A, c, _, _, _, _, hk⟩ := H.own.form
  exact ⟨hown, H.be.grown hgr H.be.size fun k hk2 => (hk k hk2).1⟩
attribute [local go_sem ↓ high] builtin_appS zero8 zeroQ
set_option maxRecDepth 100000 in
set_option maxHeartbeats 2000000 in
theorem format_any (A : Option Addr) (c : Nat) (vs : List W32) (hl : vs.length ≤ 1000) (w : World) (hA : Lies w w.heap.size 1 A vs.length (u32s vs)) : Calls Try.prog 23 #[.slice A vs.length c] w (FmtP w vs) := by
  have HA := Lib.hid hA
  have HWD := Lib.hid (fun (k : Nat) v W => words_any (k : Int) (idW k) (wrap_idW k) 1 v W)
  obtain ⟨n, hn⟩ : ∃ n, n = vs.length := ⟨_, rfl⟩
  have HN := Lib.hid hn
  rw [← hn] at hl ⊢
  clear hA hn
  go_enter Try.func23, Try.ntmps23
  go_wp2
  go_loopw [3, 10] (fun vo vi W => ∃ (k m d : Nat) (B : Option Addr), k ≤ n ∧ m = 8 * k ∧ vi = .int .i64 k ∧ vo = .slice B m d ∧ Hid (FmtAt w W (.slice B m d) (fmtL vs k))) (fun _ i _ => n - (intOf i).toNat)
  case atStart => exact ⟨0, 0, 0, none, Nat.zero_le _, rfl, rfl, rfl, Lib.hid ⟨OwnU.nil _ _, Below.refl _ _⟩⟩
  case round =>
    obtain ⟨k, m, d, B, hk, hm, rfl, rfl, HI⟩ := hrel
    have HM := Lib.hid hm
    clear hm
    by_cases hlt : k < n
    · have hlt2 : k < vs.length := by have := HN.out; omega
      obtain ⟨W, hW⟩ : ∃ W : World, W = wr := ⟨_, rfl⟩
      subst hW
      obtain ⟨a, rfl, hca⟩ := u32_at (HA.out.below HI.out.be) hlt2
      obtain ⟨x, hx⟩ : ∃ x, vs[k] = x := ⟨_, rfl⟩
      have hsu : fmtL vs (k + 1) = fmtL vs k ++ fmt1 k x := by
        rw [fmtL_succ, List.getD_eq_getElem?_getD, List.getElem?_eq_getElem hlt2, ← hx]; rfl
      have HSU := Lib.hid hsu
      rw [hx] at hca
      have HK := Lib.hid hlt
      have hW1 : Below W.heap.size W (W.alloc (.cells (vec 8 (wds zw)) 85)) := (Below.refl _ _).alloc (Nat.le_refl _) _
      have hA6 : Arr (W.alloc (.cells (vec 8 (wds zw)) 85)) W.heap.size 85 8 (wds zw) := Arr.new _ _ _ _
      have HW1 := Lib.hid (And.intro hW1 hA6)
      have e1 : (1 : Int) = num 1 := rfl
      have hk0 : (k : Int) < (n : Int) := by omega
      have HWX : Hid (∀ W', Calls Try.prog 38 #[.int .i64 (k : Int), .agg #[.int .u32 1, .int .u32 (num x)]] W' fun e w' => e = .returned (.agg (vec 4 (wds (recW (idW k) 1 x)))) ∧ Below W'.heap.size W' w') := Lib.hid fun W' => HWD.out k x W'
      clear hx hsu hlt hlt2 hW1 hA6 e1
      obtain ⟨qr, hqr⟩ : ∃ qr, qr = vec 4 (wds (recW (idW k) 1 x)) := ⟨_, rfl⟩
      rw [← hqr] at HWX
      have HQR := Lib.hid hqr
      clear hqr
      go_upto_region 7 with (first
        | (go_at_call 38; refine (HWX.out _).mono ?_; rintro e w1 ⟨rfl, hd⟩; have HD := Lib.hid hd; clear hd)
        | ((with_reducible show wpList _ _ _ (Oper.mk _ (.store 73 _ _) _ _ _ _ :: _) _ _); refine wl_store rfl 73 _ _ rfl _ rfl _ rfl (by rw [HQR.out]; exact run_store_arr (Arr.new _ 73 4 (wds zw)) (wds (recW (idW k) 1 x)) infoQ (wds_one _ _)) ?_))
      obtain ⟨g6, hg6⟩ : ∃ g6, g6 = W.heap.size := ⟨_, rfl⟩
      obtain ⟨g7, hg7⟩ : ∃ g7, g7 = w1.heap.size := ⟨_, rfl⟩
      obtain ⟨W2, hW2⟩ : ∃ W2, W2 = (w1.alloc (.cells (vec 4 (wds zw)) 73)).setRow w1.heap.size (vec 4 (wds (recW (idW k) 1 x))) := ⟨_, rfl⟩
      have hs1 : W.heap.size + 1 ≤ w1.heap.size := by have := HD.out.size; simpa using this
      have hb1 : Below W.heap.size W w1 := HW1.out.1.trans (HD.out.mono (by simp))
      have hb2 : Below W.heap.size W W2 := by rw [hW2]; exact below_row (hb1.alloc hb1.size _) hb1.size _
      have h6 : Arr W2 g6 85 8 (wds zw) := by rw [hW2, hg6]; exact ((HW1.out.2.under HD.out).alloc _).rowFar (by omega) _
      have h7 : Arr W2 g7 73 4 (wds (recW (idW k) 1 x)) := by rw [hW2, hg7]; exact (Arr.new _ _ _ _).row _
      have HAR := Lib.hid (And.intro h6 h7)
      have HCS : Hid (∀ j, j < 4 → W2.drew.cell? ((⟨g7, 0, none⟩ : Addr).add j) = some (wds (recW (idW k) 1 x) j)) := Lib.hid fun j hj => by
        have e : ((⟨g7, 0, none⟩ : Addr).add j) = ⟨g7, j, none⟩ := by unfold Addr.add; by_cases h0 : j = 0 <;> simp [h0]
        rw [e]
        exact h7.cell hj
      obtain ⟨W3, hW3⟩ : ∃ W3, W3 = W2.drew.setRow g6 (vec 8 (spl 0 4 (wds (recW (idW k) 1 x)) (wds zw))) := ⟨_, rfl⟩
      have hb3 : Below W.heap.size W W3 := by rw [hW3]; exact below_row (g := g6) (show Below W.heap.size W W2.drew from ⟨hb2.1, hb2.2, hb2.3, hb2.4, hb2.5⟩) (by omega) _
      have h63 : Blk W3 g6 85 (u32s (fmt1 k x)).toArray := by rw [hW3, ← fmt_spl]; exact (show Arr W2.drew g6 85 8 (wds zw) from h6).row _
      have hi3 : FmtAt w W3 (.slice B m d) (fmtL vs k) := ⟨HI.out.own.under hb3, HI.out.be.trans (hb3.mono HI.out.be.size)⟩
      obtain ⟨v', w', hrun, hown, hgr, _⟩ := app_u W3 w.heap.size (.slice B m d) (fmtL vs k) (fmt1 k x) g6 8 hi3.own hi3.be.size (by rw [fmtL_len]; simp [fmt1]; omega) 22 (fun j hj => by
        rw [h63.cell j, List.getElem?_toArray]
        exact u32s_at _ _ hj)
      rw [← HSU.out] at hown
      have HNX := Lib.hid (hi3.app hown hgr)
      obtain ⟨B2, d2, rfl, _⟩ := hown.form
      rw [fmtL_len] at HNX
      rw [show (fmt1 k x).length = 8 from rfl, fmtL_len] at hrun
      obtain ⟨m2, hm2⟩ : ∃ m2, m2 = 8 * (k + 1) := ⟨_, rfl⟩
      rw [← hm2] at hrun HNX
      have HM2 := Lib.hid hm2
      have HW3 := Lib.hid hW3
      rw [← hW2, ← hg6, ← hg7]
      clear hg6 hg7 hW2 hs1 hb1 hb2 h6 h7 hW3 hb3 h63 hi3 hown hgr hm2 HD HWX hca
      refine wp_region_held_drew (S := fun Y => Save g6 W2 Y) (by kernel_rfl) (show Save g6 W2 W2.drew from ⟨rfl, rfl, rfl, Nat.le_refl _, fun _ _ _ => rfl⟩) (fun hS => ?_)
      (refine held_take (i := 0) (oi := ?ot1) (v := .slice (some ⟨g6, 0, none⟩) 8 8) ?at1 (by kernel_rfl) (by kernel_rfl) (by kernel_rfl) ?bt1 ?ct1 ?dt1 (by assumption) ?rt1; (case at1 => (simp only [List.getElem?_toArray, List.getElem?_cons_zero]; rfl)); (case bt1 => exact fun _ _ _ h => h); (case ct1 => kernel_rfl); (case dt1 => (intro W hW; (try dsimp only at hW); go_split_ands; go_simp; (try with_reducible rfl))); (case' rt1 => simp only [Act.put, List.setIfInBounds_toArray, List.set_cons_zero, List.set_cons_succ]))
      (refine held_take (i := 1) (oi := ?ot2) (v := .slice (some ⟨g7, 0, none⟩) 4 4) ?at2 (by kernel_rfl) (by kernel_rfl) (by kernel_rfl) ?bt2 ?ct2 ?dt2 (by assumption) ?rt2; (case at2 => (simp only [List.getElem?_toArray, List.getElem?_cons_zero, List.getElem?_cons_succ]; rfl)); (case bt2 => exact fun _ _ _ h => h); (case ct2 => kernel_rfl); (case dt2 => (intro W hW; (try dsimp only at hW); go_split_ands; go_simp; (try with_reducible rfl))); (case' rt2 => simp only [Act.put, List.setIfInBounds_toArray, List.set_cons_zero, List.set_cons_succ]))
      refine held_one (i := 2) (oi := ?ot3) (by kernel_rfl) ?at3 ?ct3 (fun K2 hK2 => ?_)
      (case at3 => (simp only [List.getElem?_toArray, List.getElem?_cons_zero, List.getElem?_cons_succ]; rfl))
      (case ct3 => kernel_rfl)
      refine ow_copy _ _ 22 22 rfl _ _ rfl rfl (run_copy_spl (P := Try.prog) 4 (show Arr W2.drew g6 85 8 (wds zw) from HAR.out.1) Try.underlying22 infoU1 rfl (c := wds (recW (idW k) 1 x)) (fun j hj => HCS.out j hj) (by omega) (wds_one _ _)) ?_
      refine hK2 _ _ (hS.setRow _) (fun hS2 => ?_)
      clear hS hK2 K2
      refine wpAnyH_done (by kernel_rfl) ?_ _
      clear hS2
      rw [← HW3.out]
      go_wp2
      go_roundw
      case rel => exact ⟨k + 1, m2, d2, B2, HK.out, HM2.out, by go_num, rfl, HNX⟩
      case measure => have := HK.out; simp [intOf]; omega
    · obtain rfl : k = n := by omega
      clear hlt hk
      go_wp2_with fail
      go_ret
      obtain ⟨_, _, e, hc, hlie, _, _⟩ := HI.out.own.form
      injection e with e1 e2 e3
      subst e1 e3
      rw [fmtL_len] at hlie hc
      have hm := HM.out
      rw [HN.out] at hm hlie hc
      subst hm
      refine ⟨_, _, rfl, hc, hlie, HI.out.be⟩
end Go.Proofs.Ytpeebdhbcglibaa
