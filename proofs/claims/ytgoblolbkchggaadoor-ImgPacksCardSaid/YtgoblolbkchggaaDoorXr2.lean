/- The reference's reader: number, wide, name. -/
import Derived.Test.YtgoblolbkchggaaDoorXr1
import Derived.Test.YtgoblolbkchggaaDoorMc
import Derived.Deep.CutBlock
import Derived.Deep.CutRange
namespace Go.Proofs.YtgoblolbkchggaaDoor
open Go.RowKit

theorem Rs.fail_none {st : Rs} (e pl : Nat) (h : st.err = none) : st.fail e pl = ⟨st.at_, some (e, pl)⟩ := by unfold Rs.fail; rw [h]
theorem Rs.fail_some {st : Rs} {x : Nat × Nat} (e pl : Nat) (h : st.err = some x) : st.fail e pl = st := by unfold Rs.fail; rw [h]
theorem Rs.fail_fail (st : Rs) (e pl : Nat) : (st.fail e pl).fail e pl = st.fail e pl := by
  cases h : st.err with
  | none => rw [Rs.fail_none e pl h]; rfl
  | some x => rw [Rs.fail_some e pl h, Rs.fail_some e pl h]
section
variable {w : World} {g c : Nat} {A : Option Addr} {b : By} {st : Rs}
/-- A number that was taken, held against its greatest. -/
theorem take_num {size most er : Nat} {l : By} {st1 : Rs} (h : TakeP b size st l st1) : StepP (fld size 0 most er) b st (val l : Int) (if val l ≤ most then st1 else st1.fail er st.at_) := by
  unfold TakeP at h
  cases hs : st.err with
  | some x =>
    rw [hs] at h
    obtain ⟨rfl, -⟩ := h
    refine .of_some hs ?_
    split
    · exact hs
    · rw [Rs.fail_some er _ hs]; exact hs
  | none =>
    rw [hs] at h
    simp only at h
    have hg := fld_getX size 0 most er b st.at_
    by_cases hf : st.at_ + size ≤ b.length
    · rw [if_pos hf] at h hg
      obtain ⟨h1, rfl⟩ := h
      rw [← h1] at hg
      by_cases hv : val l ≤ most
      · rw [if_pos ⟨Nat.zero_le _, hv⟩] at hg
        rw [if_pos hv]
        exact .of_ok hs hg rfl
      · rw [if_neg (by omega)] at hg
        rw [if_neg hv]
        exact .of_err hs hg rfl
    · rw [if_neg hf] at h hg
      obtain ⟨-, rfl⟩ := h
      refine .of_err hs hg ?_
      split <;> rfl
/-- What number answers. -/
def NumA (g : Nat) (A : Option Addr) (c : Nat) (b : By) (size most er : Nat) (st : Rs) (w : World) (x : Ending) (w' : World) : Prop := ∃ (n : Nat) (st' : Rs), x = .returned (.int .u64 (n : Int)) ∧ n < 256 ^ size ∧ StepP (fld size 0 most er) b st (n : Int) st' ∧ RQ w' g A c b st' ∧ Save g w w'
set_option maxHeartbeats 1000000 in
set_option maxRecDepth 100000 in
theorem rnum_any (size most er : Nat) (hs0 : 0 < size) (hs : size ≤ 8) (her : er ≠ 0) (h : RQ w g A c b st) : Calls Tryd.prog 22 #[.pointer (some ⟨g, 0, none⟩), .int .i64 (size : Int), .int .u64 (most : Int), .int .i64 (er : Int)] w (NumA g A c b size most er st w) := by
  have HT := Lib.hid (rtake_any size hs0 (by omega) h)
  have HER := Lib.hid her
  have c1 := h.at1
  obtain ⟨at_, hat⟩ : ∃ k, k = st.at_ := ⟨_, rfl⟩
  rw [← hat] at c1
  have HAT := Lib.hid hat
  obtain ⟨Q, hQ⟩ : ∃ Q, Q = NumA g A c b size most er st w := ⟨_, rfl⟩
  have HQ : Hid (∀ (n : Nat) (st' : Rs) (w' : World), n < 256 ^ size → StepP (fld size 0 most er) b st (n : Int) st' → RQ w' g A c b st' → Save g w w' → Q (.returned (.int .u64 (n : Int))) w') := Lib.hid (fun n st' w' h1 h2 h3 h4 => by rw [hQ]; exact ⟨n, st', rfl, h1, h2, h3, h4⟩)
  have HS8 := Lib.hid hs
  rw [← hQ]
  clear h hat hQ her hs hs0
  go_enter Tryd.func22, Tryd.ntmps22
  go_upto_region 3 with (first
    | (go_at_call 36
       refine HT.out.mono ?_
       rintro x w1 ⟨B, d, l, st1, rfl, hd, hbg, ht, hl, hr, hsv⟩
       have hlen := ht.length
       have hnum := number_any l (some B) d w1.heap.size 0 size false HS8.out w1 (by rw [hlen]; unfold maxLen; have := HS8.out; omega) (by rw [hlen]; exact hl)
       rw [hlen, numOf_val l size hlen] at hnum
       have HNM := Lib.hid hnum
       have HTP := Lib.hid (And.intro ht (And.intro hr hsv))
       have HLT : Hid (val l < 256 ^ size) := Lib.hid (by have := val_lt l; rwa [hlen] at this)
       clear hd hbg ht hl hr hsv hlen hnum)
    | (go_at_call 35; refine HNM.out.mono ?_; rintro x w2 ⟨rfl, hw2⟩; rw [← hw2]; clear hw2))
  obtain ⟨v, hv⟩ : ∃ v, v = val l := ⟨_, rfl⟩
  have HST := Lib.hid (take_num (most := most) (er := er) HTP.out.1)
  rw [← hv] at HST HLT ⊢
  by_cases hle : v ≤ most
  · have d0 : decide ((most : Int) < (v : Int)) = false := decide_eq_false (by omega)
    have d1 : decide (most < v) = false := decide_eq_false (by omega)
    have HL := Lib.hid hle
    clear hle hv
    go_wp2_with fail
    exact HQ.out v _ _ HLT.out (by have := HST.out; rw [if_pos HL.out] at this; exact this) HTP.out.2.1 HTP.out.2.2
  · have d0 : decide ((most : Int) < (v : Int)) = true := decide_eq_true (by omega)
    have d1 : decide (most < v) = true := decide_eq_true (by omega)
    have HL := Lib.hid hle
    have HF := Lib.hid (rfail_any er at_ HER.out HTP.out.2.1)
    clear hle hv
    go_wp2_with (go_at_call 37; refine HF.out.mono ?_; rintro x w3 ⟨rfl, hr, hsv⟩; have HR := Lib.hid (And.intro hr hsv); clear hr hsv)
    exact HQ.out v _ _ HLT.out (by have := HST.out; rw [if_neg HL.out, ← HAT.out] at this; exact this) HR.out.1 (HTP.out.2.2.trans HR.out.2)
theorem wl_slice_lo {P : Program} {w w' : World} {ops : Array Oper} {rest : List Oper} {o : Oper} {a : Act} {Q : Exit → Act → World → Prop} (hgd : o.guard = none) (t : TypeId) (x lo : Operand) (ho : o.op = .slice t x (some lo) none none) (vx vl : Value) (hx : a.eval x = vx) (hl : a.eval lo = vl) {v : Value}
    (hr : (Instr.sliceAt t vx (some vl) none none).run P w = .ok v w') (h : wpList P ops Q rest (a.put o.dst v) w') : wpList P ops Q (o :: rest) a w :=
  wpList_plain hgd fun K hK => by
    unfold Oper.wp execOp
    simp only [ho, Option.map_some, Option.map_none, hx, hl, Sem.run_bind, hr, Result.andThen_ok, Sem.run_pure]
    exact hK _ _ h
set_option maxRecDepth 100000 in
theorem slice_from (B : Addr) (N d k : Nat) (hk : k ≤ N) (w : World) (hd : N ≤ d) : ∃ B' : Addr, (Instr.sliceAt 27 (.slice (some B) N d) (some (.int .i64 (k : Int))) none none).run Tryd.prog w = .ok (.slice (some B') (N - k) (d - k)) w ∧ (k < N → B' = B.add k) := by
  have he : Tryd.prog.underlying 27 = some (.slice (Tryd.prog.elem 27)) := by kernel_rfl
  have hs : (sizeOf (Tryd.prog.elem 27)).run Tryd.prog w = .ok 1 w := by kernel_rfl
  rw [run_sliceAt_slice w _ _ _ _ _ he, run_slice_l w _ _ _ _ he .i64 (k : Int) (by omega) (by omega), hs]
  simp only [Result.andThen_ok, sliced, Int.toNat_natCast, Nat.mul_one]
  by_cases hdk : d = k
  · rw [if_pos hdk]
    exact ⟨B, rfl, fun h => by omega⟩
  · rw [if_neg hdk]
    exact ⟨B.add k, rfl, fun _ => rfl⟩
/-! ### Names -/
theorem nameD_take {l : By} {k : Nat} (hk : k ≤ l.length) (h1 : ∀ j, j < k → l.getD j 0 ≠ 0) (h2 : k = l.length ∨ l.getD k 0 = 0) : nameD l = l.take k := by
  unfold nameD
  have e : l = l.take k ++ l.drop k := (List.take_append_drop k l).symm
  rw [show l.takeWhile (fun c => c != 0) = (l.take k ++ l.drop k).takeWhile (fun c => c != 0) by rw [← e]]
  rw [List.takeWhile_append_of_pos (fun c hc => by
    obtain ⟨j, hj, rfl⟩ := List.mem_iff_getElem.1 hc
    have hj2 : j < k := by simp at hj; omega
    have := h1 j hj2
    rw [List.getD_eq_getElem?_getD, List.getElem?_eq_getElem (by omega)] at this
    simpa using this)]
  have : (l.drop k).takeWhile (fun c => c != 0) = [] := by
    rcases h2 with h2 | h2
    · rw [h2]; simp
    · by_cases hkl : k < l.length
      · rw [List.drop_eq_getElem_cons hkl, List.takeWhile_cons]
        rw [List.getD_eq_getElem?_getD, List.getElem?_eq_getElem hkl] at h2
        simp only [Option.getD_some] at h2
        simp [h2]
      · rw [List.drop_eq_nil_of_le (by omega)]; rfl
  rw [this, List.append_nil]
def finN (p : Bool) (at_ : Nat) (st : Rs) : Rs := if p = true then st else st.fail 143 at_
def allZ (l : By) : Bool := l.all fun c => c == 0
theorem take_name {l : By} {st1 : Rs} (h : TakeP b 16 st l st1) : StepP nameC b st (nameD l) (finN (allZ (l.drop (nameD l).length)) st.at_ (finN (nameOk (nameD l)) st.at_ st1)) := by
  unfold TakeP at h
  cases hs : st.err with
  | some x =>
    rw [hs] at h
    obtain ⟨rfl, -⟩ := h
    refine .of_some hs ?_
    unfold finN
    split <;> split <;> simp only [Rs.fail_some _ _ hs, hs]
  | none =>
    rw [hs] at h
    simp only at h
    by_cases hf : st.at_ + 16 ≤ b.length
    · rw [if_pos hf] at h
      obtain ⟨h1, rfl⟩ := h
      have hg : nameC.get b st.at_ = _ := raw_getX (m := 16) (enc := fun s => if nameOk s = true then .ok (nameE s) else .error 143) (dec := fun l => if nameOk (nameD l) = true ∧ (l.drop (nameD l).length).all (fun c => c == 0) = true then .ok (nameD l) else .error 143) b st.at_
      rw [if_pos hf, ← h1] at hg
      unfold finN allZ
      cases hn : nameOk (nameD l)
      · rw [hn, if_neg (by simp)] at hg
        refine .of_err hs hg ?_
        simp only [Bool.false_eq_true, if_false]
        split <;> rfl
      · rw [hn] at hg
        cases hz : (l.drop (nameD l).length).all (fun c => c == 0)
        · rw [hz, if_neg (by simp)] at hg
          exact .of_err hs hg rfl
        · rw [hz, if_pos ⟨rfl, rfl⟩] at hg
          exact .of_ok hs hg rfl
    · rw [if_neg hf] at h
      obtain ⟨-, rfl⟩ := h
      have hg : nameC.get b st.at_ = .error (141, st.at_) := by
        have : nameC.get b st.at_ = _ := raw_getX (m := 16) (enc := fun s => if nameOk s = true then .ok (nameE s) else .error 143) (dec := fun l => if nameOk (nameD l) = true ∧ (l.drop (nameD l).length).all (fun c => c == 0) = true then .ok (nameD l) else .error 143) b st.at_
        rw [this, if_neg hf]
      refine .of_err hs hg ?_
      unfold finN
      split <;> split <;> rfl
/-- What name answers. -/
def NameA (g : Nat) (A : Option Addr) (c : Nat) (b : By) (st : Rs) (w : World) (x : Ending) (w' : World) : Prop := ∃ (s : By) (st' : Rs), x = .returned (.string (strOf s)) ∧ s.length ≤ 16 ∧ StepP nameC b st s st' ∧ RQ w' g A c b st' ∧ Save g w w'
theorem allZ_succ (l : By) (j : Nat) (h : j < l.length) : allZ (l.take (j + 1)) = (allZ (l.take j) && l[j] == 0) := by
  unfold allZ
  rw [List.take_succ_eq_append_getElem h, List.all_append]; simp
set_option maxHeartbeats 2000000 in
set_option maxRecDepth 100000 in
theorem rdname_any (h : RQ w g A c b st) : Calls Tryd.prog 23 #[.pointer (some ⟨g, 0, none⟩)] w (NameA g A c b st w) := by
  have HT := Lib.hid (rtake_any 16 (by decide) (by decide) h)
  have c1 := h.at1
  obtain ⟨at_, hat⟩ : ∃ k, k = st.at_ := ⟨_, rfl⟩
  rw [← hat] at c1
  obtain ⟨Q, hQ⟩ : ∃ Q, Q = NameA g A c b st w := ⟨_, rfl⟩
  have HQ : Hid (∀ (s : By) (st' : Rs) (w' : World) (S : ByteArray), S = strOf s → s.length ≤ 16 → StepP nameC b st s st' → RQ w' g A c b st' → Save g w w' → Q (.returned (.string S)) w') := Lib.hid (fun s st' w' S h0 h1 h2 h3 h4 => by subst h0; rw [hQ]; exact ⟨s, st', rfl, h1, h2, h3, h4⟩)
  rw [← hQ]
  have HAT := Lib.hid hat
  clear h hat hQ
  go_enter Tryd.func23, Tryd.ntmps23
  go_upto_block 0 with (go_at_call 36; refine HT.out.mono ?_; rintro x w1 ⟨B, d, l, st1, rfl, hd, hbg, ht, hl, hr, hsv⟩; have HTP := Lib.hid (And.intro ht (And.intro hr hsv)); have HLI := Lib.hid hl; have HD := Lib.hid (And.intro hd hbg); clear hd hbg ht hl hr hsv)
  have HLEN := Lib.hid HTP.out.1.length
  have HCE : Hid (∀ j, j < 16 → w1.cell? (B.add j) = some (.int .u8 ((l.getD j 0).toNat : Int))) := Lib.hid (fun j hj => by
    obtain ⟨a, e, _, hc⟩ := HLI.out.2 (by decide)
    injection e with e
    subst e
    rw [hc j (by simp [u8s, HLEN.out]; exact hj)]
    have : j < l.length := by rw [HLEN.out]; exact hj
    simp [u8s, this])
  go_cut [5] from 15 to 25 (fun s5 wx => ∃ k : Nat, s5 = .int .i64 k ∧ k ≤ 16 ∧ wx = w1 ∧ Hid (nameD l = l.take k))
  case first =>
    go_wp2_with fail
    go_loopw [5] (fun j W => ∃ k : Nat, k ≤ 16 ∧ j = .int .i64 k ∧ W = w1 ∧ Hid (∀ j, j < k → l.getD j 0 ≠ 0)) (fun j _ => 16 - (intOf j).toNat)
    case atStart => exact ⟨0, Nat.zero_le _, rfl, rfl, Lib.hid (fun j hj => by omega)⟩
    case round =>
      obtain ⟨k, hk, rfl, rfl, HA⟩ := hrel
      by_cases hlt : k < 16
      · have hki : (k : Int) < 16 := by omega
        have hce := HCE.out k hlt
        obtain ⟨x, hx⟩ : ∃ x, x = l.getD k 0 := ⟨_, rfl⟩
        rw [← hx] at hce
        by_cases hz : x = 0
        · have z0 : ((x.toNat : Int) != 0) = false := by rw [hz]; rfl
          have HN := Lib.hid (nameD_take (l := l) (k := k) (by rw [HLEN.out]; omega) HA.out (Or.inr (by rw [← hx]; exact hz)))
          clear hz hx
          go_wp2_with fail
          go_meet
          exact ⟨k, rfl, by omega, rfl, HN⟩
        · have z0 : ((x.toNat : Int) != 0) = true := bne_iff_ne.2 (by
            intro e
            apply hz
            have : x.toNat = 0 := by omega
            exact UInt8.toNat_inj.1 this)
          have z1 : ¬ (x.toNat : Int) = 0 := bne_iff_ne.1 z0
          have HN : Hid (∀ j, j < k + 1 → l.getD j 0 ≠ 0) := Lib.hid (fun j hj => by
            by_cases e : j = k
            · subst e; rw [← hx]; exact hz
            · exact HA.out j (by omega))
          clear hz hx
          go_wp2_with fail
          go_roundw
          case rel => exact ⟨k + 1, by omega, by go_num, by first | rfl | trivial, HN⟩
          case measure => simp [intOf]; omega
      · obtain rfl : k = 16 := by omega
        have HN := Lib.hid (nameD_take (l := l) (k := 16) (by rw [HLEN.out]; exact Nat.le_refl _) HA.out (Or.inl HLEN.out.symm))
        go_wp2_with fail
        go_meet
        exact ⟨16, rfl, Nat.le_refl _, rfl, HN⟩
  obtain ⟨k, rfl, hk, rfl, HN⟩ := hcut
  have HS1 := Lib.hid (take_name HTP.out.1)
  have hDL : (nameD l).length = k := by rw [HN.out, List.length_take, HLEN.out]; omega
  rw [hDL, HN.out] at HS1
  obtain ⟨s, hs⟩ : ∃ s, s = l.take k := ⟨_, rfl⟩
  rw [← hs] at HS1
  have HSL : Hid (s.length ≤ 16) := Lib.hid (by rw [hs, List.length_take]; omega)
  obtain ⟨S, hS⟩ : ∃ S, S = strOf s := ⟨_, rfl⟩
  have hkd : k ≤ d := by have := HD.out.1; omega
  have hkdi : (k : Int) ≤ (d : Int) := by omega
  have hcv : (convert 27 9 (.slice (some B) k d)).run Tryd.prog wc = .ok (.string S) wc := by
    rw [hS, hs]
    refine conv_str wc wc.heap.size (some B) k d (l.take k) ?_
    have := lies_sub HLI.out 0 k (by omega)
    rw [List.drop_zero, show B.add 0 = B from rfl] at this
    exact this
  have HNM := Lib.hid (fun W => rname_any s (by have := HSL.out; omega) W)
  rw [← hS] at HNM
  have HSS := Lib.hid hS
  obtain ⟨r, hr⟩ : ∃ r, r = nameOk s := ⟨_, rfl⟩
  rw [← hr] at HNM HS1
  have HF := Lib.hid (rfail_any 143 at_ (by decide) HTP.out.2.1)
  have HST : Hid (RQ wc g A c b st1 ∧ Save g w wc) := Lib.hid HTP.out.2
  have HCW : Hid (∀ W : World, Save g wc W → ∀ j, j < 16 → W.cell? (B.add j) = some (.int .u8 ((l.getD j 0).toNat : Int))) := Lib.hid (fun W hW j hj => by
    obtain ⟨a, e, hab, hc⟩ := HLI.out.2 (by decide)
    injection e with e
    subst e
    rw [hW.cell (p := B.add j) (by rw [addr_add_block]; exact hab) (by rw [addr_add_block]; exact HD.out.2)]
    exact HCE.out j hj)
  have HLD := Lib.hid HLEN.out
  clear hs hS hr hDL HT HCE HLI HLEN
  go_upto_if 32 with (go_at_call 32; refine (HNM.out _).mono ?_; rintro x w2 ⟨rfl, rfl⟩)
  go_cut [] from 33 to 35 (fun wx => Hid (RQ wx g A c b (finN r at_ st1) ∧ Save g wc wx))
  case first =>
    cases r
    · go_wp2_with (go_at_call 37; refine HF.out.mono ?_; rintro x w3 ⟨rfl, hr, hsv⟩; have HR := Lib.hid (And.intro hr hsv); clear hr hsv)
      go_meet
      exact HR
    · go_wp2_with fail
      go_meet
      exact Lib.hid ⟨HST.out.1, Save.refl _ _⟩
  obtain ⟨st2, hst2⟩ : ∃ s, s = finN r at_ st1 := ⟨_, rfl⟩
  rw [← HAT.out, ← hst2] at HS1
  rw [← hst2] at hcut
  have HC2 := hcut
  clear hcut hst2 HF HNM hcv
  rename World => w2
  have hk16 : (k : Int) ≤ 16 := by omega
  obtain ⟨M, hM⟩ : ∃ m, m = 16 - k := ⟨_, rfl⟩
  have HMK : Hid (k + M = 16) := Lib.hid (by omega)
  have hM16 : M ≤ 16 := by omega
  obtain ⟨B2, hsl, hB2⟩ := slice_from B 16 d k hk w2 HD.out.1
  rw [← hM] at hsl
  have HSL2 := Lib.hid hsl
  have HB2 : Hid (0 < M → B2 = B.add k) := Lib.hid (fun h => hB2 (by omega))
  clear hM hsl hB2
  go_wp2_with ((with_reducible show wpList _ _ _ (Oper.mk _ (.slice _ _ _ _ _) _ _ _ _ :: _) _ _); refine wl_slice_lo rfl 27 _ _ rfl _ _ rfl rfl HSL2.out ?_)
  go_loopw [8, 40] (fun _ j W => ∃ i : Nat, i ≤ M ∧ j = .int .i64 i ∧ Hid (RQ W g A c b (finN (allZ ((l.drop k).take i)) at_ st2) ∧ Save g wc W)) (fun _ j _ => M - (intOf j).toNat)
  case atStart => exact ⟨0, Nat.zero_le _, rfl, HC2⟩
  case round =>
    obtain ⟨i, hi, rfl, HI⟩ := hrel
    obtain ⟨W, hW⟩ : ∃ W : World, W = wr := ⟨_, rfl⟩
    subst hW
    by_cases hlt : i < M
    · have hki : (i : Int) < (M : Int) := by omega
      have hce := HCW.out W HI.out.2 (k + i) (by have := HMK.out; omega)
      rw [← addr_add_add, ← HB2.out (by omega)] at hce
      have hil : i < (l.drop k).length := by rw [List.length_drop, HLD.out]; have := HMK.out; omega
      have hsu := allZ_succ (l.drop k) i hil
      obtain ⟨x, hx⟩ : ∃ x, x = l.getD (k + i) 0 := ⟨_, rfl⟩
      have hxe : (l.drop k)[i] = x := by rw [hx, List.getElem_drop, List.getD_eq_getElem?_getD, List.getElem?_eq_getElem (by simp at hil; omega)]; rfl
      rw [← hx] at hce
      rw [hxe] at hsu
      have HLT : Hid (i + 1 ≤ M) := Lib.hid (by omega)
      by_cases hz : x = 0
      · have z0 : ((x.toNat : Int) != 0) = false := by rw [hz]; rfl
        have z1 : (x.toNat : Int) = 0 := by rw [hz]; rfl
        have HN : Hid (RQ W g A c b (finN (allZ ((l.drop k).take (i + 1))) at_ st2) ∧ Save g wc W) := Lib.hid (by
          rw [hsu, hz]
          simp only [beq_self_eq_true, Bool.and_true]
          exact HI.out)
        clear hz hx hxe hsu hil
        go_wp2_with fail
        go_roundw
        case rel => exact ⟨i + 1, HLT.out, by go_num, HN⟩
        case measure => have := HLT.out; simp [intOf]; omega
      · have z1 : ¬ (x.toNat : Int) = 0 := by
          intro e
          apply hz
          have : x.toNat = 0 := by omega
          exact UInt8.toNat_inj.1 this
        have z0 : ((x.toNat : Int) != 0) = true := bne_iff_ne.2 z1
        have HF2 : Hid (Calls Tryd.prog 37 #[.pointer (some ⟨g, 0, none⟩), .int .i64 143, .int .i64 (at_ : Int)] W fun x w' => x = .returned (.tuple #[]) ∧ RQ w' g A c b (finN (allZ ((l.drop k).take (i + 1))) at_ st2) ∧ Save g wc w') := Lib.hid (by
          refine (rfail_any 143 at_ (by decide) HI.out.1).mono ?_
          rintro x' w' ⟨rfl, hr, hsv⟩
          refine ⟨rfl, ?_, HI.out.2.trans hsv⟩
          have e : finN (allZ ((l.drop k).take (i + 1))) at_ st2 = (finN (allZ ((l.drop k).take i)) at_ st2).fail 143 at_ := by
            rw [hsu, show (x == 0) = false by simpa using hz, Bool.and_false]
            unfold finN
            cases allZ ((l.drop k).take i)
            · simp only [Bool.false_eq_true, if_false]
              exact (Rs.fail_fail _ _ _).symm
            · simp
          rw [e]
          exact hr)
        clear hz hx hxe hsu hil
        go_wp2_with (go_at_call 37; refine HF2.out.mono ?_; rintro x' w4 ⟨rfl, hr, hsv⟩; have HR := Lib.hid (And.intro hr hsv); clear hr hsv)
        go_roundw
        case rel => exact ⟨i + 1, HLT.out, by go_num, HR⟩
        case measure => have := HLT.out; simp [intOf]; omega
    · obtain rfl : i = M := by omega
      have hty : (l.drop k).take i = l.drop k := List.take_of_length_le (by rw [List.length_drop, HLD.out]; have := HMK.out; omega)
      rw [hty] at HI
      clear hty
      go_wp2_with fail
      exact HQ.out s _ _ S HSS.out HSL.out HS1.out HI.out.1 (HST.out.2.trans HI.out.2)
end
end Go.Proofs.YtgoblolbkchggaaDoor
