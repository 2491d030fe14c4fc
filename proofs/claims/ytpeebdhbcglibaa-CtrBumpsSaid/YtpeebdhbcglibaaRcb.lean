/- The reference: Bump. -/
import Derived.Test.YtpeebdhbcglibaaRcr
import Derived.Test.YtpeebdhbcglibaaQv
import Derived.Test.YtpeebdhbcglibaaRnv
import Derived.Test.YtpeebdhbcglibaaCl
namespace Go.Proofs.Ytpeebdhbcglibaa
open Go.RowKit

theorem NR.rd {w : World} {G : Nat → Prop} {r d : Nat} {s : St} {u : Value} {C : Option Addr} (h : NR w G r s u C d) : ∃ A c, RD w r A c s.ws := by
  obtain ⟨A, c, e, _, hl⟩ := h.lay.form
  exact ⟨A, c, by rw [← e]; exact h.blk.cellAt 0 rfl, hl⟩
attribute [local go_sem ↓ high] zeroQ2
set_option maxRecDepth 100000 in
set_option maxHeartbeats 4000000 in
theorem rbump_any {w : World} {G : Nat → Prop} {r d : Nat} {s : St} {u : Value} {C : Option Addr} (h : NR w G r s u C d) (hl : s.ws.length ≤ 100000) (hcnt : s.cnt < 900000) (id : Int) (x : W32) :
    Calls Try.prog 19 #[.pointer (some ⟨r, 0, none⟩), .int .i64 id, .int .u32 (num x)] w fun e w' => e = .returned (.int .i64 ((bump s id x).1 : Int)) ∧ NR w' G r (bump s id x).2 u C d ∧ Turn G w w' := by
  obtain ⟨R, hR⟩ : ∃ R, R = rv s.ws id := ⟨_, rfl⟩
  obtain ⟨A, c, hrd⟩ := h.rd
  have HRC := Lib.hid (rrecover_any hrd hl id R hR)
  have HSL0 : Hid (∀ (k : Nat) W, id = (k : Int) → k < s.ws.length / 8 → Below w.heap.size w W → Calls Try.prog 29 #[.pointer (some ⟨r, 0, none⟩), .int .i64 (k : Int)] W fun e w' => e = .returned (.agg (vec 8 (wds (fromA s.ws (8 * k))))) ∧ Below W.heap.size W w') := Lib.hid fun k W _ hk hW => rslots_any (hrd.under hW) hl k hk
  have hbe := bump_err (s := s) (id := id) (x := x)
  have hbb := bump_back (s := s) (id := id) (x := x)
  have hbf := bump_full (s := s) (id := id) (x := x)
  have hbd := bump_does (s := s) (id := id) (x := x)
  have hbi := rv_in (ws := s.ws) (id := id)
  have hbl : bumpL s.ws id x = stepsL (idW id.toNat) (slotF s.ws id.toNat (offB R.snd)) (R.seq + 1) x := by rw [hR]; rfl
  rw [← hR] at hbe hbb hbf hbd hbi
  clear hR hrd
  obtain ⟨er, b, sq, vl⟩ := R
  simp only at hbe hbb hbf hbd hbi hbl
  unfold rvT at HRC
  simp only at HRC
  obtain ⟨q, hq⟩ : ∃ q : Nat, q = cond b 1 0 := ⟨_, rfl⟩
  obtain ⟨o, ho⟩ : ∃ o : Nat, o = offB b := ⟨_, rfl⟩
  have hqo : (1 : Int) - (q : Int) = (o : Int) := by rw [hq, ho]; cases b <;> rfl
  rw [← hq] at HRC
  rw [← ho] at hbl
  have ho1 : o ≤ 1 := by rw [ho]; cases b <;> decide
  have hbA : bumpA id b = 8 * id.toNat + 4 * o := by rw [ho]; rfl
  have HN0 := Lib.hid h
  have HLC := Lib.hid (And.intro hl hcnt)
  clear h hl hcnt hq ho
  by_cases h0 : er = 0
  case neg =>
    have HE := Lib.hid (hbe h0)
    have e1 : ¬ (er : Int) = 0 := by omega
    have e2 : ((er : Int) != 0) = true := by simp [h0]
    have e3 : ((er : Int) == 0) = false := by simp [h0]
    clear h0 hbe hbb hbf hbd hbi hbl hbA ho1 hqo
    go_enter Try.func19, Try.ntmps19
    go_wp2_with (go_at_call 11; refine HRC.out.mono ?_; rintro e w1 ⟨rfl, hd⟩; have HF : Hid (Below w.heap.size w (w1.alloc (.cells #[.int .u32 (num sq), .int .u32 (num vl)] 35))) := Lib.hid (hd.alloc hd.size _); clear hd)
    go_ret
    rw [HE.out]
    exact ⟨rfl, HN0.out.under HF.out, Turn.of_below HF.out⟩
  subst h0
  by_cases h1 : x.toNat ≤ vl.toNat
  · have HE := Lib.hid (hbb rfl h1)
    have e1 : num x ≤ num vl := by unfold num; omega
    have e2 : decide (num x ≤ num vl) = true := decide_eq_true e1
    clear h1 hbe hbb hbf hbd hbi hbl hbA ho1 hqo
    go_enter Try.func19, Try.ntmps19
    go_wp2_with (go_at_call 11; refine HRC.out.mono ?_; rintro e w1 ⟨rfl, hd⟩; have HF : Hid (Below w.heap.size w (w1.alloc (.cells #[.int .u32 (num sq), .int .u32 (num vl)] 35))) := Lib.hid (hd.alloc hd.size _); clear hd)
    go_ret
    rw [HE.out]
    exact ⟨rfl, HN0.out.under HF.out, Turn.of_below HF.out⟩
  have e1 : ¬ num x ≤ num vl := by unfold num; omega
  have e2 : decide (num x ≤ num vl) = false := decide_eq_false e1
  by_cases h2 : x = ones
  · have HE := Lib.hid (hbf rfl h1 h2)
    have e4 : (num x == 4294967295) = true := by simp [ones_num h2]
    clear h1 h2 hbe hbb hbf hbd hbi hbl hbA ho1 hqo
    go_enter Try.func19, Try.ntmps19
    go_wp2_with (go_at_call 11; refine HRC.out.mono ?_; rintro e w1 ⟨rfl, hd⟩; have HF : Hid (Below w.heap.size w (w1.alloc (.cells #[.int .u32 (num sq), .int .u32 (num vl)] 35))) := Lib.hid (hd.alloc hd.size _); clear hd)
    go_ret
    rw [HE.out]
    exact ⟨rfl, HN0.out.under HF.out, Turn.of_below HF.out⟩
  have e3 := ones_ne h2
  have e4 : (num x == 4294967295) = false := by simp [e3]
  have hin := hbi rfl
  obtain ⟨k, rfl⟩ := Int.eq_ofNat_of_zero_le hin.1
  have hk : k < s.ws.length / 8 := by omega
  rw [Int.toNat_natCast] at hbl hbA
  obtain ⟨f, hf⟩ : ∃ f, f = slotF s.ws k o := ⟨_, rfl⟩
  obtain ⟨l, hll⟩ : ∃ l, l = stepsL (idW k) f (sq + 1) x := ⟨_, rfl⟩
  obtain ⟨a, ha⟩ : ∃ a, a = 8 * k + 4 * o := ⟨_, rfl⟩
  have hbd2 : bump s (k : Int) x = wrAll s a l := by rw [hbd rfl h1 h2, hbA, hbl, ha, hll, hf]
  have hll5 : l.length ≤ 5 := by rw [hll]; exact stepsL_len _ _ _ _
  have hlin : ∀ j (hj : j < l.length), 0 ≤ l[j].after ∧ l[j].after < 4 := fun j hj => steps_in (idW k) f (sq + 1) x _ (by rw [← hll]; exact List.getElem_mem hj)
  obtain ⟨e8, he8⟩ : ∃ e8, e8 = fromA s.ws (8 * k) := ⟨_, rfl⟩
  have hfe : ∀ i, i < 4 → wds e8 (o * 4 + i) = wds f i := fun i _ => by
    rw [he8, hf]
    show Value.int .u32 (num (s.ws.getD (8 * k + (o * 4 + i)) 0)) = Value.int .u32 (num (s.ws.getD (8 * k + 4 * o + i) 0))
    rw [show 8 * k + (o * 4 + i) = 8 * k + 4 * o + i by omega]
  have HSL : Hid (∀ W, Below w.heap.size w W → Calls Try.prog 29 #[.pointer (some ⟨r, 0, none⟩), .int .i64 (k : Int)] W fun e w' => e = .returned (.agg (vec 8 (wds e8))) ∧ Below W.heap.size W w') := Lib.hid fun W hW => by
    rw [he8]
    exact HSL0.out k W rfl hk hW
  have HST := Lib.hid (fun W => rsteps_any (k : Int) (idW k) (wrap_idW k) f (sq + 1) x W)
  rw [← hll] at HST
  rw [hbd2]
  have HFE := Lib.hid hfe
  have HA := Lib.hid ha
  have HLIN := Lib.hid hlin
  have HKW := Lib.hid hk
  have HNG : Hid (∀ k, w.heap.size ≤ k → ¬ G k) := Lib.hid fun k hk hg => by have := HN0.out.lay.lt k hg; omega
  have e5 : IntKind.u32.wrap (num sq + 1) = num (sq + 1) := num_add sq 1
  have hk5 : k ≤ 100000 := by have := HLC.out.1; omega
  have wo : IntKind.i64.wrap (o : Int) = (o : Int) := by rw [IntKind.wrap_i64]; omega
  clear h1 h2 hbe hbb hbf hbd hbi hbl hbA hin hk hbd2 hfe ha hlin hf he8 HSL0 hll
  go_enter Try.func19, Try.ntmps19
  go_upto_region 9 with (first
    | (go_at_call 11; refine HRC.out.mono ?_; rintro e w1 ⟨rfl, hd⟩; have H1 := Lib.hid hd; have hd9 : Below w.heap.size w (w1.alloc (.cells #[.int .u32 (num sq), .int .u32 (num vl)] 35)) := hd.alloc hd.size _; have HD9 := Lib.hid hd9; clear hd hd9)
    | (go_at_call 29; refine (HSL.out _ HD9.out).mono ?_; rintro e w2 ⟨rfl, hd⟩; have H2 := Lib.hid hd; clear hd)
    | ((with_reducible show wpList _ _ _ (Oper.mk _ (.store 74 _ _) _ _ _ _ :: _) _ _); refine wl_store rfl 74 _ _ rfl _ rfl _ rfl (run_store_arr (Arr.new _ 74 8 (wds zw)) (wds e8) infoQ2 (wds_one _ _)) ?_))
  obtain ⟨g9, hg9⟩ : ∃ g9, g9 = w1.heap.size := ⟨_, rfl⟩
  obtain ⟨g8, hg8⟩ : ∃ g8, g8 = w2.heap.size := ⟨_, rfl⟩
  obtain ⟨V, hV⟩ : ∃ V, V = (w2.alloc (.cells (vec 8 (wds zw)) 74)).setRow w2.heap.size (vec 8 (wds e8)) := ⟨_, rfl⟩
  have hB2 : Below w.heap.size w w2 := HD9.out.trans (H2.out.mono HD9.out.size)
  have hBV : Below w.heap.size w V := by rw [hV]; exact below_row (hB2.alloc hB2.size _) hB2.size _
  have hb9 : Blk V g9 35 #[.int .u32 (num sq), .int .u32 (num vl)] := by
    rw [hV, hg9]
    have hb : Blk (w1.alloc (.cells #[.int .u32 (num sq), .int .u32 (num vl)] 35)) w1.heap.size 35 #[.int .u32 (num sq), .int .u32 (num vl)] := Blk.new _ _ _ rfl
    have hne : w1.heap.size ≠ w2.heap.size := by have := H2.out.size; simp at this; omega
    exact ((hb.under H2.out).alloc _).rowFar hne _
  have ha8 : Arr V g8 74 8 (wds e8) := by rw [hV, hg8]; exact (Arr.new _ _ _ _).row _
  have H9 := Lib.hid (And.intro hb9 (And.intro ha8 hBV))
  have HLO : Hid (∀ W, VS V W → (loadVar 73 ⟨g8, o * 4, none⟩).run Try.prog W = .ok (.agg (vec 4 (wds f))) W) := Lib.hid fun W hW => by
    have := run_load_spl (P := Try.prog) (ty := 73) (o := o * 4) (n := 4) (f := fun i => wds e8 (o * 4 + i)) (fun i hi => (H9.out.2.1.under hW).cell (i := o * 4 + i) (by omega)) Try.underlying73 rfl infoQ
    rw [vec_congr HFE.out] at this
    exact this
  rw [← hV, ← hg9, ← hg8]
  clear hV hg9 hg8 hB2 hBV hb9 ha8 HRC HSL
  refine wp_region_held_drew (S := fun Y => VS V Y) (by kernel_rfl) (VS.begin V) (fun hS => ?_)
  (refine held_take (i := 0) (oi := ?ot1) (v := ?vt1) ?at1 (by kernel_rfl) (by kernel_rfl) (by kernel_rfl) ?bt1 ?ct1 ?dt1 (by assumption) ?rt1; (case at1 => (simp only [List.getElem?_toArray, List.getElem?_cons_zero]; rfl)); (case bt1 => exact fun _ _ _ h => h); (case ct1 => kernel_rfl); (case dt1 => (intro W hW; (try dsimp only at hW); go_split_ands; go_simp; (try with_reducible rfl))); (case' rt1 => simp only [Act.put, List.setIfInBounds_toArray, List.set_cons_zero, List.set_cons_succ]))
  (refine held_take (i := 1) (oi := ?ot2) (v := ?vt2) ?at2 (by kernel_rfl) (by kernel_rfl) (by kernel_rfl) ?bt2 ?ct2 ?dt2 (by assumption) ?rt2; (case at2 => (simp only [List.getElem?_toArray, List.getElem?_cons_zero, List.getElem?_cons_succ]; rfl)); (case bt2 => exact fun _ _ _ h => h); (case ct2 => kernel_rfl); (case dt2 => (intro W hW; (try dsimp only at hW); go_split_ands; go_simp; (try with_reducible rfl))); (case' rt2 => simp only [Act.put, List.setIfInBounds_toArray, List.set_cons_zero, List.set_cons_succ]))
  (refine held_take (i := 2) (oi := ?ot3) (v := .int .i64 (o : Int)) ?at3 (by kernel_rfl) (by kernel_rfl) (by kernel_rfl) ?bt3 ?ct3 ?dt3 (by assumption) ?rt3; (case at3 => (simp only [List.getElem?_toArray, List.getElem?_cons_zero, List.getElem?_cons_succ]; rfl)); (case bt3 => exact fun _ _ _ h => h); (case ct3 => kernel_rfl); (case dt3 => (intro W9 hW; clear hW; go_simp; (try with_reducible rfl))); (case' rt3 => simp only [Act.put, List.setIfInBounds_toArray, List.set_cons_zero, List.set_cons_succ]))
  (refine held_take (i := 3) (oi := ?ot4) (v := .pointer (some ⟨g8, o * 4, none⟩)) ?at4 (by kernel_rfl) (by kernel_rfl) (by kernel_rfl) ?bt4 ?ct4 ?dt4 (by assumption) ?rt4; (case at4 => (simp only [List.getElem?_toArray, List.getElem?_cons_zero, List.getElem?_cons_succ]; rfl)); (case bt4 => exact fun _ _ _ h => h); (case ct4 => kernel_rfl); (case dt4 => (intro W9 hW; clear hW; go_simp; (try with_reducible rfl); (try (intro h; omega)))); (case' rt4 => simp only [Act.put, List.setIfInBounds_toArray, List.set_cons_zero, List.set_cons_succ]))
  (refine held_take (i := 4) (oi := ?ot5) (v := .agg (vec 4 (wds f))) ?at5 (by kernel_rfl) (by kernel_rfl) (by kernel_rfl) ?bt5 ?ct5 ?dt5 (by assumption) ?rt5; (case at5 => (simp only [List.getElem?_toArray, List.getElem?_cons_zero, List.getElem?_cons_succ]; rfl)); (case bt5 => exact fun _ _ _ h => h); (case ct5 => kernel_rfl); (case dt5 => (intro W9 hW; exact exec_load_at _ _ rfl _ _ rfl _ (HLO.out W9 hW))); (case' rt5 => simp only [Act.put, List.setIfInBounds_toArray, List.set_cons_zero, List.set_cons_succ]))
  (refine held_take (i := 5) (oi := ?ot6) (v := ?vt6) ?at6 (by kernel_rfl) (by kernel_rfl) (by kernel_rfl) ?bt6 ?ct6 ?dt6 (by assumption) ?rt6; (case at6 => (simp only [List.getElem?_toArray, List.getElem?_cons_zero, List.getElem?_cons_succ]; rfl)); (case bt6 => exact fun _ _ _ h => h); (case ct6 => kernel_rfl); (case dt6 => (intro W hW; (try dsimp only at hW); go_split_ands; go_simp; (try with_reducible rfl))); (case' rt6 => simp only [Act.put, List.setIfInBounds_toArray, List.set_cons_zero, List.set_cons_succ]))
  (refine held_take (i := 6) (oi := ?ot7) (v := .int .u32 (num sq)) ?at7 (by kernel_rfl) (by kernel_rfl) (by kernel_rfl) ?bt7 ?ct7 ?dt7 (by assumption) ?rt7; (case at7 => (simp only [List.getElem?_toArray, List.getElem?_cons_zero, List.getElem?_cons_succ]; rfl)); (case bt7 => exact fun _ _ _ h => h); (case ct7 => kernel_rfl); (case dt7 => (intro W9 hW; have c0 := (H9.out.1.under hW).cellAt 0 rfl; clear hW; go_simp; (try with_reducible rfl))); (case' rt7 => simp only [Act.put, List.setIfInBounds_toArray, List.set_cons_zero, List.set_cons_succ]))
  (refine held_take (i := 7) (oi := ?ot8) (v := .int .u32 (num (sq + 1))) ?at8 (by kernel_rfl) (by kernel_rfl) (by kernel_rfl) ?bt8 ?ct8 ?dt8 (by assumption) ?rt8; (case at8 => (simp only [List.getElem?_toArray, List.getElem?_cons_zero, List.getElem?_cons_succ]; rfl)); (case bt8 => exact fun _ _ _ h => h); (case ct8 => kernel_rfl); (case dt8 => (intro W9 hW; clear hW; go_simp; (try with_reducible rfl); (try rw [e5]); (try with_reducible rfl))); (case' rt8 => simp only [Act.put, List.setIfInBounds_toArray, List.set_cons_zero, List.set_cons_succ]))
  (refine held_take (i := 8) (oi := ?ot9) (v := ?vt9) ?at9 (by kernel_rfl) (by kernel_rfl) (by kernel_rfl) ?bt9 ?ct9 ?dt9 (by assumption) ?rt9; (case at9 => (simp only [List.getElem?_toArray, List.getElem?_cons_zero, List.getElem?_cons_succ]; rfl)); (case bt9 => exact fun _ _ _ h => h); (case ct9 => kernel_rfl); (case dt9 => (intro W hW; (try dsimp only at hW); go_split_ands; go_simp; (try with_reducible rfl))); (case' rt9 => simp only [Act.put, List.setIfInBounds_toArray, List.set_cons_zero, List.set_cons_succ]))
  (refine held_take (i := 9) (oi := ?ot10) (v := ?vt10) ?at10 (by kernel_rfl) (by kernel_rfl) (by kernel_rfl) ?bt10 ?ct10 ?dt10 (by assumption) ?rt10; (case at10 => (simp only [List.getElem?_toArray, List.getElem?_cons_zero, List.getElem?_cons_succ]; rfl)); (case bt10 => exact fun _ _ _ h => h); (case ct10 => kernel_rfl); (case dt10 => (intro W hW; (try dsimp only at hW); go_split_ands; go_simp; (try with_reducible rfl))); (case' rt10 => simp only [Act.put, List.setIfInBounds_toArray, List.set_cons_zero, List.set_cons_succ]))
  (refine held_take (i := 12) (oi := ?ot11) (v := ?vt11) ?at11 (by kernel_rfl) (by kernel_rfl) (by kernel_rfl) ?bt11 ?ct11 ?dt11 (by assumption) ?rt11; (case at11 => (simp only [List.getElem?_toArray, List.getElem?_cons_zero, List.getElem?_cons_succ]; rfl)); (case bt11 => exact fun _ _ _ h => h); (case ct11 => kernel_rfl); (case dt11 => (intro W hW; (try dsimp only at hW); go_split_ands; go_simp; (try with_reducible rfl))); (case' rt11 => simp only [Act.put, List.setIfInBounds_toArray, List.set_cons_zero, List.set_cons_succ]))
  refine held_one (i := 10) (oi := ?ot12) (by kernel_rfl) ?at12 ?ct12 (fun K10 hK10 => ?_)
  (case at12 => (simp only [List.getElem?_toArray, List.getElem?_cons_zero, List.getElem?_cons_succ]; rfl))
  (case ct12 => kernel_rfl)
  have hSb := hS
  go_simp
  refine (HST.out _).mono ?_
  rintro e y10 ⟨LA, lc, rfl, hlc, hli, hlb, hd⟩
  have HLI := Lib.hid (And.intro hlc (And.intro hli (fun a ha => Nat.le_trans (Below.size hSb) (hlb a ha) : ∀ a, LA = some a → V.heap.size ≤ a.block)))
  refine hK10 _ _ (hSb.keep hd) (fun hS10 => ?_)
  clear hS hSb hlc hli hlb hd hK10 K10
  (refine held_take (i := 11) (oi := ?ot13) (v := ?vt13) ?at13 (by kernel_rfl) (by kernel_rfl) (by kernel_rfl) ?bt13 ?ct13 ?dt13 (by assumption) ?rt13; (case at13 => (simp only [List.getElem?_toArray, List.getElem?_cons_zero, List.getElem?_cons_succ]; rfl)); (case bt13 => exact fun _ _ _ h => h); (case ct13 => kernel_rfl); (case dt13 => (intro W hW; (try dsimp only at hW); go_split_ands; go_simp; (try with_reducible rfl))); (case' rt13 => simp only [Act.put, List.setIfInBounds_toArray, List.set_cons_zero, List.set_cons_succ]))
  refine wpAnyH_done (by kernel_rfl) ?_ _
  have HS := Lib.hid hS10
  clear hS10
  obtain ⟨n, hn⟩ : ∃ n, n = l.length := ⟨_, rfl⟩
  rw [← hn] at HLI
  have HN1 := Lib.hid hn
  have hn5 : n ≤ 5 := by omega
  obtain ⟨W0, hW0⟩ : ∃ W0, W0 = y10 := ⟨_, rfl⟩
  subst hW0
  rw [← hn]
  clear hn
  have HLB : Hid (∀ a, LA = some a → n ≠ 0 → ¬ G a.block) := Lib.hid fun a e _ => HNG.out _ (Nat.le_trans H9.out.2.2.size (HLI.out.2.2 a e))
  have HB0 : Hid (Below w.heap.size w W0) := Lib.hid (H9.out.2.2.trans (Below.mono HS.out H9.out.2.2.size))
  obtain ⟨b8, hb8⟩ : ∃ b8 : Int, b8 = 8 * (k : Int) := ⟨_, rfl⟩
  obtain ⟨b4, hb4⟩ : ∃ b4 : Int, b4 = 4 * (o : Int) := ⟨_, rfl⟩
  have e8k := hb8.symm
  have e4o := hb4.symm
  have wb8 : IntKind.i64.wrap b8 = b8 := by rw [IntKind.wrap_i64]; omega
  have wb4 : IntKind.i64.wrap b4 = b4 := by rw [IntKind.wrap_i64]; omega
  have hab : (a : Int) = b8 + b4 := by have := HA.out; omega
  have hal : a ≤ 800004 := by have := HA.out; omega
  have wab : IntKind.i64.wrap (b8 + b4) = (a : Int) := by rw [IntKind.wrap_i64]; omega
  have HAB := Lib.hid hab
  clear hb8 hb4 hab hk5 ho1 hll5
  go_wp2
  go_loopw [49] (fun vi wr => ∃ (j : Nat) (st : St), j ≤ n ∧ vi = .int .i64 j ∧ Hid (wrAll s a l = wrAll st a (l.drop j) ∧ NR wr G r st u C d ∧ Turn G W0 wr ∧ st.cnt ≤ s.cnt + j)) (fun vi _ => n - (intOf vi).toNat)
  case atStart => exact ⟨0, s, Nat.zero_le _, rfl, Lib.hid ⟨rfl, HN0.out.under HB0.out, Turn.refl _ _, Nat.le_refl _⟩⟩
  case round =>
    obtain ⟨j, st, hj, rfl, hI⟩ := hrel
    by_cases hlt : j < n
    · have hlt2 : j < l.length := by have := HN1.out; omega
      have hlies := HLI.out.2.1.turn hI.out.2.2.1 (Nat.le_refl _) HLB.out
      rw [HN1.out] at hlies
      obtain ⟨a0, qa, rfl, hqa, hqb, hc0, hc1⟩ := ct_at hlies hlt2
      have hqB : qa.block < wr.heap.size := Nat.lt_of_lt_of_le hqb hI.out.2.2.1.size
      have hin := HLIN.out j hlt2
      have HZ := Lib.hid (wrAll_zero (s := st) (a := a) hlt2)
      have HE := Lib.hid (wrAll_err (s := st) (a := a) hlt2)
      obtain ⟨y, hy⟩ : ∃ y, l[j] = y := ⟨_, rfl⟩
      rw [hy] at hc0 hc1 hin HZ HE
      obtain ⟨at0, wd⟩ := y
      simp only at hc0 hc1 hin HZ HE
      obtain ⟨E, hE⟩ : ∃ E, E = st.wrE ((a : Int) + at0) := ⟨_, rfl⟩
      obtain ⟨z, hz⟩ : ∃ z, z = (a : Int) + at0 := ⟨_, rfl⟩
      have e9 : IntKind.i64.wrap ((a : Int) + at0) = z := by rw [IntKind.wrap_i64]; omega
      rw [← hz] at HZ HE hE
      rw [← hE] at HZ HE
      have hcn : st.cnt < 1000000 := by have := hI.out.2.2.2; have := HLC.out.2; omega
      have HWR : Hid (∀ Y, Below wr.heap.size wr Y → Calls Try.prog 36 #[.pointer (some ⟨r, 0, none⟩), .int .i64 z, .int .u32 (num wd)] Y fun e w' => e = .returned (.int .i64 (E : Int)) ∧ Hid (NR w' G r (st.wr z wd) u C d ∧ Turn G wr w')) := Lib.hid fun Y hY => by
        rw [hE]
        refine (rwrite_any (hI.out.2.1.under hY) hcn z wd).mono ?_
        rintro e w' ⟨h1, h2, h3⟩
        exact ⟨h1, Lib.hid ⟨h2, (Turn.of_below hY).andThen h3⟩⟩
      have HT := Lib.hid hI.out.2.2.1
      have HCN : Hid ((st.wr z wd).cnt ≤ s.cnt + (j + 1)) := Lib.hid (by have := St.wr_cnt st z wd; have := hI.out.2.2.2; omega)
      have HFB : Hid (Turn G w wr) := Lib.hid ((Turn.of_below HB0.out).andThen hI.out.2.2.1)
      have HK := Lib.hid hlt
      have HH := Lib.hid hI.out.1
      have hk1 : (j : Int) < (n : Int) := by omega
      clear hlies hy hin hE hz hcn hI hlt2 hqb
      by_cases hE0 : E = 0
      · subst hE0
        go_wp2_with (go_at_call 36; refine (HWR.out _ ((Below.refl _ _).alloc (Nat.le_refl _) _)).mono ?_; rintro e y4 ⟨rfl, HN4⟩)
        go_roundw
        case rel => exact ⟨j + 1, _, HK.out, by go_num, Lib.hid ⟨HH.out.trans (HZ.out (by first | rfl | trivial)), HN4.out.1, HT.out.trans HN4.out.2 (fun i hi => .inl hi), HCN.out⟩⟩
        case measure => have := HK.out; simp [intOf]; omega
      · have hE1 : ¬ (E : Int) = 0 := by omega
        have hE2 : ((E : Int) != 0) = true := by simp [hE0]
        go_wp2_with (go_at_call 36; refine (HWR.out _ ((Below.refl _ _).alloc (Nat.le_refl _) _)).mono ?_; rintro e y4 ⟨rfl, HN4⟩)
        go_ret
        have h1 := HH.out.trans (HE.out hE0)
        rw [h1]
        exact ⟨rfl, HN4.out.1, HFB.out.trans HN4.out.2 fun i hi => .inl hi⟩
    · obtain rfl : j = n := by omega
      clear hlt hj
      go_wp2
      go_ret
      have h1 := hI.out.1
      rw [HN1.out, List.drop_length] at h1
      rw [h1]
      exact ⟨rfl, hI.out.2.1, (Turn.of_below HB0.out).trans hI.out.2.2.1 fun i hi => .inl hi⟩
end Go.Proofs.Ytpeebdhbcglibaa
