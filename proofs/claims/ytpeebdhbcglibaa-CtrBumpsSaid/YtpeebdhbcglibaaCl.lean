/- ctr: lay, Bump. -/
import Derived.Test.YtpeebdhbcglibaaCr
import Derived.Test.YtpeebdhbcglibaaQs
import Derived.Test.YtpeebdhbcglibaaNx
namespace Go.Proofs.Ytpeebdhbcglibaa
open Go.RowKit

theorem wrAll_zero {s : St} {a : Nat} {l : List Ct} {k : Nat} (h : k < l.length) (he : s.wrE ((a : Int) + l[k].after) = 0) : wrAll s a (l.drop k) = wrAll (s.wr ((a : Int) + l[k].after) l[k].mask) a (l.drop (k + 1)) := by
  rw [List.drop_eq_getElem_cons h]
  show (if _ = 0 then _ else _) = _
  rw [if_pos he]
theorem wrAll_err {s : St} {a : Nat} {l : List Ct} {k : Nat} (h : k < l.length) (he : ¬ s.wrE ((a : Int) + l[k].after) = 0) : wrAll s a (l.drop k) = (s.wrE ((a : Int) + l[k].after), s.wr ((a : Int) + l[k].after) l[k].mask) := by
  rw [List.drop_eq_getElem_cons h]
  show (if _ = 0 then _ else _) = _
  rw [if_neg he]
theorem ct_at {w : World} {B : Nat} {A : Option Addr} {l : List Ct} (h : Lies w B 2 A l.length (cellsC l)) {k : Nat} (hk : k < l.length) : ∃ a q, A = some a ∧ a.add (k * 2) = q ∧ q.block < B ∧ w.cell? q = some (.int .i64 l[k].after) ∧ w.cell? ⟨q.block, q.off + 1, none⟩ = some (.int .u32 (num l[k].mask)) := by
  obtain ⟨a, e, hb, hc⟩ := h.2 (by omega)
  have h1 := cellsC_at l k hk
  have hl := cellsC_length l
  have hk1 := hc (k * 2) (by omega)
  have hk2 := hc (k * 2 + 1) (by omega)
  have e1 := h1.1
  have e2 := h1.2
  rw [List.getElem?_eq_getElem (by omega)] at e1 e2
  refine ⟨a, _, e, rfl, by rw [addr_add_block]; exact hb, ?_, ?_⟩
  · rw [hk1]; exact e1
  · rw [← addr_add_add] at hk2
    have e3 : (a.add (k * 2)).add 1 = ⟨(a.add (k * 2)).block, (a.add (k * 2)).off + 1, none⟩ := rfl
    rw [← e3, hk2]; exact e2
set_option maxRecDepth 100000 in
set_option maxHeartbeats 2000000 in
theorem lay_any {w : World} {G : Nat → Prop} {p c : Nat} {s : St} {v : Value} {A : Option Addr} (h : NC w G p s v A c) (hl : s.ws.length ≤ 100000) (hcnt : s.cnt < 900000) (id pl : Nat) (hi : id < s.ws.length / 8) (hpl : pl ≤ 1) (sq vl : W32) :
    Calls Try.prog 33 #[.agg #[.pointer (some ⟨p, 0, none⟩), .int .i64 (id : Int)], .int .i64 (pl : Int), .agg #[.int .u32 (num sq), .int .u32 (num vl)]] w fun e w' =>
      e = .returned (.int .i64 ((wrAll s (8 * id + 4 * pl) (stepsL (idW id) (slotF s.ws id pl) sq vl)).1 : Int)) ∧ NC w' G p (wrAll s (8 * id + 4 * pl) (stepsL (idW id) (slotF s.ws id pl) sq vl)).2 v A c ∧ Turn G w w' := by
  obtain ⟨l, hll⟩ : ∃ l, l = stepsL (idW id) (slotF s.ws id pl) sq vl := ⟨_, rfl⟩
  obtain ⟨a, ha⟩ : ∃ a, a = 8 * id + 4 * pl := ⟨_, rfl⟩
  have hll5 : l.length ≤ 5 := by rw [hll]; exact stepsL_len _ _ _ _
  have hlin : ∀ k (hk : k < l.length), 0 ≤ l[k].after ∧ l[k].after < 4 := fun k hk => steps_in (idW id) (slotF s.ws id pl) sq vl _ (by rw [← hll]; exact List.getElem_mem hk)
  obtain ⟨V, hV⟩ : ∃ V, V = (w.alloc (.cells #[.pointer (some ⟨p, 0, none⟩), .int .i64 (id : Int)] 71)).alloc (.cells #[.int .u32 (num sq), .int .u32 (num vl)] 35) := ⟨_, rfl⟩
  have hVB : Below w.heap.size w V := by rw [hV]; exact ((Below.refl _ _).alloc (Nat.le_refl _) _).alloc (by simp) _
  have hBX : Blk V w.heap.size 71 #[.pointer (some ⟨p, 0, none⟩), .int .i64 (id : Int)] := by rw [hV]; exact (Blk.new _ _ _ rfl).alloc _
  have hRX : Blk V (w.heap.size + 1) 35 #[.int .u32 (num sq), .int .u32 (num vl)] := by rw [hV]; exact Blk.new _ _ _ (by simp)
  have HBX : Hid (∀ Y, VS V Y → Blk Y w.heap.size 71 #[.pointer (some ⟨p, 0, none⟩), .int .i64 (id : Int)]) := Lib.hid fun Y hY => hBX.under hY
  have HRX : Hid (∀ Y, VS V Y → Blk Y (w.heap.size + 1) 35 #[.int .u32 (num sq), .int .u32 (num vl)]) := Lib.hid fun Y hY => hRX.under hY
  have HWO : Hid (∀ Y, VS V Y → Calls Try.prog 43 #[.agg #[.pointer (some ⟨p, 0, none⟩), .int .i64 (id : Int)], .int .i64 (pl : Int)] Y fun e w' => e = .returned (.agg (vec 4 (wds (slotF s.ws id pl)))) ∧ Below Y.heap.size Y w') := Lib.hid fun Y hY => words13_any ((h.under hVB).under hY) hl id pl hi hpl
  have HST := Lib.hid (fun W => steps_any (id : Int) (idW id) (wrap_idW id) (slotF s.ws id pl) sq vl W)
  have HNG : Hid (∀ k, w.heap.size ≤ k → ¬ G k) := Lib.hid fun k hk hg => by have := h.lay.lt k hg; omega
  have HNC := Lib.hid h
  have HV := Lib.hid hV
  have HVB := Lib.hid hVB
  have HID := Lib.hid (And.intro hl (And.intro hi (And.intro hpl hcnt)))
  obtain ⟨qs, hqs⟩ : ∃ qs, qs = vec 4 (wds (slotF s.ws id pl)) := ⟨_, rfl⟩
  rw [← hqs] at HWO HST
  rw [← hll] at HST ⊢
  rw [← ha]
  have HA := Lib.hid ha
  have HLIN := Lib.hid hlin
  clear h hl hcnt hi hpl hV hVB hBX hRX hqs hll ha hlin
  go_enter Try.func33, Try.ntmps33
  go_upto_region 1 with fail
  rw [← HV.out]
  refine wp_region_held_drew (S := fun Y => VS V Y) (by kernel_rfl) (VS.begin V) (fun hS => ?_)
  (refine held_take (i := 0) (oi := ?ot1) (v := ?vt1) ?at1 (by kernel_rfl) (by kernel_rfl) (by kernel_rfl) ?bt1 ?ct1 ?dt1 (by assumption) ?rt1; (case at1 => (simp only [List.getElem?_toArray, List.getElem?_cons_zero]; rfl)); (case bt1 => exact fun _ _ _ h => h); (case ct1 => kernel_rfl); (case dt1 => (intro W hW; (try dsimp only at hW); go_split_ands; go_simp; (try with_reducible rfl))); (case' rt1 => simp only [Act.put, List.setIfInBounds_toArray, List.set_cons_zero, List.set_cons_succ]))
  (refine held_take (i := 1) (oi := ?ot2) (v := .int .i64 (id : Int)) ?at2 (by kernel_rfl) (by kernel_rfl) (by kernel_rfl) ?bt2 ?ct2 ?dt2 (by assumption) ?rt2; (case at2 => (simp only [List.getElem?_toArray, List.getElem?_cons_zero, List.getElem?_cons_succ]; rfl)); (case bt2 => exact fun _ _ _ h => h); (case ct2 => kernel_rfl); (case dt2 => (intro W9 hW; have c1 := (HBX.out W9 hW).cellAt 1 rfl; clear hW; go_simp; (try with_reducible rfl))); (case' rt2 => simp only [Act.put, List.setIfInBounds_toArray, List.set_cons_zero, List.set_cons_succ]))
  (refine held_take (i := 2) (oi := ?ot3) (v := .agg #[.pointer (some ⟨p, 0, none⟩), .int .i64 (id : Int)]) ?at3 (by kernel_rfl) (by kernel_rfl) (by kernel_rfl) ?bt3 ?ct3 ?dt3 (by assumption) ?rt3; (case at3 => (simp only [List.getElem?_toArray, List.getElem?_cons_zero, List.getElem?_cons_succ]; rfl)); (case bt3 => exact fun _ _ _ h => h); (case ct3 => kernel_rfl); (case dt3 => (intro W9 hW; exact exec_load _ _ rfl _ rfl _ ((HBX.out W9 hW).load Try.underlying71 rfl infoC))); (case' rt3 => simp only [Act.put, List.setIfInBounds_toArray, List.set_cons_zero, List.set_cons_succ]))
  (refine held_take (i := 3) (oi := ?ot4) (v := ?vt4) ?at4 (by kernel_rfl) (by kernel_rfl) (by kernel_rfl) ?bt4 ?ct4 ?dt4 (by assumption) ?rt4; (case at4 => (simp only [List.getElem?_toArray, List.getElem?_cons_zero, List.getElem?_cons_succ]; rfl)); (case bt4 => exact fun _ _ _ h => h); (case ct4 => kernel_rfl); (case dt4 => (intro W hW; (try dsimp only at hW); go_split_ands; go_simp; (try with_reducible rfl))); (case' rt4 => simp only [Act.put, List.setIfInBounds_toArray, List.set_cons_zero, List.set_cons_succ]))
  (refine held_take (i := 5) (oi := ?ot5) (v := .agg #[.int .u32 (num sq), .int .u32 (num vl)]) ?at5 (by kernel_rfl) (by kernel_rfl) (by kernel_rfl) ?bt5 ?ct5 ?dt5 (by assumption) ?rt5; (case at5 => (simp only [List.getElem?_toArray, List.getElem?_cons_zero, List.getElem?_cons_succ]; rfl)); (case bt5 => exact fun _ _ _ h => h); (case ct5 => kernel_rfl); (case dt5 => (intro W9 hW; exact exec_load _ _ rfl _ rfl _ ((HRX.out W9 hW).load Try.underlying35 rfl infoR))); (case' rt5 => simp only [Act.put, List.setIfInBounds_toArray, List.set_cons_zero, List.set_cons_succ]))
  (refine held_take (i := 8) (oi := ?ot6) (v := ?vt6) ?at6 (by kernel_rfl) (by kernel_rfl) (by kernel_rfl) ?bt6 ?ct6 ?dt6 (by assumption) ?rt6; (case at6 => (simp only [List.getElem?_toArray, List.getElem?_cons_zero, List.getElem?_cons_succ]; rfl)); (case bt6 => exact fun _ _ _ h => h); (case ct6 => kernel_rfl); (case dt6 => (intro W hW; (try dsimp only at hW); go_split_ands; go_simp; (try with_reducible rfl))); (case' rt6 => simp only [Act.put, List.setIfInBounds_toArray, List.set_cons_zero, List.set_cons_succ]))
  refine held_one (i := 4) (oi := ?ot7) (by kernel_rfl) ?at7 ?ct7 (fun K4 hK4 => ?_)
  (case at7 => (simp only [List.getElem?_toArray, List.getElem?_cons_zero, List.getElem?_cons_succ]; rfl))
  (case ct7 => kernel_rfl)
  have hSb := hS
  go_simp
  refine (HWO.out _ hSb).mono ?_
  rintro e y4 ⟨rfl, hd⟩
  refine hK4 _ _ (hSb.keep hd) (fun hS4 => ?_)
  clear hS hSb hd hK4 K4
  refine held_one (i := 6) (oi := ?ot8) (by kernel_rfl) ?at8 ?ct8 (fun K6 hK6 => ?_)
  (case at8 => (simp only [List.getElem?_toArray, List.getElem?_cons_zero, List.getElem?_cons_succ]; rfl))
  (case ct8 => kernel_rfl)
  have hSb := hS4
  go_simp
  refine (HST.out _).mono ?_
  rintro e y6 ⟨LA, lc, rfl, hlc, hli, hlb, hd⟩
  have HLI := Lib.hid (And.intro hlc (And.intro hli (fun a ha => Nat.le_trans (Below.size hSb) (hlb a ha) : ∀ a, LA = some a → V.heap.size ≤ a.block)))
  refine hK6 _ _ (hSb.keep hd) (fun hS6 => ?_)
  clear hS4 hSb hlc hli hlb hd hK6 K6
  (refine held_take (i := 7) (oi := ?ot9) (v := ?vt9) ?at9 (by kernel_rfl) (by kernel_rfl) (by kernel_rfl) ?bt9 ?ct9 ?dt9 (by assumption) ?rt9; (case at9 => (simp only [List.getElem?_toArray, List.getElem?_cons_zero, List.getElem?_cons_succ]; rfl)); (case bt9 => exact fun _ _ _ h => h); (case ct9 => kernel_rfl); (case dt9 => (intro W hW; (try dsimp only at hW); go_split_ands; go_simp; (try with_reducible rfl))); (case' rt9 => simp only [Act.put, List.setIfInBounds_toArray, List.set_cons_zero, List.set_cons_succ]))
  refine wpAnyH_done (by kernel_rfl) ?_ _
  have HS := Lib.hid hS6
  clear hS6
  obtain ⟨n, hn⟩ : ∃ n, n = l.length := ⟨_, rfl⟩
  rw [← hn] at HLI
  have HN0 := Lib.hid hn
  have hn5 : n ≤ 5 := by omega
  obtain ⟨W0, hW0⟩ : ∃ W0, W0 = y6 := ⟨_, rfl⟩
  subst hW0
  rw [← hn]
  clear hn
  have HLB : Hid (∀ a, LA = some a → n ≠ 0 → ¬ G a.block) := Lib.hid fun a e _ => HNG.out _ (Nat.le_trans HVB.out.size (HLI.out.2.2 a e))
  go_wp2
  go_loopw [18] (fun vi wr => ∃ (k : Nat) (st : St), k ≤ n ∧ vi = .int .i64 k ∧ Hid (wrAll s a l = wrAll st a (l.drop k) ∧ NC wr G p st v A c ∧ Turn G W0 wr ∧ st.cnt ≤ s.cnt + k)) (fun vi _ => n - (intOf vi).toNat)
  case atStart => exact ⟨0, s, Nat.zero_le _, rfl, Lib.hid ⟨rfl, HNC.out.under (HVB.out.trans (Below.mono HS.out HVB.out.size)), Turn.refl _ _, Nat.le_refl _⟩⟩
  case round =>
    obtain ⟨k, st, hk, rfl, hI⟩ := hrel
    by_cases hlt : k < n
    · have hlt2 : k < l.length := by have := HN0.out; omega
      have hlies := HLI.out.2.1.turn hI.out.2.2.1 (Nat.le_refl _) HLB.out
      rw [HN0.out] at hlies
      obtain ⟨a0, q, rfl, hq, hqb, hc0, hc1⟩ := ct_at hlies hlt2
      have hqB : q.block < wr.heap.size := Nat.lt_of_lt_of_le hqb hI.out.2.2.1.size
      have hin := HLIN.out k hlt2
      have HZ := Lib.hid (wrAll_zero (s := st) (a := a) hlt2)
      have HE := Lib.hid (wrAll_err (s := st) (a := a) hlt2)
      obtain ⟨x, hx⟩ : ∃ x, l[k] = x := ⟨_, rfl⟩
      rw [hx] at hc0 hc1 hin HZ HE
      obtain ⟨at0, wd⟩ := x
      simp only at hc0 hc1 hin HZ HE
      obtain ⟨W, hW⟩ : ∃ W, W = wr.alloc (.cells #[.int .i64 at0, .int .u32 (num wd)] 84) := ⟨_, rfl⟩
      have hWB : Below wr.heap.size wr W := by rw [hW]; exact (Below.refl _ _).alloc (Nat.le_refl _) _
      have hbw : Blk W wr.heap.size 84 #[.int .i64 at0, .int .u32 (num wd)] := by rw [hW]; exact Blk.new _ _ _ rfl
      have hw0 : w.heap.size ≤ W0.heap.size := Nat.le_trans HVB.out.size (Below.size HS.out)
      have hbb : Blk W w.heap.size 71 #[.pointer (some ⟨p, 0, none⟩), .int .i64 (id : Int)] := ((HBX.out W0 HS.out).turn hI.out.2.2.1 (HNG.out _ (Nat.le_refl _))).under hWB
      have hwr0 : w.heap.size ≤ wr.heap.size := Nat.le_trans hw0 hI.out.2.2.1.size
      have HBW : Hid (∀ Y, Turn G W Y → Blk Y w.heap.size 71 #[.pointer (some ⟨p, 0, none⟩), .int .i64 (id : Int)] ∧ Blk Y wr.heap.size 84 #[.int .i64 at0, .int .u32 (num wd)]) := Lib.hid fun Y hY => ⟨hbb.turn hY (HNG.out _ (Nat.le_refl _)), hbw.turn hY (HNG.out _ hwr0)⟩
      have HAT := Lib.hid (fun Y => at_any p id pl (by have := HID.out.1; have := HID.out.2.1; omega) HID.out.2.2.1 Y)
      rw [← HA.out] at HAT
      obtain ⟨E, hE⟩ : ∃ E, E = st.wrE ((a : Int) + at0) := ⟨_, rfl⟩
      obtain ⟨j, hj⟩ : ∃ j, j = (a : Int) + at0 := ⟨_, rfl⟩
      have e8 : IntKind.i64.wrap ((a : Int) + at0) = j := by rw [IntKind.wrap_i64]; have := HID.out.1; have := HID.out.2.1; have := HID.out.2.2.1; have := HA.out; omega
      rw [← hj] at HZ HE hE
      rw [← hE] at HZ HE
      have hcn : st.cnt < 1000000 := by have := hI.out.2.2.2; have := HID.out.2.2.2; omega
      have HWR : Hid (∀ Y, VS W Y → Calls Try.prog 44 #[.pointer (some ⟨p, 0, none⟩), .int .i64 j, .int .u32 (num wd)] Y fun e w' => e = .returned (.int .i64 (E : Int)) ∧ NC w' G p (st.wr j wd) v A c ∧ Turn G Y w') := Lib.hid fun Y hY => by
        rw [hE]
        exact write_any ((hI.out.2.1.under hWB).under hY) hcn j wd
      have HT := Lib.hid (And.intro hI.out.2.2.1 hWB)
      have HCN : Hid ((st.wr j wd).cnt ≤ s.cnt + (k + 1)) := Lib.hid (by have := St.wr_cnt st j wd; have := hI.out.2.2.2; omega)
      have HFB : Hid (Turn G w wr) := Lib.hid ((Turn.of_below (HVB.out.trans (Below.mono HS.out HVB.out.size))).andThen hI.out.2.2.1)
      have HK := Lib.hid hlt
      have HH := Lib.hid hI.out.1
      have HWW := Lib.hid hW
      have hk1 : (k : Int) < (n : Int) := by omega
      clear hlies hx hin hW hWB hbw hw0 hbb hwr0 hE hj hcn hI hlt2 hqb
      go_upto_region 4 with fail
      rw [← HWW.out]
      clear hc0 hc1
      refine wp_region_held_drew (S := fun Y => Turn G W Y) (by kernel_rfl) (Turn.refl G W).drew (fun hS => ?_)
      (refine held_take (i := 0) (oi := ?ot10) (v := ?vt10) ?at10 (by kernel_rfl) (by kernel_rfl) (by kernel_rfl) ?bt10 ?ct10 ?dt10 (by assumption) ?rt10; (case at10 => (simp only [List.getElem?_toArray, List.getElem?_cons_zero]; rfl)); (case bt10 => exact fun _ _ _ h => h); (case ct10 => kernel_rfl); (case dt10 => (intro W hW; (try dsimp only at hW); go_split_ands; go_simp; (try with_reducible rfl))); (case' rt10 => simp only [Act.put, List.setIfInBounds_toArray, List.set_cons_zero, List.set_cons_succ]))
      (refine held_take (i := 1) (oi := ?ot11) (v := .pointer (some ⟨p, 0, none⟩)) ?at11 (by kernel_rfl) (by kernel_rfl) (by kernel_rfl) ?bt11 ?ct11 ?dt11 (by assumption) ?rt11; (case at11 => (simp only [List.getElem?_toArray, List.getElem?_cons_zero, List.getElem?_cons_succ]; rfl)); (case bt11 => exact fun _ _ _ h => h); (case ct11 => kernel_rfl); (case dt11 => (intro W9 hW; have c0 := (HBW.out W9 hW).1.cellAt 0 rfl; clear hW; go_simp; (try with_reducible rfl))); (case' rt11 => simp only [Act.put, List.setIfInBounds_toArray, List.set_cons_zero, List.set_cons_succ]))
      (refine held_take (i := 2) (oi := ?ot12) (v := .agg #[.pointer (some ⟨p, 0, none⟩), .int .i64 (id : Int)]) ?at12 (by kernel_rfl) (by kernel_rfl) (by kernel_rfl) ?bt12 ?ct12 ?dt12 (by assumption) ?rt12; (case at12 => (simp only [List.getElem?_toArray, List.getElem?_cons_zero, List.getElem?_cons_succ]; rfl)); (case bt12 => exact fun _ _ _ h => h); (case ct12 => kernel_rfl); (case dt12 => (intro W9 hW; exact exec_load _ _ rfl _ rfl _ ((HBW.out W9 hW).1.load Try.underlying71 rfl infoC))); (case' rt12 => simp only [Act.put, List.setIfInBounds_toArray, List.set_cons_zero, List.set_cons_succ]))
      (refine held_take (i := 3) (oi := ?ot13) (v := ?vt13) ?at13 (by kernel_rfl) (by kernel_rfl) (by kernel_rfl) ?bt13 ?ct13 ?dt13 (by assumption) ?rt13; (case at13 => (simp only [List.getElem?_toArray, List.getElem?_cons_zero, List.getElem?_cons_succ]; rfl)); (case bt13 => exact fun _ _ _ h => h); (case ct13 => kernel_rfl); (case dt13 => (intro W hW; (try dsimp only at hW); go_split_ands; go_simp; (try with_reducible rfl))); (case' rt13 => simp only [Act.put, List.setIfInBounds_toArray, List.set_cons_zero, List.set_cons_succ]))
      (refine held_take (i := 5) (oi := ?ot14) (v := ?vt14) ?at14 (by kernel_rfl) (by kernel_rfl) (by kernel_rfl) ?bt14 ?ct14 ?dt14 (by assumption) ?rt14; (case at14 => (simp only [List.getElem?_toArray, List.getElem?_cons_zero, List.getElem?_cons_succ]; rfl)); (case bt14 => exact fun _ _ _ h => h); (case ct14 => kernel_rfl); (case dt14 => (intro W hW; (try dsimp only at hW); go_split_ands; go_simp; (try with_reducible rfl))); (case' rt14 => simp only [Act.put, List.setIfInBounds_toArray, List.set_cons_zero, List.set_cons_succ]))
      (refine held_take (i := 6) (oi := ?ot15) (v := .int .i64 at0) ?at15 (by kernel_rfl) (by kernel_rfl) (by kernel_rfl) ?bt15 ?ct15 ?dt15 (by assumption) ?rt15; (case at15 => (simp only [List.getElem?_toArray, List.getElem?_cons_zero, List.getElem?_cons_succ]; rfl)); (case bt15 => exact fun _ _ _ h => h); (case ct15 => kernel_rfl); (case dt15 => (intro W9 hW; have c0 := (HBW.out W9 hW).2.cellAt 0 rfl; clear hW; go_simp; (try with_reducible rfl))); (case' rt15 => simp only [Act.put, List.setIfInBounds_toArray, List.set_cons_zero, List.set_cons_succ]))
      (refine held_take (i := 8) (oi := ?ot16) (v := ?vt16) ?at16 (by kernel_rfl) (by kernel_rfl) (by kernel_rfl) ?bt16 ?ct16 ?dt16 (by assumption) ?rt16; (case at16 => (simp only [List.getElem?_toArray, List.getElem?_cons_zero, List.getElem?_cons_succ]; rfl)); (case bt16 => exact fun _ _ _ h => h); (case ct16 => kernel_rfl); (case dt16 => (intro W hW; (try dsimp only at hW); go_split_ands; go_simp; (try with_reducible rfl))); (case' rt16 => simp only [Act.put, List.setIfInBounds_toArray, List.set_cons_zero, List.set_cons_succ]))
      (refine held_take (i := 9) (oi := ?ot17) (v := .int .u32 (num wd)) ?at17 (by kernel_rfl) (by kernel_rfl) (by kernel_rfl) ?bt17 ?ct17 ?dt17 (by assumption) ?rt17; (case at17 => (simp only [List.getElem?_toArray, List.getElem?_cons_zero, List.getElem?_cons_succ]; rfl)); (case bt17 => exact fun _ _ _ h => h); (case ct17 => kernel_rfl); (case dt17 => (intro W9 hW; have c0 := (HBW.out W9 hW).2.cellAt 1 rfl; clear hW; go_simp; (try with_reducible rfl))); (case' rt17 => simp only [Act.put, List.setIfInBounds_toArray, List.set_cons_zero, List.set_cons_succ]))
      refine held_one (i := 4) (oi := ?ot18) (by kernel_rfl) ?at18 ?ct18 (fun K4 hK4 => ?_)
      (case at18 => (simp only [List.getElem?_toArray, List.getElem?_cons_zero, List.getElem?_cons_succ]; rfl))
      (case ct18 => kernel_rfl)
      have hSb := hS
      go_simp
      refine (HAT.out _).mono ?_
      rintro e y4 ⟨rfl, hd⟩
      have HVS := Lib.hid (VS.keep (VS.begin W) hd)
      refine hK4 _ _ (hSb.andThen (Turn.of_below hd)) (fun hS4 => ?_)
      clear hS hSb hd hK4 K4
      (refine held_take (i := 7) (oi := ?ot19) (v := ?vt19) ?at19 (by kernel_rfl) (by kernel_rfl) (by kernel_rfl) ?bt19 ?ct19 ?dt19 (by assumption) ?rt19; (case at19 => (simp only [List.getElem?_toArray, List.getElem?_cons_zero, List.getElem?_cons_succ]; rfl)); (case bt19 => exact fun _ _ _ h => h); (case ct19 => kernel_rfl); (case dt19 => (intro W hW; (try dsimp only at hW); go_split_ands; go_simp; (try with_reducible rfl))); (case' rt19 => simp only [Act.put, List.setIfInBounds_toArray, List.set_cons_zero, List.set_cons_succ]))
      refine held_one (i := 10) (oi := ?ot20) (by kernel_rfl) ?at20 ?ct20 (fun K10 hK10 => ?_)
      (case at20 => (simp only [List.getElem?_toArray, List.getElem?_cons_zero, List.getElem?_cons_succ]; rfl))
      (case ct20 => kernel_rfl)
      have hSb := hS4
      go_simp
      refine (HWR.out _ HVS.out).mono ?_
      rintro e y10 ⟨rfl, hn, ht⟩
      have HN := Lib.hid hn
      refine hK10 _ _ (hSb.andThen ht) (fun hS10 => ?_)
      clear hS4 hSb hn ht hK10 K10
      (refine held_take (i := 11) (oi := ?ot21) (v := ?vt21) ?at21 (by kernel_rfl) (by kernel_rfl) (by kernel_rfl) ?bt21 ?ct21 ?dt21 (by assumption) ?rt21; (case at21 => (simp only [List.getElem?_toArray, List.getElem?_cons_zero, List.getElem?_cons_succ]; rfl)); (case bt21 => exact fun _ _ _ h => h); (case ct21 => kernel_rfl); (case dt21 => (intro W hW; (try dsimp only at hW); go_split_ands; go_simp; (try with_reducible rfl))); (case' rt21 => simp only [Act.put, List.setIfInBounds_toArray, List.set_cons_zero, List.set_cons_succ]))
      refine wpAnyH_done (by kernel_rfl) ?_ _
      have HTY := Lib.hid hS10
      clear hS10
      by_cases hE0 : E = 0
      · subst hE0
        go_wp2
        go_roundw
        case rel => exact ⟨k + 1, _, HK.out, by go_num, Lib.hid ⟨HH.out.trans (HZ.out rfl), HN.out, HT.out.1.trans ((Turn.of_below HT.out.2).andThen HTY.out) (fun i hi => .inl hi), HCN.out⟩⟩
        case measure => have := HK.out; simp [intOf]; omega
      · have hE1 : ¬ (E : Int) = 0 := by omega
        have hE2 : ((E : Int) != 0) = true := by simp [hE0]
        go_wp2
        go_ret
        have h1 := HH.out.trans (HE.out hE0)
        rw [h1]
        exact ⟨rfl, HN.out, HFB.out.trans ((Turn.of_below HT.out.2).andThen HTY.out) fun i hi => .inl hi⟩
    · obtain rfl : k = n := by omega
      clear hlt hk
      go_wp2
      go_ret
      have h1 := hI.out.1
      rw [HN0.out, List.drop_length] at h1
      rw [h1]
      exact ⟨rfl, hI.out.2.1, (Turn.of_below (HVB.out.trans (Below.mono HS.out HVB.out.size))).trans hI.out.2.2.1 fun i hi => .inl hi⟩
theorem bump_err {s : St} {id : Int} {x : W32} (h : (rv s.ws id).err ≠ 0) : bump s id x = ((rv s.ws id).err, s) := by unfold bump; rw [if_pos h]
theorem bump_back {s : St} {id : Int} {x : W32} (h : (rv s.ws id).err = 0) (h2 : x.toNat ≤ (rv s.ws id).val.toNat) : bump s id x = (132, s) := by unfold bump; rw [if_neg (by rw [h]; decide), if_pos h2]
theorem bump_full {s : St} {id : Int} {x : W32} (h : (rv s.ws id).err = 0) (h2 : ¬ x.toNat ≤ (rv s.ws id).val.toNat) (h3 : x = ones) : bump s id x = (131, s) := by unfold bump; rw [if_neg (by rw [h]; decide), if_neg h2, if_pos h3]
theorem bump_does {s : St} {id : Int} {x : W32} (h : (rv s.ws id).err = 0) (h2 : ¬ x.toNat ≤ (rv s.ws id).val.toNat) (h3 : ¬ x = ones) : bump s id x = wrAll s (bumpA id (rv s.ws id).snd) (bumpL s.ws id x) := by unfold bump; rw [if_neg (by rw [h]; decide), if_neg h2, if_neg h3]
theorem rv_in {ws : List W32} {id : Int} (h : (rv ws id).err = 0) : 0 ≤ id ∧ id < ((ws.length / 8 : Nat) : Int) := by
  by_cases hin : 0 ≤ id ∧ id < ((ws.length / 8 : Nat) : Int)
  · exact hin
  · rw [rv_out _ _ hin] at h; cases h
set_option maxRecDepth 100000 in
set_option maxHeartbeats 2000000 in
theorem bump_any {w : World} {G : Nat → Prop} {p c : Nat} {s : St} {v : Value} {A : Option Addr} (h : NC w G p s v A c) (hl : s.ws.length ≤ 100000) (hcnt : s.cnt < 900000) (id : Int) (x : W32) :
    Calls Try.prog 18 #[.pointer (some ⟨p, 0, none⟩), .int .i64 id, .int .u32 (num x)] w fun e w' => e = .returned (.int .i64 ((bump s id x).1 : Int)) ∧ NC w' G p (bump s id x).2 v A c ∧ Turn G w w' := by
  obtain ⟨r, hr⟩ : ∃ r, r = rv s.ws id := ⟨_, rfl⟩
  obtain ⟨V1, hV1⟩ : ∃ V1, V1 = w.alloc (.cells #[.pointer (some ⟨p, 0, none⟩), .int .i64 id] 71) := ⟨_, rfl⟩
  have hB1 : Below w.heap.size w V1 := by rw [hV1]; exact (Below.refl _ _).alloc (Nat.le_refl _) _
  have hX1 : Blk V1 w.heap.size 71 #[.pointer (some ⟨p, 0, none⟩), .int .i64 id] := by rw [hV1]; exact Blk.new _ _ _ rfl
  have HRC := Lib.hid (recovered_any (h.under hB1) hl id r hr)
  have hbe := bump_err (s := s) (id := id) (x := x)
  have hbb := bump_back (s := s) (id := id) (x := x)
  have hbf := bump_full (s := s) (id := id) (x := x)
  have hbd := bump_does (s := s) (id := id) (x := x)
  have hbi := rv_in (ws := s.ws) (id := id)
  have hbl : bumpL s.ws id x = stepsL (idW id.toNat) (slotF s.ws id.toNat (offB r.snd)) (r.seq + 1) x := by rw [hr]; rfl
  rw [← hr] at hbe hbb hbf hbd hbi
  clear hr
  obtain ⟨er, b, sq, vl⟩ := r
  simp only at hbe hbb hbf hbd hbi hbl
  unfold rvA at HRC
  simp only at HRC
  obtain ⟨q, hq⟩ : ∃ q : Nat, q = cond b 1 0 := ⟨_, rfl⟩
  obtain ⟨o, ho⟩ : ∃ o : Nat, o = offB b := ⟨_, rfl⟩
  have HOT := Lib.hid (fun W => other_any b W)
  rw [← hq] at HRC HOT
  rw [← ho] at HOT hbl
  have ho1 : o ≤ 1 := by rw [ho]; cases b <;> decide
  have hbA : bumpA id b = 8 * id.toNat + 4 * o := by rw [ho]; rfl
  have HN0 := Lib.hid h
  have HB1 := Lib.hid hB1
  have HX1 := Lib.hid hX1
  have HV1 := Lib.hid hV1
  have HLC := Lib.hid (And.intro hl hcnt)
  clear h hB1 hX1 hV1 hl hcnt hq ho
  by_cases h0 : er = 0
  case neg =>
    have HE := Lib.hid (hbe h0)
    have e1 : ¬ (er : Int) = 0 := by omega
    have e2 : ((er : Int) != 0) = true := by simp [h0]
    have e3 : ((er : Int) == 0) = false := by simp [h0]
    clear h0 hbe hbb hbf hbd hbi hbl hbA ho1
    go_enter Try.func18, Try.ntmps18
    go_upto_region 2 with fail
    rw [← HV1.out]
    go_wp2_with (first
      | ((with_reducible show wpList _ _ _ (Oper.mk _ (.load 71 _) _ _ _ _ :: _) _ _); refine wl_load rfl 71 _ rfl _ rfl _ (HX1.out.load Try.underlying71 rfl infoC) ?_)
      | (go_at_call 28; refine HRC.out.mono ?_; rintro e w1 ⟨rfl, hd⟩; have HF : Hid (Below w.heap.size w (w1.alloc (.cells #[.int .u32 (num sq), .int .u32 (num vl), .int .i64 (q : Int)] 68))) := Lib.hid ((HB1.out.trans (hd.mono HB1.out.size)).alloc (Nat.le_trans HB1.out.size hd.size) _); clear hd))
    go_ret
    rw [HE.out]
    exact ⟨rfl, HN0.out.under HF.out, Turn.of_below HF.out⟩
  subst h0
  by_cases h1 : x.toNat ≤ vl.toNat
  · have HE := Lib.hid (hbb rfl h1)
    have e1 : num x ≤ num vl := by unfold num; omega
    have e2 : decide (num x ≤ num vl) = true := decide_eq_true e1
    clear h1 hbe hbb hbf hbd hbi hbl hbA ho1
    go_enter Try.func18, Try.ntmps18
    go_upto_region 2 with fail
    rw [← HV1.out]
    go_wp2_with (first
      | ((with_reducible show wpList _ _ _ (Oper.mk _ (.load 71 _) _ _ _ _ :: _) _ _); refine wl_load rfl 71 _ rfl _ rfl _ (HX1.out.load Try.underlying71 rfl infoC) ?_)
      | (go_at_call 28; refine HRC.out.mono ?_; rintro e w1 ⟨rfl, hd⟩; have HF : Hid (Below w.heap.size w (w1.alloc (.cells #[.int .u32 (num sq), .int .u32 (num vl), .int .i64 (q : Int)] 68))) := Lib.hid ((HB1.out.trans (hd.mono HB1.out.size)).alloc (Nat.le_trans HB1.out.size hd.size) _); clear hd))
    go_ret
    rw [HE.out]
    exact ⟨rfl, HN0.out.under HF.out, Turn.of_below HF.out⟩
  have e1 : ¬ num x ≤ num vl := by unfold num; omega
  have e2 : decide (num x ≤ num vl) = false := decide_eq_false e1
  by_cases h2 : x = ones
  · have HE := Lib.hid (hbf rfl h1 h2)
    have e3 := ones_num h2
    have e4 : (num x == 4294967295) = true := by simp [e3]
    clear e3
    clear h1 h2 hbe hbb hbf hbd hbi hbl hbA ho1
    go_enter Try.func18, Try.ntmps18
    go_upto_region 2 with fail
    rw [← HV1.out]
    go_wp2_with (first
      | ((with_reducible show wpList _ _ _ (Oper.mk _ (.load 71 _) _ _ _ _ :: _) _ _); refine wl_load rfl 71 _ rfl _ rfl _ (HX1.out.load Try.underlying71 rfl infoC) ?_)
      | (go_at_call 28; refine HRC.out.mono ?_; rintro e w1 ⟨rfl, hd⟩; have HF : Hid (Below w.heap.size w (w1.alloc (.cells #[.int .u32 (num sq), .int .u32 (num vl), .int .i64 (q : Int)] 68))) := Lib.hid ((HB1.out.trans (hd.mono HB1.out.size)).alloc (Nat.le_trans HB1.out.size hd.size) _); clear hd))
    go_ret
    rw [HE.out]
    exact ⟨rfl, HN0.out.under HF.out, Turn.of_below HF.out⟩
  have e3 := ones_ne h2
  have e4 : (num x == 4294967295) = false := by simp [e3]
  have hin := hbi rfl
  obtain ⟨k, rfl⟩ := Int.eq_ofNat_of_zero_le hin.1
  have hk : k < s.ws.length / 8 := by omega
  rw [Int.toNat_natCast] at hbl hbA
  have hbd2 : bump s (k : Int) x = wrAll s (8 * k + 4 * o) (stepsL (idW k) (slotF s.ws k o) (sq + 1) x) := by rw [hbd rfl h1 h2, hbA, hbl]
  have HLY0 : Hid (∀ Y, Below w.heap.size w Y → Calls Try.prog 33 #[.agg #[.pointer (some ⟨p, 0, none⟩), .int .i64 (k : Int)], .int .i64 (o : Int), .agg #[.int .u32 (num (sq + 1)), .int .u32 (num x)]] Y fun e w' => e = .returned (.int .i64 ((bump s (k : Int) x).1 : Int)) ∧ NC w' G p (bump s (k : Int) x).2 v A c ∧ Turn G Y w') := Lib.hid fun Y hY => by
    rw [hbd2]
    exact lay_any (HN0.out.under hY) HLC.out.1 HLC.out.2 k o hk ho1 (sq + 1) x
  obtain ⟨E, hE⟩ : ∃ E, E = (bump s (k : Int) x).1 := ⟨_, rfl⟩
  obtain ⟨S2, hS2⟩ : ∃ S2, S2 = (bump s (k : Int) x).2 := ⟨_, rfl⟩
  rw [← hE, ← hS2] at HLY0 ⊢
  have HNG : Hid (∀ k, w.heap.size ≤ k → ¬ G k) := Lib.hid fun k hk hg => by have := HN0.out.lay.lt k hg; omega
  have e5 : IntKind.u32.wrap (num sq + 1) = num (sq + 1) := num_add sq 1
  clear h1 h2 hbe hbb hbf hbd hbi hbl hbA ho1 hin hk hbd2 hE hS2
  go_enter Try.func18, Try.ntmps18
  go_upto_region 2 with fail
  rw [← HV1.out]
  go_upto_region 9 with (first
    | ((with_reducible show wpList _ _ _ (Oper.mk _ (.load 71 _) _ _ _ _ :: _) _ _); refine wl_load rfl 71 _ rfl _ rfl _ (HX1.out.load Try.underlying71 rfl infoC) ?_)
    | (go_at_call 28; refine HRC.out.mono ?_; rintro e w1 ⟨rfl, hd⟩; have H1 := Lib.hid hd; clear hd))
  obtain ⟨V, hV⟩ : ∃ V, V = w1.alloc (.cells #[.int .u32 (num sq), .int .u32 (num vl), .int .i64 (q : Int)] 68) := ⟨_, rfl⟩
  have hBV : Below w.heap.size w V := by rw [hV]; exact (HB1.out.trans (H1.out.mono HB1.out.size)).alloc (Nat.le_trans HB1.out.size H1.out.size) _
  have hb1 : Blk V w.heap.size 71 #[.pointer (some ⟨p, 0, none⟩), .int .i64 (k : Int)] := by rw [hV]; exact (HX1.out.under H1.out).alloc _
  have hb2 : Blk V w1.heap.size 68 #[.int .u32 (num sq), .int .u32 (num vl), .int .i64 (q : Int)] := by rw [hV]; exact Blk.new _ _ _ rfl
  have HBX : Hid (∀ Y, Turn G V Y → Blk Y w.heap.size 71 #[.pointer (some ⟨p, 0, none⟩), .int .i64 (k : Int)] ∧ Blk Y w1.heap.size 68 #[.int .u32 (num sq), .int .u32 (num vl), .int .i64 (q : Int)]) := Lib.hid fun Y hY => ⟨hb1.turn hY (HNG.out _ (Nat.le_refl _)), hb2.turn hY (HNG.out _ (Nat.le_trans HB1.out.size H1.out.size))⟩
  have HLY : Hid (∀ Y, VS V Y → Calls Try.prog 33 #[.agg #[.pointer (some ⟨p, 0, none⟩), .int .i64 (k : Int)], .int .i64 (o : Int), .agg #[.int .u32 (num (sq + 1)), .int .u32 (num x)]] Y fun e w' => e = .returned (.int .i64 (E : Int)) ∧ NC w' G p S2 v A c ∧ Turn G Y w') := Lib.hid fun Y hY => HLY0.out Y (hBV.trans (Below.mono hY hBV.size))
  have HBV := Lib.hid hBV
  rw [← hV]
  clear hV hBV hb1 hb2 HX1 HV1 HRC
  refine wp_region_held_drew (S := fun Y => Turn G V Y) (by kernel_rfl) (Turn.refl G V).drew (fun hS => ?_)
  (refine held_take (i := 0) (oi := ?ot22) (v := .agg #[.pointer (some ⟨p, 0, none⟩), .int .i64 (k : Int)]) ?at22 (by kernel_rfl) (by kernel_rfl) (by kernel_rfl) ?bt22 ?ct22 ?dt22 (by assumption) ?rt22; (case at22 => (simp only [List.getElem?_toArray, List.getElem?_cons_zero]; rfl)); (case bt22 => exact fun _ _ _ h => h); (case ct22 => kernel_rfl); (case dt22 => (intro W9 hW; exact exec_load _ _ rfl _ rfl _ ((HBX.out W9 hW).1.load Try.underlying71 rfl infoC))); (case' rt22 => simp only [Act.put, List.setIfInBounds_toArray, List.set_cons_zero, List.set_cons_succ]))
  (refine held_take (i := 1) (oi := ?ot23) (v := ?vt23) ?at23 (by kernel_rfl) (by kernel_rfl) (by kernel_rfl) ?bt23 ?ct23 ?dt23 (by assumption) ?rt23; (case at23 => (simp only [List.getElem?_toArray, List.getElem?_cons_zero, List.getElem?_cons_succ]; rfl)); (case bt23 => exact fun _ _ _ h => h); (case ct23 => kernel_rfl); (case dt23 => (intro W hW; (try dsimp only at hW); go_split_ands; go_simp; (try with_reducible rfl))); (case' rt23 => simp only [Act.put, List.setIfInBounds_toArray, List.set_cons_zero, List.set_cons_succ]))
  (refine held_take (i := 2) (oi := ?ot24) (v := .int .i64 (q : Int)) ?at24 (by kernel_rfl) (by kernel_rfl) (by kernel_rfl) ?bt24 ?ct24 ?dt24 (by assumption) ?rt24; (case at24 => (simp only [List.getElem?_toArray, List.getElem?_cons_zero, List.getElem?_cons_succ]; rfl)); (case bt24 => exact fun _ _ _ h => h); (case ct24 => kernel_rfl); (case dt24 => (intro W9 hW; have c0 := (HBX.out W9 hW).2.cellAt 2 rfl; clear hW; go_simp; (try with_reducible rfl))); (case' rt24 => simp only [Act.put, List.setIfInBounds_toArray, List.set_cons_zero, List.set_cons_succ]))
  (refine held_take (i := 4) (oi := ?ot25) (v := ?vt25) ?at25 (by kernel_rfl) (by kernel_rfl) (by kernel_rfl) ?bt25 ?ct25 ?dt25 (by assumption) ?rt25; (case at25 => (simp only [List.getElem?_toArray, List.getElem?_cons_zero, List.getElem?_cons_succ]; rfl)); (case bt25 => exact fun _ _ _ h => h); (case ct25 => kernel_rfl); (case dt25 => (intro W hW; (try dsimp only at hW); go_split_ands; go_simp; (try with_reducible rfl))); (case' rt25 => simp only [Act.put, List.setIfInBounds_toArray, List.set_cons_zero, List.set_cons_succ]))
  (refine held_take (i := 5) (oi := ?ot26) (v := ?vt26) ?at26 (by kernel_rfl) (by kernel_rfl) (by kernel_rfl) ?bt26 ?ct26 ?dt26 (by assumption) ?rt26; (case at26 => (simp only [List.getElem?_toArray, List.getElem?_cons_zero, List.getElem?_cons_succ]; rfl)); (case bt26 => exact fun _ _ _ h => h); (case ct26 => kernel_rfl); (case dt26 => (intro W hW; (try dsimp only at hW); go_split_ands; go_simp; (try with_reducible rfl))); (case' rt26 => simp only [Act.put, List.setIfInBounds_toArray, List.set_cons_zero, List.set_cons_succ]))
  (refine held_take (i := 6) (oi := ?ot27) (v := .int .u32 (num sq)) ?at27 (by kernel_rfl) (by kernel_rfl) (by kernel_rfl) ?bt27 ?ct27 ?dt27 (by assumption) ?rt27; (case at27 => (simp only [List.getElem?_toArray, List.getElem?_cons_zero, List.getElem?_cons_succ]; rfl)); (case bt27 => exact fun _ _ _ h => h); (case ct27 => kernel_rfl); (case dt27 => (intro W9 hW; have c0 := (HBX.out W9 hW).2.cellAt 0 rfl; clear hW; go_simp; (try with_reducible rfl))); (case' rt27 => simp only [Act.put, List.setIfInBounds_toArray, List.set_cons_zero, List.set_cons_succ]))
  (refine held_take (i := 7) (oi := ?ot28) (v := .int .u32 (num (sq + 1))) ?at28 (by kernel_rfl) (by kernel_rfl) (by kernel_rfl) ?bt28 ?ct28 ?dt28 (by assumption) ?rt28; (case at28 => (simp only [List.getElem?_toArray, List.getElem?_cons_zero, List.getElem?_cons_succ]; rfl)); (case bt28 => exact fun _ _ _ h => h); (case ct28 => kernel_rfl); (case dt28 => (intro W9 hW; clear hW; go_simp; (try with_reducible rfl); (try rw [e5]); (try with_reducible rfl))); (case' rt28 => simp only [Act.put, List.setIfInBounds_toArray, List.set_cons_zero, List.set_cons_succ]))
  (refine held_take (i := 8) (oi := ?ot29) (v := ?vt29) ?at29 (by kernel_rfl) (by kernel_rfl) (by kernel_rfl) ?bt29 ?ct29 ?dt29 (by assumption) ?rt29; (case at29 => (simp only [List.getElem?_toArray, List.getElem?_cons_zero, List.getElem?_cons_succ]; rfl)); (case bt29 => exact fun _ _ _ h => h); (case ct29 => kernel_rfl); (case dt29 => (intro W hW; (try dsimp only at hW); go_split_ands; go_simp; (try with_reducible rfl))); (case' rt29 => simp only [Act.put, List.setIfInBounds_toArray, List.set_cons_zero, List.set_cons_succ]))
  (refine held_take (i := 9) (oi := ?ot30) (v := ?vt30) ?at30 (by kernel_rfl) (by kernel_rfl) (by kernel_rfl) ?bt30 ?ct30 ?dt30 (by assumption) ?rt30; (case at30 => (simp only [List.getElem?_toArray, List.getElem?_cons_zero, List.getElem?_cons_succ]; rfl)); (case bt30 => exact fun _ _ _ h => h); (case ct30 => kernel_rfl); (case dt30 => (intro W hW; (try dsimp only at hW); go_split_ands; go_simp; (try with_reducible rfl))); (case' rt30 => simp only [Act.put, List.setIfInBounds_toArray, List.set_cons_zero, List.set_cons_succ]))
  refine held_one (i := 3) (oi := ?ot31) (by kernel_rfl) ?at31 ?ct31 (fun K3 hK3 => ?_)
  (case at31 => (simp only [List.getElem?_toArray, List.getElem?_cons_zero, List.getElem?_cons_succ]; rfl))
  (case ct31 => kernel_rfl)
  have hSb := hS
  go_simp
  refine (HOT.out _).mono ?_
  rintro e y3 ⟨rfl, rfl⟩
  refine hK3 _ _ hSb (fun hS3 => ?_)
  clear hS hSb hK3 K3
  refine held_one (i := 10) (oi := ?ot32) (by kernel_rfl) ?at32 ?ct32 (fun K10 hK10 => ?_)
  (case at32 => (simp only [List.getElem?_toArray, List.getElem?_cons_zero, List.getElem?_cons_succ]; rfl))
  (case ct32 => kernel_rfl)
  have hSb := hS3
  go_simp
  refine (HLY.out _ (VS.begin _)).mono ?_
  rintro e y10 ⟨rfl, hn, ht⟩
  have HN := Lib.hid hn
  refine hK10 _ _ (hSb.andThen ht) (fun hS10 => ?_)
  clear hS3 hSb hn ht hK10 K10
  (refine held_take (i := 11) (oi := ?ot33) (v := ?vt33) ?at33 (by kernel_rfl) (by kernel_rfl) (by kernel_rfl) ?bt33 ?ct33 ?dt33 (by assumption) ?rt33; (case at33 => (simp only [List.getElem?_toArray, List.getElem?_cons_zero, List.getElem?_cons_succ]; rfl)); (case bt33 => exact fun _ _ _ h => h); (case ct33 => kernel_rfl); (case dt33 => (intro W hW; (try dsimp only at hW); go_split_ands; go_simp; (try with_reducible rfl))); (case' rt33 => simp only [Act.put, List.setIfInBounds_toArray, List.set_cons_zero, List.set_cons_succ]))
  refine wpAnyH_done (by kernel_rfl) ?_ _
  have HT := Lib.hid hS10
  clear hS10
  go_wp2
  go_ret
  exact ⟨rfl, HN.out, (Turn.of_below HBV.out).andThen HT.out⟩
end Go.Proofs.Ytpeebdhbcglibaa
