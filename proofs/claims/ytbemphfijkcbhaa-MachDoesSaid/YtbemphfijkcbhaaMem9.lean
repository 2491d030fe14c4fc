/- mach.Mem: Read, Write, Zero. -/
import Derived.Test.YtbemphfijkcbhaaBarred
namespace Go.Proofs.Ytbemphfijkcbhaa
open Go.RowKit

/-- Memory may lie there. -/
def RamOk (ram : Sp) : Prop := paged ram = true ∧ ram.1 + ram.2 ≤ 1099511627776
theorem RamOk.good {ram : Sp} (h : RamOk ram) : good ram = true := by
  have := h.1
  simp only [paged, Bool.and_eq_true] at this
  exact this.1
theorem RamOk.fit {ram : Sp} (h : RamOk ram) : fit ram := by
  have h1 := (good_iff _).1 h.good
  have h2 := h.2
  exact ⟨by omega, by omega⟩
/-- Memory of the program's: its block, its pages. -/
structure MC (w : World) (G : Nat → Prop) (p b : Nat) (ram : Sp) (n : Nat) (D : DataW Unit) (m : Bytes8) : Prop where
  blk : Blk w p 87 #[.int .u64 (ram.1 : Int), .int .u64 (ram.2 : Int), .map (some b)]
  off : ¬ G p
  pg : Pg w G b n D m noX
  ok : RamOk ram
theorem MC.under {w w' : World} {G : Nat → Prop} {p b n : Nat} {ram : Sp} {D : DataW Unit} {m : Bytes8} (h : MC w G p b ram n D m) (hd : Below w.heap.size w w') : MC w' G p b ram n D m := ⟨h.blk.under hd, h.off, h.pg.under hd, h.ok⟩
theorem MC.turn {w w' : World} {G H : Nat → Prop} {p b n : Nat} {ram : Sp} {D : DataW Unit} {m : Bytes8} (h : MC w G p b ram n D m) (hd : Turn H w w') (h1 : ∀ i, G i → ¬ H i) (h2 : ¬ H p) : MC w' G p b ram n D m := ⟨h.blk.turn hd h2, h.off, h.pg.turn hd h1, h.ok⟩
/-- The receiver's span. -/
theorem MC.space {w : World} {G : Nat → Prop} {p b n : Nat} {ram : Sp} {D : DataW Unit} {m : Bytes8} (h : MC w G p b ram n D m) (W : World) (hW : Below w.heap.size w W) :
    Calls Try.prog 56 #[.pointer (some ⟨p, 0, none⟩)] W fun e w' => e = .returned (.agg #[.int .u64 (ram.1 : Int), .int .u64 (ram.2 : Int)]) ∧ Below W.heap.size W w' := space_any p ram.1 ram.2 _ W (h.blk.under hW)
theorem ask_ok {ram : Sp} {a c : Nat} (hr : RamOk ram) (h : askR ram a c = 0) (ha : a < 18446744073709551616) : c ≤ 1048576 ∧ a < 18446744073709551616 ∧ (0 < c → a + c ≤ 1099511627776) := by
  unfold askR at h
  split at h
  · cases h
  · rename_i h1
    refine ⟨by omega, ha, fun hc => ?_⟩
    split at h
    · rename_i h2; omega
    · split at h
      · rename_i h3
        have h4 := hr.2
        simp only [within, Bool.and_eq_true, decide_eq_true_eq] at h3
        omega
      · cases h
theorem ask_nil (a c : Nat) : askR (0, 0) a c ≠ 0 := by
  unfold askR
  have h1 : good (0, 0) = false := by decide
  have h2 : within (a, c) (0, 0) = false := by simp [within, h1]
  rw [h1, h2]
  split
  · decide
  · simp
theorem ask_lt (r : Sp) (a c : Nat) : askR r a c < 1000 := by
  unfold askR
  split
  · decide
  · split
    · decide
    · split <;> decide
def rdL (r : Sp) (m : Bytes8) (at_ c : Nat) : List UInt8 := if askR r at_ c = 0 then rdM m at_ c else []
theorem arr_lies {w : World} {g c a : Nat} {m : Bytes8} (h : Arr w g 5 c (bys fun j => m (a + j))) : Lies w w.heap.size 1 (some ⟨g, 0, none⟩) (rdM m a c).length (u8s (rdM m a c)) := by
  have hl := h.lies h.lt 0 c (by omega)
  rw [rdM_length]
  have e : ((List.range c).map fun i => bys (fun j => m (a + j)) (0 + i)) = u8s (rdM m a c) := by
    unfold rdM u8s bys
    rw [List.map_map]
    exact List.map_congr_left fun i _ => by simp
  rw [e] at hl
  exact hl
/-- What an access is told that is forbidden, by memory that somebody made or nobody. -/
def SpaceAt (w : World) (v : Value) (r : Sp) : Prop := ∀ W, Below w.heap.size w W → Calls Try.prog 56 #[v] W fun e w' => e = .returned (.agg #[.int .u64 (r.1 : Int), .int .u64 (r.2 : Int)]) ∧ Below W.heap.size W w'
theorem SpaceAt.nil (w : World) : SpaceAt w (.pointer none) (0, 0) := fun W _ => space_nil W
theorem SpaceAt.barred {w : World} {v : Value} {r : Sp} (h : SpaceAt w v r) (hr : fit r) {a c : Nat} (hs : fit (a, c)) (W : World) (hW : Below w.heap.size w W) :
    Calls Try.prog 46 #[v, .agg #[.int .u64 (a : Int), .int .u64 (c : Int)]] W fun e w' => e = .returned (.int .i64 (askR r a c : Nat)) ∧ Below W.heap.size W w' :=
  barred_any v r.1 r.2 a c W hr hs fun Y hY => h Y (hW.trans (hY.mono hW.size))
set_option maxRecDepth 100000 in
set_option maxHeartbeats 1000000 in
theorem mread_no (v : Value) (r : Sp) (at_ c : Nat) (w : World) (hr : fit r) (hs : fit (at_, c)) (hsp : SpaceAt w v r) (hq : askR r at_ c ≠ 0) :
    Calls Try.prog 20 #[v, .int .u64 (at_ : Int), .int .u64 (c : Int)] w fun e w' => e = .returned (.tuple #[.slice none 0 0, .int .i64 (askR r at_ c : Nat)]) ∧ Below w.heap.size w w' := by
  have HB := Lib.hid (fun W hW => hsp.barred hr hs W hW)
  have hlt := ask_lt r at_ c
  obtain ⟨q, hq0⟩ : ∃ q, q = askR r at_ c := ⟨_, rfl⟩
  rw [← hq0] at hq hlt HB ⊢
  have h1 : ((q : Int) != 0) = true := by simp; omega
  have h2 : ¬ (q : Int) = 0 := by omega
  have H0 := Lib.hid (start9 w at_ c).1
  clear hsp hr hs hq0
  go_enter Try.func20, Try.ntmps20
  go_wp2_with (go_at_call 46; refine (HB.out _ H0.out).mono ?_; rintro e w1 ⟨rfl, hd⟩; have HD := Lib.hid hd; clear hd)
  go_ret2
  exact ⟨rfl, H0.out.trans (HD.out.mono H0.out.size)⟩
set_option maxRecDepth 100000 in
set_option maxHeartbeats 1000000 in
theorem mread_ok {w : World} {G : Nat → Prop} {p b n : Nat} {ram : Sp} {D : DataW Unit} {m : Bytes8} (hM : MC w G p b ram n D m) (at_ c : Nat) (hs : fit (at_, c)) (hq : askR ram at_ c = 0) :
    Calls Try.prog 20 #[.pointer (some ⟨p, 0, none⟩), .int .u64 (at_ : Int), .int .u64 (c : Int)] w fun e w' => ∃ g, e = .returned (.tuple #[.slice (some ⟨g, 0, none⟩) c c, .int .i64 0]) ∧ w.heap.size ≤ g ∧ Arr w' g 5 c (bys fun j => m (at_ + j)) ∧ Below w.heap.size w w' := by
  obtain ⟨ho1, ho2, ho3⟩ := ask_ok hM.ok hq hs.1
  have hbb := SpaceAt.barred (fun W hW => hM.space W hW) hM.ok.fit hs
  rw [hq] at hbb
  have HB := Lib.hid hbb
  have H0 := Lib.hid (start9 w at_ c).1
  have HRD : Hid (∀ W, Below w.heap.size w W → Calls Try.prog 47 #[.map (some b), .agg #[.int .u64 (at_ : Int), .int .u64 (c : Int)]] W fun e w' => ∃ g, e = .returned (.slice (some ⟨g, 0, none⟩) c c) ∧ W.heap.size ≤ g ∧ Arr w' g 5 c (bys fun j => m (at_ + j)) ∧ Below W.heap.size W w') := Lib.hid fun W hW =>
    read_any (hM.pg.under hW) at_ c ho1 ⟨ho2, ho3⟩
  have HM := Lib.hid hM.blk
  clear hM hs hq ho1 ho2 ho3 hbb
  go_enter Try.func20, Try.ntmps20
  go_wp2_with (go_at_call 46; refine (HB.out _ H0.out).mono ?_; rintro e w1 ⟨rfl, hd⟩; have HD := Lib.hid hd; clear hd)
  have HBD : Hid (Below w.heap.size w w1.drew) := Lib.hid (by
    have h := H0.out.trans (HD.out.mono H0.out.size)
    exact ⟨h.os, h.tape, h.output, h.size, h.block⟩)
  have HCL : Hid (∀ v, Turn (fun _ => False) w1.drew v → v.cell? ⟨p, 2, none⟩ = some (.map (some b)) ∧ v.cell? ⟨w.heap.size, 0, none⟩ = some (.int .u64 (at_ : Int)) ∧ v.cell? ⟨w.heap.size, 1, none⟩ = some (.int .u64 (c : Int))) := Lib.hid fun v hv => by
    have hm := (HM.out.under HBD.out).turn hv id
    have hb : Blk w1.drew w.heap.size 24 (boxSp at_ c) := (Blk.under (Blk.new _ _ _ rfl) HD.out : Blk w1 w.heap.size 24 (boxSp at_ c))
    have hb := hb.turn hv id
    exact ⟨hm.cellAt 2 rfl, hb.cellAt 0 rfl, hb.cellAt 1 rfl⟩
  have HC0 := Lib.hid (HCL.out _ (Turn.refl _ _))
  refine wp_region_held_drew (S := fun Y => Y.cell? ⟨p, 2, none⟩ = some (.map (some b)) ∧ Y.cell? ⟨w.heap.size, 0, none⟩ = some (.int .u64 (at_ : Int)) ∧ Y.cell? ⟨w.heap.size, 1, none⟩ = some (.int .u64 (c : Int))) (by kernel_rfl) HC0.out (fun hS => ?_)
  (refine held_take (i := 0) (oi := ?ot1) (v := ?vt1) ?at1 (by kernel_rfl) (by kernel_rfl) (by kernel_rfl) ?bt1 ?ct1 ?dt1 (by assumption) ?rt1; (case at1 => (simp only [List.getElem?_toArray, List.getElem?_cons_zero]; rfl)); (case bt1 => exact fun _ _ _ h => h); (case ct1 => kernel_rfl); (case dt1 => (intro W hW; (try dsimp only at hW); go_split_ands; go_simp; (try with_reducible rfl))); (case' rt1 => simp only [Act.put, List.setIfInBounds_toArray, List.set_cons_zero, List.set_cons_succ]))
  (refine held_take (i := 1) (oi := ?ot2) (v := ?vt2) ?at2 (by kernel_rfl) (by kernel_rfl) (by kernel_rfl) ?bt2 ?ct2 ?dt2 (by assumption) ?rt2; (case at2 => (simp only [List.getElem?_toArray, List.getElem?_cons_zero, List.getElem?_cons_succ]; rfl)); (case bt2 => exact fun _ _ _ h => h); (case ct2 => kernel_rfl); (case dt2 => (intro W hW; (try dsimp only at hW); go_split_ands; go_simp; (try with_reducible rfl))); (case' rt2 => simp only [Act.put, List.setIfInBounds_toArray, List.set_cons_zero, List.set_cons_succ]))
  (refine held_take (i := 2) (oi := ?ot3) (v := ?vt3) ?at3 (by kernel_rfl) (by kernel_rfl) (by kernel_rfl) ?bt3 ?ct3 ?dt3 (by assumption) ?rt3; (case at3 => (simp only [List.getElem?_toArray, List.getElem?_cons_zero, List.getElem?_cons_succ]; rfl)); (case bt3 => exact fun _ _ _ h => h); (case ct3 => kernel_rfl); (case dt3 => (intro W hW; (try dsimp only at hW); go_split_ands; go_simp; (try with_reducible rfl))); (case' rt3 => simp only [Act.put, List.setIfInBounds_toArray, List.set_cons_zero, List.set_cons_succ]))
  (refine held_take (i := 3) (oi := ?ot4) (v := ?vt4) ?at4 (by kernel_rfl) (by kernel_rfl) (by kernel_rfl) ?bt4 ?ct4 ?dt4 (by assumption) ?rt4; (case at4 => (simp only [List.getElem?_toArray, List.getElem?_cons_zero, List.getElem?_cons_succ]; rfl)); (case bt4 => exact fun _ _ _ h => h); (case ct4 => kernel_rfl); (case dt4 => (intro W hW; (try dsimp only at hW); go_split_ands; go_simp; (try with_reducible rfl))); (case' rt4 => simp only [Act.put, List.setIfInBounds_toArray, List.set_cons_zero, List.set_cons_succ]))
  (refine held_take (i := 4) (oi := ?ot5) (v := ?vt5) ?at5 (by kernel_rfl) (by kernel_rfl) (by kernel_rfl) ?bt5 ?ct5 ?dt5 (by assumption) ?rt5; (case at5 => (simp only [List.getElem?_toArray, List.getElem?_cons_zero, List.getElem?_cons_succ]; rfl)); (case bt5 => exact fun _ _ _ h => h); (case ct5 => kernel_rfl); (case dt5 => (intro W hW; (try dsimp only at hW); go_split_ands; go_simp; (try with_reducible rfl))); (case' rt5 => simp only [Act.put, List.setIfInBounds_toArray, List.set_cons_zero, List.set_cons_succ]))
  refine held_one (i := 5) (oi := ?ot6) (by kernel_rfl) ?at6 ?ct6 (fun K5 hK5 => ?_)
  (case at6 => (simp only [List.getElem?_toArray, List.getElem?_cons_zero, List.getElem?_cons_succ]; rfl))
  (case ct6 => kernel_rfl)
  go_simp
  refine (HRD.out _ HBD.out).mono ?_
  rintro e w5 ⟨g, rfl, hg, hA, hd⟩
  have HA := Lib.hid (And.intro hg (And.intro hA hd))
  refine hK5 _ _ (HCL.out w5 (Turn.of_below hd)) (fun hS5 => ?_)
  clear hS hg hA hd hK5 K5
  (refine held_take (i := 6) (oi := ?ot7) (v := ?vt7) ?at7 (by kernel_rfl) (by kernel_rfl) (by kernel_rfl) ?bt7 ?ct7 ?dt7 (by assumption) ?rt7; (case at7 => (simp only [List.getElem?_toArray, List.getElem?_cons_zero, List.getElem?_cons_succ]; rfl)); (case bt7 => exact fun _ _ _ h => h); (case ct7 => kernel_rfl); (case dt7 => (intro W hW; (try dsimp only at hW); go_split_ands; go_simp; (try with_reducible rfl))); (case' rt7 => simp only [Act.put, List.setIfInBounds_toArray, List.set_cons_zero, List.set_cons_succ]))
  (refine held_take (i := 7) (oi := ?ot8) (v := ?vt8) ?at8 (by kernel_rfl) (by kernel_rfl) (by kernel_rfl) ?bt8 ?ct8 ?dt8 (by assumption) ?rt8; (case at8 => (simp only [List.getElem?_toArray, List.getElem?_cons_zero, List.getElem?_cons_succ]; rfl)); (case bt8 => exact fun _ _ _ h => h); (case ct8 => kernel_rfl); (case dt8 => (intro W hW; (try dsimp only at hW); go_split_ands; go_simp; (try with_reducible rfl))); (case' rt8 => simp only [Act.put, List.setIfInBounds_toArray, List.set_cons_zero, List.set_cons_succ]))
  refine wpAnyH_done (by kernel_rfl) ?_ _
  go_wp2
  go_ret2
  exact ⟨g, rfl, Nat.le_trans HBD.out.size HA.out.1, HA.out.2.1, HBD.out.trans (HA.out.2.2.mono HBD.out.size)⟩
/-- Read, of memory that somebody made. -/
theorem mread_any {w : World} {G : Nat → Prop} {p b n : Nat} {ram : Sp} {D : DataW Unit} {m : Bytes8} (hM : MC w G p b ram n D m) (at_ c : Nat) (hs : fit (at_, c)) :
    Calls Try.prog 20 #[.pointer (some ⟨p, 0, none⟩), .int .u64 (at_ : Int), .int .u64 (c : Int)] w fun e w' => ∃ A, e = .returned (.tuple #[.slice A (rdL ram m at_ c).length (rdL ram m at_ c).length, .int .i64 (askR ram at_ c : Nat)]) ∧
      Lies w' w'.heap.size 1 A (rdL ram m at_ c).length (u8s (rdL ram m at_ c)) ∧ (∀ q, A = some q → w.heap.size ≤ q.block) ∧ Below w.heap.size w w' := by
  by_cases hq : askR ram at_ c = 0
  · unfold rdL
    rw [if_pos hq, hq]
    refine (mread_ok hM at_ c hs hq).mono ?_
    rintro e w' ⟨g, rfl, hg, hA, hd⟩
    exact ⟨some ⟨g, 0, none⟩, by rw [rdM_length]; rfl, arr_lies hA, fun q e => by cases e; exact hg, hd⟩
  · unfold rdL
    rw [if_neg hq]
    refine (mread_no _ ram at_ c w hM.ok.fit hs (fun W hW => hM.space W hW) hq).mono ?_
    rintro e w' ⟨rfl, hd⟩
    exact ⟨none, rfl, Lies.nil _ _ _ _, (fun q e => by cases e), hd⟩
set_option maxRecDepth 100000 in
set_option maxHeartbeats 1000000 in
theorem mwrite_no (v : Value) (r : Sp) (at_ : Nat) (l : List UInt8) (A : Option Addr) (cap : Nat) (w : World) (hr : fit r) (ha : at_ < 18446744073709551616) (hl : l.length ≤ maxLen) (hsp : SpaceAt w v r) (hq : askR r at_ l.length ≠ 0) :
    Calls Try.prog 21 #[v, .int .u64 (at_ : Int), .slice A l.length cap] w fun e w' => e = .returned (.int .i64 (askR r at_ l.length : Nat)) ∧ Below w.heap.size w w' := by
  unfold maxLen at hl
  have hs : fit (at_, l.length) := ⟨ha, by simp only; omega⟩
  have HB := Lib.hid (fun W hW => hsp.barred hr hs W hW)
  have hlt := ask_lt r at_ l.length
  obtain ⟨q, hq0⟩ : ∃ q, q = askR r at_ l.length := ⟨_, rfl⟩
  rw [← hq0] at hq hlt HB ⊢
  have h1 : ((q : Int) != 0) = true := by simp; omega
  have h2 : ¬ (q : Int) = 0 := by omega
  have H0 := Lib.hid (start9 w at_ l.length).1
  clear hsp hr hs hq0
  go_enter Try.func21, Try.ntmps21
  go_wp2_with (go_at_call 46; refine (HB.out _ H0.out).mono ?_; rintro e w1 ⟨rfl, hd⟩; have HD := Lib.hid hd; clear hd)
  go_ret
  exact ⟨rfl, H0.out.trans (HD.out.mono H0.out.size)⟩
set_option maxRecDepth 100000 in
set_option maxHeartbeats 1000000 in
theorem mwrite_ok {w : World} {G : Nat → Prop} {p b n : Nat} {ram : Sp} {D : DataW Unit} {m : Bytes8} (hM : MC w G p b ram n D m) (hn : n + 300 < maxLen) (at_ : Nat) (l : List UInt8) (A : Option Addr) (cap : Nat) (ha : at_ < 18446744073709551616) (hl : l.length ≤ maxLen)
    (hA : Lies w w.heap.size 1 A l.length (u8s l)) (hcap : l.length ≤ cap) (hag : ∀ q, A = some q → l.length ≠ 0 → ¬ G q.block) (hq : askR ram at_ l.length = 0) :
    Calls Try.prog 21 #[.pointer (some ⟨p, 0, none⟩), .int .u64 (at_ : Int), .slice A l.length cap] w fun e w' => e = .returned (.int .i64 0) ∧
      ∃ G' D', MC w' G' p b ram (n + 300) D' (wrM m at_ l) ∧ Turn G w w' ∧ ∀ i, G' i → G i ∨ w.heap.size ≤ i := by
  unfold maxLen at hl
  have hs : fit (at_, l.length) := ⟨ha, by simp only; omega⟩
  obtain ⟨ho1, ho2, ho3⟩ := ask_ok hM.ok hq hs.1
  have hbb := SpaceAt.barred (fun W hW => hM.space W hW) hM.ok.fit hs
  rw [hq] at hbb
  have HB := Lib.hid hbb
  have H0 := Lib.hid (start9 w at_ l.length).1
  have HWR : Hid (∀ W, Below w.heap.size w W → Calls Try.prog 48 #[.map (some b), .agg #[.int .u64 (at_ : Int), .int .u64 (l.length : Int)], .slice A l.length cap] W fun e w' => e = .returned (.tuple #[]) ∧
      ∃ _ : (∃ G' D', Pg w' G' b (n + 300) D' (wrM m at_ l) noX ∧ ∀ i, G' i → G i ∨ W.heap.size ≤ i), Turn G W w') := Lib.hid fun W hW => by
    refine (write_any (hM.pg.under hW) hn at_ l ho1 ⟨ho2, ho3⟩ A cap ((hA.below hW).wide hW.size) hcap hag).mono ?_
    rintro e w' ⟨h1, G', D', h2, h3, h4⟩
    exact ⟨h1, ⟨G', D', h2, h4⟩, h3⟩
  have HM := Lib.hid hM.blk
  have HK := Lib.hid (And.intro hM.off (And.intro hM.ok (And.intro hM.pg.lt hM.blk.lt)))
  clear hM hs hq ho1 ho2 ho3 hbb hA hcap hag
  go_enter Try.func21, Try.ntmps21
  go_wp2_with (go_at_call 46; refine (HB.out _ H0.out).mono ?_; rintro e w1 ⟨rfl, hd⟩; have HD := Lib.hid hd; clear hd)
  have HBD : Hid (Below w.heap.size w w1.drew) := Lib.hid (by
    have h := H0.out.trans (HD.out.mono H0.out.size)
    exact ⟨h.os, h.tape, h.output, h.size, h.block⟩)
  have HCL : Hid (∀ v, Turn G w1.drew v → v.cell? ⟨p, 2, none⟩ = some (.map (some b)) ∧ v.cell? ⟨w.heap.size, 0, none⟩ = some (.int .u64 (at_ : Int)) ∧ v.cell? ⟨w.heap.size, 1, none⟩ = some (.int .u64 (l.length : Int))) := Lib.hid fun v hv => by
    have hm := (HM.out.under HBD.out).turn hv HK.out.1
    have hb : Blk w1.drew w.heap.size 24 (boxSp at_ l.length) := (Blk.under (Blk.new _ _ _ rfl) HD.out : Blk w1 w.heap.size 24 (boxSp at_ l.length))
    have hb := hb.turn hv (fun hg => Nat.lt_irrefl _ (HK.out.2.2.1 _ hg))
    exact ⟨hm.cellAt 2 rfl, hb.cellAt 0 rfl, hb.cellAt 1 rfl⟩
  have HC0 := Lib.hid (HCL.out _ (Turn.refl _ _))
  refine wp_region_held_drew (S := fun Y => Y.cell? ⟨p, 2, none⟩ = some (.map (some b)) ∧ Y.cell? ⟨w.heap.size, 0, none⟩ = some (.int .u64 (at_ : Int)) ∧ Y.cell? ⟨w.heap.size, 1, none⟩ = some (.int .u64 (l.length : Int))) (by kernel_rfl) HC0.out (fun hS => ?_)
  (refine held_take (i := 0) (oi := ?ot9) (v := ?vt9) ?at9 (by kernel_rfl) (by kernel_rfl) (by kernel_rfl) ?bt9 ?ct9 ?dt9 (by assumption) ?rt9; (case at9 => (simp only [List.getElem?_toArray, List.getElem?_cons_zero]; rfl)); (case bt9 => exact fun _ _ _ h => h); (case ct9 => kernel_rfl); (case dt9 => (intro W hW; (try dsimp only at hW); go_split_ands; go_simp; (try with_reducible rfl))); (case' rt9 => simp only [Act.put, List.setIfInBounds_toArray, List.set_cons_zero, List.set_cons_succ]))
  (refine held_take (i := 1) (oi := ?ot10) (v := ?vt10) ?at10 (by kernel_rfl) (by kernel_rfl) (by kernel_rfl) ?bt10 ?ct10 ?dt10 (by assumption) ?rt10; (case at10 => (simp only [List.getElem?_toArray, List.getElem?_cons_zero, List.getElem?_cons_succ]; rfl)); (case bt10 => exact fun _ _ _ h => h); (case ct10 => kernel_rfl); (case dt10 => (intro W hW; (try dsimp only at hW); go_split_ands; go_simp; (try with_reducible rfl))); (case' rt10 => simp only [Act.put, List.setIfInBounds_toArray, List.set_cons_zero, List.set_cons_succ]))
  (refine held_take (i := 2) (oi := ?ot11) (v := ?vt11) ?at11 (by kernel_rfl) (by kernel_rfl) (by kernel_rfl) ?bt11 ?ct11 ?dt11 (by assumption) ?rt11; (case at11 => (simp only [List.getElem?_toArray, List.getElem?_cons_zero, List.getElem?_cons_succ]; rfl)); (case bt11 => exact fun _ _ _ h => h); (case ct11 => kernel_rfl); (case dt11 => (intro W hW; (try dsimp only at hW); go_split_ands; go_simp; (try with_reducible rfl))); (case' rt11 => simp only [Act.put, List.setIfInBounds_toArray, List.set_cons_zero, List.set_cons_succ]))
  (refine held_take (i := 3) (oi := ?ot12) (v := ?vt12) ?at12 (by kernel_rfl) (by kernel_rfl) (by kernel_rfl) ?bt12 ?ct12 ?dt12 (by assumption) ?rt12; (case at12 => (simp only [List.getElem?_toArray, List.getElem?_cons_zero, List.getElem?_cons_succ]; rfl)); (case bt12 => exact fun _ _ _ h => h); (case ct12 => kernel_rfl); (case dt12 => (intro W hW; (try dsimp only at hW); go_split_ands; go_simp; (try with_reducible rfl))); (case' rt12 => simp only [Act.put, List.setIfInBounds_toArray, List.set_cons_zero, List.set_cons_succ]))
  (refine held_take (i := 4) (oi := ?ot13) (v := ?vt13) ?at13 (by kernel_rfl) (by kernel_rfl) (by kernel_rfl) ?bt13 ?ct13 ?dt13 (by assumption) ?rt13; (case at13 => (simp only [List.getElem?_toArray, List.getElem?_cons_zero, List.getElem?_cons_succ]; rfl)); (case bt13 => exact fun _ _ _ h => h); (case ct13 => kernel_rfl); (case dt13 => (intro W hW; (try dsimp only at hW); go_split_ands; go_simp; (try with_reducible rfl))); (case' rt13 => simp only [Act.put, List.setIfInBounds_toArray, List.set_cons_zero, List.set_cons_succ]))
  (refine held_take (i := 5) (oi := ?ot14) (v := ?vt14) ?at14 (by kernel_rfl) (by kernel_rfl) (by kernel_rfl) ?bt14 ?ct14 ?dt14 (by assumption) ?rt14; (case at14 => (simp only [List.getElem?_toArray, List.getElem?_cons_zero, List.getElem?_cons_succ]; rfl)); (case bt14 => exact fun _ _ _ h => h); (case ct14 => kernel_rfl); (case dt14 => (intro W hW; (try dsimp only at hW); go_split_ands; go_simp; (try with_reducible rfl))); (case' rt14 => simp only [Act.put, List.setIfInBounds_toArray, List.set_cons_zero, List.set_cons_succ]))
  refine held_one (i := 6) (oi := ?ot15) (by kernel_rfl) ?at15 ?ct15 (fun K6 hK6 => ?_)
  (case at15 => (simp only [List.getElem?_toArray, List.getElem?_cons_zero, List.getElem?_cons_succ]; rfl))
  (case ct15 => kernel_rfl)
  go_simp
  refine (HWR.out _ HBD.out).mono ?_
  rintro e w5 ⟨rfl, hq⟩
  have HQ := Lib.hid hq
  refine hK6 _ _ (HCL.out w5 (by obtain ⟨_, h⟩ := hq; exact h)) (fun hS6 => ?_)
  clear hS hq hK6 K6
  refine wpAnyH_done (by kernel_rfl) ?_ _
  go_wp2
  go_ret
  obtain ⟨⟨G', D', h1, h2⟩, h3⟩ := HQ.out
  have hsz := HBD.out.size
  refine ⟨rfl, G', D', ⟨(HM.out.under HBD.out).turn h3 HK.out.1, fun hg => ?_, h1, HK.out.2.1⟩, (Turn.of_below HBD.out).andThen h3, fun i hi => (h2 i hi).imp id fun h => Nat.le_trans hsz h⟩
  rcases h2 p hg with h | h
  · exact HK.out.1 h
  · have := HK.out.2.2.2; omega
/-- Write, of memory that somebody made: what it answers, what it has then. -/
def wrR (r : Sp) (m : Bytes8) (at_ : Nat) (l : List UInt8) : Bytes8 := if askR r at_ l.length = 0 then wrM m at_ l else m
theorem mwrite_any {w : World} {G : Nat → Prop} {p b n : Nat} {ram : Sp} {D : DataW Unit} {m : Bytes8} (hM : MC w G p b ram n D m) (hn : n + 300 < maxLen) (at_ : Nat) (l : List UInt8) (A : Option Addr) (cap : Nat) (ha : at_ < 18446744073709551616) (hl : l.length ≤ maxLen)
    (hA : Lies w w.heap.size 1 A l.length (u8s l)) (hcap : l.length ≤ cap) (hag : ∀ q, A = some q → l.length ≠ 0 → ¬ G q.block) :
    Calls Try.prog 21 #[.pointer (some ⟨p, 0, none⟩), .int .u64 (at_ : Int), .slice A l.length cap] w fun e w' => e = .returned (.int .i64 (askR ram at_ l.length : Nat)) ∧
      ∃ G' D', MC w' G' p b ram (n + 300) D' (wrR ram m at_ l) ∧ Turn G w w' ∧ ∀ i, G' i → G i ∨ w.heap.size ≤ i := by
  by_cases hq : askR ram at_ l.length = 0
  · unfold wrR
    rw [if_pos hq, hq]
    exact mwrite_ok hM hn at_ l A cap ha hl hA hcap hag hq
  · unfold wrR
    rw [if_neg hq]
    refine (mwrite_no _ ram at_ l A cap w hM.ok.fit ha hl (fun W hW => hM.space W hW) hq).mono ?_
    rintro e w' ⟨rfl, hd⟩
    have := hM.under hd
    exact ⟨rfl, G, D, ⟨this.blk, this.off, this.pg.mono (by omega), this.ok⟩, Turn.of_below hd, fun i hi => Or.inl hi⟩
def zrE (r : Sp) (a c : Nat) : Nat := if within (a, c) r = true then 0 else 90
set_option maxRecDepth 100000 in
set_option maxHeartbeats 1000000 in
theorem mzero_no (v : Value) (r : Sp) (a c : Nat) (w : World) (hr : fit r) (hs : fit (a, c)) (hsp : SpaceAt w v r) (hq : within (a, c) r = false) :
    Calls Try.prog 32 #[v, .agg #[.int .u64 (a : Int), .int .u64 (c : Int)]] w fun e w' => e = .returned (.int .i64 90) ∧ Below w.heap.size w w' := by
  obtain ⟨r1, r2⟩ := r
  have HSP := Lib.hid hsp
  have HWI : Hid (∀ W, Calls Try.prog 35 #[.agg #[.int .u64 (a : Int), .int .u64 (c : Int)], .agg #[.int .u64 (r1 : Int), .int .u64 (r2 : Int)]] W fun e w' => e = .returned (.bool false) ∧ Below W.heap.size W w') := Lib.hid fun W => by rw [← hq]; exact within_any a c r1 r2 hs hr W
  clear hsp hr hs hq
  go_enter Try.func32, Try.ntmps32
  go_wp2_with fail
  refine wp_region_held_drew (S := fun Y => Below w.heap.size w Y ∧ Y.cell? ⟨w.heap.size, 0, none⟩ = some (.int .u64 (a : Int)) ∧ Y.cell? ⟨w.heap.size, 1, none⟩ = some (.int .u64 (c : Int))) (by kernel_rfl) (drew2 (start9 w a c)) (fun hS => ?_)
  (refine held_take (i := 0) (oi := ?ot16) (v := ?vt16) ?at16 (by kernel_rfl) (by kernel_rfl) (by kernel_rfl) ?bt16 ?ct16 ?dt16 (by assumption) ?rt16; (case at16 => (simp only [List.getElem?_toArray, List.getElem?_cons_zero]; rfl)); (case bt16 => exact fun _ _ _ h => h); (case ct16 => kernel_rfl); (case dt16 => (intro W hW; (try dsimp only at hW); go_split_ands; go_simp; (try with_reducible rfl))); (case' rt16 => simp only [Act.put, List.setIfInBounds_toArray, List.set_cons_zero, List.set_cons_succ]))
  (refine held_take (i := 1) (oi := ?ot17) (v := ?vt17) ?at17 (by kernel_rfl) (by kernel_rfl) (by kernel_rfl) ?bt17 ?ct17 ?dt17 (by assumption) ?rt17; (case at17 => (simp only [List.getElem?_toArray, List.getElem?_cons_zero, List.getElem?_cons_succ]; rfl)); (case bt17 => exact fun _ _ _ h => h); (case ct17 => kernel_rfl); (case dt17 => (intro W hW; (try dsimp only at hW); go_split_ands; go_simp; (try with_reducible rfl))); (case' rt17 => simp only [Act.put, List.setIfInBounds_toArray, List.set_cons_zero, List.set_cons_succ]))
  refine held_one (i := 2) (oi := ?ot18) (by kernel_rfl) ?at18 ?ct18 (fun K2 hK2 => ?_)
  (case at18 => (simp only [List.getElem?_toArray, List.getElem?_cons_zero, List.getElem?_cons_succ]; rfl))
  (case ct18 => kernel_rfl)
  go_simp
  refine (HSP.out _ hS.1).mono ?_
  rintro e w2 ⟨rfl, hd⟩
  refine hK2 _ _ (keep2 hd hS) (fun hS2 => ?_)
  clear hS hd hK2 K2
  refine held_one (i := 3) (oi := ?ot19) (by kernel_rfl) ?at19 ?ct19 (fun K3 hK3 => ?_)
  (case at19 => (simp only [List.getElem?_toArray, List.getElem?_cons_zero, List.getElem?_cons_succ]; rfl))
  (case ct19 => kernel_rfl)
  go_simp
  refine (HWI.out _).mono ?_
  rintro e w3 ⟨rfl, hd⟩
  refine hK3 _ _ (keep2 hd hS2) (fun hS3 => ?_)
  clear hS2 hd hK3 K3
  (refine held_take (i := 4) (oi := ?ot20) (v := ?vt20) ?at20 (by kernel_rfl) (by kernel_rfl) (by kernel_rfl) ?bt20 ?ct20 ?dt20 (by assumption) ?rt20; (case at20 => (simp only [List.getElem?_toArray, List.getElem?_cons_zero, List.getElem?_cons_succ]; rfl)); (case bt20 => exact fun _ _ _ h => h); (case ct20 => kernel_rfl); (case dt20 => (intro W hW; (try dsimp only at hW); go_split_ands; go_simp; (try with_reducible rfl))); (case' rt20 => simp only [Act.put, List.setIfInBounds_toArray, List.set_cons_zero, List.set_cons_succ]))
  refine wpAnyH_done (by kernel_rfl) ?_ _
  go_wp2
  go_ret
  exact ⟨rfl, hS3.1⟩
set_option maxRecDepth 100000 in
set_option maxHeartbeats 1000000 in
theorem mzero_ok {w : World} {G : Nat → Prop} {p b n : Nat} {ram : Sp} {D : DataW Unit} {m : Bytes8} (hM : MC w G p b ram n D m) (hn : n < maxLen) (a c : Nat) (hs : fit (a, c)) (hq : within (a, c) ram = true) :
    Calls Try.prog 32 #[.pointer (some ⟨p, 0, none⟩), .agg #[.int .u64 (a : Int), .int .u64 (c : Int)]] w fun e w' => e = .returned (.int .i64 0) ∧ ∃ D', MC w' G p b ram n D' (zrM m a c) ∧ Turn G w w' := by
  obtain ⟨r1, r2⟩ := ram
  have hab : a + c ≤ 1099511627776 := by
    have h4 := hM.ok.2
    have h3 := hq
    simp only [within, Bool.and_eq_true, decide_eq_true_eq] at h3 h4
    omega
  have hsp : SpaceAt w (.pointer (some ⟨p, 0, none⟩)) (r1, r2) := fun W hW => hM.space W hW
  have HSP := Lib.hid hsp
  have HWI : Hid (∀ W, Calls Try.prog 35 #[.agg #[.int .u64 (a : Int), .int .u64 (c : Int)], .agg #[.int .u64 (r1 : Int), .int .u64 (r2 : Int)]] W fun e w' => e = .returned (.bool true) ∧ Below W.heap.size W w') := Lib.hid fun W => by rw [← hq]; exact within_any a c r1 r2 hs hM.ok.fit W
  have HWR : Hid (∀ W, Below w.heap.size w W → Calls Try.prog 57 #[.map (some b), .agg #[.int .u64 (a : Int), .int .u64 (c : Int)]] W fun e w' => e = .returned (.tuple #[]) ∧ ∃ _ : (∃ D', Pg w' G b n D' (zrM m a c) noX), Turn G W w') := Lib.hid fun W hW => by
    refine (zero_any (hM.pg.under hW) hn a c hab).mono ?_
    rintro e w' ⟨h1, D', h2, h3⟩
    exact ⟨h1, ⟨D', h2⟩, h3⟩
  have HM := Lib.hid hM.blk
  have HK := Lib.hid (And.intro hM.off (And.intro hM.ok hM.pg.lt))
  clear hM hs hq hab hsp
  go_enter Try.func32, Try.ntmps32
  go_wp2_with fail
  refine wp_region_held_drew (S := fun Y => Below w.heap.size w Y ∧ Y.cell? ⟨w.heap.size, 0, none⟩ = some (.int .u64 (a : Int)) ∧ Y.cell? ⟨w.heap.size, 1, none⟩ = some (.int .u64 (c : Int))) (by kernel_rfl) (drew2 (start9 w a c)) (fun hS => ?_)
  (refine held_take (i := 0) (oi := ?ot21) (v := ?vt21) ?at21 (by kernel_rfl) (by kernel_rfl) (by kernel_rfl) ?bt21 ?ct21 ?dt21 (by assumption) ?rt21; (case at21 => (simp only [List.getElem?_toArray, List.getElem?_cons_zero]; rfl)); (case bt21 => exact fun _ _ _ h => h); (case ct21 => kernel_rfl); (case dt21 => (intro W hW; (try dsimp only at hW); go_split_ands; go_simp; (try with_reducible rfl))); (case' rt21 => simp only [Act.put, List.setIfInBounds_toArray, List.set_cons_zero, List.set_cons_succ]))
  (refine held_take (i := 1) (oi := ?ot22) (v := ?vt22) ?at22 (by kernel_rfl) (by kernel_rfl) (by kernel_rfl) ?bt22 ?ct22 ?dt22 (by assumption) ?rt22; (case at22 => (simp only [List.getElem?_toArray, List.getElem?_cons_zero, List.getElem?_cons_succ]; rfl)); (case bt22 => exact fun _ _ _ h => h); (case ct22 => kernel_rfl); (case dt22 => (intro W hW; (try dsimp only at hW); go_split_ands; go_simp; (try with_reducible rfl))); (case' rt22 => simp only [Act.put, List.setIfInBounds_toArray, List.set_cons_zero, List.set_cons_succ]))
  refine held_one (i := 2) (oi := ?ot23) (by kernel_rfl) ?at23 ?ct23 (fun K2 hK2 => ?_)
  (case at23 => (simp only [List.getElem?_toArray, List.getElem?_cons_zero, List.getElem?_cons_succ]; rfl))
  (case ct23 => kernel_rfl)
  go_simp
  refine (HSP.out _ hS.1).mono ?_
  rintro e w2 ⟨rfl, hd⟩
  refine hK2 _ _ (keep2 hd hS) (fun hS2 => ?_)
  clear hS hd hK2 K2
  refine held_one (i := 3) (oi := ?ot24) (by kernel_rfl) ?at24 ?ct24 (fun K3 hK3 => ?_)
  (case at24 => (simp only [List.getElem?_toArray, List.getElem?_cons_zero, List.getElem?_cons_succ]; rfl))
  (case ct24 => kernel_rfl)
  go_simp
  refine (HWI.out _).mono ?_
  rintro e w3 ⟨rfl, hd⟩
  refine hK3 _ _ (keep2 hd hS2) (fun hS3 => ?_)
  clear hS2 hd hK3 K3
  (refine held_take (i := 4) (oi := ?ot25) (v := ?vt25) ?at25 (by kernel_rfl) (by kernel_rfl) (by kernel_rfl) ?bt25 ?ct25 ?dt25 (by assumption) ?rt25; (case at25 => (simp only [List.getElem?_toArray, List.getElem?_cons_zero, List.getElem?_cons_succ]; rfl)); (case bt25 => exact fun _ _ _ h => h); (case ct25 => kernel_rfl); (case dt25 => (intro W hW; (try dsimp only at hW); go_split_ands; go_simp; (try with_reducible rfl))); (case' rt25 => simp only [Act.put, List.setIfInBounds_toArray, List.set_cons_zero, List.set_cons_succ]))
  refine wpAnyH_done (by kernel_rfl) ?_ _
  have HS := Lib.hid hS3
  clear hS3
  go_wp2_with fail
  have HBD : Hid (Below w.heap.size w w3.drew) := Lib.hid ⟨HS.out.1.os, HS.out.1.tape, HS.out.1.output, HS.out.1.size, HS.out.1.block⟩
  have HCL : Hid (∀ v, Turn G w3.drew v → v.cell? ⟨p, 2, none⟩ = some (.map (some b)) ∧ v.cell? ⟨w.heap.size, 0, none⟩ = some (.int .u64 (a : Int)) ∧ v.cell? ⟨w.heap.size, 1, none⟩ = some (.int .u64 (c : Int))) := Lib.hid fun v hv => by
    have hm := (HM.out.under HBD.out).turn hv HK.out.1
    have hn0 : ¬ G w.heap.size := fun hg => Nat.lt_irrefl _ (HK.out.2.2 _ hg)
    have hlt : w.heap.size < w3.drew.heap.size := World.block_lt_of_cell? w3 _ HS.out.2.1
    exact ⟨hm.cellAt 2 rfl, (hv.cell (p := ⟨w.heap.size, 0, none⟩) hlt hn0).trans HS.out.2.1, (hv.cell (p := ⟨w.heap.size, 1, none⟩) hlt hn0).trans HS.out.2.2⟩
  have HC0 := Lib.hid (HCL.out _ (Turn.refl _ _))
  refine wp_region_held_drew (S := fun Y => Y.cell? ⟨p, 2, none⟩ = some (.map (some b)) ∧ Y.cell? ⟨w.heap.size, 0, none⟩ = some (.int .u64 (a : Int)) ∧ Y.cell? ⟨w.heap.size, 1, none⟩ = some (.int .u64 (c : Int))) (by kernel_rfl) HC0.out (fun hS => ?_)
  (refine held_take (i := 0) (oi := ?ot26) (v := ?vt26) ?at26 (by kernel_rfl) (by kernel_rfl) (by kernel_rfl) ?bt26 ?ct26 ?dt26 (by assumption) ?rt26; (case at26 => (simp only [List.getElem?_toArray, List.getElem?_cons_zero]; rfl)); (case bt26 => exact fun _ _ _ h => h); (case ct26 => kernel_rfl); (case dt26 => (intro W hW; (try dsimp only at hW); go_split_ands; go_simp; (try with_reducible rfl))); (case' rt26 => simp only [Act.put, List.setIfInBounds_toArray, List.set_cons_zero, List.set_cons_succ]))
  (refine held_take (i := 1) (oi := ?ot27) (v := ?vt27) ?at27 (by kernel_rfl) (by kernel_rfl) (by kernel_rfl) ?bt27 ?ct27 ?dt27 (by assumption) ?rt27; (case at27 => (simp only [List.getElem?_toArray, List.getElem?_cons_zero, List.getElem?_cons_succ]; rfl)); (case bt27 => exact fun _ _ _ h => h); (case ct27 => kernel_rfl); (case dt27 => (intro W hW; (try dsimp only at hW); go_split_ands; go_simp; (try with_reducible rfl))); (case' rt27 => simp only [Act.put, List.setIfInBounds_toArray, List.set_cons_zero, List.set_cons_succ]))
  (refine held_take (i := 2) (oi := ?ot28) (v := ?vt28) ?at28 (by kernel_rfl) (by kernel_rfl) (by kernel_rfl) ?bt28 ?ct28 ?dt28 (by assumption) ?rt28; (case at28 => (simp only [List.getElem?_toArray, List.getElem?_cons_zero, List.getElem?_cons_succ]; rfl)); (case bt28 => exact fun _ _ _ h => h); (case ct28 => kernel_rfl); (case dt28 => (intro W hW; (try dsimp only at hW); go_split_ands; go_simp; (try with_reducible rfl))); (case' rt28 => simp only [Act.put, List.setIfInBounds_toArray, List.set_cons_zero, List.set_cons_succ]))
  (refine held_take (i := 3) (oi := ?ot29) (v := ?vt29) ?at29 (by kernel_rfl) (by kernel_rfl) (by kernel_rfl) ?bt29 ?ct29 ?dt29 (by assumption) ?rt29; (case at29 => (simp only [List.getElem?_toArray, List.getElem?_cons_zero, List.getElem?_cons_succ]; rfl)); (case bt29 => exact fun _ _ _ h => h); (case ct29 => kernel_rfl); (case dt29 => (intro W hW; (try dsimp only at hW); go_split_ands; go_simp; (try with_reducible rfl))); (case' rt29 => simp only [Act.put, List.setIfInBounds_toArray, List.set_cons_zero, List.set_cons_succ]))
  (refine held_take (i := 4) (oi := ?ot30) (v := ?vt30) ?at30 (by kernel_rfl) (by kernel_rfl) (by kernel_rfl) ?bt30 ?ct30 ?dt30 (by assumption) ?rt30; (case at30 => (simp only [List.getElem?_toArray, List.getElem?_cons_zero, List.getElem?_cons_succ]; rfl)); (case bt30 => exact fun _ _ _ h => h); (case ct30 => kernel_rfl); (case dt30 => (intro W hW; (try dsimp only at hW); go_split_ands; go_simp; (try with_reducible rfl))); (case' rt30 => simp only [Act.put, List.setIfInBounds_toArray, List.set_cons_zero, List.set_cons_succ]))
  refine held_one (i := 5) (oi := ?ot31) (by kernel_rfl) ?at31 ?ct31 (fun K5 hK5 => ?_)
  (case at31 => (simp only [List.getElem?_toArray, List.getElem?_cons_zero, List.getElem?_cons_succ]; rfl))
  (case ct31 => kernel_rfl)
  go_simp
  refine (HWR.out _ HBD.out).mono ?_
  rintro e w5 ⟨rfl, hq⟩
  have HQ := Lib.hid hq
  refine hK5 _ _ (HCL.out w5 (by obtain ⟨_, h⟩ := hq; exact h)) (fun hS5 => ?_)
  clear hS hq hK5 K5
  refine wpAnyH_done (by kernel_rfl) ?_ _
  go_wp2
  go_ret
  obtain ⟨⟨D', h1⟩, h3⟩ := HQ.out
  exact ⟨rfl, D', ⟨(HM.out.under HBD.out).turn h3 HK.out.1, HK.out.1, h1, HK.out.2.1⟩, (Turn.of_below HBD.out).andThen h3⟩
def zrR (r : Sp) (m : Bytes8) (a c : Nat) : Bytes8 := if within (a, c) r = true then zrM m a c else m
theorem mzero_any {w : World} {G : Nat → Prop} {p b n : Nat} {ram : Sp} {D : DataW Unit} {m : Bytes8} (hM : MC w G p b ram n D m) (hn : n < maxLen) (a c : Nat) (hs : fit (a, c)) :
    Calls Try.prog 32 #[.pointer (some ⟨p, 0, none⟩), .agg #[.int .u64 (a : Int), .int .u64 (c : Int)]] w fun e w' => e = .returned (.int .i64 (zrE ram a c : Nat)) ∧ ∃ D', MC w' G p b ram n D' (zrR ram m a c) ∧ Turn G w w' := by
  unfold zrE zrR
  cases hq : within (a, c) ram
  · refine (mzero_no _ ram a c w hM.ok.fit hs (fun W hW => hM.space W hW) hq).mono ?_
    rintro e w' ⟨rfl, hd⟩
    exact ⟨rfl, D, hM.under hd, Turn.of_below hd⟩
  · exact mzero_ok hM hn a c hs hq
end Go.Proofs.Ytbemphfijkcbhaa
