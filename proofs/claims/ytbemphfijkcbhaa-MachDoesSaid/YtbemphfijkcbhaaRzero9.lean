/- The reference's Mem: Zero. -/
import Derived.Test.YtbemphfijkcbhaaRw9
namespace Go.Proofs.Ytbemphfijkcbhaa
open Go.RowKit

theorem setCell_row {w : World} {g n : Nat} {t : TypeId} {f : Nat → Value} (h : Arr w g t n f) (i : Nat) (u : Value) : w.setCell ⟨g, i, none⟩ u = w.setRow g (vec n (upd f i u)) := by
  have h1 : (w.setCell ⟨g, i, none⟩ u).heap = (w.setRow g (vec n (upd f i u))).heap := by
    apply Array.ext_getElem?
    intro k
    by_cases e : k = g
    · subst e
      exact (h.set i u).trans (h.row (upd f i u)).symm
    · have e2 : g ≠ k := fun h => e h.symm
      rw [Below.heap_setCell w ⟨g, i, none⟩ u k (Ne.symm e2)]
      simp [World.setRow, Array.getElem?_modify, e2]
  unfold World.setCell World.setRow at h1 ⊢
  simp only at h1
  rw [h1]
/-- What is zeroed when i pages are gone through, and k bytes of the next. -/
def ZDone (ps : List RP) (i k x : Nat) : Prop := ∃ j, ∃ h : j < ps.length, (j < i ∨ (j = i ∧ x < ps[j].1 + k)) ∧ ps[j].1 ≤ x ∧ x < ps[j].1 + 4096
structure ZInv (ps : List RP) (s : Sp) (i k : Nat) (m mem : Bytes8) : Prop where
  yes : ∀ x, s.1 ≤ x → x < s.1 + s.2 → ZDone ps i k x → mem x = 0
  no : ∀ x, ¬ (s.1 ≤ x ∧ x < s.1 + s.2 ∧ ZDone ps i k x) → mem x = m x
theorem ZInv.start (ps : List RP) (s : Sp) (m : Bytes8) : ZInv ps s 0 0 m m := ⟨fun x _ _ ⟨j, _, h1, h2, h3⟩ => by omega, fun _ _ => rfl⟩
theorem ZInv.next {ps : List RP} {s : Sp} {i : Nat} {m mem : Bytes8} (h : ZInv ps s i 4096 m mem) : ZInv ps s (i + 1) 0 m mem := by
  have e : ∀ x, ZDone ps (i + 1) 0 x ↔ ZDone ps i 4096 x := fun x => by
    constructor
    · rintro ⟨j, hj, h1, h2, h3⟩
      exact ⟨j, hj, by omega, h2, h3⟩
    · rintro ⟨j, hj, h1, h2, h3⟩
      exact ⟨j, hj, by omega, h2, h3⟩
  exact ⟨fun x h1 h2 h3 => h.yes x h1 h2 ((e x).1 h3), fun x hx => h.no x fun ⟨h1, h2, h3⟩ => hx ⟨h1, h2, (e x).2 h3⟩⟩
theorem zdone_step {ps : List RP} {i k x : Nat} (hi : i < ps.length) (hk : k < 4096) : ZDone ps i (k + 1) x ↔ (ZDone ps i k x ∨ x = ps[i].1 + k) := by
  constructor
  · rintro ⟨j, hj, h1, h2, h3⟩
    by_cases e : j = i
    · subst e
      by_cases e2 : x = ps[j].1 + k
      · exact Or.inr e2
      · exact Or.inl ⟨j, hj, by omega, h2, h3⟩
    · exact Or.inl ⟨j, hj, by omega, h2, h3⟩
  · rintro (⟨j, hj, h1, h2, h3⟩ | rfl)
    · exact ⟨j, hj, by omega, h2, h3⟩
    · exact ⟨i, hi, by omega, by omega, by omega⟩
theorem ZInv.skip {ps : List RP} {s : Sp} {i k : Nat} {m mem : Bytes8} (h : ZInv ps s i k m mem) (hi : i < ps.length) (hk : k < 4096) (hs : ¬ (s.1 ≤ ps[i].1 + k ∧ ps[i].1 + k < s.1 + s.2)) : ZInv ps s i (k + 1) m mem :=
  ⟨fun x h1 h2 h3 => by
    rcases (zdone_step hi hk).1 h3 with h4 | h4
    · exact h.yes x h1 h2 h4
    · exact absurd ⟨by omega, by omega⟩ hs,
   fun x hx => h.no x fun ⟨h1, h2, h3⟩ => hx ⟨h1, h2, (zdone_step hi hk).2 (Or.inl h3)⟩⟩
theorem ZInv.zero {ps : List RP} {s : Sp} {i k : Nat} {m mem : Bytes8} (h : ZInv ps s i k m mem) (hi : i < ps.length) (hk : k < 4096) (hs : s.1 ≤ ps[i].1 + k ∧ ps[i].1 + k < s.1 + s.2) : ZInv ps s i (k + 1) m (fun x => if x = ps[i].1 + k then 0 else mem x) :=
  ⟨fun x h1 h2 h3 => by
    by_cases e : x = ps[i].1 + k
    · simp [e]
    · simp only [e, if_false]
      rcases (zdone_step hi hk).1 h3 with h4 | h4
      · exact h.yes x h1 h2 h4
      · exact absurd h4 e,
   fun x hx => by
    by_cases e : x = ps[i].1 + k
    · exact absurd ⟨by omega, by omega, (zdone_step hi hk).2 (Or.inr e)⟩ hx
    · simp only [e, if_false]
      exact h.no x fun ⟨h1, h2, h3⟩ => hx ⟨h1, h2, (zdone_step hi hk).2 (Or.inl h3)⟩⟩
theorem ZInv.all {w : World} {G : Nat → Prop} {r n : Nat} {ram : Sp} {v : Value} {ps : List RP} {s : Sp} {m mem : Bytes8} (hM : MR w G r ram n v ps m) (h : ZInv ps s ps.length 0 m mem) : ∀ x, zrM m s.1 s.2 x = mem x := by
  intro x
  unfold zrM
  by_cases hs : s.1 ≤ x ∧ x < s.1 + s.2
  · rw [if_pos hs]
    by_cases hp : ∃ j, ∃ h : j < ps.length, ps[j].1 = pgOf x
    · obtain ⟨j, hj, e⟩ := hp
      exact (h.yes x hs.1 hs.2 ⟨j, hj, Or.inl hj, by rw [e]; exact pgOf_le x, by rw [e]; exact pgOf_lt x⟩).symm
    · have hz := hM.no (pgOf x) (pgOf_mod x) (fun y hy e => by
        obtain ⟨j, hj, rfl⟩ := List.mem_iff_getElem.1 hy
        exact hp ⟨j, hj, e⟩) (x % 4096) (Nat.mod_lt _ (by decide))
      rw [pgOf_add] at hz
      rw [h.no x fun ⟨_, _, j, hj, _, h2, h3⟩ => hp ⟨j, hj, (pgOf_eq (hM.at_page hj).2.2.2.1 h2 h3).symm⟩, hz]
  · rw [if_neg hs, h.no x fun ⟨h1, h2, _⟩ => hs ⟨h1, h2⟩]
/-- Zero, on its way. -/
structure ZR (V wr : World) (G : Nat → Prop) (r n : Nat) (ram : Sp) (v : Value) (ps : List RP) (m : Bytes8) (s : Sp) (i k : Nat) (mem : Bytes8) : Prop where
  mr : MR wr G r ram n v ps mem
  tu : Turn G V wr
  iv : ZInv ps s i k m mem
set_option maxRecDepth 100000 in
theorem ZR.write {V wk w3 : World} {G : Nat → Prop} {r n : Nat} {ram : Sp} {v : Value} {ps : List RP} {m : Bytes8} {s : Sp} {i k : Nat} {mem : Bytes8} (h : ZR V wk G r n ram v ps m s i k mem) (hd : VS wk w3) (hi : i < ps.length) (hk : k < 4096) (hs : s.1 ≤ ps[i].1 + k ∧ ps[i].1 + k < s.1 + s.2) :
    ZR V (w3.setCell ⟨ps[i].2, k, none⟩ (.int .u8 0)) G r n ram v ps m s i (k + 1) (fun x => if x = ps[i].1 + k then 0 else mem x) := by
  have h3 := h.mr.under hd
  have ha := h3.at_page hi
  have e : w3.setCell ⟨ps[i].2, k, none⟩ (.int .u8 0) = w3.setRow ps[i].2 (vec 4096 (bys fun j => (fun x => if x = ps[i].1 + k then (0 : UInt8) else mem x) (ps[i].1 + j))) := by
    rw [setCell_row ha.2.2.2.2.2 k (.int .u8 0)]
    congr 1
    refine vec_congr fun j hj => ?_
    by_cases e : j = k
    · subst e; simp [upd, bys]
    · rw [upd_ne _ _ _ _ e]
      simp only [bys]
      rw [if_neg (by omega)]
  refine ⟨?_, (h.tu.andThen (Turn.of_below hd)).setCell (Or.inl ha.1) _, h.iv.zero hi hk hs⟩
  rw [e]
  exact h3.store hi (m' := fun x => if x = ps[i].1 + k then 0 else mem x) fun x hx => if_neg (by omega)
set_option maxRecDepth 100000 in
set_option maxHeartbeats 4000000 in
theorem rzero_any {w : World} {G : Nat → Prop} {r n : Nat} {ram : Sp} {v : Value} {ps : List RP} {m : Bytes8} (hM : MR w G r ram n v ps m) (hn : n ≤ 1000000) (a c : Nat) (hs : fit (a, c)) :
    Calls Try.prog 41 #[.pointer (some ⟨r, 0, none⟩), .agg #[.int .u64 (a : Int), .int .u64 (c : Int)]] w fun e w' => e = .returned (.int .i64 (zrE ram a c : Nat)) ∧ MR w' G r ram n v ps (zrR ram m a c) ∧ Turn G w w' := by
  obtain ⟨A, cc, rfl⟩ := hM.form
  obtain ⟨V, hV⟩ : ∃ V, V = w.alloc (spo a c) := ⟨_, rfl⟩
  have hB0 : Below w.heap.size w V := by rw [hV]; exact (Below.refl _ _).alloc (Nat.le_refl _) _
  have hP0 : Blk V w.heap.size 24 (boxSp a c) := by rw [hV]; exact Blk.new _ _ _ rfl
  have hMV := hM.under hB0
  have hbg : ¬ G w.heap.size := fun h => by have := hM.lt _ h; omega
  have HMV := Lib.hid hMV
  have HB0 := Lib.hid hB0
  have hcnt := hM.cnt
  have HN : Hid (ps.length ≤ 1000000) := Lib.hid (by omega)
  obtain ⟨r1, r2⟩ := ram
  have HWI := Lib.hid (fun W => rwithin_any a c r1 r2 hs hM.ok.fit W)
  have HCF : Hid (∀ Y, VS V Y → Y.cell? ⟨w.heap.size, 0, none⟩ = some (.int .u64 (a : Int)) ∧ Y.cell? ⟨w.heap.size, 1, none⟩ = some (.int .u64 (c : Int)) ∧ Y.cell? ⟨r, 0, none⟩ = some (.int .u64 (r1 : Int)) ∧ Y.cell? ⟨r, 1, none⟩ = some (.int .u64 (r2 : Int))) := Lib.hid fun Y hY =>
    ⟨(hP0.under hY).cellAt 0 rfl, (hP0.under hY).cellAt 1 rfl, (hMV.under hY).cell0, (hMV.under hY).cell1⟩
  have HBX : Hid (∀ Y, Turn G V Y → Y.cell? ⟨w.heap.size, 0, none⟩ = some (.int .u64 (a : Int)) ∧ Y.cell? ⟨w.heap.size, 1, none⟩ = some (.int .u64 (c : Int))) := Lib.hid fun Y hY =>
    ⟨(hP0.turn hY hbg).cellAt 0 rfl, (hP0.turn hY hbg).cellAt 1 rfl⟩
  have HS := Lib.hid hs
  have HHS := Lib.hid (fun t (ht : t < 18446744073709551616) W => rhas_any a c t hs ht W)
  have HV : Hid (V = w.alloc (spo a c)) := Lib.hid hV
  unfold zrE zrR
  cases hq : within (a, c) (r1, r2) with
  | false =>
    rw [hq] at HWI
    clear hM hMV hB0 hP0 hV hs hq hcnt hbg
    go_enter Try.func41, Try.ntmps41
    go_upto_region 1 with fail
    rw [show w.alloc (.cells #[.int .u64 (a : Int), .int .u64 (c : Int)] 24) = V from HV.out.symm]
    refine wp_region_held_drew (S := fun Y => VS V Y) (by kernel_rfl) (VS.begin V) (fun hS => ?_)
    (refine held_take (i := 0) (oi := ?ot1) (v := .agg #[.int .u64 (a : Int), .int .u64 (c : Int)]) ?at1 (by kernel_rfl) (by kernel_rfl) (by kernel_rfl) ?bt1 ?ct1 ?dt1 (by assumption) ?rt1; (case at1 => (simp only [List.getElem?_toArray, List.getElem?_cons_zero]; rfl)); (case bt1 => exact fun _ _ _ h => h); (case ct1 => kernel_rfl); (case dt1 => (intro W hW; obtain ⟨c0, c1, _⟩ := HCF.out W hW; clear hW; go_simp; (try with_reducible rfl))); (case' rt1 => simp only [Act.put, List.setIfInBounds_toArray, List.set_cons_zero, List.set_cons_succ]))
    (refine held_take (i := 1) (oi := ?ot2) (v := ?vt2) ?at2 (by kernel_rfl) (by kernel_rfl) (by kernel_rfl) ?bt2 ?ct2 ?dt2 (by assumption) ?rt2; (case at2 => (simp only [List.getElem?_toArray, List.getElem?_cons_zero, List.getElem?_cons_succ]; rfl)); (case bt2 => exact fun _ _ _ h => h); (case ct2 => kernel_rfl); (case dt2 => (intro W hW; (try dsimp only at hW); go_split_ands; go_simp; (try with_reducible rfl))); (case' rt2 => simp only [Act.put, List.setIfInBounds_toArray, List.set_cons_zero, List.set_cons_succ]))
    (refine held_take (i := 2) (oi := ?ot3) (v := ?vt3) ?at3 (by kernel_rfl) (by kernel_rfl) (by kernel_rfl) ?bt3 ?ct3 ?dt3 (by assumption) ?rt3; (case at3 => (simp only [List.getElem?_toArray, List.getElem?_cons_zero, List.getElem?_cons_succ]; rfl)); (case bt3 => exact fun _ _ _ h => h); (case ct3 => kernel_rfl); (case dt3 => (intro W hW; (try dsimp only at hW); go_split_ands; go_simp; (try with_reducible rfl))); (case' rt3 => simp only [Act.put, List.setIfInBounds_toArray, List.set_cons_zero, List.set_cons_succ]))
    (refine held_take (i := 3) (oi := ?ot4) (v := ?vt4) ?at4 (by kernel_rfl) (by kernel_rfl) (by kernel_rfl) ?bt4 ?ct4 ?dt4 (by assumption) ?rt4; (case at4 => (simp only [List.getElem?_toArray, List.getElem?_cons_zero, List.getElem?_cons_succ]; rfl)); (case bt4 => exact fun _ _ _ h => h); (case ct4 => kernel_rfl); (case dt4 => (intro W hW; (try dsimp only at hW); go_split_ands; go_simp; (try with_reducible rfl))); (case' rt4 => simp only [Act.put, List.setIfInBounds_toArray, List.set_cons_zero, List.set_cons_succ]))
    (refine held_take (i := 4) (oi := ?ot5) (v := .agg #[.int .u64 (r1 : Int), .int .u64 (r2 : Int)]) ?at5 (by kernel_rfl) (by kernel_rfl) (by kernel_rfl) ?bt5 ?ct5 ?dt5 (by assumption) ?rt5; (case at5 => (simp only [List.getElem?_toArray, List.getElem?_cons_zero, List.getElem?_cons_succ]; rfl)); (case bt5 => exact fun _ _ _ h => h); (case ct5 => kernel_rfl); (case dt5 => (intro W hW; obtain ⟨_, _, c2, c3⟩ := HCF.out W hW; clear hW; go_simp; (try with_reducible rfl))); (case' rt5 => simp only [Act.put, List.setIfInBounds_toArray, List.set_cons_zero, List.set_cons_succ]))
    refine held_one (i := 5) (oi := ?ot6) (by kernel_rfl) ?at6 ?ct6 (fun K5 hK5 => ?_)
    (case at6 => (simp only [List.getElem?_toArray, List.getElem?_cons_zero, List.getElem?_cons_succ]; rfl))
    (case ct6 => kernel_rfl)
    have hSb := hS
    go_simp
    refine (HWI.out _).mono ?_
    rintro e w2 ⟨rfl, hd⟩
    have HS5 := Lib.hid (hSb.keep hd)
    refine hK5 _ _ (hSb.keep hd) (fun hS5 => ?_)
    clear hd hSb hK5 K5
    (refine held_take (i := 6) (oi := ?ot7) (v := ?vt7) ?at7 (by kernel_rfl) (by kernel_rfl) (by kernel_rfl) ?bt7 ?ct7 ?dt7 (by assumption) ?rt7; (case at7 => (simp only [List.getElem?_toArray, List.getElem?_cons_zero, List.getElem?_cons_succ]; rfl)); (case bt7 => exact fun _ _ _ h => h); (case ct7 => kernel_rfl); (case dt7 => (intro W hW; (try dsimp only at hW); go_split_ands; go_simp; (try with_reducible rfl))); (case' rt7 => simp only [Act.put, List.setIfInBounds_toArray, List.set_cons_zero, List.set_cons_succ]))
    refine wpAnyH_done (by kernel_rfl) ?_ _
    go_wp2
    go_ret
    exact ⟨rfl, HMV.out.under HS5.out, (Turn.of_below HB0.out).andThen (Turn.of_below HS5.out)⟩
  | true =>
    rw [hq] at HWI
    have HGD : Hid (good (a, c) = true) := Lib.hid (by unfold within at hq; simp only [Bool.and_eq_true] at hq; exact hq.1)
    obtain ⟨Q, hQ⟩ : ∃ Q, Q = fun (e : Ending) (w' : World) => e = .returned (.int .i64 ((if true = true then 0 else 90 : Nat) : Int)) ∧ MR w' G r (r1, r2) n (.slice A ps.length cc) ps (if true = true then zrM m a c else m) ∧ Turn G w w' := ⟨_, rfl⟩
    rw [← hQ]
    have HQ := Lib.hid hQ
    clear hM hMV hB0 hP0 hV hs hq hcnt hQ hbg
    go_enter Try.func41, Try.ntmps41
    go_upto_region 1 with fail
    rw [show w.alloc (.cells #[.int .u64 (a : Int), .int .u64 (c : Int)] 24) = V from HV.out.symm]
    refine wp_region_held_drew (S := fun Y => VS V Y) (by kernel_rfl) (VS.begin V) (fun hS => ?_)
    (refine held_take (i := 0) (oi := ?ot8) (v := .agg #[.int .u64 (a : Int), .int .u64 (c : Int)]) ?at8 (by kernel_rfl) (by kernel_rfl) (by kernel_rfl) ?bt8 ?ct8 ?dt8 (by assumption) ?rt8; (case at8 => (simp only [List.getElem?_toArray, List.getElem?_cons_zero]; rfl)); (case bt8 => exact fun _ _ _ h => h); (case ct8 => kernel_rfl); (case dt8 => (intro W hW; obtain ⟨c0, c1, _⟩ := HCF.out W hW; clear hW; go_simp; (try with_reducible rfl))); (case' rt8 => simp only [Act.put, List.setIfInBounds_toArray, List.set_cons_zero, List.set_cons_succ]))
    (refine held_take (i := 1) (oi := ?ot9) (v := ?vt9) ?at9 (by kernel_rfl) (by kernel_rfl) (by kernel_rfl) ?bt9 ?ct9 ?dt9 (by assumption) ?rt9; (case at9 => (simp only [List.getElem?_toArray, List.getElem?_cons_zero, List.getElem?_cons_succ]; rfl)); (case bt9 => exact fun _ _ _ h => h); (case ct9 => kernel_rfl); (case dt9 => (intro W hW; (try dsimp only at hW); go_split_ands; go_simp; (try with_reducible rfl))); (case' rt9 => simp only [Act.put, List.setIfInBounds_toArray, List.set_cons_zero, List.set_cons_succ]))
    (refine held_take (i := 2) (oi := ?ot10) (v := ?vt10) ?at10 (by kernel_rfl) (by kernel_rfl) (by kernel_rfl) ?bt10 ?ct10 ?dt10 (by assumption) ?rt10; (case at10 => (simp only [List.getElem?_toArray, List.getElem?_cons_zero, List.getElem?_cons_succ]; rfl)); (case bt10 => exact fun _ _ _ h => h); (case ct10 => kernel_rfl); (case dt10 => (intro W hW; (try dsimp only at hW); go_split_ands; go_simp; (try with_reducible rfl))); (case' rt10 => simp only [Act.put, List.setIfInBounds_toArray, List.set_cons_zero, List.set_cons_succ]))
    (refine held_take (i := 3) (oi := ?ot11) (v := ?vt11) ?at11 (by kernel_rfl) (by kernel_rfl) (by kernel_rfl) ?bt11 ?ct11 ?dt11 (by assumption) ?rt11; (case at11 => (simp only [List.getElem?_toArray, List.getElem?_cons_zero, List.getElem?_cons_succ]; rfl)); (case bt11 => exact fun _ _ _ h => h); (case ct11 => kernel_rfl); (case dt11 => (intro W hW; (try dsimp only at hW); go_split_ands; go_simp; (try with_reducible rfl))); (case' rt11 => simp only [Act.put, List.setIfInBounds_toArray, List.set_cons_zero, List.set_cons_succ]))
    (refine held_take (i := 4) (oi := ?ot12) (v := .agg #[.int .u64 (r1 : Int), .int .u64 (r2 : Int)]) ?at12 (by kernel_rfl) (by kernel_rfl) (by kernel_rfl) ?bt12 ?ct12 ?dt12 (by assumption) ?rt12; (case at12 => (simp only [List.getElem?_toArray, List.getElem?_cons_zero, List.getElem?_cons_succ]; rfl)); (case bt12 => exact fun _ _ _ h => h); (case ct12 => kernel_rfl); (case dt12 => (intro W hW; obtain ⟨_, _, c2, c3⟩ := HCF.out W hW; clear hW; go_simp; (try with_reducible rfl))); (case' rt12 => simp only [Act.put, List.setIfInBounds_toArray, List.set_cons_zero, List.set_cons_succ]))
    refine held_one (i := 5) (oi := ?ot13) (by kernel_rfl) ?at13 ?ct13 (fun K5 hK5 => ?_)
    (case at13 => (simp only [List.getElem?_toArray, List.getElem?_cons_zero, List.getElem?_cons_succ]; rfl))
    (case ct13 => kernel_rfl)
    have hSb := hS
    go_simp
    refine (HWI.out _).mono ?_
    rintro e w2 ⟨rfl, hd⟩
    have HS5 := Lib.hid (hSb.keep hd)
    refine hK5 _ _ (hSb.keep hd) (fun hS5 => ?_)
    clear hd hSb hK5 K5
    (refine held_take (i := 6) (oi := ?ot14) (v := ?vt14) ?at14 (by kernel_rfl) (by kernel_rfl) (by kernel_rfl) ?bt14 ?ct14 ?dt14 (by assumption) ?rt14; (case at14 => (simp only [List.getElem?_toArray, List.getElem?_cons_zero, List.getElem?_cons_succ]; rfl)); (case bt14 => exact fun _ _ _ h => h); (case ct14 => kernel_rfl); (case dt14 => (intro W hW; (try dsimp only at hW); go_split_ands; go_simp; (try with_reducible rfl))); (case' rt14 => simp only [Act.put, List.setIfInBounds_toArray, List.set_cons_zero, List.set_cons_succ]))
    refine wpAnyH_done (by kernel_rfl) ?_ _
    have hc2 := (HMV.out.under HS5.out).cell2
    have hlen := HN.out
    have HZ0 : Hid (ZR V w2 G r n (r1, r2) (.slice A ps.length cc) ps m (a, c) 0 0 m) := Lib.hid ⟨HMV.out.under HS5.out, Turn.of_below HS5.out, ZInv.start _ _ _⟩
    clear hS5
    go_wp2
    clear hc2
    go_loopw [19] (fun vi wr => ∃ (i : Nat) (mem : Bytes8), i ≤ ps.length ∧ vi = .int .i64 i ∧ Hid (ZR V wr G r n (r1, r2) (.slice A ps.length cc) ps m (a, c) i 0 mem)) (fun vi _ => ps.length - (intOf vi).toNat)
    case atStart => exact ⟨0, m, Nat.zero_le _, rfl, HZ0⟩
    case round =>
      obtain ⟨i, mem, hi, rfl, hZ⟩ := hrel
      by_cases hlt : i < ps.length
      · obtain ⟨a0, q, rfl, hq, hc1, hc3⟩ := hZ.out.mr.page_at hlt
        have hc2 := hZ.out.mr.cell2
        obtain ⟨g, hg⟩ : ∃ g, g = ps[i].2 := ⟨_, rfl⟩
        obtain ⟨x, hx⟩ : ∃ x, x = ps[i].1 := ⟨_, rfl⟩
        rw [← hg] at hc3
        have HI := Lib.hid hlt
        have HX : Hid (x < 18446744073709551616 ∧ x % 4096 = 0 ∧ x + 4096 ≤ 18446744073709551616 ∧ ∀ h : i < ps.length, ps[i].1 = x ∧ ps[i].2 = g) := Lib.hid (by
          have := (hZ.out.mr.at_page hlt).2.2.2
          rw [← hx] at this
          exact ⟨this.2.1, this.1, by omega, fun _ => ⟨hx.symm, hg.symm⟩⟩)
        clear hx hg hi
        go_wp2
        clear hc1 hc2 hc3
        have HZI := hZ
        clear hZ
        go_loopw [31] (fun vk wk => ∃ (k : Nat) (mem : Bytes8), k ≤ 4096 ∧ vk = .int .i64 k ∧ Hid (ZR V wk G r n (r1, r2) (.slice (some a0) ps.length cc) ps m (a, c) i k mem)) (fun vk _ => 4096 - (intOf vk).toNat)
        case atStart => exact ⟨0, mem, Nat.zero_le _, rfl, HZI⟩
        case round =>
          obtain ⟨k, mem2, hk, rfl, hZ2⟩ := hrel
          have HZ2 := hZ2
          clear hZ2
          by_cases hk2 : k < 4096
          · obtain ⟨t, ht⟩ : ∃ t, t = x + k := ⟨_, rfl⟩
            have hqt : (x : Int) + (k : Int) = (t : Int) := by omega
            have htb : t < 18446744073709551616 := by have := HX.out.2.2.1; omega
            have hwk : IntKind.u64.wrap (k : Int) = k := by simp [IntKind.wrap, IntKind.bits, IntKind.signed]; omega
            have hwt : IntKind.u64.wrap (t : Int) = t := by simp [IntKind.wrap, IntKind.bits, IntKind.signed]; omega
            have HC9 : Hid (∀ Y, VS wr Y → Y.cell? ⟨w.heap.size, 0, none⟩ = some (.int .u64 (a : Int)) ∧ Y.cell? ⟨w.heap.size, 1, none⟩ = some (.int .u64 (c : Int)) ∧ Y.cell? ⟨r, 2, none⟩ = some (.slice (some a0) ps.length cc) ∧ Y.cell? q = some (.int .u64 (x : Int))) := Lib.hid fun Y hY => by
              obtain ⟨b0, b1⟩ := HBX.out Y (HZ2.out.tu.andThen (Turn.of_below hY))
              have hm := HZ2.out.mr.under hY
              obtain ⟨a0', q', e1, e2, e3, _⟩ := hm.page_at HI.out
              cases e1
              rw [hq] at e2
              subst e2
              rw [(HX.out.2.2.2 HI.out).1] at e3
              exact ⟨b0, b1, hm.cell2, e3⟩
            have hh := HHS.out t htb
            obtain ⟨z, hz⟩ : ∃ z, z = has (a, c) t := ⟨_, rfl⟩
            rw [← hz] at hh
            have HST := Lib.hid (And.intro ht (And.intro hk2 hz))
            have HTB := Lib.hid htb
            have HHSo := HHS
            have HHS := Lib.hid hh
            clear hh hz ht
            go_upto_region 9 with fail
            refine wp_region_held_drew (S := fun Y => VS wr Y) (by kernel_rfl) (VS.begin wr) (fun hS => ?_)
            (refine held_take (i := 0) (oi := ?ot15) (v := .agg #[.int .u64 (a : Int), .int .u64 (c : Int)]) ?at15 (by kernel_rfl) (by kernel_rfl) (by kernel_rfl) ?bt15 ?ct15 ?dt15 (by assumption) ?rt15; (case at15 => (simp only [List.getElem?_toArray, List.getElem?_cons_zero]; rfl)); (case bt15 => exact fun _ _ _ h => h); (case ct15 => kernel_rfl); (case dt15 => (intro W hW; obtain ⟨c0, c1, _⟩ := HC9.out W hW; clear hW; go_simp; (try with_reducible rfl))); (case' rt15 => simp only [Act.put, List.setIfInBounds_toArray, List.set_cons_zero, List.set_cons_succ]))
            (refine held_take (i := 1) (oi := ?ot16) (v := ?vt16) ?at16 (by kernel_rfl) (by kernel_rfl) (by kernel_rfl) ?bt16 ?ct16 ?dt16 (by assumption) ?rt16; (case at16 => (simp only [List.getElem?_toArray, List.getElem?_cons_zero, List.getElem?_cons_succ]; rfl)); (case bt16 => exact fun _ _ _ h => h); (case ct16 => kernel_rfl); (case dt16 => (intro W hW; (try dsimp only at hW); go_split_ands; go_simp; (try with_reducible rfl))); (case' rt16 => simp only [Act.put, List.setIfInBounds_toArray, List.set_cons_zero, List.set_cons_succ]))
            (refine held_take (i := 2) (oi := ?ot17) (v := ?vt17) ?at17 (by kernel_rfl) (by kernel_rfl) (by kernel_rfl) ?bt17 ?ct17 ?dt17 (by assumption) ?rt17; (case at17 => (simp only [List.getElem?_toArray, List.getElem?_cons_zero, List.getElem?_cons_succ]; rfl)); (case bt17 => exact fun _ _ _ h => h); (case ct17 => kernel_rfl); (case dt17 => (intro W hW; (try dsimp only at hW); go_split_ands; go_simp; (try with_reducible rfl))); (case' rt17 => simp only [Act.put, List.setIfInBounds_toArray, List.set_cons_zero, List.set_cons_succ]))
            (refine held_take (i := 3) (oi := ?ot18) (v := ?vt18) ?at18 (by kernel_rfl) (by kernel_rfl) (by kernel_rfl) ?bt18 ?ct18 ?dt18 (by assumption) ?rt18; (case at18 => (simp only [List.getElem?_toArray, List.getElem?_cons_zero, List.getElem?_cons_succ]; rfl)); (case bt18 => exact fun _ _ _ h => h); (case ct18 => kernel_rfl); (case dt18 => (intro W hW; (try dsimp only at hW); go_split_ands; go_simp; (try with_reducible rfl))); (case' rt18 => simp only [Act.put, List.setIfInBounds_toArray, List.set_cons_zero, List.set_cons_succ]))
            (refine held_take (i := 4) (oi := ?ot19) (v := .slice (some a0) ps.length cc) ?at19 (by kernel_rfl) (by kernel_rfl) (by kernel_rfl) ?bt19 ?ct19 ?dt19 (by assumption) ?rt19; (case at19 => (simp only [List.getElem?_toArray, List.getElem?_cons_zero, List.getElem?_cons_succ]; rfl)); (case bt19 => exact fun _ _ _ h => h); (case ct19 => kernel_rfl); (case dt19 => (intro W hW; obtain ⟨_, _, c2, _⟩ := HC9.out W hW; clear hW; go_simp; (try with_reducible rfl))); (case' rt19 => simp only [Act.put, List.setIfInBounds_toArray, List.set_cons_zero, List.set_cons_succ]))
            (refine held_take (i := 5) (oi := ?ot20) (v := ?vt20) ?at20 (by kernel_rfl) (by kernel_rfl) (by kernel_rfl) ?bt20 ?ct20 ?dt20 (by assumption) ?rt20; (case at20 => (simp only [List.getElem?_toArray, List.getElem?_cons_zero, List.getElem?_cons_succ]; rfl)); (case bt20 => exact fun _ _ _ h => h); (case ct20 => kernel_rfl); (case dt20 => (intro W hW; (try dsimp only at hW); go_split_ands; go_simp; (try with_reducible rfl))); (case' rt20 => simp only [Act.put, List.setIfInBounds_toArray, List.set_cons_zero, List.set_cons_succ]))
            (refine held_take (i := 6) (oi := ?ot21) (v := .pointer (some q)) ?at21 (by kernel_rfl) (by kernel_rfl) (by kernel_rfl) ?bt21 ?ct21 ?dt21 (by assumption) ?rt21; (case at21 => (simp only [List.getElem?_toArray, List.getElem?_cons_zero, List.getElem?_cons_succ]; rfl)); (case bt21 => exact fun _ _ _ h => h); (case ct21 => kernel_rfl); (case dt21 => (intro W hW; clear hW; go_simp; (try with_reducible rfl); (try (intro h; omega)))); (case' rt21 => simp only [Act.put, List.setIfInBounds_toArray, List.set_cons_zero, List.set_cons_succ]))
            (refine held_take (i := 7) (oi := ?ot22) (v := ?vt22) ?at22 (by kernel_rfl) (by kernel_rfl) (by kernel_rfl) ?bt22 ?ct22 ?dt22 (by assumption) ?rt22; (case at22 => (simp only [List.getElem?_toArray, List.getElem?_cons_zero, List.getElem?_cons_succ]; rfl)); (case bt22 => exact fun _ _ _ h => h); (case ct22 => kernel_rfl); (case dt22 => (intro W hW; (try dsimp only at hW); go_split_ands; go_simp; (try with_reducible rfl))); (case' rt22 => simp only [Act.put, List.setIfInBounds_toArray, List.set_cons_zero, List.set_cons_succ]))
            (refine held_take (i := 8) (oi := ?ot23) (v := .int .u64 (x : Int)) ?at23 (by kernel_rfl) (by kernel_rfl) (by kernel_rfl) ?bt23 ?ct23 ?dt23 (by assumption) ?rt23; (case at23 => (simp only [List.getElem?_toArray, List.getElem?_cons_zero, List.getElem?_cons_succ]; rfl)); (case bt23 => exact fun _ _ _ h => h); (case ct23 => kernel_rfl); (case dt23 => (intro W hW; obtain ⟨_, _, _, c3⟩ := HC9.out W hW; clear hW; go_simp; (try with_reducible rfl))); (case' rt23 => simp only [Act.put, List.setIfInBounds_toArray, List.set_cons_zero, List.set_cons_succ]))
            (refine held_take (i := 9) (oi := ?ot24) (v := ?vt24) ?at24 (by kernel_rfl) (by kernel_rfl) (by kernel_rfl) ?bt24 ?ct24 ?dt24 (by assumption) ?rt24; (case at24 => (simp only [List.getElem?_toArray, List.getElem?_cons_zero, List.getElem?_cons_succ]; rfl)); (case bt24 => exact fun _ _ _ h => h); (case ct24 => kernel_rfl); (case dt24 => (intro W hW; (try dsimp only at hW); go_split_ands; go_simp; (try with_reducible rfl))); (case' rt24 => simp only [Act.put, List.setIfInBounds_toArray, List.set_cons_zero, List.set_cons_succ]))
            (refine held_take (i := 10) (oi := ?ot25) (v := .int .u64 (k : Int)) ?at25 (by kernel_rfl) (by kernel_rfl) (by kernel_rfl) ?bt25 ?ct25 ?dt25 (by assumption) ?rt25; (case at25 => (simp only [List.getElem?_toArray, List.getElem?_cons_zero, List.getElem?_cons_succ]; rfl)); (case bt25 => exact fun _ _ _ h => h); (case ct25 => kernel_rfl); (case dt25 => (intro W hW; clear hW; go_simp; (try exact hwk); (try with_reducible rfl))); (case' rt25 => simp only [Act.put, List.setIfInBounds_toArray, List.set_cons_zero, List.set_cons_succ]))
            (refine held_take (i := 11) (oi := ?ot26) (v := .int .u64 (t : Int)) ?at26 (by kernel_rfl) (by kernel_rfl) (by kernel_rfl) ?bt26 ?ct26 ?dt26 (by assumption) ?rt26; (case at26 => (simp only [List.getElem?_toArray, List.getElem?_cons_zero, List.getElem?_cons_succ]; rfl)); (case bt26 => exact fun _ _ _ h => h); (case ct26 => kernel_rfl); (case dt26 => (intro W hW; clear hW; go_simp; (try exact hwt); (try with_reducible rfl))); (case' rt26 => simp only [Act.put, List.setIfInBounds_toArray, List.set_cons_zero, List.set_cons_succ]))
            refine held_one (i := 12) (oi := ?ot27) (by kernel_rfl) ?at27 ?ct27 (fun K12 hK12 => ?_)
            (case at27 => (simp only [List.getElem?_toArray, List.getElem?_cons_zero, List.getElem?_cons_succ]; rfl))
            (case ct27 => kernel_rfl)
            have hSb := hS
            go_simp
            refine (HHS.out _).mono ?_
            rintro e w3 ⟨rfl, hd⟩
            have HS12 := Lib.hid (hSb.keep hd)
            refine hK12 _ _ (hSb.keep hd) (fun hS12 => ?_)
            clear hd hSb hK12 K12
            refine wpAnyH_done (by kernel_rfl) ?_ _
            cases z with
            | false =>
              go_wp2
              go_roundw
              case rel =>
                refine ⟨k + 1, mem2, HST.out.2.1, by go_num, Lib.hid ⟨HZ2.out.mr.under HS12.out, HZ2.out.tu.andThen (Turn.of_below HS12.out), HZ2.out.iv.skip HI.out HST.out.2.1 fun hh => ?_⟩⟩
                rw [(HX.out.2.2.2 HI.out).1, ← HST.out.1] at hh
                have hf := HST.out.2.2
                unfold has at hf
                rw [HGD.out] at hf
                simp at hf
                have := hf hh.1
                have := hh.2
                simp only at this
                omega
              case measure => have := HST.out.2.1; simp [intOf]; omega
            | true =>
              have hm3 := HZ2.out.mr.under HS12.out
              obtain ⟨a0', q', e1, e2, _, hcq⟩ := hm3.page_at HI.out
              cases e1
              rw [hq] at e2
              subst e2
              have hpa := (hm3.at_page HI.out).2.2.2.2.2
              rw [(HX.out.2.2.2 HI.out).2] at hcq hpa
              have hc2 := hm3.cell2
              have hcg := hpa.cell hk2
              have hfg := hpa.frozen k
              have hqk : (⟨g, 0, none⟩ : Addr).add k = ⟨g, k, none⟩ := by unfold Addr.add; split <;> simp_all
              clear hm3 hpa hS12
              go_wp2
              go_roundw
              case rel =>
                have := HZ2.out.write HS12.out HI.out HST.out.2.1 (by
                  have hf := HST.out.2.2.symm
                  rw [(HX.out.2.2.2 HI.out).1, ← HST.out.1]
                  unfold has at hf
                  simp only [Bool.and_eq_true, decide_eq_true_eq] at hf
                  exact hf.2)
                rw [(HX.out.2.2.2 HI.out).2] at this
                exact ⟨k + 1, _, HST.out.2.1, by go_num, Lib.hid this⟩
              case measure => have := HST.out.2.1; simp [intOf]; omega
          · obtain rfl : k = 4096 := by omega
            clear hk2 hk
            go_wp2
            go_roundw
            case rel => exact ⟨i + 1, mem2, HI.out, by go_num, Lib.hid ⟨HZ2.out.mr, HZ2.out.tu, HZ2.out.iv.next⟩⟩
            case measure => have := HI.out; simp [intOf]; omega
      · obtain rfl : i = ps.length := by omega
        clear hlt hi
        have HE := hZ
        clear hZ
        go_wp2
        rw [HQ.out]
        exact ⟨rfl, HE.out.mr.congr (HE.out.iv.all HMV.out), (Turn.of_below HB0.out).andThen HE.out.tu⟩
end Go.Proofs.Ytbemphfijkcbhaa
