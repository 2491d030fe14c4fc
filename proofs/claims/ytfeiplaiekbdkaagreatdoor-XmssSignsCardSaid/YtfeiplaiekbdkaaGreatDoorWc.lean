/- Merged: Feed, Take, Cat, Put, RPut, Put64, Pad, Sum. -/
import Derived.Laws.CopyRow
import Derived.Laws.MakeOwn
import Derived.WalkSpells
import Derived.KernelRfl
import Derived.Test.YtfeiplaiekbdkaaGreatDoorWb
import Derived.Test.YtfeiplaiekbdkaaGreatDoorChecked
import Derived.Test.YtfeiplaiekbdkaaGreatDoorWa
import Derived.Test.YtfeiplaiekbdkaaGreatDoorRTab
/- A hash's state as a plain thing; bytes fed one by one. -/
namespace Go.Proofs.YtfeiplaiekbdkaaGreatDoor
open Go.RowKit

structure St where
  h : Nat → W32
  b : Nat → UInt8
  t : Nat
def step1 (s : St) (x : UInt8) : St :=
  ⟨if (s.t + 1) % 64 = 0 then comp s.h (upd s.b (s.t % 64) x) else s.h, upd s.b (s.t % 64) x, s.t + 1⟩
def feed (s : St) (l : List UInt8) : St := l.foldl step1 s
theorem feed_nil (s : St) : feed s [] = s := rfl
theorem feed_cons (s : St) (x : UInt8) (l : List UInt8) : feed s (x :: l) = feed (step1 s x) l := rfl
theorem feed_append (s : St) (l m : List UInt8) : feed s (l ++ m) = feed (feed s l) m := List.foldl_append
theorem feed_t (s : St) (l : List UInt8) : (feed s l).t = s.t + l.length := by
  induction l generalizing s with
  | nil => rfl
  | cons x l ih => rw [feed_cons, ih]; simp [step1]; omega
/-- bytes laid from place r on -/
def lay (b : Nat → UInt8) (r : Nat) (l : List UInt8) : Nat → UInt8 := fun i => if r ≤ i ∧ i < r + l.length then l.getD (i - r) 0 else b i
theorem lay_nil (b : Nat → UInt8) (r : Nat) : lay b r [] = b := by funext i; simp [lay]; omega
theorem lay_cons (b : Nat → UInt8) (r : Nat) (x : UInt8) (l : List UInt8) : lay (upd b r x) (r + 1) l = lay b r (x :: l) := by
  funext i
  unfold lay upd
  by_cases h1 : i = r
  · subst h1
    rw [if_neg (by omega), if_pos rfl, if_pos ⟨Nat.le_refl _, by simp⟩]; simp
  · by_cases h2 : r + 1 ≤ i ∧ i < r + 1 + l.length
    · have e : i - r = (i - (r + 1)) + 1 := by omega
      rw [if_pos h2, if_pos ⟨by omega, by simp; omega⟩, e]; simp
    · rw [if_neg h2, if_neg h1, if_neg (by simp; omega)]
theorem feed_lt (l : List UInt8) : ∀ (h : Nat → W32) (b : Nat → UInt8) (t : Nat), t % 64 + l.length < 64 → feed ⟨h, b, t⟩ l = ⟨h, lay b (t % 64) l, t + l.length⟩ := by
  induction l with
  | nil => intro h b t _; rw [feed_nil, lay_nil]; rfl
  | cons x l ih =>
    intro h b t hl
    simp at hl
    have e : (t + 1) % 64 = t % 64 + 1 := by omega
    rw [feed_cons]
    have : step1 ⟨h, b, t⟩ x = ⟨h, upd b (t % 64) x, t + 1⟩ := by simp only [step1]; rw [if_neg (by omega)]
    rw [this, ih _ _ _ (by omega), e, lay_cons]
    simp; omega
theorem feed_full (l : List UInt8) (h : Nat → W32) (b : Nat → UInt8) (t : Nat) (hl : t % 64 + l.length = 64) : feed ⟨h, b, t⟩ l = ⟨comp h (lay b (t % 64) l), lay b (t % 64) l, t + l.length⟩ := by
  rcases List.eq_nil_or_concat l with rfl | ⟨l', x, rfl⟩
  · simp at hl; omega
  · rw [List.concat_eq_append] at hl ⊢
    simp at hl
    rw [feed_append, feed_lt l' h b t (by omega)]
    have e1 : (t + l'.length) % 64 = t % 64 + l'.length := by omega
    have e2 : upd (lay b (t % 64) l') (t % 64 + l'.length) x = lay b (t % 64) (l' ++ [x]) := by
      funext i
      unfold upd lay
      by_cases h1 : i = t % 64 + l'.length
      · subst h1
        rw [if_pos rfl, if_pos ⟨by omega, by simp⟩]
        simp [List.getD_eq_getElem?_getD]
      · rw [if_neg h1]
        by_cases h2 : t % 64 ≤ i ∧ i < t % 64 + l'.length
        · rw [if_pos h2, if_pos ⟨by omega, by simp; omega⟩]
          simp [List.getD_eq_getElem?_getD, List.getElem?_append, show i - t % 64 < l'.length by omega]
        · rw [if_neg h2, if_neg (by simp; omega)]
    show step1 _ x = _
    simp only [step1, e1, e2]
    rw [if_pos (by omega)]
    simp; omega

/-- A state's cells, then others. -/
def stf (s : St) (f0 : Nat → Value) : Nat → Value := fun i =>
  if i < 8 then .int .u32 (num (s.h i)) else if i < 72 then .int .u8 ((s.b (i - 8)).toNat : Int) else if i = 72 then .int .u64 (s.t : Int) else f0 i
theorem stf_h (s : St) (f0 : Nat → Value) (i : Nat) (h : i < 8) : stf s f0 i = wds s.h i := by simp [stf, wds, h]
theorem stf_b (s : St) (f0 : Nat → Value) (i : Nat) (h : i < 64) : stf s f0 (8 + i) = bys s.b i := by
  unfold stf bys
  rw [if_neg (by omega), if_pos (by omega), Nat.add_sub_cancel_left]
theorem stf_t (s : St) (f0 : Nat → Value) : stf s f0 72 = .int .u64 (s.t : Int) := by simp [stf]
theorem stf_t_upd (s : St) (f0 : Nat → Value) (t : Nat) : upd (stf s f0) 72 (.int .u64 (t : Int)) = stf ⟨s.h, s.b, t⟩ f0 := by
  funext i
  unfold upd stf
  by_cases h : i = 72
  · subst h; simp
  · simp [h]
theorem stf_h_spl (s : St) (f0 : Nat → Value) (h : Nat → W32) : spl 0 8 (wds h) (stf s f0) = stf ⟨h, s.b, s.t⟩ f0 := by
  funext i
  unfold spl stf wds
  by_cases h1 : i < 8
  · simp [h1]
  · simp [h1]
theorem stf_b_spl (s : St) (f0 : Nat → Value) (r : Nat) (l : List UInt8) (hr : r + l.length ≤ 64) : spl (8 + r) l.length (bys fun j => l.getD j 0) (stf s f0) = stf ⟨s.h, lay s.b r l, s.t⟩ f0 := by
  funext i
  unfold spl stf bys lay
  by_cases h1 : 8 + r ≤ i ∧ i < 8 + r + l.length
  · rw [if_pos h1, if_neg (by omega), if_pos (by omega)]
    dsimp only
    rw [if_pos (by omega), show i - 8 - r = i - (8 + r) by omega]
  · rw [if_neg h1]
    by_cases h2 : i < 8
    · simp [h2]
    · by_cases h3 : i < 72
      · simp only [h2, h3, if_true, if_false]
        rw [if_neg (by omega)]
      · simp [h2, h3]
theorem tabs_save {g : Nat} {w w' : World} (hT : Tabs w) (h : Save g w w') (h0 : g ≠ 1) (h1 : g ≠ 0) : Tabs w' :=
  ⟨fun i hi => (h.cell (World.block_lt_of_cell? w _ (hT.1 i hi)) (Ne.symm h0)).trans (hT.1 i hi), fun i hi => (h.cell (World.block_lt_of_cell? w _ (hT.2 i hi)) (Ne.symm h1)).trans (hT.2 i hi)⟩
end Go.Proofs.YtfeiplaiekbdkaaGreatDoor
/- (*sha.state).take. -/
namespace Go.Proofs.YtfeiplaiekbdkaaGreatDoor
open Go.RowKit
theorem bySize : (Tryz.prog.info? 5).map (·.size) = some 1 := by kernel_rfl

set_option maxHeartbeats 1000000 in
set_option maxRecDepth 100000 in
theorem take_any (s : St) (l : List UInt8) (A : Option Addr) (c g : Nat) (ty : TypeId) (n : Nat) (f0 : Nat → Value) (w : World) (hn : 73 ≤ n) (hs : s.t + l.length < 1099511627776) (hc : l.length ≤ c)
    (hS : Arr w g ty n (stf s f0)) (hl : Lies w w.heap.size 1 A l.length (u8s l)) (hg : ∀ a, A = some a → l.length ≠ 0 → a.block ≠ g) (hT : Tabs w) (h0 : g ≠ 1) (h1 : g ≠ 0) :
    Calls Tryz.prog 84 #[.pointer (some ⟨g, 0, none⟩), .slice A l.length c] w fun e w' => e = .returned (.tuple #[]) ∧ Arr w' g ty n (stf (feed s l) f0) ∧ Save g w w' := by
  have HL := Lib.hid hl
  have HG := Lib.hid (And.intro hg (And.intro h0 h1))
  have HT := Lib.hid hT
  have HS := Lib.hid hS
  clear hl hg h0 h1 hT hS
  go_enter Tryz.func84, Tryz.ntmps84
  go_wp2
  go_loopw [1] (fun u W => ∃ (p : Nat) (A' : Option Addr) (c' : Nat), p ≤ l.length ∧ u = .slice A' (l.length - p) c' ∧ l.length - p ≤ c' ∧ Hid (∀ j, j < l.length - p → ∃ a', A' = some a' ∧ a'.block < w.heap.size ∧ a'.block ≠ g ∧ w.cell? (a'.add j) = some (.int .u8 ((l.getD (p + j) 0).toNat : Int))) ∧ Hid (Arr W g ty n (stf (feed s (l.take p)) f0)) ∧ Hid (Save g w W)) (fun u _ => match u with | .slice _ m _ => m | _ => 0)
  case atStart =>
    refine ⟨0, A, c, Nat.zero_le _, rfl, hc, Lib.hid fun j hj => ?_, HS, Lib.hid (Save.refl _ _)⟩
    obtain ⟨a, hx, rfl, hb, hcell⟩ := HL.out.atMap (k := j) (by omega)
    exact ⟨a, rfl, hb, HG.out.1 a rfl (by omega), by rw [hcell, Nat.zero_add, List.getD_eq_getElem?_getD, List.getElem?_eq_getElem hx]; rfl⟩
  case round =>
    obtain ⟨p, A', c', hp, rfl, hc', hby, hA, hsv⟩ := hrel
    by_cases hlt : p < l.length
    · obtain ⟨a', rfl, hab, hag, _⟩ := hby.out 0 (by omega)
      obtain ⟨q, hq⟩ : ∃ q, q = feed s (l.take p) := ⟨_, rfl⟩
      rw [← hq] at hA
      have hqt : q.t = s.t + p := by rw [hq, feed_t, List.length_take]; omega
      obtain ⟨r, hr⟩ : ∃ r, r = q.t % 64 := ⟨_, rfl⟩
      obtain ⟨m, hm⟩ : ∃ m, m = Nat.min (l.length - p) (64 - r) := ⟨_, rfl⟩
      have hmm : m = min (l.length - p) (64 - r) := hm
      have hr64 : r < 64 := by omega
      have hct := hA.out.cell (i := 72) (by omega)
      rw [stf_t] at hct
      have hft := hA.out.frozen 72
      have HC := Lib.hid hct
      have HF := Lib.hid hft
      have HQ := Lib.hid (And.intro hq (And.intro hqt hr))
      have e1 : (q.t : Int).tmod 64 = (r : Int) := by rw [Int.tmod_eq_emod_of_nonneg (by omega)]; omega
      have hpos : (0 : Int) < ((l.length - p : Nat) : Int) := by omega
      have hr0 : (0 : Int) ≤ (r : Int) := by omega
      have hr1 : (r : Int) ≤ 64 := by omega
      have hne64 : ¬ (64 = r) := by omega
      obtain ⟨seg, hseg⟩ : ∃ seg, seg = (l.drop p).take m := ⟨_, rfl⟩
      have hsl : seg.length = m := by rw [hseg, List.length_take, List.length_drop]; omega
      have hsd : ∀ j, j < m → seg.getD j 0 = l.getD (p + j) 0 := fun j hj => by
        rw [hseg, List.getD_eq_getElem?_getD, List.getElem?_take, if_pos hj, List.getElem?_drop, List.getD_eq_getElem?_getD]
      have hsrc : ∀ j, j < m → wr.drew.cell? (a'.add j) = some (bys (fun j => seg.getD j 0) j) := fun j hj => by
        obtain ⟨a2, h2, hb2, hg2, hc2⟩ := hby.out j (by omega)
        obtain rfl := Option.some.inj h2
        show wr.cell? _ = _
        rw [hsv.out.cell (by rw [addr_add_block]; exact hb2) (by rw [addr_add_block]; exact hg2), hc2]
        simp only [bys]
        rw [hsd j hj]
      have hcopy := run_copy_spl (P := Tryz.prog) (w := wr.drew) (g := g) (n := n) (o := 8 + r) (dLen := 64 - r) (dCap := 64 - r) (sLen := l.length - p) (sCap := c') (dT := 22) (sT := 22) (ty := 3) (elem := 5) (t := ty) (a := a') (f := stf q f0) (c := bys (fun j => seg.getD j 0)) m hA.out Tryz.underlying22 bySize hm hsrc (by omega) (bys_one _ _)
      have e9 : spl (8 + r) m (bys (fun j => seg.getD j 0)) (stf q f0) = stf ⟨q.h, lay q.b r seg, q.t⟩ f0 := by
        rw [← hsl]; exact stf_b_spl q f0 r seg (by omega)
      rw [e9] at hcopy
      have hA1 := (hA.out.drewN 1).row (stf ⟨q.h, lay q.b r seg, q.t⟩ f0)
      have hsv1 := (hsv.out.drewN 1).setRow (vec n (stf ⟨q.h, lay q.b r seg, q.t⟩ f0))
      have HA1 := Lib.hid (And.intro hA1 hsv1)
      have HCp := Lib.hid hcopy
      have HSg := Lib.hid (And.intro hseg hsl)
      have HM := Lib.hid hmm
      clear hseg hsl hsd hsrc hcopy e9 hA1 hsv1 hm hsv hmm
      clear hct hft hq hqt hr
      go_wp2_with fail
      refine wp_region_held_drew (S := fun Y => Y.cell? ⟨g, 72, none⟩ = some (.int .u64 (q.t : Int))) (by kernel_rfl) HC.out (fun hS => ?_)
      (refine held_take (i := 0) (oi := ?ot1) (v := ?vt1) ?at1 (by kernel_rfl) (by kernel_rfl) (by kernel_rfl) ?bt1 ?ct1 ?dt1 (by assumption) ?rt1; (case at1 => (simp only [List.getElem?_toArray, List.getElem?_cons_zero]; rfl)); (case bt1 => exact fun _ _ _ h => h); (case ct1 => kernel_rfl); (case dt1 => (intro W hW; (try dsimp only at hW); go_split_ands; go_simp; (try with_reducible rfl))); (case' rt1 => simp only [Act.put, List.setIfInBounds_toArray, List.set_cons_zero, List.set_cons_succ]))
      (refine held_take (i := 1) (oi := ?ot2) (v := ?vt2) ?at2 (by kernel_rfl) (by kernel_rfl) (by kernel_rfl) ?bt2 ?ct2 ?dt2 (by assumption) ?rt2; (case at2 => (simp only [List.getElem?_toArray, List.getElem?_cons_zero, List.getElem?_cons_succ]; rfl)); (case bt2 => exact fun _ _ _ h => h); (case ct2 => kernel_rfl); (case dt2 => (intro W hW; (try dsimp only at hW); go_split_ands; go_simp; (try with_reducible rfl))); (case' rt2 => simp only [Act.put, List.setIfInBounds_toArray, List.set_cons_zero, List.set_cons_succ]))
      (refine held_take (i := 2) (oi := ?ot3) (v := ?vt3) ?at3 (by kernel_rfl) (by kernel_rfl) (by kernel_rfl) ?bt3 ?ct3 ?dt3 (by assumption) ?rt3; (case at3 => (simp only [List.getElem?_toArray, List.getElem?_cons_zero, List.getElem?_cons_succ]; rfl)); (case bt3 => exact fun _ _ _ h => h); (case ct3 => kernel_rfl); (case dt3 => (intro W hW; (try dsimp only at hW); go_split_ands; go_simp; (try with_reducible rfl))); (case' rt3 => simp only [Act.put, List.setIfInBounds_toArray, List.set_cons_zero, List.set_cons_succ]))
      (refine held_take (i := 3) (oi := ?ot4) (v := ?vt4) ?at4 (by kernel_rfl) (by kernel_rfl) (by kernel_rfl) ?bt4 ?ct4 ?dt4 (by assumption) ?rt4; (case at4 => (simp only [List.getElem?_toArray, List.getElem?_cons_zero, List.getElem?_cons_succ]; rfl)); (case bt4 => exact fun _ _ _ h => h); (case ct4 => kernel_rfl); (case dt4 => (intro W hW; (try dsimp only at hW); go_split_ands; go_simp; (try with_reducible rfl))); (case' rt4 => simp only [Act.put, List.setIfInBounds_toArray, List.set_cons_zero, List.set_cons_succ]))
      (refine held_take (i := 4) (oi := ?ot5) (v := ?vt5) ?at5 (by kernel_rfl) (by kernel_rfl) (by kernel_rfl) ?bt5 ?ct5 ?dt5 (by assumption) ?rt5; (case at5 => (simp only [List.getElem?_toArray, List.getElem?_cons_zero, List.getElem?_cons_succ]; rfl)); (case bt5 => exact fun _ _ _ h => h); (case ct5 => kernel_rfl); (case dt5 => (intro W hW; (try dsimp only at hW); go_split_ands; go_simp; (try with_reducible rfl))); (case' rt5 => simp only [Act.put, List.setIfInBounds_toArray, List.set_cons_zero, List.set_cons_succ]))
      (refine held_take (i := 5) (oi := ?ot6) (v := ?vt6) ?at6 (by kernel_rfl) (by kernel_rfl) (by kernel_rfl) ?bt6 ?ct6 ?dt6 (by assumption) ?rt6; (case at6 => (simp only [List.getElem?_toArray, List.getElem?_cons_zero, List.getElem?_cons_succ]; rfl)); (case bt6 => exact fun _ _ _ h => h); (case ct6 => kernel_rfl); (case dt6 => (intro W hW; (try dsimp only at hW); go_split_ands; go_simp; (try with_reducible rfl))); (case' rt6 => simp only [Act.put, List.setIfInBounds_toArray, List.set_cons_zero, List.set_cons_succ]))
      (refine held_take (i := 6) (oi := ?ot7) (v := ?vt7) ?at7 (by kernel_rfl) (by kernel_rfl) (by kernel_rfl) ?bt7 ?ct7 ?dt7 (by assumption) ?rt7; (case at7 => (simp only [List.getElem?_toArray, List.getElem?_cons_zero, List.getElem?_cons_succ]; rfl)); (case bt7 => exact fun _ _ _ h => h); (case ct7 => kernel_rfl); (case dt7 => (intro W hW; (try dsimp only at hW); go_split_ands; go_simp; (try with_reducible rfl))); (case' rt7 => simp only [Act.put, List.setIfInBounds_toArray, List.set_cons_zero, List.set_cons_succ]))
      (refine held_take (i := 7) (oi := ?ot8) (v := ?vt8) ?at8 (by kernel_rfl) (by kernel_rfl) (by kernel_rfl) ?bt8 ?ct8 ?dt8 (by assumption) ?rt8; (case at8 => (simp only [List.getElem?_toArray, List.getElem?_cons_zero, List.getElem?_cons_succ]; rfl)); (case bt8 => exact fun _ _ _ h => h); (case ct8 => kernel_rfl); (case dt8 => (intro W hW; (try dsimp only at hW); go_split_ands; go_simp; (try with_reducible rfl))); (case' rt8 => simp only [Act.put, List.setIfInBounds_toArray, List.set_cons_zero, List.set_cons_succ]))
      (refine held_take (i := 8) (oi := ?ot9) (v := ?vt9) ?at9 (by kernel_rfl) (by kernel_rfl) (by kernel_rfl) ?bt9 ?ct9 ?dt9 (by assumption) ?rt9; (case at9 => (simp only [List.getElem?_toArray, List.getElem?_cons_zero, List.getElem?_cons_succ]; rfl)); (case bt9 => exact fun _ _ _ h => h); (case ct9 => kernel_rfl); (case dt9 => (intro W hW; (try dsimp only at hW); go_split_ands; go_simp; (try with_reducible rfl))); (case' rt9 => simp only [Act.put, List.setIfInBounds_toArray, List.set_cons_zero, List.set_cons_succ]))
      (refine held_take (i := 9) (oi := ?ot10) (v := ?vt10) ?at10 (by kernel_rfl) (by kernel_rfl) (by kernel_rfl) ?bt10 ?ct10 ?dt10 (by assumption) ?rt10; (case at10 => (simp only [List.getElem?_toArray, List.getElem?_cons_zero, List.getElem?_cons_succ]; rfl)); (case bt10 => exact fun _ _ _ h => h); (case ct10 => kernel_rfl); (case dt10 => (intro W hW; (try dsimp only at hW); go_split_ands; go_simp; (try with_reducible rfl))); (case' rt10 => simp only [Act.put, List.setIfInBounds_toArray, List.set_cons_zero, List.set_cons_succ]))
      refine held_one (i := 10) (oi := ?ot11) (by kernel_rfl) ?at11 ?ct11 (fun K10 hK10 => ?_)
      (case at11 => (simp only [List.getElem?_toArray, List.getElem?_cons_zero, List.getElem?_cons_succ]; rfl))
      (case ct11 => kernel_rfl)
      refine ow_copy _ _ _ _ rfl _ _ rfl rfl HCp.out ?_
      have hct1 := HA1.out.1.cell (i := 72) (by omega)
      rw [stf_t] at hct1
      refine hK10 _ _ hct1 (fun hS10 => ?_)
      clear hS hct1 hK10 K10
      (refine held_take (i := 11) (oi := ?ot12) (v := ?vt12) ?at12 (by kernel_rfl) (by kernel_rfl) (by kernel_rfl) ?bt12 ?ct12 ?dt12 (by assumption) ?rt12; (case at12 => (simp only [List.getElem?_toArray, List.getElem?_cons_zero, List.getElem?_cons_succ]; rfl)); (case bt12 => exact fun _ _ _ h => h); (case ct12 => kernel_rfl); (case dt12 => (intro W hW; (try dsimp only at hW); go_split_ands; go_simp; (try with_reducible rfl))); (case' rt12 => simp only [Act.put, List.setIfInBounds_toArray, List.set_cons_zero, List.set_cons_succ]))
      refine wpAnyH_done (by kernel_rfl) ?_ _
      clear hS10 hA HCp HC HF hne64
      obtain ⟨W1, hW1⟩ : ∃ W1, W1 = wr.drew.setRow g (vec n (stf ⟨q.h, lay q.b r seg, q.t⟩ f0)) := ⟨_, rfl⟩
      have HA2 : Hid (Arr W1 g ty n (stf ⟨q.h, lay q.b r seg, q.t⟩ f0) ∧ Save g w W1) := Lib.hid (by rw [hW1]; exact HA1.out)
      rw [← hW1]
      clear hW1 HA1
      have hct := HA2.out.1.cell (i := 72) (by omega)
      rw [stf_t] at hct
      have hft := HA2.out.1.frozen 72
      have hqt := HQ.out.2.1
      have hmm := HM.out
      have hqr := HQ.out.2.2
      have hm64 : IntKind.u64.wrap (m : Int) = (m : Int) := by rw [IntKind.wrap_u64]; omega
      have hw64 : IntKind.u64.wrap ((q.t : Int) + (m : Int)) = (q.t : Int) + (m : Int) := by rw [IntKind.wrap_u64]; omega
      have hmp : m ≤ l.length - p := by omega
      have hnext : l.take (p + m) = l.take p ++ seg := by
        rw [HSg.out.1, List.take_add]
      have hfeed : feed s (l.take (p + m)) = feed q seg := by rw [hnext, feed_append, ← HQ.out.1]
      have HFd := Lib.hid hfeed
      clear hnext hfeed
      have hA3 : Arr (W1.setCell ⟨g, 72, none⟩ (.int .u64 ((q.t : Int) + (m : Int)))) g ty n (stf ⟨q.h, lay q.b r seg, q.t + m⟩ f0) := by
        have := HA2.out.1.set 72 (.int .u64 ((q.t + m : Nat) : Int))
        rw [stf_t_upd] at this
        simpa using this
      have hsv3 := HA2.out.2.setCell 72 (.int .u64 ((q.t : Int) + (m : Int)))
      have HA3 := Lib.hid (And.intro hA3 hsv3)
      have hct3 := hA3.cell (i := 72) (by omega)
      rw [stf_t, show ((q.t + m : Nat) : Int) = (q.t : Int) + (m : Int) by omega] at hct3
      obtain ⟨W3, hW3⟩ : ∃ W3, W3 = W1.setCell ⟨g, 72, none⟩ (.int .u64 ((q.t : Int) + (m : Int))) := ⟨_, rfl⟩
      have hend : ∀ (W : World) (A2 : Option Addr) (c2 : Nat), A2 = (if c' = m then some a' else some (a'.add m)) → c2 = c' - m → Arr W g ty n (stf (feed s (l.take (p + m))) f0) → Save g w W →
          ∃ (p2 : Nat) (A3 : Option Addr) (c3 : Nat), p2 ≤ l.length ∧ (Value.slice A2 (l.length - p - m) c2) = .slice A3 (l.length - p2) c3 ∧ l.length - p2 ≤ c3 ∧ Hid (∀ j, j < l.length - p2 → ∃ a', A3 = some a' ∧ a'.block < w.heap.size ∧ a'.block ≠ g ∧ w.cell? (a'.add j) = some (.int .u8 ((l.getD (p2 + j) 0).toNat : Int))) ∧ Hid (Arr W g ty n (stf (feed s (l.take p2)) f0)) ∧ Hid (Save g w W) := by
        intro W A2 c2 hA2 hc2 h1 h2
        refine ⟨p + m, A2, c2, by omega, by rw [Nat.sub_sub], by omega, Lib.hid fun j hj => ?_, Lib.hid h1, Lib.hid h2⟩
        obtain ⟨a2, e2, hb2, hg2, hcc2⟩ := hby.out (m + j) (by omega)
        obtain rfl := Option.some.inj e2
        refine ⟨a'.add m, by rw [hA2, if_neg (by omega)], by rw [addr_add_block]; exact hb2, by rw [addr_add_block]; exact hg2, ?_⟩
        rw [addr_add_add, hcc2, Nat.add_assoc]
      have HEnd := Lib.hid hend
      clear hend
      by_cases hfull : r + m = 64
      · have e3 : ((q.t : Int) + (m : Int)).tmod 64 = 0 := by rw [Int.tmod_eq_emod_of_nonneg (by omega)]; omega
        have hfd : feed s (l.take (p + m)) = ⟨comp q.h (lay q.b r seg), lay q.b r seg, q.t + m⟩ := by
          rw [HFd.out]
          have := feed_full seg q.h q.b q.t (by rw [HSg.out.2, ← hqr]; exact hfull)
          rw [← hqr, HSg.out.2] at this
          exact this
        have HFd2 := Lib.hid hfd
        have HE := Lib.hid (And.intro hqt (And.intro hqr (And.intro hmm hfull)))
        clear hA3 hsv3 hfd hqt hqr hmm hfull hab hag
        have hmi : (m : Int) ≤ ((l.length - p : Nat) : Int) := by omega
        go_upto_region 5 with fail
        rw [← hW3]
        obtain ⟨A2, hA2⟩ : ∃ A2, A2 = (if c' = m then some a' else some (a'.add m)) := ⟨_, rfl⟩
        rw [← hA2]
        have HIf := Lib.hid hA2
        clear hA2
        have HA4 : Hid (Arr W3.drew g ty n (stf ⟨q.h, lay q.b r seg, q.t + m⟩ f0) ∧ Save g w W3) := Lib.hid (by rw [hW3]; exact HA3.out)
        have hSb : ∀ i, i < 64 → W3.drew.cell? ⟨g, 8 + i, none⟩ = some (bys (lay q.b r seg) i) := fun i hi => by
          rw [← stf_b ⟨q.h, lay q.b r seg, q.t + m⟩ f0 i hi]; exact HA4.out.1.cell (by omega)
        have hSh : ∀ i, i < 8 → W3.drew.cell? ⟨g, 0 + i, none⟩ = some (wds q.h i) := fun i hi => by
          rw [← stf_h ⟨q.h, lay q.b r seg, q.t + m⟩ f0 i hi, Nat.zero_add]; exact HA4.out.1.cell (by omega)
        have HSb := Lib.hid hSb
        have HLd := Lib.hid (run_load_spl (P := Tryz.prog) hSh Tryz.underlying129 rfl info34)
        have HTb : Hid (Tabs W3.drew) := Lib.hid (tabs_save HT.out (HA4.out.2.drewN 1) HG.out.2.1 HG.out.2.2)
        clear hW3 HA3 HA2 hct3 hct hft hSb hSh
        refine wp_region_held_drew (S := fun Y => ∀ i, i < 64 → Y.cell? ⟨g, 8 + i, none⟩ = some (bys (lay q.b r seg) i)) (by kernel_rfl) HSb.out (fun hS => ?_)
        (refine held_take (i := 0) (oi := ?ot13) (v := ?vt13) ?at13 (by kernel_rfl) (by kernel_rfl) (by kernel_rfl) ?bt13 ?ct13 ?dt13 (by assumption) ?rt13; (case at13 => (simp only [List.getElem?_toArray, List.getElem?_cons_zero]; rfl)); (case bt13 => exact fun _ _ _ h => h); (case ct13 => kernel_rfl); (case dt13 => (intro W hW; (try dsimp only at hW); go_split_ands; go_simp; (try with_reducible rfl))); (case' rt13 => simp only [Act.put, List.setIfInBounds_toArray, List.set_cons_zero, List.set_cons_succ]))
        (refine held_take (i := 1) (oi := ?ot14) (v := ?vt14) ?at14 (by kernel_rfl) (by kernel_rfl) (by kernel_rfl) ?bt14 ?ct14 ?dt14 (by assumption) ?rt14; (case at14 => (simp only [List.getElem?_toArray, List.getElem?_cons_zero, List.getElem?_cons_succ]; rfl)); (case bt14 => exact fun _ _ _ h => h); (case ct14 => kernel_rfl); (case dt14 => (intro W hW; (try dsimp only at hW); go_split_ands; go_simp; (try with_reducible rfl))); (case' rt14 => simp only [Act.put, List.setIfInBounds_toArray, List.set_cons_zero, List.set_cons_succ]))
        (refine held_take (i := 2) (oi := ?ot15) (v := ?vt15) ?at15 (by kernel_rfl) (by kernel_rfl) (by kernel_rfl) ?bt15 ?ct15 ?dt15 (by assumption) ?rt15; (case at15 => (simp only [List.getElem?_toArray, List.getElem?_cons_zero, List.getElem?_cons_succ]; rfl)); (case bt15 => exact fun _ _ _ h => h); (case ct15 => kernel_rfl); (case dt15 => (intro W hW; (try dsimp only at hW); go_split_ands; go_simp; (try with_reducible rfl))); (case' rt15 => simp only [Act.put, List.setIfInBounds_toArray, List.set_cons_zero, List.set_cons_succ]))
        (refine held_take (i := 3) (oi := ?ot16) (v := ?vt16) ?at16 (by kernel_rfl) (by kernel_rfl) (by kernel_rfl) ?bt16 ?ct16 ?dt16 (by assumption) ?rt16; (case at16 => (simp only [List.getElem?_toArray, List.getElem?_cons_zero, List.getElem?_cons_succ]; rfl)); (case bt16 => exact fun _ _ _ h => h); (case ct16 => kernel_rfl); (case dt16 => (intro W hW; (try dsimp only at hW); go_split_ands; go_simp; (try with_reducible rfl))); (case' rt16 => simp only [Act.put, List.setIfInBounds_toArray, List.set_cons_zero, List.set_cons_succ]))
        (refine held_take (i := 5) (oi := ?ot17) (v := ?vt17) ?at17 (by kernel_rfl) (by kernel_rfl) (by kernel_rfl) ?bt17 ?ct17 ?dt17 (by assumption) ?rt17; (case at17 => (simp only [List.getElem?_toArray, List.getElem?_cons_zero, List.getElem?_cons_succ]; rfl)); (case bt17 => exact fun _ _ _ h => h); (case ct17 => kernel_rfl); (case dt17 => (intro W hW; (try dsimp only at hW); go_split_ands; go_simp; (try with_reducible rfl))); (case' rt17 => simp only [Act.put, List.setIfInBounds_toArray, List.set_cons_zero, List.set_cons_succ]))
        (refine held_take (i := 6) (oi := ?ot18) (v := ?vt18) ?at18 (by kernel_rfl) (by kernel_rfl) (by kernel_rfl) ?bt18 ?ct18 ?dt18 (by assumption) ?rt18; (case at18 => (simp only [List.getElem?_toArray, List.getElem?_cons_zero, List.getElem?_cons_succ]; rfl)); (case bt18 => exact fun _ _ _ h => h); (case ct18 => kernel_rfl); (case dt18 => (intro W hW; (try dsimp only at hW); go_split_ands; go_simp; (try with_reducible rfl))); (case' rt18 => simp only [Act.put, List.setIfInBounds_toArray, List.set_cons_zero, List.set_cons_succ]))
        (refine held_take (i := 7) (oi := ?ot19) (v := ?vt19) ?at19 (by kernel_rfl) (by kernel_rfl) (by kernel_rfl) ?bt19 ?ct19 ?dt19 (by assumption) ?rt19; (case at19 => (simp only [List.getElem?_toArray, List.getElem?_cons_zero, List.getElem?_cons_succ]; rfl)); (case bt19 => exact fun _ _ _ h => h); (case ct19 => kernel_rfl); (case dt19 => (intro W hW; (try dsimp only at hW); go_split_ands; go_simp; (try with_reducible rfl))); (case' rt19 => simp only [Act.put, List.setIfInBounds_toArray, List.set_cons_zero, List.set_cons_succ]))
        (refine held_take (i := 8) (oi := ?ot20) (v := Value.agg (vec 64 (bys (lay q.b r seg)))) ?at20 (by kernel_rfl) (by kernel_rfl) (by kernel_rfl) ?bt20 ?ct20 ?dt20 (by assumption) ?rt20; (case at20 => (simp only [List.getElem?_toArray, List.getElem?_cons_zero, List.getElem?_cons_succ]; rfl)); (case bt20 => exact fun _ _ _ h => h); (case ct20 => kernel_rfl); (case dt20 => (intro W hW; exact exec_load_at 130 _ rfl _ _ rfl _ (run_load_spl hW Tryz.underlying130 rfl info39))); (case' rt20 => simp only [Act.put, List.setIfInBounds_toArray, List.set_cons_zero, List.set_cons_succ]))
        refine held_one (i := 4) (oi := ?ot21) (by kernel_rfl) ?at21 ?ct21 (fun K4 hK4 => ?_)
        (case at21 => (simp only [List.getElem?_toArray, List.getElem?_cons_zero, List.getElem?_cons_succ]; rfl))
        (case ct21 => kernel_rfl)
        refine ow_load 129 _ rfl _ _ rfl _ HLd.out ?_
        refine hK4 _ _ hS (fun hS4 => ?_)
        clear hS hK4 K4
        refine held_one (i := 9) (oi := ?ot22) (by kernel_rfl) ?at22 ?ct22 (fun K9 hK9 => ?_)
        (case at22 => (simp only [List.getElem?_toArray, List.getElem?_cons_zero, List.getElem?_cons_succ]; rfl))
        (case ct22 => kernel_rfl)
        go_simp
        refine (block_any _ _ _ HTb.out).mono ?_
        rintro e w2 ⟨rfl, hd⟩
        have hA5 := HA4.out.1.under hd
        have hsv5 : Save g w w2 := (HA4.out.2.drewN 1).trans (Save.of_below hd)
        have HA5 := Lib.hid (And.intro hA5 hsv5)
        refine hK9 _ _ (fun i hi => by rw [← stf_b ⟨q.h, lay q.b r seg, q.t + m⟩ f0 i hi]; exact HA5.out.1.cell (by omega)) (fun hS9 => ?_)
        clear hS4 hd hK9 K9 hA5 hsv5
        (refine held_take (i := 10) (oi := ?ot23) (v := ?vt23) ?at23 (by kernel_rfl) (by kernel_rfl) (by kernel_rfl) ?bt23 ?ct23 ?dt23 (by assumption) ?rt23; (case at23 => (simp only [List.getElem?_toArray, List.getElem?_cons_zero, List.getElem?_cons_succ]; rfl)); (case bt23 => exact fun _ _ _ h => h); (case ct23 => kernel_rfl); (case dt23 => (intro W hW; (try dsimp only at hW); go_split_ands; go_simp; (try with_reducible rfl))); (case' rt23 => simp only [Act.put, List.setIfInBounds_toArray, List.set_cons_zero, List.set_cons_succ]))
        (refine held_take (i := 11) (oi := ?ot24) (v := ?vt24) ?at24 (by kernel_rfl) (by kernel_rfl) (by kernel_rfl) ?bt24 ?ct24 ?dt24 (by assumption) ?rt24; (case at24 => (simp only [List.getElem?_toArray, List.getElem?_cons_zero, List.getElem?_cons_succ]; rfl)); (case bt24 => exact fun _ _ _ h => h); (case ct24 => kernel_rfl); (case dt24 => (intro W hW; (try dsimp only at hW); go_split_ands; go_simp; (try with_reducible rfl))); (case' rt24 => simp only [Act.put, List.setIfInBounds_toArray, List.set_cons_zero, List.set_cons_succ]))
        refine held_one (i := 12) (oi := ?ot25) (by kernel_rfl) ?at25 ?ct25 (fun K12 hK12 => ?_)
        (case at25 => (simp only [List.getElem?_toArray, List.getElem?_cons_zero, List.getElem?_cons_succ]; rfl))
        (case ct25 => kernel_rfl)
        have hA5 := HA5.out.1.row (spl 0 8 (wds (comp q.h (lay q.b r seg))) (stf ⟨q.h, lay q.b r seg, q.t + m⟩ f0))
        have hsv5 := HA5.out.2.setRow (vec n (spl 0 8 (wds (comp q.h (lay q.b r seg))) (stf ⟨q.h, lay q.b r seg, q.t + m⟩ f0)))
        refine ow_store _ _ _ rfl _ rfl _ rfl (run_store_spl HA5.out.1 (o := 0) (m := 8) _ (by omega) info34 (wds_one _ _)) ?_
        rw [stf_h_spl] at hA5
        rw [stf_h_spl] at hsv5
        rw [stf_h_spl]
        refine hK12 _ _ (fun i hi => by rw [← stf_b ⟨comp q.h (lay q.b r seg), lay q.b r seg, q.t + m⟩ f0 i hi]; exact hA5.cell (by omega)) (fun hS12 => ?_)
        clear hS9 hK12 K12
        refine wpAnyH_done (by kernel_rfl) ?_ _
        have HS5 := Lib.hid (And.intro hA5 hsv5)
        clear hS12 hA5 hsv5
        go_wp2
        go_roundw
        case rel =>
          obtain ⟨p2, A3, c3, h1, h2, h3, h4, h5, h6⟩ := HEnd.out _ _ _ HIf.out rfl (by rw [HFd2.out]; exact HS5.out.1) HS5.out.2
          injection h2 with e1 e2 e3
          exact ⟨p2, h1, A3, c3, ⟨e1, e2, e3⟩, by omega, Lib.hid (by simpa using h4.out), h5, h6⟩
        case measure => have := HE.out; show l.length - p - m < l.length - p; omega
      · have e3 : ((q.t : Int) + (m : Int)).tmod 64 = ((r + m : Nat) : Int) := by rw [Int.tmod_eq_emod_of_nonneg (by omega)]; omega
        have e4 : (((r + m : Nat) : Int) == 0) = false := by simp; omega
        clear hA3 hsv3
        have hfd : feed s (l.take (p + m)) = ⟨q.h, lay q.b r seg, q.t + m⟩ := by
          rw [HFd.out]
          have := feed_lt seg q.h q.b q.t (by rw [HSg.out.2, ← hqr]; omega)
          rw [← hqr, HSg.out.2] at this
          exact this
        have HFd2 := Lib.hid hfd
        have HE := Lib.hid (And.intro hqt (And.intro hqr (And.intro hmm hfull)))
        clear hfd hqt hqr hmm hfull hab hag
        have hmi : (m : Int) ≤ ((l.length - p : Nat) : Int) := by omega
        obtain ⟨k9, hk9⟩ : ∃ k9 : Int, k9 = ((r + m : Nat) : Int) := ⟨_, rfl⟩
        rw [← hk9] at e3 e4
        clear hk9
        go_wp2
        go_roundw
        case rel => exact HEnd.out _ _ _ rfl rfl (by rw [HFd2.out]; exact HA3.out.1) HA3.out.2
        case measure => have := HE.out; show l.length - p - m < l.length - p; omega
    · obtain rfl : p = l.length := by omega
      have hno : ¬ (0 : Int) < ((l.length - l.length : Nat) : Int) := by omega
      have hA2 := hA.out
      rw [List.take_length] at hA2
      have HA2 := Lib.hid hA2
      clear hA hA2 hlt hp hc' hby
      go_wp2
      exact bodyPost_end (results_none rfl _ _ _) rfl ⟨rfl, HA2.out, hsv.out⟩
end Go.Proofs.YtfeiplaiekbdkaaGreatDoor
/- word.Cat: parts, one behind the other, in new memory. -/
namespace Go.Proofs.YtfeiplaiekbdkaaGreatDoor
open Go.RowKit

/-- A part: where it lies, its room, its bytes. -/
abbrev Part := Option Addr × Nat × List UInt8
def partV (p : Part) : Value := .slice p.1 p.2.2.length p.2.1
def catAll (ps : List Part) : List UInt8 := (ps.map fun p => p.2.2).flatten
theorem cat_succ (ps : List Part) (k : Nat) (h : k < ps.length) : catAll (ps.take (k + 1)) = catAll (ps.take k) ++ ps[k].2.2 := by
  unfold catAll
  rw [List.take_succ_eq_append_getElem h, List.map_append, List.flatten_append]; simp
theorem cat_take_le (ps : List Part) (k : Nat) : (catAll (ps.take k)).length ≤ (catAll ps).length := by
  have h : catAll ps = catAll (ps.take k) ++ catAll (ps.drop k) := by
    unfold catAll
    rw [← List.flatten_append, ← List.map_append, List.take_append_drop]
  rw [h, List.length_append]; omega

/-- New bytes: a row of the call's own, all else as it was. -/
def Bytes (w : World) (l : List UInt8) (e : Ending) (w' : World) : Prop :=
  ∃ v, e = .returned v ∧ w'.ownsRow w.heap.size 5 1 v l.length (u8s l) ∧ Below w.heap.size w w'

theorem u8_info : (Tryz.prog.info? 5).map (fun i => (i.zero, i.size, i.bytes)) = some (some (.int .u8 0), 1, 1) := by kernel_rfl
theorem make_u8 (n : Nat) (hn : n ≤ 140737488355328) (w : World) : ∃ cur : Array Value, cur.size = n ∧
    (Instr.makeSlice 22 (.int .i64 0) (.int .i64 (n : Int))).run Tryz.prog w = .ok (.slice (some ⟨w.heap.size, 0, none⟩) 0 n) (w.alloc (.cells cur 5)) := by
  obtain ⟨i0, hi, hz0, hz1, hz2⟩ := info_parts u8_info
  have h := run_make (P := Tryz.prog) (w := w) 22 5 i0 (.int .u8 0) Tryz.underlying22 hi hz0 .i64 .i64 0 (n : Int) (by omega) (by omega) (by rw [hz2]; omega) (by omega)
  simp only [Int.toNat_natCast, Int.toNat_zero, hz1] at h
  exact ⟨_, by simp [madeCells, Value.cells], h⟩

set_option maxHeartbeats 400000 in
theorem cat_any (ps : List Part) (A : Option Addr) (c B : Nat) (w : World) (hB : B ≤ w.heap.size) (h : Lies w B 1 A ps.length (ps.map partV))
    (hp : ∀ p ∈ ps, Lies w B 1 p.1 p.2.2.length (u8s p.2.2)) (htot : (catAll ps).length ≤ 70368744177664) (hn : ps.length ≤ maxLen) :
    Calls Tryz.prog 31 #[.slice A ps.length c] w (Bytes w (catAll ps)) := by
  unfold maxLen at hn
  obtain ⟨i0, hi, hz0, hz1, hz2⟩ := info_parts u8_info
  have Hi := Lib.hid (And.intro hi (And.intro hz0 (And.intro hz1 hz2)))
  clear hi hz0 hz1 hz2
  have Hh := Lib.hid h
  have Hp := Lib.hid hp
  clear h hp
  go_enter Tryz.func31, Tryz.ntmps31
  go_wp2
  go_loop [3, 11] (fun n j => ∃ k : Nat, k ≤ ps.length ∧ j = .int .i64 k ∧ n = .int .i64 ((catAll (ps.take k)).length : Nat)) (fun _ i => ps.length - (intOf i).toNat)
  case atStart => exact ⟨0, Nat.zero_le _, rfl, rfl⟩
  case round =>
    obtain ⟨k, hk, rfl, rfl⟩ := hrel
    have hle := cat_take_le ps k
    by_cases hlt : k < ps.length
    · obtain ⟨a, hx, rfl, hb, hc⟩ := Hh.out.atMap hlt
      have hs : (catAll (ps.take (k + 1))).length = (catAll (ps.take k)).length + ps[k].2.2.length := by rw [cat_succ ps k hlt, List.length_append]
      have hle2 := cat_take_le ps (k + 1)
      have hl2 : (catAll (ps.take k)).length + ps[k].2.2.length ≤ 70368744177664 := by omega
      have Hs := Lib.hid hs
      clear hs hle2
      unfold partV at hc
      go_wp2
      go_round
      case rel => exact ⟨k + 1, by omega, by go_num, by rw [Hs.out]; go_num⟩
      case measure => simp [intOf]; omega
    · obtain rfl : k = ps.length := by omega
      obtain ⟨cur, hcur, hmk⟩ := make_u8 (catAll ps).length (by omega) w
      have Hcur := Lib.hid hcur
      clear hcur
      rw [List.take_length] at *
      have hpo := Lib.hid hlt
      clear hlt hle
      go_wp2
      obtain ⟨W0, hW0⟩ : ∃ W0, W0 = w.alloc (.cells cur 5) := ⟨_, rfl⟩
      have hown0 : W0.ownsRow w.heap.size 5 1 (.slice (some ⟨w.heap.size, 0, none⟩) 0 (catAll ps).length) 0 (u8s []) := by
        rw [hW0]; exact World.ownsRow_made w cur _ (Nat.le_refl _) (by unfold maxLen; omega) (by rw [Hcur.out, Nat.mul_one])
      have hbel0 : Below w.heap.size w W0 := by rw [hW0]; exact (Below.refl _ _).alloc (Nat.le_refl _) _
      rw [← hW0]
      clear hW0 hmk
      go_loopw [6, 24] (fun v j W => ∃ k : Nat, k ≤ ps.length ∧ j = .int .i64 k ∧ W.ownsRow w.heap.size 5 1 v (catAll (ps.take k)).length (u8s (catAll (ps.take k))) ∧ Below w.heap.size w W) (fun _ i _ => ps.length - (intOf i).toNat)
      case atStart => exact ⟨0, Nat.zero_le _, rfl, hown0, hbel0⟩
      case round =>
        obtain ⟨k, hk, rfl, hown, hbel⟩ := hrel
        have Hown := Lib.hid hown
        have Hbel := Lib.hid hbel
        clear hown0 hbel0 hown hbel
        by_cases hlt : k < ps.length
        · obtain ⟨a, hx, rfl, hb, hc⟩ := ((Hh.out.wide hB).below Hbel.out).atMap hlt
          have hs : (catAll (ps.take (k + 1))) = (catAll (ps.take k)) ++ ps[k].2.2 := cat_succ ps k hlt
          have hle2 := cat_take_le ps (k + 1)
          have hl2 : (catAll (ps.take k)).length + ps[k].2.2.length ≤ 70368744177664 := by rw [hs, List.length_append] at hle2; omega
          have hr := ((Hp.out _ (List.getElem_mem hx)).wide hB).below Hbel.out
          have Hs := Lib.hid hs
          have Hr := Lib.hid hr
          clear hs hle2 hr
          unfold partV at hc
          obtain ⟨hi, hz0, hz1, hz2⟩ := Hi.out
          have hfin : ∀ v' w', w'.ownsRow w.heap.size 5 1 v' ((catAll (ps.take k)).length + ps[k].2.2.length) (u8s (catAll (ps.take k)) ++ u8s ps[k].2.2) → wr.grownBy w' u6.ownBlock → Below w.heap.size w w' ∧ w'.ownsRow w.heap.size 5 1 v' (catAll (ps.take (k + 1))).length (u8s (catAll (ps.take (k + 1)))) := by
            intro v' w' h1 h2
            refine ⟨Hbel.out.grown h2 Hbel.out.size (fun g hg => (Hown.out.lt g hg).1), ?_⟩
            rw [Hs.out, List.length_append, ← u8s_append]; exact h1
          go_wp2_with (at_builtin; refine wpList_app rfl (.tmp 28) (.tmp 29) 22 rfl w.heap.size 5 i0 (.int .u8 0) 1 Tryz.underlying22 hi hz0 hz1 hz2 rfl _ _ _ rfl Hown.out _ _ _ _ _ rfl Hr.out (u8s_one _) (by unfold maxLen; omega) (by omega) Hbel.out.size ?_; intro v' w' h1 h2 h3)
          obtain ⟨f1, f2⟩ := hfin v' w' h1 h2
          clear hfin hi hz0 hz1 hz2 h1 h2 h3
          go_roundw
          case rel => exact ⟨k + 1, by omega, by go_num, f2, f1⟩
          case measure => simp [intOf]; omega
        · obtain rfl : k = ps.length := by omega
          go_wp2
          go_ret
          have h1 := Hown.out
          rw [List.take_length] at h1
          exact ⟨_, rfl, h1, Hbel.out⟩
end Go.Proofs.YtfeiplaiekbdkaaGreatDoor
/- word.put and the four calls over it. -/
namespace Go.Proofs.YtfeiplaiekbdkaaGreatDoor
open Go.RowKit

/-- Byte i of a number of so many bytes. -/
def putByte (o : Int) (m : Nat) (n i : Nat) : UInt8 := UInt8.ofNat (n / 2 ^ (shAt o i m).toNat % 256)
def numBytes (o : Int) (m : Nat) (n : Nat) : List UInt8 := (List.range m).map (putByte o m n)
def putAll (o : Int) (m : Nat) (ns : List Nat) : List UInt8 := (ns.map (numBytes o m)).flatten
theorem putAll_succ (o : Int) (m : Nat) (ns : List Nat) (k : Nat) (h : k < ns.length) : putAll o m (ns.take (k + 1)) = putAll o m (ns.take k) ++ numBytes o m ns[k] := by
  unfold putAll
  rw [List.take_succ_eq_append_getElem h, List.map_append, List.flatten_append]; simp
theorem numBytes_length (o : Int) (m n : Nat) : (numBytes o m n).length = m := by simp [numBytes]
theorem putAll_length (o : Int) (m : Nat) (ns : List Nat) : (putAll o m ns).length = m * ns.length := by
  induction ns with
  | nil => simp [putAll]
  | cons n ns ih =>
    have : putAll o m (n :: ns) = numBytes o m n ++ putAll o m ns := by simp [putAll]
    rw [this, List.length_append, ih, numBytes_length, List.length_cons, Nat.mul_succ, Nat.add_comm]
def firstBytes (o : Int) (m n j : Nat) : List UInt8 := (List.range j).map (putByte o m n)
theorem firstBytes_succ (o : Int) (m n j : Nat) : firstBytes o m n (j + 1) = firstBytes o m n j ++ [putByte o m n j] := by
  unfold firstBytes
  rw [List.range_succ, List.map_append]; rfl
theorem firstBytes_length (o : Int) (m n j : Nat) : (firstBytes o m n j).length = j := by simp [firstBytes]
theorem toNat_ofNat_mod (n : Nat) : ((UInt8.ofNat (n % 256)).toNat : Int) = ((n % 256 : Nat) : Int) := by
  rw [UInt8.toNat_ofNat']; omega
def u32s (xs : List Nat) : List Value := xs.map fun (x : Nat) => Value.int .u32 (x : Int)

theorem shr_byte32 (o : Int) (n i : Nat) (ho : o = 0 ∨ o = 1) (hi : i < 4) :
    IntKind.u8.wrap ((n : Int) / 2 ^ min (shAt o i 4).toNat 32) = ((putByte o 4 n i).toNat : Int) := by
  have hs : (shAt o i 4).toNat ≤ 32 := by rcases ho with rfl | rfl <;> simp only [shAt_low, shAt_high] <;> omega
  rw [Nat.min_eq_left hs, putByte, toNat_ofNat_mod, IntKind.wrap_u8]
  simp
set_option maxHeartbeats 400000 in
set_option maxRecDepth 100000 in
theorem put32_any (b : List UInt8) (ns : List Nat) (hns : ∀ n ∈ ns, n < 4294967296) (A D : Option Addr) (c d B : Nat) (o : Int) (ho : o = 0 ∨ o = 1) (w : World) (hB : B ≤ w.heap.size)
    (hb : Lies w B 1 A b.length (u8s b)) (hl : Lies w B 1 D ns.length (u32s ns)) (htot : b.length + 4 * ns.length ≤ 70368744177664) :
    Calls Tryz.prog 57 #[.slice A b.length c, .slice D ns.length d, .int .i64 o] w (Bytes w (b ++ putAll o 4 ns)) := by
  obtain ⟨i0, hi, hz0, hz1, hz2⟩ := info_parts u8_info
  have Hi := Lib.hid (And.intro hi (And.intro hz0 (And.intro hz1 hz2)))
  have HO := Lib.hid ho
  have Hb := Lib.hid hb
  have Hl := Lib.hid hl
  have Hns := Lib.hid hns
  clear hi hz0 hz1 hz2 hb hl ho hns
  obtain ⟨cur, hcur, hmk⟩ := make_u8 (4 * ns.length) (by omega) w
  have Hcur := Lib.hid hcur
  clear hcur
  have hmul : ((4 * ns.length : Nat) : Int) = 4 * (ns.length : Int) := by omega
  rw [hmul] at hmk
  clear hmul
  go_enter Tryz.func57, Tryz.ntmps57
  go_wp2_with (go_at_call 80; refine (size32_any _).mono ?_; rintro e w' ⟨rfl, rfl⟩)
  obtain ⟨W0, hW0⟩ : ∃ W0, W0 = w.alloc (.cells cur 5) := ⟨_, rfl⟩
  have hown0 : W0.ownsRow w.heap.size 5 1 (.slice (some ⟨w.heap.size, 0, none⟩) 0 (4 * ns.length)) 0 (u8s []) := by
    rw [hW0]; exact World.ownsRow_made w cur _ (Nat.le_refl _) (by unfold maxLen; omega) (by rw [Hcur.out, Nat.mul_one])
  have hbel0 : Below w.heap.size w W0 := by rw [hW0]; exact (Below.refl _ _).alloc (Nat.le_refl _) _
  rw [← hW0]
  clear hW0 hmk
  go_loopw [8, 20] (fun v j W => ∃ k : Nat, k ≤ ns.length ∧ j = .int .i64 k ∧ W.ownsRow w.heap.size 5 1 v (4 * k) (u8s (putAll o 4 (ns.take k))) ∧ Below w.heap.size w W) (fun _ i _ => ns.length - (intOf i).toNat)
  case atStart => exact ⟨0, Nat.zero_le _, rfl, hown0, hbel0⟩
  case round =>
    obtain ⟨k, hk, rfl, hown, hbel⟩ := hrel
    have Hown := Lib.hid hown
    have Hbel := Lib.hid hbel
    clear hown0 hbel0 hown hbel
    by_cases hlt : k < ns.length
    · obtain ⟨a, hx, rfl, hab, hc⟩ := ((Hl.out.wide hB).below Hbel.out).atMap hlt
      have hnb := Hns.out _ (List.getElem_mem hx)
      go_wp2
      obtain ⟨wo, rfl⟩ : ∃ wo : World, wo = wr := ⟨_, rfl⟩
      go_loopw [8, 25] (fun v j W => ∃ i : Nat, i ≤ 4 ∧ j = .int .i64 i ∧ W.ownsRow w.heap.size 5 1 v (4 * k + i) (u8s (putAll o 4 (ns.take k) ++ firstBytes o 4 ns[k] i)) ∧ Below w.heap.size w W) (fun _ i _ => 4 - (intOf i).toNat)
      case atStart => exact ⟨0, Nat.zero_le _, rfl, by simpa [firstBytes] using Hown.out, Hbel.out⟩
      case round =>
        obtain ⟨i, hi, rfl, hown, hbel⟩ := hrel
        have Hown2 := Lib.hid hown
        have Hbel2 := Lib.hid hbel
        clear hown hbel Hown Hbel hc
        by_cases hlt2 : i < 4
        · have hsh := shr_byte32 o ns[k] i HO.out hlt2
          have s5 : 0 ≤ shAt o i 4 := by rcases HO.out with rfl | rfl <;> simp only [shAt_low, shAt_high] <;> omega
          obtain ⟨hi0, hz0, hz1, hz2⟩ := Hi.out
          have hfin : ∀ (W1 : World) v' w', W1.heap.size = wr.heap.size + 1 → Below w.heap.size w W1 → w'.ownsRow w.heap.size 5 1 v' (4 * k + i + 1) (u8s (putAll o 4 (ns.take k) ++ firstBytes o 4 ns[k] i) ++ u8s [putByte o 4 ns[k] i]) → W1.grownBy w' u8.ownBlock → Below w.heap.size w w' ∧ w'.ownsRow w.heap.size 5 1 v' (4 * k + (i + 1)) (u8s (putAll o 4 (ns.take k) ++ firstBytes o 4 ns[k] (i + 1))) := by
            intro W1 v' w' hsz h0 h1 h2
            refine ⟨h0.grown h2 (by have := Hbel2.out.size; omega) (fun g hg => (Hown2.out.lt g hg).1), ?_⟩
            rw [firstBytes_succ, ← List.append_assoc, ← u8s_append]; exact h1
          have Hsz := Lib.hid Hbel2.out.size
          go_wp2_with (first
            | (go_at_call 81; refine (shift_any _ _ _ HO.out (by omega) (by omega) (by omega) _).mono ?_; rintro e w' ⟨rfl, rfl⟩)
            | (at_builtin; refine wpList_app rfl (.tmp 28) (.tmp 36) 22 rfl w.heap.size 5 i0 (.int .u8 0) 1 Tryz.underlying22 hi0 hz0 hz1 hz2 rfl _ _ _ rfl (Hown2.out.alloc _) _ _ _ _ (u8s [putByte o 4 ns[k] i]) rfl (lies_new _ _ _ _ _ rfl rfl) (u8s_one _) (by unfold maxLen; omega) (by omega) (by have := Hsz.out; simp; omega) ?_; intro v' w' h1 h2 h3))
          obtain ⟨f1, f2⟩ := hfin _ v' w' (by simp) (Hbel2.out.alloc Hsz.out _) h1 h2
          clear hfin hi0 hz0 hz1 hz2 h1 h2 h3 hsh s5
          go_roundw
          case rel => exact ⟨i + 1, by omega, by go_num, f2, f1⟩
          case measure => simp [intOf]; omega
        · obtain rfl : i = 4 := by omega
          have hown3 : wr.ownsRow w.heap.size 5 1 u8 (4 * (k + 1)) (u8s (putAll o 4 (ns.take (k + 1)))) := by rw [putAll_succ _ _ _ _ hx]; exact Hown2.out
          have Hown3 := Lib.hid hown3
          clear hown3
          go_wp2
          go_roundw
          case rel => exact ⟨k + 1, by omega, by go_num, Hown3.out, Hbel2.out⟩
          case measure => simp [intOf]; omega
    · obtain rfl : k = ns.length := by omega
      have h1 := Hown.out
      rw [List.take_length] at h1
      obtain ⟨E, c2, rfl, hl2⟩ := owns_form h1
      have Hown2 := Lib.hid h1
      have Hl2 := Lib.hid hl2
      clear h1 hl2
      have hlen : (putAll o 4 ns).length = 4 * ns.length := putAll_length _ _ _
      have L : ∀ W1, wr.heap.size ≤ W1.heap.size → Below wr.heap.size wr W1 → ∀ P, Lies W1 (W1.heap.size) 1 P 2 ([(A, c, b), (E, c2, putAll o 4 ns)].map partV) → ∀ c3, Calls Tryz.prog 31 #[.slice P 2 c3] W1 (Bytes W1 (b ++ putAll o 4 ns)) := by
        intro W1 hs1 hb1 P hP c3
        have hc := cat_any [(A, c, b), (E, c2, putAll o 4 ns)] P c3 W1.heap.size W1 (Nat.le_refl _) hP (by
          intro p hp
          simp only [List.mem_cons, List.not_mem_nil, or_false] at hp
          rcases hp with rfl | rfl
          · exact (((Hb.out.wide hB).below Hbel.out).wide Hbel.out.size).below hb1 |>.wide hs1
          · rw [← hlen] at Hl2; exact (Hl2.out.below hb1).wide hs1) (by simp [catAll, hlen]; omega) (by simp [maxLen])
        simpa [catAll] using hc
      have P0 : ∀ W1 : World, Lies (W1.alloc (.cells #[.slice A b.length c, .slice E (4 * ns.length) c2] 22)) (W1.alloc (.cells #[.slice A b.length c, .slice E (4 * ns.length) c2] 22)).heap.size 1 (some ⟨W1.heap.size, 0, none⟩) 2 ([(A, c, b), (E, c2, putAll o 4 ns)].map partV) := by
        intro W1
        have := lies_new W1 #[.slice A b.length c, .slice E (4 * ns.length) c2] 22 2 _ rfl rfl
        simpa [partV, hlen] using this
      have HL := Lib.hid L
      have HP := Lib.hid P0
      clear L P0 hlen
      go_wp2_with (go_at_call 31; refine (HL.out _ (by simp) ((Below.refl _ _).alloc (Nat.le_refl _) _) _ (HP.out _) _).mono ?_; rintro e w' ⟨v, rfl, hv1, hv2⟩)
      go_ret
      have hsz := Hbel.out.size
      exact ⟨_, rfl, owns_mono hv1 (by simp; omega), (Hbel.out.alloc hsz _).trans (hv2.mono (by simp; omega))⟩

theorem putBe32_any (b : List UInt8) (ns : List Nat) (hns : ∀ n ∈ ns, n < 4294967296) (A D : Option Addr) (c d B : Nat) (w : World) (hB : B ≤ w.heap.size)
    (hb : Lies w B 1 A b.length (u8s b)) (hl : Lies w B 1 D ns.length (u32s ns)) (htot : b.length + 4 * ns.length ≤ 70368744177664) :
    Calls Tryz.prog 32 #[.slice A b.length c, .slice D ns.length d] w (Bytes w (b ++ putAll 0 4 ns)) := by
  have L := Lib.hid (put32_any b ns hns A D c d B 0 (by simp) w hB hb hl htot)
  clear hb hl hns htot
  go_enter Tryz.func32, Tryz.ntmps32
  go_wp2_with (go_at_call 57; refine L.out.mono ?_; rintro e w' ⟨v, rfl, hv1, hv2⟩)
  go_ret
  exact ⟨_, rfl, hv1, hv2⟩
end Go.Proofs.YtfeiplaiekbdkaaGreatDoor
/- portreeveref01.Put. -/
namespace Go.Proofs.YtfeiplaiekbdkaaGreatDoor
open Go.RowKit

def lowO (low : Bool) : Int := if low then 1 else 0
theorem firstBytes_all (o : Int) (m n : Nat) : firstBytes o m n m = numBytes o m n := rfl
theorem byte_low (n size i : Nat) : (n : Int) / 2 ^ (8 * i) % 256 = ((putByte (lowO true) size n i).toNat : Int) := by
  have e : (shAt (lowO true) (i : Int) (size : Int)).toNat = 8 * i := by show (8 * (i : Int)).toNat = _; omega
  rw [putByte, toNat_ofNat_mod, e]; simp
theorem byte_high (n size i : Nat) (hi : i < size) : (n : Int) / 2 ^ (8 * (size - 1 - i)) % 256 = ((putByte (lowO false) size n i).toNat : Int) := by
  have e : (shAt (lowO false) (i : Int) (size : Int)).toNat = 8 * (size - 1 - i) := by show (8 * ((size : Int) - 1 - i)).toNat = _; omega
  rw [putByte, toNat_ofNat_mod, e]; simp
set_option maxHeartbeats 400000 in
set_option maxRecDepth 100000 in
theorem rput_any (b : List UInt8) (n size : Nat) (hs : size ≤ 8) (A : Option Addr) (c B : Nat) (low : Bool) (w : World) (hB : B ≤ w.heap.size)
    (hb : Lies w B 1 A b.length (u8s b)) (htot : b.length ≤ 70368744177656) :
    Calls Tryz.prog 48 #[.slice A b.length c, .int .u64 (n : Int), .int .i64 (size : Int), .bool low] w (Bytes w (b ++ numBytes (lowO low) size n)) := by
  obtain ⟨i0, hi, hz0, hz1, hz2⟩ := info_parts u8_info
  have Hi := Lib.hid (And.intro hi (And.intro hz0 (And.intro hz1 hz2)))
  have Hb := Lib.hid (hb.wide hB)
  clear hb

  go_enter Tryz.func48, Tryz.ntmps48
  go_wp2_with (at_builtin; (refine wpList_app rfl (.const (.slice none 0 0)) (.tmp 12) 22 rfl w.heap.size 5 i0 (.int .u8 0) 1 Tryz.underlying22 hi hz0 hz1 hz2 rfl (.slice none 0 0) 0 [] rfl (World.ownsRow_nil _ _ _ _) _ _ _ _ _ rfl Hb.out (u8s_one _) (by unfold maxLen; omega) (by omega) (Nat.le_refl _) ?_); intro v1 w1 h1 h2 h3)
  have hown0 : w1.ownsRow w.heap.size 5 1 v1 (b.length + 0) (u8s (b ++ firstBytes (lowO low) size n 0)) := by
    simpa [firstBytes] using h1
  have hbel0 : Below w.heap.size w w1 := (Below.refl _ _).grown h2 (Nat.le_refl _) (by simp [Value.ownBlock])
  clear h1 h2 h3 hi hz0 hz1 hz2
  go_loopw [9, 10] (fun v j W => ∃ i : Nat, i ≤ size ∧ j = .int .i64 i ∧ W.ownsRow w.heap.size 5 1 v (b.length + i) (u8s (b ++ firstBytes (lowO low) size n i)) ∧ Below w.heap.size w W) (fun _ i _ => size - (intOf i).toNat)
  case atStart => exact ⟨0, Nat.zero_le _, rfl, hown0, hbel0⟩
  case round =>
    obtain ⟨i, hi, rfl, hown, hbel⟩ := hrel
    have Hown2 := Lib.hid hown
    have Hbel2 := Lib.hid hbel
    clear hown hbel hown0 hbel0
    by_cases hlt2 : i < size
    · have hfin : ∀ (W1 : World) v' w', W1.heap.size = wr.heap.size + 1 → Below w.heap.size w W1 → w'.ownsRow w.heap.size 5 1 v' (b.length + i + 1) (u8s (b ++ firstBytes (lowO low) size n i) ++ u8s [putByte (lowO low) size n i]) → W1.grownBy w' u9.ownBlock → Below w.heap.size w w' ∧ w'.ownsRow w.heap.size 5 1 v' (b.length + (i + 1)) (u8s (b ++ firstBytes (lowO low) size n (i + 1))) := by
        intro W1 v' w' hsz h0 h1 h2
        refine ⟨h0.grown h2 (by have := Hbel2.out.size; omega) (fun g hg => (Hown2.out.lt g hg).1), ?_⟩
        rw [firstBytes_succ, ← List.append_assoc, ← u8s_append]; exact h1
      have Hsz := Lib.hid Hbel2.out.size
      obtain ⟨hi0, hz0, hz1, hz2⟩ := Hi.out
      cases low
      · have hsh := byte_high n size i hlt2
        go_wp2_with (at_builtin; refine wpList_app rfl (.tmp 26) (.tmp 32) 22 rfl w.heap.size 5 i0 (.int .u8 0) 1 Tryz.underlying22 hi0 hz0 hz1 hz2 rfl _ _ _ rfl (Hown2.out.alloc _) _ _ _ _ (u8s [putByte (lowO false) size n i]) rfl (lies_new _ _ _ _ _ rfl rfl) (u8s_one _) (by unfold maxLen; omega) (by omega) (by have := Hsz.out; simp; omega) ?_; intro v' w' h1 h2 h3)
        obtain ⟨f1, f2⟩ := hfin _ v' w' (by simp) (Hbel2.out.alloc Hsz.out _) h1 h2
        clear hfin hi0 hz0 hz1 hz2 h1 h2 h3 hsh
        go_roundw
        case rel => exact ⟨i + 1, by omega, by go_num, f2, f1⟩
        case measure => simp [intOf]; omega
      · have hsh := byte_low n size i
        go_wp2_with (at_builtin; refine wpList_app rfl (.tmp 26) (.tmp 32) 22 rfl w.heap.size 5 i0 (.int .u8 0) 1 Tryz.underlying22 hi0 hz0 hz1 hz2 rfl _ _ _ rfl (Hown2.out.alloc _) _ _ _ _ (u8s [putByte (lowO true) size n i]) rfl (lies_new _ _ _ _ _ rfl rfl) (u8s_one _) (by unfold maxLen; omega) (by omega) (by have := Hsz.out; simp; omega) ?_; intro v' w' h1 h2 h3)
        obtain ⟨f1, f2⟩ := hfin _ v' w' (by simp) (Hbel2.out.alloc Hsz.out _) h1 h2
        clear hfin hi0 hz0 hz1 hz2 h1 h2 h3 hsh
        go_roundw
        case rel => exact ⟨i + 1, by omega, by go_num, f2, f1⟩
        case measure => simp [intOf]; omega
    · obtain rfl : i = size := by omega
      go_wp2
      go_ret
      have h1 := Hown2.out
      rw [firstBytes_all] at h1
      exact ⟨_, rfl, by simpa [numBytes_length] using h1, Hbel2.out⟩
end Go.Proofs.YtfeiplaiekbdkaaGreatDoor
/- word.put at 8 bytes. -/
namespace Go.Proofs.YtfeiplaiekbdkaaGreatDoor
open Go.RowKit

theorem len64_top (w : World) : Calls Tryz.prog 100 #[.int .u64 18446744073709551615] w fun e w' => e = .returned (.int .i64 64) ∧ w = w' :=
  (len64_any _ w (by decide) (by decide)).mono fun e w' ⟨h1, h2⟩ => ⟨h1.trans (congrArg (fun n : Nat => Ending.returned (.int .i64 (n : Int))) (show Lib.bitLen _ = 64 by decide +kernel)), h2.symm⟩
theorem size64_any (w : World) : Calls Tryz.prog 130 #[] w fun e w' => e = .returned (.int .i64 8) ∧ w = w' := by
  go_enter Tryz.func130, Tryz.ntmps130
  go_wp2_with (go_at_call 100; refine (len64_top _).mono ?_; rintro e w' ⟨rfl, rfl⟩)
  go_ret
  exact ⟨rfl, rfl⟩
theorem or_u64 (o : Int) (b : Nat → UInt8) (k : Nat) (x : Int) (hx : x = ((b k).toNat : Int)) :
    bits .or .u64 ((accN o 8 18446744073709551616 b k : Nat) : Int) (IntKind.u64.wrap (x * 2 ^ min (shAt o k 8).toNat 64)) = ((accN o 8 18446744073709551616 b (k + 1) : Nat) : Int) := by
  subst hx
  have h := accN_lt o 8 64 b k
  have e : ((b k).toNat : Int) * 2 ^ min (shAt o k 8).toNat 64 % 18446744073709551616 = (((b k).toNat * 2 ^ min (shAt o k 8).toNat 64 % 18446744073709551616 : Nat) : Int) := by simp
  rw [IntKind.wrap_u64, e, u64_or_nat _ _ h (Nat.mod_lt _ (by decide))]
  rfl
theorem shr_byte64 (o : Int) (n i : Nat) (ho : o = 0 ∨ o = 1) (hi : i < 8) :
    IntKind.u8.wrap ((n : Int) / 2 ^ min (shAt o i 8).toNat 64) = ((putByte o 8 n i).toNat : Int) := by
  have hs : (shAt o i 8).toNat ≤ 64 := by rcases ho with rfl | rfl <;> simp only [shAt_low, shAt_high] <;> omega
  rw [Nat.min_eq_left hs, putByte, toNat_ofNat_mod, IntKind.wrap_u8]
  simp
set_option maxHeartbeats 400000 in
set_option maxRecDepth 100000 in
theorem put64_any (b : List UInt8) (ns : List Nat) (hns : ∀ n ∈ ns, n < 18446744073709551616) (A D : Option Addr) (c d B : Nat) (o : Int) (ho : o = 0 ∨ o = 1) (w : World) (hB : B ≤ w.heap.size)
    (hb : Lies w B 1 A b.length (u8s b)) (hl : Lies w B 1 D ns.length (u64s ns)) (htot : b.length + 8 * ns.length ≤ 70368744177664) :
    Calls Tryz.prog 126 #[.slice A b.length c, .slice D ns.length d, .int .i64 o] w (Bytes w (b ++ putAll o 8 ns)) := by
  obtain ⟨i0, hi, hz0, hz1, hz2⟩ := info_parts u8_info
  have Hi := Lib.hid (And.intro hi (And.intro hz0 (And.intro hz1 hz2)))
  have HO := Lib.hid ho
  have Hb := Lib.hid hb
  have Hl := Lib.hid hl
  have Hns := Lib.hid hns
  clear hi hz0 hz1 hz2 hb hl ho hns
  obtain ⟨cur, hcur, hmk⟩ := make_u8 (8 * ns.length) (by omega) w
  have Hcur := Lib.hid hcur
  clear hcur
  have hmul : ((8 * ns.length : Nat) : Int) = 8 * (ns.length : Int) := by omega
  rw [hmul] at hmk
  clear hmul
  go_enter Tryz.func126, Tryz.ntmps126
  go_wp2_with (go_at_call 130; refine (size64_any _).mono ?_; rintro e w' ⟨rfl, rfl⟩)
  obtain ⟨W0, hW0⟩ : ∃ W0, W0 = w.alloc (.cells cur 5) := ⟨_, rfl⟩
  have hown0 : W0.ownsRow w.heap.size 5 1 (.slice (some ⟨w.heap.size, 0, none⟩) 0 (8 * ns.length)) 0 (u8s []) := by
    rw [hW0]; exact World.ownsRow_made w cur _ (Nat.le_refl _) (by unfold maxLen; omega) (by rw [Hcur.out, Nat.mul_one])
  have hbel0 : Below w.heap.size w W0 := by rw [hW0]; exact (Below.refl _ _).alloc (Nat.le_refl _) _
  rw [← hW0]
  clear hW0 hmk
  go_loopw [8, 20] (fun v j W => ∃ k : Nat, k ≤ ns.length ∧ j = .int .i64 k ∧ W.ownsRow w.heap.size 5 1 v (8 * k) (u8s (putAll o 8 (ns.take k))) ∧ Below w.heap.size w W) (fun _ i _ => ns.length - (intOf i).toNat)
  case atStart => exact ⟨0, Nat.zero_le _, rfl, hown0, hbel0⟩
  case round =>
    obtain ⟨k, hk, rfl, hown, hbel⟩ := hrel
    have Hown := Lib.hid hown
    have Hbel := Lib.hid hbel
    clear hown0 hbel0 hown hbel
    by_cases hlt : k < ns.length
    · obtain ⟨a, hx, rfl, hab, hc⟩ := ((Hl.out.wide hB).below Hbel.out).atMap hlt
      have hnb := Hns.out _ (List.getElem_mem hx)
      go_wp2
      obtain ⟨wo, rfl⟩ : ∃ wo : World, wo = wr := ⟨_, rfl⟩
      go_loopw [8, 25] (fun v j W => ∃ i : Nat, i ≤ 8 ∧ j = .int .i64 i ∧ W.ownsRow w.heap.size 5 1 v (8 * k + i) (u8s (putAll o 8 (ns.take k) ++ firstBytes o 8 ns[k] i)) ∧ Below w.heap.size w W) (fun _ i _ => 8 - (intOf i).toNat)
      case atStart => exact ⟨0, Nat.zero_le _, rfl, by simpa [firstBytes] using Hown.out, Hbel.out⟩
      case round =>
        obtain ⟨i, hi, rfl, hown, hbel⟩ := hrel
        have Hown2 := Lib.hid hown
        have Hbel2 := Lib.hid hbel
        clear hown hbel Hown Hbel hc
        by_cases hlt2 : i < 8
        · have hsh := shr_byte64 o ns[k] i HO.out hlt2
          have s5 : 0 ≤ shAt o i 8 := by rcases HO.out with rfl | rfl <;> simp only [shAt_low, shAt_high] <;> omega
          obtain ⟨hi0, hz0, hz1, hz2⟩ := Hi.out
          have hfin : ∀ (W1 : World) v' w', W1.heap.size = wr.heap.size + 1 → Below w.heap.size w W1 → w'.ownsRow w.heap.size 5 1 v' (8 * k + i + 1) (u8s (putAll o 8 (ns.take k) ++ firstBytes o 8 ns[k] i) ++ u8s [putByte o 8 ns[k] i]) → W1.grownBy w' u8.ownBlock → Below w.heap.size w w' ∧ w'.ownsRow w.heap.size 5 1 v' (8 * k + (i + 1)) (u8s (putAll o 8 (ns.take k) ++ firstBytes o 8 ns[k] (i + 1))) := by
            intro W1 v' w' hsz h0 h1 h2
            refine ⟨h0.grown h2 (by have := Hbel2.out.size; omega) (fun g hg => (Hown2.out.lt g hg).1), ?_⟩
            rw [firstBytes_succ, ← List.append_assoc, ← u8s_append]; exact h1
          have Hsz := Lib.hid Hbel2.out.size
          go_wp2_with (first
            | (go_at_call 81; refine (shift_any _ _ _ HO.out (by omega) (by omega) (by omega) _).mono ?_; rintro e w' ⟨rfl, rfl⟩)
            | (at_builtin; refine wpList_app rfl (.tmp 28) (.tmp 36) 22 rfl w.heap.size 5 i0 (.int .u8 0) 1 Tryz.underlying22 hi0 hz0 hz1 hz2 rfl _ _ _ rfl (Hown2.out.alloc _) _ _ _ _ (u8s [putByte o 8 ns[k] i]) rfl (lies_new _ _ _ _ _ rfl rfl) (u8s_one _) (by unfold maxLen; omega) (by omega) (by have := Hsz.out; simp; omega) ?_; intro v' w' h1 h2 h3))
          obtain ⟨f1, f2⟩ := hfin _ v' w' (by simp) (Hbel2.out.alloc Hsz.out _) h1 h2
          clear hfin hi0 hz0 hz1 hz2 h1 h2 h3 hsh s5
          go_roundw
          case rel => exact ⟨i + 1, by omega, by go_num, f2, f1⟩
          case measure => simp [intOf]; omega
        · obtain rfl : i = 8 := by omega
          have hown3 : wr.ownsRow w.heap.size 5 1 u8 (8 * (k + 1)) (u8s (putAll o 8 (ns.take (k + 1)))) := by rw [putAll_succ _ _ _ _ hx]; exact Hown2.out
          have Hown3 := Lib.hid hown3
          clear hown3
          go_wp2
          go_roundw
          case rel => exact ⟨k + 1, by omega, by go_num, Hown3.out, Hbel2.out⟩
          case measure => simp [intOf]; omega
    · obtain rfl : k = ns.length := by omega
      have h1 := Hown.out
      rw [List.take_length] at h1
      obtain ⟨E, c2, rfl, hl2⟩ := owns_form h1
      have Hown2 := Lib.hid h1
      have Hl2 := Lib.hid hl2
      clear h1 hl2
      have hlen : (putAll o 8 ns).length = 8 * ns.length := putAll_length _ _ _
      have L : ∀ W1, wr.heap.size ≤ W1.heap.size → Below wr.heap.size wr W1 → ∀ P, Lies W1 (W1.heap.size) 1 P 2 ([(A, c, b), (E, c2, putAll o 8 ns)].map partV) → ∀ c3, Calls Tryz.prog 31 #[.slice P 2 c3] W1 (Bytes W1 (b ++ putAll o 8 ns)) := by
        intro W1 hs1 hb1 P hP c3
        have hc := cat_any [(A, c, b), (E, c2, putAll o 8 ns)] P c3 W1.heap.size W1 (Nat.le_refl _) hP (by
          intro p hp
          simp only [List.mem_cons, List.not_mem_nil, or_false] at hp
          rcases hp with rfl | rfl
          · exact (((Hb.out.wide hB).below Hbel.out).wide Hbel.out.size).below hb1 |>.wide hs1
          · rw [← hlen] at Hl2; exact (Hl2.out.below hb1).wide hs1) (by simp [catAll, hlen]; omega) (by simp [maxLen])
        simpa [catAll] using hc
      have P0 : ∀ W1 : World, Lies (W1.alloc (.cells #[.slice A b.length c, .slice E (8 * ns.length) c2] 22)) (W1.alloc (.cells #[.slice A b.length c, .slice E (8 * ns.length) c2] 22)).heap.size 1 (some ⟨W1.heap.size, 0, none⟩) 2 ([(A, c, b), (E, c2, putAll o 8 ns)].map partV) := by
        intro W1
        have := lies_new W1 #[.slice A b.length c, .slice E (8 * ns.length) c2] 22 2 _ rfl rfl
        simpa [partV, hlen] using this
      have HL := Lib.hid L
      have HP := Lib.hid P0
      clear L P0 hlen
      go_wp2_with (go_at_call 31; refine (HL.out _ (by simp) ((Below.refl _ _).alloc (Nat.le_refl _) _) _ (HP.out _) _).mono ?_; rintro e w' ⟨v, rfl, hv1, hv2⟩)
      go_ret
      have hsz := Hbel.out.size
      exact ⟨_, rfl, owns_mono hv1 (by simp; omega), (Hbel.out.alloc hsz _).trans (hv2.mono (by simp; omega))⟩
theorem putBe64_any (b : List UInt8) (ns : List Nat) (hns : ∀ n ∈ ns, n < 18446744073709551616) (A D : Option Addr) (c d B : Nat) (w : World) (hB : B ≤ w.heap.size)
    (hb : Lies w B 1 A b.length (u8s b)) (hl : Lies w B 1 D ns.length (u64s ns)) (htot : b.length + 8 * ns.length ≤ 70368744177664) :
    Calls Tryz.prog 115 #[.slice A b.length c, .slice D ns.length d] w (Bytes w (b ++ putAll 0 8 ns)) := by
  have L := Lib.hid (put64_any b ns hns A D c d B 0 (by simp) w hB hb hl htot)
  clear hb hl hns htot
  go_enter Tryz.func115, Tryz.ntmps115
  go_wp2_with (go_at_call 126; refine L.out.mono ?_; rintro e w' ⟨v, rfl, hv1, hv2⟩)
  go_ret
  exact ⟨_, rfl, hv1, hv2⟩
end Go.Proofs.YtfeiplaiekbdkaaGreatDoor
/- sha.Pad, and the reference's. -/
namespace Go.Proofs.YtfeiplaiekbdkaaGreatDoor
open Go.RowKit

/-- so many bytes 0x80, 0, 0 .. -/
def mark (k : Nat) : List UInt8 := 128 :: List.replicate k 0
set_option maxRecDepth 100000 in
theorem mark_length (k : Nat) : (mark k).length = k + 1 := by simp [mark]
set_option maxRecDepth 100000 in
theorem mark_succ (k : Nat) : mark (k + 1) = mark k ++ [0] := by simp [mark, List.replicate_succ']
/-- how many bytes 0 -/
def zeros (n : Nat) : Nat := 63 - (n % 64 + 8) % 64
def padL (n : Nat) : List UInt8 := mark (zeros n) ++ numBytes 0 8 (8 * n % 18446744073709551616)
set_option maxRecDepth 100000 in
theorem padL_length (n : Nat) : (padL n).length = zeros n + 9 := by simp [padL, mark_length, numBytes_length]
set_option maxRecDepth 100000 in
theorem padL_whole (n : Nat) : (n + (padL n).length) % 64 = 0 := by rw [padL_length]; unfold zeros; omega

def bz : Nat → Value := fun _ => .int .u8 0
set_option maxRecDepth 100000 in
theorem make_u8z (n : Nat) (hn : n ≤ 140737488355328) (w : World) :
    (Instr.makeSlice 22 (.int .u64 (n : Int)) (.int .u64 (n : Int))).run Tryz.prog w = .ok (.slice (some ⟨w.heap.size, 0, none⟩) n n) (w.alloc (.cells (vec n bz) 5)) := by
  obtain ⟨i0, hi, hz0, hz1, hz2⟩ := info_parts u8_info
  have h := run_make (P := Tryz.prog) (w := w) 22 5 i0 (.int .u8 0) Tryz.underlying22 hi hz0 .u64 .u64 (n : Int) (n : Int) (by omega) (by omega) (by rw [hz2]; omega) (by omega)
  simp only [Int.toNat_natCast, hz1, Nat.mul_one] at h
  rw [h]
  congr 3
  apply Array.ext_getElem?
  intro i
  by_cases hi : i < n
  · rw [vec_at n bz i hi]
    simp [madeCells, hi, bz, Value.cells, Nat.mod_one]
  · simp [madeCells, vec, hi]
set_option maxRecDepth 100000 in
theorem upd_mark (k : Nat) : ((List.range (k + 1)).map fun i => upd bz 0 (.int .u8 128) (0 + i)) = u8s (mark k) := by
  apply List.ext_getElem?
  intro i
  by_cases hi : i < k + 1
  · rcases i with _ | i
    · simp [upd, mark, u8s]
    · simp [upd, mark, u8s, bz, hi]
  · rw [List.getElem?_eq_none (by simp; omega), List.getElem?_eq_none (by simp [u8s, mark]; omega)]

set_option maxHeartbeats 400000 in
set_option maxRecDepth 100000 in
theorem pad_any (n : Nat) (hn : n < 18446744073709551616) (w : World) :
    Calls Tryz.prog 103 #[.int .u64 (n : Int)] w (Bytes w (padL n)) := by
  obtain ⟨r, hr⟩ : ∃ r, r = n % 64 := ⟨_, rfl⟩
  obtain ⟨s, hs⟩ : ∃ s, s = (r + 8) % 64 := ⟨_, rfl⟩
  obtain ⟨k, hk⟩ : ∃ k, k = zeros n := ⟨_, rfl⟩
  have hks : k + 1 = 64 - s := by rw [hk]; unfold zeros; omega
  have e1 : (n : Int).tmod 64 = (r : Int) := by rw [Int.tmod_eq_emod_of_nonneg (by omega)]; omega
  have e2 : ((r : Int) + 8).tmod 64 = (s : Int) := by rw [Int.tmod_eq_emod_of_nonneg (by omega)]; omega
  obtain ⟨j, hj⟩ : ∃ j, j = k + 1 := ⟨_, rfl⟩
  obtain ⟨q, hq⟩ : ∃ q, q = 8 * n % 18446744073709551616 := ⟨_, rfl⟩
  have hq64 : q < 18446744073709551616 := by omega
  have e3 : (64 : Int) - (s : Int) = (j : Int) := by omega
  have hj0 : (0 : Int) < (j : Int) := by omega
  have w2 : IntKind.u64.wrap ((r : Int) + 8) = (r : Int) + 8 := by rw [IntKind.wrap_u64]; omega
  have hmk := make_u8z j (by omega) w
  have hA : Arr (w.alloc (.cells (vec j bz) 5)) w.heap.size 5 j bz := Arr.new w _ _ _
  have hc := hA.cell (i := 0) (by omega)
  have hf := hA.frozen 0
  obtain ⟨W0, hW0⟩ : ∃ W0, W0 = w.alloc (.cells (vec j bz) 5) := ⟨_, rfl⟩
  rw [← hW0] at hmk hA hc hf
  have hB : Below w.heap.size w W0 := by rw [hW0]; exact (Below.refl _ _).alloc (Nat.le_refl _) _
  obtain ⟨W1, hW1⟩ : ∃ W1, W1 = W0.setCell ⟨w.heap.size, 0, none⟩ (.int .u8 128) := ⟨_, rfl⟩
  have hA1 : Arr W1 w.heap.size 5 j (upd bz 0 (.int .u8 128)) := by rw [hW1]; exact hA.set 0 _
  have hB1 : Below w.heap.size w W1 := by rw [hW1]; exact hB.setCell (show w.heap.size ≤ w.heap.size by omega) _
  have e8 : IntKind.u64.wrap (8 * (n : Int)) = (q : Int) := by rw [IntKind.wrap_u64]; omega
  have hC : ∀ cs : Array Value, cs = #[.int .u64 (q : Int)] → Calls Tryz.prog 115 #[.slice (some ⟨w.heap.size, 0, none⟩) j j, .slice (some ⟨W1.heap.size, 0, none⟩) 1 1] (W1.alloc (.cells cs 80)) (Bytes (W1.alloc (.cells cs 80)) (mark k ++ putAll 0 8 [q])) := by
    intro cs hcs
    subst hcs
    have hli := hA1.lies hA1.lt 0 j (by omega)
    rw [hj, upd_mark, ← hj] at hli
    have hlm : (mark k).length = j := by rw [hj]; exact mark_length k
    have := putBe64_any (mark k) [q] (by intro m hm; simp at hm; subst hm; omega) (some ⟨w.heap.size, 0, none⟩) (some ⟨W1.heap.size, 0, none⟩) j 1 (W1.alloc (.cells #[.int .u64 (q : Int)] 80)).heap.size (W1.alloc (.cells #[.int .u64 (q : Int)] 80)) (Nat.le_refl _)
      (by rw [hlm]; exact (hli.alloc (Nat.le_refl _) _).wide (by simp)) (lies_one W1 _ _) (by rw [hlm]; simp; omega)
    rw [hlm] at this
    exact this
  have HC := Lib.hid hC
  have HF := Lib.hid (And.intro hB1 (And.intro hk hq))
  have HW1 := Lib.hid hW1
  clear hr hs hk hj hq hq64 hks hA hB hA1 hB1 hC hW0 hW1
  go_enter Tryz.func103, Tryz.ntmps103
  go_upto_region 3 with fail
  rw [← HW1.out]
  clear hmk hc hf e1 e2 e3 w2 hj0
  go_wp2_with (go_at_call 115; refine (HC.out _ rfl).mono ?_; rintro e w' ⟨v, rfl, hv1, hv2⟩)
  go_ret
  obtain ⟨hB1, hk, hq⟩ := HF.out
  have e : mark k ++ putAll 0 8 [q] = padL n := by rw [hk, hq]; simp [padL, putAll]
  rw [e] at hv1
  exact ⟨_, rfl, owns_mono hv1 (below_up hB1 _), (hB1.alloc hB1.size _).trans (hv2.mono (below_up hB1 _))⟩

set_option maxHeartbeats 400000 in
set_option maxRecDepth 100000 in
theorem rpad_any (n : Nat) (hn : n < 18446744073709551616) (w : World) :
    Calls Tryz.prog 96 #[.int .u64 (n : Int)] w (Bytes w (padL n)) := by
  obtain ⟨i0, hi, hz0, hz1, hz2⟩ := info_parts u8_info
  have Hi := Lib.hid (And.intro hi (And.intro hz0 (And.intro hz1 hz2)))
  obtain ⟨q, hq⟩ : ∃ q, q = 8 * n % 18446744073709551616 := ⟨_, rfl⟩
  have hq64 : q < 18446744073709551616 := by omega
  have e8 : IntKind.u64.wrap (8 * (n : Int)) = (q : Int) := by rw [IntKind.wrap_u64]; omega
  have HQ := Lib.hid (And.intro hq (And.intro hq64 e8))
  have HN := Lib.hid hn
  clear hi hz0 hz1 hz2 hq hq64 e8 hn
  have hown0 : (w.alloc (.cells #[.int .u8 128] 5)).ownsRow w.heap.size 5 1 (.slice (some ⟨w.heap.size, 0, none⟩) 1 1) 1 (u8s (mark 0)) :=
    ⟨rfl, Or.inr ⟨w.heap.size, 1, _, rfl, Nat.le_refl _, heap_alloc_new w _, Nat.le_refl _, by decide, rfl, rfl⟩⟩
  have HO := Lib.hid hown0
  clear hown0
  go_enter Tryz.func96, Tryz.ntmps96
  go_wp2
  go_loopw [3] (fun v W => ∃ j : Nat, j ≤ zeros n ∧ W.ownsRow w.heap.size 5 1 v (j + 1) (u8s (mark j)) ∧ Below w.heap.size w W) (fun v _ => 64 - (match v with | .slice _ m _ => m | _ => 0))
  case atStart => exact ⟨0, Nat.zero_le _, HO.out, (Below.refl _ _).alloc (Nat.le_refl _) _⟩
  case round =>
    obtain ⟨j, hj, hown, hbel⟩ := hrel
    obtain ⟨A, c, rfl, hli⟩ := owns_form hown
    have Hown := Lib.hid hown
    have Hbel := Lib.hid hbel
    clear hown hbel HO hli
    have hz : zeros n ≤ 63 := by unfold zeros; omega
    have hn := HN.out
    obtain ⟨x9, h9⟩ : ∃ x, x = (n + (j + 1)) % 18446744073709551616 := ⟨_, rfl⟩
    obtain ⟨x10, h10⟩ : ∃ x, x = (x9 + 8) % 18446744073709551616 := ⟨_, rfl⟩
    obtain ⟨x11, h11⟩ : ∃ x, x = x10 % 64 := ⟨_, rfl⟩
    have e7 : IntKind.u64.wrap ((j : Int) + 1) = (j : Int) + 1 := by rw [IntKind.wrap_u64]; omega
    have e9 : IntKind.u64.wrap ((n : Int) + ((j : Int) + 1)) = (x9 : Int) := by rw [IntKind.wrap_u64]; omega
    have e10 : IntKind.u64.wrap ((x9 : Int) + 8) = (x10 : Int) := by rw [IntKind.wrap_u64]; omega
    have e11 : (x10 : Int).tmod 64 = (x11 : Int) := by rw [Int.tmod_eq_emod_of_nonneg (by omega)]; omega
    have hx : x11 = (n + j + 9) % 64 := by omega
    by_cases hlt : j < zeros n
    · have ht : ((x11 : Int) != 0) = true := by
        have : x11 ≠ 0 := by rw [hx]; unfold zeros at hlt; omega
        simp; omega
      have hfin : ∀ (W1 : World) v' w', W1.heap.size = wr.heap.size + 1 → Below w.heap.size w W1 → w'.ownsRow w.heap.size 5 1 v' (j + 1 + 1) (u8s (mark j) ++ u8s [0]) → W1.grownBy w' (Value.slice A (j + 1) c).ownBlock → Below w.heap.size w w' ∧ w'.ownsRow w.heap.size 5 1 v' (j + 1 + 1) (u8s (mark (j + 1))) := by
        intro W1 v' w' hsz h0 h1 h2
        refine ⟨h0.grown h2 (by have := Hbel.out.size; omega) (fun g hg => (Hown.out.lt g hg).1), ?_⟩
        rw [mark_succ, ← u8s_append]; exact h1
      have Hsz := Lib.hid Hbel.out.size
      have HE := Lib.hid (And.intro hj (And.intro hz hlt))
      obtain ⟨hi0, hz0, hz1, hz2⟩ := Hi.out
      clear h9 h10 h11 hx hj hlt hn hz
      go_wp2_with (at_builtin; refine wpList_app rfl (.tmp 13) (.tmp 14) 22 rfl w.heap.size 5 i0 (.int .u8 0) 1 Tryz.underlying22 hi0 hz0 hz1 hz2 rfl _ _ _ rfl (Hown.out.alloc _) _ _ _ _ (u8s [0]) rfl (lies_new _ _ _ _ _ rfl rfl) (u8s_one _) (by have := HE.out; unfold maxLen; omega) (by have := HE.out; omega) (by have := Hsz.out; simp; omega) ?_; intro v' w' h1 h2 h3)
      obtain ⟨f1, f2⟩ := hfin _ v' w' (by simp) (Hbel.out.alloc Hsz.out _) h1 h2
      obtain ⟨A2, c2, rfl, _⟩ := owns_form f2
      clear hfin hi0 hz0 hz1 hz2 h1 h2 h3 e7 e9 e10 e11 ht
      go_roundw
      case rel => exact ⟨j + 1, by have := HE.out; omega, f2, f1⟩
      case measure => have := HE.out; show 64 - (j + 1 + 1) < 64 - (j + 1); omega
    · obtain rfl : j = zeros n := by omega
      have ht : ((x11 : Int) != 0) = false := by
        have : x11 = 0 := by rw [hx]; unfold zeros; omega
        simp; omega
      have hlm := mark_length (zeros n)
      have hl2 : Lies wr wr.heap.size 1 A (mark (zeros n)).length (u8s (mark (zeros n))) := by
        rw [hlm]
        obtain ⟨A3, c3, h3, h4⟩ := owns_form Hown.out
        injection h3 with h5
        rw [h5]; exact h4
      have hC := rput_any (mark (zeros n)) q 8 (by decide) A c wr.heap.size false wr (Nat.le_refl _) hl2 (by rw [hlm]; omega)
      rw [hlm] at hC
      have HC := Lib.hid hC
      have e8 := HQ.out.2.2
      clear h9 h10 h11 hx hj hlt hn hl2 hC hlm
      go_wp2_with (go_at_call 48; refine HC.out.mono ?_; rintro e w' ⟨v, rfl, hv1, hv2⟩)
      go_ret
      have e : mark (zeros n) ++ numBytes (lowO false) 8 q = padL n := by rw [HQ.out.1]; rfl
      rw [e] at hv1
      exact ⟨_, rfl, owns_mono hv1 Hbel.out.size, Hbel.out.trans (hv2.mono Hbel.out.size)⟩
end Go.Proofs.YtfeiplaiekbdkaaGreatDoor
/- sha.begin, (sha.state).end, sha.Sum. -/
namespace Go.Proofs.YtfeiplaiekbdkaaGreatDoor
open Go.RowKit

def nf : Nat → Value := fun _ => undef
def SZ : St := ⟨zw, zb, 0⟩
def S0 : St := ⟨H0, zb, 0⟩
set_option maxRecDepth 100000 in
theorem info53 : (Tryz.prog.info? 132).map (·.size) = some 73 := by kernel_rfl
set_option maxRecDepth 100000 in
theorem zeroV53 (w : World) : (zeroValue 132).run Tryz.prog w = .ok (.agg (vec 73 (stf SZ nf))) w :=
  (zero_of_info (P := Tryz.prog) (t := 132) (v := .agg (vec 73 (stf SZ nf))) (n := 73) (by kernel_rfl)).1 w
set_option maxRecDepth 100000 in
theorem st_one (s : St) : ∀ i, i < 73 → (stf s nf i).oneCell' = true := by
  intro i hi
  unfold stf
  by_cases h1 : i < 8
  · simp only [h1, if_true]; rfl
  · by_cases h2 : i < 72
    · simp only [h1, h2, if_true, if_false]; rfl
    · have : i = 72 := by omega
      subst this; rfl
attribute [local go_sem ↓ high] zeroV53 zeroV26 zeroV32 zeroV34
set_option maxRecDepth 100000 in
theorem tab_lt {w : World} (h : Tabs w) : 1 < w.heap.size ∧ 0 < w.heap.size :=
  ⟨World.block_lt_of_cell? w _ (h.1 0 (by decide)), World.block_lt_of_cell? w _ (h.2 0 (by decide))⟩
set_option maxRecDepth 100000 in
theorem begin_any (w : World) (hT : Tabs w) :
    Calls Tryz.prog 83 #[] w fun e w' => e = .returned (.agg (vec 73 (stf S0 nf))) ∧ Below w.heap.size w w' := by
  have hA : Arr (w.alloc (.cells (vec 73 (stf SZ nf)) 132)) w.heap.size 132 73 (stf SZ nf) := Arr.new w _ _ _
  have hb0 : Below w.heap.size w (w.alloc (.cells (vec 73 (stf SZ nf)) 132)) := (Below.refl _ _).alloc (Nat.le_refl _) _
  obtain ⟨W0, hW0⟩ : ∃ W0, W0 = w.alloc (.cells (vec 73 (stf SZ nf)) 132) := ⟨_, rfl⟩
  rw [← hW0] at hA hb0
  have HA := Lib.hid hA
  have HI := Lib.hid (init_any W0 (tabs_below hT hb0))
  have HB := Lib.hid hb0
  have HW := Lib.hid hW0
  clear hA hT hb0 hW0
  go_enter Tryz.func83, Tryz.ntmps83
  go_upto_region 1 with fail
  rw [← HW.out]
  clear HW
  go_wp2_with (first
    | (go_at_call 101; refine HI.out.mono ?_; rintro e w1 ⟨rfl, hd⟩; have HD := Lib.hid hd; clear hd)
    | (refine wl_build rfl 132 _ rfl (vec 73 (stf S0 nf)) (by kernel_rfl) ?_)
    | (refine wl_store rfl 132 _ _ rfl _ rfl _ rfl (run_store_arr (HA.out.under HD.out) (stf S0 nf) info53 (st_one _)) ?_))
  refine bodyPost_ret (results_cell1 rfl _ _ _ rfl (run_load_arr ((HA.out.under HD.out).row _) Tryz.underlying132 rfl info53)) rfl ⟨rfl, ?_⟩
  exact below_row (HB.out.trans (HD.out.mono HB.out.size)) (Nat.le_refl _) _

/-- The words' bytes. -/
def outB (h : Nat → W32) : Nat → UInt8 := fun i => UInt8.ofNat ((h (i / 4)).toNat / 2 ^ (24 - 8 * (i % 4)) % 256)
def wns (h : Nat → W32) : List Nat := (List.range 8).map fun j => (h j).toNat
set_option maxRecDepth 100000 in
theorem put_out (h : Nat → W32) : [] ++ putAll 0 4 (wns h) = (List.range 32).map (outB h) := by rfl
set_option maxRecDepth 100000 in
theorem wns_lt (h : Nat → W32) : ∀ n ∈ wns h, n < 4294967296 := by
  intro n hn
  obtain ⟨j, _, rfl⟩ := List.mem_map.1 hn
  exact (h j).isLt
def fin (s : St) : St := feed s (padL s.t)

set_option maxHeartbeats 1000000 in
set_option maxRecDepth 100000 in
theorem end_any (s : St) (hs : s.t < 549755813888) (w : World) (hT : Tabs w) :
    Calls Tryz.prog 85 #[.agg (vec 73 (stf s nf))] w fun e w' => e = .returned (.agg (vec 32 (bys (outB (fin s).h)))) ∧ Below w.heap.size w w' := by
  obtain ⟨W0, hW0⟩ : ∃ W0, W0 = (w.alloc (.cells (vec 73 (stf s nf)) 132)).alloc (.cells (vec 32 (bys zb)) 30) := ⟨_, rfl⟩
  have hA : Arr W0 w.heap.size 132 73 (stf s nf) := by rw [hW0]; exact (Arr.new w _ _ _).alloc _
  have hR : Arr W0 (w.heap.size + 1) 30 32 (bys zb) := by rw [hW0]; exact Arr.newAt (w.alloc (.cells (vec 73 (stf s nf)) 132)) 30 32 (bys zb) (by simp)
  have hB : Below w.heap.size w W0 := by rw [hW0]; exact ((Below.refl _ _).alloc (Nat.le_refl _) _).alloc (by simp) _
  have hsz : W0.heap.size = w.heap.size + 1 + 1 := by rw [hW0]; simp
  have hc := hA.cell (i := 72) (by decide)
  rw [stf_t] at hc
  have hlt := tab_lt hT
  have HA := Lib.hid (And.intro hA (And.intro hR (And.intro hB (And.intro hsz hlt))))
  have HT := Lib.hid (tabs_below hT hB)
  have HP := Lib.hid (pad_any s.t (by omega) W0)
  have HS := Lib.hid hs
  have HW := Lib.hid hW0
  clear hA hR hB hT hs hW0 hsz hlt
  go_enter Tryz.func85, Tryz.ntmps85
  go_upto_region 1 with fail
  rw [← HW.out]
  clear HW
  go_upto_region 2 with (first
    | (go_at_call 103; refine HP.out.mono ?_; rintro e w1 ⟨v, rfl, hv1, hv2⟩; obtain ⟨A, c, rfl, hcap, hbase, hli⟩ := owns_cap hv1
       have HV := Lib.hid (And.intro hcap (And.intro hbase (And.intro hli hv2)))
       clear hv1 hv2 hcap hbase hli hc)
    | (go_at_call 84
       refine (take_any s (padL s.t) A c w.heap.size 132 73 nf w1 (by decide) (by have := HS.out; rw [padL_length]; unfold zeros; omega) HV.out.1 (HA.out.1.under HV.out.2.2.2) HV.out.2.2.1
          (fun a ha _ => by have := HV.out.2.1 a ha; have := HA.out.2.2.2.1; omega) (tabs_below HT.out HV.out.2.2.2) (by have := HA.out.2.2.2.2; omega) (by have := HA.out.2.2.2.2; omega)).mono ?_
       rintro e w2 ⟨rfl, h1, h2⟩
       have H2 := Lib.hid (And.intro h1 h2)
       clear h1 h2))
  have hst : Arr w2 w.heap.size 132 73 (stf (fin s) nf) := H2.out.1
  have hR2 : Arr w2 (w.heap.size + 1) 30 32 (bys zb) := (HA.out.2.1.under HV.out.2.2.2).save H2.out.2 (by omega)
  have hB1 : Below w.heap.size w w1 := HA.out.2.2.1.trans (HV.out.2.2.2.mono HA.out.2.2.1.size)
  have hB2 : Below w.heap.size w w2 := hB1.trans (H2.out.2.below (Nat.le_refl _) hB1.size)
  have hli2 : Lies w2 w2.heap.size 1 (some ⟨w.heap.size, 0, none⟩) (wns (fin s).h).length (u32s (wns (fin s).h)) := by
    have := hst.lies hst.lt 0 8 (by decide)
    exact this
  have hC := putBe32_any [] (wns (fin s).h) (wns_lt _) none (some ⟨w.heap.size, 0, none⟩) 0 8 w2.heap.size w2 (Nat.le_refl _) (Lies.nil _ _ _ _) hli2 (by simp [wns])
  rw [put_out] at hC
  have HC := Lib.hid hC
  have HE := Lib.hid (And.intro hR2 hB2)
  clear hst hR2 hB1 hB2 hli2 hC HV H2 HA HP HT
  go_wp2_with (first
    | (go_at_call 32; refine HC.out.mono ?_; rintro e w3 ⟨v, rfl, hv1, hv2⟩; obtain ⟨g3, c3, rfl, hb3, hc3, hcell⟩ := owns_blk hv1 (by simp)
       have hat := arr_at g3 c3 (by simpa using hc3)
       have HV3 := Lib.hid (And.intro hcell hv2)
       clear hv1 hv2 hcell)
    | (refine wl_load_at rfl 30 _ rfl g3 0 rfl (.agg (vec 32 (bys (outB (fin s).h)))) (run_load_spl (fun i hi => by have := HV3.out.1 i (by simp [u8s, hi]); rw [this]; simp [u8s, bys]) Tryz.underlying30 rfl info26) ?_)
    | (refine wl_store rfl 30 _ _ rfl _ rfl _ rfl (run_store_arr (HE.out.1.under HV3.out.2) (bys (outB (fin s).h)) info26 (bys_one _ _)) ?_))
  refine bodyPost_ret (results_cell1 rfl _ _ _ rfl (run_load_arr ((HE.out.1.under HV3.out.2).row _) Tryz.underlying30 rfl info26)) rfl ⟨rfl, ?_⟩
  exact below_row (HE.out.2.trans (HV3.out.2.mono HE.out.2.size)) (by omega) _

/-- The sum of bytes. -/
def shaL (l : List UInt8) : Nat → UInt8 := outB (feed S0 (l ++ padL l.length)).h
set_option maxRecDepth 100000 in
theorem fin_feed (l : List UInt8) : outB (fin (feed S0 l)).h = shaL l := by
  unfold fin shaL
  rw [feed_append, feed_t]
  simp [S0]
/-- A row of parts, as a call gets them. -/
structure Parts (w : World) (A : Option Addr) (ps : List Part) : Prop where
  row : Lies w w.heap.size 1 A ps.length (ps.map partV)
  each : ∀ p ∈ ps, Lies w w.heap.size 1 p.1 p.2.2.length (u8s p.2.2)
  cap : ∀ p ∈ ps, p.2.2.length ≤ p.2.1
set_option maxRecDepth 100000 in
theorem Parts.below {w w' : World} {A : Option Addr} {ps : List Part} (h : Parts w A ps) (hb : Below w.heap.size w w') : Parts w' A ps :=
  ⟨(h.row.below hb).wide hb.size, fun p hp => ((h.each p hp).below hb).wide hb.size, h.cap⟩

set_option maxHeartbeats 1000000 in
set_option maxRecDepth 100000 in
theorem sum_any (ps : List Part) (A : Option Addr) (c : Nat) (w : World) (hP : Parts w A ps) (hn : ps.length ≤ 1000000) (htot : (catAll ps).length < 549755813888) (hT : Tabs w) :
    Calls Tryz.prog 61 #[.slice A ps.length c] w fun e w' => e = .returned (.agg (vec 32 (bys (shaL (catAll ps))))) ∧ Below w.heap.size w w' := by
  have hR0 : Arr (w.alloc (.cells (vec 32 (bys zb)) 30)) w.heap.size 30 32 (bys zb) := Arr.new w _ _ _
  have hB0 : Below w.heap.size w (w.alloc (.cells (vec 32 (bys zb)) 30)) := (Below.refl _ _).alloc (Nat.le_refl _) _
  obtain ⟨W0, hW0⟩ : ∃ W0, W0 = w.alloc (.cells (vec 32 (bys zb)) 30) := ⟨_, rfl⟩
  have hsz : W0.heap.size = w.heap.size + 1 := by rw [hW0]; simp
  rw [← hW0] at hR0 hB0
  have HI := Lib.hid (begin_any W0 (tabs_below hT hB0))
  have HA := Lib.hid (And.intro hR0 (And.intro hB0 (And.intro hsz (And.intro hP (And.intro hT htot)))))
  have HW := Lib.hid hW0
  clear hR0 hB0 hsz hW0 hP hT htot
  go_enter Tryz.func61, Tryz.ntmps61
  go_upto_region 1 with fail
  rw [← HW.out]
  clear HW
  go_upto_region 2 with (first
    | (go_at_call 83; refine HI.out.mono ?_; rintro e w1 ⟨rfl, hd⟩; have HD := Lib.hid hd; clear hd)
    | (refine wl_store rfl 132 _ _ rfl _ rfl _ rfl (run_store_arr (Arr.new w1 _ _ _) (stf S0 nf) info53 (st_one _)) ?_))
  obtain ⟨g, hg⟩ : ∃ g, g = w1.heap.size := ⟨_, rfl⟩
  obtain ⟨V, hV⟩ : ∃ V, V = (w1.alloc (.cells (vec 73 (stf SZ nf)) 132)).setRow w1.heap.size (vec 73 (stf S0 nf)) := ⟨_, rfl⟩
  have hAV : Arr V g 132 73 (stf S0 nf) := by rw [hV, hg]; exact (Arr.new w1 _ _ _).row _
  have hszV : V.heap.size = g + 1 := by rw [hV, hg]; simp
  have hgt : w.heap.size < g := by have := HA.out.2.2.1; have := HD.out.size; omega
  have hRV : Arr V w.heap.size 30 32 (bys zb) := by
    rw [hV]; exact ((HA.out.1.under HD.out).alloc _).rowFar (by omega) _
  have hB1 : Below w.heap.size w w1 := HA.out.2.1.trans (HD.out.mono HA.out.2.1.size)
  have hBV : Below w.heap.size w V := by rw [hV]; exact below_row (hB1.alloc hB1.size _) (by omega) _
  rw [← hV, ← hg]
  have hP := HA.out.2.2.2.1
  have hT := HA.out.2.2.2.2.1
  have htot := HA.out.2.2.2.2.2
  have HAV := Lib.hid (And.intro hAV (And.intro hszV (And.intro hgt (And.intro hRV hBV))))
  have HP := Lib.hid hP
  have HT := Lib.hid hT
  have HTot := Lib.hid htot
  clear hV hg hAV hszV hgt hRV hB1 hBV hP hT htot HA HI HD
  go_wp2
  go_loopw [9] (fun i W => ∃ k : Nat, k ≤ ps.length ∧ i = .int .i64 k ∧ Hid (Arr W g 132 73 (stf (feed S0 (catAll (ps.take k))) nf)) ∧ Hid (Save g V W)) (fun i _ => ps.length - (intOf i).toNat)
  case atStart => exact ⟨0, Nat.zero_le _, rfl, Lib.hid HAV.out.1, Lib.hid (Save.refl _ _)⟩
  case round =>
    obtain ⟨k, hk, rfl, hA, hsv⟩ := hrel
    have hBW : Below w.heap.size w wr := by
      have h := HAV.out
      exact h.2.2.2.2.trans (hsv.out.below (Nat.le_of_lt h.2.2.1) h.2.2.2.2.size)
    have HBW := Lib.hid hBW
    clear hBW
    by_cases hlt : k < ps.length
    · obtain ⟨a, hx, rfl, hab, hc⟩ := (HP.out.row.below HBW.out).atMap hlt
      have hmem := List.getElem_mem hlt
      have hle : (catAll (ps.take (k + 1))).length ≤ (catAll ps).length := cat_take_le ps (k + 1)
      have hs : catAll (ps.take (k + 1)) = catAll (ps.take k) ++ ps[k].2.2 := cat_succ ps k hlt
      have hli := (HP.out.each _ hmem)
      have hcp := HP.out.cap _ hmem
      obtain ⟨p, hp⟩ : ∃ p, p = ps[k] := ⟨_, rfl⟩
      rw [← hp] at hc hs hli hcp
      obtain ⟨A1, c1, l1⟩ := p
      unfold partV at hc
      simp only at hc hs hli hcp
      have hb := fun a (ha : A1 = some a) (hl : l1.length ≠ 0) => (show a.block < w.heap.size by obtain ⟨a2, h2, hb2, _⟩ := hli.2 hl; rw [ha] at h2; injection h2 with h2; rw [h2]; exact hb2)
      have HC1 := Lib.hid (And.intro hs (And.intro hle (And.intro ((hli.below HBW.out).wide HBW.out.size) (And.intro hcp hb))))
      clear hs hle hli hcp hb hp hmem
      have htk := take_any (feed S0 (catAll (ps.take k))) l1 A1 c1 g 132 73 nf wr (by decide)
        (by rw [feed_t]; have h1 := HC1.out.1; have h2 := HC1.out.2.1; rw [h1, List.length_append] at h2; have := HTot.out; simp [S0]; omega)
        HC1.out.2.2.2.1 hA.out HC1.out.2.2.1 (fun a ha hl => by have := HC1.out.2.2.2.2 a ha hl; have := HAV.out.2.2.1; omega) (tabs_below HT.out HBW.out)
        (by have := (tab_lt HT.out).1; have := HAV.out.2.2.1; omega) (by have := (tab_lt HT.out).2; have := HAV.out.2.2.1; omega)
      have HTk := Lib.hid htk
      clear htk hA
      go_wp2_with (go_at_call 84; refine HTk.out.mono ?_; rintro e w2 ⟨rfl, h1, h2⟩; have H2 := Lib.hid (And.intro h1 h2); clear h1 h2)
      go_roundw
      case rel => exact ⟨k + 1, by omega, by go_num, Lib.hid (by rw [HC1.out.1, feed_append]; exact H2.out.1), Lib.hid (hsv.out.trans H2.out.2)⟩
      case measure => simp [intOf]; omega
    · obtain rfl : k = ps.length := by omega
      rw [List.take_length] at hA
      have HE := Lib.hid (end_any (feed S0 (catAll ps)) (by rw [feed_t]; have := HTot.out; simp [S0]; omega) wr (tabs_below HT.out HBW.out))
      have HL := Lib.hid (run_load_arr (P := Tryz.prog) hA.out Tryz.underlying132 rfl info53)
      have hR : Arr wr w.heap.size 30 32 (bys zb) := HAV.out.2.2.2.1.save hsv.out (by have := HAV.out.2.2.1; omega)
      have HR := Lib.hid hR
      clear hA hR hlt hk
      go_wp2_with (first
        | (refine wl_load rfl 132 _ rfl _ rfl _ HL.out ?_)
        | (go_at_call 85; refine HE.out.mono ?_; rintro e w2 ⟨rfl, hd⟩; have HD := Lib.hid hd; clear hd)
        | (refine wl_store rfl 30 _ _ rfl _ rfl _ rfl (run_store_arr (HR.out.under HD.out) (bys (outB (fin (feed S0 (catAll ps))).h)) info26 (bys_one _ _)) ?_))
      refine bodyPost_ret (results_cell1 rfl _ _ _ rfl (run_load_arr ((HR.out.under HD.out).row _) Tryz.underlying30 rfl info26)) rfl ⟨by rw [fin_feed], ?_⟩
      exact below_row (HBW.out.trans (HD.out.mono HBW.out.size)) (Nat.le_refl _) _
end Go.Proofs.YtfeiplaiekbdkaaGreatDoor
