/- A hash's state as a plain thing; bytes fed one by one. -/
import Derived.Test.YtjblmnkhdablaaaDoorBlock
import Derived.Laws.CopyRow
namespace Go.Proofs.YtjblmnkhdablaaaDoor
open Go.RowKit

structure St where
  h : Nat → W32
  b : Nat → UInt8
  t : Nat
def step1 (s : St) (x : UInt8) : St :=
  ⟨if (s.t + 1) % 64 = 0 then comp s.h (upd s.b (s.t % 64) x) else s.h, upd s.b (s.t % 64) x, s.t + 1⟩
def feed (s : St) (l : List UInt8) : St := l.foldl step1 s
theorem feed_nil (s : St) : feed s [] = s := rfl
theorem feed_cons (s : St) (x : UInt8) (l : List UInt8) : feed s (x :: l) = feed (step1 s x) l := rfl
theorem feed_append (s : St) (l m : List UInt8) : feed s (l ++ m) = feed (feed s l) m := List.foldl_append
theorem feed_t (s : St) (l : List UInt8) : (feed s l).t = s.t + l.length := by
  induction l generalizing s with
  | nil => rfl
  | cons x l ih => rw [feed_cons, ih]; simp [step1]; omega
/-- bytes laid from place r on -/
def lay (b : Nat → UInt8) (r : Nat) (l : List UInt8) : Nat → UInt8 := fun i => if r ≤ i ∧ i < r + l.length then l.getD (i - r) 0 else b i
theorem lay_nil (b : Nat → UInt8) (r : Nat) : lay b r [] = b := by funext i; simp [lay]; omega
theorem lay_cons (b : Nat → UInt8) (r : Nat) (x : UInt8) (l : List UInt8) : lay (upd b r x) (r + 1) l = lay b r (x :: l) := by
  funext i
  unfold lay upd
  by_cases h1 : i = r
  · subst h1
    rw [if_neg (by omega), if_pos rfl, if_pos ⟨Nat.le_refl _, by simp⟩]; simp
  · by_cases h2 : r + 1 ≤ i ∧ i < r + 1 + l.length
    · have e : i - r = (i - (r + 1)) + 1 := by omega
      rw [if_pos h2, if_pos ⟨by omega, by simp; omega⟩, e]; simp
    · rw [if_neg h2, if_neg h1, if_neg (by simp; omega)]
theorem feed_lt (l : List UInt8) : ∀ (h : Nat → W32) (b : Nat → UInt8) (t : Nat), t % 64 + l.length < 64 → feed ⟨h, b, t⟩ l = ⟨h, lay b (t % 64) l, t + l.length⟩ := by
  induction l with
  | nil => intro h b t _; rw [feed_nil, lay_nil]; rfl
  | cons x l ih =>
    intro h b t hl
    simp at hl
    have e : (t + 1) % 64 = t % 64 + 1 := by omega
    rw [feed_cons]
    have : step1 ⟨h, b, t⟩ x = ⟨h, upd b (t % 64) x, t + 1⟩ := by simp only [step1]; rw [if_neg (by omega)]
    rw [this, ih _ _ _ (by omega), e, lay_cons]
    simp; omega
theorem feed_full (l : List UInt8) (h : Nat → W32) (b : Nat → UInt8) (t : Nat) (hl : t % 64 + l.length = 64) : feed ⟨h, b, t⟩ l = ⟨comp h (lay b (t % 64) l), lay b (t % 64) l, t + l.length⟩ := by
  rcases List.eq_nil_or_concat l with rfl | ⟨l', x, rfl⟩
  · simp at hl; omega
  · rw [List.concat_eq_append] at hl ⊢
    simp at hl
    rw [feed_append, feed_lt l' h b t (by omega)]
    have e1 : (t + l'.length) % 64 = t % 64 + l'.length := by omega
    have e2 : upd (lay b (t % 64) l') (t % 64 + l'.length) x = lay b (t % 64) (l' ++ [x]) := by
      funext i
      unfold upd lay
      by_cases h1 : i = t % 64 + l'.length
      · subst h1
        rw [if_pos rfl, if_pos ⟨by omega, by simp⟩]
        simp [List.getD_eq_getElem?_getD]
      · rw [if_neg h1]
        by_cases h2 : t % 64 ≤ i ∧ i < t % 64 + l'.length
        · rw [if_pos h2, if_pos ⟨by omega, by simp; omega⟩]
          simp [List.getD_eq_getElem?_getD, List.getElem?_append, show i - t % 64 < l'.length by omega]
        · rw [if_neg h2, if_neg (by simp; omega)]
    show step1 _ x = _
    simp only [step1, e1, e2]
    rw [if_pos (by omega)]
    simp; omega

/-- A state's cells, then others. -/
def stf (s : St) (f0 : Nat → Value) : Nat → Value := fun i =>
  if i < 8 then .int .u32 (num (s.h i)) else if i < 72 then .int .u8 ((s.b (i - 8)).toNat : Int) else if i = 72 then .int .u64 (s.t : Int) else f0 i
theorem stf_h (s : St) (f0 : Nat → Value) (i : Nat) (h : i < 8) : stf s f0 i = wds s.h i := by simp [stf, wds, h]
theorem stf_b (s : St) (f0 : Nat → Value) (i : Nat) (h : i < 64) : stf s f0 (8 + i) = bys s.b i := by
  unfold stf bys
  rw [if_neg (by omega), if_pos (by omega), Nat.add_sub_cancel_left]
theorem stf_t (s : St) (f0 : Nat → Value) : stf s f0 72 = .int .u64 (s.t : Int) := by simp [stf]
theorem stf_t_upd (s : St) (f0 : Nat → Value) (t : Nat) : upd (stf s f0) 72 (.int .u64 (t : Int)) = stf ⟨s.h, s.b, t⟩ f0 := by
  funext i
  unfold upd stf
  by_cases h : i = 72
  · subst h; simp
  · simp [h]
def spl (o m : Nat) (c f : Nat → Value) : Nat → Value := fun i => if o ≤ i ∧ i < o + m then c (i - o) else f i
theorem stf_h_spl (s : St) (f0 : Nat → Value) (h : Nat → W32) : spl 0 8 (wds h) (stf s f0) = stf ⟨h, s.b, s.t⟩ f0 := by
  funext i
  unfold spl stf wds
  by_cases h1 : i < 8
  · simp [h1]
  · simp [h1]
theorem stf_b_spl (s : St) (f0 : Nat → Value) (r : Nat) (l : List UInt8) (hr : r + l.length ≤ 64) : spl (8 + r) l.length (bys fun j => l.getD j 0) (stf s f0) = stf ⟨s.h, lay s.b r l, s.t⟩ f0 := by
  funext i
  unfold spl stf bys lay
  by_cases h1 : 8 + r ≤ i ∧ i < 8 + r + l.length
  · rw [if_pos h1, if_neg (by omega), if_pos (by omega)]
    dsimp only
    rw [if_pos (by omega), show i - 8 - r = i - (8 + r) by omega]
  · rw [if_neg h1]
    by_cases h2 : i < 8
    · simp [h2]
    · by_cases h3 : i < 72
      · simp only [h2, h3, if_true, if_false]
        rw [if_neg (by omega)]
      · simp [h2, h3]
theorem vec_spl (n o m : Nat) (c f : Nat → Value) (h : o + m ≤ n) : ((vec n f).toList.take o ++ (List.range m).map c ++ (vec n f).toList.drop (o + m)).toArray = vec n (spl o m c f) := by
  unfold vec
  congr 1
  apply List.ext_getElem?
  intro i
  simp only [List.getElem?_append, List.length_append, List.length_take, List.length_map, List.length_range, List.getElem?_take, List.getElem?_drop, List.getElem?_map]
  by_cases h1 : i < o
  · rw [if_pos (by omega), if_pos (by omega), if_pos h1]
    by_cases hn : i < n
    · simp [List.getElem?_range hn, spl]; omega
    · omega
  · by_cases h2 : i < o + m
    · rw [if_pos (by omega), if_neg (by omega)]
      have e : i - min o n = i - o := by omega
      rw [e, List.getElem?_range (by omega), List.getElem?_range (by omega)]
      simp [spl]; omega
    · rw [if_neg (by omega)]
      have e : o + m + (i - (min o n + m)) = i := by omega
      rw [e]
      by_cases hn : i < n
      · rw [List.getElem?_range hn]; simp [spl]; omega
      · rw [List.getElem?_eq_none (by simp; omega)]; rfl
/-- All but block g is as it was. -/
structure Save (g : Nat) (w w' : World) : Prop where
  os : w'.os = w.os
  tape : w'.tape = w.tape
  output : w'.output = w.output
  size : w.heap.size ≤ w'.heap.size
  block : ∀ k, k < w.heap.size → k ≠ g → w'.heap[k]? = w.heap[k]?
theorem Save.refl (g : Nat) (w : World) : Save g w w := ⟨rfl, rfl, rfl, Nat.le_refl _, fun _ _ _ => rfl⟩
theorem Save.trans {g : Nat} {a b c : World} (h : Save g a b) (k : Save g b c) : Save g a c :=
  ⟨k.os.trans h.os, k.tape.trans h.tape, k.output.trans h.output, Nat.le_trans h.size k.size, fun i hi hg => (k.block i (Nat.lt_of_lt_of_le hi h.size) hg).trans (h.block i hi hg)⟩
theorem Save.of_below {g : Nat} {w w' : World} (h : Below w.heap.size w w') : Save g w w' := ⟨h.1, h.2, h.3, h.4, fun k hk _ => h.5 k hk⟩
theorem Save.below {g B : Nat} {w w' : World} (h : Save g w w') (hB : B ≤ g) (hs : B ≤ w.heap.size) : Below B w w' := ⟨h.1, h.2, h.3, h.4, fun k hk => h.5 k (by omega) (by omega)⟩
theorem Save.drewN {g : Nat} {w w' : World} (h : Save g w w') (n : Nat) : Save g w (w'.drewN n) := ⟨h.1, h.2, h.3, h.4, h.5⟩
theorem Save.setCell {g : Nat} {w w' : World} (h : Save g w w') (i : Nat) (u : Value) : Save g w (w'.setCell ⟨g, i, none⟩ u) := by
  refine ⟨h.1, h.2, h.3, by have := h.4; simpa [World.setCell] using this, fun k hk hg => ?_⟩
  rw [← h.5 k hk hg]
  exact Below.heap_setCell w' ⟨g, i, none⟩ u k hg
theorem Save.setRow {g : Nat} {w w' : World} (h : Save g w w') (c : Array Value) : Save g w (w'.setRow g c) := by
  refine ⟨h.1, h.2, h.3, by have := h.4; simpa [World.setRow] using this, fun k hk hg => ?_⟩
  rw [← h.5 k hk hg]
  simp [World.setRow, Array.getElem?_modify, Ne.symm hg]
theorem Save.cell {g : Nat} {w w' : World} (h : Save g w w') {p : Addr} (hp : p.block < w.heap.size) (hg : p.block ≠ g) : w'.cell? p = w.cell? p :=
  World.cell?_of_block (h.5 p.block hp hg)
theorem tabs_save {g : Nat} {w w' : World} (hT : Tabs w) (h : Save g w w') (h0 : g ≠ 0) (h1 : g ≠ 1) : Tabs w' :=
  ⟨fun i hi => (h.cell (World.block_lt_of_cell? w _ (hT.1 i hi)) (Ne.symm h0)).trans (hT.1 i hi), fun i hi => (h.cell (World.block_lt_of_cell? w _ (hT.2 i hi)) (Ne.symm h1)).trans (hT.2 i hi)⟩
theorem Arr.save {g g' n : Nat} {w w' : World} {t : TypeId} {f : Nat → Value} (h : Arr w g n t f) (hs : Save g' w w') (hg : g ≠ g') : Arr w' g n t f := (hs.block g h.lt hg).trans h
/-- Cells into a longer block, from place o on. -/
theorem run_store_spl {P : Program} {w : World} {g n o m : Nat} {t ty : TypeId} {f : Nat → Value} (h : Arr w g t n f) (c : Nat → Value) (ho : o + m ≤ n) (hi : (P.info? ty).map (·.size) = some m) (h1 : ∀ i, i < m → (c i).oneCell' = true) :
    (storeVar ty ⟨g, o, none⟩ (.agg (vec m c))).run P w = .ok () (w.setRow g (vec n (spl o m c f))) := by
  have hst := run_storeCells_at P g o t ((List.range m).map c) 0 (vec n f) w h (by rw [vec_size]; simp; omega) (by
    intro v hv
    simp at hv
    obtain ⟨i, hi, rfl⟩ := hv
    exact h1 i hi)
  have e := vec_spl n o m c f ho
  cases hq : P.info? ty with
  | none => simp [hq] at hi
  | some i =>
    have hs : i.size = m := by simpa [hq] using hi
    have hz : (vec m c).size = m := vec_size m c
    have hl : (vec m c).toList = (List.range m).map c := by simp [vec]
    simp only [Nat.add_zero, List.length_map, List.length_range] at hst
    rw [e] at hst
    simp [storeVar, sizeOf, typeInfo, hq, hs, Value.cells, hz, hl, hst]
theorem run_load_spl {P : Program} {w : World} {g o n : Nat} {ty : TypeId} {d : TypeDesc} {f : Nat → Value} (h : ∀ i, i < n → w.cell? ⟨g, o + i, none⟩ = some (f i)) (hu : P.underlying ty = some d)
    (hd : (match d with | .struct _ | .array _ _ => true | _ => false) = true) (hi : (P.info? ty).map (·.size) = some n) :
    (loadVar ty ⟨g, o, none⟩).run P w = .ok (.agg (vec n f)) w := by
  have hl : (loadCells ⟨g, o, none⟩ (vec n f).toList.length).run P w = .ok (vec n f).toList.toArray w :=
    run_loadCells_list (P := P) w ⟨g, o, none⟩ (vec n f).toList (fun j v hv => by
      have hadd : (⟨g, o, none⟩ : Addr).add j = ⟨g, o + j, none⟩ := by unfold Addr.add; split <;> simp_all
      have hj : j < n := by
        have := (List.getElem?_eq_some_iff.1 hv).1
        simpa [vec] using this
      have hv2 : (vec n f)[j]? = some v := by simpa using hv
      rw [vec_at n f j hj] at hv2
      rw [hadd, h j hj, hv2])
  cases hq : P.info? ty with
  | none => simp [hq] at hi
  | some i =>
    have hs : i.size = n := by simpa [hq] using hi
    have hagg : (isAgg ty).run P w = .ok true w := by
      unfold isAgg
      rw [Sem.run_bind, run_underlying hu w]
      cases d <;> simp_all
    have hz : (vec n f).size = n := vec_size n f
    simp only [Array.length_toList, Array.toArray_toList] at hl
    rw [hz] at hl
    simp [loadVar, Sem.run_bind, hagg, sizeOf, typeInfo, hq, hs, hl]
/-- copy into a longer block. -/
theorem run_copy_spl {P : Program} {w : World} {g n o dLen dCap sLen sCap : Nat} {dT sT ty elem t : TypeId} {a : Addr} {f c : Nat → Value} (m : Nat) (h : Arr w g t n f)
    (hu : P.underlying dT = some (.slice elem)) (hs : (P.info? elem).map (·.size) = some 1) (hm : m = Nat.min sLen dLen)
    (hsrc : ∀ j, j < m → w.cell? (a.add j) = some (c j)) (ho : o + m ≤ n) (h1 : ∀ i, i < m → (c i).oneCell' = true) :
    (Builtin.copy_ #[dT, sT] ty #[.slice (some ⟨g, o, none⟩) dLen dCap, .slice (some a) sLen sCap]).run P w = .ok (goInt (m : Nat)) (w.setRow g (vec n (spl o m c f))) := by
  have := run_copy_row P w dT sT ty elem g o dLen dCap a sLen sCap (vec n f) t ((List.range m).map c) hu hs h (by simpa using hm) (by
    intro j v hv
    obtain ⟨hj, rfl⟩ := List.getElem?_eq_some_iff.1 hv
    simp at hj ⊢
    exact hsrc j hj) (by rw [vec_size]; simp; omega) (by
    intro v hv
    simp at hv
    obtain ⟨i, hi, rfl⟩ := hv
    exact h1 i hi)
  rw [List.length_map, List.length_range, vec_spl n o m c f ho] at this
  exact this
end Go.Proofs.YtjblmnkhdablaaaDoor
