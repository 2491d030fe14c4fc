/- Rooms, plainly: the parts of a guest's addresses, put in order; which may be; where an address is. -/
import Derived.Test.YtgnihceefpijiaaSpans
import Derived.Test.YtgnihceefpijiaaMb
namespace Go.Proofs.Ytgnihceefpijiaa

structure Mp where
  ipa : Int
  pa : Int
  size : Int
  perm : Int
  kind : Int
def u64Z (z : Int) : Prop := 0 ≤ z ∧ z < 18446744073709551616
structure MpB (x : Mp) : Prop where
  ipa : u64Z x.ipa
  pa : u64Z x.pa
  size : u64Z x.size
def ipaS (x : Mp) : Sp := (x.ipa.toNat, x.size.toNat)
def paS (x : Mp) : Sp := (x.pa.toNat, x.size.toNat)
def wiM (x : Wi) : Mp := ⟨x.ipa, x.pa, x.size, x.perm, 0⟩
def deM (x : De) : Mp := ⟨x.ipa, x.pa, x.size, 3, 1⟩
def enM (c : Ch) (e : En) : Mp := ⟨e.ipa, c.pa, c.size, e.perm, 0⟩
def chM (g : Int) (c : Ch) : List Mp := (if c.a.guest = g then [enM c c.a] else []) ++ (if c.b.guest = g then [enM c c.b] else [])
/-- The parts of a guest, as they are named. -/
def partsP (t : Gs) (chs : List Ch) (g : Int) : List Mp := t.wins.map wiM ++ (t.devs.map deM ++ chs.flatMap (chM g))
def guestAt (c : Cf) (g : Int) : Option Gs := if g < 0 then none else c.gs[g.toNat]?
/-- A part put among parts by IPA, behind those that stand there already. -/
def insP (l : List Mp) (m : Mp) : List Mp := l.takeWhile (fun x => decide (x.ipa ≤ m.ipa)) ++ m :: l.dropWhile (fun x => decide (x.ipa ≤ m.ipa))
def sortP (l : List Mp) : List Mp := l.foldl insP []
def gdS (x : Mp) : Bool := good (ipaS x) && good (paS x)
/-- Part i may stand behind those ahead of it. -/
def okAt (l : List Mp) (i : Nat) : Bool := match l[i]? with
  | none => true
  | some x => gdS x && (l.take i).all fun y => !overlap (ipaS x) (ipaS y)
def okM (l : List Mp) : Bool := (List.range l.length).all (okAt l)
def mapsP (c : Cf) (g : Int) : Except Nat (List Mp) := match guestAt c g with
  | none => .error 1
  | some t => if okM (sortP (partsP t c.chs g)) = true then .ok (sortP (partsP t c.chs g)) else .error 160
/-- The first part that has an address. -/
def atP (l : List Mp) (p : Nat) : Option Mp := l.find? fun x => has (ipaS x) p
def pageB (b s : Int) : Bool := paged (b.toNat, s.toNat) && decide (b.toNat + s.toNat ≤ 1099511627776)
def gdM (x : Mp) : Bool := pageB x.ipa x.size && (pageB x.pa x.size && (decide (1 ≤ x.perm) && (decide (x.perm ≤ 7) && (decide (0 ≤ x.kind) && decide (x.kind ≤ 1)))))
def goodAt (l : List Mp) (i : Nat) : Bool := match l[i]? with
  | none => true
  | some x => gdM x && (if i = 0 then true else match l[i - 1]? with
    | none => true
    | some y => decide (y.ipa + y.size ≤ x.ipa))
def goodL (l : List Mp) : Bool := (List.range l.length).all (goodAt l)
def physP (t : Gs) : List Sp := t.wins.map (fun x => (x.pa.toNat, x.size.toNat)) ++ t.devs.map (fun x => (x.pa.toNat, x.size.toNat))
def namesC (g : Int) (c : Ch) : Bool := decide (c.a.guest = g) || decide (c.b.guest = g)
def sharedP (chs : List Ch) (g : Int) : List Sp := (chs.filter (namesC g)).map fun c => (c.pa.toNat, c.size.toNat)
/-! ### Steps of loops over indices -/
theorem range_all {f : Nat → Bool} {n : Nat} : (List.range n).all f = true ↔ ∀ i, i < n → f i = true := by simp [List.all_eq_true]
theorem range_snoc {f : Nat → Bool} {k : Nat} (h : (List.range k).all f = true) (hk : f k = true) : (List.range (k + 1)).all f = true := by
  rw [range_all] at h ⊢
  intro i hi
  by_cases e : i = k
  · rw [e]; exact hk
  · exact h i (by omega)
theorem range_off {f : Nat → Bool} {n k : Nat} (hn : k < n) (hk : f k = false) : (List.range n).all f = false := by
  rw [← Bool.not_eq_true, range_all]
  intro h
  have := h k hn
  rw [hk] at this
  cases this
theorem okAt_some {l : List Mp} {i : Nat} (h : i < l.length) : okAt l i = (gdS l[i] && (l.take i).all fun y => !overlap (ipaS l[i]) (ipaS y)) := by unfold okAt; rw [List.getElem?_eq_getElem h]
theorem goodAt_some {l : List Mp} {i : Nat} (h : i < l.length) : goodAt l i = (gdM l[i] && (if i = 0 then true else match l[i - 1]? with
    | none => true
    | some y => decide (y.ipa + y.size ≤ l[i].ipa))) := by unfold goodAt; rw [List.getElem?_eq_getElem h]
theorem goodAt_zero {l : List Mp} (h : 0 < l.length) : goodAt l 0 = gdM l[0] := by rw [goodAt_some h, if_pos rfl, Bool.and_true]
theorem goodAt_succ {l : List Mp} {i : Nat} (h : i + 1 < l.length) : goodAt l (i + 1) = (gdM l[i + 1] && decide ((l[i]'(by omega)).ipa + (l[i]'(by omega)).size ≤ l[i + 1].ipa)) := by
  rw [goodAt_some h, if_neg (by omega)]
  have e : l[i + 1 - 1]? = some (l[i]'(by omega)) := by rw [Nat.add_sub_cancel]; exact List.getElem?_eq_getElem _
  rw [e]
/-! ### What order and rule together say -/
theorem overlap_comm (x y : Sp) : overlap x y = overlap y x := by
  rw [Bool.eq_iff_iff, overlap_iff, overlap_iff]
  constructor
  · rintro ⟨a, b, c, d⟩; exact ⟨b, a, d, c⟩
  · rintro ⟨a, b, c, d⟩; exact ⟨b, a, d, c⟩
theorem okM_iff {l : List Mp} : okM l = true ↔ (∀ x ∈ l, gdS x = true) ∧ l.Pairwise fun x y => overlap (ipaS x) (ipaS y) = false := by
  unfold okM
  rw [range_all]
  constructor
  · intro h
    refine ⟨fun x hx => ?_, ?_⟩
    · obtain ⟨i, hi, rfl⟩ := List.mem_iff_getElem.1 hx
      have := h i hi
      rw [okAt_some hi, Bool.and_eq_true] at this
      exact this.1
    · rw [List.pairwise_iff_getElem]
      intro i j hi hj hij
      have := h j hj
      rw [okAt_some hj, Bool.and_eq_true, List.all_eq_true] at this
      have h2 := this.2 l[i] (by rw [List.mem_iff_getElem]; exact ⟨i, by rw [List.length_take]; omega, by rw [List.getElem_take]⟩)
      rw [overlap_comm]
      simpa using h2
  · rintro ⟨h1, h2⟩ i hi
    rw [okAt_some hi, Bool.and_eq_true, List.all_eq_true]
    refine ⟨h1 _ (List.getElem_mem hi), fun y hy => ?_⟩
    obtain ⟨j, hj, rfl⟩ := List.mem_iff_getElem.1 hy
    rw [List.length_take] at hj
    rw [List.getElem_take]
    have := List.pairwise_iff_getElem.1 h2 j i (by omega) hi (by omega)
    rw [overlap_comm, this]; rfl
theorem insP_perm (l : List Mp) (m : Mp) : (insP l m).Perm (m :: l) := by
  unfold insP
  have h := List.takeWhile_append_dropWhile (p := fun x : Mp => decide (x.ipa ≤ m.ipa)) (l := l)
  exact (List.perm_middle).trans (List.Perm.cons m (by rw [h]))
theorem fold_perm : ∀ (l k : List Mp), (l.foldl insP k).Perm (k ++ l)
  | [], k => by simp
  | m :: l, k => by
    rw [List.foldl_cons]
    refine (fold_perm l (insP k m)).trans ?_
    refine ((insP_perm k m).append_right l).trans ?_
    exact (List.perm_middle).symm
theorem sortP_perm (l : List Mp) : (sortP l).Perm l := by
  have := fold_perm l []
  rw [List.nil_append] at this
  exact this
theorem sortP_len (l : List Mp) : (sortP l).length = l.length := (sortP_perm l).length_eq
def Sorted (l : List Mp) : Prop := l.Pairwise fun x y => x.ipa ≤ y.ipa
theorem dropWhile_head {α : Type} (p : α → Bool) : ∀ (l : List α) (x : α) (r : List α), l.dropWhile p = x :: r → p x = false
  | [], _, _, h => by simp at h
  | y :: l, x, r, h => by
    rw [List.dropWhile_cons] at h
    split at h
    · exact dropWhile_head p l x r h
    · injection h with h1 _
      subst h1
      simpa using (by assumption : ¬ p y = true)
theorem insP_sorted {l : List Mp} (h : Sorted l) (m : Mp) : Sorted (insP l m) := by
  unfold insP Sorted
  have e := List.takeWhile_append_dropWhile (p := fun x : Mp => decide (x.ipa ≤ m.ipa)) (l := l)
  have hs : (l.takeWhile (fun x => decide (x.ipa ≤ m.ipa)) ++ l.dropWhile (fun x => decide (x.ipa ≤ m.ipa))).Pairwise fun x y : Mp => x.ipa ≤ y.ipa := by rw [e]; exact h
  rw [List.pairwise_append] at hs ⊢
  obtain ⟨s1, s2, s3⟩ := hs
  have hT : ∀ x ∈ l.takeWhile (fun x => decide (x.ipa ≤ m.ipa)), x.ipa ≤ m.ipa := fun x hx => by
    have := List.all_eq_true.1 (List.all_takeWhile (p := fun x : Mp => decide (x.ipa ≤ m.ipa)) (l := l)) x hx
    simpa using this
  have hD : ∀ y ∈ l.dropWhile (fun x => decide (x.ipa ≤ m.ipa)), m.ipa ≤ y.ipa := fun y hy => by
    cases hd : l.dropWhile (fun x => decide (x.ipa ≤ m.ipa)) with
    | nil => rw [hd] at hy; cases hy
    | cons z r =>
      have hz := dropWhile_head _ _ _ _ hd
      have hz : ¬ z.ipa ≤ m.ipa := by simpa using hz
      rw [hd] at hy s2
      rcases List.mem_cons.1 hy with rfl | hy
      · omega
      · have := (List.pairwise_cons.1 s2).1 y hy
        omega
  refine ⟨s1, List.pairwise_cons.2 ⟨hD, s2⟩, fun x hx y hy => ?_⟩
  rcases List.mem_cons.1 hy with rfl | hy
  · exact hT x hx
  · exact s3 x hx y hy
theorem fold_sorted : ∀ (l k : List Mp), Sorted k → Sorted (l.foldl insP k)
  | [], _, h => h
  | m :: l, k, h => fold_sorted l (insP k m) (insP_sorted h m)
theorem sortP_sorted (l : List Mp) : Sorted (sortP l) := fold_sorted l [] List.Pairwise.nil
/-- Whether parts may be doesn't hang on their order. -/
theorem okM_perm {l k : List Mp} (h : l.Perm k) : okM l = okM k := by
  rw [Bool.eq_iff_iff, okM_iff, okM_iff]
  have hp := h.pairwise_iff (R := fun x y => overlap (ipaS x) (ipaS y) = false) (fun {x y} e => by rw [overlap_comm]; exact e)
  constructor
  · rintro ⟨h1, h2⟩; exact ⟨fun x hx => h1 x (h.mem_iff.2 hx), hp.1 h2⟩
  · rintro ⟨h1, h2⟩; exact ⟨fun x hx => h1 x (h.mem_iff.1 hx), hp.2 h2⟩
/-- Of parts in order that may be each begins behind the one ahead. -/
theorem ok_rise {x y : Mp} (bx : MpB x) (bz : MpB y) (hx : gdS x = true) (hy : gdS y = true) (ho : overlap (ipaS x) (ipaS y) = false) (hle : x.ipa ≤ y.ipa) : x.ipa + x.size ≤ y.ipa ∧ 0 < x.size := by
  unfold gdS at hx hy
  rw [Bool.and_eq_true] at hx hy
  have g1 := (good_iff _).1 hx.1
  have g2 := (good_iff _).1 hy.1
  have : ¬ overlap (ipaS x) (ipaS y) = true := by rw [ho]; decide
  rw [overlap_iff] at this
  have b1 := bx.ipa.1
  have b2 := bx.size.1
  have b3 := bz.ipa.1
  have b4 := bz.size.1
  unfold ipaS at *
  simp only at *
  constructor
  · by_cases hc : x.ipa + x.size ≤ y.ipa
    · exact hc
    · exact absurd ⟨hx.1, hy.1, by omega, by omega⟩ this
  · omega
theorem sorted_ok {l : List Mp} (hb : ∀ x ∈ l, MpB x) (hs : Sorted l) (ho : okM l = true) : l.Pairwise fun x y => x.ipa + x.size ≤ y.ipa ∧ x.ipa < y.ipa := by
  obtain ⟨h1, h2⟩ := okM_iff.1 ho
  rw [List.pairwise_iff_getElem]
  intro i j hi hj hij
  have a1 := List.pairwise_iff_getElem.1 hs i j hi hj hij
  have a2 := List.pairwise_iff_getElem.1 h2 i j hi hj hij
  have := ok_rise (hb _ (List.getElem_mem hi)) (hb _ (List.getElem_mem hj)) (h1 _ (List.getElem_mem hi)) (h1 _ (List.getElem_mem hj)) a2 a1
  omega
/-- Each address is in one part at most. -/
theorem once {l : List Mp} (ho : okM l = true) (p : Nat) : (l.filter fun x => has (ipaS x) p).length ≤ 1 := by
  obtain ⟨-, h2⟩ := okM_iff.1 ho
  have h3 := h2.filter fun x => has (ipaS x) p
  have hm : ∀ x ∈ l.filter (fun x => has (ipaS x) p), has (ipaS x) p = true := fun x hx => (List.mem_filter.1 hx).2
  match hf : l.filter (fun x => has (ipaS x) p) with
  | [] => simp
  | [_] => simp
  | x :: y :: r =>
    exfalso
    rw [hf] at h3 hm
    have ho2 := (List.pairwise_cons.1 h3).1 y (by simp)
    have k1 := (has_iff _ _).1 (hm x (by simp))
    have k2 := (has_iff _ _).1 (hm y (by simp))
    have : overlap (ipaS x) (ipaS y) = true := (overlap_iff _ _).2 ⟨k1.1, k2.1, by omega, by omega⟩
    rw [ho2] at this
    cases this
/-- Two lists of the same parts, both rising: the same. -/
theorem rise_eq : ∀ {l k : List Mp}, l.Perm k → l.Pairwise (fun x y => x.ipa < y.ipa) → k.Pairwise (fun x y => x.ipa < y.ipa) → l = k
  | [], k, h, _, _ => h.nil_eq
  | x :: l, [], h, _, _ => by have := h.length_eq; simp at this
  | x :: l, y :: k, h, h1, h2 => by
    have hx : x ∈ y :: k := h.mem_iff.1 (by simp)
    have hy : y ∈ x :: l := h.mem_iff.2 (by simp)
    have e : x = y := by
      rcases List.mem_cons.1 hx with e | hx
      · exact e
      rcases List.mem_cons.1 hy with e | hy
      · exact e.symm
      have a1 := (List.pairwise_cons.1 h2).1 x hx
      have a2 := (List.pairwise_cons.1 h1).1 y hy
      omega
    subst e
    rw [rise_eq h.cons_inv (List.pairwise_cons.1 h1).2 (List.pairwise_cons.1 h2).2]
/-- Any list of the same parts that is in order is the sorted one, where they may be. -/
theorem sort_unique {l k : List Mp} (hb : ∀ x ∈ l, MpB x) (hp : k.Perm l) (hs : Sorted k) (ho : okM l = true) : k = sortP l := by
  have hpk : k.Perm (sortP l) := hp.trans (sortP_perm l).symm
  have o1 : okM k = true := by rw [okM_perm hp]; exact ho
  have o2 : okM (sortP l) = true := by rw [okM_perm (sortP_perm l)]; exact ho
  exact rise_eq hpk ((sorted_ok (fun x hx => hb x (hp.mem_iff.1 hx)) hs o1).imp fun h => h.2) ((sorted_ok (fun x hx => hb x ((sortP_perm l).mem_iff.1 hx)) (sortP_sorted l) o2).imp fun h => h.2)
theorem chM_len (g : Int) (c : Ch) : (chM g c).length = (if c.a.guest = g then 1 else 0) + (if c.b.guest = g then 1 else 0) := by
  unfold chM
  by_cases h1 : c.a.guest = g <;> by_cases h2 : c.b.guest = g <;> simp [h1, h2]
end Go.Proofs.Ytgnihceefpijiaa
