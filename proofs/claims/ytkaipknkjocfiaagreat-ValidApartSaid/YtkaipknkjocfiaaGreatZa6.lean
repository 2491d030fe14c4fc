import Derived.Deep.RegionWith
import Derived.Test.YtkaipknkjocfiaaGreatZa5
import Derived.Test.YtkaipknkjocfiaaGreatProg
namespace Go.Proofs.YtkaipknkjocfiaaGreat
structure Mp where
 ipa : Int
 pa : Int
 size : Int
 perm : Int
 kind : Int
def u64Z (z : Int) : Prop := 0 ≤ z ∧ z < 18446744073709551616
structure MpB (x : Mp) : Prop where
 ipa : u64Z x.ipa
 pa : u64Z x.pa
 size : u64Z x.size
def ipaS (x : Mp) : Sp := (x.ipa.toNat, x.size.toNat)
def paS (x : Mp) : Sp := (x.pa.toNat, x.size.toNat)
def wiM (x : Wi) : Mp := ⟨x.ipa, x.pa, x.size, x.perm, 0⟩
def deM (x : De) : Mp := ⟨x.ipa, x.pa, x.size, 3, 1⟩
def enM (c : Ch) (e : En) : Mp := ⟨e.ipa, c.pa, c.size, e.perm, 0⟩
def chM (g : Int) (c : Ch) : List Mp := (if c.a.guest = g then [enM c c.a] else []) ++ (if c.b.guest = g then [enM c c.b] else [])
def partsP (t : Gs) (chs : List Ch) (g : Int) : List Mp := t.wins.map wiM ++ (t.devs.map deM ++ chs.flatMap (chM g))
def guestAt (c : Cf) (g : Int) : Option Gs := if g < 0 then none else c.gs[g.toNat]?
def insP (l : List Mp) (m : Mp) : List Mp := l.takeWhile (fun x => decide (x.ipa ≤ m.ipa)) ++ m :: l.dropWhile (fun x => decide (x.ipa ≤ m.ipa))
def sortP (l : List Mp) : List Mp := l.foldl insP []
def gdS (x : Mp) : Bool := good (ipaS x) && good (paS x)
def okAt (l : List Mp) (i : Nat) : Bool := match l[i]? with
 | none => true
 | some x => gdS x && (l.take i).all fun y => !overlap (ipaS x) (ipaS y)
def okM (l : List Mp) : Bool := (List.range l.length).all (okAt l)
def mapsP (c : Cf) (g : Int) : Except Nat (List Mp) := match guestAt c g with
 | none => .error 1
 | some t => if okM (sortP (partsP t c.chs g)) = true then .ok (sortP (partsP t c.chs g)) else .error 160
def pageB (b s : Int) : Bool := paged (b.toNat, s.toNat) && decide (b.toNat + s.toNat ≤ 1099511627776)
def physP (t : Gs) : List Sp := t.wins.map (fun x => (x.pa.toNat, x.size.toNat)) ++ t.devs.map (fun x => (x.pa.toNat, x.size.toNat))
theorem range_all {f : Nat → Bool} {n : Nat} : (List.range n).all f = true ↔ ∀ i, i < n → f i = true := by simp [List.all_eq_true]
theorem range_snoc {f : Nat → Bool} {k : Nat} (h : (List.range k).all f = true) (hk : f k = true) : (List.range (k + 1)).all f = true := by
 rw [range_all] at h ⊢
 intro i hi
 by_cases e : i = k
 · rw [e]; exact hk
 · exact h i (by omega)
theorem range_off {f : Nat → Bool} {n k : Nat} (hn : k < n) (hk : f k = false) : (List.range n).all f = false := by
 rw [← Bool.not_eq_true, range_all]
 intro h
 have := h k hn
 rw [hk] at this
 cases this
theorem okAt_some {l : List Mp} {i : Nat} (h : i < l.length) : okAt l i = (gdS l[i] && (l.take i).all fun y => !overlap (ipaS l[i]) (ipaS y)) := by unfold okAt; rw [List.getElem?_eq_getElem h]
theorem overlap_comm (x y : Sp) : overlap x y = overlap y x := by
 rw [Bool.eq_iff_iff, overlap_iff, overlap_iff]
 constructor
 · rintro ⟨a, b, c, d⟩; exact ⟨b, a, d, c⟩
 · rintro ⟨a, b, c, d⟩; exact ⟨b, a, d, c⟩
theorem okM_iff {l : List Mp} : okM l = true ↔ (∀ x ∈ l, gdS x = true) ∧ l.Pairwise fun x y => overlap (ipaS x) (ipaS y) = false := by
 unfold okM
 rw [range_all]
 constructor
 · intro h
   refine ⟨fun x hx => ?_, ?_⟩
   · obtain ⟨i, hi, rfl⟩ := List.mem_iff_getElem.1 hx
     have := h i hi
     rw [okAt_some hi, Bool.and_eq_true] at this
     exact this.1
   · rw [List.pairwise_iff_getElem]
     intro i j hi hj hij
     have := h j hj
     rw [okAt_some hj, Bool.and_eq_true, List.all_eq_true] at this
     have h2 := this.2 l[i] (by rw [List.mem_iff_getElem]; exact ⟨i, by rw [List.length_take]; omega, by rw [List.getElem_take]⟩)
     rw [overlap_comm]
     simpa using h2
 · rintro ⟨h1, h2⟩ i hi
   rw [okAt_some hi, Bool.and_eq_true, List.all_eq_true]
   refine ⟨h1 _ (List.getElem_mem hi), fun y hy => ?_⟩
   obtain ⟨j, hj, rfl⟩ := List.mem_iff_getElem.1 hy
   rw [List.length_take] at hj
   rw [List.getElem_take]
   have := List.pairwise_iff_getElem.1 h2 j i (by omega) hi (by omega)
   rw [overlap_comm, this]; rfl
theorem insP_perm (l : List Mp) (m : Mp) : (insP l m).Perm (m :: l) := by
 unfold insP
 have h := List.takeWhile_append_dropWhile (p := fun x : Mp => decide (x.ipa ≤ m.ipa)) (l := l)
 exact (List.perm_middle).trans (List.Perm.cons m (by rw [h]))
theorem fold_perm : ∀ (l k : List Mp), (l.foldl insP k).Perm (k ++ l)
 | [], k => by simp
 | m :: l, k => by
  rw [List.foldl_cons]
  refine (fold_perm l (insP k m)).trans ?_
  refine ((insP_perm k m).append_right l).trans ?_
  exact (List.perm_middle).symm
theorem sortP_perm (l : List Mp) : (sortP l).Perm l := by
 have := fold_perm l []
 rw [List.nil_append] at this
 exact this
def Sorted (l : List Mp) : Prop := l.Pairwise fun x y => x.ipa ≤ y.ipa
theorem dropWhile_head {α : Type} (p : α → Bool) : ∀ (l : List α) (x : α) (r : List α), l.dropWhile p = x :: r → p x = false
 | [], _, _, h => by simp at h
 | y :: l, x, r, h => by
  rw [List.dropWhile_cons] at h
  split at h
  · exact dropWhile_head p l x r h
  · injection h with h1 _
    subst h1
    simpa using (by assumption : ¬ p y = true)
theorem insP_sorted {l : List Mp} (h : Sorted l) (m : Mp) : Sorted (insP l m) := by
 unfold insP Sorted
 have e := List.takeWhile_append_dropWhile (p := fun x : Mp => decide (x.ipa ≤ m.ipa)) (l := l)
 have hs : (l.takeWhile (fun x => decide (x.ipa ≤ m.ipa)) ++ l.dropWhile (fun x => decide (x.ipa ≤ m.ipa))).Pairwise fun x y : Mp => x.ipa ≤ y.ipa := by rw [e]; exact h
 rw [List.pairwise_append] at hs ⊢
 obtain ⟨s1, s2, s3⟩ := hs
 have hT : ∀ x ∈ l.takeWhile (fun x => decide (x.ipa ≤ m.ipa)), x.ipa ≤ m.ipa := fun x hx => by
   have := List.all_eq_true.1 (List.all_takeWhile (p := fun x : Mp => decide (x.ipa ≤ m.ipa)) (l := l)) x hx
   simpa using this
 have hD : ∀ y ∈ l.dropWhile (fun x => decide (x.ipa ≤ m.ipa)), m.ipa ≤ y.ipa := fun y hy => by
   cases hd : l.dropWhile (fun x => decide (x.ipa ≤ m.ipa)) with
   | nil => rw [hd] at hy; cases hy
   | cons z r =>
    have hz := dropWhile_head _ _ _ _ hd
    have hz : ¬ z.ipa ≤ m.ipa := by simpa using hz
    rw [hd] at hy s2
    rcases List.mem_cons.1 hy with rfl | hy
    · omega
    · have := (List.pairwise_cons.1 s2).1 y hy
      omega
 refine ⟨s1, List.pairwise_cons.2 ⟨hD, s2⟩, fun x hx y hy => ?_⟩
 rcases List.mem_cons.1 hy with rfl | hy
 · exact hT x hx
 · exact s3 x hx y hy
theorem fold_sorted : ∀ (l k : List Mp), Sorted k → Sorted (l.foldl insP k)
 | [], _, h => h
 | m :: l, k, h => fold_sorted l (insP k m) (insP_sorted h m)
theorem sortP_sorted (l : List Mp) : Sorted (sortP l) := fold_sorted l [] List.Pairwise.nil
theorem okM_perm {l k : List Mp} (h : l.Perm k) : okM l = okM k := by
 rw [Bool.eq_iff_iff, okM_iff, okM_iff]
 have hp := h.pairwise_iff (R := fun x y => overlap (ipaS x) (ipaS y) = false) (fun {x y} e => by rw [overlap_comm]; exact e)
 constructor
 · rintro ⟨h1, h2⟩; exact ⟨fun x hx => h1 x (h.mem_iff.2 hx), hp.1 h2⟩
 · rintro ⟨h1, h2⟩; exact ⟨fun x hx => h1 x (h.mem_iff.1 hx), hp.2 h2⟩
theorem ok_rise {x y : Mp} (bx : MpB x) (bz : MpB y) (hx : gdS x = true) (hy : gdS y = true) (ho : overlap (ipaS x) (ipaS y) = false) (hle : x.ipa ≤ y.ipa) : x.ipa + x.size ≤ y.ipa ∧ 0 < x.size := by
 unfold gdS at hx hy
 rw [Bool.and_eq_true] at hx hy
 have g1 := (good_iff _).1 hx.1
 have g2 := (good_iff _).1 hy.1
 have : ¬ overlap (ipaS x) (ipaS y) = true := by rw [ho]; decide
 rw [overlap_iff] at this
 have b1 := bx.ipa.1
 have b2 := bx.size.1
 have b3 := bz.ipa.1
 have b4 := bz.size.1
 unfold ipaS at *
 simp only at *
 constructor
 · by_cases hc : x.ipa + x.size ≤ y.ipa
   · exact hc
   · exact absurd ⟨hx.1, hy.1, by omega, by omega⟩ this
 · omega
theorem sorted_ok {l : List Mp} (hb : ∀ x ∈ l, MpB x) (hs : Sorted l) (ho : okM l = true) : l.Pairwise fun x y => x.ipa + x.size ≤ y.ipa ∧ x.ipa < y.ipa := by
 obtain ⟨h1, h2⟩ := okM_iff.1 ho
 rw [List.pairwise_iff_getElem]
 intro i j hi hj hij
 have a1 := List.pairwise_iff_getElem.1 hs i j hi hj hij
 have a2 := List.pairwise_iff_getElem.1 h2 i j hi hj hij
 have := ok_rise (hb _ (List.getElem_mem hi)) (hb _ (List.getElem_mem hj)) (h1 _ (List.getElem_mem hi)) (h1 _ (List.getElem_mem hj)) a2 a1
 omega
theorem once {l : List Mp} (ho : okM l = true) (p : Nat) : (l.filter fun x => has (ipaS x) p).length ≤ 1 := by
 obtain ⟨-, h2⟩ := okM_iff.1 ho
 have h3 := h2.filter fun x => has (ipaS x) p
 have hm : ∀ x ∈ l.filter (fun x => has (ipaS x) p), has (ipaS x) p = true := fun x hx => (List.mem_filter.1 hx).2
 match hf : l.filter (fun x => has (ipaS x) p) with
 | [] => simp
 | [_] => simp
 | x :: y :: r =>
  exfalso
  rw [hf] at h3 hm
  have ho2 := (List.pairwise_cons.1 h3).1 y (by simp)
  have k1 := (has_iff _ _).1 (hm x (by simp))
  have k2 := (has_iff _ _).1 (hm y (by simp))
  have : overlap (ipaS x) (ipaS y) = true := (overlap_iff _ _).2 ⟨k1.1, k2.1, by omega, by omega⟩
  rw [ho2] at this
  cases this
theorem rise_eq : ∀ {l k : List Mp}, l.Perm k → l.Pairwise (fun x y => x.ipa < y.ipa) → k.Pairwise (fun x y => x.ipa < y.ipa) → l = k
 | [], k, h, _, _ => h.nil_eq
 | x :: l, [], h, _, _ => by have := h.length_eq; simp at this
 | x :: l, y :: k, h, h1, h2 => by
  have hx : x ∈ y :: k := h.mem_iff.1 (by simp)
  have hy : y ∈ x :: l := h.mem_iff.2 (by simp)
  have e : x = y := by
   rcases List.mem_cons.1 hx with e | hx
   · exact e
   rcases List.mem_cons.1 hy with e | hy
   · exact e.symm
   have a1 := (List.pairwise_cons.1 h2).1 x hx
   have a2 := (List.pairwise_cons.1 h1).1 y hy
   omega
  subst e
  rw [rise_eq h.cons_inv (List.pairwise_cons.1 h1).2 (List.pairwise_cons.1 h2).2]
theorem sort_unique {l k : List Mp} (hb : ∀ x ∈ l, MpB x) (hp : k.Perm l) (hs : Sorted k) (ho : okM l = true) : k = sortP l := by
 have hpk : k.Perm (sortP l) := hp.trans (sortP_perm l).symm
 have o1 : okM k = true := by rw [okM_perm hp]; exact ho
 have o2 : okM (sortP l) = true := by rw [okM_perm (sortP_perm l)]; exact ho
 exact rise_eq hpk ((sorted_ok (fun x hx => hb x (hp.mem_iff.1 hx)) hs o1).imp fun h => h.2) ((sorted_ok (fun x hx => hb x ((sortP_perm l).mem_iff.1 hx)) (sortP_sorted l) o2).imp fun h => h.2)
theorem chM_len (g : Int) (c : Ch) : (chM g c).length = (if c.a.guest = g then 1 else 0) + (if c.b.guest = g then 1 else 0) := by
 unfold chM
 by_cases h1 : c.a.guest = g <;> by_cases h2 : c.b.guest = g <;> simp [h1, h2]
end Go.Proofs.YtkaipknkjocfiaaGreat
namespace Go.Proofs.YtkaipknkjocfiaaGreat
open Go.RowKit
abbrev spv (x : Sp) : Value := .agg #[.int .u64 (x.1 : Int), .int .u64 (x.2 : Int)]
abbrev spo (a b : Nat) : Obj := .cells #[.int .u64 (a : Int), .int .u64 (b : Int)] 24
theorem wrap_sub1 {b : Nat} (h : 0 < b) (h2 : b < 18446744073709551616) : IntKind.u64.wrap ((b : Int) - 1) = (b : Int) - 1 := by simp [IntKind.wrap, IntKind.bits, IntKind.signed]; omega
theorem wrap_top {a : Nat} (h : a < 18446744073709551616) : IntKind.u64.wrap (18446744073709551615 - (a : Int)) = 18446744073709551615 - (a : Int) := by simp [IntKind.wrap, IntKind.bits, IntKind.signed]; omega
set_option maxHeartbeats 400000 in
theorem good_any (a b : Nat) (hx : fit (a, b)) (w : World) :
   Calls Tryz.prog 106 #[.agg #[.int .u64 (a : Int), .int .u64 (b : Int)]] w fun e w' => e = .returned (.bool (good (a, b))) ∧ w' = w.alloc (spo a b) := by
 have Hx := Lib.hid hx
 obtain ⟨h1, h2⟩ := hx
 simp only at h1 h2
 by_cases h : 0 < b
 · have h' : (0 : Int) < b := by omega
   have e1 := wrap_sub1 h h2
   have e2 := wrap_top h1
   by_cases h3 : (b : Int) - 1 ≤ 18446744073709551615 - a
   · have e3 : good (a, b) = true := (good_iff _).2 ⟨h, by simp only; omega⟩
     rw [e3]
     clear h h1 h2
     go_enter Tryz.func106, Tryz.ntmps106
     go_wp2
     go_ret
     exact ⟨rfl, rfl⟩
   · have e3 : good (a, b) = false := by rw [← Bool.not_eq_true, good_iff]; simp only; omega
     rw [e3]
     clear h h1 h2
     go_enter Tryz.func106, Tryz.ntmps106
     go_wp2
     go_ret
     exact ⟨rfl, rfl⟩
 · obtain rfl : b = 0 := by omega
   have e3 : good (a, 0) = false := by simp [good]
   rw [e3]
   go_enter Tryz.func106, Tryz.ntmps106
   go_wp2
   go_ret
   exact ⟨rfl, rfl⟩
set_option maxHeartbeats 400000 in
theorem last_any (a b : Nat) (hx : fit (a, b)) (w : World) :
   Calls Tryz.prog 105 #[.agg #[.int .u64 (a : Int), .int .u64 (b : Int)]] w fun e w' => e = .returned (.int .u64 (last (a, b) : Nat)) ∧ w' = (w.alloc (spo a b)).alloc (spo a b) := by
 have Hx := Lib.hid hx
 obtain ⟨h1, h2⟩ := hx
 simp only at h1 h2
 by_cases h : good (a, b) = true
 · have hg := (good_iff _).1 h
   have hl := last_good h
   simp only at hg hl
   have e1 := wrap_sub1 hg.1 h2
   have e2 : IntKind.u64.wrap ((a : Int) + ((b : Int) - 1)) = (last (a, b) : Nat) := by simp [IntKind.wrap, IntKind.bits, IntKind.signed]; omega
   clear h1 h2 hg hl
   go_enter Tryz.func105, Tryz.ntmps105
   go_wp2_with (go_at_call 106; refine (good_any a b Hx.out _).mono ?_; rintro e w1 ⟨rfl, rfl⟩)
   go_ret
   exact ⟨rfl, rfl⟩
 · have h' : good (a, b) = false := by simpa using h
   have e2 : last (a, b) = 0 := last_bad h'
   rw [e2]
   clear h h1 h2
   go_enter Tryz.func105, Tryz.ntmps105
   go_wp2_with (go_at_call 106; refine (good_any a b Hx.out _).mono ?_; rintro e w1 ⟨rfl, rfl⟩)
   go_ret
   exact ⟨rfl, rfl⟩
set_option maxHeartbeats 400000 in
theorem rgood_any (a b : Nat) (hx : fit (a, b)) (w : World) :
   Calls Tryz.prog 33 #[.agg #[.int .u64 (a : Int), .int .u64 (b : Int)]] w fun e w' => e = .returned (.bool (good (a, b))) ∧ w' = w.alloc (spo a b) := by
 obtain ⟨h1, h2⟩ := hx
 simp only at h1 h2
 by_cases h : 0 < b
 · have h' : (0 : Int) < b := by omega
   have e1 := wrap_sub1 h h2
   have e2 : IntKind.u64.wrap (18446744073709551615 - ((b : Int) - 1)) = 18446744073709551615 - ((b : Int) - 1) := by simp [IntKind.wrap, IntKind.bits, IntKind.signed]; omega
   by_cases h3 : (a : Int) ≤ 18446744073709551615 - ((b : Int) - 1)
   · have e3 : good (a, b) = true := (good_iff _).2 ⟨h, by simp only; omega⟩
     rw [e3]
     clear h h1 h2
     go_enter Tryz.func33, Tryz.ntmps33
     go_wp2
     go_ret
     exact ⟨rfl, rfl⟩
   · have e3 : good (a, b) = false := by rw [← Bool.not_eq_true, good_iff]; simp only; omega
     rw [e3]
     clear h h1 h2
     go_enter Tryz.func33, Tryz.ntmps33
     go_wp2
     go_ret
     exact ⟨rfl, rfl⟩
 · obtain rfl : b = 0 := by omega
   have e3 : good (a, 0) = false := by simp [good]
   rw [e3]
   go_enter Tryz.func33, Tryz.ntmps33
   go_wp2
   go_ret
   exact ⟨rfl, rfl⟩
set_option maxHeartbeats 400000 in
theorem rlast_any (a b : Nat) (hx : fit (a, b)) (w : World) :
   Calls Tryz.prog 58 #[.agg #[.int .u64 (a : Int), .int .u64 (b : Int)]] w fun e w' => e = .returned (.int .u64 (last (a, b) : Nat)) ∧ w' = (w.alloc (spo a b)).alloc (spo a b) := by
 have Hx := Lib.hid hx
 obtain ⟨h1, h2⟩ := hx
 simp only at h1 h2
 by_cases h : good (a, b) = true
 · have hg := (good_iff _).1 h
   have hl := last_good h
   simp only at hg hl
   have e1 := wrap_sub1 hg.1 h2
   have e2 : IntKind.u64.wrap ((a : Int) + ((b : Int) - 1)) = (last (a, b) : Nat) := by simp [IntKind.wrap, IntKind.bits, IntKind.signed]; omega
   clear h1 h2 hg hl
   go_enter Tryz.func58, Tryz.ntmps58
   go_wp2_with (go_at_call 33; refine (rgood_any a b Hx.out _).mono ?_; rintro e w1 ⟨rfl, rfl⟩)
   go_ret
   exact ⟨rfl, rfl⟩
 · have h' : good (a, b) = false := by simpa using h
   have e2 : last (a, b) = 0 := last_bad h'
   rw [e2]
   clear h h1 h2
   go_enter Tryz.func58, Tryz.ntmps58
   go_wp2_with (go_at_call 33; refine (rgood_any a b Hx.out _).mono ?_; rintro e w1 ⟨rfl, rfl⟩)
   go_ret
   exact ⟨rfl, rfl⟩
def Laid (w w' : World) : Prop := ∃ os : List Obj, w' = os.foldl World.alloc w
theorem Laid.below {w w' : World} (h : Laid w w') : Below w.heap.size w w' := by
 obtain ⟨os, rfl⟩ := h
 have : ∀ (os : List Obj) (a : World), Below w.heap.size w a → Below w.heap.size w (os.foldl World.alloc a) := by
  intro os
  induction os with
  | nil => intro a h; exact h
  | cons o os ih => intro a h; exact ih _ (h.alloc h.size o)
 exact this os w (Below.refl _ _)
set_option maxHeartbeats 400000 in
theorem has_any (a b p : Nat) (hx : fit (a, b)) (w : World) :
   Calls Tryz.prog 84 #[.agg #[.int .u64 (a : Int), .int .u64 (b : Int)], .int .u64 (p : Int)] w fun e w' => e = .returned (.bool (has (a, b) p)) ∧ Below w.heap.size w w' := by
 have Hx := Lib.hid hx
 by_cases h : good (a, b) = true
 · have hg := (good_iff _).1 h
   have hl := last_good h
   simp only at hg hl
   by_cases h1 : a ≤ p
   · by_cases h2 : p ≤ last (a, b)
     · have e : has (a, b) p = true := (has_iff _ _).2 ⟨h, by simp only; omega, by simp only; omega⟩
       rw [e]
       clear hg hl
       go_enter Tryz.func84, Tryz.ntmps84
       go_wp2_with (first
        | (go_at_call 106; refine (good_any a b Hx.out _).mono ?_; rintro e w1 ⟨rfl, rfl⟩)
        | (go_at_call 105; refine (last_any a b Hx.out _).mono ?_; rintro e w1 ⟨rfl, rfl⟩))
       go_ret
       exact ⟨rfl, Laid.below ⟨[_, _, _, _], rfl⟩⟩
     · have e : has (a, b) p = false := by rw [← Bool.not_eq_true, has_iff]; simp only; omega
       rw [e]
       clear hg hl
       go_enter Tryz.func84, Tryz.ntmps84
       go_wp2_with (first
        | (go_at_call 106; refine (good_any a b Hx.out _).mono ?_; rintro e w1 ⟨rfl, rfl⟩)
        | (go_at_call 105; refine (last_any a b Hx.out _).mono ?_; rintro e w1 ⟨rfl, rfl⟩))
       go_ret
       exact ⟨rfl, Laid.below ⟨[_, _, _, _], rfl⟩⟩
   · have e : has (a, b) p = false := by rw [← Bool.not_eq_true, has_iff]; simp only; omega
     rw [e]
     clear hg hl
     go_enter Tryz.func84, Tryz.ntmps84
     go_wp2_with (go_at_call 106; refine (good_any a b Hx.out _).mono ?_; rintro e w1 ⟨rfl, rfl⟩)
     go_ret
     exact ⟨rfl, Laid.below ⟨[_, _], rfl⟩⟩
 · have h' : good (a, b) = false := by simpa using h
   have e : has (a, b) p = false := by simp [has, h']
   rw [e]
   go_enter Tryz.func84, Tryz.ntmps84
   go_wp2_with (go_at_call 106; refine (good_any a b Hx.out _).mono ?_; rintro e w1 ⟨rfl, rfl⟩)
   go_ret
   exact ⟨rfl, Laid.below ⟨[_, _], rfl⟩⟩
theorem good_bel (a b : Nat) (hx : fit (a, b)) (w : World) :
  Calls Tryz.prog 106 #[.agg #[.int .u64 (a : Int), .int .u64 (b : Int)]] w fun e w' => e = .returned (.bool (good (a, b))) ∧ Below w.heap.size w w' :=
 (good_any a b hx w).mono fun _ _ ⟨h1, h2⟩ => ⟨h1, Laid.below ⟨[_], h2⟩⟩
theorem last_bel (a b : Nat) (hx : fit (a, b)) (w : World) :
  Calls Tryz.prog 105 #[.agg #[.int .u64 (a : Int), .int .u64 (b : Int)]] w fun e w' => e = .returned (.int .u64 (last (a, b) : Nat)) ∧ Below w.heap.size w w' :=
 (last_any a b hx w).mono fun _ _ ⟨h1, h2⟩ => ⟨h1, Laid.below ⟨[_, _], h2⟩⟩
theorem rgood_bel (a b : Nat) (hx : fit (a, b)) (w : World) :
  Calls Tryz.prog 33 #[.agg #[.int .u64 (a : Int), .int .u64 (b : Int)]] w fun e w' => e = .returned (.bool (good (a, b))) ∧ Below w.heap.size w w' :=
 (rgood_any a b hx w).mono fun _ _ ⟨h1, h2⟩ => ⟨h1, Laid.below ⟨[_], h2⟩⟩
theorem rlast_bel (a b : Nat) (hx : fit (a, b)) (w : World) :
  Calls Tryz.prog 58 #[.agg #[.int .u64 (a : Int), .int .u64 (b : Int)]] w fun e w' => e = .returned (.int .u64 (last (a, b) : Nat)) ∧ Below w.heap.size w w' :=
 (rlast_any a b hx w).mono fun _ _ ⟨h1, h2⟩ => ⟨h1, Laid.below ⟨[_, _], h2⟩⟩
theorem keep4 {w W W1 : World} {p q r s : Addr} {x y z u : Value} (hd : Below W.heap.size W W1)
  (h : Below w.heap.size w W ∧ W.cell? p = some x ∧ W.cell? q = some y ∧ W.cell? r = some z ∧ W.cell? s = some u) :
  Below w.heap.size w W1 ∧ W1.cell? p = some x ∧ W1.cell? q = some y ∧ W1.cell? r = some z ∧ W1.cell? s = some u := by
 obtain ⟨h0, h1, h2, h3, h4⟩ := h
 exact ⟨h0.trans (hd.mono h0.size), (hd.cell (World.block_lt_of_cell? W p h1)).trans h1, (hd.cell (World.block_lt_of_cell? W q h2)).trans h2, (hd.cell (World.block_lt_of_cell? W r h3)).trans h3, (hd.cell (World.block_lt_of_cell? W s h4)).trans h4⟩
theorem keep4_start (w : World) (a b c d : Nat) (W : World) (hW : W = ((w.alloc (spo a b)).alloc (spo c d)).drew) :
  Below w.heap.size w W ∧ W.cell? ⟨w.heap.size, 0, none⟩ = some (.int .u64 (a : Int)) ∧ W.cell? ⟨w.heap.size, 1, none⟩ = some (.int .u64 (b : Int)) ∧
   W.cell? ⟨w.heap.size + 1, 0, none⟩ = some (.int .u64 (c : Int)) ∧ W.cell? ⟨w.heap.size + 1, 1, none⟩ = some (.int .u64 (d : Int)) := by
 subst hW
 refine ⟨(Laid.below ⟨[_, _], rfl⟩).drew, ?_, ?_, ?_, ?_⟩ <;> simp
end Go.Proofs.YtkaipknkjocfiaaGreat
