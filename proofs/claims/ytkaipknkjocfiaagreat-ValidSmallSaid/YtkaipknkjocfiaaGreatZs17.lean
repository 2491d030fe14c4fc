import Derived.Sort.LotA
import Derived.Sort.LotD2
import Derived.Shelf.SlSortCmp.KitK
import Derived.Sort.WalkB2
import Derived.Sort.WalkB12
import Derived.Deep.LoopGhost
import Derived.Test.YtkaipknkjocfiaaGreatProg
import Derived.Test.YtkaipknkjocfiaaGreatZs0
namespace Go.Proofs.YtkaipknkjocfiaaGreat
open Go.Sort
variable {α : Type} [Inhabited α] {lt : α → α → Bool}
def swrF (f : Nat → α) (a b n x : Nat) : α := if a ≤ x ∧ x < a + n then f (x - a + b) else if b ≤ x ∧ x < b + n then f (x - b + a) else f x
def rotF (f : Nat → α) (a m b x : Nat) : α := if a ≤ x ∧ x < a + (b - m) then f (x - a + m) else if a + (b - m) ≤ x ∧ x < b then f (x - (b - m)) else f x
def at_ (d : Array α) (x : Nat) : α := d[x]!
structure SwrP (d dk : Array α) (a b n i : Nat) : Prop where
 size : dk.size = d.size
 get : ∀ x, dk[x]! = swrF (at_ d) a b i x
 perm : ∀ lo hi, lo ≤ a → b + n ≤ hi → hi ≤ d.size → PermIn lo hi d dk
theorem SwrP.start (d : Array α) (a b n : Nat) : SwrP d d a b n 0 := ⟨rfl, fun x => by
 unfold swrF at_
 rw [if_neg (by omega), if_neg (by omega)], fun _ _ _ _ _ => permIn_refl _ _ _⟩
theorem SwrP.step {d dk : Array α} {a b n i : Nat} (h : SwrP d dk a b n i) (hi : i < n) (hab : a + n ≤ b) (hb : b + n ≤ d.size) : SwrP d (swp dk (a + i) (b + i)) a b n (i + 1) := by
 have hs := h.size
 refine ⟨by rw [swp_size]; exact hs, fun x => ?_, fun lo hi' h1 h2 h3 => permIn_trans _ _ _ _ _ (h.perm lo hi' h1 h2 h3) (swp_permIn dk lo hi' (a + i) (b + i) (by omega) (by omega) (by omega) (by omega) (by omega))⟩
 rw [swp_get _ (by omega) (by omega), h.get, h.get, h.get]
 unfold swrF
 repeat' split
 all_goals first | rfl | (exfalso; omega) | (congr 1; omega)
structure RotP (d dk : Array α) (a m b : Nat) : Prop where
 size : dk.size = d.size
 get : ∀ x, dk[x]! = rotF (at_ d) a m b x
 perm : PermIn a b d dk
omit [Inhabited α] in
theorem rot_same_l {f : Nat → α} {m b x : Nat} (h : m ≤ b) : rotF f m m b x = f x := by
 unfold rotF
 repeat' split
 all_goals first | rfl | (exfalso; omega) | (congr 1; omega)
omit [Inhabited α] in
theorem rot_same_r {f : Nat → α} {a m x : Nat} : rotF f a m m x = f x := by
 unfold rotF
 repeat' split
 all_goals first | rfl | (exfalso; omega) | (congr 1; omega)
theorem RotP.same_l (d : Array α) {m b : Nat} (h : m ≤ b) : RotP d d m m b := ⟨rfl, fun x => by rw [rot_same_l h]; rfl, permIn_refl _ _ _⟩
theorem RotP.same_r (d : Array α) {a m : Nat} : RotP d d a m m := ⟨rfl, fun x => by rw [rot_same_r]; rfl, permIn_refl _ _ _⟩
structure RotI (d dk : Array α) (a m b i j : Nat) : Prop where
 size : dk.size = d.size
 get : ∀ x, rotF (at_ dk) (m - i) m (m + j) x = rotF (at_ d) a m b x
 perm : PermIn a b d dk
 i0 : 0 < i
 j0 : 0 < j
 ia : i ≤ m - a
 jb : j ≤ b - m
theorem RotI.start (d : Array α) {a m b : Nat} (h1 : a < m) (h2 : m < b) : RotI d d a m b (m - a) (b - m) :=
 ⟨rfl, fun x => by rw [show m - (m - a) = a by omega, show m + (b - m) = b by omega], permIn_refl _ _ _, by omega, by omega, by omega, by omega⟩
theorem RotI.left {d dk dl : Array α} {a m b i j : Nat} (h : RotI d dk a m b i j) (hs : SwrP dk dl (m - i) m j j) (hij : j < i) (ham : a ≤ m) (hmb : m ≤ b) (hb : b ≤ d.size) : RotI d dl a m b (i - j) j := by
 obtain ⟨k1, k2, k3, k4, k5, k6, k7⟩ := h
 refine ⟨hs.size.trans k1, fun x => ?_, permIn_trans _ _ _ _ _ k3 (hs.perm a b (by omega) (by omega) (by omega)), by omega, by omega, by omega, by omega⟩
 rw [← k2]
 have hg : ∀ y, at_ dl y = swrF (at_ dk) (m - i) m j y := hs.get
 unfold rotF
 simp only [hg]
 unfold swrF
 repeat' split
 all_goals first | rfl | (exfalso; omega) | (congr 1; omega)
theorem RotI.right {d dk dl : Array α} {a m b i j : Nat} (h : RotI d dk a m b i j) (hs : SwrP dk dl (m - i) (m + j - i) i i) (hij : i < j) (ham : a ≤ m) (hmb : m ≤ b) (hb : b ≤ d.size) : RotI d dl a m b i (j - i) := by
 obtain ⟨k1, k2, k3, k4, k5, k6, k7⟩ := h
 refine ⟨hs.size.trans k1, fun x => ?_, permIn_trans _ _ _ _ _ k3 (hs.perm a b (by omega) (by omega) (by omega)), by omega, by omega, by omega, by omega⟩
 rw [← k2]
 have hg : ∀ y, at_ dl y = swrF (at_ dk) (m - i) (m + j - i) i y := hs.get
 unfold rotF
 simp only [hg]
 unfold swrF
 repeat' split
 all_goals first | rfl | (exfalso; omega) | (congr 1; omega)
theorem RotI.last {d dk dl : Array α} {a m b i : Nat} (h : RotI d dk a m b i i) (hs : SwrP dk dl (m - i) m i i) (ham : a ≤ m) (hmb : m ≤ b) (hb : b ≤ d.size) : RotP d dl a m b := by
 obtain ⟨k1, k2, k3, k4, k5, k6, k7⟩ := h
 refine ⟨hs.size.trans k1, fun x => ?_, permIn_trans _ _ _ _ _ k3 (hs.perm a b (by omega) (by omega) (by omega))⟩
 rw [← k2, hs.get]
 unfold rotF swrF
 repeat' split
 all_goals first | rfl | (exfalso; omega) | (congr 1; omega)
theorem RotP.up {d dk : Array α} {a k : Nat} (h : RotP d dk a (a + 1) (k + 1)) (hak : a ≤ k) (hk : k + 1 < d.size) : RotP d (swp dk k (k + 1)) a (a + 1) (k + 2) := by
 have hs := h.size
 refine ⟨by rw [swp_size]; exact hs, fun x => ?_, permIn_trans _ _ _ _ _ (permIn_mono _ _ _ _ _ _ (Nat.le_refl _) (by omega) (by omega) h.perm) (swp_permIn dk a (k + 2) k (k + 1) (by omega) (by omega) (by omega) (by omega) (by omega))⟩
 rw [swp_get _ (by omega) (by omega), h.get, h.get, h.get]
 unfold rotF
 repeat' split
 all_goals first | rfl | (exfalso; omega) | (congr 1; omega)
theorem RotP.down {d dk : Array α} {k m : Nat} (h : RotP d dk (k + 1) m (m + 1)) (hk : k + 1 ≤ m) (hm : m < d.size) : RotP d (swp dk (k + 1) k) k m (m + 1) := by
 have hs := h.size
 refine ⟨by rw [swp_size]; exact hs, fun x => ?_, permIn_trans _ _ _ _ _ (permIn_mono _ _ _ _ _ _ (by omega) (Nat.le_refl _) (by omega) h.perm) (swp_permIn dk k (m + 1) (k + 1) k (by omega) (by omega) (by omega) (by omega) (by omega))⟩
 rw [swp_get _ (by omega) (by omega), h.get, h.get, h.get]
 unfold rotF
 repeat' split
 all_goals first | rfl | (exfalso; omega) | (congr 1; omega)
def LeAll (lt : α → α → Bool) (d : Array α) (a c b : Nat) : Prop := ∀ x y, a ≤ x → x < c → c ≤ y → y < b → lt d[y]! d[x]! = false
theorem sorted_join {d : Array α} {a c b : Nat} (h1 : SortedIn lt a c d) (h2 : SortedIn lt c b d) (h3 : LeAll lt d a c b) : SortedIn lt a b d := fun i j hi hij hj => by
 by_cases k1 : j < c
 · exact h1 i j hi hij k1
 · by_cases k2 : i < c
   · exact h3 i j hi k2 (by omega) hj
   · exact h2 i j (by omega) hij hj
theorem sorted_le (hO : SWO lt) {d : Array α} {a b i j : Nat} (h : SortedIn lt a b d) (hi : a ≤ i) (hij : i ≤ j) (hj : j < b) : lt d[j]! d[i]! = false := by
 by_cases e : i = j
 · subst e; exact hO.irrefl _
 · exact h i j hi (by omega) hj
structure MergeP (lt : α → α → Bool) (d d' : Array α) (a b : Nat) : Prop where
 perm : PermIn a b d d'
 sorted : SortedIn lt a b d'
theorem MergeP.size {d d' : Array α} {a b : Nat} (h : MergeP lt d d' a b) : d'.size = d.size := h.perm.1
theorem merge_up (hO : SWO lt) {d d' : Array α} {a b i : Nat} (hb : b ≤ d.size) (hs : SortedIn lt (a + 1) b d) (h1 : a + 1 ≤ i) (h2 : i ≤ b)
   (hl : ∀ p, a + 1 ≤ p → p < i → lt d[p]! d[a]! = true) (hr : ∀ p, i ≤ p → p < b → lt d[p]! d[a]! = false) (h : RotP d d' a (a + 1) i) : MergeP lt d d' a b := by
 refine ⟨permIn_mono _ _ _ _ _ _ (Nat.le_refl _) h2 hb h.perm, fun p q hp hpq hq => ?_⟩
 rw [h.get, h.get]
 unfold rotF at_
 by_cases c1 : q < i - 1
 · rw [if_pos (by omega), if_pos (by omega)]
   exact hs _ _ (by omega) (by omega) (by omega)
 · rw [if_neg (by omega)]
   by_cases c2 : q < i
   · rw [if_pos (by omega), if_pos (by omega), show q - (i - (a + 1)) = a by omega]
     exact hO.asymmA (hl _ (by omega) (by omega))
   · rw [if_neg (by omega)]
     by_cases c3 : p < i - 1
     · rw [if_pos (by omega)]
       exact hs _ _ (by omega) (by omega) (by omega)
     · rw [if_neg (by omega)]
       by_cases c4 : p < i
       · rw [if_pos (by omega), show p - (i - (a + 1)) = a by omega]
         exact hr _ (by omega) (by omega)
       · rw [if_neg (by omega)]
         exact hs _ _ (by omega) (by omega) (by omega)
theorem merge_down (hO : SWO lt) {d d' : Array α} {a m i : Nat} (hb : m + 1 ≤ d.size) (hs : SortedIn lt a m d) (h1 : a ≤ i) (h2 : i ≤ m)
   (hl : ∀ p, a ≤ p → p < i → lt d[m]! d[p]! = false) (hr : ∀ p, i ≤ p → p < m → lt d[m]! d[p]! = true) (h : RotP d d' i m (m + 1)) : MergeP lt d d' a (m + 1) := by
 refine ⟨permIn_mono _ _ _ _ _ _ h1 (Nat.le_refl _) hb h.perm, fun p q hp hpq hq => ?_⟩
 rw [h.get, h.get]
 unfold rotF at_
 by_cases c1 : q < i
 · rw [if_neg (by omega), if_neg (by omega), if_neg (by omega), if_neg (by omega)]
   exact hs _ _ (by omega) (by omega) (by omega)
 · by_cases c2 : q = i
   · rw [if_pos (by omega), if_neg (by omega), if_neg (by omega), show q - i + m = m by omega]
     exact hl _ (by omega) (by omega)
   · rw [if_neg (by omega), if_pos (by omega)]
     by_cases c3 : p < i
     · rw [if_neg (by omega), if_neg (by omega)]
       exact hs _ _ (by omega) (by omega) (by omega)
     · by_cases c4 : p = i
       · rw [if_pos (by omega), show p - i + m = m by omega]
         exact hO.asymmA (hr _ (by omega) (by omega))
       · rw [if_neg (by omega), if_pos (by omega)]
         exact hs _ _ (by omega) (by omega) (by omega)
structure CutS (lt : α → α → Bool) (d : Array α) (a m b lo hi st r : Nat) : Prop where
 l1 : lo ≤ st
 l2 : st ≤ r
 l3 : r ≤ hi
 left : st = lo ∨ lt d[(a + b) / 2 + m - 1 - (st - 1)]! d[st - 1]! = false
 right : r = hi ∨ lt d[(a + b) / 2 + m - 1 - r]! d[r]! = true
theorem CutS.start {d : Array α} {a m b lo hi : Nat} (h : lo ≤ hi) : CutS lt d a m b lo hi lo hi := ⟨Nat.le_refl _, h, Nat.le_refl _, .inl rfl, .inl rfl⟩
theorem CutS.up {d : Array α} {a m b lo hi st r : Nat} (h : CutS lt d a m b lo hi st r) (hlt : st < r) (hc : lt d[(a + b) / 2 + m - 1 - (st + r) / 2]! d[(st + r) / 2]! = false) : CutS lt d a m b lo hi ((st + r) / 2 + 1) r :=
 ⟨by have := h.l1; omega, by omega, h.l3, .inr (by rw [Nat.add_sub_cancel]; exact hc), h.right⟩
theorem CutS.down {d : Array α} {a m b lo hi st r : Nat} (h : CutS lt d a m b lo hi st r) (hlt : st < r) (hc : lt d[(a + b) / 2 + m - 1 - (st + r) / 2]! d[(st + r) / 2]! = true) : CutS lt d a m b lo hi st ((st + r) / 2) :=
 ⟨h.l1, by omega, by have := h.l3; omega, h.left, .inr hc⟩
def loS (a m b : Nat) : Nat := if (a + b) / 2 < m then (a + b) / 2 + m - b else a
def hiS (a m b : Nat) : Nat := if (a + b) / 2 < m then (a + b) / 2 else m
structure CutP (lt : α → α → Bool) (d : Array α) (a m b st e : Nat) : Prop where
 s1 : a ≤ st
 s2 : st ≤ m
 e1 : m ≤ e
 e2 : e ≤ b
 m1 : st + (e - m) = (a + b) / 2
 m2 : (a + b) / 2 + (m - st) = e
 o1 : ∀ x y, a ≤ x → x < st → e ≤ y → y < b → lt d[y]! d[x]! = false
 o2 : ∀ x y, m ≤ x → x < e → st ≤ y → y < m → lt d[y]! d[x]! = false
theorem CutS.done (hO : SWO lt) {d : Array α} {a m b st : Nat} (ham : a < m) (hmb : m < b) (h1 : SortedIn lt a m d) (h2 : SortedIn lt m b d) (h : CutS lt d a m b (loS a m b) (hiS a m b) st st) : CutP lt d a m b st ((a + b) / 2 + m - st) := by
 obtain ⟨l1, -, l3, hl, hr⟩ := h
 have hlo : loS a m b = if (a + b) / 2 < m then (a + b) / 2 + m - b else a := rfl
 have hhi : hiS a m b = if (a + b) / 2 < m then (a + b) / 2 else m := rfl
 have k1 : a ≤ st := by rw [hlo] at l1; split at l1 <;> omega
 have k2 : st ≤ m := by rw [hhi] at l3; split at l3 <;> omega
 have k3 : m ≤ (a + b) / 2 + m - st := by rw [hhi] at l3; split at l3 <;> omega
 have k4 : (a + b) / 2 + m - st ≤ b := by rw [hlo] at l1; split at l1 <;> omega
 refine ⟨k1, k2, k3, k4, by omega, by omega, fun x y hx hxs hy hyb => ?_, fun x y hx hxe hy hym => ?_⟩
 · have hne : st ≠ loS a m b := by rw [hlo]; split <;> omega
   rcases hl with hl | hl
   · exact absurd hl hne
   · rw [show (a + b) / 2 + m - 1 - (st - 1) = (a + b) / 2 + m - st by omega] at hl
     have g1 := sorted_le hO h1 hx (show x ≤ st - 1 by omega) (by omega)
     have g2 := sorted_le hO h2 (show m ≤ (a + b) / 2 + m - st by omega) hy hyb
     exact hO.ntrans _ _ _ g2 (hO.ntrans _ _ _ hl g1)
 · have hne : st ≠ hiS a m b := by rw [hhi]; split <;> omega
   rcases hr with hr | hr
   · exact absurd hr hne
   · rw [show (a + b) / 2 + m - 1 - st = (a + b) / 2 + m - st - 1 by omega] at hr
     have g1 := sorted_le hO h2 hx (show x ≤ (a + b) / 2 + m - st - 1 by omega) (by omega)
     have g2 := sorted_le hO h1 k1 hy hym
     exact hO.ntrans _ _ _ g2 (hO.ntrans _ _ _ (hO.asymmA hr) g1)
structure Rotd (lt : α → α → Bool) (d1 : Array α) (a st mid e b : Nat) : Prop where
 s1 : SortedIn lt a st d1
 s2 : SortedIn lt st mid d1
 s3 : SortedIn lt mid e d1
 s4 : SortedIn lt e b d1
 le : LeAll lt d1 a mid b
theorem CutP.rotd {d d1 : Array α} {a m b st e : Nat} (h : CutP lt d a m b st e) (h1 : SortedIn lt a m d) (h2 : SortedIn lt m b d) (hr : RotP d d1 st m e) : Rotd lt d1 a st ((a + b) / 2) e b := by
 obtain ⟨k1, k2, k3, k4, k5, k6, o1, o2⟩ := h
 have g1 : ∀ x, x < st → d1[x]! = d[x]! := fun x hx => by rw [hr.get]; unfold rotF at_; rw [if_neg (by omega), if_neg (by omega)]
 have g2 : ∀ x, st ≤ x → x < (a + b) / 2 → d1[x]! = d[x - st + m]! := fun x _ hx => by rw [hr.get]; unfold rotF at_; rw [if_pos (by omega)]
 have g3 : ∀ x, (a + b) / 2 ≤ x → x < e → d1[x]! = d[x - (e - m)]! := fun x _ hx => by rw [hr.get]; unfold rotF at_; rw [if_neg (by omega), if_pos (by omega)]
 have g4 : ∀ x, e ≤ x → d1[x]! = d[x]! := fun x hx => by rw [hr.get]; unfold rotF at_; rw [if_neg (by omega), if_neg (by omega)]
 refine ⟨fun i j hi hij hj => ?_, fun i j hi hij hj => ?_, fun i j hi hij hj => ?_, fun i j hi hij hj => ?_, fun x y hx hxc hy hyb => ?_⟩
 · rw [g1 j hj, g1 i (by omega)]; exact h1 i j hi hij (by omega)
 · rw [g2 j (by omega) hj, g2 i hi (by omega)]; exact h2 _ _ (by omega) (by omega) (by omega)
 · rw [g3 j (by omega) hj, g3 i hi (by omega)]; exact h1 _ _ (by omega) (by omega) (by omega)
 · rw [g4 j (by omega), g4 i hi]; exact h2 _ _ (by omega) (by omega) (by omega)
 · by_cases c1 : x < st
   · rw [g1 x c1]
     by_cases c2 : y < e
     · rw [g3 y hy c2]; exact h1 _ _ hx (by omega) (by omega)
     · rw [g4 y (by omega)]; exact o1 x y hx c1 (by omega) hyb
   · rw [g2 x (by omega) hxc]
     by_cases c2 : y < e
     · rw [g3 y hy c2]; exact o2 _ _ (by omega) (by omega) (by omega) (by omega)
     · rw [g4 y (by omega)]; exact h2 _ _ (by omega) (by omega) (by omega)
theorem merge_none {d : Array α} {a c b : Nat} (h1 : SortedIn lt a c d) (h2 : SortedIn lt c b d) (h : ¬ (a < c ∧ c < b)) : MergeP lt d d a b := by
 refine ⟨permIn_refl _ _ _, fun i j hi hij hj => ?_⟩
 by_cases k : a < c
 · exact h1 i j hi hij (by omega)
 · exact h2 i j (by omega) hij hj
theorem merge_whole {d d1 d2 d3 : Array α} {a b st e mid : Nat} (ham : a ≤ mid) (hmb : mid ≤ b) (hb : b ≤ d.size) (hp : PermIn a b d d1) (h : Rotd lt d1 a st mid e b) (h1 : MergeP lt d1 d2 a mid) (h2 : MergeP lt d2 d3 mid b) : MergeP lt d d3 a b := by
 have z1 := hp.1
 have z2 := h1.perm.1
 refine ⟨permIn_trans _ _ _ _ _ hp (permIn_trans _ _ _ _ _ (permIn_mono _ _ _ _ _ _ (Nat.le_refl _) hmb (by omega) h1.perm) (permIn_mono _ _ _ _ _ _ ham (Nat.le_refl _) (by omega) h2.perm)), ?_⟩
 refine sorted_join (c := mid) (SortedIn.congr h1.sorted fun i hi hj => h2.perm.2.1 i (.inl hj)) h2.sorted ?_
 have l2 : LeAll lt d2 a mid b := fun x y hx hxc hy hyb => by
  rw [h1.perm.2.1 y (.inr hy)]
  exact permIn_all d1 d2 a mid (fun v => lt d1[y]! v = false) (by omega) h1.perm (fun i hi hj => h.le i y hi hj hy hyb) x hx hxc
 intro x y hx hxc hy hyb
 rw [h2.perm.2.1 x (.inl hxc)]
 exact permIn_all d2 d3 mid b (fun v => lt v d2[x]! = false) (by omega) h2.perm (fun i hi hj => l2 x i hx hxc hi hj) y hy hyb
theorem sorted_out {d d' : Array α} {a b c e : Nat} (h : SortedIn lt c e d) (hp : PermIn a b d d') (ho : e ≤ a ∨ b ≤ c) : SortedIn lt c e d' := h.congr fun i hi hj => hp.2.1 i (by omega)
def Blks (lt : α → α → Bool) (s n t : Nat) (d : Array α) : Prop := ∀ u, t ≤ u → SortedIn lt (u * s) (min (u * s + s) n) d
def Done (lt : α → α → Bool) (s t : Nat) (d : Array α) : Prop := ∀ u, u < t → SortedIn lt (u * s) (u * s + s) d
theorem mul_succ_le {u t s : Nat} (h : u < t) : u * s + s ≤ t * s := by
 have := Nat.mul_le_mul_right s (show u + 1 ≤ t from h)
 rwa [Nat.add_mul, Nat.one_mul] at this
theorem Done.step {s t : Nat} {d d' : Array α} (h : Done lt s t d) (hm : MergeP lt d d' (t * s) (t * s + s)) : Done lt s (t + 1) d' := fun u hu => by
 by_cases e : u = t
 · subst e; exact hm.sorted
 · exact sorted_out (h u (by omega)) hm.perm (.inl (mul_succ_le (by omega)))
theorem Done.whole {s t n : Nat} {d d' : Array α} (h : Done lt s t d) (h1 : t * s ≤ n) (hn : n < t * s + s) (hm : MergeP lt d d' (t * s) n) : Blks lt s n 0 d' := fun u _ => by
 by_cases e : u < t
 · have := mul_succ_le (s := s) e
   rw [Nat.min_eq_left (by omega)]
   exact sorted_out (h u e) hm.perm (.inl this)
 · by_cases e2 : u = t
   · subst e2
     rw [Nat.min_eq_right (by omega)]
     exact hm.sorted
   · have := mul_succ_le (s := s) (show t < u by omega)
     intro i j hi hij hj
     have : min (u * s + s) n ≤ n := Nat.min_le_right _ _
     omega
theorem Blks.out {s n t t' : Nat} {a b : Nat} {d d' : Array α} (h : Blks lt s n t d) (hp : PermIn a b d d') (ht : t ≤ t') (ho : b ≤ t' * s) : Blks lt s n t' d' := fun u hu =>
 sorted_out (h u (by omega)) hp (.inr (Nat.le_trans ho (Nat.mul_le_mul_right s hu)))
theorem Blks.at_ {s n t : Nat} {d : Array α} (h : Blks lt s n t d) (hn : t * s + s ≤ n) : SortedIn lt (t * s) (t * s + s) d := by
 have := h t (Nat.le_refl _)
 rwa [Nat.min_eq_left hn] at this
theorem Blks.last {s n t : Nat} {d : Array α} (h : Blks lt s n t d) (hn : n ≤ t * s + s) : SortedIn lt (t * s) n d := by
 have := h t (Nat.le_refl _)
 rwa [Nat.min_eq_right hn] at this
theorem Blks.one {s n : Nat} {d : Array α} (h : Blks lt s n 0 d) (hn : n ≤ s) : SortedIn lt 0 n d := by
 have := h.last (by omega)
 rwa [Nat.zero_mul] at this
end Go.Proofs.YtkaipknkjocfiaaGreat
namespace Go.Proofs.YtkaipknkjocfiaaGreat
open Go.RowKit Go.Shelf Go.Lib Go.Sort Go.Proofs
variable {α : Type} [Inhabited α]
set_option maxHeartbeats 4000000 in
set_option maxRecDepth 1000000 in
theorem swr_k (k : Nat) (zE : ∀ w, (Go.sizeOf 145).run Tryz.prog w = .ok k w) (enc : α → List Value) (g : Nat) (cb : Array Value) (blk off cap a b n : Nat) (d0 d : Array α) (w0 w : World)
  (R : RowK enc k w0 blk off d0) (hs : d0.size = d.size) (S : SWK enc k w0 blk off d w) (hab : a + n ≤ b) (hb : b + n ≤ d.size) (hsz : d.size < 4611686018427387904) :
  Calls Tryz.prog 198 #[.slice (some ⟨blk, off, none⟩) d.size cap, .int .i64 (a : Int), .int .i64 (b : Int), .int .i64 (n : Int), .func (.func g) #[] cb] w fun e w' => e = .returned (.tuple #[]) ∧ ∃ dk, SwrP d dk a b n n ∧ SWK enc k w0 blk off dk w' := by
 have mixed : Tryz.prog.follows Departure.mixedOrders = true := by kernel_rfl
 have aE := Tryz.isAgg145
 have S0 : Aside (SWK enc k w0 blk off d w) := S
 clear S
 go_enter Tryz.func198, Tryz.ntmps198
 go_wp2
 go_loopg [10] n (fun kx s wr => ∃ (i : Nat) (dk : Array α), s = .int .i64 (i : Int) ∧ i ≤ n ∧ n - i ≤ kx ∧ Aside (SwrP d dk a b n i) ∧ Aside (SWK enc k w0 blk off dk wr))
 case atStart => exact ⟨0, d, rfl, Nat.zero_le _, by omega, SwrP.start d a b n, S0⟩
 case round =>
  clear S0
  obtain ⟨i, dk, rfl, hi, hkx, HP, S1⟩ := hrel
  by_cases hlt : i < n
  · have hds : dk.size = d.size := HP.out.size
    obtain ⟨p, hp⟩ : ∃ p : Nat, p = a + i := ⟨_, rfl⟩
    obtain ⟨q, hq⟩ : ∃ q : Nat, q = b + i := ⟨_, rfl⟩
    have wp : IntKind.i64.wrap ((a : Int) + (i : Int)) = (p : Int) := by rw [IntKind.wrap_i64] <;> omega
    have wq : IntKind.i64.wrap ((b : Int) + (i : Int)) = (q : Int) := by rw [IntKind.wrap_i64] <;> omega
    have hltz : (i : Int) < (n : Int) := by omega
    have ea : ((p : Int)).toNat = p := by omega
    have pa : (0 : Int) ≤ (p : Int) := by omega
    have ba : (p : Int) < (d.size : Int) := by omega
    have ec : ((q : Int)).toNat = q := by omega
    have pc : (0 : Int) ≤ (q : Int) := by omega
    have bc : (q : Int) < (d.size : Int) := by omega
    have hpd : p < dk.size := by omega
    have hqd : q < dk.size := by omega
    have S2 : Aside (SWK enc k w0 blk off (swp dk p q) ((wr.drew.setCells blk (off + p * k) (enc dk[q]!)).setCells blk (off + q * k) (enc dk[p]!))) := S1.out.swapped R p q hpd hqd
    have HP2 : Aside (SwrP d (swp dk p q) a b n (i + 1)) := by
     show SwrP _ _ _ _ _ _
     rw [hp, hq]; exact HP.out.step hlt hab hb
    have la := S1.out.ld1 R (by omega) Tryz.prog p hpd
    have lb := S1.out.ld1 R (by omega) Tryz.prog q hqd
    have sa := S1.out.st1 R (by omega) Tryz.prog p hpd dk[q]!
    have sb := S1.out.st2 R (by omega) Tryz.prog p q hpd hqd dk[q]! dk[p]!
    have na : (enc dk[p]!).length = k := R.hk _
    have nb : (enc dk[q]!).length = k := R.hk _
    generalize enc dk[p]! = cI at S2 la sb na
    generalize enc dk[q]! = cJ at S2 lb sb sa nb
    have Hpq : Aside (p = a + i ∧ q = b + i) := ⟨hp, hq⟩
    clear S1 HP hp hq hpd hqd hds
    go_wp2_with fail
    go_big_region_o
    clear la lb sa sb
    generalize (wr.drew.setCells blk (off + p * k) cJ).setCells blk (off + q * k) cI = w2 at S2 ⊢
    go_wp2
    go_roundg (n - (i + 1))
    case measure => omega
    case rel => exact ⟨i + 1, swp dk p q, by first | rfl | go_num, hlt, Nat.le_refl _, HP2, S2⟩
  · obtain rfl : i = n := by omega
    go_wp2
    go_end0
    exact ⟨rfl, dk, HP.out, S1.out⟩
set_option maxHeartbeats 4000000 in
set_option maxRecDepth 1000000 in
theorem rot_k (k : Nat) (zE : ∀ w, (Go.sizeOf 145).run Tryz.prog w = .ok k w) (enc : α → List Value) (g : Nat) (cb : Array Value) (blk off cap a m b : Nat) (d0 d : Array α) (w0 w : World)
  (R : RowK enc k w0 blk off d0) (hs : d0.size = d.size) (S : SWK enc k w0 blk off d w) (ham : a < m) (hmb : m < b) (hb : b ≤ d.size) (hsz : d.size < 4611686018427387904) :
  Calls Tryz.prog 194 #[.slice (some ⟨blk, off, none⟩) d.size cap, .int .i64 (a : Int), .int .i64 (m : Int), .int .i64 (b : Int), .func (.func g) #[] cb] w fun e w' => e = .returned (.tuple #[]) ∧ ∃ dk, RotP d dk a m b ∧ SWK enc k w0 blk off dk w' := by
 have S0 : Aside (SWK enc k w0 blk off d w) := S
 clear S
 go_enter Tryz.func194, Tryz.ntmps194
 go_wp2
 go_loopg [10, 11] (m - a + (b - m)) (fun kx s1 s2 wr => ∃ (i j : Nat) (dk : Array α), s1 = .int .i64 (i : Int) ∧ s2 = .int .i64 (j : Int) ∧ i + j ≤ kx ∧ 0 < i ∧ 0 < j ∧ i ≤ m - a ∧ j ≤ b - m ∧ dk.size = d.size ∧ Aside (RotI d dk a m b i j) ∧ Aside (SWK enc k w0 blk off dk wr))
 case atStart => exact ⟨m - a, b - m, d, by first | rfl | go_num | (congr 1; omega), by first | rfl | go_num | (congr 1; omega), Nat.le_refl _, by omega, by omega, Nat.le_refl _, Nat.le_refl _, rfl, RotI.start d ham hmb, S0⟩
 case round =>
  clear S0
  obtain ⟨i, j, dk, rfl, rfl, hkx, hi0, hj0, him, hjm, hds, HP, S1⟩ := hrel
  by_cases hij : i = j
  · subst hij
    have hc := swr_k k zE enc g cb blk off cap (m - i) m i d0 dk w0 wr R (by omega) S1.out (by omega) (by omega) (by omega)
    rw [show ((m - i : Nat) : Int) = (m : Int) - (i : Int) by omega, hds] at hc
    have HC := Lib.hid hc
    clear hc S1
    go_wp2_with (go_at_call 198; refine HC.out.mono ?_; rintro e w1 ⟨rfl, dl, hsw, hS⟩)
    go_end0
    exact ⟨rfl, dl, HP.out.last hsw (by omega) (by omega) hb, hS⟩
  · by_cases hlt : j < i
    · have hltz : (j : Int) < (i : Int) := by omega
      have hne : ¬ (i : Int) = (j : Int) := by omega
      have hc := swr_k k zE enc g cb blk off cap (m - i) m j d0 dk w0 wr R (by omega) S1.out (by omega) (by omega) (by omega)
      rw [show ((m - i : Nat) : Int) = (m : Int) - (i : Int) by omega, hds] at hc
      have HC := Lib.hid hc
      clear hc S1
      go_wp2_with (go_at_call 198; refine HC.out.mono ?_; rintro e w1 ⟨rfl, dl, hsw, hS⟩; have HS : Aside (SWK enc k w0 blk off dl w1) := hS; have HW : Aside (SwrP dk dl (m - i) m j j) := hsw; clear hS hsw)
      go_roundg (i - j + j)
      case measure => omega
      case rel =>
       have h2 := HP.out.left HW.out hlt (by omega) (by omega) hb
       exact ⟨i - j, j, dl, by first | rfl | go_num | (congr 1; omega), rfl, Nat.le_refl _, by omega, hj0, by omega, hjm, h2.size, h2, HS⟩
    · have hlt' : i < j := by omega
      have hltz : ¬ (j : Int) < (i : Int) := by omega
      have hne : ¬ (i : Int) = (j : Int) := by omega
      have hc := swr_k k zE enc g cb blk off cap (m - i) (m + j - i) i d0 dk w0 wr R (by omega) S1.out (by omega) (by omega) (by omega)
      rw [show ((m - i : Nat) : Int) = (m : Int) - (i : Int) by omega, show ((m + j - i : Nat) : Int) = (m : Int) + (j : Int) - (i : Int) by omega, hds] at hc
      have HC := Lib.hid hc
      clear hc S1
      go_wp2_with (go_at_call 198; refine HC.out.mono ?_; rintro e w1 ⟨rfl, dl, hsw, hS⟩; have HS : Aside (SWK enc k w0 blk off dl w1) := hS; have HW : Aside (SwrP dk dl (m - i) (m + j - i) i i) := hsw; clear hS hsw)
      go_roundg (i + (j - i))
      case measure => omega
      case rel =>
       have h2 := HP.out.right HW.out hlt' (by omega) (by omega) hb
       exact ⟨i, j - i, dl, rfl, by first | rfl | go_num | (congr 1; omega), Nat.le_refl _, hi0, by omega, him, by omega, h2.size, h2, HS⟩
end Go.Proofs.YtkaipknkjocfiaaGreat
