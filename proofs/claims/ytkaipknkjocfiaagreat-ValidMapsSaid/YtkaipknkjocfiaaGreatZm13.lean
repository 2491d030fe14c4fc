/- Merged: Rms, Lw16, Sm, Lx16, Vw, Vp, Vq, Vr, Vs, Vt. -/
import Derived.Deep.QuietTactic
import Derived.BigQuiet
import Derived.Test.YtkaipknkjocfiaaGreatZm7
import Derived.Test.YtkaipknkjocfiaaGreatZm3
import Derived.Test.YtkaipknkjocfiaaGreatZm12
import Derived.Test.YtkaipknkjocfiaaGreatProg
import Derived.Test.YtkaipknkjocfiaaGreatZm10
namespace Go.Proofs.YtkaipknkjocfiaaGreat
open Go.RowKit
end Go.Proofs.YtkaipknkjocfiaaGreat
namespace Go.Proofs.YtkaipknkjocfiaaGreat
open Go.RowKit
attribute [local go_sem ↓ high] zeroCf
def MapsC (r : Except Nat (List Mp)) (w : World) (e : Ending) (w' : World) : Prop := match r with
 | .error n => ∃ A c, e = .returned (.tuple #[.slice A 0 c, .int .i64 (n : Nat)]) ∧ Below w.heap.size w w'
 | .ok l => ∃ v, e = .returned (.tuple #[v, .int .i64 0]) ∧ OwnM w' w.heap.size v l ∧ Below w.heap.size w w'
def CodeMaps : Prop := ∀ (x : Cf) (a c : Value) (g : Int) (w : World), CfR w w.heap.size x a c → CfB x → fewC x = true → Calls Tryz.prog 56 #[cfVal x a c, .int .i64 g] w (MapsC (mapsP x g) w)
theorem mapsP_is {x : Cf} {g : Int} {l : List Mp} (h : mapsP x g = .ok l) : ∃ (i : Nat) (hi : i < x.gs.length), g = (i : Int) ∧ l = sortP (partsP x.gs[i] x.chs g) ∧ okM l = true := by
 by_cases hno : g < 0 ∨ (x.gs.length : Int) ≤ g
 · unfold mapsP at h
   rw [guestAt_no hno] at h
   cases h
 · obtain ⟨i, rfl⟩ := Int.eq_ofNat_of_zero_le (show 0 ≤ g by omega)
   have hi : i < x.gs.length := by omega
   unfold mapsP at h
   rw [guestAt_yes hi] at h
   simp only at h
   split at h
   · injection h with h
     subst h
     exact ⟨i, hi, rfl, rfl, by assumption⟩
   · cases h
theorem mapsP_len {x : Cf} {g : Int} {l : List Mp} (h : mapsP x g = .ok l) (hf : fewC x = true) : l.length ≤ 120 := by
 obtain ⟨i, hi, rfl, rfl, -⟩ := mapsP_is h
 obtain ⟨hfg, hfc, hfa⟩ := few_gs hf
 have hfew := gFew_iff (hfa _ (List.getElem_mem hi))
 rw [sortP_len]
 unfold partsP
 rw [List.length_append, List.length_append, List.length_map, List.length_map]
 have := flat_lenC (i : Int) x.chs
 have := hfew.1
 have := hfew.2.1
 omega
end Go.Proofs.YtkaipknkjocfiaaGreat
namespace Go.Proofs.YtkaipknkjocfiaaGreat
open Go.RowKit
end Go.Proofs.YtkaipknkjocfiaaGreat
namespace Go.Proofs.YtkaipknkjocfiaaGreat
open Go.RowKit
attribute [local go_sem ↓ high] zeroCf
def CodePhys : Prop := ∀ (x : Cf) (a c : Value) (g : Int) (w : World), CfR w w.heap.size x a c → CfB x → fewC x = true → Calls Tryz.prog 53 #[cfVal x a c, .int .i64 g] w (SpansP (physG x g) w)
theorem guestAt_is {x : Cf} {g : Int} {t : Gs} (h : guestAt x g = some t) : t ∈ x.gs := by
 unfold guestAt at h
 split at h
 · cases h
 · exact List.mem_of_getElem? h
theorem RowE.row {w : World} {B : Nat} {A : Option Addr} {l : List Sp} (h : RowE 2 spE w B A l) : Row w B A l := fun hne => by
 obtain ⟨a, rfl, hb, hc⟩ := h hne
 exact ⟨a, rfl, hb, fun j hj => ⟨hc j hj 0 (by decide), hc j hj 1 (by decide)⟩⟩
end Go.Proofs.YtkaipknkjocfiaaGreat
namespace Go.Proofs.YtkaipknkjocfiaaGreat
open Go.RowKit
attribute [local go_sem ↓ high] zeroSp
theorem physG_fit {x : Cf} (hb : CfB x) (g : Int) : ∀ s ∈ physG x g, fit s := by
 unfold physG
 cases h : guestAt x g with
 | none => intro s hs; cases hs
 | some t =>
  have ht := hb.gs t (guestAt_is h)
  simp only
  rw [physP_is]
  intro s hs
  rcases List.mem_append.1 hs with h | h
  · obtain ⟨y, hy, rfl⟩ := List.mem_map.1 h
    have := ht.wins y hy
    exact ⟨(u64Z_nat (u64BZ this.2.1)).2, (u64Z_nat (u64BZ this.2.2.1)).2⟩
  · obtain ⟨y, hy, rfl⟩ := List.mem_map.1 h
    have := ht.devs y hy
    exact ⟨(u64Z_nat (u64BZ this.2.1)).2, (u64Z_nat (u64BZ this.2.2)).2⟩
def ownedB (x : Cf) (g : Nat) : Bool := !clashB (physG x g) && (List.range g).all fun (i : Nat) => (List.range (physG x g).length).all fun j => !olapsB ((physG x g).getD j (0, 0)) (physG x i)
end Go.Proofs.YtkaipknkjocfiaaGreat
namespace Go.Proofs.YtkaipknkjocfiaaGreat
open Go.RowKit
def ipaW (y : Wi) : Sp := (y.ipa.toNat, y.size.toNat)
def winB (b : Bd) (y : Wi) : Bool := pageB y.ipa y.size && (paged (spW y) && (decide (y.perm ≠ 0) && (within (spW y) b.r && !overlap (spW y) b.l)))
def devB (b : Bd) (y : De) : Bool := pageB y.ipa y.size && (pageB y.pa y.size && !overlap (spD y) b.r)
def bitB (n : Int) (k : Nat) : Bool := decide (n / 2 ^ k % 2 = 1)
def entryB (t : Gs) : Bool := match t.wins with
 | [] => false
 | y :: _ => decide (t.entry % 4 = 0) && (has (ipaW y) t.entry.toNat && (bitB y.perm 0 && bitB y.perm 2))
def dtbW (t : Gs) (y : Wi) : Bool := has (ipaW y) t.dtb.toNat && (decide (16384 ≤ y.size.toNat - (t.dtb.toNat - y.ipa.toNat)) && bitB y.perm 0)
def dtbB (t : Gs) : Bool := decide (t.dtb = 0) || ((t.wins.drop 1).any (dtbW t) && decide (t.dtb % 4096 = 0))
def roomsP (b : Bd) (x : Cf) (g : Nat) (s : Nat × Nat) : Nat × Nat := match x.gs[g]? with
 | none => s
 | some t => mustP (dtbB t) 7 g (mustP (entryB t) 6 g (mustP (t.devs.all (devB b)) 5 g (mustP (t.wins.all (winB b)) 4 g s)))
def irqB (b : Bd) (t : Gs) (q : Ir) : Bool := decide (32 ≤ q.number) && (decide (q.number < b.irqs) && (decide (0 ≤ q.cpu) && (decide (q.cpu ≤ 31) && bitB t.cpus q.cpu.toNat)))
def onceB {α : Type} [BEq α] (ls : List (List α)) (g i : Nat) (v : α) : Bool := (List.range (g + 1)).all fun k => (List.range (ls.getD k []).length).all fun j => (decide (k = g) && decide (i ≤ j)) || !((ls.getD k [])[j]? == some v)
def irqsB (b : Bd) (x : Cf) (g : Nat) (t : Gs) : Bool := (List.range t.irqs.length).all fun i => match t.irqs[i]? with
 | none => true
 | some q => irqB b t q && onceB (x.gs.map fun u => u.irqs.map Ir.number) g i q.number
def strsB (b : Bd) (x : Cf) (g : Nat) (t : Gs) : Bool := (List.range t.strs.length).all fun i => match t.strs[i]? with
 | none => true
 | some q => decide (q < b.strs) && onceB (x.gs.map Gs.strs) g i q
def linesP (b : Bd) (x : Cf) (g : Nat) (s : Nat × Nat) : Nat × Nat := match x.gs[g]? with
 | none => s
 | some t => mustP (strsB b x g t) 9 g (mustP (irqsB b x g t) 8 g s)
def chanB (b : Bd) (x : Cf) (k : Nat) (y : Ch) : Bool := (paged (spC y) && (within (spC y) b.r && !overlap (spC y) b.l)) && ((x.gs.all fun t => t.wins.all fun v => !overlap (spC y) (spW v)) && (x.chs.take k).all fun u => !overlap (spC y) (spC u))
def endB (x : Cf) (y : Ch) (e : En) : Bool := decide (0 ≤ e.guest) && (decide (e.guest < (x.gs.length : Int)) && (decide (1 ≤ e.perm) && (decide (e.perm ≤ 3) && pageB e.ipa y.size)))
def chanP (b : Bd) (x : Cf) (k : Nat) (s : Nat × Nat) : Nat × Nat := match x.chs[k]? with
 | none => s
 | some y => mustP (decide (y.a.guest ≠ y.b.guest) && (endB x y y.a && endB x y y.b)) 12 k (mustP (chanB b x k y) 11 k s)
def fitB (b : Bd) : Bool := fitE b.r.1 b.r.2 b.l.1 b.l.2 b.irqs b.strs b.cpus == 0
def nameB (x : Cf) (i : Nat) : Bool := (List.range i).all fun k => !nmEq (x.gs.getD i zGV.g).name (x.gs.getD k zGV.g).name
def mapsB (x : Cf) (g : Nat) : Bool := match mapsP x (g : Int) with
 | .ok _ => true
 | .error _ => false
def guestP (b : Bd) (x : Cf) (g : Nat) (s : Nat × Nat) : Nat × Nat := mustP (ownedB x g) 10 g (linesP b x g (roomsP b x g (mustP (cpusB b x g) 3 g s)))
def upto (n : Nat) (f : Nat → Nat × Nat → Nat × Nat) (s : Nat × Nat) : Nat × Nat := (List.range n).foldl (fun s i => f i s) s
theorem upto_succ (n : Nat) (f : Nat → Nat × Nat → Nat × Nat) (s : Nat × Nat) : upto (n + 1) f s = f n (upto n f s) := by unfold upto; rw [List.range_succ, List.foldl_append]; rfl
def headP (b : Bd) (x : Cf) : Nat × Nat := mustP (decide (errP x = 0)) 2 0 (mustP (fitB b) 1 0 (0, 0))
def bodyP (b : Bd) (x : Cf) : Nat × Nat := upto x.gs.length (fun g => mustP (mapsB x g) 13 g) (upto x.chs.length (chanP b x) (upto x.gs.length (guestP b x) (upto x.gs.length (fun i => mustP (nameB x i) 2 i) (headP b x))))
def checkP (b : Bd) (x : Cf) : Nat × Nat × Nat := if (headP b x).1 ≠ 0 then ((headP b x).1, (headP b x).2, 170) else if (bodyP b x).1 ≠ 0 then ((bodyP b x).1, (bodyP b x).2, 170) else (0, 0, 0)
end Go.Proofs.YtkaipknkjocfiaaGreat
namespace Go.Proofs.YtkaipknkjocfiaaGreat
open Go.RowKit
theorem must_zero {is : Bool} {r k : Nat} {s : Nat × Nat} (hr : r ≠ 0) (h : (mustP is r k s).1 = 0) : is = true ∧ s.1 = 0 := by
 unfold mustP at h
 cases is with
 | true => simpa using h
 | false =>
  by_cases hs : s.1 = 0
  · simp [hs] at h; exact absurd h hr
  · simp [hs] at h
theorem upto_zero {f : Nat → Nat × Nat → Nat × Nat} {P : Nat → Prop} (hf : ∀ i s, (f i s).1 = 0 → s.1 = 0 ∧ P i) : ∀ (n : Nat) (s : Nat × Nat), (upto n f s).1 = 0 → s.1 = 0 ∧ ∀ i, i < n → P i
 | 0, s, h => ⟨h, fun i hi => by omega⟩
 | n + 1, s, h => by
  rw [upto_succ] at h
  obtain ⟨h1, h2⟩ := hf n _ h
  obtain ⟨h3, h4⟩ := upto_zero hf n s h1
  exact ⟨h3, fun i hi => by
   rcases Nat.lt_or_ge i n with h | h
   · exact h4 i h
   · obtain rfl : i = n := by omega
     exact h2⟩
structure GuestOk (b : Bd) (x : Cf) (g : Nat) (t : Gs) : Prop where
 cpus : cpusB b x g = true
 wins : t.wins.all (winB b) = true
 devs : t.devs.all (devB b) = true
 entry : entryB t = true
 dtb : dtbB t = true
 irqs : irqsB b x g t = true
 strs : strsB b x g t = true
 owned : ownedB x g = true
structure ChanOk (b : Bd) (x : Cf) (k : Nat) (y : Ch) : Prop where
 chan : chanB b x k y = true
 unlike : y.a.guest ≠ y.b.guest
 enda : endB x y y.a = true
 endb : endB x y y.b = true
structure CheckOk (b : Bd) (x : Cf) : Prop where
 fit : fitB b = true
 err : errP x = 0
 names : ∀ i, i < x.gs.length → nameB x i = true
 guests : ∀ (g : Nat) (hg : g < x.gs.length), GuestOk b x g x.gs[g]
 chans : ∀ (k : Nat) (hk : k < x.chs.length), ChanOk b x k x.chs[k]
 maps : ∀ g, g < x.gs.length → mapsB x g = true
theorem guest_zero {b : Bd} {x : Cf} {g : Nat} {s : Nat × Nat} (h : (guestP b x g s).1 = 0) : s.1 = 0 ∧ ∀ (hg : g < x.gs.length), GuestOk b x g x.gs[g] := by
 unfold guestP at h
 obtain ⟨h10, h⟩ := must_zero (by decide) h
 by_cases hg : g < x.gs.length
 · unfold linesP roomsP at h
   rw [List.getElem?_eq_getElem hg] at h
   simp only at h
   obtain ⟨h9, h⟩ := must_zero (by decide) h
   obtain ⟨h8, h⟩ := must_zero (by decide) h
   obtain ⟨h7, h⟩ := must_zero (by decide) h
   obtain ⟨h6, h⟩ := must_zero (by decide) h
   obtain ⟨h5, h⟩ := must_zero (by decide) h
   obtain ⟨h4, h⟩ := must_zero (by decide) h
   obtain ⟨h3, h⟩ := must_zero (by decide) h
   exact ⟨h, fun _ => ⟨h3, h4, h5, h6, h7, h8, h9, h10⟩⟩
 · unfold linesP roomsP at h
   rw [List.getElem?_eq_none (by omega)] at h
   simp only at h
   exact ⟨(must_zero (by decide) h).2, fun h => absurd h hg⟩
theorem chan_zero {b : Bd} {x : Cf} {k : Nat} {s : Nat × Nat} (h : (chanP b x k s).1 = 0) : s.1 = 0 ∧ ∀ (hk : k < x.chs.length), ChanOk b x k x.chs[k] := by
 unfold chanP at h
 by_cases hk : k < x.chs.length
 · rw [List.getElem?_eq_getElem hk] at h
   simp only at h
   obtain ⟨h12, h⟩ := must_zero (by decide) h
   obtain ⟨h11, h⟩ := must_zero (by decide) h
   simp only [Bool.and_eq_true, decide_eq_true_eq] at h12
   exact ⟨h, fun _ => ⟨h11, h12.1, h12.2.1, h12.2.2⟩⟩
 · rw [List.getElem?_eq_none (by omega)] at h
   exact ⟨h, fun h => absurd h hk⟩
theorem check_ok {b : Bd} {x : Cf} (h : (checkP b x).2.2 = 0) : CheckOk b x := by
 unfold checkP at h
 by_cases h0 : (headP b x).1 = 0
 · rw [if_neg (by omega)] at h
   by_cases h1 : (bodyP b x).1 = 0
   · obtain ⟨hf, he⟩ := must_zero (r := 2) (by decide) h0
     obtain ⟨hf, -⟩ := must_zero (r := 1) (by decide) he
     have he : errP x = 0 := by
      have := (must_zero (r := 2) (by decide) h0).1
      simpa using this
     unfold bodyP at h1
     obtain ⟨h2, hm⟩ := upto_zero (P := fun g => mapsB x g = true) (fun i s hs => (must_zero (by decide) hs).symm) _ _ h1
     obtain ⟨h3, hc⟩ := upto_zero (P := fun k => ∀ (hk : k < x.chs.length), ChanOk b x k x.chs[k]) (fun i s hs => chan_zero hs) _ _ h2
     obtain ⟨h4, hg⟩ := upto_zero (P := fun g => ∀ (hg : g < x.gs.length), GuestOk b x g x.gs[g]) (fun i s hs => guest_zero hs) _ _ h3
     obtain ⟨-, hn⟩ := upto_zero (P := fun i => nameB x i = true) (fun i s hs => (must_zero (by decide) hs).symm) _ _ h4
     exact ⟨hf, he, hn, fun g hg' => hg g hg' hg', fun k hk => hc k hk hk, hm⟩
   · rw [if_pos h1] at h
     cases h
 · rw [if_pos h0] at h
   cases h
theorem upto_id {f : Nat → Nat × Nat → Nat × Nat} {s : Nat × Nat} : ∀ (n : Nat), (∀ i, i < n → f i s = s) → upto n f s = s
 | 0, _ => rfl
 | n + 1, h => by rw [upto_succ, upto_id n fun i hi => h i (by omega)]; exact h n (by omega)
theorem must_yes {is : Bool} {r k : Nat} {s : Nat × Nat} (h : is = true) : mustP is r k s = s := by rw [h]; exact mustP_true r k s
theorem check_yes {b : Bd} {x : Cf} (h : CheckOk b x) : checkP b x = (0, 0, 0) := by
 have hd : headP b x = (0, 0) := by unfold headP; rw [must_yes (decide_eq_true h.err), must_yes h.fit]
 have hbo : bodyP b x = (0, 0) := by
  have e1 : upto x.gs.length (fun i => mustP (nameB x i) 2 i) (0, 0) = (0, 0) := upto_id _ fun i hi => must_yes (h.names i hi)
  have e2 : upto x.gs.length (guestP b x) (0, 0) = (0, 0) := upto_id _ fun g hg => by
   have hc := h.guests g hg
   unfold guestP linesP roomsP
   rw [List.getElem?_eq_getElem hg]
   simp only
   rw [must_yes hc.cpus, must_yes hc.wins, must_yes hc.devs, must_yes hc.entry, must_yes hc.dtb, must_yes hc.irqs, must_yes hc.strs, must_yes hc.owned]
  have e3 : upto x.chs.length (chanP b x) (0, 0) = (0, 0) := upto_id _ fun k hk => by
   have hc := h.chans k hk
   unfold chanP
   rw [List.getElem?_eq_getElem hk]
   simp only
   rw [must_yes hc.chan, must_yes (by rw [decide_eq_true hc.unlike, hc.enda, hc.endb]; rfl)]
  have e4 : upto x.gs.length (fun g => mustP (mapsB x g) 13 g) (0, 0) = (0, 0) := upto_id _ fun g hg => must_yes (h.maps g hg)
  unfold bodyP
  rw [hd, e1, e2, e3, e4]
 unfold checkP
 rw [hd, hbo]
 rfl
end Go.Proofs.YtkaipknkjocfiaaGreat
namespace Go.Proofs.YtkaipknkjocfiaaGreat
open Go.RowKit
theorem overlap_in {s l r : Sp} (h : overlap s l = true) (hw : within l r = true) : overlap s r = true := by
 rw [overlap_iff] at h ⊢
 unfold within at hw
 simp only [Bool.and_eq_true, decide_eq_true_eq] at hw
 exact ⟨h.1, hw.2.1, by omega, by omega⟩
theorem overlap_sym (s l : Sp) : overlap s l = overlap l s := by
 rw [Bool.eq_iff_iff, overlap_iff, overlap_iff]
 constructor <;> rintro ⟨h1, h2, h3, h4⟩ <;> exact ⟨h2, h1, h4, h3⟩
theorem phys_mem {x : Cf} {g : Nat} (hg : g < x.gs.length) {s : Sp} (h : s ∈ physG x (g : Int)) : (∃ y ∈ (x.gs[g]).wins, s = spW y) ∨ ∃ y ∈ (x.gs[g]).devs, s = spD y := by
 unfold physG at h
 rw [guestAt_yes hg] at h
 simp only at h
 rw [physP_is] at h
 rcases List.mem_append.1 h with h | h
 · obtain ⟨y, hy, rfl⟩ := List.mem_map.1 h
   exact .inl ⟨y, hy, rfl⟩
 · obtain ⟨y, hy, rfl⟩ := List.mem_map.1 h
   exact .inr ⟨y, hy, rfl⟩
end Go.Proofs.YtkaipknkjocfiaaGreat
namespace Go.Proofs.YtkaipknkjocfiaaGreat
open Go.RowKit
theorem goodL_of {l : List Mp} (hB : ∀ x ∈ l, MpB x) (hok : okM l = true) (hs : Sorted l) (hg : ∀ x ∈ l, gdM x = true) : goodL l = true := by
 obtain ⟨hgd, hno⟩ := okM_iff.1 hok
 unfold goodL
 rw [range_all]
 intro i hi
 cases i with
 | zero => rw [goodAt_zero hi]; exact hg _ (List.getElem_mem hi)
 | succ i =>
  rw [goodAt_succ hi, hg _ (List.getElem_mem hi), Bool.true_and]
  have h1 := List.pairwise_iff_getElem.1 hs i (i + 1) (by omega) hi (by omega)
  have h2 := List.pairwise_iff_getElem.1 hno i (i + 1) (by omega) hi (by omega)
  have g1 := hgd _ (List.getElem_mem (show i < l.length by omega))
  have g2 := hgd _ (List.getElem_mem hi)
  have b1 := hB _ (List.getElem_mem (show i < l.length by omega))
  have b2 := hB _ (List.getElem_mem hi)
  generalize l[i] = y at *
  generalize l[i + 1] = x at *
  unfold gdS at g1 g2
  simp only [Bool.and_eq_true] at g1 g2
  have e1 := b1.ipa
  have e2 := b1.size
  have e3 := b2.ipa
  have e4 := b2.size
  unfold u64Z at e1 e2 e3 e4
  have g3 := (good_iff _).1 g1.1
  have g4 := (good_iff _).1 g2.1
  rw [← Bool.not_eq_true, overlap_iff] at h2
  have h3 : ¬ ((ipaS y).1 < (ipaS x).1 + (ipaS x).2 ∧ (ipaS x).1 < (ipaS y).1 + (ipaS y).2) := fun hh => h2 ⟨g1.1, g2.1, hh.1, hh.2⟩
  clear h2
  simp only [ipaS] at h3 g3 g4
  exact decide_eq_true (by omega)
theorem page_in {p s : Nat} {r : Sp} (h : paged (p, s) = true) (hw : within (p, s) r = true) (hr : r.1 + r.2 ≤ 1099511627776) : paged (p, s) = true ∧ p + s ≤ 1099511627776 := by
 unfold within at hw
 simp only [Bool.and_eq_true, decide_eq_true_eq] at hw
 exact ⟨h, by omega⟩
theorem fit_ram {b : Bd} (h : fitB b = true) : b.r.1 + b.r.2 ≤ 1099511627776 := by
 unfold fitB fitE at h
 simp only [beq_iff_eq] at h
 split at h
 · rename_i hc
   simp only [memB, addrB, Bool.and_eq_true, decide_eq_true_eq] at hc
   have hp := hc.1.1
   have hg : good (b.r.1, b.r.2) = true := paged_good hp.1
   have := last_good hg
   simp only at this
   omega
 · cases h
theorem part_good {b : Bd} {x : Cf} (h : CheckOk b x) {g : Nat} (hg : g < x.gs.length) (hp : ∀ y ∈ (x.gs[g]).wins, 0 ≤ y.perm ∧ y.perm ≤ 7) : ∀ m ∈ partsP x.gs[g] x.chs (g : Int), gdM m = true := fun m hm => by
 have hG := h.guests g hg
 have hr := fit_ram h.fit
 unfold partsP at hm
 rcases List.mem_append.1 hm with hm | hm
 · obtain ⟨y, hy, rfl⟩ := List.mem_map.1 hm
   have hw := List.all_eq_true.1 hG.wins y hy
   unfold winB at hw
   simp only [Bool.and_eq_true, decide_eq_true_eq] at hw
   have hq := page_in hw.2.1 hw.2.2.2.1 hr
   have hp2 := hp y hy
   have hne := hw.2.2.1
   unfold gdM wiM
   simp only [hw.1, Bool.true_and, Bool.and_eq_true, decide_eq_true_eq]
   refine ⟨?_, by omega, by omega, by omega, by omega⟩
   unfold pageB
   rw [hq.1, decide_eq_true hq.2]; rfl
 · rcases List.mem_append.1 hm with hm | hm
   · obtain ⟨y, hy, rfl⟩ := List.mem_map.1 hm
     have hd := List.all_eq_true.1 hG.devs y hy
     unfold devB at hd
     simp only [Bool.and_eq_true] at hd
     unfold gdM deM
     simp only [hd.1, hd.2.1, Bool.true_and]
     rfl
   · obtain ⟨y, hy, hm⟩ := List.mem_flatMap.1 hm
     obtain ⟨k, hk, rfl⟩ := List.getElem_of_mem hy
     have hC := h.chans k hk
     have hcb := hC.chan
     unfold chanB at hcb
     simp only [Bool.and_eq_true] at hcb
     have hq := page_in hcb.1.1 hcb.1.2.1 hr
     have hpg : pageB (x.chs[k]).pa (x.chs[k]).size = true := by unfold pageB; rw [hq.1, decide_eq_true hq.2]; rfl
     have hend : ∀ e : En, endB x x.chs[k] e = true → gdM (enM x.chs[k] e) = true := fun e he => by
       unfold endB at he
       simp only [Bool.and_eq_true, decide_eq_true_eq] at he
       unfold gdM enM
       simp only [he.2.2.2.2, hpg, Bool.true_and, Bool.and_eq_true, decide_eq_true_eq]
       omega
     unfold chM at hm
     rcases List.mem_append.1 hm with hm | hm
     · split at hm
       · obtain rfl := List.mem_singleton.1 hm
         exact hend _ hC.enda
       · cases hm
     · split at hm
       · obtain rfl := List.mem_singleton.1 hm
         exact hend _ hC.endb
       · cases hm
theorem maps_good {b : Bd} {x : Cf} (h : CheckOk b x) (hb : CfB x) {g : Nat} (hg : g < x.gs.length) (hp : ∀ y ∈ (x.gs[g]).wins, 0 ≤ y.perm ∧ y.perm ≤ 7) : ∃ l, mapsP x (g : Int) = .ok l ∧ goodL l = true := by
 have hm := h.maps g hg
 unfold mapsB at hm
 unfold mapsP at hm ⊢
 rw [guestAt_yes hg] at hm ⊢
 simp only at hm ⊢
 by_cases ho : okM (sortP (partsP x.gs[g] x.chs (g : Int))) = true
 · rw [if_pos ho]
   have hgb := hb.gs _ (List.getElem_mem hg)
   refine ⟨_, rfl, goodL_of (fun m hm => parts_B hgb.wins hgb.devs hb.chs m hm) ho (sortP_sorted _) fun m hm => part_good h hg hp m ((sortP_perm _).mem_iff.1 hm)⟩
 · rw [if_neg ho] at hm
   cases hm
end Go.Proofs.YtkaipknkjocfiaaGreat
namespace Go.Proofs.YtkaipknkjocfiaaGreat
open Go.RowKit
theorem errL_zeroV {α : Type} {e : α → Nat} : ∀ {l : List α}, errL e l = 0 → ∀ x ∈ l, e x = 0
 | [], _, _, hx => by cases hx
 | y :: l, h, x, hx => by
  unfold errL at h
  split at h
  · rename_i hy
    rcases List.mem_cons.1 hx with rfl | hx
    · exact hy
    · exact errL_zeroV h x hx
  · rename_i hy
    exact absurd h hy
theorem errP_guest {x : Cf} (h : errP x = 0) : ∀ g ∈ x.gs, errG g = 0 := by
 have hc : errC x = 0 := by
   unfold errP at h
   split at h
   · assumption
   · exact h
 unfold errC at hc
 split at hc
 · cases hc
 · split at hc
   · rename_i hl
     exact errL_zeroV hl
   · rename_i hl
     exact absurd hc hl
structure PutOk (g : Gs) : Prop where
 cnt : cntOk g = true
 wins : ∀ y ∈ g.wins, badWi y = false
 irqs : ∀ y ∈ g.irqs, badIr y = false
theorem put_ok {g : Gs} (h : errG g = 0) : PutOk g := by
 unfold errG at h
 split at h
 · cases h
 · split at h
   · cases h
   · split at h
     · cases h
     · rename_i hc
       have hb : (g.wins.any badWi || g.irqs.any badIr) = false := by
         unfold e144 at h
         cases hb : (g.wins.any badWi || g.irqs.any badIr) with
         | false => rfl
         | true => rw [hb] at h; simp at h
       rw [Bool.or_eq_false_iff] at hb
       refine ⟨by simpa using hc, fun y hy => ?_, fun y hy => ?_⟩
       · rw [← Bool.not_eq_true]; exact fun hh => by rw [List.any_eq_true.2 ⟨y, hy, hh⟩] at hb; cases hb.1
       · rw [← Bool.not_eq_true]; exact fun hh => by rw [List.any_eq_true.2 ⟨y, hy, hh⟩] at hb; cases hb.2
end Go.Proofs.YtkaipknkjocfiaaGreat
