import Derived.Maps.OwnSet
import Derived.Maps.OwnOps
import Derived.StringKeys
import Derived.Laws.Shifts
import Derived.Laws.BitsAllLaws
import Derived.Test.YtkaipknkjocfiaaGreatZa11
namespace Go.Proofs.YtkaipknkjocfiaaGreat
open Go.RowKit
theorem must_zero {is : Bool} {r k : Nat} {s : Nat × Nat} (hr : r ≠ 0) (h : (mustP is r k s).1 = 0) : is = true ∧ s.1 = 0 := by
 unfold mustP at h
 cases is with
 | true => simpa using h
 | false =>
  by_cases hs : s.1 = 0
  · simp [hs] at h; exact absurd h hr
  · simp [hs] at h
theorem upto_zero {f : Nat → Nat × Nat → Nat × Nat} {P : Nat → Prop} (hf : ∀ i s, (f i s).1 = 0 → s.1 = 0 ∧ P i) : ∀ (n : Nat) (s : Nat × Nat), (upto n f s).1 = 0 → s.1 = 0 ∧ ∀ i, i < n → P i
 | 0, s, h => ⟨h, fun i hi => by omega⟩
 | n + 1, s, h => by
  rw [upto_succ] at h
  obtain ⟨h1, h2⟩ := hf n _ h
  obtain ⟨h3, h4⟩ := upto_zero hf n s h1
  exact ⟨h3, fun i hi => by
   rcases Nat.lt_or_ge i n with h | h
   · exact h4 i h
   · obtain rfl : i = n := by omega
     exact h2⟩
structure GuestOk (b : Bd) (x : Cf) (g : Nat) (t : Gs) : Prop where
 cpus : cpusB b x g = true
 wins : t.wins.all (winB b) = true
 devs : t.devs.all (devB b) = true
 entry : entryB t = true
 dtb : dtbB t = true
 irqs : irqsB b x g t = true
 strs : strsB b x g t = true
 owned : ownedB x g = true
structure ChanOk (b : Bd) (x : Cf) (k : Nat) (y : Ch) : Prop where
 chan : chanB b x k y = true
 unlike : y.a.guest ≠ y.b.guest
 enda : endB x y y.a = true
 endb : endB x y y.b = true
structure CheckOk (b : Bd) (x : Cf) : Prop where
 fit : fitB b = true
 err : errP x = 0
 names : ∀ i, i < x.gs.length → nameB x i = true
 guests : ∀ (g : Nat) (hg : g < x.gs.length), GuestOk b x g x.gs[g]
 chans : ∀ (k : Nat) (hk : k < x.chs.length), ChanOk b x k x.chs[k]
 maps : ∀ g, g < x.gs.length → mapsB x g = true
theorem guest_zero {b : Bd} {x : Cf} {g : Nat} {s : Nat × Nat} (h : (guestP b x g s).1 = 0) : s.1 = 0 ∧ ∀ (hg : g < x.gs.length), GuestOk b x g x.gs[g] := by
 unfold guestP at h
 obtain ⟨h10, h⟩ := must_zero (by decide) h
 by_cases hg : g < x.gs.length
 · unfold linesP roomsP at h
   rw [List.getElem?_eq_getElem hg] at h
   simp only at h
   obtain ⟨h9, h⟩ := must_zero (by decide) h
   obtain ⟨h8, h⟩ := must_zero (by decide) h
   obtain ⟨h7, h⟩ := must_zero (by decide) h
   obtain ⟨h6, h⟩ := must_zero (by decide) h
   obtain ⟨h5, h⟩ := must_zero (by decide) h
   obtain ⟨h4, h⟩ := must_zero (by decide) h
   obtain ⟨h3, h⟩ := must_zero (by decide) h
   exact ⟨h, fun _ => ⟨h3, h4, h5, h6, h7, h8, h9, h10⟩⟩
 · unfold linesP roomsP at h
   rw [List.getElem?_eq_none (by omega)] at h
   simp only at h
   exact ⟨(must_zero (by decide) h).2, fun h => absurd h hg⟩
theorem chan_zero {b : Bd} {x : Cf} {k : Nat} {s : Nat × Nat} (h : (chanP b x k s).1 = 0) : s.1 = 0 ∧ ∀ (hk : k < x.chs.length), ChanOk b x k x.chs[k] := by
 unfold chanP at h
 by_cases hk : k < x.chs.length
 · rw [List.getElem?_eq_getElem hk] at h
   simp only at h
   obtain ⟨h12, h⟩ := must_zero (by decide) h
   obtain ⟨h11, h⟩ := must_zero (by decide) h
   simp only [Bool.and_eq_true, decide_eq_true_eq] at h12
   exact ⟨h, fun _ => ⟨h11, h12.1, h12.2.1, h12.2.2⟩⟩
 · rw [List.getElem?_eq_none (by omega)] at h
   exact ⟨h, fun h => absurd h hk⟩
theorem check_ok {b : Bd} {x : Cf} (h : (checkP b x).2.2 = 0) : CheckOk b x := by
 unfold checkP at h
 by_cases h0 : (headP b x).1 = 0
 · rw [if_neg (by omega)] at h
   by_cases h1 : (bodyP b x).1 = 0
   · obtain ⟨hf, he⟩ := must_zero (r := 2) (by decide) h0
     obtain ⟨hf, -⟩ := must_zero (r := 1) (by decide) he
     have he : errP x = 0 := by
      have := (must_zero (r := 2) (by decide) h0).1
      simpa using this
     unfold bodyP at h1
     obtain ⟨h2, hm⟩ := upto_zero (P := fun g => mapsB x g = true) (fun i s hs => (must_zero (by decide) hs).symm) _ _ h1
     obtain ⟨h3, hc⟩ := upto_zero (P := fun k => ∀ (hk : k < x.chs.length), ChanOk b x k x.chs[k]) (fun i s hs => chan_zero hs) _ _ h2
     obtain ⟨h4, hg⟩ := upto_zero (P := fun g => ∀ (hg : g < x.gs.length), GuestOk b x g x.gs[g]) (fun i s hs => guest_zero hs) _ _ h3
     obtain ⟨-, hn⟩ := upto_zero (P := fun i => nameB x i = true) (fun i s hs => (must_zero (by decide) hs).symm) _ _ h4
     exact ⟨hf, he, hn, fun g hg' => hg g hg' hg', fun k hk => hc k hk hk, hm⟩
   · rw [if_pos h1] at h
     cases h
 · rw [if_pos h0] at h
   cases h
theorem upto_id {f : Nat → Nat × Nat → Nat × Nat} {s : Nat × Nat} : ∀ (n : Nat), (∀ i, i < n → f i s = s) → upto n f s = s
 | 0, _ => rfl
 | n + 1, h => by rw [upto_succ, upto_id n fun i hi => h i (by omega)]; exact h n (by omega)
theorem must_yes {is : Bool} {r k : Nat} {s : Nat × Nat} (h : is = true) : mustP is r k s = s := by rw [h]; exact mustP_true r k s
theorem check_yes {b : Bd} {x : Cf} (h : CheckOk b x) : checkP b x = (0, 0, 0) := by
 have hd : headP b x = (0, 0) := by unfold headP; rw [must_yes (decide_eq_true h.err), must_yes h.fit]
 have hbo : bodyP b x = (0, 0) := by
  have e1 : upto x.gs.length (fun i => mustP (nameB x i) 2 i) (0, 0) = (0, 0) := upto_id _ fun i hi => must_yes (h.names i hi)
  have e2 : upto x.gs.length (guestP b x) (0, 0) = (0, 0) := upto_id _ fun g hg => by
   have hc := h.guests g hg
   unfold guestP linesP roomsP
   rw [List.getElem?_eq_getElem hg]
   simp only
   rw [must_yes hc.cpus, must_yes hc.wins, must_yes hc.devs, must_yes hc.entry, must_yes hc.dtb, must_yes hc.irqs, must_yes hc.strs, must_yes hc.owned]
  have e3 : upto x.chs.length (chanP b x) (0, 0) = (0, 0) := upto_id _ fun k hk => by
   have hc := h.chans k hk
   unfold chanP
   rw [List.getElem?_eq_getElem hk]
   simp only
   rw [must_yes hc.chan, must_yes (by rw [decide_eq_true hc.unlike, hc.enda, hc.endb]; rfl)]
  have e4 : upto x.gs.length (fun g => mustP (mapsB x g) 13 g) (0, 0) = (0, 0) := upto_id _ fun g hg => must_yes (h.maps g hg)
  unfold bodyP
  rw [hd, e1, e2, e3, e4]
 unfold checkP
 rw [hd, hbo]
 rfl
end Go.Proofs.YtkaipknkjocfiaaGreat
namespace Go.Proofs.YtkaipknkjocfiaaGreat
open Go.RowKit
theorem overlap_in {s l r : Sp} (h : overlap s l = true) (hw : within l r = true) : overlap s r = true := by
 rw [overlap_iff] at h ⊢
 unfold within at hw
 simp only [Bool.and_eq_true, decide_eq_true_eq] at hw
 exact ⟨h.1, hw.2.1, by omega, by omega⟩
theorem overlap_sym (s l : Sp) : overlap s l = overlap l s := by
 rw [Bool.eq_iff_iff, overlap_iff, overlap_iff]
 constructor <;> rintro ⟨h1, h2, h3, h4⟩ <;> exact ⟨h2, h1, h4, h3⟩
theorem phys_mem {x : Cf} {g : Nat} (hg : g < x.gs.length) {s : Sp} (h : s ∈ physG x (g : Int)) : (∃ y ∈ (x.gs[g]).wins, s = spW y) ∨ ∃ y ∈ (x.gs[g]).devs, s = spD y := by
 unfold physG at h
 rw [guestAt_yes hg] at h
 simp only at h
 rw [physP_is] at h
 rcases List.mem_append.1 h with h | h
 · obtain ⟨y, hy, rfl⟩ := List.mem_map.1 h
   exact .inl ⟨y, hy, rfl⟩
 · obtain ⟨y, hy, rfl⟩ := List.mem_map.1 h
   exact .inr ⟨y, hy, rfl⟩
theorem fit_within {b : Bd} (h : fitB b = true) : within b.l b.r = true := by
 unfold fitB fitE at h
 simp only [beq_iff_eq] at h
 split at h
 · rename_i hc
   simp only [memB, Bool.and_eq_true] at hc
   exact hc.1.2.2
 · cases h
theorem phys_loader {b : Bd} {x : Cf} (h : CheckOk b x) {g : Nat} (hg : g < x.gs.length) : ∀ s ∈ physG x (g : Int), overlap s b.l = false := fun s hs => by
 have hG := h.guests g hg
 rcases phys_mem hg hs with ⟨y, hy, rfl⟩ | ⟨y, hy, rfl⟩
 · have := List.all_eq_true.1 hG.wins y hy
   unfold winB at this
   simp only [Bool.and_eq_true, Bool.not_eq_true'] at this
   exact this.2.2.2.2
 · have := List.all_eq_true.1 hG.devs y hy
   unfold devB at this
   simp only [Bool.and_eq_true, Bool.not_eq_true'] at this
   rw [← Bool.not_eq_true]
   intro hov
   have h2 := overlap_in hov (fit_within h.fit)
   rw [this.2.2] at h2
   cases h2
theorem phys_chan {b : Bd} {x : Cf} (h : CheckOk b x) {g k : Nat} (hg : g < x.gs.length) (hk : k < x.chs.length) : ∀ s ∈ physG x (g : Int), overlap s (spC x.chs[k]) = false := fun s hs => by
 have hG := h.guests g hg
 have hC := (h.chans k hk).chan
 unfold chanB at hC
 simp only [Bool.and_eq_true, List.all_eq_true, Bool.not_eq_true'] at hC
 rcases phys_mem hg hs with ⟨y, hy, rfl⟩ | ⟨y, hy, rfl⟩
 · rw [overlap_sym]
   exact hC.2.1 _ (List.getElem_mem hg) y hy
 · have := List.all_eq_true.1 hG.devs y hy
   unfold devB at this
   simp only [Bool.and_eq_true, Bool.not_eq_true'] at this
   rw [← Bool.not_eq_true]
   intro hov
   have h2 := overlap_in hov hC.1.2.1
   rw [this.2.2] at h2
   cases h2
theorem phys_other {b : Bd} {x : Cf} (h : CheckOk b x) {g i : Nat} (hg : g < x.gs.length) (hi : i < g) : ∀ s ∈ physG x (g : Int), olapsB s (physG x (i : Int)) = false := fun s hs => by
 have hO := (h.guests g hg).owned
 unfold ownedB at hO
 simp only [Bool.and_eq_true, List.all_eq_true, List.mem_range, Bool.not_eq_true'] at hO
 obtain ⟨j, hj, rfl⟩ := List.getElem_of_mem hs
 have := hO.2 i hi j hj
 rwa [List.getD, List.getElem?_eq_getElem hj, Option.getD_some] at this
end Go.Proofs.YtkaipknkjocfiaaGreat
namespace Go.Proofs.YtkaipknkjocfiaaGreat
open Go.RowKit
end Go.Proofs.YtkaipknkjocfiaaGreat
namespace Go.Proofs.YtkaipknkjocfiaaGreat
open Go.RowKit
theorem errL_zeroV {α : Type} {e : α → Nat} : ∀ {l : List α}, errL e l = 0 → ∀ x ∈ l, e x = 0
 | [], _, _, hx => by cases hx
 | y :: l, h, x, hx => by
  unfold errL at h
  split at h
  · rename_i hy
    rcases List.mem_cons.1 hx with rfl | hx
    · exact hy
    · exact errL_zeroV h x hx
  · rename_i hy
    exact absurd h hy
theorem errP_guest {x : Cf} (h : errP x = 0) : ∀ g ∈ x.gs, errG g = 0 := by
 have hc : errC x = 0 := by
   unfold errP at h
   split at h
   · assumption
   · exact h
 unfold errC at hc
 split at hc
 · cases hc
 · split at hc
   · rename_i hl
     exact errL_zeroV hl
   · rename_i hl
     exact absurd hc hl
structure PutOk (g : Gs) : Prop where
 cnt : cntOk g = true
 wins : ∀ y ∈ g.wins, badWi y = false
 irqs : ∀ y ∈ g.irqs, badIr y = false
theorem put_ok {g : Gs} (h : errG g = 0) : PutOk g := by
 unfold errG at h
 split at h
 · cases h
 · split at h
   · cases h
   · split at h
     · cases h
     · rename_i hc
       have hb : (g.wins.any badWi || g.irqs.any badIr) = false := by
         unfold e144 at h
         cases hb : (g.wins.any badWi || g.irqs.any badIr) with
         | false => rfl
         | true => rw [hb] at h; simp at h
       rw [Bool.or_eq_false_iff] at hb
       refine ⟨by simpa using hc, fun y hy => ?_, fun y hy => ?_⟩
       · rw [← Bool.not_eq_true]; exact fun hh => by rw [List.any_eq_true.2 ⟨y, hy, hh⟩] at hb; cases hb.1
       · rw [← Bool.not_eq_true]; exact fun hh => by rw [List.any_eq_true.2 ⟨y, hy, hh⟩] at hb; cases hb.2
end Go.Proofs.YtkaipknkjocfiaaGreat
namespace Go.Proofs.YtkaipknkjocfiaaGreat
open Go.RowKit Go.Maps
def kE (b : Bd) (wh : Int) (m1 m2 m3 m4 : Nat) (mv : Value) : Nat → Value := fun i =>
 if i < 7 then bdE b i else if i = 7 then .int .i64 wh else if i = 8 then .map (some m1) else if i = 9 then .map (some m2) else if i = 10 then .map (some m3) else if i = 11 then .map (some m4) else mv
def inL (L : List Lit) (k : Lit) : Bool := L.any fun x => x.sameKey k
def SetM (K : TypeId) (w : World) (m n : Nat) (L : List Lit) : Prop := (∀ x ∈ L, WideAt.IsKeyLit x) ∧ w.ownsMap Tryz.prog K (unitElem (H := Unit)) m n (setOf (.agg []) L)
theorem Save.of_grown {g : Nat} {w w' : World} (h : w.grownBy w' (some g)) : Save g w w' := ⟨h.os, h.tape, h.output, h.size, fun k hk hg => h.block k hk (by simpa using hg)⟩
theorem SetM.kept {K : TypeId} {w w' : World} {m n : Nat} {L : List Lit} (h : SetM K w m n L) {row : Option Nat} (hg : w.grownBy w' row) (hne : some m ≠ row) : SetM K w' m n L := ⟨h.1, h.2.kept hg hne⟩
theorem grown_save {g : Nat} {w w' : World} (h : Save g w w') : w.grownBy w' (some g) := ⟨h.os, h.tape, h.output, h.size, fun k hk hg => h.block k hk (by simpa using hg)⟩
theorem SetM.save {K : TypeId} {w w' : World} {m n g : Nat} {L : List Lit} (h : SetM K w m n L) (hg : Save g w w') (hne : m ≠ g) : SetM K w' m n L := h.kept (grown_save hg) (by simpa using hne)
theorem grown_below {w w' : World} (h : Below w.heap.size w w') : w.grownBy w' none := ⟨h.1, h.2, h.3, h.4, fun k hk _ => h.5 k hk⟩
theorem SetM.under {K : TypeId} {w w' : World} {m n : Nat} {L : List Lit} (h : SetM K w m n L) (hg : Below w.heap.size w w') : SetM K w' m n L := h.kept (grown_below hg) (by simp)
theorem SetM.lt {K : TypeId} {w : World} {m n : Nat} {L : List Lit} (h : SetM K w m n L) : m < w.heap.size := h.2.lt
theorem SetM.wide {K : TypeId} {w : World} {m n n' : Nat} {L : List Lit} (h : SetM K w m n L) (hn : n ≤ n') : SetM K w m n' L := ⟨h.1, h.2.mono hn⟩
theorem SetM.drewN {K : TypeId} {w : World} {m n : Nat} {L : List Lit} (h : SetM K w m n L) (k : Nat) : SetM K (w.drewN k) m n L := h
theorem SetM.has {K : TypeId} {w : World} {m n : Nat} {L : List Lit} (h : SetM K w m n L) (k : Lit) : Maps.has (setOf (H := Unit) (.agg []) L) k = inL L k := has_setOf _ _ _ h.1
theorem SetM.begin (K : TypeId) (w : World) : SetM K (w.alloc (.map #[] 0)) w.heap.size 0 [] := ⟨fun x hx => (by cases hx), World.ownsMap_made _ _ _ _⟩
theorem SetM.far {K : TypeId} {w : World} {m n : Nat} {L : List Lit} (h : SetM K w m n L) {a : Addr} (ha : m ≠ a.block) (u : Value) : SetM K (w.setCell a u) m n L := ⟨h.1, h.2.setCell ha u⟩
theorem zeroU (w : World) : (zeroValue 134).run Tryz.prog w = .ok (.agg #[]) w := by kernel_rfl
def brokenV (r k : Nat) : Value := .iface 69 (.agg #[.int .i64 (r : Int), .int .i64 (k : Int)])
def brokenC (r k : Nat) : List PanicEntry := [{ v := brokenV r k, recovered := false }]
theorem lawint : Keyed Tryz.prog 3 := int_keyed Tryz.underlying3
set_option maxHeartbeats 2000000 in
set_option maxRecDepth 100000 in
theorem take_int (m n : Nat) (L : List Lit) (v : Int) (hv : (Lit.int .i64 v).wf = true) (w : World) (h : SetM 3 w m n L) (hn : n ≤ 1000000) :
  Calls Tryz.prog 75 #[.map (some m), .int .i64 v] w fun e w' => e = .returned (.bool (!inL L (Lit.int .i64 v))) ∧ SetM 3 w' m (n + 1) (L ++ [Lit.int .i64 v]) ∧ Save m w w' := by
 have hkey : keyOf Tryz.prog 3 (.int .i64 v) = some (Lit.int .i64 v) := keyOf_int_mk Tryz.underlying3 hv
 have hlt := h.lt
 have HQ : Hid (∀ w1 w2 : World, w1 = w.alloc (.cells #[] 134) → w2.ownsMap Tryz.prog 3 (unitElem (H := Unit)) m (n + 1) ((setOf (.agg []) L).put (Lit.int .i64 v) (.agg [])) → w1.grownBy w2 (some m) → SetM 3 w2 m (n + 1) (L ++ [Lit.int .i64 v]) ∧ Save m w w2) := Lib.hid fun w1 w2 e ho hg => by
  subst e
  refine ⟨⟨fun x hx => ?_, by rw [setOf_snoc]; exact ho⟩, (Save.of_below ((Below.refl _ _).alloc (Nat.le_refl _) _)).trans (Save.of_grown hg)⟩
  rcases List.mem_append.1 hx with hx | hx
  · exact h.1 x hx
  · rw [List.mem_singleton.1 hx]; exact trivial
 have HH : Hid (Maps.has (setOf (H := Unit) (.agg []) L) (Lit.int .i64 v) = inL L (Lit.int .i64 v)) := Lib.hid (h.has _)
 obtain ⟨z, hz⟩ : ∃ z, z = inL L (Lit.int .i64 v) := ⟨_, rfl⟩
 rw [← hz] at HH ⊢
 have hown := h.2
 obtain ⟨D, hD⟩ : ∃ D, D = setOf (H := Unit) (.agg []) L := ⟨_, rfl⟩
 rw [← hD] at hown HH HQ
 clear h hz hD
 go_enter Tryz.func75, Tryz.ntmps75
 go_wp2_with (first
  | (at_lookup; refine wpList_lookup_own_unit _ rfl _ _ 94 rfl 3 134 lawint Tryz.underlying94 (zeroU _) m n _ rfl hown _ _ rfl hkey ?_; rw [HH.out])
  | (at_mapUpdate; refine wpList_mapUpdate_own _ rfl _ _ _ 94 rfl 3 134 lawint Tryz.underlying94 (unitElem (H := Unit)) m n _ rfl (hown.alloc _) (by unfold maxLen; omega) _ _ _ rfl rfl hkey _ [] unitElem_mk ?_; intro w1 hown1 hgrow1))
 go_ret
 exact ⟨rfl, HQ.out _ _ rfl hown1 hgrow1⟩
theorem lawu32 : Keyed Tryz.prog 27 := int_keyed Tryz.underlying27
set_option maxHeartbeats 2000000 in
set_option maxRecDepth 100000 in
theorem take_u32 (m n : Nat) (L : List Lit) (v : Int) (hv : (Lit.int .u32 v).wf = true) (w : World) (h : SetM 27 w m n L) (hn : n ≤ 1000000) :
  Calls Tryz.prog 91 #[.map (some m), .int .u32 v] w fun e w' => e = .returned (.bool (!inL L (Lit.int .u32 v))) ∧ SetM 27 w' m (n + 1) (L ++ [Lit.int .u32 v]) ∧ Save m w w' := by
 have hkey : keyOf Tryz.prog 27 (.int .u32 v) = some (Lit.int .u32 v) := keyOf_int_mk Tryz.underlying27 hv
 have hlt := h.lt
 have HQ : Hid (∀ w1 w2 : World, w1 = w.alloc (.cells #[] 134) → w2.ownsMap Tryz.prog 27 (unitElem (H := Unit)) m (n + 1) ((setOf (.agg []) L).put (Lit.int .u32 v) (.agg [])) → w1.grownBy w2 (some m) → SetM 27 w2 m (n + 1) (L ++ [Lit.int .u32 v]) ∧ Save m w w2) := Lib.hid fun w1 w2 e ho hg => by
  subst e
  refine ⟨⟨fun x hx => ?_, by rw [setOf_snoc]; exact ho⟩, (Save.of_below ((Below.refl _ _).alloc (Nat.le_refl _) _)).trans (Save.of_grown hg)⟩
  rcases List.mem_append.1 hx with hx | hx
  · exact h.1 x hx
  · rw [List.mem_singleton.1 hx]; exact trivial
 have HH : Hid (Maps.has (setOf (H := Unit) (.agg []) L) (Lit.int .u32 v) = inL L (Lit.int .u32 v)) := Lib.hid (h.has _)
 obtain ⟨z, hz⟩ : ∃ z, z = inL L (Lit.int .u32 v) := ⟨_, rfl⟩
 rw [← hz] at HH ⊢
 have hown := h.2
 obtain ⟨D, hD⟩ : ∃ D, D = setOf (H := Unit) (.agg []) L := ⟨_, rfl⟩
 rw [← hD] at hown HH HQ
 clear h hz hD
 go_enter Tryz.func91, Tryz.ntmps91
 go_wp2_with (first
  | (at_lookup; refine wpList_lookup_own_unit _ rfl _ _ 96 rfl 27 134 lawu32 Tryz.underlying96 (zeroU _) m n _ rfl hown _ _ rfl hkey ?_; rw [HH.out])
  | (at_mapUpdate; refine wpList_mapUpdate_own _ rfl _ _ _ 96 rfl 27 134 lawu32 Tryz.underlying96 (unitElem (H := Unit)) m n _ rfl (hown.alloc _) (by unfold maxLen; omega) _ _ _ rfl rfl hkey _ [] unitElem_mk ?_; intro w1 hown1 hgrow1))
 go_ret
 exact ⟨rfl, HQ.out _ _ rfl hown1 hgrow1⟩
theorem lawstr : Keyed Tryz.prog 9 := string_keyed Tryz.underlying9
set_option maxHeartbeats 2000000 in
set_option maxRecDepth 100000 in
theorem take_str (m n : Nat) (L : List Lit) (v : ByteArray) (hv : v.size ≤ maxLen) (w : World) (h : SetM 9 w m n L) (hn : n ≤ 1000000) :
  Calls Tryz.prog 39 #[.map (some m), .string v] w fun e w' => e = .returned (.bool (!inL L (Lit.string v.data.toList))) ∧ SetM 9 w' m (n + 1) (L ++ [Lit.string v.data.toList]) ∧ Save m w w' := by
 have hkey : keyOf Tryz.prog 9 (.string v) = some (Lit.string v.data.toList) := WideMaps.keyOf_string_mk Tryz.underlying9 hv
 have hlt := h.lt
 have HQ : Hid (∀ w1 w2 : World, w1 = w.alloc (.cells #[] 134) → w2.ownsMap Tryz.prog 9 (unitElem (H := Unit)) m (n + 1) ((setOf (.agg []) L).put (Lit.string v.data.toList) (.agg [])) → w1.grownBy w2 (some m) → SetM 9 w2 m (n + 1) (L ++ [Lit.string v.data.toList]) ∧ Save m w w2) := Lib.hid fun w1 w2 e ho hg => by
  subst e
  refine ⟨⟨fun x hx => ?_, by rw [setOf_snoc]; exact ho⟩, (Save.of_below ((Below.refl _ _).alloc (Nat.le_refl _) _)).trans (Save.of_grown hg)⟩
  rcases List.mem_append.1 hx with hx | hx
  · exact h.1 x hx
  · rw [List.mem_singleton.1 hx]; exact trivial
 have HH : Hid (Maps.has (setOf (H := Unit) (.agg []) L) (Lit.string v.data.toList) = inL L (Lit.string v.data.toList)) := Lib.hid (h.has _)
 obtain ⟨z, hz⟩ : ∃ z, z = inL L (Lit.string v.data.toList) := ⟨_, rfl⟩
 rw [← hz] at HH ⊢
 have hown := h.2
 obtain ⟨D, hD⟩ : ∃ D, D = setOf (H := Unit) (.agg []) L := ⟨_, rfl⟩
 rw [← hD] at hown HH HQ
 clear h hz hD
 go_enter Tryz.func39, Tryz.ntmps39
 go_wp2_with (first
  | (at_lookup; refine wpList_lookup_own_unit _ rfl _ _ 92 rfl 9 134 lawstr Tryz.underlying92 (zeroU _) m n _ rfl hown _ _ rfl hkey ?_; rw [HH.out])
  | (at_mapUpdate; refine wpList_mapUpdate_own _ rfl _ _ _ 92 rfl 9 134 lawstr Tryz.underlying92 (unitElem (H := Unit)) m n _ rfl (hown.alloc _) (by unfold maxLen; omega) _ _ _ rfl rfl hkey _ [] unitElem_mk ?_; intro w1 hown1 hgrow1))
 go_ret
 exact ⟨rfl, HQ.out _ _ rfl hown1 hgrow1⟩
def bitS (m n : Int) : Bool := decide (m / 2 ^ n.toNat % 2 = 1)
set_option maxRecDepth 100000 in
theorem set_any (m n : Int) (hm : 0 ≤ m ∧ m ≤ 4294967295) (hn : 0 ≤ n ∧ n ≤ 65535) (w : World) : Calls Tryz.prog 74 #[.int .u32 m, .int .i64 n] w (EqV (bitS m n) w) := by
 obtain ⟨k, rfl⟩ := Int.eq_ofNat_of_zero_le hn.1
 obtain ⟨y, rfl⟩ := Int.eq_ofNat_of_zero_le hm.1
 have hmin : (y : Int) / 2 ^ min k 32 = (y : Int) / 2 ^ k := by
  rcases Nat.le_total k 32 with h | h
  · rw [Nat.min_eq_left h]
  · rw [Nat.min_eq_right h]
    have e1 : y / 2 ^ 32 = 0 := Nat.div_eq_of_lt (by omega)
    have e2 : y / 2 ^ k = 0 := Nat.div_eq_of_lt (Nat.lt_of_lt_of_le (show y < 2 ^ 32 by omega) (Nat.pow_le_pow_right (by decide) h))
    have f1 : ((y / 2 ^ 32 : Nat) : Int) = (y : Int) / 2 ^ 32 := by norm_cast
    have f2 : ((y / 2 ^ k : Nat) : Int) = (y : Int) / 2 ^ k := by norm_cast
    rw [← f1, ← f2, e1, e2]
 obtain ⟨q, hq⟩ : ∃ q, q = y / 2 ^ k := ⟨_, rfl⟩
 have hqb : q ≤ 4294967295 := by rw [hq]; exact Nat.le_trans (Nat.div_le_self _ _) (by omega)
 have hqi : (y : Int) / 2 ^ k = (q : Int) := by rw [hq]; norm_cast
 have hand : bits .and .u32 (q : Int) 1 = ((q % 2 : Nat) : Int) := by
  rw [show (1 : Int) = ((1 : Nat) : Int) from rfl, u32_and_nat q 1 (by omega) (by omega)]
  norm_cast
  simp [Nat.and_one_is_mod]
 have hb : bitS (y : Int) (k : Int) = decide (q % 2 = 1) := by
  unfold bitS
  rw [show ((k : Int)).toNat = k from rfl, hqi]
  exact Bool.eq_iff_iff.2 (by simp only [decide_eq_true_eq]; omega)
 rw [hb]
 have he : (((q % 2 : Nat) : Int) == 1) = decide (q % 2 = 1) := Bool.eq_iff_iff.2 (by simp only [beq_iff_eq, decide_eq_true_eq]; omega)
 have hk0 : (0 : Int) ≤ (k : Int) := by omega
 have hkb : ¬ ((k : Int) < 0) := by omega
 clear hq hb hm hn
 rw [hqi] at hmin
 unfold EqV
 go_enter Tryz.func74, Tryz.ntmps74
 go_wp2
 go_ret
 refine ⟨congrArg (fun z => Ending.returned (.bool z)) ?_, Below.refl _ _⟩
 exact Bool.eq_iff_iff.2 (by simp; omega)
def allowB (p q : Int) : Bool := bits .and .i64 p q == q
set_option maxRecDepth 100000 in
theorem allows_any (p q : Int) (w : World) : Calls Tryz.prog 85 #[.int .i64 p, .int .i64 q] w (EqV (allowB p q) w) := by
 obtain ⟨y, hy⟩ : ∃ y, y = bits .and .i64 p q := ⟨_, rfl⟩
 have hz : allowB p q = (y == q) := by rw [hy]; rfl
 obtain ⟨z, hzz⟩ : ∃ z, z = (y == q) := ⟨_, rfl⟩
 rw [hz, ← hzz]
 replace hy := hy.symm
 replace hzz := hzz.symm
 clear hz
 unfold EqV
 go_enter Tryz.func85, Tryz.ntmps85
 go_wp2
 go_ret
 exact ⟨rfl, Below.refl _ _⟩
def MustC (is : Bool) (r k : Nat) (w : World) (e : Ending) (w' : World) : Prop := ((is = true ∧ e = .returned (.tuple #[])) ∨ (is = false ∧ e = .panicked (brokenC r k))) ∧ w = w'
set_option maxRecDepth 100000 in
theorem mustK_yes (r : Int) (p : Option Addr) (w : World) : Calls Tryz.prog 36 #[.pointer p, .int .i64 r, .bool true] w fun e w' => e = .returned (.tuple #[]) ∧ w = w' := by
 go_enter Tryz.func36, Tryz.ntmps36
 go_wp2
 go_end0
 exact ⟨rfl, rfl⟩
set_option maxRecDepth 100000 in
theorem mustK_no (r k p : Nat) (w : World) (c7 : w.cell? ⟨p, 7, none⟩ = some (.int .i64 (k : Int))) : Calls Tryz.prog 36 #[.pointer (some ⟨p, 0, none⟩), .int .i64 (r : Int), .bool false] w fun e w' => e = .panicked (brokenC r k) ∧ w = w' := by
 unfold brokenC brokenV
 go_enter Tryz.func36, Tryz.ntmps36
 go_wp2
 exact ⟨rfl, rfl, rfl⟩
theorem mustK_any (is : Bool) (r k : Nat) (p : Nat) (w : World) (c7 : w.cell? ⟨p, 7, none⟩ = some (.int .i64 (k : Int))) :
  Calls Tryz.prog 36 #[.pointer (some ⟨p, 0, none⟩), .int .i64 (r : Int), .bool is] w (MustC is r k w) := by
 cases is with
 | true => exact (mustK_yes _ _ w).mono fun e w' h => ⟨.inl ⟨rfl, h.1⟩, h.2⟩
 | false => exact (mustK_no r k p w c7).mono fun e w' h => ⟨.inr ⟨rfl, h.1⟩, h.2⟩
end Go.Proofs.YtkaipknkjocfiaaGreat
