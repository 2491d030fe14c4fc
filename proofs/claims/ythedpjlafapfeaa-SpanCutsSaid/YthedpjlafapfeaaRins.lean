/- insert: the reference's: rows of ends, and one more among them. -/
import Derived.Test.YthedpjlafapfeaaCollect
import Derived.Deep.CutRange
namespace Go.Proofs.Ythedpjlafapfeaa
open Go.RowKit

/-- An append, behind a name that the walk does not open: it is met by an equation. -/
def appF (ts : Array TypeId) (ty : TypeId) (vs : Array Value) : Sem Value := Builtin.append_ ts ty vs
theorem builtin_appF (ats : Array TypeId) (ty : TypeId) (cs : Array Bool) (args : Array Value) : builtin .append ats ty cs args = (do pure (.value (← appF ats ty args))) := rfl
attribute [local go_sem ↓ high] builtin_appF

abbrev enb (a b : Nat) : Obj := .cells #[.int .u64 (a : Int), .int .u64 (b : Int)] 55
theorem infoE : (Try.prog.info? 55).map (fun i => (i.zero, i.size, i.bytes)) = some (some (.agg #[.int .u64 0, .int .u64 0]), 2, 16) := by kernel_rfl
def OwnE (w : World) (base : Nat) (v : Value) (l : List Sp) : Prop := w.ownsRow base 55 2 v l.length (cells2 l)
section
variable {w w' W W' : World} {base : Nat} {v : Value} {l : List Sp}
theorem OwnE.row (h : OwnE w base v l) : ∃ A c, v = .slice A l.length c ∧ Row w w.heap.size A l := by
  rcases h.2 with ⟨rfl, hn⟩ | ⟨g, cap, cur, rfl, hbg, hh, hle, hcap, hsz, ht⟩
  · exact ⟨none, 0, by rw [hn], fun hne => absurd (List.eq_nil_of_length_eq_zero hn) hne⟩
  · refine ⟨some ⟨g, 0, none⟩, cap, rfl, fun _ => ⟨⟨g, 0, none⟩, rfl, (Array.getElem?_eq_some_iff.1 hh).1, fun j hj => ?_⟩⟩
    have hg := cells2_get l j hj
    have hlen := cells2_length l
    have look : ∀ i, i < l.length * 2 → w.cell? ((⟨g, 0, none⟩ : Addr).add i) = (cells2 l)[i]? := by
      intro i hi
      have e : ((⟨g, 0, none⟩ : Addr).add i) = ⟨g, i, none⟩ := by unfold Addr.add; by_cases h0 : i = 0 <;> simp [h0]
      rw [e, cell_of_row _ g i cur _ (0, 0) hh, ← ht, List.getElem?_take_of_lt hi, Array.getElem?_toList]
    exact ⟨(look _ (by omega)).trans hg.1, (look _ (by omega)).trans hg.2⟩
theorem OwnE.low (h : OwnE w base v l) {base' : Nat} (hb : base' ≤ base) : OwnE w base' v l := by
  refine ⟨h.1, ?_⟩
  rcases h.2 with h2 | ⟨g, cap, cur, hv, hg, r⟩
  · exact Or.inl h2
  · exact Or.inr ⟨g, cap, cur, hv, Nat.le_trans hb hg, r⟩
theorem OwnE.below (h : OwnE w base v l) (hb : Below w.heap.size w w') : OwnE w' base v l := by
  refine ⟨h.1, ?_⟩
  rcases h.2 with h2 | ⟨g, cap, cur, hv, hg, hh, r⟩
  · exact Or.inl h2
  · exact Or.inr ⟨g, cap, cur, hv, hg, (hb.block g (Array.getElem?_eq_some_iff.1 hh).1).trans hh, r⟩
theorem OwnE.kept {row : Option Nat} (h : OwnE w base v l) (hg : w.grownBy w' row) (hne : v.ownBlock = none ∨ v.ownBlock ≠ row) : OwnE w' base v l := World.ownsRow.kept h hg hne
theorem OwnE.block (h : OwnE w base v l) : ∀ k, v.ownBlock = some k → base ≤ k ∧ k < w.heap.size := by
  intro k hk
  rcases h.2 with ⟨rfl, _⟩ | ⟨g, cap, cur, rfl, hg, hh, _⟩
  · simp [Value.ownBlock] at hk
  · obtain rfl : g = k := by simpa [Value.ownBlock] using hk
    exact ⟨hg, (Array.getElem?_eq_some_iff.1 hh).1⟩
/-- A box of two numbers. -/
def BoxE (W : World) (B : Nat) (x : Sp) : Prop := W.heap[B]? = some (enb x.1 x.2)
theorem BoxE.cell0 {B : Nat} {x : Sp} (h : BoxE W B x) : W.cell? ⟨B, 0, none⟩ = some (.int .u64 (x.1 : Int)) := by simp [World.cell?, show W.heap[B]? = _ from h]
theorem BoxE.cell1 {B : Nat} {x : Sp} (h : BoxE W B x) : W.cell? ⟨B, 1, none⟩ = some (.int .u64 (x.2 : Int)) := by simp [World.cell?, show W.heap[B]? = _ from h]
theorem BoxE.frozen0 {B : Nat} {x : Sp} (h : BoxE W B x) : W.frozen? ⟨B, 0, none⟩ = false := by simp [World.frozen?, show W.heap[B]? = _ from h]
theorem BoxE.frozen1 {B : Nat} {x : Sp} (h : BoxE W B x) : W.frozen? ⟨B, 1, none⟩ = false := by simp [World.frozen?, show W.heap[B]? = _ from h]
theorem BoxE.lt {B : Nat} {x : Sp} (h : BoxE W B x) : B < W.heap.size := (Array.getElem?_eq_some_iff.1 h).1
theorem BoxE.set0 {B : Nat} {x : Sp} (h : BoxE W B x) (a : Nat) : BoxE (W.setCell ⟨B, 0, none⟩ (.int .u64 (a : Int))) B (a, x.2) := by
  obtain ⟨hlt, hk⟩ := Array.getElem?_eq_some_iff.1 h
  show (W.heap.modify B _)[B]? = _
  rw [Array.getElem?_eq_getElem (by rw [Array.size_modify]; exact hlt), Array.getElem_modify_self, hk]
  rfl
theorem BoxE.set1 {B : Nat} {x : Sp} (h : BoxE W B x) (a : Nat) : BoxE (W.setCell ⟨B, 1, none⟩ (.int .u64 (a : Int))) B (x.1, a) := by
  obtain ⟨hlt, hk⟩ := Array.getElem?_eq_some_iff.1 h
  show (W.heap.modify B _)[B]? = _
  rw [Array.getElem?_eq_getElem (by rw [Array.size_modify]; exact hlt), Array.getElem_modify_self, hk]
  rfl
end

theorem enb_new (w : World) (a b : Nat) : BoxE (w.alloc (enb a b)) w.heap.size (a, b) := World.alloc_heap_new w _

/-- What a round of insert may lean on: the box of the one that comes in, the row so far, what was there. -/
structure InsAt (w : World) (st : List Sp × Bool × Sp) (v : Value) (W : World) : Prop where
  box : BoxE W w.heap.size st.2.2
  own : OwnE W (w.heap.size + 1) v st.1
  low : Below w.heap.size w W
section
variable {w W W' : World} {st : List Sp × Bool × Sp} {v : Value}
theorem InsAt.size (h : InsAt w st v W) : w.heap.size + 1 ≤ W.heap.size := h.box.lt
theorem InsAt.alloc (h : InsAt w st v W) (o : Obj) : InsAt w st v (W.alloc o) :=
  ⟨(Below.heap_alloc _ _ _ h.box.lt).trans h.box, h.own.below ((Below.refl _ _).alloc (Nat.le_refl _) _), h.low.alloc (by have := h.size; omega) _⟩
theorem InsAt.set0 (h : InsAt w st v W) (a : Nat) : InsAt w (st.1, st.2.1, (a, st.2.2.2)) v (W.setCell ⟨w.heap.size, 0, none⟩ (.int .u64 (a : Int))) := by
  refine ⟨h.box.set0 a, ?_, h.low.setCell (Nat.le_refl _) _⟩
  refine h.own.kept (row := some w.heap.size) ⟨rfl, rfl, rfl, (KeepsWalks.setCell W _ _).size, fun k _ hk => Below.heap_setCell _ _ _ k (fun e => hk (by rw [e]))⟩ (.inr fun e => ?_)
  have := (h.own.block _ (by first | exact e.symm | exact e)).1
  omega
theorem InsAt.set1 (h : InsAt w st v W) (a : Nat) : InsAt w (st.1, st.2.1, (st.2.2.1, a)) v (W.setCell ⟨w.heap.size, 1, none⟩ (.int .u64 (a : Int))) := by
  refine ⟨h.box.set1 a, ?_, h.low.setCell (Nat.le_refl _) _⟩
  refine h.own.kept (row := some w.heap.size) ⟨rfl, rfl, rfl, (KeepsWalks.setCell W _ _).size, fun k _ hk => Below.heap_setCell _ _ _ k (fun e => hk (by rw [e]))⟩ (.inr fun e => ?_)
  have := (h.own.block _ (by first | exact e.symm | exact e)).1
  omega
/-- One more behind the row, as an equation. -/
theorem InsAt.app (h : InsAt w st v W) (m : Sp) (d : Bool) (hk : st.1.length + 1 ≤ 1000000) (ty : TypeId) :
    ∃ v' w', (appF #[52, 52] ty #[v, .slice (some ⟨W.heap.size, 0, none⟩) 1 1]).run Try.prog (W.alloc (enb m.1 m.2)) = .ok v' w' ∧
      InsAt w (st.1 ++ [m], d, st.2.2) v' w' ∧ (∀ B x, BoxE W B x → some B ≠ v.ownBlock → BoxE w' B x) ∧ (v'.ownBlock = v.ownBlock ∨ v'.ownBlock = some (W.heap.size + 1)) := by
  obtain ⟨i0, hi, hz0, hz1, hz2⟩ := info_parts infoE
  have hsz := h.size
  obtain ⟨v', w', h1, h2, h3, _, h5⟩ := run_append_own_at (P := Try.prog) (W.alloc (enb m.1 m.2)) (w.heap.size + 1) 52 ty 55 i0 (.agg #[.int .u64 0, .int .u64 0]) 2 16 Try.underlying52 hi hz0 hz1 hz2 rfl (by decide) v st.1.length (cells2 st.1) (h.own.below ((Below.refl _ _).alloc (Nat.le_refl _) _))
    ⟨W.heap.size, 0, none⟩ 1 1 [.int .u64 (m.1 : Int), .int .u64 (m.2 : Int)] rfl (cell_two_new _ _ _ _) (by intro u hu; simp at hu; rcases hu with rfl | rfl <;> rfl) (by unfold maxLen; omega) (by omega) (by simp; omega)
  have keep : ∀ B o, W.heap[B]? = some o → some B ≠ v.ownBlock → w'.heap[B]? = some o := fun B o ho hne => by
    have hlt := (Array.getElem?_eq_some_iff.1 ho).1
    rw [h3.block B (by simp; omega) hne]
    exact (Below.heap_alloc _ _ _ hlt).trans ho
  refine ⟨v', w', h1, ⟨keep _ _ h.box (fun e => ?_), ?_, ?_⟩, fun B x hB hne => keep B _ hB hne, ?_⟩
  · have := (h.own.block _ e.symm).1; omega
  · unfold OwnE; rw [cells2_append, List.length_append]; exact h2
  · refine h.low.trans ⟨h3.os, h3.tape, h3.output, Nat.le_trans (by simp) h3.size, fun k hk' => ?_⟩
    have hk2 : k < W.heap.size := by omega
    rw [h3.block k (by simp; omega) (fun e => by have := (h.own.block _ e.symm).1; omega)]
    exact Below.heap_alloc _ _ _ hk2
  · rcases h5 with h5 | h5
    · exact .inl h5
    · exact .inr (by rw [h5]; simp)
theorem InsAt.ne (h : InsAt w st v W) {B : Nat} (hB : W.heap.size ≤ B) : some B ≠ v.ownBlock := fun e => by have := (h.own.block _ e.symm).2; omega
end

theorem insStep_len (st : List Sp × Bool × Sp) (x : Sp) : (insStep st x).1.length ≤ st.1.length + 2 := by
  unfold insStep
  split
  · simp
  · split
    · split <;> simp
    · simp
theorem insStep_fit (st : List Sp × Bool × Sp) (x : Sp) (h : fit st.2.2) (hx : fit x) : fit (insStep st x).2.2 := by
  unfold insStep
  split
  · exact h
  · split
    · exact h
    · unfold fit at h hx ⊢; simp only; omega
theorem wrap_le {a b : Nat} (h : b ≤ a) (ha : a < 18446744073709551616) : IntKind.u64.wrap ((a : Int) - (b : Int)) = (a : Int) - (b : Int) := by simp [IntKind.wrap, IntKind.bits, IntKind.signed]; omega
theorem foldl_take_succ {α β : Type} (f : β → α → β) (z : β) (l : List α) {k : Nat} (h : k < l.length) : (l.take (k + 1)).foldl f z = f ((l.take k).foldl f z) l[k] := by
  rw [List.take_succ_eq_append_getElem h, List.foldl_append]; rfl

/-- What the loop of insert holds. -/
def InsRel (l : List Sp) (s : Sp) (w : World) (k : Nat) (out : List Sp) (d : Bool) (a b : Nat) (vo : Value) (W : World) : Prop :=
  (l.take k).foldl insStep ([], false, s) = (out, d, (a, b)) ∧ out.length ≤ 2 * k ∧ fit (a, b) ∧ InsAt w (out, d, (a, b)) vo W
theorem InsRel.step {l : List Sp} {s : Sp} {w W W' : World} {k : Nat} {out out' : List Sp} {d d' : Bool} {a b a' b' : Nat} {vo vo' : Value} {x : Sp} (h : InsRel l s w k out d a b vo W) (hk : k < l.length) (hx : l[k] = x) (hf : fit x)
    (hs : insStep (out, d, (a, b)) x = (out', d', (a', b'))) (hI : InsAt w (out', d', (a', b')) vo' W') : InsRel l s w (k + 1) out' d' a' b' vo' W' := by
  obtain ⟨h1, h2, h3, h4⟩ := h
  refine ⟨by rw [foldl_take_succ _ _ _ hk, h1, hx, hs], ?_, ?_, hI⟩
  · have := insStep_len (out, d, (a, b)) x
    rw [hs] at this
    simp only at this
    omega
  · have := insStep_fit (out, d, (a, b)) x h3 hf
    rw [hs] at this
    exact this

set_option maxHeartbeats 4000000 in
set_option maxRecDepth 100000 in
theorem rinsert_any (A : Option Addr) (cap : Nat) (l : List Sp) (hl : l.length ≤ 100000) (hf : ∀ x ∈ l, fit x) (s1 s2 : Nat) (hs : fit (s1, s2)) (w : World) (hR : Row w w.heap.size A l) :
    Calls Try.prog 39 #[.slice A l.length cap, .agg #[.int .u64 (s1 : Int), .int .u64 (s2 : Int)]] w fun e w' => ∃ v, e = .returned v ∧ OwnE w' w.heap.size v (insS l (s1, s2)) ∧ Below w.heap.size w w' := by
  have Hl := Lib.hid hl
  have HF := Lib.hid hf
  have HR := Lib.hid hR
  have H0 := Lib.hid (show InsRel l (s1, s2) w 0 [] false s1 s2 (.slice none 0 0) (w.alloc (enb s1 s2)) from ⟨by simp, by simp, hs, enb_new w s1 s2, World.ownsRow_nil _ _ _ _, (Below.refl _ _).alloc (Nat.le_refl _) _⟩)
  clear hl hf hR hs
  go_enter Try.func39, Try.ntmps39
  go_wp2
  go_loopw [5, 6, 11] (fun vo vd vi W => ∃ (k : Nat) (out : List Sp) (d : Bool) (a b : Nat), k ≤ l.length ∧ vi = .int .i64 k ∧ vd = .bool d ∧ Hid (InsRel l (s1, s2) w k out d a b vo W)) (fun _ _ i _ => l.length - (intOf i).toNat)
  case atStart => exact ⟨0, [], false, s1, s2, Nat.zero_le _, rfl, rfl, H0⟩
  case round =>
    obtain ⟨k, out, d, a, b, hk, rfl, rfl, HI⟩ := hrel
    obtain ⟨W, rfl⟩ : ∃ W : World, W = wr := ⟨_, rfl⟩
    clear H0
    have hb3 : k + 1 ≤ 1000001 := by have := Hl.out; omega
    have hws : w.heap.size < W.heap.size := HI.out.2.2.2.size
    by_cases hlt : k < l.length
    · obtain ⟨ad, p, rfl, hp, hpb, hc1, hc2⟩ := (HR.out.below HI.out.2.2.2.low).at hlt
      obtain ⟨x, hx⟩ : ∃ x, l[k] = x := ⟨_, rfl⟩
      rw [hx] at hc1 hc2
      obtain ⟨c, e⟩ := x
      have HX := Lib.hid hx
      have HFX := Lib.hid (show fit (c, e) from hx ▸ HF.out _ (List.getElem_mem hlt))
      have hI1 := HI.out.2.2.2.alloc (enb c e)
      have hX1 := enb_new W c e
      have hol : out.length + 1 ≤ 1000000 := by have := HI.out.2.1; have := Hl.out; omega
      have ci0 := hI1.box.cell0
      have ci1 := hI1.box.cell1
      have cf0 := hI1.box.frozen0
      have cf1 := hI1.box.frozen1
      have cx0 := hX1.cell0
      have cx1 := hX1.cell1
      simp only at ci0 ci1 cx0 cx1
      have HI1 := Lib.hid hI1
      have HX1 := Lib.hid hX1
      clear hx hI1 hX1
      go_upto_region 10 with fail
      generalize hW1 : W.alloc (enb c e) = W1 at ci0 ci1 cf0 cf1 cx0 cx1 HI1 HX1 ⊢
      have HW1 := Lib.hid hW1
      have hz1 : W1.heap.size = W.heap.size + 1 := by rw [← hW1]; simp
      clear hW1
      obtain ⟨q, hq⟩ : ∃ q, q = decide (e + 1 < a) := ⟨_, rfl⟩
      have HQ := Lib.hid hq
      clear hq
      go_cut [31] from 12 to 73 (fun v wx => v = .bool q ∧ wx = W1)
      case first =>
        by_cases h1 : e < a
        · have hw := wrap_le (Nat.le_of_lt h1) HI.out.2.2.1.1
          by_cases h2 : e + 1 < a
          · have h2z : 1 < (a : Int) - (e : Int) := by omega
            go_wp2_with fail
            go_meet
            case rel => exact ⟨by rw [HQ.out]; simp [h2], rfl⟩
          · have h2z : ¬ (1 < (a : Int) - (e : Int)) := by omega
            go_wp2_with fail
            go_meet
            case rel => exact ⟨by rw [HQ.out]; simp [h2], rfl⟩
        · have h1z : decide (e < a) = false := decide_eq_false h1
          have h2 : ¬ (e + 1 < a) := by omega
          go_wp2_with fail
          go_meet
          case rel => exact ⟨by rw [HQ.out]; simp [h2], rfl⟩
      case rest =>
        obtain ⟨h31, hwc⟩ := hcut
        subst h31
        rw [hwc]
        clear hwc wc
        cases q
        · have hA : ¬ (e + 1 < a) := of_decide_eq_false HQ.out.symm
          clear HQ
          go_upto_region 12 with fail
          obtain ⟨q, hq⟩ : ∃ q, q = decide (b + 1 < c) := ⟨_, rfl⟩
          have HQ := Lib.hid hq
          clear hq
          go_cut [49] from 12 to 73 (fun v wx => v = .bool q ∧ wx = W1)
          case first =>
            by_cases h1 : b < c
            · have hw := wrap_le (Nat.le_of_lt h1) HFX.out.1
              by_cases h2 : b + 1 < c
              · have h2z : 1 < (c : Int) - (b : Int) := by omega
                go_wp2_with fail
                go_meet
                case rel => exact ⟨by rw [HQ.out]; simp [h2], rfl⟩
              · have h2z : ¬ (1 < (c : Int) - (b : Int)) := by omega
                go_wp2_with fail
                go_meet
                case rel => exact ⟨by rw [HQ.out]; simp [h2], rfl⟩
            · have h1z : decide (b < c) = false := decide_eq_false h1
              have h2 : ¬ (b + 1 < c) := by omega
              go_wp2_with fail
              go_meet
              case rel => exact ⟨by rw [HQ.out]; simp [h2], rfl⟩
          case rest =>
            obtain ⟨h49, hwc⟩ := hcut
            subst h49
            rw [hwc]
            clear hwc wc
            cases q
            · have hB : ¬ (b + 1 < c) := of_decide_eq_false HQ.out.symm
              clear HQ
              by_cases g1 : c < a
              · by_cases g2 : b < e
                · go_wp2_with fail
                  go_roundw
                  case rel => exact ⟨k + 1, out, d, c, e, by omega, by go_num, rfl, Lib.hid (HI.out.step hlt HX.out HFX.out (by simp [insStep, hA, hB]; omega) ((HI1.out.set0 c).set1 e))⟩
                  case measure => simp [intOf]; omega
                · have g2z : decide (b < e) = false := decide_eq_false g2
                  go_wp2_with fail
                  go_roundw
                  case rel => exact ⟨k + 1, out, d, c, b, by omega, by go_num, rfl, Lib.hid (HI.out.step hlt HX.out HFX.out (by simp [insStep, hA, hB]; omega) (HI1.out.set0 c))⟩
                  case measure => simp [intOf]; omega
              · have g1z : decide (c < a) = false := decide_eq_false g1
                by_cases g2 : b < e
                · go_wp2_with fail
                  go_roundw
                  case rel => exact ⟨k + 1, out, d, a, e, by omega, by go_num, rfl, Lib.hid (HI.out.step hlt HX.out HFX.out (by simp [insStep, hA, hB]; omega) (HI1.out.set1 e))⟩
                  case measure => simp [intOf]; omega
                · have g2z : decide (b < e) = false := decide_eq_false g2
                  go_wp2_with fail
                  go_roundw
                  case rel => exact ⟨k + 1, out, d, a, b, by omega, by go_num, rfl, Lib.hid (HI.out.step hlt HX.out HFX.out (by simp [insStep, hA, hB]; omega) HI1.out)⟩
                  case measure => simp [intOf]; omega
            · have hB : b + 1 < c := of_decide_eq_true HQ.out.symm
              clear HQ
              cases d
              · obtain ⟨v1, w1, hrun, hI2, hkeep, hblk⟩ := HI1.out.app (a, b) true hol 52
                have hX2 := hkeep _ _ HX1.out (HI.out.2.2.2.ne (Nat.le_refl _))
                have cx0 := hX2.cell0
                have cx1 := hX2.cell1
                obtain ⟨v2, w2, hrun2, hI3, _, _⟩ := hI2.app (c, e) true (by simp; have := HI.out.2.1; have := Hl.out; omega) 52
                have HI3 := Lib.hid hI3
                simp only [hz1] at hrun
                simp only at hrun2 cx0 cx1
                clear hI2 hkeep hblk hX2 hI3
                go_wp2_with fail
                go_roundw
                case rel => exact ⟨k + 1, _, true, a, b, by omega, by go_num, rfl, Lib.hid (HI.out.step hlt HX.out HFX.out (by simp [insStep, hA, hB]) HI3.out)⟩
                case measure => simp [intOf]; omega
              · obtain ⟨v1, w1, hrun, hI2, _, _⟩ := HI1.out.app (c, e) true hol 52
                have HI2 := Lib.hid hI2
                simp only [hz1] at hrun
                clear hI2
                go_wp2_with fail
                go_roundw
                case rel => exact ⟨k + 1, _, true, a, b, by omega, by go_num, rfl, Lib.hid (HI.out.step hlt HX.out HFX.out (by simp [insStep, hA, hB]) HI2.out)⟩
                case measure => simp [intOf]; omega
        · have hA : e + 1 < a := of_decide_eq_true HQ.out.symm
          clear HQ
          obtain ⟨v1, w1, hrun, hI2, _, _⟩ := HI1.out.app (c, e) d hol 52
          have HI2 := Lib.hid hI2
          simp only [hz1] at hrun
          clear hI2
          go_wp2_with fail
          go_roundw
          case rel => exact ⟨k + 1, _, d, a, b, by omega, by go_num, rfl, Lib.hid (HI.out.step hlt HX.out HFX.out (by simp [insStep, hA]) HI2.out)⟩
          case measure => simp [intOf]; omega
    · obtain rfl : k = l.length := by omega
      have hfin : (l.foldl insStep ([], false, (s1, s2))) = (out, d, (a, b)) := by have := HI.out.1; rwa [List.take_length] at this
      have HFin := Lib.hid hfin
      have hI1 := HI.out.2.2.2
      have ci0 := hI1.box.cell0
      have ci1 := hI1.box.cell1
      simp only at ci0 ci1
      clear hfin
      cases d
      · obtain ⟨v1, w1, hrun, hI2, _, _⟩ := hI1.app (a, b) true (by have := HI.out.2.1; have := Hl.out; simp only; omega) 52
        have HI2 := Lib.hid hI2
        simp only at hrun
        clear hI2 hI1
        go_wp2_with fail
        go_ret
        exact ⟨v1, rfl, by unfold insS insFin; rw [HFin.out]; exact HI2.out.own.low (by omega), HI2.out.low⟩
      · have HI2 := Lib.hid hI1
        clear hI1
        go_wp2_with fail
        go_ret
        exact ⟨_, rfl, by unfold insS insFin; rw [HFin.out]; exact HI2.out.own.low (by omega), HI2.out.low⟩
end Go.Proofs.Ythedpjlafapfeaa
