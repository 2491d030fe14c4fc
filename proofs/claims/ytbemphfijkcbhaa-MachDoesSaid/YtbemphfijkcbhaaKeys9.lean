/- maps.Keys at the pages: the iterator tells each key once. -/
import Derived.Sort.MapsRangeIn
import Derived.RangeFuncKeeps
import Derived.RangeFuncNested
import Derived.RangeFuncBox
import Derived.Test.YtbemphfijkcbhaaZero9
namespace Go.Proofs.Ytbemphfijkcbhaa
open Go.RowKit Go.Maps Go.Shelf
attribute [local go_sem] Oper.semAt_some

/-- A key. -/
abbrev KU := { k : Nat // k < 18446744073709551616 }
def kvals (l : List KU) : List Nat := l.map (·.1)
theorem kvals_snoc (l : List KU) (x : KU) : kvals (l ++ [x]) = kvals l ++ [x.1] := by simp [kvals]
/-- The keys that have come. -/
structure ColU (D : DataW Unit) (left : Lit → Bool) (ss : List KU) : Prop where
  nodup : (kvals ss).Nodup
  mem : ∀ k, k ∈ kvals ss ↔ (Maps.has D (klit k) = true ∧ left (klit k) = false)
  sub : ∀ l, left l = true → Maps.has D l = true
theorem ColU.start (D : DataW Unit) : ColU D (Maps.has D) [] := ⟨List.nodup_nil, fun k => ⟨fun h => (by cases h), fun ⟨h1, h2⟩ => by rw [h1] at h2; cases h2⟩, fun l h => h⟩
theorem ColU.step {D : DataW Unit} {left : Lit → Bool} {ss : List KU} (h : ColU D left ss) {k : KU} (hk : Maps.has D (klit k.1) = true) (hl : left (klit k.1) = true) : ColU D (fun z => left z && !z.sameKey (klit k.1)) (ss ++ [k]) := by
  refine ⟨?_, fun j => ?_, fun l hl2 => h.sub l (by simp at hl2; exact hl2.1)⟩
  · rw [kvals_snoc]
    refine List.nodup_append.2 ⟨h.nodup, by simp, fun x hx y hy => ?_⟩
    obtain rfl : y = k.1 := by simpa using hy
    rintro rfl
    have := ((h.mem _).1 hx).2
    rw [hl] at this
    cases this
  · rw [kvals_snoc, List.mem_append, List.mem_singleton, h.mem j, klit_same k.2]
    by_cases e : j = k.1
    · subst e; simp [hk]
    · simp [e]
def SKeys (D : DataW Unit) (ys : List KU) : Prop := (kvals ys).Nodup ∧ (∀ k, k ∈ kvals ys ↔ Maps.has D (klit k) = true) ∧ ys.length ≤ Maps.size D
theorem KeepsWalks.putObj {W : World} {l : Nat} {o : Obj} (o' : Obj) (h : W.heap[l]? = some o) (hw : o.isWalk = false) : KeepsWalks W (W.putObj l o') :=
  ⟨(grownBy_putObj' W l o').size, fun k o2 hk ho2 => by
    have e : k ≠ l := fun e => by subst e; rw [hk] at h; cases h; rw [ho2] at hw; cases hw
    rw [World.putObj_heap_other e]; exact hk⟩
set_option maxRecDepth 100000 in
set_option maxHeartbeats 2000000 in
theorem keys1_in (n : Nat) (hn : 1 ≤ n) (lp Bm b nn : Nat) (D : DataW Unit) (hfull : ∀ l, Maps.has D l = true → ∃ k, l = klit k ∧ k < 18446744073709551616) (J Jx : List KU → World → Prop)
    (W : World) (hA : AbidesFrom W.heap.size J)
    (hY : ∀ pre (x : KU) W1, J pre W1 → pre.length < Maps.size D → YieldAt Fence.wide (n - 1) Try.prog lp #[.int .u64 (x.1 : Int)] W1 fun e W' =>
      (e = .returned (.bool true) ∧ J (pre ++ [x]) W' ∧ KeepsWalks W1 W') ∨ (e = .returned (.bool false) ∧ Jx (pre ++ [x]) W'))
    (hm : W.cell? ⟨Bm, 0, none⟩ = some (.map (some b))) (hown : W.ownsMap Try.prog 22 ptrR b nn D) (h0 : J [] W) :
    CallsIn Fence.wide n Try.prog 64 #[.func (.yield lp) #[] #[], .pointer (some ⟨Bm, 0, none⟩)] W fun e W' => (∃ v, e = .returned v) ∧
      ((∃ ys, SKeys D ys ∧ J ys W') ∨ (∃ pre, True ∧ Jx pre W')) := by
  refine callsIn_of_wp Try.func64 rfl trivial ?_ rfl
  simp only [Try.ntmps64, List.size_toArray, List.length_cons, List.length_nil, Nat.reduceAdd, Nat.reduceSub, Array.replicate_succ, Array.replicate_zero, List.push_toArray, List.append_toArray, List.nil_append, List.cons_append]
  gi_wp2_with (first
    | (gi_at_range; refine wpListIn_range_own _ rfl _ 85 rfl 22 100 kLaw Try.underlying85 ptrR b nn D rfl hown ?_; intro w0 hrg0 hg0 hs0))
  go_frame
  gi_loopw [3] (fun _ wr => ∃ (left : Lit → Bool) (cnt : Nat) (ss : List KU), wr.ranges Try.prog 22 ptrR b W.heap.size nn D left cnt ∧ ColU D left ss ∧ J ss wr ∧ ss.length + cnt ≤ Maps.size D)
    (fun _ wr => wr.rangeLeft b W.heap.size)
  case atStart =>
    exact ⟨_, _, [], hrg0, ColU.start D, hA [] W w0 none h0 hg0 (fun r e => by cases e), by simp⟩
  case round =>
    obtain ⟨left, cnt, ss, hrg, hC, hJs, hcn⟩ := hrel
    gi_wp2_with (first
      | (gi_at_next; refine wpListIn_next_ranges _ rfl _ rfl 22 kLaw ptrR (Value.int .u64) pval (fun key kl hk => by obtain ⟨x, hx, _⟩ := keyOf_int_inv Try.underlying22 hk; exact ⟨x, hx⟩) (fun v y hv => by rcases ptrR_inv hv with ⟨rfl, _⟩ | ⟨g, rfl, _⟩; exact ⟨none, rfl⟩; exact ⟨some g, rfl⟩) b W.heap.size nn _ _ _ rfl hrg ?_ ?_))
    · intro hc0 hl0
      gi_wp2
      go_end0
      exact ⟨⟨_, rfl⟩, .inl ⟨ss, ⟨hC.nodup, fun k => by rw [hC.mem k, hl0 (klit k)]; simp, by omega⟩, hJs⟩⟩
    · intro x o kl yd yp w2 cnt2 hkey hlk hv hat hrg2 hlt hg2 hs2 hen
      obtain ⟨x', ex, rfl, _⟩ := keyOf_int_inv Try.underlying22 hkey
      cases ex
      have hhas : Maps.has D (.int .u64 x) = true := hC.sub _ hlk
      obtain ⟨k, ek, hk⟩ := hfull _ hhas
      obtain rfl : x = (k : Int) := by unfold klit at ek; injection ek
      have hJ2 : J ss w2 := hA ss wr w2 (some W.heap.size) hJs hg2 (fun r e => by cases e; exact ⟨Nat.le_refl _, hrg.iter_walk⟩)
      obtain ⟨fn, tmps, assign, body, hy, hR⟩ := hY ss ⟨k, hk⟩ w2 hJ2 (by omega)
      have HC := Lib.hid (hC.step (k := ⟨k, hk⟩) hhas hlk)
      have HL := Lib.hid (And.intro hrg.left_eq (And.intro hlt hcn))
      change w2.ranges _ _ _ _ _ _ _ (fun z => left z && !z.sameKey (klit k)) cnt2 at hrg2
      have HR2 := Lib.hid hrg2
      dsimp only at hy
      clear hs2 hC hJs hrg hrg2 hlt hcn hlk hat hv hkey hhas hg2 ek hJ2
      gi_wp2
      refine hR.mono ?_
      rintro e W3 (⟨rfl, hJ3, hk3⟩ | ⟨rfl, hJx3⟩)
      · gi_wp2
        go_roundw
        case rel => exact ⟨_, cnt2, ss ++ [⟨k, hk⟩], HR2.out.of_walks hk3, HC.out, hJ3, by have := HL.out; simp; omega⟩
        case measure => rw [(HR2.out.of_walks hk3).left_eq, HL.out.1]; exact HL.out.2.1
      · gi_wp2
        refine bodyPost_ret (results_none rfl _ _ _) rfl ?_
        exact ⟨⟨_, rfl⟩, .inr ⟨_, trivial, hJx3⟩⟩
/-- maps.Keys: the map is boxed; the function value captures the box. -/
theorem keys_any (mb : Option Nat) (w : World) :
    Calls Try.prog 45 #[.map mb] w fun e w' => e = .returned (.func (.func 64) #[] #[.pointer (some ⟨w.heap.size, 0, none⟩)]) ∧ w' = w.alloc (.cells #[.map mb] 85) := by
  go_enter Try.func45, Try.ntmps45
  go_wp2
  go_ret
  exact ⟨rfl, rfl⟩
theorem keys_stops (n : Nat) (hn : 1 ≤ n) (Bm b nn : Nat) (D : DataW Unit) (hfull : ∀ l, Maps.has D l = true → ∃ k, l = klit k ∧ k < 18446744073709551616) (w : World) (hm : w.cell? ⟨Bm, 0, none⟩ = some (.map (some b))) (hBm : Bm < w.heap.size) (hb : b < w.heap.size) (hown : w.ownsMap Try.prog 22 ptrR b nn D) :
    SeqStopsK Fence.wide n Try.prog 64 #[.pointer (some ⟨Bm, 0, none⟩)] (fun x : KU => #[.int .u64 (x.1 : Int)]) KeepsWalks (SKeys D) (fun _ => True) (Maps.size D) w := fun lp J Jx W hW hJ _ hY h0 =>
  keys1_in n hn lp Bm b nn D hfull J Jx W hJ hY ((hW.cell (p := ⟨Bm, 0, none⟩) hBm).trans hm) (by
    obtain ⟨es, clock, hb', r⟩ := hown
    exact ⟨es, clock, (hW.block b hb).trans hb', r⟩) h0
end Go.Proofs.Ytbemphfijkcbhaa
