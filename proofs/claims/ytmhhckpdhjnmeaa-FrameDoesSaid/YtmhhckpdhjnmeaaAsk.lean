/- span.covered's function value: it tells whether an address is of a good one. -/
import Derived.Test.YtmhhckpdhjnmeaaCover
import Derived.Shelf.SlSorted.Search
import Derived.RegionTactic
namespace Go.Proofs.Ytmhhckpdhjnmeaa
open Go.RowKit Go.Shelf Go.Lib Go.Sort Go.Proofs

theorem count_all {r : List Sp} {p : Nat} (h : ∀ x ∈ r, ¬ x.1 ≤ p) : r.countP (fun x => decide (x.1 ≤ p)) = 0 := by
  rw [List.countP_eq_zero]
  intro x hx
  simpa using h x hx
theorem count_iff {p : Nat} : ∀ (r : List Sp), r.Pairwise (fun x y => x.1 ≤ y.1) → ∀ (i : Nat) (h : i < r.length), r[i].1 ≤ p ↔ i < r.countP (fun x => decide (x.1 ≤ p))
  | [], _, i, h => by cases h
  | x :: t, hp, i, h => by
    obtain ⟨h1, h2⟩ := List.pairwise_cons.1 hp
    by_cases hx : x.1 ≤ p
    · rw [List.countP_cons_of_pos (by simpa using hx)]
      match i, h with
      | 0, _ => simpa using hx
      | i + 1, h => simpa using count_iff t h2 i (by simpa using h)
    · have h0 : t.countP (fun x => decide (x.1 ≤ p)) = 0 := count_all fun y hy => by have := h1 y hy; omega
      rw [List.countP_cons_of_neg (by simpa using hx), h0]
      match i, h with
      | 0, _ => simp; omega
      | i + 1, h =>
        have := h1 _ (List.getElem_mem (show i < t.length by simpa using h))
        simp; omega
theorem count_range (r : List Sp) (p : Nat) : (List.range r.length).countP (fun i => !decide (p < (r.getD i (0, 0)).1)) = r.countP (fun x => decide (x.1 ≤ p)) := by
  have h : r = (List.range r.length).map (fun i => r.getD i (0, 0)) := by
    apply List.ext_getElem
    · simp
    · intro i h1 h2
      simp [h1]
  conv => rhs; rw [h]
  rw [List.countP_map]
  congr 1
  funext i
  show (!decide (p < (r.getD i (0, 0)).1)) = decide ((r.getD i (0, 0)).1 ≤ p)
  by_cases h : p < (r.getD i (0, 0)).1
  · have h2 : ¬ (r.getD i (0, 0)).1 ≤ p := by omega
    rw [decide_eq_true h, decide_eq_false h2]; rfl
  · have h2 : (r.getD i (0, 0)).1 ≤ p := by omega
    rw [decide_eq_false h, decide_eq_true h2]; rfl
theorem le_reach (p : Nat) : ∀ (l : List Sp) (f : Nat), p ≤ l.foldl (fun f x => max f (last x)) f ↔ p ≤ f ∨ ∃ x ∈ l, p ≤ last x
  | [], f => by simp
  | x :: l, f => by
    rw [List.foldl_cons, le_reach p l]
    constructor
    · rintro (h | ⟨y, hy, h⟩)
      · rcases Nat.le_total f (last x) with h' | h'
        · exact .inr ⟨x, by simp, by omega⟩
        · exact .inl (by omega)
      · exact .inr ⟨y, by simp [hy], h⟩
    · rintro (h | ⟨y, hy, h⟩)
      · exact .inl (by omega)
      · rcases List.mem_cons.1 hy with rfl | hy
        · exact .inl (by omega)
        · exact .inr ⟨y, hy, h⟩
def begun (r : List Sp) (p : Nat) : Nat := r.countP (fun x => decide (x.1 ≤ p))
theorem begun_le (r : List Sp) (p : Nat) : begun r p ≤ r.length := List.countP_le_length
theorem cov_eq {l r : List Sp} (hr : Rising (l.filter good) r) (p : Nat) : (decide (0 < begun r p) && decide (p ≤ reachTo r (begun r p))) = inn l p := by
  have hg : ∀ x ∈ r, x ∈ l ∧ good x = true := fun x hx => List.mem_filter.1 (hr.1.mem_iff.1 hx)
  rw [Bool.eq_iff_iff, inn_iff]
  simp only [Bool.and_eq_true, decide_eq_true_eq]
  constructor
  · rintro ⟨h0, h1⟩
    have key : ∀ x ∈ r.take (begun r p), x.1 ≤ p := by
      intro x hx
      obtain ⟨i, hi, rfl⟩ := List.getElem_of_mem hx
      rw [List.length_take] at hi
      rw [List.getElem_take]
      exact (count_iff r hr.2 i (by omega)).2 (by show i < begun r p; omega)
    have fin : ∀ x ∈ r.take (begun r p), p ≤ last x → ∃ x ∈ l, has x p = true := by
      intro x hx hp
      obtain ⟨hl, hgx⟩ := hg x (List.mem_of_mem_take hx)
      have := last_good hgx
      exact ⟨x, hl, (has_iff x p).2 ⟨hgx, key x hx, by omega⟩⟩
    rcases (le_reach p _ 0).1 h1 with h | ⟨x, hx, h⟩
    · have hlen : 0 < (r.take (begun r p)).length := by have := begun_le r p; rw [List.length_take]; omega
      exact fin _ (List.getElem_mem hlen) (by omega)
    · exact fin x hx h
  · rintro ⟨x, hx, h⟩
    obtain ⟨hgx, h1, h2⟩ := (has_iff x p).1 h
    have hxr : x ∈ r := hr.1.mem_iff.2 (List.mem_filter.2 ⟨hx, hgx⟩)
    obtain ⟨i, hi, rfl⟩ := List.getElem_of_mem hxr
    have hb : i < begun r p := (count_iff r hr.2 i hi).1 h1
    refine ⟨by omega, (le_reach p _ 0).2 (.inr ⟨r[i], ?_, ?_⟩)⟩
    · rw [List.mem_take_iff_getElem]
      exact ⟨i, by omega, rfl⟩
    · have := last_good hgx; omega

set_option maxHeartbeats 1000000 in
theorem askBase_any (r : List Sp) (A : Option Addr) (cap p bB bA i : Nat) (hi : i < r.length) (W : World) (hB : W.cell? ⟨bB, 0, none⟩ = some (.slice A r.length cap)) (hR : Row W W.heap.size A r) (hA : W.cell? ⟨bA, 0, none⟩ = some (.int .u64 (p : Int))) :
    Calls Try.prog 50 #[.int .i64 (i : Int), .pointer (some ⟨bB, 0, none⟩), .pointer (some ⟨bA, 0, none⟩)] W fun e w' => e = .returned (.bool (decide (p < (r.getD i (0, 0)).1))) ∧ ∃ q, w' = W.drewN q := by
  obtain ⟨a, q, rfl, hq, _, hc1, hc2⟩ := hR.at hi
  have e : (r.getD i (0, 0)).1 = r[i].1 := by simp [hi]
  rw [e]
  clear hR hc2 e
  obtain ⟨b, hb⟩ : ∃ b, r[i].1 = b := ⟨_, rfl⟩
  rw [hb] at hc1 ⊢
  clear hb
  go_enter Try.func50, Try.ntmps50
  go_wp2
  go_quiet (fail)
  go_wp2
  go_ret
  exact ⟨by simp, _, rfl⟩

set_option maxRecDepth 100000 in
set_option maxHeartbeats 2000000 in
theorem ask_any (l r : List Sp) (hr : Rising (l.filter good) r) (hn : r.length ≤ 1000000) (p bB bR : Nat) (W : World) (h : CovAt W r bB bR) :
    Calls Try.prog 48 #[.int .u64 (p : Int), .pointer (some ⟨bB, 0, none⟩), .pointer (some ⟨bR, 0, none⟩)] W fun e w' => e = .returned (.bool (inn l p)) ∧ Below W.heap.size W w' := by
  have eg : ∀ args w, (callFunc 50 args).run Try.prog w = .ok (.enter 50 args) w := enters_of Try.func50 (by kernel_rfl) rfl
  obtain ⟨W1, hW1⟩ : ∃ W1, W1 = W.alloc (.cells #[.int .u64 (p : Int)] 22) := ⟨_, rfl⟩
  have hb1 : Below W.heap.size W W1 := by rw [hW1]; exact (Below.refl _ _).alloc (Nat.le_refl _) _
  have hs1 : W1.heap.size = W.heap.size + 1 := by rw [hW1]; simp
  have hA1 : W1.cell? ⟨W.heap.size, 0, none⟩ = some (.int .u64 (p : Int)) := by rw [hW1]; simp
  obtain ⟨A, c, A2, c2, g1, g2, g3, g4, g5, g6⟩ := h.below hb1
  have hf : ∀ (m : Nat) (os : Array Obj) (i : Nat), i < r.length → Calls Try.prog 50 (#[.int .i64 i] ++ #[.pointer (some ⟨bB, 0, none⟩), .pointer (some ⟨W.heap.size, 0, none⟩)]) (grow (W1.drewN m) os) fun e w' => e = .returned (.bool (decide (p < (r.getD i (0, 0)).1))) ∧ ∃ q os', w' = grow ((grow (W1.drewN m) os).drewN q) os' := by
    intro m os i hi
    have hb := below_grown_sl W1.heap.size W1 m os (Nat.le_refl _)
    refine (askBase_any r A c p bB W.heap.size i hi _ ((hb.cell (p := ⟨bB, 0, none⟩) g1).trans g3) ((g4.below hb).wide hb.size) ((hb.cell (p := ⟨W.heap.size, 0, none⟩) (by show W.heap.size < _; omega)).trans hA1)).mono ?_
    rintro e w' ⟨he, q, rfl⟩
    exact ⟨he, q, #[], (grow_empty _).symm⟩
  have hmono : ∀ a b, a ≤ b → b < r.length → (fun i => decide (p < (r.getD i (0, 0)).1)) a = true → (fun i => decide (p < (r.getD i (0, 0)).1)) b = true := by
    intro a b hab hb ha
    simp only [decide_eq_true_eq] at ha ⊢
    rcases Nat.lt_or_ge a b with h' | h'
    · have := (List.pairwise_iff_getElem.1 hr.2) a b (by omega) hb h'
      have e1 : r.getD a (0, 0) = r[a] := by simp [show a < r.length by omega]
      have e2 : r.getD b (0, 0) = r[b] := by simp [hb]
      rw [e1] at ha
      rw [e2]
      omega
    · obtain rfl : a = b := by omega
      exact ha
  have hS := Any.sort_Search layO 50 #[.pointer (some ⟨bB, 0, none⟩), .pointer (some ⟨W.heap.size, 0, none⟩)] r.length _ W1 eg (by omega) hf hmono
  rw [count_range r p] at hS
  change Calls Try.prog 49 _ _ (fun e w' => e = .returned (.int .i64 (begun r p : Nat)) ∧ ∃ q os, w' = grow (W1.drewN q) os) at hS
  have hce := cov_eq hr p
  have hbl := begun_le r p
  have hby : (W.alloc (.cells #[.int .u64 (p : Int)] 22)).cell? ⟨bB, 0, none⟩ = some (.slice A r.length c) := by rw [← hW1]; exact g3
  generalize begun r p = n at hS hce hbl
  have HS := Lib.hid hS
  have HW1 := Lib.hid hW1
  have Hb1 := Lib.hid hb1
  clear eg hf hmono hS
  have nx : ∀ w3 : World, (∃ q os, w3 = grow (W1.drewN q) os) → RowKit.Below W.heap.size W w3 ∧ w3.cell? ⟨W.heap.size, 0, none⟩ = some (.int .u64 (p : Int)) ∧ w3.cell? ⟨bR, 0, none⟩ = some (.slice A2 r.length c2) ∧ Lies w3 w3.heap.size 1 A2 r.length (u64s (reachL r r.length)) := by
    rintro w3 ⟨q, os, rfl⟩
    have hb := below_grown_sl W1.heap.size W1 q os (Nat.le_refl _)
    exact ⟨hb1.trans (hb.mono hb1.size), (hb.cell (p := ⟨W.heap.size, 0, none⟩) (by show W.heap.size < _; omega)).trans hA1, (hb.cell (p := ⟨bR, 0, none⟩) g2).trans g5, (g6.below hb).wide hb.size⟩
  have Nx := Lib.hid nx
  have HN := Lib.hid hn
  clear hW1 hb1 g1 g2 g3 g4 g5 g6 hA1 hs1 h nx hn hr
  rcases n with _ | k
  · have e : inn l p = false := by rw [← hce]; simp
    rw [e]
    clear hce hbl e HN
    go_enter Try.func48, Try.ntmps48
    go_wp2_with (go_at_call 49; rw [← HW1.out]; refine HS.out.mono ?_; rintro e w3 ⟨rfl, hw⟩; obtain ⟨h1, h2, h3, h4⟩ := Nx.out w3 hw; have H1 := Lib.hid h1; clear h1 h4 hw)
    go_region
    go_wp2
    go_ret
    exact ⟨by simp, H1.out.drew⟩
  · have hk : k < r.length := by omega
    have hki : (0 : Int) < (k : Int) + 1 := by omega
    have hkb : k + 1 ≤ 1000000 := Nat.le_trans hbl HN.out
    have ec : (((k + 1 : Nat)) : Int) = (k : Int) + 1 := by omega
    have e : inn l p = decide (p ≤ reachTo r (k + 1)) := by rw [← hce]; simp
    rw [e]
    have HS2 := HS.out
    rw [ec] at HS2
    have HS3 := Lib.hid HS2
    have Hk := Lib.hid hk
    clear hce hbl e HN HS2 HS ec hk
    have wk : IntKind.i64.wrap ((k : Int) + 1 - 1) = k := by simp [IntKind.wrap, IntKind.bits, IntKind.signed]; omega
    have wk2 : wrap64 ((k : Int) + 1 - 1) = k := by simp [wrap64]; omega
    have tk : ((k : Int) + 1 - 1) = k := by omega
    go_enter Try.func48, Try.ntmps48
    go_wp2_with (go_at_call 49; rw [← HW1.out]; refine HS3.out.mono ?_; rintro e w3 ⟨rfl, hw⟩; obtain ⟨h1, h2, h3, h4⟩ := Nx.out w3 hw; obtain ⟨a, hx, rfl, _, h5⟩ := h4.atMap Hk.out; (have e5 : (reachL r r.length)[k] = reachTo r (k + 1) := by simp [reachL]); rw [e5] at h5; have H1 := Lib.hid h1; have hkr := Hk.out; clear h1 h4 hw hx e5)
    go_region
    go_wp2
    go_ret
    exact ⟨by simp, H1.out.drew⟩
end Go.Proofs.Ytmhhckpdhjnmeaa
