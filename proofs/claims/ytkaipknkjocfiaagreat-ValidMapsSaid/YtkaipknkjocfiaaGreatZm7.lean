/- Merged: TwoB, Row, Pages, Rp, Rat. -/
import Derived.Laws.StructEq
import Derived.Deep.CutBlock
import Derived.Test.YtkaipknkjocfiaaGreatZm6
import Derived.Test.YtkaipknkjocfiaaGreatZm5
import Derived.Test.YtkaipknkjocfiaaGreatZm0
import Derived.Test.YtkaipknkjocfiaaGreatZm4
namespace Go.Proofs.YtkaipknkjocfiaaGreat
open Go.RowKit
set_option maxHeartbeats 1000000 in
theorem roverlap_any (a b c d : Nat) (hx : fit (a, b)) (hy : fit (c, d)) (w : World) :
   Calls Tryz.prog 31 #[.agg #[.int .u64 (a : Int), .int .u64 (b : Int)], .agg #[.int .u64 (c : Int), .int .u64 (d : Int)]] w fun e w' => e = .returned (.bool (overlap (a, b) (c, d))) ∧ Below w.heap.size w w' := by
 have Hx := Lib.hid hx
 have Hy := Lib.hid hy
 by_cases h : good (a, b) = true
 · by_cases k : good (c, d) = true
   · have E := Lib.hid (show overlap (a, b) (c, d) = (decide (a ≤ last (c, d)) && decide (c ≤ last (a, b))) by
       have hl := last_good h
       have kl := last_good k
       have hg := (good_iff _).1 h
       have kg := (good_iff _).1 k
       simp only at hl kl hg kg
       rw [Bool.eq_iff_iff]; simp [overlap, h, k]; omega)
     by_cases h1 : a ≤ last (c, d)
     · by_cases h2 : c ≤ last (a, b)
       · rw [show overlap (a, b) (c, d) = true from by first | (rw [E.out]; simp [h1, h2]) | (rw [E.out]; simp [h1]) | simp [overlap, h, k] | simp [overlap, h]]
         go_enter Tryz.func31, Tryz.ntmps31
         go_wp2
         refine wp_region_held_drew (S := fun W => Below w.heap.size w W ∧ W.cell? ⟨w.heap.size, 0, none⟩ = some (.int .u64 (a : Int)) ∧ W.cell? ⟨w.heap.size, 1, none⟩ = some (.int .u64 (b : Int)) ∧ W.cell? ⟨w.heap.size + 1, 0, none⟩ = some (.int .u64 (c : Int)) ∧ W.cell? ⟨w.heap.size + 1, 1, none⟩ = some (.int .u64 (d : Int))) (by kernel_rfl) (keep4_start w a b c d _ rfl) (fun hS => ?_)
         refine tA 0 (h := ?_)
         refine oQ 1 (h := fun K1 hK1 => ?_)
         go_simp
         refine (rgood_bel a b Hx.out _).mono ?_
         rintro e w1 ⟨rfl, hd⟩
         refine hK1 _ _ (keep4 hd hS) (fun hS1 => ?_)
         clear hS hd hK1 K1
         refine tA 2 (h := ?_)
         refine tA 3 (h := ?_)
         refine oQ 4 (h := fun K4 hK4 => ?_)
         go_simp
         refine (rgood_bel c d Hy.out _).mono ?_
         rintro e w1 ⟨rfl, hd⟩
         refine hK4 _ _ (keep4 hd hS1) (fun hS4 => ?_)
         clear hS1 hd hK4 K4
         refine tA 5 (h := ?_)
         refine tA 6 (h := ?_)
         refine tA 7 (h := ?_)
         refine tA 8 (h := ?_)
         refine tA 9 (h := ?_)
         refine oQ 10 (h := fun K10 hK10 => ?_)
         go_simp
         refine (rlast_bel c d Hy.out _).mono ?_
         rintro e w1 ⟨rfl, hd⟩
         refine hK10 _ _ (keep4 hd hS4) (fun hS10 => ?_)
         clear hS4 hd hK10 K10
         refine tA 11 (h := ?_)
         refine tA 12 (h := ?_)
         refine tA 13 (h := ?_)
         refine tA 14 (h := ?_)
         refine tA 15 (h := ?_)
         refine tA 16 (h := ?_)
         refine oQ 17 (h := fun K17 hK17 => ?_)
         go_simp
         refine (rlast_bel a b Hx.out _).mono ?_
         rintro e w1 ⟨rfl, hd⟩
         refine hK17 _ _ (keep4 hd hS10) (fun hS17 => ?_)
         clear hS10 hd hK17 K17
         refine tA 18 (h := ?_)
         refine tA 19 (h := ?_)
         refine tA 20 (h := ?_)
         refine wpAnyH_done (by kernel_rfl) ?_ _
         go_wp2
         go_ret
         exact ⟨rfl, hS17.1⟩
       · rw [show overlap (a, b) (c, d) = false from by first | (rw [E.out]; simp [h1, h2]) | (rw [E.out]; simp [h1]) | simp [overlap, h, k] | simp [overlap, h]]
         go_enter Tryz.func31, Tryz.ntmps31
         go_wp2
         refine wp_region_held_drew (S := fun W => Below w.heap.size w W ∧ W.cell? ⟨w.heap.size, 0, none⟩ = some (.int .u64 (a : Int)) ∧ W.cell? ⟨w.heap.size, 1, none⟩ = some (.int .u64 (b : Int)) ∧ W.cell? ⟨w.heap.size + 1, 0, none⟩ = some (.int .u64 (c : Int)) ∧ W.cell? ⟨w.heap.size + 1, 1, none⟩ = some (.int .u64 (d : Int))) (by kernel_rfl) (keep4_start w a b c d _ rfl) (fun hS => ?_)
         refine tA 0 (h := ?_)
         refine oQ 1 (h := fun K1 hK1 => ?_)
         go_simp
         refine (rgood_bel a b Hx.out _).mono ?_
         rintro e w1 ⟨rfl, hd⟩
         refine hK1 _ _ (keep4 hd hS) (fun hS1 => ?_)
         clear hS hd hK1 K1
         refine tA 2 (h := ?_)
         refine tA 3 (h := ?_)
         refine oQ 4 (h := fun K4 hK4 => ?_)
         go_simp
         refine (rgood_bel c d Hy.out _).mono ?_
         rintro e w1 ⟨rfl, hd⟩
         refine hK4 _ _ (keep4 hd hS1) (fun hS4 => ?_)
         clear hS1 hd hK4 K4
         refine tA 5 (h := ?_)
         refine tA 6 (h := ?_)
         refine tA 7 (h := ?_)
         refine tA 8 (h := ?_)
         refine tA 9 (h := ?_)
         refine oQ 10 (h := fun K10 hK10 => ?_)
         go_simp
         refine (rlast_bel c d Hy.out _).mono ?_
         rintro e w1 ⟨rfl, hd⟩
         refine hK10 _ _ (keep4 hd hS4) (fun hS10 => ?_)
         clear hS4 hd hK10 K10
         refine tA 11 (h := ?_)
         refine tA 12 (h := ?_)
         refine tA 13 (h := ?_)
         refine tA 14 (h := ?_)
         refine tA 15 (h := ?_)
         refine tA 16 (h := ?_)
         refine oQ 17 (h := fun K17 hK17 => ?_)
         go_simp
         refine (rlast_bel a b Hx.out _).mono ?_
         rintro e w1 ⟨rfl, hd⟩
         refine hK17 _ _ (keep4 hd hS10) (fun hS17 => ?_)
         clear hS10 hd hK17 K17
         refine tA 18 (h := ?_)
         refine tA 19 (h := ?_)
         refine tA 20 (h := ?_)
         refine wpAnyH_done (by kernel_rfl) ?_ _
         go_wp2
         go_ret
         exact ⟨rfl, hS17.1⟩
     · rw [show overlap (a, b) (c, d) = false from by first | (rw [E.out]; simp [h1, h2]) | (rw [E.out]; simp [h1]) | simp [overlap, h, k] | simp [overlap, h]]
       go_enter Tryz.func31, Tryz.ntmps31
       go_wp2
       refine wp_region_held_drew (S := fun W => Below w.heap.size w W ∧ W.cell? ⟨w.heap.size, 0, none⟩ = some (.int .u64 (a : Int)) ∧ W.cell? ⟨w.heap.size, 1, none⟩ = some (.int .u64 (b : Int)) ∧ W.cell? ⟨w.heap.size + 1, 0, none⟩ = some (.int .u64 (c : Int)) ∧ W.cell? ⟨w.heap.size + 1, 1, none⟩ = some (.int .u64 (d : Int))) (by kernel_rfl) (keep4_start w a b c d _ rfl) (fun hS => ?_)
       refine tA 0 (h := ?_)
       refine oQ 1 (h := fun K1 hK1 => ?_)
       go_simp
       refine (rgood_bel a b Hx.out _).mono ?_
       rintro e w1 ⟨rfl, hd⟩
       refine hK1 _ _ (keep4 hd hS) (fun hS1 => ?_)
       clear hS hd hK1 K1
       refine tA 2 (h := ?_)
       refine tA 3 (h := ?_)
       refine oQ 4 (h := fun K4 hK4 => ?_)
       go_simp
       refine (rgood_bel c d Hy.out _).mono ?_
       rintro e w1 ⟨rfl, hd⟩
       refine hK4 _ _ (keep4 hd hS1) (fun hS4 => ?_)
       clear hS1 hd hK4 K4
       refine tA 5 (h := ?_)
       refine tA 6 (h := ?_)
       refine tA 7 (h := ?_)
       refine tA 8 (h := ?_)
       refine tA 9 (h := ?_)
       refine oQ 10 (h := fun K10 hK10 => ?_)
       go_simp
       refine (rlast_bel c d Hy.out _).mono ?_
       rintro e w1 ⟨rfl, hd⟩
       refine hK10 _ _ (keep4 hd hS4) (fun hS10 => ?_)
       clear hS4 hd hK10 K10
       refine tA 11 (h := ?_)
       refine tA 12 (h := ?_)
       refine tA 13 (h := ?_)
       refine sQ 14 (h := ?_)
       refine sQ 15 (h := ?_)
       refine sQ 16 (h := ?_)
       refine sQ 17 (h := ?_)
       refine sQ 18 (h := ?_)
       refine tA 19 (h := ?_)
       refine tA 20 (h := ?_)
       refine wpAnyH_done (by kernel_rfl) ?_ _
       go_wp2
       go_ret
       exact ⟨rfl, hS10.1⟩
   · rw [show overlap (a, b) (c, d) = false from by first | (rw [E.out]; simp [h1, h2]) | (rw [E.out]; simp [h1]) | simp [overlap, h, k] | simp [overlap, h]]
     go_enter Tryz.func31, Tryz.ntmps31
     go_wp2
     refine wp_region_held_drew (S := fun W => Below w.heap.size w W ∧ W.cell? ⟨w.heap.size, 0, none⟩ = some (.int .u64 (a : Int)) ∧ W.cell? ⟨w.heap.size, 1, none⟩ = some (.int .u64 (b : Int)) ∧ W.cell? ⟨w.heap.size + 1, 0, none⟩ = some (.int .u64 (c : Int)) ∧ W.cell? ⟨w.heap.size + 1, 1, none⟩ = some (.int .u64 (d : Int))) (by kernel_rfl) (keep4_start w a b c d _ rfl) (fun hS => ?_)
     refine tA 0 (h := ?_)
     refine oQ 1 (h := fun K1 hK1 => ?_)
     go_simp
     refine (rgood_bel a b Hx.out _).mono ?_
     rintro e w1 ⟨rfl, hd⟩
     refine hK1 _ _ (keep4 hd hS) (fun hS1 => ?_)
     clear hS hd hK1 K1
     refine tA 2 (h := ?_)
     refine tA 3 (h := ?_)
     refine oQ 4 (h := fun K4 hK4 => ?_)
     go_simp
     refine (rgood_bel c d Hy.out _).mono ?_
     rintro e w1 ⟨rfl, hd⟩
     refine hK4 _ _ (keep4 hd hS1) (fun hS4 => ?_)
     clear hS1 hd hK4 K4
     refine tA 5 (h := ?_)
     refine tA 6 (h := ?_)
     refine sQ 7 (h := ?_)
     refine sQ 8 (h := ?_)
     refine sQ 9 (h := ?_)
     refine sQ 10 (h := ?_)
     refine sQ 11 (h := ?_)
     refine tA 12 (h := ?_)
     refine tA 13 (h := ?_)
     refine sQ 14 (h := ?_)
     refine sQ 15 (h := ?_)
     refine sQ 16 (h := ?_)
     refine sQ 17 (h := ?_)
     refine sQ 18 (h := ?_)
     refine tA 19 (h := ?_)
     refine tA 20 (h := ?_)
     refine wpAnyH_done (by kernel_rfl) ?_ _
     go_wp2
     go_ret
     exact ⟨rfl, hS4.1⟩
 · rw [show overlap (a, b) (c, d) = false from by first | (rw [E.out]; simp [h1, h2]) | (rw [E.out]; simp [h1]) | simp [overlap, h, k] | simp [overlap, h]]
   go_enter Tryz.func31, Tryz.ntmps31
   go_wp2
   refine wp_region_held_drew (S := fun W => Below w.heap.size w W ∧ W.cell? ⟨w.heap.size, 0, none⟩ = some (.int .u64 (a : Int)) ∧ W.cell? ⟨w.heap.size, 1, none⟩ = some (.int .u64 (b : Int)) ∧ W.cell? ⟨w.heap.size + 1, 0, none⟩ = some (.int .u64 (c : Int)) ∧ W.cell? ⟨w.heap.size + 1, 1, none⟩ = some (.int .u64 (d : Int))) (by kernel_rfl) (keep4_start w a b c d _ rfl) (fun hS => ?_)
   refine tA 0 (h := ?_)
   refine oQ 1 (h := fun K1 hK1 => ?_)
   go_simp
   refine (rgood_bel a b Hx.out _).mono ?_
   rintro e w1 ⟨rfl, hd⟩
   refine hK1 _ _ (keep4 hd hS) (fun hS1 => ?_)
   clear hS hd hK1 K1
   refine tA 2 (h := ?_)
   refine sQ 3 (h := ?_)
   refine sQ 4 (h := ?_)
   refine tA 5 (h := ?_)
   refine tA 6 (h := ?_)
   refine sQ 7 (h := ?_)
   refine sQ 8 (h := ?_)
   refine sQ 9 (h := ?_)
   refine sQ 10 (h := ?_)
   refine sQ 11 (h := ?_)
   refine tA 12 (h := ?_)
   refine tA 13 (h := ?_)
   refine sQ 14 (h := ?_)
   refine sQ 15 (h := ?_)
   refine sQ 16 (h := ?_)
   refine sQ 17 (h := ?_)
   refine sQ 18 (h := ?_)
   refine tA 19 (h := ?_)
   refine tA 20 (h := ?_)
   refine wpAnyH_done (by kernel_rfl) ?_ _
   go_wp2
   go_ret
   exact ⟨rfl, hS1.1⟩
end Go.Proofs.YtkaipknkjocfiaaGreat
namespace Go.Proofs.YtkaipknkjocfiaaGreat
open Go.RowKit
def Row (w : World) (B : Nat) (A : Option Addr) (l : List Sp) : Prop :=
 l ≠ [] → ∃ a, A = some a ∧ a.block < B ∧ ∀ j (h : j < l.length), w.cell? (a.add (j * 2)) = some (.int .u64 (l[j].1 : Int)) ∧ w.cell? (a.add (j * 2 + 1)) = some (.int .u64 (l[j].2 : Int))
section
variable {w w' : World} {B B' : Nat} {A : Option Addr} {l : List Sp}
theorem Row.nil (w : World) (B : Nat) (A : Option Addr) : Row w B A [] := fun h => absurd rfl h
theorem Row.same (h : Row w B A l) (hk : ∀ p : Addr, p.block < B → w'.cell? p = w.cell? p) : Row w' B A l := fun hn => by
 obtain ⟨a, e, hb, hc⟩ := h hn
 exact ⟨a, e, hb, fun j hj => ⟨(hk _ (by rw [addr_add_block]; exact hb)).trans (hc j hj).1, (hk _ (by rw [addr_add_block]; exact hb)).trans (hc j hj).2⟩⟩
theorem Row.wide (h : Row w B A l) (hB : B ≤ B') : Row w B' A l := fun hn => by
 obtain ⟨a, e, hb, hc⟩ := h hn
 exact ⟨a, e, Nat.lt_of_lt_of_le hb hB, hc⟩
theorem Row.below (h : Row w B A l) (hb : Below B w w') : Row w' B A l := h.same fun _ hp => hb.cell hp
theorem Row.drew (h : Row w B A l) : Row w.drew B A l := h
theorem Row.alloc (h : Row w B A l) (hB : B ≤ w.heap.size) (o : Obj) : Row (w.alloc o) B A l := h.same fun p hp => World.cell?_alloc_lt w o p (by omega)
theorem Row.at {k : Nat} (h : Row w B A l) (hk : k < l.length) : ∃ a p, A = some a ∧ a.add (k * 2) = p ∧ p.block < B ∧ w.cell? p = some (.int .u64 (l[k].1 : Int)) ∧ w.cell? ⟨p.block, p.off + 1, none⟩ = some (.int .u64 (l[k].2 : Int)) := by
 obtain ⟨a, e, hb, hc⟩ := h (fun hn => by subst hn; cases hk)
 refine ⟨a, _, e, rfl, by rw [addr_add_block]; exact hb, (hc k hk).1, ?_⟩
 have h2 := (hc k hk).2
 rw [← addr_add_add] at h2
 exact h2
end
end Go.Proofs.YtkaipknkjocfiaaGreat
namespace Go.Proofs.YtkaipknkjocfiaaGreat
open Go.RowKit
set_option maxHeartbeats 400000 in
theorem rpages_any (a b : Nat) (hx : fit (a, b)) (w : World) :
   Calls Tryz.prog 57 #[.agg #[.int .u64 (a : Int), .int .u64 (b : Int)]] w fun e w' => e = .returned (.bool (paged (a, b))) ∧ Below w.heap.size w w' := by
 have Hx := Lib.hid hx
 by_cases h : good (a, b) = true
 · by_cases h1 : a % 4096 = 0
   · have h1' : (a : Int) % 4096 = 0 := by omega
     by_cases h2 : b % 4096 = 0
     · have h2' : (b : Int) % 4096 = 0 := by omega
       rw [show paged (a, b) = true from by simp [paged, h, h1, h2]]
       clear h1 h2
       go_enter Tryz.func57, Tryz.ntmps57
       go_wp2_with (go_at_call 33; refine (rgood_any a b Hx.out _).mono ?_; rintro e w1 ⟨rfl, rfl⟩)
       go_ret
       exact ⟨rfl, Laid.below ⟨[_, _], rfl⟩⟩
     · have h2' : ¬ (b : Int) % 4096 = 0 := by omega
       rw [show paged (a, b) = false from by simp [paged, h, h1, h2]]
       clear h1 h2
       go_enter Tryz.func57, Tryz.ntmps57
       go_wp2_with (go_at_call 33; refine (rgood_any a b Hx.out _).mono ?_; rintro e w1 ⟨rfl, rfl⟩)
       go_ret
       exact ⟨by simp [h2'], Laid.below ⟨[_, _], rfl⟩⟩
   · have h1' : ¬ (a : Int) % 4096 = 0 := by omega
     rw [show paged (a, b) = false from by simp [paged, h, h1]]
     clear h1
     go_enter Tryz.func57, Tryz.ntmps57
     go_wp2_with (go_at_call 33; refine (rgood_any a b Hx.out _).mono ?_; rintro e w1 ⟨rfl, rfl⟩)
     go_ret
     exact ⟨rfl, Laid.below ⟨[_, _], rfl⟩⟩
 · have h' : good (a, b) = false := by simpa using h
   rw [show paged (a, b) = false from by simp [paged, h']]
   go_enter Tryz.func57, Tryz.ntmps57
   go_wp2_with (go_at_call 33; refine (rgood_any a b Hx.out _).mono ?_; rintro e w1 ⟨rfl, rfl⟩)
   go_ret
   exact ⟨rfl, Laid.below ⟨[_, _], rfl⟩⟩
set_option maxHeartbeats 1000000 in
theorem pages_any (A : Option Addr) (c : Nat) (l : List Sp) (hl : l.length ≤ 1000000) (hf : ∀ x ∈ l, fit x) (w : World) (hR : Row w w.heap.size A l) :
  Calls Tryz.prog 68 #[.slice A l.length c] w fun e w' => e = .returned (.bool (l.all paged)) ∧ Below w.heap.size w w' := by
 have Hl := Lib.hid hl
 have Hf := Lib.hid hf
 have HR := Lib.hid hR
 obtain ⟨v, hv⟩ : ∃ v, v = l.all paged := ⟨_, rfl⟩
 rw [← hv]
 have Hv := Lib.hid hv
 clear hl hf hR hv
 go_enter Tryz.func68, Tryz.ntmps68
 go_wp2
 go_loopw [7] (fun i W => ∃ k : Nat, k ≤ l.length ∧ i = .int .i64 k ∧ (∀ j (h : j < l.length), j < k → paged l[j] = true) ∧ Below w.heap.size w W) (fun i _ => l.length - (intOf i).toNat)
 case atStart => exact ⟨0, Nat.zero_le _, rfl, fun _ _ h => absurd h (Nat.not_lt_zero _), Below.refl _ _⟩
 case round =>
  obtain ⟨k, hk, rfl, hall, hbel⟩ := hrel
  by_cases hlt : k < l.length
  · obtain ⟨a, p, rfl, hp, hpb, hc1, hc2⟩ := (HR.out.below hbel).at hlt
    have hfit := Hf.out _ (List.getElem_mem hlt)
    have hno : paged l[k] = false → l.all paged = false := fun h => by
      rw [Bool.eq_false_iff]
      intro h2
      rw [List.all_eq_true] at h2
      rw [h2 _ (List.getElem_mem hlt)] at h
      cases h
    have hyes : paged l[k] = true → ∀ j (h : j < l.length), j < k + 1 → paged l[j] = true := fun h j hj hjk => by
      rcases Nat.lt_succ_iff_lt_or_eq.1 hjk with h1 | rfl
      · exact hall j hj h1
      · exact h
    obtain ⟨x, hx⟩ : ∃ x, l[k] = x := ⟨_, rfl⟩
    rw [hx] at hc1 hc2 hfit hno hyes
    obtain ⟨b, s⟩ := x
    have Hx := Lib.hid hfit
    have HX := Lib.hid hx
    have Hbel := Lib.hid hbel
    have Hk := Lib.hid hk
    have hb3 : k + 1 ≤ 1000000 := by have := Hl.out; omega
    have Hb := Lib.hid (show Below w.heap.size w (wr.alloc (spo b s)) from hbel.alloc hbel.size _)
    have Hno := Lib.hid hno
    have Hyes := Lib.hid hyes
    clear hfit hx hpb hbel hall hno hyes
    by_cases h : good (b, s) = true
    · by_cases h1 : b % 4096 = 0
      · have h1' : (b : Int) % 4096 = 0 := by omega
        by_cases h2 : s % 4096 = 0
        · have h2' : (s : Int) % 4096 = 0 := by omega
          have Hy := Lib.hid (Hyes.out (by simp [paged, h, h1, h2]))
          clear Hno Hyes h1 h2
          go_wp2_with (go_at_call 106; refine (good_any b s Hx.out _).mono ?_; rintro e w3 ⟨rfl, rfl⟩)
          go_roundw
          case rel => exact ⟨k + 1, by omega, by go_num, Hy.out, Hb.out.trans ((Laid.below ⟨[_], rfl⟩).mono Hb.out.size)⟩
          case measure => simp [intOf]; omega
        · have h2' : ¬ (s : Int) % 4096 = 0 := by omega
          have Hv2 := Lib.hid (show v = false from Hv.out.trans (Hno.out (by simp [paged, h, h1, h2])))
          clear Hno Hyes
          go_wp2_with (go_at_call 106; refine (good_any b s Hx.out _).mono ?_; rintro e w3 ⟨rfl, rfl⟩)
          go_ret
          exact ⟨by rw [Hv2.out]; rfl, Hb.out.trans ((Laid.below ⟨[_], rfl⟩).mono Hb.out.size)⟩
      · have h1' : ¬ (b : Int) % 4096 = 0 := by omega
        have Hv2 := Lib.hid (show v = false from Hv.out.trans (Hno.out (by simp [paged, h, h1])))
        clear Hno Hyes
        go_wp2_with (go_at_call 106; refine (good_any b s Hx.out _).mono ?_; rintro e w3 ⟨rfl, rfl⟩)
        go_ret
        exact ⟨by rw [Hv2.out]; rfl, Hb.out.trans ((Laid.below ⟨[_], rfl⟩).mono Hb.out.size)⟩
    · have h' : good (b, s) = false := by simpa using h
      have Hv2 := Lib.hid (show v = false from Hv.out.trans (Hno.out (by simp [paged, h'])))
      clear Hno Hyes
      go_wp2_with (go_at_call 106; refine (good_any b s Hx.out _).mono ?_; rintro e w3 ⟨rfl, rfl⟩)
      go_ret
      exact ⟨by rw [Hv2.out]; rfl, Hb.out.trans ((Laid.below ⟨[_], rfl⟩).mono Hb.out.size)⟩
  · obtain rfl : k = l.length := by omega
    have hv : v = true := Hv.out.trans (List.all_eq_true.2 fun x hx => by
      obtain ⟨j, hj, rfl⟩ := List.getElem_of_mem hx
      exact hall j hj hj)
    have HV := Lib.hid hv
    have Hbel := Lib.hid hbel
    clear hbel hall hv
    go_wp2
    go_ret
    exact ⟨by rw [HV.out]; rfl, Hbel.out⟩
end Go.Proofs.YtkaipknkjocfiaaGreat
namespace Go.Proofs.YtkaipknkjocfiaaGreat
open Go.RowKit
def mpE (x : Mp) : Nat → Value
 | 0 => .int .u64 x.ipa
 | 1 => .int .u64 x.pa
 | 2 => .int .u64 x.size
 | 3 => .int .i64 x.perm
 | _ => .int .i64 x.kind
theorem mpE_one (x : Mp) (n : Nat) : ∀ i, i < n → (mpE x i).oneCell' = true := by
 intro i _
 unfold mpE
 split <;> rfl
def zMp : Mp := ⟨0, 0, 0, 0, 0⟩
def spE (x : Sp) : Nat → Value
 | 0 => .int .u64 (x.1 : Int)
 | _ => .int .u64 (x.2 : Int)
theorem spE_one (x : Sp) (n : Nat) : ∀ i, i < n → (spE x i).oneCell' = true := by
 intro i _
 unfold spE
 split <;> rfl
theorem infoMp : (Tryz.prog.info? 87).map (·.size) = some 5 := by kernel_rfl
theorem infoSp : (Tryz.prog.info? 24).map (·.size) = some 2 := by kernel_rfl
theorem zeroMp (w : World) : (zeroValue 87).run Tryz.prog w = .ok (.agg (vec 5 (mpE zMp))) w :=
 (zero_of_info (P := Tryz.prog) (t := 87) (v := .agg (vec 5 (mpE zMp))) (n := 5) (by kernel_rfl)).1 w
theorem zeroSp (w : World) : (zeroValue 24).run Tryz.prog w = .ok (.agg (vec 2 (spE (0, 0)))) w :=
 (zero_of_info (P := Tryz.prog) (t := 24) (v := .agg (vec 2 (spE (0, 0)))) (n := 2) (by kernel_rfl)).1 w
theorem u64Z_nat {z : Int} (h : u64Z z) : ((z.toNat : Nat) : Int) = z ∧ z.toNat < 18446744073709551616 := by unfold u64Z at h; omega
theorem fit_ipa {x : Mp} (h : MpB x) : fit (ipaS x) := ⟨(u64Z_nat h.ipa).2, (u64Z_nat h.size).2⟩
theorem fit_pa {x : Mp} (h : MpB x) : fit (paS x) := ⟨(u64Z_nat h.pa).2, (u64Z_nat h.size).2⟩
theorem rgoodE (x : Sp) (hx : fit x) (w : World) : Calls Tryz.prog 33 #[.agg (vec 2 (spE x))] w (EqV (good x) w) := rgood_bel x.1 x.2 hx w
theorem rlastE (x : Sp) (hx : fit x) (w : World) : Calls Tryz.prog 58 #[.agg (vec 2 (spE x))] w fun e w' => e = .returned (.int .u64 (last x : Nat)) ∧ Below w.heap.size w w' := rlast_bel x.1 x.2 hx w
theorem roverlapE (x y : Sp) (hx : fit x) (hy : fit y) (w : World) : Calls Tryz.prog 31 #[.agg (vec 2 (spE x)), .agg (vec 2 (spE y))] w (EqV (overlap x y) w) := roverlap_any x.1 x.2 y.1 y.2 hx hy w
theorem rpagesE (x : Sp) (hx : fit x) (w : World) : Calls Tryz.prog 57 #[.agg (vec 2 (spE x))] w (EqV (paged x) w) := rpages_any x.1 x.2 hx w
attribute [local go_sem ↓ high] zeroSp
set_option maxHeartbeats 1000000 in
set_option maxRecDepth 100000 in
theorem rpage_any (b s : Int) (hb : u64Z b) (hs : u64Z s) (w : World) : Calls Tryz.prog 34 #[.int .u64 b, .int .u64 s] w (EqV (pageB b s) w) := by
 have hfit : fit (b.toNat, s.toNat) := ⟨(u64Z_nat hb).2, (u64Z_nat hs).2⟩
 have HPG := Lib.hid (fun W => rpagesE (b.toNat, s.toNat) hfit W)
 have HLA := Lib.hid (fun W => rlastE (b.toNat, s.toNat) hfit W)
 have hpb : pageB b s = (paged (b.toNat, s.toNat) && decide ((last (b.toNat, s.toNat) : Int) < 1099511627776)) := by
   unfold pageB
   cases hp : paged (b.toNat, s.toNat)
   · rw [Bool.false_and, Bool.false_and]
   · have hg : good (b.toNat, s.toNat) = true := by unfold paged at hp; rw [Bool.and_eq_true] at hp; exact hp.1
     have h1 := last_good hg
     have h2 := (good_iff _).1 hg
     simp only [Bool.true_and]
     apply decide_eq_decide.2
     simp only at h1 h2
     omega
 obtain ⟨x, hx⟩ : ∃ x : Sp, x = (b.toNat, s.toNat) := ⟨_, rfl⟩
 have e1 : b = (x.1 : Int) := by rw [hx]; exact (u64Z_nat hb).1.symm
 have e2 : s = (x.2 : Int) := by rw [hx]; exact (u64Z_nat hs).1.symm
 rw [← hx] at HPG HLA hpb
 rw [hpb]
 obtain ⟨p, hp⟩ : ∃ p, p = paged x := ⟨_, rfl⟩
 obtain ⟨n, hn⟩ : ∃ n, n = last x := ⟨_, rfl⟩
 rw [← hp] at HPG ⊢
 rw [← hn] at HLA ⊢
 clear hpb hp hn hfit hb hs hx
 subst e1 e2
 unfold EqV at HPG ⊢
 go_enter Tryz.func34, Tryz.ntmps34
 go_upto_region 2 with (first
   | ((with_reducible show wpList _ _ _ (Oper.mk _ (.build _ _) _ _ _ _ :: _) _ _); refine wl_build rfl 24 _ rfl (vec 2 (spE x)) (by kernel_rfl) ?_)
   | ((with_reducible show wpList _ _ _ (Oper.mk _ (.store _ _ _) _ _ _ _ :: _) _ _); refine wl_store rfl 24 _ _ rfl _ rfl _ rfl (run_store_arr (Arr.new w _ _ _) (spE x) infoSp (spE_one _ _)) ?_))
 obtain ⟨g, hg⟩ : ∃ g, g = w.heap.size := ⟨_, rfl⟩
 obtain ⟨V, hV⟩ : ∃ V, V = (w.alloc (.cells (vec 2 (spE (0, 0))) 24)).setRow w.heap.size (vec 2 (spE x)) := ⟨_, rfl⟩
 have k0 : Arr V g 24 2 (spE x) := by rw [hV, hg]; exact (Arr.new w _ _ _).row _
 have hB : Below w.heap.size w V := by rw [hV]; exact below_row ((Below.refl _ _).alloc (Nat.le_refl _) _) (Nat.le_refl _) _
 rw [← hV, ← hg]
 have HK := Lib.hid (And.intro k0 hB)
 clear hV hg k0 hB
 cases p
 · go_wp2_with (first
     | ((with_reducible show wpList _ _ _ (Oper.mk (some 9) (.load _ _) _ _ _ _ :: _) _ _); refine wl_load rfl 24 _ rfl g rfl _ (run_load_arr HK.out.1 Tryz.underlying24 rfl infoSp) ?_)
     | (go_at_call 57; refine (HPG.out _).mono ?_; rintro e w1 ⟨rfl, hd⟩; have HD := Lib.hid hd; clear hd))
   go_ret
   exact ⟨rfl, HK.out.2.trans (HD.out.mono HK.out.2.size)⟩
 · go_wp2_with (first
     | ((with_reducible show wpList _ _ _ (Oper.mk (some 9) (.load _ _) _ _ _ _ :: _) _ _); refine wl_load rfl 24 _ rfl g rfl _ (run_load_arr HK.out.1 Tryz.underlying24 rfl infoSp) ?_)
     | (go_at_call 57; refine (HPG.out _).mono ?_; rintro e w1 ⟨rfl, hd⟩; have HD := Lib.hid hd; clear hd)
     | ((with_reducible show wpList _ _ _ (Oper.mk (some 12) (.load _ _) _ _ _ _ :: _) _ _); refine wl_execG (by kernel_rfl) (exec_load_at 24 _ rfl g 0 rfl _ (run_load_arr (HK.out.1.under HD.out) Tryz.underlying24 rfl infoSp)) ?_)
     | (go_at_call 58; refine (HLA.out _).mono ?_; rintro e w2 ⟨rfl, hd⟩; have HD := Lib.hid (HD.out.trans (hd.mono HD.out.size)); clear hd))
   go_ret
   exact ⟨by rw [Bool.true_and]; rfl, HK.out.2.trans (HD.out.mono HK.out.2.size)⟩
end Go.Proofs.YtkaipknkjocfiaaGreat
namespace Go.Proofs.YtkaipknkjocfiaaGreat
open Go.RowKit
attribute [local go_sem ↓ high] zeroMp zeroSp
end Go.Proofs.YtkaipknkjocfiaaGreat
