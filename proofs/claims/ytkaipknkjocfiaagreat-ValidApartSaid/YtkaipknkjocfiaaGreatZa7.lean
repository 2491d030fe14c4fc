import Derived.Laws.StructEq
import Derived.Deep.CutBlock
import Derived.Test.YtkaipknkjocfiaaGreatZa6
namespace Go.Proofs.YtkaipknkjocfiaaGreat
open Go.RowKit
set_option maxHeartbeats 1000000 in
theorem roverlap_any (a b c d : Nat) (hx : fit (a, b)) (hy : fit (c, d)) (w : World) :
   Calls Tryz.prog 31 #[.agg #[.int .u64 (a : Int), .int .u64 (b : Int)], .agg #[.int .u64 (c : Int), .int .u64 (d : Int)]] w fun e w' => e = .returned (.bool (overlap (a, b) (c, d))) ∧ Below w.heap.size w w' := by
 have Hx := Lib.hid hx
 have Hy := Lib.hid hy
 by_cases h : good (a, b) = true
 · by_cases k : good (c, d) = true
   · have E := Lib.hid (show overlap (a, b) (c, d) = (decide (a ≤ last (c, d)) && decide (c ≤ last (a, b))) by
       have hl := last_good h
       have kl := last_good k
       have hg := (good_iff _).1 h
       have kg := (good_iff _).1 k
       simp only at hl kl hg kg
       rw [Bool.eq_iff_iff]; simp [overlap, h, k]; omega)
     by_cases h1 : a ≤ last (c, d)
     · by_cases h2 : c ≤ last (a, b)
       · rw [show overlap (a, b) (c, d) = true from by first | (rw [E.out]; simp [h1, h2]) | (rw [E.out]; simp [h1]) | simp [overlap, h, k] | simp [overlap, h]]
         go_enter Tryz.func31, Tryz.ntmps31
         go_wp2
         refine wp_region_held_drew (S := fun W => Below w.heap.size w W ∧ W.cell? ⟨w.heap.size, 0, none⟩ = some (.int .u64 (a : Int)) ∧ W.cell? ⟨w.heap.size, 1, none⟩ = some (.int .u64 (b : Int)) ∧ W.cell? ⟨w.heap.size + 1, 0, none⟩ = some (.int .u64 (c : Int)) ∧ W.cell? ⟨w.heap.size + 1, 1, none⟩ = some (.int .u64 (d : Int))) (by kernel_rfl) (keep4_start w a b c d _ rfl) (fun hS => ?_)
         refine tA 0 (h := ?_)
         refine oQ 1 (h := fun K1 hK1 => ?_)
         go_simp
         refine (rgood_bel a b Hx.out _).mono ?_
         rintro e w1 ⟨rfl, hd⟩
         refine hK1 _ _ (keep4 hd hS) (fun hS1 => ?_)
         clear hS hd hK1 K1
         refine tA 2 (h := ?_)
         refine tA 3 (h := ?_)
         refine oQ 4 (h := fun K4 hK4 => ?_)
         go_simp
         refine (rgood_bel c d Hy.out _).mono ?_
         rintro e w1 ⟨rfl, hd⟩
         refine hK4 _ _ (keep4 hd hS1) (fun hS4 => ?_)
         clear hS1 hd hK4 K4
         refine tA 5 (h := ?_)
         refine tA 6 (h := ?_)
         refine tA 7 (h := ?_)
         refine tA 8 (h := ?_)
         refine tA 9 (h := ?_)
         refine oQ 10 (h := fun K10 hK10 => ?_)
         go_simp
         refine (rlast_bel c d Hy.out _).mono ?_
         rintro e w1 ⟨rfl, hd⟩
         refine hK10 _ _ (keep4 hd hS4) (fun hS10 => ?_)
         clear hS4 hd hK10 K10
         refine tA 11 (h := ?_)
         refine tA 12 (h := ?_)
         refine tA 13 (h := ?_)
         refine tA 14 (h := ?_)
         refine tA 15 (h := ?_)
         refine tA 16 (h := ?_)
         refine oQ 17 (h := fun K17 hK17 => ?_)
         go_simp
         refine (rlast_bel a b Hx.out _).mono ?_
         rintro e w1 ⟨rfl, hd⟩
         refine hK17 _ _ (keep4 hd hS10) (fun hS17 => ?_)
         clear hS10 hd hK17 K17
         refine tA 18 (h := ?_)
         refine tA 19 (h := ?_)
         refine tA 20 (h := ?_)
         refine wpAnyH_done (by kernel_rfl) ?_ _
         go_wp2
         go_ret
         exact ⟨rfl, hS17.1⟩
       · rw [show overlap (a, b) (c, d) = false from by first | (rw [E.out]; simp [h1, h2]) | (rw [E.out]; simp [h1]) | simp [overlap, h, k] | simp [overlap, h]]
         go_enter Tryz.func31, Tryz.ntmps31
         go_wp2
         refine wp_region_held_drew (S := fun W => Below w.heap.size w W ∧ W.cell? ⟨w.heap.size, 0, none⟩ = some (.int .u64 (a : Int)) ∧ W.cell? ⟨w.heap.size, 1, none⟩ = some (.int .u64 (b : Int)) ∧ W.cell? ⟨w.heap.size + 1, 0, none⟩ = some (.int .u64 (c : Int)) ∧ W.cell? ⟨w.heap.size + 1, 1, none⟩ = some (.int .u64 (d : Int))) (by kernel_rfl) (keep4_start w a b c d _ rfl) (fun hS => ?_)
         refine tA 0 (h := ?_)
         refine oQ 1 (h := fun K1 hK1 => ?_)
         go_simp
         refine (rgood_bel a b Hx.out _).mono ?_
         rintro e w1 ⟨rfl, hd⟩
         refine hK1 _ _ (keep4 hd hS) (fun hS1 => ?_)
         clear hS hd hK1 K1
         refine tA 2 (h := ?_)
         refine tA 3 (h := ?_)
         refine oQ 4 (h := fun K4 hK4 => ?_)
         go_simp
         refine (rgood_bel c d Hy.out _).mono ?_
         rintro e w1 ⟨rfl, hd⟩
         refine hK4 _ _ (keep4 hd hS1) (fun hS4 => ?_)
         clear hS1 hd hK4 K4
         refine tA 5 (h := ?_)
         refine tA 6 (h := ?_)
         refine tA 7 (h := ?_)
         refine tA 8 (h := ?_)
         refine tA 9 (h := ?_)
         refine oQ 10 (h := fun K10 hK10 => ?_)
         go_simp
         refine (rlast_bel c d Hy.out _).mono ?_
         rintro e w1 ⟨rfl, hd⟩
         refine hK10 _ _ (keep4 hd hS4) (fun hS10 => ?_)
         clear hS4 hd hK10 K10
         refine tA 11 (h := ?_)
         refine tA 12 (h := ?_)
         refine tA 13 (h := ?_)
         refine tA 14 (h := ?_)
         refine tA 15 (h := ?_)
         refine tA 16 (h := ?_)
         refine oQ 17 (h := fun K17 hK17 => ?_)
         go_simp
         refine (rlast_bel a b Hx.out _).mono ?_
         rintro e w1 ⟨rfl, hd⟩
         refine hK17 _ _ (keep4 hd hS10) (fun hS17 => ?_)
         clear hS10 hd hK17 K17
         refine tA 18 (h := ?_)
         refine tA 19 (h := ?_)
         refine tA 20 (h := ?_)
         refine wpAnyH_done (by kernel_rfl) ?_ _
         go_wp2
         go_ret
         exact ⟨rfl, hS17.1⟩
     · rw [show overlap (a, b) (c, d) = false from by first | (rw [E.out]; simp [h1, h2]) | (rw [E.out]; simp [h1]) | simp [overlap, h, k] | simp [overlap, h]]
       go_enter Tryz.func31, Tryz.ntmps31
       go_wp2
       refine wp_region_held_drew (S := fun W => Below w.heap.size w W ∧ W.cell? ⟨w.heap.size, 0, none⟩ = some (.int .u64 (a : Int)) ∧ W.cell? ⟨w.heap.size, 1, none⟩ = some (.int .u64 (b : Int)) ∧ W.cell? ⟨w.heap.size + 1, 0, none⟩ = some (.int .u64 (c : Int)) ∧ W.cell? ⟨w.heap.size + 1, 1, none⟩ = some (.int .u64 (d : Int))) (by kernel_rfl) (keep4_start w a b c d _ rfl) (fun hS => ?_)
       refine tA 0 (h := ?_)
       refine oQ 1 (h := fun K1 hK1 => ?_)
       go_simp
       refine (rgood_bel a b Hx.out _).mono ?_
       rintro e w1 ⟨rfl, hd⟩
       refine hK1 _ _ (keep4 hd hS) (fun hS1 => ?_)
       clear hS hd hK1 K1
       refine tA 2 (h := ?_)
       refine tA 3 (h := ?_)
       refine oQ 4 (h := fun K4 hK4 => ?_)
       go_simp
       refine (rgood_bel c d Hy.out _).mono ?_
       rintro e w1 ⟨rfl, hd⟩
       refine hK4 _ _ (keep4 hd hS1) (fun hS4 => ?_)
       clear hS1 hd hK4 K4
       refine tA 5 (h := ?_)
       refine tA 6 (h := ?_)
       refine tA 7 (h := ?_)
       refine tA 8 (h := ?_)
       refine tA 9 (h := ?_)
       refine oQ 10 (h := fun K10 hK10 => ?_)
       go_simp
       refine (rlast_bel c d Hy.out _).mono ?_
       rintro e w1 ⟨rfl, hd⟩
       refine hK10 _ _ (keep4 hd hS4) (fun hS10 => ?_)
       clear hS4 hd hK10 K10
       refine tA 11 (h := ?_)
       refine tA 12 (h := ?_)
       refine tA 13 (h := ?_)
       refine sQ 14 (h := ?_)
       refine sQ 15 (h := ?_)
       refine sQ 16 (h := ?_)
       refine sQ 17 (h := ?_)
       refine sQ 18 (h := ?_)
       refine tA 19 (h := ?_)
       refine tA 20 (h := ?_)
       refine wpAnyH_done (by kernel_rfl) ?_ _
       go_wp2
       go_ret
       exact ⟨rfl, hS10.1⟩
   · rw [show overlap (a, b) (c, d) = false from by first | (rw [E.out]; simp [h1, h2]) | (rw [E.out]; simp [h1]) | simp [overlap, h, k] | simp [overlap, h]]
     go_enter Tryz.func31, Tryz.ntmps31
     go_wp2
     refine wp_region_held_drew (S := fun W => Below w.heap.size w W ∧ W.cell? ⟨w.heap.size, 0, none⟩ = some (.int .u64 (a : Int)) ∧ W.cell? ⟨w.heap.size, 1, none⟩ = some (.int .u64 (b : Int)) ∧ W.cell? ⟨w.heap.size + 1, 0, none⟩ = some (.int .u64 (c : Int)) ∧ W.cell? ⟨w.heap.size + 1, 1, none⟩ = some (.int .u64 (d : Int))) (by kernel_rfl) (keep4_start w a b c d _ rfl) (fun hS => ?_)
     refine tA 0 (h := ?_)
     refine oQ 1 (h := fun K1 hK1 => ?_)
     go_simp
     refine (rgood_bel a b Hx.out _).mono ?_
     rintro e w1 ⟨rfl, hd⟩
     refine hK1 _ _ (keep4 hd hS) (fun hS1 => ?_)
     clear hS hd hK1 K1
     refine tA 2 (h := ?_)
     refine tA 3 (h := ?_)
     refine oQ 4 (h := fun K4 hK4 => ?_)
     go_simp
     refine (rgood_bel c d Hy.out _).mono ?_
     rintro e w1 ⟨rfl, hd⟩
     refine hK4 _ _ (keep4 hd hS1) (fun hS4 => ?_)
     clear hS1 hd hK4 K4
     refine tA 5 (h := ?_)
     refine tA 6 (h := ?_)
     refine sQ 7 (h := ?_)
     refine sQ 8 (h := ?_)
     refine sQ 9 (h := ?_)
     refine sQ 10 (h := ?_)
     refine sQ 11 (h := ?_)
     refine tA 12 (h := ?_)
     refine tA 13 (h := ?_)
     refine sQ 14 (h := ?_)
     refine sQ 15 (h := ?_)
     refine sQ 16 (h := ?_)
     refine sQ 17 (h := ?_)
     refine sQ 18 (h := ?_)
     refine tA 19 (h := ?_)
     refine tA 20 (h := ?_)
     refine wpAnyH_done (by kernel_rfl) ?_ _
     go_wp2
     go_ret
     exact ⟨rfl, hS4.1⟩
 · rw [show overlap (a, b) (c, d) = false from by first | (rw [E.out]; simp [h1, h2]) | (rw [E.out]; simp [h1]) | simp [overlap, h, k] | simp [overlap, h]]
   go_enter Tryz.func31, Tryz.ntmps31
   go_wp2
   refine wp_region_held_drew (S := fun W => Below w.heap.size w W ∧ W.cell? ⟨w.heap.size, 0, none⟩ = some (.int .u64 (a : Int)) ∧ W.cell? ⟨w.heap.size, 1, none⟩ = some (.int .u64 (b : Int)) ∧ W.cell? ⟨w.heap.size + 1, 0, none⟩ = some (.int .u64 (c : Int)) ∧ W.cell? ⟨w.heap.size + 1, 1, none⟩ = some (.int .u64 (d : Int))) (by kernel_rfl) (keep4_start w a b c d _ rfl) (fun hS => ?_)
   refine tA 0 (h := ?_)
   refine oQ 1 (h := fun K1 hK1 => ?_)
   go_simp
   refine (rgood_bel a b Hx.out _).mono ?_
   rintro e w1 ⟨rfl, hd⟩
   refine hK1 _ _ (keep4 hd hS) (fun hS1 => ?_)
   clear hS hd hK1 K1
   refine tA 2 (h := ?_)
   refine sQ 3 (h := ?_)
   refine sQ 4 (h := ?_)
   refine tA 5 (h := ?_)
   refine tA 6 (h := ?_)
   refine sQ 7 (h := ?_)
   refine sQ 8 (h := ?_)
   refine sQ 9 (h := ?_)
   refine sQ 10 (h := ?_)
   refine sQ 11 (h := ?_)
   refine tA 12 (h := ?_)
   refine tA 13 (h := ?_)
   refine sQ 14 (h := ?_)
   refine sQ 15 (h := ?_)
   refine sQ 16 (h := ?_)
   refine sQ 17 (h := ?_)
   refine sQ 18 (h := ?_)
   refine tA 19 (h := ?_)
   refine tA 20 (h := ?_)
   refine wpAnyH_done (by kernel_rfl) ?_ _
   go_wp2
   go_ret
   exact ⟨rfl, hS1.1⟩
end Go.Proofs.YtkaipknkjocfiaaGreat
namespace Go.Proofs.YtkaipknkjocfiaaGreat
open Go.RowKit
def Row (w : World) (B : Nat) (A : Option Addr) (l : List Sp) : Prop :=
 l ≠ [] → ∃ a, A = some a ∧ a.block < B ∧ ∀ j (h : j < l.length), w.cell? (a.add (j * 2)) = some (.int .u64 (l[j].1 : Int)) ∧ w.cell? (a.add (j * 2 + 1)) = some (.int .u64 (l[j].2 : Int))
section
variable {w w' : World} {B B' : Nat} {A : Option Addr} {l : List Sp}
theorem Row.nil (w : World) (B : Nat) (A : Option Addr) : Row w B A [] := fun h => absurd rfl h
theorem Row.same (h : Row w B A l) (hk : ∀ p : Addr, p.block < B → w'.cell? p = w.cell? p) : Row w' B A l := fun hn => by
 obtain ⟨a, e, hb, hc⟩ := h hn
 exact ⟨a, e, hb, fun j hj => ⟨(hk _ (by rw [addr_add_block]; exact hb)).trans (hc j hj).1, (hk _ (by rw [addr_add_block]; exact hb)).trans (hc j hj).2⟩⟩
theorem Row.wide (h : Row w B A l) (hB : B ≤ B') : Row w B' A l := fun hn => by
 obtain ⟨a, e, hb, hc⟩ := h hn
 exact ⟨a, e, Nat.lt_of_lt_of_le hb hB, hc⟩
theorem Row.below (h : Row w B A l) (hb : Below B w w') : Row w' B A l := h.same fun _ hp => hb.cell hp
theorem Row.drew (h : Row w B A l) : Row w.drew B A l := h
theorem Row.alloc (h : Row w B A l) (hB : B ≤ w.heap.size) (o : Obj) : Row (w.alloc o) B A l := h.same fun p hp => World.cell?_alloc_lt w o p (by omega)
theorem Row.at {k : Nat} (h : Row w B A l) (hk : k < l.length) : ∃ a p, A = some a ∧ a.add (k * 2) = p ∧ p.block < B ∧ w.cell? p = some (.int .u64 (l[k].1 : Int)) ∧ w.cell? ⟨p.block, p.off + 1, none⟩ = some (.int .u64 (l[k].2 : Int)) := by
 obtain ⟨a, e, hb, hc⟩ := h (fun hn => by subst hn; cases hk)
 refine ⟨a, _, e, rfl, by rw [addr_add_block]; exact hb, (hc k hk).1, ?_⟩
 have h2 := (hc k hk).2
 rw [← addr_add_add] at h2
 exact h2
end
end Go.Proofs.YtkaipknkjocfiaaGreat
namespace Go.Proofs.YtkaipknkjocfiaaGreat
open Go.RowKit
set_option maxHeartbeats 1000000 in
theorem pages_any (A : Option Addr) (c : Nat) (l : List Sp) (hl : l.length ≤ 1000000) (hf : ∀ x ∈ l, fit x) (w : World) (hR : Row w w.heap.size A l) :
  Calls Tryz.prog 68 #[.slice A l.length c] w fun e w' => e = .returned (.bool (l.all paged)) ∧ Below w.heap.size w w' := by
 have Hl := Lib.hid hl
 have Hf := Lib.hid hf
 have HR := Lib.hid hR
 obtain ⟨v, hv⟩ : ∃ v, v = l.all paged := ⟨_, rfl⟩
 rw [← hv]
 have Hv := Lib.hid hv
 clear hl hf hR hv
 go_enter Tryz.func68, Tryz.ntmps68
 go_wp2
 go_loopw [7] (fun i W => ∃ k : Nat, k ≤ l.length ∧ i = .int .i64 k ∧ (∀ j (h : j < l.length), j < k → paged l[j] = true) ∧ Below w.heap.size w W) (fun i _ => l.length - (intOf i).toNat)
 case atStart => exact ⟨0, Nat.zero_le _, rfl, fun _ _ h => absurd h (Nat.not_lt_zero _), Below.refl _ _⟩
 case round =>
  obtain ⟨k, hk, rfl, hall, hbel⟩ := hrel
  by_cases hlt : k < l.length
  · obtain ⟨a, p, rfl, hp, hpb, hc1, hc2⟩ := (HR.out.below hbel).at hlt
    have hfit := Hf.out _ (List.getElem_mem hlt)
    have hno : paged l[k] = false → l.all paged = false := fun h => by
      rw [Bool.eq_false_iff]
      intro h2
      rw [List.all_eq_true] at h2
      rw [h2 _ (List.getElem_mem hlt)] at h
      cases h
    have hyes : paged l[k] = true → ∀ j (h : j < l.length), j < k + 1 → paged l[j] = true := fun h j hj hjk => by
      rcases Nat.lt_succ_iff_lt_or_eq.1 hjk with h1 | rfl
      · exact hall j hj h1
      · exact h
    obtain ⟨x, hx⟩ : ∃ x, l[k] = x := ⟨_, rfl⟩
    rw [hx] at hc1 hc2 hfit hno hyes
    obtain ⟨b, s⟩ := x
    have Hx := Lib.hid hfit
    have HX := Lib.hid hx
    have Hbel := Lib.hid hbel
    have Hk := Lib.hid hk
    have hb3 : k + 1 ≤ 1000000 := by have := Hl.out; omega
    have Hb := Lib.hid (show Below w.heap.size w (wr.alloc (spo b s)) from hbel.alloc hbel.size _)
    have Hno := Lib.hid hno
    have Hyes := Lib.hid hyes
    clear hfit hx hpb hbel hall hno hyes
    by_cases h : good (b, s) = true
    · by_cases h1 : b % 4096 = 0
      · have h1' : (b : Int) % 4096 = 0 := by omega
        by_cases h2 : s % 4096 = 0
        · have h2' : (s : Int) % 4096 = 0 := by omega
          have Hy := Lib.hid (Hyes.out (by simp [paged, h, h1, h2]))
          clear Hno Hyes h1 h2
          go_wp2_with (go_at_call 106; refine (good_any b s Hx.out _).mono ?_; rintro e w3 ⟨rfl, rfl⟩)
          go_roundw
          case rel => exact ⟨k + 1, by omega, by go_num, Hy.out, Hb.out.trans ((Laid.below ⟨[_], rfl⟩).mono Hb.out.size)⟩
          case measure => simp [intOf]; omega
        · have h2' : ¬ (s : Int) % 4096 = 0 := by omega
          have Hv2 := Lib.hid (show v = false from Hv.out.trans (Hno.out (by simp [paged, h, h1, h2])))
          clear Hno Hyes
          go_wp2_with (go_at_call 106; refine (good_any b s Hx.out _).mono ?_; rintro e w3 ⟨rfl, rfl⟩)
          go_ret
          exact ⟨by rw [Hv2.out]; rfl, Hb.out.trans ((Laid.below ⟨[_], rfl⟩).mono Hb.out.size)⟩
      · have h1' : ¬ (b : Int) % 4096 = 0 := by omega
        have Hv2 := Lib.hid (show v = false from Hv.out.trans (Hno.out (by simp [paged, h, h1])))
        clear Hno Hyes
        go_wp2_with (go_at_call 106; refine (good_any b s Hx.out _).mono ?_; rintro e w3 ⟨rfl, rfl⟩)
        go_ret
        exact ⟨by rw [Hv2.out]; rfl, Hb.out.trans ((Laid.below ⟨[_], rfl⟩).mono Hb.out.size)⟩
    · have h' : good (b, s) = false := by simpa using h
      have Hv2 := Lib.hid (show v = false from Hv.out.trans (Hno.out (by simp [paged, h'])))
      clear Hno Hyes
      go_wp2_with (go_at_call 106; refine (good_any b s Hx.out _).mono ?_; rintro e w3 ⟨rfl, rfl⟩)
      go_ret
      exact ⟨by rw [Hv2.out]; rfl, Hb.out.trans ((Laid.below ⟨[_], rfl⟩).mono Hb.out.size)⟩
  · obtain rfl : k = l.length := by omega
    have hv : v = true := Hv.out.trans (List.all_eq_true.2 fun x hx => by
      obtain ⟨j, hj, rfl⟩ := List.getElem_of_mem hx
      exact hall j hj hj)
    have HV := Lib.hid hv
    have Hbel := Lib.hid hbel
    clear hbel hall hv
    go_wp2
    go_ret
    exact ⟨by rw [HV.out]; rfl, Hbel.out⟩
end Go.Proofs.YtkaipknkjocfiaaGreat
namespace Go.Proofs.YtkaipknkjocfiaaGreat
open Go.RowKit
def mpE (x : Mp) : Nat → Value
 | 0 => .int .u64 x.ipa
 | 1 => .int .u64 x.pa
 | 2 => .int .u64 x.size
 | 3 => .int .i64 x.perm
 | _ => .int .i64 x.kind
theorem mpE_one (x : Mp) (n : Nat) : ∀ i, i < n → (mpE x i).oneCell' = true := by
 intro i _
 unfold mpE
 split <;> rfl
def zMp : Mp := ⟨0, 0, 0, 0, 0⟩
def spE (x : Sp) : Nat → Value
 | 0 => .int .u64 (x.1 : Int)
 | _ => .int .u64 (x.2 : Int)
theorem spE_one (x : Sp) (n : Nat) : ∀ i, i < n → (spE x i).oneCell' = true := by
 intro i _
 unfold spE
 split <;> rfl
theorem infoMp : (Tryz.prog.info? 87).map (·.size) = some 5 := by kernel_rfl
theorem infoSp : (Tryz.prog.info? 24).map (·.size) = some 2 := by kernel_rfl
theorem zeroMp (w : World) : (zeroValue 87).run Tryz.prog w = .ok (.agg (vec 5 (mpE zMp))) w :=
 (zero_of_info (P := Tryz.prog) (t := 87) (v := .agg (vec 5 (mpE zMp))) (n := 5) (by kernel_rfl)).1 w
theorem zeroSp (w : World) : (zeroValue 24).run Tryz.prog w = .ok (.agg (vec 2 (spE (0, 0)))) w :=
 (zero_of_info (P := Tryz.prog) (t := 24) (v := .agg (vec 2 (spE (0, 0)))) (n := 2) (by kernel_rfl)).1 w
theorem u64Z_nat {z : Int} (h : u64Z z) : ((z.toNat : Nat) : Int) = z ∧ z.toNat < 18446744073709551616 := by unfold u64Z at h; omega
theorem fit_ipa {x : Mp} (h : MpB x) : fit (ipaS x) := ⟨(u64Z_nat h.ipa).2, (u64Z_nat h.size).2⟩
theorem fit_pa {x : Mp} (h : MpB x) : fit (paS x) := ⟨(u64Z_nat h.pa).2, (u64Z_nat h.size).2⟩
theorem roverlapE (x y : Sp) (hx : fit x) (hy : fit y) (w : World) : Calls Tryz.prog 31 #[.agg (vec 2 (spE x)), .agg (vec 2 (spE y))] w (EqV (overlap x y) w) := roverlap_any x.1 x.2 y.1 y.2 hx hy w
attribute [local go_sem ↓ high] zeroSp
end Go.Proofs.YtkaipknkjocfiaaGreat
namespace Go.Proofs.YtkaipknkjocfiaaGreat
open Go.RowKit
attribute [local go_sem ↓ high] zeroMp zeroSp
end Go.Proofs.YtkaipknkjocfiaaGreat
namespace Go.Proofs.YtkaipknkjocfiaaGreat
open Go.RowKit
attribute [local go_sem ↓ high] zeroGu
def gFew (x : Gs) : Bool := decide (x.wins.length ≤ 20) && (decide (x.devs.length ≤ 20) && (decide (x.irqs.length ≤ 70) && (decide (x.strs.length ≤ 40) && decide (x.name.length ≤ 100))))
def fewC (c : Cf) : Bool := decide (c.gs.length ≤ 20) && (decide (c.chs.length ≤ 40) && c.gs.all gFew)
theorem few_gs {c : Cf} (h : fewC c = true) : c.gs.length ≤ 20 ∧ c.chs.length ≤ 40 ∧ ∀ g ∈ c.gs, gFew g = true := by
 unfold fewC at h
 simp only [Bool.and_eq_true, decide_eq_true_eq, List.all_eq_true] at h
 exact h
theorem gFew_iff {g : Gs} (h : gFew g = true) : g.wins.length ≤ 20 ∧ g.devs.length ≤ 20 ∧ g.irqs.length ≤ 70 ∧ g.strs.length ≤ 40 ∧ g.name.length ≤ 100 := by
 unfold gFew at h
 simp only [Bool.and_eq_true, decide_eq_true_eq] at h
 exact h
theorem all_snoc {α : Type} (f : α → Bool) (l : List α) (k : Nat) (h : k < l.length) (hp : (l.take k).all f = true) (hf : f l[k] = true) : (l.take (k + 1)).all f = true := by
 rw [List.take_add_one, List.getElem?_eq_getElem h, List.all_append, hp]
 simp [hf]
theorem all_not {α : Type} (f : α → Bool) (l : List α) (k : Nat) (h : k < l.length) (hf : f l[k] = false) : l.all f = false := by
 rw [← Bool.not_eq_true]
 intro hh
 have := List.all_eq_true.1 hh _ (List.getElem_mem h)
 rw [hf] at this
 cases this
def FewP (b : Bool) (w : World) (e : Ending) (w' : World) : Prop := e = .returned (.bool b) ∧ Below w.heap.size w w'
set_option maxHeartbeats 8000000 in
set_option maxRecDepth 100000 in
theorem few_any (x : Cf) (a c : Value) (w : World) (hx : CfR w w.heap.size x a c) : Calls Tryz.prog 9 #[cfVal x a c] w (FewP (fewC x) w) := by
 obtain ⟨V, hV⟩ : ∃ V, V = w.alloc (.cells (vec 3 (cfE x.ver a c)) 31) := ⟨_, rfl⟩
 have k1 : Arr V w.heap.size 31 3 (cfE x.ver a c) := by rw [hV]; exact Arr.new w _ _ _
 have hB : Below w.heap.size w V := by rw [hV]; exact (Below.refl _ _).alloc (Nat.le_refl _) _
 obtain ⟨x0, x1, x2⟩ := cf_cells k1
 obtain ⟨⟨A, d, ys, rfl, hm, hr, hl⟩, ⟨A2, d2, rfl, hr2, hl2⟩⟩ := hx.up hB
 have hlen : x.gs.length = ys.length := by rw [← hm, List.length_map]
 obtain ⟨G, hG⟩ : ∃ G, G = fewC x := ⟨_, rfl⟩
 have hall : x.gs.all gFew = ys.all fun y => gFew y.g := by rw [← hm, List.all_map]; rfl
 have HGF : Hid (G = (decide (x.gs.length ≤ 20) && (decide (x.chs.length ≤ 40) && ys.all fun y => gFew y.g))) := Lib.hid (by rw [hG, ← hall]; rfl)
 rw [← hG]
 unfold cfVal FewP
 obtain ⟨N, hN⟩ : ∃ N, N = x.gs.length := ⟨_, rfl⟩
 obtain ⟨M, hM⟩ : ∃ M, M = x.chs.length := ⟨_, rfl⟩
 rw [← hN] at x1 hl hV HGF ⊢
 rw [← hM] at x2 hl2 hV HGF ⊢
 have HNL : Hid (N = ys.length) := Lib.hid (by rw [hN, hlen])
 have HR := Lib.hid hr
 have HK := Lib.hid hB
 have HW := Lib.hid hV
 clear hV k1 hB hr hr2 hx hm hlen hG hall hN hM
 go_enter Tryz.func9, Tryz.ntmps9
 go_upto_region 1 with fail
 rw [← HW.out]
 clear HW
 by_cases c1 : 20 < N
 · have HF : Hid (G = false) := Lib.hid (by rw [HGF.out, decide_eq_false (by omega)]; rfl)
   have c1 : (20 : Int) < (N : Int) := by omega
   go_wp2_with fail
   go_ret
   exact ⟨by rw [HF.out]; rfl, HK.out⟩
 by_cases c2 : 40 < M
 · have HF : Hid (G = false) := Lib.hid (by rw [HGF.out, decide_eq_false (p := M ≤ 40) (by omega)]; simp)
   have c1 : ¬ (20 : Int) < (N : Int) := by omega
   have c2 : (40 : Int) < (M : Int) := by omega
   go_wp2_with fail
   go_ret
   exact ⟨by rw [HF.out]; rfl, HK.out⟩
 have HGA : Hid (G = ys.all fun y => gFew y.g) := Lib.hid (by rw [HGF.out, decide_eq_true (by omega), decide_eq_true (p := M ≤ 40) (by omega)]; rfl)
 clear HGF
 have d1 : ¬ (20 : Int) < (N : Int) := by omega
 have d2 : ¬ (40 : Int) < (M : Int) := by omega
 go_upto_region 3 with fail
 clear c1 c2 d1 d2
 have HX1 := Lib.hid x1
 go_wp2_with fail
 go_loopw [4, 18] (fun _ v W => ∃ k : Nat, k ≤ N ∧ v = .int .i64 k ∧ Hid ((ys.take k).all (fun y => gFew y.g) = true) ∧ Hid (Below V.heap.size V W)) (fun _ i _ => N - (intOf i).toNat)
 case atStart => exact ⟨0, Nat.zero_le _, rfl, Lib.hid rfl, Lib.hid (Below.refl _ _)⟩
 case round =>
   obtain ⟨k, hk, rfl, HP0, HB⟩ := hrel
   obtain ⟨W, hW⟩ : ∃ W : World, W = wr := ⟨_, rfl⟩
   subst hW
   by_cases hlt0 : k < N
   · have hlt : k < ys.length := by have := HNL.out; omega
     have g1 := HR.out.up HB.out
     obtain ⟨a, p, rfl, hp, -, hcp⟩ := g1.row.at hlt
     obtain ⟨y, hy⟩ : ∃ y, y = ys[k] := ⟨_, rfl⟩
     rw [← hy] at hcp
     have ry : GRow W W.heap.size y := by rw [hy]; exact g1.all _ (List.getElem_mem _)
     have HNO : Hid (gFew y.g = false → G = false) := Lib.hid (fun h => by rw [HGA.out]; exact all_not _ _ _ hlt (by rw [← hy]; exact h))
     have HYES : Hid (gFew y.g = true → (ys.take (k + 1)).all (fun y => gFew y.g) = true) := Lib.hid (fun h => all_snoc _ _ _ hlt HP0.out (by rw [← hy]; exact h))
     have h1 := ry.one
     have hki : (k : Int) < (N : Int) := by omega
     obtain ⟨X, hX⟩ : ∃ X, X = (W.alloc (.cells (vec 79 (guestE zGV)) 63)).setRow W.heap.size (vec 79 (guestE y)) := ⟨_, rfl⟩
     have b1 : Below W.heap.size W X := by rw [hX]; exact below_row ((Below.refl _ _).alloc (Nat.le_refl _) _) (Nat.le_refl _) _
     have a1 : Arr X W.heap.size 63 79 (guestE y) := by rw [hX]; exact (Arr.new W _ _ _).row _
     have HBX := Lib.hid (HB.out.trans (b1.mono HB.out.size))
     have HCP := Lib.hid hcp
     have HX := Lib.hid hX
     have HA := Lib.hid a1
     have HRY := Lib.hid ry
     have HG1 := Lib.hid h1
     clear g1 hcp ry hy hlt h1 hX b1 a1
     go_upto_region 6 with (first
       | ((with_reducible show wpList _ _ _ (Oper.mk _ (.load _ _) _ _ _ _ :: _) _ _); refine wl_load_q rfl 63 _ rfl p rfl _ (run_load_q HCP.out Tryz.underlying63 rfl infoGu) ?_)
       | ((with_reducible show wpList _ _ _ (Oper.mk _ (.store _ _ _) _ _ _ _ :: _) _ _); refine wl_store rfl 63 _ _ rfl _ rfl _ rfl (run_store_arr (Arr.new W _ _ _) (guestE y) infoGu (guestE_one _ HG1.out _)) ?_))
     rw [← HX.out]
     clear HX HCP
     obtain ⟨⟨A1, e1, f1, _, _⟩, ⟨A2, e2, f2, _, _⟩, ⟨A3, e3, f3, _, _⟩, ⟨A4, e4, f4, _, _⟩⟩ := HRY.out
     have y0 : X.cell? ⟨W.heap.size, 0, none⟩ = some (.string (strOf y.g.name)) := HA.out.cell (i := 0) (by decide)
     have y1 : X.cell? ⟨W.heap.size, 75, none⟩ = some (.slice A1 y.g.wins.length e1) := f1 ▸ HA.out.cell (i := 75) (by decide)
     have y2 : X.cell? ⟨W.heap.size, 76, none⟩ = some (.slice A2 y.g.devs.length e2) := f2 ▸ HA.out.cell (i := 76) (by decide)
     have y3 : X.cell? ⟨W.heap.size, 77, none⟩ = some (.slice A3 y.g.irqs.length e3) := f3 ▸ HA.out.cell (i := 77) (by decide)
     have y4 : X.cell? ⟨W.heap.size, 78, none⟩ = some (.slice A4 y.g.strs.length e4) := f4 ▸ HA.out.cell (i := 78) (by decide)
     have hsz : (strOf y.g.name).size = y.g.name.length := strOf_size _
     obtain ⟨S, hS⟩ : ∃ S, S = strOf y.g.name := ⟨_, rfl⟩
     rw [← hS] at y0 hsz
     obtain ⟨n0, q0⟩ : ∃ n, n = y.g.name.length := ⟨_, rfl⟩
     obtain ⟨n1, q1⟩ : ∃ n, n = y.g.wins.length := ⟨_, rfl⟩
     obtain ⟨n2, q2⟩ : ∃ n, n = y.g.devs.length := ⟨_, rfl⟩
     obtain ⟨n3, q3⟩ : ∃ n, n = y.g.irqs.length := ⟨_, rfl⟩
     obtain ⟨n4, q4⟩ : ∃ n, n = y.g.strs.length := ⟨_, rfl⟩
     have HE : Hid (gFew y.g = (decide (n1 ≤ 20) && (decide (n2 ≤ 20) && (decide (n3 ≤ 70) && (decide (n4 ≤ 40) && decide (n0 ≤ 100)))))) := Lib.hid (by rw [q0, q1, q2, q3, q4]; rfl)
     rw [← q0] at hsz
     rw [← q1] at y1
     rw [← q2] at y2
     rw [← q3] at y3
     rw [← q4] at y4
     clear q0 q1 q2 q3 q4 hS f1 f2 f3 f4
     by_cases t1 : 20 < n1
     · have HF : Hid (G = false) := Lib.hid (HNO.out (by rw [HE.out, decide_eq_false (by omega)]; rfl))
       have t1 : (20 : Int) < (n1 : Int) := by omega
       go_wp2_with fail
       go_ret
       exact ⟨by rw [HF.out]; rfl, HK.out.trans (HBX.out.mono HK.out.size)⟩
     by_cases t2 : 20 < n2
     · have HF : Hid (G = false) := Lib.hid (HNO.out (by rw [HE.out, decide_eq_false (p := n2 ≤ 20) (by omega)]; simp))
       have t1 : ¬ (20 : Int) < (n1 : Int) := by omega
       have t2 : (20 : Int) < (n2 : Int) := by omega
       go_wp2_with fail
       go_ret
       exact ⟨by rw [HF.out]; rfl, HK.out.trans (HBX.out.mono HK.out.size)⟩
     by_cases t3 : 70 < n3
     · have HF : Hid (G = false) := Lib.hid (HNO.out (by rw [HE.out, decide_eq_false (p := n3 ≤ 70) (by omega)]; simp))
       have t1 : ¬ (20 : Int) < (n1 : Int) := by omega
       have t2 : ¬ (20 : Int) < (n2 : Int) := by omega
       have t3 : (70 : Int) < (n3 : Int) := by omega
       go_wp2_with fail
       go_ret
       exact ⟨by rw [HF.out]; rfl, HK.out.trans (HBX.out.mono HK.out.size)⟩
     by_cases t4 : 40 < n4
     · have HF : Hid (G = false) := Lib.hid (HNO.out (by rw [HE.out, decide_eq_false (p := n4 ≤ 40) (by omega)]; simp))
       have t1 : ¬ (20 : Int) < (n1 : Int) := by omega
       have t2 : ¬ (20 : Int) < (n2 : Int) := by omega
       have t3 : ¬ (70 : Int) < (n3 : Int) := by omega
       have t4 : (40 : Int) < (n4 : Int) := by omega
       go_wp2_with fail
       go_ret
       exact ⟨by rw [HF.out]; rfl, HK.out.trans (HBX.out.mono HK.out.size)⟩
     by_cases t5 : 100 < n0
     · have HF : Hid (G = false) := Lib.hid (HNO.out (by rw [HE.out, decide_eq_false (p := n0 ≤ 100) (by omega)]; simp))
       have t1 : ¬ (20 : Int) < (n1 : Int) := by omega
       have t2 : ¬ (20 : Int) < (n2 : Int) := by omega
       have t3 : ¬ (70 : Int) < (n3 : Int) := by omega
       have t4 : ¬ (40 : Int) < (n4 : Int) := by omega
       have t5 : (100 : Int) < (n0 : Int) := by omega
       go_wp2_with fail
       go_ret
       exact ⟨by rw [HF.out]; rfl, HK.out.trans (HBX.out.mono HK.out.size)⟩
     have HS := Lib.hid (HYES.out (by rw [HE.out, decide_eq_true (by omega), decide_eq_true (p := n2 ≤ 20) (by omega), decide_eq_true (p := n3 ≤ 70) (by omega), decide_eq_true (p := n4 ≤ 40) (by omega), decide_eq_true (p := n0 ≤ 100) (by omega)]; rfl))
     have d1 : ¬ (20 : Int) < (n1 : Int) := by omega
     have d2 : ¬ (20 : Int) < (n2 : Int) := by omega
     have d3 : ¬ (70 : Int) < (n3 : Int) := by omega
     have d4 : ¬ (40 : Int) < (n4 : Int) := by omega
     have d5 : ¬ (100 : Int) < (n0 : Int) := by omega
     go_wp2_with fail
     go_roundw
     case rel => exact ⟨k + 1, by omega, by go_num, HS, HBX⟩
     case measure => simp [intOf]; omega
   · obtain rfl : k = N := by omega
     have HF : Hid (G = true) := Lib.hid (by rw [HGA.out]; have h := HP0.out; rw [HNL.out, List.take_length] at h; exact h)
     clear hlt0
     go_wp2_with fail
     go_ret
     exact ⟨by rw [HF.out]; rfl, HK.out.trans (HB.out.mono HK.out.size)⟩
end Go.Proofs.YtkaipknkjocfiaaGreat
