/- Merged: Row, Pages. -/
import Derived.Test.YtgnihceefpijiaaSpans
import Derived.Test.YtgnihceefpijiaaMa
import Derived.Test.YtgnihceefpijiaaOne
/- Rows of spans in memory. -/
namespace Go.Proofs.Ytgnihceefpijiaa
open Go.RowKit

/-- The slice of l.length spans at A holds l; all of it lies below block B. -/
def Row (w : World) (B : Nat) (A : Option Addr) (l : List Sp) : Prop :=
  l ≠ [] → ∃ a, A = some a ∧ a.block < B ∧ ∀ j (h : j < l.length), w.cell? (a.add (j * 2)) = some (.int .u64 (l[j].1 : Int)) ∧ w.cell? (a.add (j * 2 + 1)) = some (.int .u64 (l[j].2 : Int))
section
variable {w w' : World} {B B' : Nat} {A : Option Addr} {l : List Sp}
theorem Row.nil (w : World) (B : Nat) (A : Option Addr) : Row w B A [] := fun h => absurd rfl h
theorem Row.same (h : Row w B A l) (hk : ∀ p : Addr, p.block < B → w'.cell? p = w.cell? p) : Row w' B A l := fun hn => by
  obtain ⟨a, e, hb, hc⟩ := h hn
  exact ⟨a, e, hb, fun j hj => ⟨(hk _ (by rw [addr_add_block]; exact hb)).trans (hc j hj).1, (hk _ (by rw [addr_add_block]; exact hb)).trans (hc j hj).2⟩⟩
theorem Row.wide (h : Row w B A l) (hB : B ≤ B') : Row w B' A l := fun hn => by
  obtain ⟨a, e, hb, hc⟩ := h hn
  exact ⟨a, e, Nat.lt_of_lt_of_le hb hB, hc⟩
theorem Row.below (h : Row w B A l) (hb : Below B w w') : Row w' B A l := h.same fun _ hp => hb.cell hp
theorem Row.drew (h : Row w B A l) : Row w.drew B A l := h
theorem Row.alloc (h : Row w B A l) (hB : B ≤ w.heap.size) (o : Obj) : Row (w.alloc o) B A l := h.same fun p hp => World.cell?_alloc_lt w o p (by omega)
theorem Row.at {k : Nat} (h : Row w B A l) (hk : k < l.length) : ∃ a p, A = some a ∧ a.add (k * 2) = p ∧ p.block < B ∧ w.cell? p = some (.int .u64 (l[k].1 : Int)) ∧ w.cell? ⟨p.block, p.off + 1, none⟩ = some (.int .u64 (l[k].2 : Int)) := by
  obtain ⟨a, e, hb, hc⟩ := h (fun hn => by subst hn; cases hk)
  refine ⟨a, _, e, rfl, by rw [addr_add_block]; exact hb, (hc k hk).1, ?_⟩
  have h2 := (hc k hk).2
  rw [← addr_add_add] at h2
  exact h2
end
end Go.Proofs.Ytgnihceefpijiaa
/- Pages: the program's, the reference's. -/
namespace Go.Proofs.Ytgnihceefpijiaa
open Go.RowKit

set_option maxHeartbeats 400000 in
theorem rpages_any (a b : Nat) (hx : fit (a, b)) (w : World) :
    Calls Try.prog 44 #[.agg #[.int .u64 (a : Int), .int .u64 (b : Int)]] w fun e w' => e = .returned (.bool (paged (a, b))) ∧ Below w.heap.size w w' := by
  have Hx := Lib.hid hx
  by_cases h : good (a, b) = true
  · by_cases h1 : a % 4096 = 0
    · have h1' : (a : Int) % 4096 = 0 := by omega
      by_cases h2 : b % 4096 = 0
      · have h2' : (b : Int) % 4096 = 0 := by omega
        rw [show paged (a, b) = true from by simp [paged, h, h1, h2]]
        clear h1 h2
        go_enter Try.func44, Try.ntmps44
        go_wp2_with (go_at_call 27; refine (rgood_any a b Hx.out _).mono ?_; rintro e w1 ⟨rfl, rfl⟩)
        go_ret
        exact ⟨rfl, Laid.below ⟨[_, _], rfl⟩⟩
      · have h2' : ¬ (b : Int) % 4096 = 0 := by omega
        rw [show paged (a, b) = false from by simp [paged, h, h1, h2]]
        clear h1 h2
        go_enter Try.func44, Try.ntmps44
        go_wp2_with (go_at_call 27; refine (rgood_any a b Hx.out _).mono ?_; rintro e w1 ⟨rfl, rfl⟩)
        go_ret
        exact ⟨by simp [h2'], Laid.below ⟨[_, _], rfl⟩⟩
    · have h1' : ¬ (a : Int) % 4096 = 0 := by omega
      rw [show paged (a, b) = false from by simp [paged, h, h1]]
      clear h1
      go_enter Try.func44, Try.ntmps44
      go_wp2_with (go_at_call 27; refine (rgood_any a b Hx.out _).mono ?_; rintro e w1 ⟨rfl, rfl⟩)
      go_ret
      exact ⟨rfl, Laid.below ⟨[_, _], rfl⟩⟩
  · have h' : good (a, b) = false := by simpa using h
    rw [show paged (a, b) = false from by simp [paged, h']]
    go_enter Try.func44, Try.ntmps44
    go_wp2_with (go_at_call 27; refine (rgood_any a b Hx.out _).mono ?_; rintro e w1 ⟨rfl, rfl⟩)
    go_ret
    exact ⟨rfl, Laid.below ⟨[_, _], rfl⟩⟩

set_option maxHeartbeats 1000000 in
theorem pages_any (A : Option Addr) (c : Nat) (l : List Sp) (hl : l.length ≤ 1000000) (hf : ∀ x ∈ l, fit x) (w : World) (hR : Row w w.heap.size A l) :
    Calls Try.prog 42 #[.slice A l.length c] w fun e w' => e = .returned (.bool (l.all paged)) ∧ Below w.heap.size w w' := by
  have Hl := Lib.hid hl
  have Hf := Lib.hid hf
  have HR := Lib.hid hR
  obtain ⟨v, hv⟩ : ∃ v, v = l.all paged := ⟨_, rfl⟩
  rw [← hv]
  have Hv := Lib.hid hv
  clear hl hf hR hv
  go_enter Try.func42, Try.ntmps42
  go_wp2
  go_loopw [7] (fun i W => ∃ k : Nat, k ≤ l.length ∧ i = .int .i64 k ∧ (∀ j (h : j < l.length), j < k → paged l[j] = true) ∧ Below w.heap.size w W) (fun i _ => l.length - (intOf i).toNat)
  case atStart => exact ⟨0, Nat.zero_le _, rfl, fun _ _ h => absurd h (Nat.not_lt_zero _), Below.refl _ _⟩
  case round =>
    obtain ⟨k, hk, rfl, hall, hbel⟩ := hrel
    by_cases hlt : k < l.length
    · obtain ⟨a, p, rfl, hp, hpb, hc1, hc2⟩ := (HR.out.below hbel).at hlt
      have hfit := Hf.out _ (List.getElem_mem hlt)
      have hno : paged l[k] = false → l.all paged = false := fun h => by
        rw [Bool.eq_false_iff]
        intro h2
        rw [List.all_eq_true] at h2
        rw [h2 _ (List.getElem_mem hlt)] at h
        cases h
      have hyes : paged l[k] = true → ∀ j (h : j < l.length), j < k + 1 → paged l[j] = true := fun h j hj hjk => by
        rcases Nat.lt_succ_iff_lt_or_eq.1 hjk with h1 | rfl
        · exact hall j hj h1
        · exact h
      obtain ⟨x, hx⟩ : ∃ x, l[k] = x := ⟨_, rfl⟩
      rw [hx] at hc1 hc2 hfit hno hyes
      obtain ⟨b, s⟩ := x
      have Hx := Lib.hid hfit
      have HX := Lib.hid hx
      have Hbel := Lib.hid hbel
      have Hk := Lib.hid hk
      have hb3 : k + 1 ≤ 1000000 := by have := Hl.out; omega
      have Hb := Lib.hid (show Below w.heap.size w (wr.alloc (spo b s)) from hbel.alloc hbel.size _)
      have Hno := Lib.hid hno
      have Hyes := Lib.hid hyes
      clear hfit hx hpb hbel hall hno hyes
      by_cases h : good (b, s) = true
      · by_cases h1 : b % 4096 = 0
        · have h1' : (b : Int) % 4096 = 0 := by omega
          by_cases h2 : s % 4096 = 0
          · have h2' : (s : Int) % 4096 = 0 := by omega
            have Hy := Lib.hid (Hyes.out (by simp [paged, h, h1, h2]))
            clear Hno Hyes h1 h2
            go_wp2_with (go_at_call 36; refine (good_any b s Hx.out _).mono ?_; rintro e w3 ⟨rfl, rfl⟩)
            go_roundw
            case rel => exact ⟨k + 1, by omega, by go_num, Hy.out, Hb.out.trans ((Laid.below ⟨[_], rfl⟩).mono Hb.out.size)⟩
            case measure => simp [intOf]; omega
          · have h2' : ¬ (s : Int) % 4096 = 0 := by omega
            have Hv2 := Lib.hid (show v = false from Hv.out.trans (Hno.out (by simp [paged, h, h1, h2])))
            clear Hno Hyes
            go_wp2_with (go_at_call 36; refine (good_any b s Hx.out _).mono ?_; rintro e w3 ⟨rfl, rfl⟩)
            go_ret
            exact ⟨by rw [Hv2.out]; rfl, Hb.out.trans ((Laid.below ⟨[_], rfl⟩).mono Hb.out.size)⟩
        · have h1' : ¬ (b : Int) % 4096 = 0 := by omega
          have Hv2 := Lib.hid (show v = false from Hv.out.trans (Hno.out (by simp [paged, h, h1])))
          clear Hno Hyes
          go_wp2_with (go_at_call 36; refine (good_any b s Hx.out _).mono ?_; rintro e w3 ⟨rfl, rfl⟩)
          go_ret
          exact ⟨by rw [Hv2.out]; rfl, Hb.out.trans ((Laid.below ⟨[_], rfl⟩).mono Hb.out.size)⟩
      · have h' : good (b, s) = false := by simpa using h
        have Hv2 := Lib.hid (show v = false from Hv.out.trans (Hno.out (by simp [paged, h'])))
        clear Hno Hyes
        go_wp2_with (go_at_call 36; refine (good_any b s Hx.out _).mono ?_; rintro e w3 ⟨rfl, rfl⟩)
        go_ret
        exact ⟨by rw [Hv2.out]; rfl, Hb.out.trans ((Laid.below ⟨[_], rfl⟩).mono Hb.out.size)⟩
    · obtain rfl : k = l.length := by omega
      have hv : v = true := Hv.out.trans (List.all_eq_true.2 fun x hx => by
        obtain ⟨j, hj, rfl⟩ := List.getElem_of_mem hx
        exact hall j hj hj)
      have HV := Lib.hid hv
      have Hbel := Lib.hid hbel
      clear hbel hall hv
      go_wp2
      go_ret
      exact ⟨by rw [HV.out]; rfl, Hbel.out⟩
end Go.Proofs.Ytgnihceefpijiaa
