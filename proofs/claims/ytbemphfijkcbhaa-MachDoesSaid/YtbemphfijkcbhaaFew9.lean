/- portreevelaw09.few: deeds and chunks that are few. -/
import Derived.Test.YtbemphfijkcbhaaNew9
namespace Go.Proofs.Ytbemphfijkcbhaa
open Go.RowKit

/-- A deed. -/
structure Dd where
  kind : Int
  at_ : Nat
  n : Nat
  A : Option Addr
  c : Nat
  l : List UInt8
def DdAt (w : World) (B : Nat) (x : Dd) : Prop := (-9223372036854775808 ≤ x.kind ∧ x.kind ≤ 9223372036854775807) ∧ x.at_ < 18446744073709551616 ∧ x.n < 18446744073709551616 ∧ Lies w B 1 x.A x.l.length (u8s x.l) ∧ x.l.length ≤ x.c ∧ x.c ≤ maxLen
/-- The slice at A holds these deeds. -/
def DRow (w : World) (B : Nat) (A : Option Addr) (l : List Dd) : Prop :=
  (l ≠ [] → ∃ a, A = some a ∧ a.block < B ∧ ∀ j (h : j < l.length), w.cell? (a.add (j * 4)) = some (.int .i64 l[j].kind) ∧ w.cell? (a.add (j * 4 + 1)) = some (.int .u64 (l[j].at_ : Int)) ∧
    w.cell? (a.add (j * 4 + 2)) = some (.int .u64 (l[j].n : Int)) ∧ w.cell? (a.add (j * 4 + 3)) = some (.slice l[j].A l[j].l.length l[j].c)) ∧ ∀ x ∈ l, DdAt w B x
theorem DdAt.below {w w' : World} {B : Nat} {x : Dd} (h : DdAt w B x) (hb : Below B w w') : DdAt w' B x := ⟨h.1, h.2.1, h.2.2.1, h.2.2.2.1.below hb, h.2.2.2.2⟩
theorem DRow.below {w w' : World} {B : Nat} {A : Option Addr} {l : List Dd} (h : DRow w B A l) (hb : Below B w w') : DRow w' B A l :=
  ⟨fun hn => by
    obtain ⟨a, e, h1, h2⟩ := h.1 hn
    have hc : ∀ i, w'.cell? (a.add i) = w.cell? (a.add i) := fun i => hb.cell (by rw [addr_add_block]; exact h1)
    refine ⟨a, e, h1, fun j hj => ?_⟩
    rw [hc, hc, hc, hc]
    exact h2 j hj, fun x hx => (h.2 x hx).below hb⟩
theorem DRow.at {w : World} {B k : Nat} {A : Option Addr} {l : List Dd} (h : DRow w B A l) (hk : k < l.length) : ∃ a p, A = some a ∧ a.add (k * 4) = p ∧ p.block < B ∧ w.cell? p = some (.int .i64 l[k].kind) ∧ w.cell? ⟨p.block, p.off + 1, none⟩ = some (.int .u64 (l[k].at_ : Int)) ∧
    w.cell? ⟨p.block, p.off + 2, none⟩ = some (.int .u64 (l[k].n : Int)) ∧ w.cell? ⟨p.block, p.off + 3, none⟩ = some (.slice l[k].A l[k].l.length l[k].c) := by
  obtain ⟨a, e, hb, hc⟩ := h.1 (fun hn => by subst hn; cases hk)
  obtain ⟨h0, h1, h2, h3⟩ := hc k hk
  rw [← addr_add_add] at h1 h2 h3
  exact ⟨a, _, e, rfl, by rw [addr_add_block]; exact hb, h0, h1, h2, h3⟩
theorem DRow.nil (w : World) (B : Nat) (A : Option Addr) : DRow w B A [] := ⟨fun h => absurd rfl h, fun x hx => by cases hx⟩
def dOk (d : Dd) : Bool := decide (d.l.length ≤ 5000) && !(decide (d.kind = 0) && (decide (20000 < d.n) && decide (d.n ≤ 1048576)))
def cOk (x : Ck) : Bool := decide (x.l.length ≤ 5000)
def fewB (ds : List Dd) (cs : List Ck) : Bool := decide (ds.length ≤ 40) && (decide (cs.length ≤ 10) && (ds.all dOk && cs.all cOk))
theorem all_snoc {α : Type} (f : α → Bool) (l : List α) (k : Nat) (h : k < l.length) (hp : (l.take k).all f = true) (hf : f l[k] = true) : (l.take (k + 1)).all f = true := by
  rw [List.take_add_one, List.getElem?_eq_getElem h, List.all_append, hp]
  simp [hf]
theorem all_not {α : Type} (f : α → Bool) (l : List α) (k : Nat) (h : k < l.length) (hf : f l[k] = false) : l.all f = false := by
  rw [← Bool.not_eq_true]
  intro hh
  have := List.all_eq_true.1 hh _ (List.getElem_mem h)
  rw [hf] at this
  cases this
theorem few_many1 {ds : List Dd} {cs : List Ck} (h : 40 < ds.length) : fewB ds cs = false := by
  unfold fewB; rw [decide_eq_false (by omega)]; rfl
theorem few_many2 {ds : List Dd} {cs : List Ck} (h : 10 < cs.length) : fewB ds cs = false := by
  unfold fewB; rw [decide_eq_false (p := cs.length ≤ 10) (by omega)]; simp
theorem few_no1 {ds : List Dd} {cs : List Ck} (h : ds.all dOk = false) : fewB ds cs = false := by
  unfold fewB; rw [h]; simp
theorem few_no2 {ds : List Dd} {cs : List Ck} (h : cs.all cOk = false) : fewB ds cs = false := by
  unfold fewB; rw [h]; simp
theorem few_yes {ds : List Dd} {cs : List Ck} (h1 : ¬ 40 < ds.length) (h2 : ¬ 10 < cs.length) (h3 : ds.all dOk = true) (h4 : cs.all cOk = true) : fewB ds cs = true := by
  unfold fewB; rw [h3, h4, decide_eq_true (by omega), decide_eq_true (by omega)]; rfl
theorem few_iff {ds : List Dd} {cs : List Ck} (h : fewB ds cs = true) : ds.length ≤ 40 ∧ cs.length ≤ 10 ∧ (∀ x ∈ ds, dOk x = true) ∧ ∀ x ∈ cs, x.l.length ≤ 5000 := by
  unfold fewB at h
  simp only [Bool.and_eq_true, decide_eq_true_eq, List.all_eq_true] at h
  exact ⟨h.1, h.2.1, h.2.2.1, fun x hx => by simpa [cOk] using h.2.2.2 x hx⟩
set_option maxRecDepth 100000 in
set_option maxHeartbeats 2000000 in
theorem few_any (A : Option Addr) (c : Nat) (ds : List Dd) (A2 : Option Addr) (c2 : Nat) (cs : List Ck) (w : World) (hD : DRow w w.heap.size A ds) (hC : CRow w w.heap.size A2 cs) :
    Calls Try.prog 13 #[.slice A ds.length c, .slice A2 cs.length c2] w fun e w' => e = .returned (.bool (fewB ds cs)) ∧ Below w.heap.size w w' := by
  obtain ⟨Q, hQ⟩ : ∃ Q, Q = fun (e : Ending) (w' : World) => e = .returned (.bool (fewB ds cs)) ∧ Below w.heap.size w w' := ⟨_, rfl⟩
  rw [← hQ]
  have HQ := Lib.hid hQ
  have HD := Lib.hid hD
  have HC := Lib.hid hC
  clear hQ hD hC
  by_cases h1 : 40 < ds.length
  · have e1 : (40 : Int) < ds.length := by omega
    have HF := Lib.hid (few_many1 (cs := cs) h1)
    clear h1
    go_enter Try.func13, Try.ntmps13
    go_wp2
    rw [HQ.out]
    exact ⟨by rw [HF.out] <;> rfl, Below.refl _ _⟩
  by_cases h2 : 10 < cs.length
  · have e1 : ¬ (40 : Int) < ds.length := by omega
    have e2 : (10 : Int) < cs.length := by omega
    have HF := Lib.hid (few_many2 (ds := ds) h2)
    clear h1 h2
    go_enter Try.func13, Try.ntmps13
    go_wp2
    rw [HQ.out]
    exact ⟨by rw [HF.out] <;> rfl, Below.refl _ _⟩
  have e1 : ¬ (40 : Int) < ds.length := by omega
  have e2 : ¬ (10 : Int) < cs.length := by omega
  have HN := Lib.hid (And.intro h1 h2)
  have hb1 : ds.length ≤ 40 := by omega
  have hb2 : cs.length ≤ 10 := by omega
  clear h1 h2
  go_enter Try.func13, Try.ntmps13
  go_wp2
  go_loopw [19] (fun i wr => ∃ k : Nat, k ≤ ds.length ∧ i = .int .i64 k ∧ Hid ((ds.take k).all dOk = true ∧ Below w.heap.size w wr)) (fun i _ => ds.length - (intOf i).toNat)
  case atStart => exact ⟨0, Nat.zero_le _, rfl, Lib.hid ⟨rfl, Below.refl _ _⟩⟩
  case round =>
    obtain ⟨k, hk, rfl, hN⟩ := hrel
    by_cases hlt : k < ds.length
    · obtain ⟨a, q, rfl, hq, hqb, hc0, hc1, hc2, hc3⟩ := (HD.out.below hN.out.2).at hlt
      have hat := HD.out.2 _ (List.getElem_mem hlt)
      obtain ⟨x, hx⟩ : ∃ x, ds[k] = x := ⟨_, rfl⟩
      have HS := Lib.hid (fun hp => all_snoc dOk ds k hlt hN.out.1 hp)
      have HNO := Lib.hid (fun hp => all_not dOk ds k hlt hp)
      rw [hx] at hc0 hc1 hc2 hc3 hat HS HNO
      obtain ⟨xk, xa, xn, xA, xc, xl⟩ := x
      obtain ⟨hx1, hx2, hx3, _, hx4, hx5⟩ := hat
      simp only at hc0 hc1 hc2 hc3 hx1 hx2 hx3 hx4 hx5
      have HLT := Lib.hid hlt
      have HB := Lib.hid hN.out.2
      clear hx hk hN hqb
      by_cases g1 : 5000 < xl.length
      · have f1 : (5000 : Int) < xl.length := by omega
        have HZ := Lib.hid (few_no1 (cs := cs) (HNO.out (by unfold dOk; simp; omega)))
        clear g1 HS HNO
        go_wp2
        rw [HQ.out]
        exact ⟨by rw [HZ.out] <;> rfl, HB.out.alloc HB.out.size _⟩
      have f1 : ¬ (5000 : Int) < xl.length := by omega
      by_cases g2 : xk = 0
      · subst g2
        by_cases g3 : 20000 < xn
        · have f3 : (20000 : Int) < xn := by omega
          by_cases g4 : xn ≤ 1048576
          · have f4 : (xn : Int) ≤ 1048576 := by omega
            have HZ := Lib.hid (few_no1 (cs := cs) (HNO.out (by unfold dOk; simp; omega)))
            clear g1 g3 g4 HS HNO
            go_wp2
            rw [HQ.out]
            exact ⟨by rw [HZ.out] <;> rfl, HB.out.alloc HB.out.size _⟩
          · have f4 : ¬ (xn : Int) ≤ 1048576 := by omega
            have HZ := Lib.hid (HS.out (by unfold dOk; simp; omega))
            clear g1 g3 g4 HS HNO
            go_wp2
            go_roundw
            case rel => exact ⟨k + 1, HLT.out, by go_num, Lib.hid ⟨HZ.out, HB.out.alloc HB.out.size _⟩⟩
            case measure => have := HLT.out; simp [intOf]; omega
        · have f3 : ¬ (20000 : Int) < xn := by omega
          have HZ := Lib.hid (HS.out (by unfold dOk; simp; omega))
          clear g1 g3 HS HNO
          go_wp2
          go_roundw
          case rel => exact ⟨k + 1, HLT.out, by go_num, Lib.hid ⟨HZ.out, HB.out.alloc HB.out.size _⟩⟩
          case measure => have := HLT.out; simp [intOf]; omega
      · have HZ := Lib.hid (HS.out (by unfold dOk; simp [g2]; omega))
        clear g1 HS HNO
        go_wp2
        go_roundw
        case rel => exact ⟨k + 1, HLT.out, by go_num, Lib.hid ⟨HZ.out, HB.out.alloc HB.out.size _⟩⟩
        case measure => have := HLT.out; simp [intOf]; omega
    · obtain rfl : k = ds.length := by omega
      have HF := Lib.hid hN.out
      clear hN hlt hk
      go_wp2
      go_loopw [45] (fun i wr => ∃ k : Nat, k ≤ cs.length ∧ i = .int .i64 k ∧ Hid ((cs.take k).all cOk = true ∧ Below w.heap.size w wr)) (fun i _ => cs.length - (intOf i).toNat)
      case atStart => exact ⟨0, Nat.zero_le _, rfl, Lib.hid ⟨rfl, HF.out.2⟩⟩
      case round =>
        obtain ⟨k, hk, rfl, hN⟩ := hrel
        by_cases hlt : k < cs.length
        · obtain ⟨a, q, rfl, hq, hqb, hc0, hc1⟩ := (HC.out.below hN.out.2).at hlt
          have hat := HC.out.2 _ (List.getElem_mem hlt)
          obtain ⟨x, hx⟩ : ∃ x, cs[k] = x := ⟨_, rfl⟩
          have HS := Lib.hid (fun hp => all_snoc cOk cs k hlt hN.out.1 hp)
          have HNO := Lib.hid (fun hp => all_not cOk cs k hlt hp)
          rw [hx] at hc0 hc1 hat HS HNO
          obtain ⟨xa, xA, xc, xl⟩ := x
          obtain ⟨hx2, _, hx4, hx5⟩ := hat
          simp only at hc0 hc1 hx2 hx4 hx5
          have HLT := Lib.hid hlt
          have HB := Lib.hid hN.out.2
          clear hx hk hN hqb
          by_cases g1 : 5000 < xl.length
          · have f1 : (5000 : Int) < xl.length := by omega
            have HZ := Lib.hid (few_no2 (ds := ds) (HNO.out (by unfold cOk; simp; omega)))
            clear g1 HS HNO
            go_wp2
            rw [HQ.out]
            exact ⟨by rw [HZ.out] <;> rfl, HB.out.alloc HB.out.size _⟩
          · have f1 : ¬ (5000 : Int) < xl.length := by omega
            have HZ := Lib.hid (HS.out (by unfold cOk; simp; omega))
            clear g1 HS HNO
            go_wp2
            go_roundw
            case rel => exact ⟨k + 1, HLT.out, by go_num, Lib.hid ⟨HZ.out, HB.out.alloc HB.out.size _⟩⟩
            case measure => have := HLT.out; simp [intOf]; omega
        · obtain rfl : k = cs.length := by omega
          have HF2 := Lib.hid hN.out
          clear hN hlt hk
          go_wp2
          rw [HQ.out]
          have q1 := HF.out.1
          have q2 := HF2.out.1
          rw [List.take_length] at q1 q2
          exact ⟨by rw [few_yes HN.out.1 HN.out.2 q1 q2] <;> rfl, HF2.out.2⟩
/-- NewMem, where it fails. -/
theorem new_no (r1 r2 : Nat) (hr : fit (r1, r2)) (A : Option Addr) (c : Nat) (l : List Ck) (hl : l.length ≤ 1000000) (W : World) (hC : CRow W W.heap.size A l) (hq : addrB (r1, r2) = false ∨ (ckRun (r1, r2) l zM).1 ≠ 0) :
    Calls Try.prog 14 #[.agg #[.int .u64 (r1 : Int), .int .u64 (r2 : Int)], .slice A l.length c] W fun e w' => e = .returned (.tuple #[.pointer none, .int .i64 ((if addrB (r1, r2) = true then (ckRun (r1, r2) l zM).1 else 1 : Nat) : Int)]) ∧ Below W.heap.size W w' := by
  refine (newmem_any r1 r2 hr A c l hl W hC).mono ?_
  rintro e w' ⟨hb, ⟨h1, h2⟩ | ⟨h1, h2, h3⟩ | ⟨h1, h2, _⟩⟩
  · rw [h1]; exact ⟨h2, hb⟩
  · rw [h1]; exact ⟨h3, hb⟩
  · rcases hq with h | h
    · rw [h] at h1; cases h1
    · exact absurd h2 h
/-- NewMem, where it doesn't. -/
theorem new_yes (r1 r2 : Nat) (hr : fit (r1, r2)) (A : Option Addr) (c : Nat) (l : List Ck) (hl : l.length ≤ 1000000) (W : World) (hC : CRow W W.heap.size A l) (h1 : addrB (r1, r2) = true) (h2 : (ckRun (r1, r2) l zM).1 = 0) :
    Calls Try.prog 14 #[.agg #[.int .u64 (r1 : Int), .int .u64 (r2 : Int)], .slice A l.length c] W fun e w' => ∃ p b G D, e = .returned (.tuple #[.pointer (some ⟨p, 0, none⟩), .int .i64 0]) ∧ MC w' G p b (r1, r2) (300 * l.length) D (ckRun (r1, r2) l zM).2 ∧ (∀ i, G i → W.heap.size ≤ i) ∧ W.heap.size ≤ p ∧ Below W.heap.size W w' := by
  refine (newmem_any r1 r2 hr A c l hl W hC).mono ?_
  rintro e w' ⟨hb, ⟨h, _⟩ | ⟨_, h, _⟩ | ⟨_, _, p, b, G, D, rfl, h3, h4, h5⟩⟩
  · rw [h1] at h; cases h
  · exact absurd h2 h
  · exact ⟨p, b, G, D, rfl, h3, h4, h5, hb⟩
end Go.Proofs.Ytbemphfijkcbhaa
