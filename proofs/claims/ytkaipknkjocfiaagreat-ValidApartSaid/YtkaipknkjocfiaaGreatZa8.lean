import Derived.Test.YtkaipknkjocfiaaGreatZa7
namespace Go.Proofs.YtkaipknkjocfiaaGreat
open Go.RowKit
theorem cf_guest {x : Cf} {a c : Value} {V : World} (hx : CfR V V.heap.size x a c) : ∃ (A : Option Addr) (d : Nat) (A2 : Option Addr) (d2 : Nat), a = .slice A x.gs.length d ∧ c = .slice A2 x.chs.length d2 ∧ (∀ Y, Below V.heap.size V Y → RowE 8 chE Y Y.heap.size A2 x.chs) ∧
  ∀ i (hi : i < x.gs.length), ∃ (a0 q : Addr) (A1 : Option Addr) (e1 : Nat) (A3 : Option Addr) (e3 : Nat), A = some a0 ∧ a0.add (i * 79) = q ∧ ∀ Y, Below V.heap.size V Y → (Y.cell? ⟨q.block, q.off + 75, none⟩ = some (.slice A1 (x.gs[i]).wins.length e1) ∧ Y.cell? ⟨q.block, q.off + 76, none⟩ = some (.slice A3 (x.gs[i]).devs.length e3)) ∧ RowE 4 winE Y Y.heap.size A1 (x.gs[i]).wins ∧ RowE 3 devE Y Y.heap.size A3 (x.gs[i]).devs := by
 obtain ⟨⟨A, d, ys, rfl, hm, hr, -⟩, ⟨A2, d2, rfl, hr2, -⟩⟩ := hx
 refine ⟨A, d, A2, d2, rfl, rfl, fun Y hY => hr2.up hY, fun i hi => ?_⟩
 have hlen : ys.length = x.gs.length := by rw [← hm, List.length_map]
 have hiy : i < ys.length := by omega
 have hg : ys[i].g = x.gs[i] := by simp [← hm]
 obtain ⟨a0, q, rfl, hq, -, -⟩ := hr.row.at hiy
 obtain ⟨⟨A1, e1, f1, r1, -⟩, ⟨A3, e3, f3, r3, -⟩, -, -⟩ := hr.all _ (List.getElem_mem hiy)
 rw [hg] at f1 f3 r1 r3
 refine ⟨a0, q, A1, e1, A3, e3, rfl, hq, fun Y hY => ?_⟩
 obtain ⟨a', q', ea, hq', -, hcp⟩ := (hr.up hY).row.at hiy
 injection ea with ea
 subst ea
 rw [hq] at hq'
 subst hq'
 have z1 := hcp 75 (by decide)
 have z2 := hcp 76 (by decide)
 have w1 : guestE ys[i] 75 = ys[i].wv := rfl
 have w2 : guestE ys[i] 76 = ys[i].dv := rfl
 rw [w1, f1] at z1
 rw [w2, f3] at z2
 exact ⟨⟨z1, z2⟩, r1.up hY, r3.up hY⟩
theorem info_span : (Tryz.prog.info? 24).map (fun i => (i.zero, i.size, i.bytes)) = some (some (.agg (vec 2 (spE (0, 0)))), 2, 16) := by kernel_rfl
set_option maxRecDepth 100000 in
theorem build_span (x : Sp) (w : World) : (Instr.buildSlice 40 1 #[(0, .agg (vec 2 (spE x)))]).run Tryz.prog w = .ok (.slice (some ⟨w.heap.size, 0, none⟩) 1 1) (w.alloc (.cells (vec 2 (spE x)) 24)) := by
 obtain ⟨i0, hi, hz0, hz1, hz2⟩ := info_parts info_span
 refine run_buildSlice (P := Tryz.prog) w 40 24 1 _ _ i0 (.agg (vec 2 (spE (0, 0)))) Tryz.underlying40 hi hz0 (by rw [hz1]; decide) (by rw [hz1]; decide) ?_
 rw [hz1]
 kernel_rfl
abbrev OwnS (w : World) (base : Nat) (v : Value) (l : List Sp) : Prop := OwnE 24 2 spE w base v l
theorem app_span {w : World} {base : Nat} {v : Value} {l : List Sp} (x : Sp) (hown : OwnS w base v l) (hb : base ≤ w.heap.size) (hl : l.length ≤ 1000000) :
  ∃ B d w', (appS #[40, 40] 40 #[v, .slice (some ⟨w.heap.size, 0, none⟩) 1 1]).run Tryz.prog (w.alloc (.cells (vec 2 (spE x)) 24)) = .ok (.slice B (l.length + 1) d) w' ∧ OwnS w' base (.slice B (l.length + 1) d) (l ++ [x]) ∧ Below base w w' :=
 app_E (P := Tryz.prog) Tryz.underlying40 info_span (vec_size _ _) (by decide) (fun x => spE_one x 2) x hown hb hl (by decide) 40
def SpansP (l : List Sp) (w : World) (e : Ending) (w' : World) : Prop := ∃ v, e = .returned v ∧ OwnS w' w.heap.size v l ∧ Below w.heap.size w w'
end Go.Proofs.YtkaipknkjocfiaaGreat
namespace Go.Proofs.YtkaipknkjocfiaaGreat
open Go.RowKit
theorem has_bel (a b p : Nat) (hx : fit (a, b)) (w : World) :
 Calls Tryz.prog 84 #[.agg #[.int .u64 (a : Int), .int .u64 (b : Int)], .int .u64 (p : Int)] w fun e w' => e = .returned (.bool (has (a, b) p)) ∧ Below w.heap.size w w' := has_any a b p hx w
theorem within_eq (a b c d : Nat) (h : good (a, b) = true) : within (a, b) (c, d) = (has (c, d) a && has (c, d) (last (a, b))) := by
 have hl := last_good h
 have hg := (good_iff _).1 h
 simp only at hl hg
 rw [Bool.eq_iff_iff]
 simp only [within, has, h, Bool.true_and, Bool.and_eq_true, decide_eq_true_eq]
 constructor
 · rintro ⟨h1, h2, h3⟩; exact ⟨⟨h1, by omega, by omega⟩, h1, by omega, by omega⟩
 · rintro ⟨⟨h1, h2, h3⟩, h4, h5, h6⟩; exact ⟨h1, by omega, by omega⟩
set_option maxHeartbeats 1000000 in
theorem within_any (a b c d : Nat) (hx : fit (a, b)) (hy : fit (c, d)) (w : World) :
   Calls Tryz.prog 69 #[.agg #[.int .u64 (a : Int), .int .u64 (b : Int)], .agg #[.int .u64 (c : Int), .int .u64 (d : Int)]] w fun e w' => e = .returned (.bool (within (a, b) (c, d))) ∧ Below w.heap.size w w' := by
 have Hx := Lib.hid hx
 have Hy := Lib.hid hy
 by_cases h : good (a, b) = true
 · rw [within_eq a b c d h]
   by_cases h1 : has (c, d) a = true
   · rw [h1, Bool.true_and]
     go_enter Tryz.func69, Tryz.ntmps69
     go_wp2
     refine wp_region_held_drew (S := fun W => Below w.heap.size w W ∧ W.cell? ⟨w.heap.size, 0, none⟩ = some (.int .u64 (a : Int)) ∧ W.cell? ⟨w.heap.size, 1, none⟩ = some (.int .u64 (b : Int)) ∧ W.cell? ⟨w.heap.size + 1, 0, none⟩ = some (.int .u64 (c : Int)) ∧ W.cell? ⟨w.heap.size + 1, 1, none⟩ = some (.int .u64 (d : Int))) (by kernel_rfl) (keep4_start w a b c d _ rfl) (fun hS => ?_)
     refine tA 0 (h := ?_)
     refine oQ 1 (h := fun K1 hK1 => ?_)
     go_simp
     refine (good_bel a b Hx.out _).mono ?_
     rintro e w1 ⟨rfl, hd⟩
     refine hK1 _ _ (keep4 hd hS) (fun hS1 => ?_)
     clear hS hd hK1 K1
     refine tA 2 (h := ?_)
     refine tA 3 (h := ?_)
     refine tA 4 (h := ?_)
     refine tA 5 (h := ?_)
     refine oQ 6 (h := fun K6 hK6 => ?_)
     go_simp
     refine (has_bel c d a Hy.out _).mono ?_
     rintro e w1 ⟨rfl, hd⟩
     refine hK6 _ _ (keep4 hd hS1) (fun hS6 => ?_)
     clear hS1 hd hK6 K6
     refine tA 7 (h := ?_)
     refine tA 8 (h := ?_)
     refine tA 9 (h := ?_)
     refine tA 10 (h := ?_)
     refine oQ 11 (h := fun K11 hK11 => ?_)
     go_simp
     refine (last_bel a b Hx.out _).mono ?_
     rintro e w1 ⟨rfl, hd⟩
     refine hK11 _ _ (keep4 hd hS6) (fun hS11 => ?_)
     clear hS6 hd hK11 K11
     refine oQ 12 (h := fun K12 hK12 => ?_)
     go_simp
     refine (has_bel c d (last (a, b)) Hy.out _).mono ?_
     rintro e w1 ⟨rfl, hd⟩
     refine hK12 _ _ (keep4 hd hS11) (fun hS12 => ?_)
     clear hS11 hd hK12 K12
     refine tA 13 (h := ?_)
     refine tA 14 (h := ?_)
     refine wpAnyH_done (by kernel_rfl) ?_ _
     go_wp2
     go_ret
     exact ⟨rfl, hS12.1⟩
   · have h1' : has (c, d) a = false := by simpa using h1
     clear h1
     rw [h1', Bool.false_and]
     go_enter Tryz.func69, Tryz.ntmps69
     go_wp2
     refine wp_region_held_drew (S := fun W => Below w.heap.size w W ∧ W.cell? ⟨w.heap.size, 0, none⟩ = some (.int .u64 (a : Int)) ∧ W.cell? ⟨w.heap.size, 1, none⟩ = some (.int .u64 (b : Int)) ∧ W.cell? ⟨w.heap.size + 1, 0, none⟩ = some (.int .u64 (c : Int)) ∧ W.cell? ⟨w.heap.size + 1, 1, none⟩ = some (.int .u64 (d : Int))) (by kernel_rfl) (keep4_start w a b c d _ rfl) (fun hS => ?_)
     refine tA 0 (h := ?_)
     refine oQ 1 (h := fun K1 hK1 => ?_)
     go_simp
     refine (good_bel a b Hx.out _).mono ?_
     rintro e w1 ⟨rfl, hd⟩
     refine hK1 _ _ (keep4 hd hS) (fun hS1 => ?_)
     clear hS hd hK1 K1
     refine tA 2 (h := ?_)
     refine tA 3 (h := ?_)
     refine tA 4 (h := ?_)
     refine tA 5 (h := ?_)
     refine oQ 6 (h := fun K6 hK6 => ?_)
     go_simp
     refine (has_bel c d a Hy.out _).mono ?_
     rintro e w1 ⟨rfl, hd⟩
     refine hK6 _ _ (keep4 hd hS1) (fun hS6 => ?_)
     clear hS1 hd hK6 K6
     refine tA 7 (h := ?_)
     refine tA 8 (h := ?_)
     refine sQ 9 (h := ?_)
     refine sQ 10 (h := ?_)
     refine sQ 11 (h := ?_)
     refine sQ 12 (h := ?_)
     refine tA 13 (h := ?_)
     refine tA 14 (h := ?_)
     refine wpAnyH_done (by kernel_rfl) ?_ _
     go_wp2
     go_ret
     exact ⟨rfl, hS6.1⟩
 · have h' : good (a, b) = false := by simpa using h
   clear h
   rw [show within (a, b) (c, d) = false from by simp [within, h']]
   go_enter Tryz.func69, Tryz.ntmps69
   go_wp2
   refine wp_region_held_drew (S := fun W => Below w.heap.size w W ∧ W.cell? ⟨w.heap.size, 0, none⟩ = some (.int .u64 (a : Int)) ∧ W.cell? ⟨w.heap.size, 1, none⟩ = some (.int .u64 (b : Int)) ∧ W.cell? ⟨w.heap.size + 1, 0, none⟩ = some (.int .u64 (c : Int)) ∧ W.cell? ⟨w.heap.size + 1, 1, none⟩ = some (.int .u64 (d : Int))) (by kernel_rfl) (keep4_start w a b c d _ rfl) (fun hS => ?_)
   refine tA 0 (h := ?_)
   refine oQ 1 (h := fun K1 hK1 => ?_)
   go_simp
   refine (good_bel a b Hx.out _).mono ?_
   rintro e w1 ⟨rfl, hd⟩
   refine hK1 _ _ (keep4 hd hS) (fun hS1 => ?_)
   clear hS hd hK1 K1
   refine tA 2 (h := ?_)
   refine sQ 3 (h := ?_)
   refine sQ 4 (h := ?_)
   refine sQ 5 (h := ?_)
   refine sQ 6 (h := ?_)
   refine tA 7 (h := ?_)
   refine tA 8 (h := ?_)
   refine sQ 9 (h := ?_)
   refine sQ 10 (h := ?_)
   refine sQ 11 (h := ?_)
   refine sQ 12 (h := ?_)
   refine tA 13 (h := ?_)
   refine tA 14 (h := ?_)
   refine wpAnyH_done (by kernel_rfl) ?_ _
   go_wp2
   go_ret
   exact ⟨rfl, hS1.1⟩
end Go.Proofs.YtkaipknkjocfiaaGreat
namespace Go.Proofs.YtkaipknkjocfiaaGreat
open Go.RowKit
def boxSp (a b : Nat) : Array Value := #[.int .u64 (a : Int), .int .u64 (b : Int)]
theorem row_lit (w : World) (a b : Nat) : Row (w.alloc (spo a b)) (w.heap.size + 1) (some ⟨w.heap.size, 0, none⟩) [(a, b)] := fun _ =>
 ⟨_, rfl, Nat.lt_succ_self _, fun j hj => by
  simp only [List.length_cons, List.length_nil] at hj
  obtain rfl : j = 0 := by omega
  refine ⟨?_, ?_⟩ <;> simp [Addr.add]⟩
theorem pages1 (a b : Nat) (hx : fit (a, b)) (w : World) (g : Nat) (hg : g = w.heap.size) :
  Calls Tryz.prog 68 #[.slice (some ⟨g, 0, none⟩) 1 1] (w.alloc (spo a b)) fun e w' => e = .returned (.bool (paged (a, b))) ∧ Below w.heap.size w w' := by
 subst hg
 have h := pages_any (some ⟨w.heap.size, 0, none⟩) 1 [(a, b)] (by simp) (fun x hx' => by simp only [List.mem_cons, List.not_mem_nil, or_false] at hx'; subst hx'; exact hx) (w.alloc (spo a b)) ((row_lit w a b).wide (by simp))
 have e : [(a, b)].all paged = paged (a, b) := by simp
 rw [e] at h
 exact h.mono fun e w' ⟨h1, h2⟩ => ⟨h1, ((Below.refl _ w).alloc (Nat.le_refl _) _).trans (h2.mono (by simp))⟩
def addrB (r : Sp) : Bool := paged r && decide (last r < 1099511627776)
set_option maxRecDepth 100000 in
set_option maxHeartbeats 1000000 in
theorem addressed_any (a b : Nat) (hx : fit (a, b)) (w : World) :
  Calls Tryz.prog 67 #[.agg #[.int .u64 (a : Int), .int .u64 (b : Int)]] w fun e w' => e = .returned (.bool (addrB (a, b))) ∧ Below w.heap.size w w' := by
 have hb : Below w.heap.size w (w.alloc (spo a b)) := (Below.refl _ _).alloc (Nat.le_refl _) _
 have hp := pages1 a b hx (w.alloc (spo a b)) (w.heap.size + 1) (by simp)
 obtain ⟨z, hz⟩ : ∃ z, z = addrB (a, b) := ⟨_, rfl⟩
 obtain ⟨l, hl⟩ : ∃ l, l = last (a, b) := ⟨_, rfl⟩
 have HL : Hid (∀ W, Calls Tryz.prog 105 #[.agg #[.int .u64 (a : Int), .int .u64 (b : Int)]] W fun e w' => e = .returned (.int .u64 (l : Int)) ∧ Below W.heap.size W w') := Lib.hid fun W => by rw [hl]; exact last_bel a b hx W
 have HBA : Hid (∀ v, Below (w.alloc (spo a b)).heap.size (w.alloc (spo a b)) v → v.cell? ⟨w.heap.size, 0, none⟩ = some (.int .u64 (a : Int)) ∧ v.cell? ⟨w.heap.size, 1, none⟩ = some (.int .u64 (b : Int))) := Lib.hid fun v hv => by
  have h : Blk v w.heap.size 24 (boxSp a b) := Blk.under (Blk.new _ _ _ rfl) hv
  exact ⟨h.cellAt 0 rfl, h.cellAt 1 rfl⟩
 have HB := Lib.hid hb
 rw [← hz]
 cases hpg : paged (a, b) with
 | false =>
  rw [hpg] at hp
  have hz0 : z = false := by rw [hz]; unfold addrB; rw [hpg]; rfl
  subst hz0
  have HP := Lib.hid hp
  clear hp hz hl hpg hx hb
  go_enter Tryz.func67, Tryz.ntmps67
  go_wp2_with (go_at_call 68; refine HP.out.mono ?_; rintro e w1 ⟨rfl, hd⟩; have HD := Lib.hid hd; clear hd)
  go_ret
  exact ⟨rfl, HB.out.trans (HD.out.mono HB.out.size)⟩
 | true =>
  rw [hpg] at hp
  have HP := Lib.hid hp
  by_cases hlt : l < 1099511627776
  · have hz0 : z = true := by rw [hz]; unfold addrB; rw [hpg, ← hl, decide_eq_true hlt]; rfl
    subst hz0
    have hlt' : (l : Int) < 1099511627776 := by omega
    clear hp hz hl hpg hx hb hlt
    go_enter Tryz.func67, Tryz.ntmps67
    go_wp2_with (first
     | (go_at_call 68; refine HP.out.mono ?_; rintro e w1 ⟨rfl, hd⟩; have HD := Lib.hid hd; obtain ⟨c0, c1⟩ := HBA.out w1 hd; clear hd)
     | (go_at_call 105; refine (HL.out _).mono ?_; rintro e w2 ⟨rfl, hd⟩; have HD2 := Lib.hid hd; clear hd))
    go_ret
    have h3 := HB.out.trans (HD.out.mono HB.out.size)
    exact ⟨rfl, h3.trans (HD2.out.mono h3.size)⟩
  · have hz0 : z = false := by rw [hz]; unfold addrB; rw [hpg, ← hl, decide_eq_false hlt]; rfl
    subst hz0
    have hlt' : ¬ (l : Int) < 1099511627776 := by omega
    have hlt2 : decide ((l : Int) < 1099511627776) = false := decide_eq_false hlt'
    have hlt3 : (1099511627776 : Int) ≤ l := by omega
    clear hp hz hl hpg hx hb hlt
    go_enter Tryz.func67, Tryz.ntmps67
    go_wp2_with (first
     | (go_at_call 68; refine HP.out.mono ?_; rintro e w1 ⟨rfl, hd⟩; have HD := Lib.hid hd; obtain ⟨c0, c1⟩ := HBA.out w1 hd; clear hd)
     | (go_at_call 105; refine (HL.out _).mono ?_; rintro e w2 ⟨rfl, hd⟩; have HD2 := Lib.hid hd; clear hd))
    go_ret
    have h3 := HB.out.trans (HD.out.mono HB.out.size)
    exact ⟨by rw [← hlt2]; rfl, h3.trans (HD2.out.mono h3.size)⟩
set_option maxRecDepth 100000 in
theorem among9_any (n lo hi : Int) (w : World) :
   Calls Tryz.prog 70 #[.int .i64 n, .int .i64 lo, .int .i64 hi] w fun e w' => e = .returned (.bool (decide (lo ≤ n ∧ n ≤ hi))) ∧ w' = w := by
 by_cases h1 : lo ≤ n
 · by_cases h2 : n ≤ hi
   · rw [decide_eq_true ⟨h1, h2⟩]
     go_enter Tryz.func70, Tryz.ntmps70
     go_wp2
     go_ret
     exact ⟨rfl, rfl⟩
   · rw [decide_eq_false (fun h => h2 h.2)]
     go_enter Tryz.func70, Tryz.ntmps70
     go_wp2
     go_ret
     exact ⟨rfl, rfl⟩
 · rw [decide_eq_false (fun h => h1 h.1)]
   go_enter Tryz.func70, Tryz.ntmps70
   go_wp2
   go_ret
   exact ⟨rfl, rfl⟩
end Go.Proofs.YtkaipknkjocfiaaGreat
