/- placed, whole. -/
import Derived.Test.YtfeiplaiekbdkaaXsz
namespace Go.Proofs.Ytfeiplaiekbdkaa
open Go.RowKit
attribute [local go_sem ↓ high] zeroV26 zeroSig zeroSz

section
variable {w : World} {g : Nat} {t : TypeId} {idx : Int} {r : Nd} {v1 v2 : Value} {h : Int}
theorem sz_idx (ha : Arr w g t 36 (szF idx r v1 v2 h)) : w.cell? ⟨g, 0, none⟩ = some (.int .u32 idx) := ha.cell (i := 0) (by decide)
theorem sz_v1 (ha : Arr w g t 36 (szF idx r v1 v2 h)) : w.cell? ⟨g, 33, none⟩ = some v1 := ha.cell (i := 33) (by decide)
theorem sz_v2 (ha : Arr w g t 36 (szF idx r v1 v2 h)) : w.cell? ⟨g, 34, none⟩ = some v2 := ha.cell (i := 34) (by decide)
theorem sz_h (ha : Arr w g t 36 (szF idx r v1 v2 h)) : w.cell? ⟨g, 35, none⟩ = some (.int .i64 h) := ha.cell (i := 35) (by decide)
end
/-- Is there such a leaf, and a neighbour at each height? -/
def plcd (idx h n2 : Nat) : Bool := decide (idx < 2 ^ h) && decide (n2 = h)
set_option maxHeartbeats 1000000 in
set_option maxRecDepth 100000 in
theorem placed_10 (idx : Nat) (hidx : idx < 4294967296) (r : Nd) (v1 : Value) (A2 : Option Addr) (n2 c2 : Nat) (w : World) :
    Calls Try.prog 36 #[.agg (vec 36 (szF (idx : Int) r v1 (.slice A2 n2 c2) 10))] w fun e w' => e = .returned (.bool (plcd idx 10 n2)) ∧ Below w.heap.size w w' := by
  obtain ⟨V, hV⟩ : ∃ V, V = w.alloc (.cells (vec 36 (szF (idx : Int) r v1 (.slice A2 n2 c2) 10)) 67) := ⟨_, rfl⟩
  have h0 : Arr V w.heap.size 67 36 (szF (idx : Int) r v1 (.slice A2 n2 c2) 10) := by rw [hV]; exact Arr.new w _ _ _
  have hB : Below w.heap.size w V := by rw [hV]; exact (Below.refl _ _).alloc (Nat.le_refl _) _
  have c0 := sz_idx h0
  have c34 := sz_v2 h0
  have c35 := sz_h h0
  have HB := Lib.hid hB
  have HW := Lib.hid hV
  clear hV h0 hB
  by_cases hi : idx < 1024
  · have e1 : ((idx : Int) / 1024 == 0) = true := by simp; omega
    have e2 : plcd idx 10 n2 = decide (n2 = 10) := by
      unfold plcd
      rw [decide_eq_true (show idx < 2 ^ 10 from hi), Bool.true_and]
    have e3 : ((n2 : Int) == 10) = decide (n2 = 10) := by
      by_cases h : n2 = 10
      · subst h; rfl
      · rw [decide_eq_false h]; simp; omega
    obtain ⟨q, hq⟩ : ∃ q, q = decide (n2 = 10) := ⟨_, rfl⟩
    rw [← hq] at e2 e3
    rw [e2]
    clear hq e2
    go_enter Try.func36, Try.ntmps36
    go_upto_region 1 with fail
    rw [← HW.out]
    clear HW
    go_wp2
    go_ret
    exact ⟨rfl, HB.out⟩
  · have e1 : ((idx : Int) / 1024 == 0) = false := by simp; omega
    have e2 : plcd idx 10 n2 = false := by
      unfold plcd
      rw [decide_eq_false (show ¬ idx < 2 ^ 10 from hi), Bool.false_and]
    rw [e2]
    clear e2
    go_enter Try.func36, Try.ntmps36
    go_upto_region 1 with fail
    rw [← HW.out]
    clear HW
    go_wp2
    go_ret
    exact ⟨rfl, HB.out⟩
set_option maxHeartbeats 1000000 in
set_option maxRecDepth 100000 in
theorem placed_16 (idx : Nat) (hidx : idx < 4294967296) (r : Nd) (v1 : Value) (A2 : Option Addr) (n2 c2 : Nat) (w : World) :
    Calls Try.prog 36 #[.agg (vec 36 (szF (idx : Int) r v1 (.slice A2 n2 c2) 16))] w fun e w' => e = .returned (.bool (plcd idx 16 n2)) ∧ Below w.heap.size w w' := by
  obtain ⟨V, hV⟩ : ∃ V, V = w.alloc (.cells (vec 36 (szF (idx : Int) r v1 (.slice A2 n2 c2) 16)) 67) := ⟨_, rfl⟩
  have h0 : Arr V w.heap.size 67 36 (szF (idx : Int) r v1 (.slice A2 n2 c2) 16) := by rw [hV]; exact Arr.new w _ _ _
  have hB : Below w.heap.size w V := by rw [hV]; exact (Below.refl _ _).alloc (Nat.le_refl _) _
  have c0 := sz_idx h0
  have c34 := sz_v2 h0
  have c35 := sz_h h0
  have HB := Lib.hid hB
  have HW := Lib.hid hV
  clear hV h0 hB
  by_cases hi : idx < 65536
  · have e1 : ((idx : Int) / 65536 == 0) = true := by simp; omega
    have e2 : plcd idx 16 n2 = decide (n2 = 16) := by
      unfold plcd
      rw [decide_eq_true (show idx < 2 ^ 16 from hi), Bool.true_and]
    have e3 : ((n2 : Int) == 16) = decide (n2 = 16) := by
      by_cases h : n2 = 16
      · subst h; rfl
      · rw [decide_eq_false h]; simp; omega
    obtain ⟨q, hq⟩ : ∃ q, q = decide (n2 = 16) := ⟨_, rfl⟩
    rw [← hq] at e2 e3
    rw [e2]
    clear hq e2
    go_enter Try.func36, Try.ntmps36
    go_upto_region 1 with fail
    rw [← HW.out]
    clear HW
    go_wp2
    go_ret
    exact ⟨rfl, HB.out⟩
  · have e1 : ((idx : Int) / 65536 == 0) = false := by simp; omega
    have e2 : plcd idx 16 n2 = false := by
      unfold plcd
      rw [decide_eq_false (show ¬ idx < 2 ^ 16 from hi), Bool.false_and]
    rw [e2]
    clear e2
    go_enter Try.func36, Try.ntmps36
    go_upto_region 1 with fail
    rw [← HW.out]
    clear HW
    go_wp2
    go_ret
    exact ⟨rfl, HB.out⟩
set_option maxHeartbeats 1000000 in
set_option maxRecDepth 100000 in
theorem placed_20 (idx : Nat) (hidx : idx < 4294967296) (r : Nd) (v1 : Value) (A2 : Option Addr) (n2 c2 : Nat) (w : World) :
    Calls Try.prog 36 #[.agg (vec 36 (szF (idx : Int) r v1 (.slice A2 n2 c2) 20))] w fun e w' => e = .returned (.bool (plcd idx 20 n2)) ∧ Below w.heap.size w w' := by
  obtain ⟨V, hV⟩ : ∃ V, V = w.alloc (.cells (vec 36 (szF (idx : Int) r v1 (.slice A2 n2 c2) 20)) 67) := ⟨_, rfl⟩
  have h0 : Arr V w.heap.size 67 36 (szF (idx : Int) r v1 (.slice A2 n2 c2) 20) := by rw [hV]; exact Arr.new w _ _ _
  have hB : Below w.heap.size w V := by rw [hV]; exact (Below.refl _ _).alloc (Nat.le_refl _) _
  have c0 := sz_idx h0
  have c34 := sz_v2 h0
  have c35 := sz_h h0
  have HB := Lib.hid hB
  have HW := Lib.hid hV
  clear hV h0 hB
  by_cases hi : idx < 1048576
  · have e1 : ((idx : Int) / 1048576 == 0) = true := by simp; omega
    have e2 : plcd idx 20 n2 = decide (n2 = 20) := by
      unfold plcd
      rw [decide_eq_true (show idx < 2 ^ 20 from hi), Bool.true_and]
    have e3 : ((n2 : Int) == 20) = decide (n2 = 20) := by
      by_cases h : n2 = 20
      · subst h; rfl
      · rw [decide_eq_false h]; simp; omega
    obtain ⟨q, hq⟩ : ∃ q, q = decide (n2 = 20) := ⟨_, rfl⟩
    rw [← hq] at e2 e3
    rw [e2]
    clear hq e2
    go_enter Try.func36, Try.ntmps36
    go_upto_region 1 with fail
    rw [← HW.out]
    clear HW
    go_wp2
    go_ret
    exact ⟨rfl, HB.out⟩
  · have e1 : ((idx : Int) / 1048576 == 0) = false := by simp; omega
    have e2 : plcd idx 20 n2 = false := by
      unfold plcd
      rw [decide_eq_false (show ¬ idx < 2 ^ 20 from hi), Bool.false_and]
    rw [e2]
    clear e2
    go_enter Try.func36, Try.ntmps36
    go_upto_region 1 with fail
    rw [← HW.out]
    clear HW
    go_wp2
    go_ret
    exact ⟨rfl, HB.out⟩
theorem placed_any (idx : Nat) (hidx : idx < 4294967296) (r : Nd) (v1 : Value) (A2 : Option Addr) (n2 c2 h : Nat) (hh : h = 10 ∨ h = 16 ∨ h = 20) (w : World) :
    Calls Try.prog 36 #[.agg (vec 36 (szF (idx : Int) r v1 (.slice A2 n2 c2) (h : Int)))] w fun e w' => e = .returned (.bool (plcd idx h n2)) ∧ Below w.heap.size w w' := by
  rcases hh with rfl | rfl | rfl
  · exact placed_10 idx hidx r v1 A2 n2 c2 w
  · exact placed_16 idx hidx r v1 A2 n2 c2 w
  · exact placed_20 idx hidx r v1 A2 n2 c2 w
set_option maxHeartbeats 1000000 in
set_option maxRecDepth 100000 in
theorem whole_any (idx : Nat) (hidx : idx < 4294967296) (r : Nd) (A1 : Option Addr) (n1 c1 : Nat) (A2 : Option Addr) (n2 c2 h : Nat) (hh : h = 10 ∨ h = 16 ∨ h = 20) (w : World) :
    Calls Try.prog 29 #[.agg (vec 36 (szF (idx : Int) r (.slice A1 n1 c1) (.slice A2 n2 c2) (h : Int)))] w fun e w' => e = .returned (.bool (plcd idx h n2 && decide (n1 = 67))) ∧ Below w.heap.size w w' := by
  obtain ⟨V, hV⟩ : ∃ V, V = w.alloc (.cells (vec 36 (szF (idx : Int) r (.slice A1 n1 c1) (.slice A2 n2 c2) (h : Int))) 67) := ⟨_, rfl⟩
  have h0 : Arr V w.heap.size 67 36 (szF (idx : Int) r (.slice A1 n1 c1) (.slice A2 n2 c2) (h : Int)) := by rw [hV]; exact Arr.new w _ _ _
  have hB : Below w.heap.size w V := by rw [hV]; exact (Below.refl _ _).alloc (Nat.le_refl _) _
  have HA := Lib.hid (And.intro h0 hB)
  have HW := Lib.hid hV
  have HP := Lib.hid (fun W => placed_any idx hidx r (.slice A1 n1 c1) A2 n2 c2 h hh W)
  obtain ⟨p, hp⟩ : ∃ p, p = plcd idx h n2 := ⟨_, rfl⟩
  rw [← hp] at HP ⊢
  clear hV h0 hB hp
  have e3 : ((n1 : Int) == 67) = decide (n1 = 67) := by
    by_cases h : n1 = 67
    · subst h; rfl
    · rw [decide_eq_false h]; simp; omega
  obtain ⟨q, hq⟩ : ∃ q, q = decide (n1 = 67) := ⟨_, rfl⟩
  rw [← hq] at e3 ⊢
  clear hq
  cases p
  all_goals
    go_enter Try.func29, Try.ntmps29
    go_upto_region 1 with fail
    rw [← HW.out]
    clear HW
    go_wp2_with (first
      | ((with_reducible show wpList _ _ _ (Oper.mk _ (.load 67 _) _ _ _ _ :: _) _ _); refine wl_load rfl 67 _ rfl _ rfl _ (run_load_arr HA.out.1 Try.underlying67 rfl infoSz) ?_)
      | (go_at_call 36; refine (HP.out _).mono ?_; rintro e w1 ⟨rfl, hd⟩; have c33 := sz_v1 (HA.out.1.under hd); have HD := Lib.hid (HA.out.2.trans (hd.mono HA.out.2.size)); clear hd))
    go_ret
    exact ⟨rfl, HD.out⟩
end Go.Proofs.Ytfeiplaiekbdkaa
