/- Sizes of signatures; whether a header is named, whether its Size is a payload's length. -/
import Derived.Test.YtgoblolbkchggaaDoorHb
namespace Go.Proofs.YtgoblolbkchggaaDoor
open Go.RowKit

set_option maxRecDepth 100000 in
theorem size_any (oid : Nat) (hoid : oid < 4294967296) (w : World) :
    Calls Tryd.prog 24 #[.int .u32 (oid : Int)] w fun e w' => e = .returned (.tuple #[.int .i64 (if isO oid = true then (sigN oid : Int) else 0), .bool (isO oid)]) ∧ w = w' := by
  have HH := Lib.hid (height_any oid hoid w)
  have hle : hgtO oid ≤ 20 := by unfold hgtO; split <;> (try split) <;> (try split) <;> omega
  have HS : Hid ((sigN oid : Int) = 4 + 32 * (68 + (hgtO oid : Int))) := Lib.hid (by unfold sigN; omega)
  obtain ⟨h, hh⟩ : ∃ h, h = hgtO oid := ⟨_, rfl⟩
  obtain ⟨s, hs⟩ : ∃ s : Int, s = (sigN oid : Int) := ⟨_, rfl⟩
  obtain ⟨b, hb⟩ : ∃ b, b = isO oid := ⟨_, rfl⟩
  rw [← hs, ← hb]
  rw [← hh] at HH hle
  rw [← hs, ← hh] at HS
  rw [← hb] at HH
  clear hh hs hb
  cases b
  · go_enter Tryd.func24, Tryd.ntmps24
    go_wp2_with (go_at_call 38; refine HH.out.mono ?_; rintro e w1 ⟨rfl, hw1⟩; rw [← hw1]; clear hw1)
    go_ret2
    exact ⟨rfl, rfl⟩
  · go_enter Tryd.func24, Tryd.ntmps24
    go_wp2_with (go_at_call 38; refine HH.out.mono ?_; rintro e w1 ⟨rfl, hw1⟩; rw [← hw1]; clear hw1)
    go_ret2
    exact ⟨by rw [HS.out]; rfl, rfl⟩
/-- A Bool is told; the heap stays. -/
def EqV (r : Bool) (w : World) (e : Ending) (w' : World) : Prop := e = .returned (.bool r) ∧ Below w.heap.size w w'
set_option maxRecDepth 100000 in
theorem named_any (h : Hd) (b : By) (hn : h.name.length ≤ 1000000) (w : World) : Calls Tryd.prog 16 #[.agg (vec 99 (hvF h b))] w (EqV (nameOk h.name) w) := by
  obtain ⟨V, hV⟩ : ∃ V, V = w.alloc (.cells (vec 99 (hvF h b)) 49) := ⟨_, rfl⟩
  have h0 : Arr V w.heap.size 49 99 (hvF h b) := by rw [hV]; exact Arr.new w _ _ _
  have HB : Hid (Below w.heap.size w V) := Lib.hid (by rw [hV]; exact (Below.refl _ _).alloc (Nat.le_refl _) _)
  have c2 : V.cell? ⟨w.heap.size, 2, none⟩ = some (.string (strOf h.name)) := h0.cell (i := 2) (by decide)
  have HN := Lib.hid (fun W => name_any h.name hn W)
  have HW := Lib.hid hV
  clear hV h0
  unfold EqV
  go_enter Tryd.func16, Tryd.ntmps16
  go_upto_region 1 with fail
  rw [← HW.out]
  clear HW
  go_wp2_with (go_at_call 29; refine (HN.out _).mono ?_; rintro e w1 ⟨rfl, hw1⟩; rw [← hw1]; clear hw1)
  go_ret
  exact ⟨rfl, HB.out⟩
set_option maxRecDepth 100000 in
theorem sized_any (h : Hd) (hb : HdB h) (b : By) (A : Option Addr) (n c : Nat) (hn : n ≤ 1000000) (w : World) : Calls Tryd.prog 25 #[.agg (vec 99 (hvF h b)), .slice A n c] w (EqV (decide ((n : Int) = h.size)) w) := by
  obtain ⟨V, hV⟩ : ∃ V, V = w.alloc (.cells (vec 99 (hvF h b)) 49) := ⟨_, rfl⟩
  have h0 : Arr V w.heap.size 49 99 (hvF h b) := by rw [hV]; exact Arr.new w _ _ _
  have HB : Hid (Below w.heap.size w V) := Lib.hid (by rw [hV]; exact (Below.refl _ _).alloc (Nat.le_refl _) _)
  obtain ⟨s, hs⟩ : ∃ s, s = h.size := ⟨_, rfl⟩
  obtain ⟨s1, s2⟩ := hb.size
  have c1 : V.cell? ⟨w.heap.size, 1, none⟩ = some (.int .u32 s) := by rw [hs]; exact h0.cell (i := 1) (by decide)
  rw [← hs] at s1 s2 ⊢
  have w1 : IntKind.u64.wrap (n : Int) = (n : Int) := by rw [IntKind.wrap_u64]; omega
  have w2 : IntKind.u64.wrap s = s := by rw [IntKind.wrap_u64]; omega
  have HW := Lib.hid hV
  clear hV h0 hs hb
  unfold EqV
  go_enter Tryd.func25, Tryd.ntmps25
  go_upto_region 1 with fail
  rw [← HW.out]
  clear HW
  go_wp2
  go_ret
  exact ⟨by by_cases hc : (n : Int) = s <;> simp [hc], HB.out⟩
end Go.Proofs.YtgoblolbkchggaaDoor
