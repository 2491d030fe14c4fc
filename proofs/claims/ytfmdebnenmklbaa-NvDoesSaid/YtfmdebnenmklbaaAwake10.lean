/- portreevelaw10.awake: chapter 10's example. -/
import Derived.Great.BuildSlice
import Derived.Test.YtfmdebnenmklbaaNr
import Derived.Test.YtfmdebnenmklbaaRnv
namespace Go.Proofs.Ytfmdebnenmklbaa
open Go.RowKit

def s10 : St := ⟨[0, 0], [⟨1, 255⟩], 0, true⟩
def s11 : St := ⟨[5, 0], [⟨1, 255⟩], 1, true⟩
def s12 : St := ⟨[5, 52], [⟨1, 255⟩], 1, false⟩
theorem s10_wr : s10.wr 0 5 = s11 ∧ s10.wrE 0 = 0 := by
  have h := wr_ok s10 0 5 rfl (by decide) (by unfold St.hit s10; simp)
  exact ⟨h.2, h.1⟩
theorem s11_wr : s11.wr 1 4660 = s12 ∧ s11.wrE 1 = 100 := by
  have h := wr_hit s11 1 4660 255 rfl (by decide) (by unfold St.hit s11; simp)
  refine ⟨h.2.trans ?_, h.1⟩
  have e : tornW 0 4660 255 = (52 : W32) := by decide
  show (⟨[5, tornW 0 4660 255], [⟨1, 255⟩], 1, false⟩ : St) = s12
  rw [e]
  rfl
theorem blk_lies32 {w : World} {g : Nat} {l : List W32} (h : Blk w g 31 (u32s l).toArray) : Lies w w.heap.size 1 (some ⟨g, 0, none⟩) l.length (u32s l) := by
  refine ⟨by rw [u32s_length]; omega, fun _ => ⟨_, rfl, h.lt, fun j hj => ?_⟩⟩
  have e : ((⟨g, 0, none⟩ : Addr).add j) = ⟨g, j, none⟩ := by unfold Addr.add; by_cases h0 : j = 0 <;> simp [h0]
  rw [e, h.cell j]
  simp
theorem blk_liesC {w : World} {g : Nat} {l : List Ct} (h : Blk w g 44 (cellsC l).toArray) : Lies w w.heap.size 2 (some ⟨g, 0, none⟩) l.length (cellsC l) := by
  refine ⟨cellsC_length l, fun _ => ⟨_, rfl, h.lt, fun j hj => ?_⟩⟩
  have e : ((⟨g, 0, none⟩ : Addr).add j) = ⟨g, j, none⟩ := by unfold Addr.add; by_cases h0 : j = 0 <;> simp [h0]
  rw [e, h.cell j]
  simp
set_option maxRecDepth 100000 in
theorem build_cut (a m : Int) (w : World) : (Instr.buildSlice 23 1 #[(0, .agg #[.int .i64 a, .int .u32 m])]).run Try.prog w = .ok (.slice (some ⟨w.heap.size, 0, none⟩) 1 1) (w.alloc (.cells #[.int .i64 a, .int .u32 m] 44)) := by
  obtain ⟨i0, hi, hz0, hz1, hz2⟩ := info_parts infoCut
  refine run_buildSlice (P := Try.prog) w 23 44 1 _ _ i0 (.agg #[.int .i64 0, .int .u32 0]) Try.underlying23 hi hz0 (by rw [hz1]; decide) (by rw [hz1]; decide) ?_
  rw [hz1]
  kernel_rfl
set_option maxRecDepth 100000 in
set_option maxHeartbeats 2000000 in
theorem awake_any (w : World) : Calls Try.prog 7 #[] w fun e w' => e = .returned (.bool true) ∧ Below w.heap.size w w' := by
  have n5 : num 5 = 5 := by decide
  have n6 : num 4660 = 4660 := by decide
  have HN : Hid (Calls Try.prog 8 #[.slice (some ⟨w.heap.size, 0, none⟩) 2 2, .slice (some ⟨w.heap.size + 1, 0, none⟩) 1 1] ((w.alloc (.cells #[.int .u32 0, .int .u32 0] 31)).alloc (.cells #[.int .i64 1, .int .u32 255] 44)) fun e w' => ∃ p G v A c, e = .returned (.pointer (some ⟨p, 0, none⟩)) ∧ Hid (NC w' G p s10 v A c ∧ (∀ i, G i → w.heap.size ≤ i) ∧ Below w.heap.size w w')) := Lib.hid (by
    obtain ⟨V, hV⟩ : ∃ V, V = (w.alloc (.cells #[.int .u32 0, .int .u32 0] 31)).alloc (.cells #[.int .i64 1, .int .u32 255] 44) := ⟨_, rfl⟩
    have b1 : Blk V w.heap.size 31 (u32s [0, 0]).toArray := by rw [hV]; exact (Blk.new w _ _ rfl).alloc _
    have b2 : Blk V (w.heap.size + 1) 44 (cellsC [⟨1, 255⟩]).toArray := by rw [hV]; exact Blk.new _ _ _ (by simp)
    have hb : Below w.heap.size w V := by rw [hV]; exact ((Below.refl _ _).alloc (Nat.le_refl _) _).alloc (by simp) _
    rw [← hV]
    refine (new_any (some ⟨w.heap.size, 0, none⟩) 2 [0, 0] (by decide) (some ⟨w.heap.size + 1, 0, none⟩) 1 [⟨1, 255⟩] (by decide) (fun x hx => by rw [List.mem_singleton.1 hx]; exact ⟨by decide, by decide⟩) V (blk_lies32 b1) (blk_liesC b2)).mono ?_
    rintro e w' ⟨p, G, v, A, c, rfl, h1, h2, _, h3⟩
    have := hb.size
    exact ⟨p, G, v, A, c, rfl, Lib.hid ⟨h1, fun i hi => by have := h2 i hi; omega, hb.trans (h3.mono this)⟩⟩)
  have HW1 : Hid (∀ w1 G p v A c, NC w1 G p s10 v A c → Calls Try.prog 9 #[.pointer (some ⟨p, 0, none⟩), .int .i64 0, .int .u32 5] w1 fun e w' => e = .returned (.int .i64 0) ∧ Hid (NC w' G p s11 v A c ∧ Turn G w1 w')) := Lib.hid fun w1 G p v A c h => by
    have := write_any h (by decide) 0 5
    rw [n5] at this
    refine this.mono ?_
    rintro e w' ⟨h1, h2, h3⟩
    rw [s10_wr.1] at h2
    rw [s10_wr.2] at h1
    exact ⟨h1, Lib.hid ⟨h2, h3⟩⟩
  have HW2 : Hid (∀ w1 G p v A c, NC w1 G p s11 v A c → Calls Try.prog 9 #[.pointer (some ⟨p, 0, none⟩), .int .i64 1, .int .u32 4660] w1 fun e w' => e = .returned (.int .i64 100) ∧ Hid (NC w' G p s12 v A c ∧ Turn G w1 w')) := Lib.hid fun w1 G p v A c h => by
    have := write_any h (by decide) 1 4660
    rw [n6] at this
    refine this.mono ?_
    rintro e w' ⟨h1, h2, h3⟩
    rw [s11_wr.1] at h2
    rw [s11_wr.2] at h1
    exact ⟨h1, Lib.hid ⟨h2, h3⟩⟩
  have HWD : Hid (∀ w1 G p v A c, NC w1 G p s12 v A c → Calls Try.prog 18 #[.pointer (some ⟨p, 0, none⟩)] w1 fun e w' => ∃ a d, e = .returned (.slice (some a) 2 d) ∧ w'.cell? ⟨a.block, a.off + 1, none⟩ = some (.int .u32 52) ∧ Hid (Below w1.heap.size w1 w')) := Lib.hid fun w1 G p v A c h => by
    refine (words_any h (by decide)).mono ?_
    rintro e w' ⟨B, d, rfl, h1, h2⟩
    obtain ⟨a, rfl, h3⟩ := u32_lies (l := s12.ws) h1 (k := 1) (by decide)
    exact ⟨a, d, rfl, h3, Lib.hid h2⟩
  have HDD : Hid (∀ w1 G p v A c, NC w1 G p s12 v A c → Calls Try.prog 15 #[.pointer (some ⟨p, 0, none⟩)] w1 fun e w' => e = .returned (.bool true) ∧ w1 = w') := Lib.hid fun w1 G p v A c h => dead_any h
  have hbc := build_cut 1 255
  clear n5 n6
  go_enter Try.func7, Try.ntmps7
  go_wp2_with (first
    | (go_at_call 8; refine HN.out.mono ?_; rintro e w1 ⟨p, G, v, A, c, rfl, H1⟩; clear hbc)
    | (go_at_call 9; (with_reducible show Calls _ _ #[_, .int .i64 0, _] _ _); refine (HW1.out w1 G p v A c H1.out.1).mono ?_; rintro e w2 ⟨rfl, H2⟩)
    | (go_at_call 9; (with_reducible show Calls _ _ #[_, .int .i64 1, _] _ _); refine (HW2.out w2 G p v A c H2.out.1).mono ?_; rintro e w3 ⟨rfl, H3⟩)
    | (go_at_call 18; refine (HWD.out w3 G p v A c H3.out.1).mono ?_; rintro e w4 ⟨a4, d4, rfl, hc4, H4⟩; clear hc4)
    | (go_at_call 18; refine (HWD.out w4 G p v A c (H3.out.1.under H4.out)).mono ?_; rintro e w5 ⟨a5, d5, rfl, hc5, H5⟩)
    | (go_at_call 15; refine (HDD.out w5 G p v A c ((H3.out.1.under H4.out).under H5.out)).mono ?_; rintro e w6 ⟨rfl, rfl⟩))
  go_ret
  have h1 := H1.out.2.2
  have h2 := h1.trans (H2.out.2.below H1.out.2.1 h1.size)
  have h3 := h2.trans (H3.out.2.below H1.out.2.1 h2.size)
  have h4 := h3.trans (H4.out.mono h3.size)
  exact ⟨rfl, h4.trans (H5.out.mono h4.size)⟩
end Go.Proofs.Ytfmdebnenmklbaa
