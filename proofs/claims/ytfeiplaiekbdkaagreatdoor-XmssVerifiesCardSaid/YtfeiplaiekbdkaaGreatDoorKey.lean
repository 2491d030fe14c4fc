/- prf.wide, prf.Keyed, and the reference's Keyed. -/
import Derived.Test.YtfeiplaiekbdkaaGreatDoorWx
import Derived.Test.YtfeiplaiekbdkaaGreatDoorWc
import Derived.Test.YtfeiplaiekbdkaaGreatDoorRSum
import Derived.Test.YtfeiplaiekbdkaaGreatDoorRBytes
namespace Go.Proofs.YtfeiplaiekbdkaaGreatDoor
open Go.RowKit
attribute [local go_sem ↓ high] zeroV26

def zerosL (n : Nat) : List UInt8 := List.replicate n 0
/-- A number as 32 bytes. -/
def wideL (n : Nat) : List UInt8 := zerosL 28 ++ numBytes 0 4 n
set_option maxRecDepth 100000 in
theorem wideL_length (n : Nat) : (wideL n).length = 32 := by simp [wideL, zerosL, numBytes_length]

set_option maxRecDepth 100000 in
theorem make_i (n : Nat) (hn : n ≤ 140737488355328) (w : World) :
    (Instr.makeSlice 22 (.int .i64 (n : Int)) (.int .i64 (n : Int))).run Tryz.prog w = .ok (.slice (some ⟨w.heap.size, 0, none⟩) n n) (w.alloc (.cells (vec n bz) 5)) := by
  obtain ⟨i0, hi, hz0, hz1, hz2⟩ := info_parts u8_info
  have h := run_make (P := Tryz.prog) (w := w) 22 5 i0 (.int .u8 0) Tryz.underlying22 hi hz0 .i64 .i64 (n : Int) (n : Int) (by omega) (by omega) (by rw [hz2]; omega) (by omega)
  simp only [Int.toNat_natCast, hz1, Nat.mul_one] at h
  rw [h]
  congr 3
  apply Array.ext_getElem?
  intro i
  by_cases hi : i < n
  · rw [vec_at n bz i hi]
    simp [madeCells, hi, bz, Value.cells, Nat.mod_one]
  · simp [madeCells, vec, hi]
set_option maxRecDepth 100000 in
theorem make28 (w : World) : (Instr.makeSlice 22 (.int .i64 28) (.int .i64 28)).run Tryz.prog w = .ok (.slice (some ⟨w.heap.size, 0, none⟩) 28 28) (w.alloc (.cells (vec 28 bz) 5)) := make_i 28 (by decide) w
set_option maxRecDepth 100000 in
theorem bz_zeros (n : Nat) : (vec n bz).toList = u8s (zerosL n) := by
  apply List.ext_getElem?
  intro i
  by_cases hi : i < n
  · simp [vec, u8s, zerosL, bz, hi]
  · simp [vec, u8s, zerosL, hi]
set_option maxRecDepth 100000 in
theorem lies_zeros (w : World) (n : Nat) (t : TypeId) : Lies (w.alloc (.cells (vec n bz) t)) (w.heap.size + 1) 1 (some ⟨w.heap.size, 0, none⟩) n (u8s (zerosL n)) :=
  lies_new w (vec n bz) t n _ (bz_zeros n) (by simp [u8s, zerosL])

set_option maxHeartbeats 400000 in
set_option maxRecDepth 100000 in
theorem wide_any (n : Nat) (hn : n < 4294967296) (w : World) : Calls Tryz.prog 40 #[.int .u32 (n : Int)] w (Bytes w (wideL n)) := by
  have hmk := make28 w
  obtain ⟨W1, hW1⟩ : ∃ W1, W1 = w.alloc (.cells (vec 28 bz) 5) := ⟨_, rfl⟩
  have hz : Lies W1 W1.heap.size 1 (some ⟨w.heap.size, 0, none⟩) 28 (u8s (zerosL 28)) := by
    rw [hW1]; have := lies_zeros w 28 5; exact this.wide (by simp)
  have hb1 : Below w.heap.size w W1 := by rw [hW1]; exact (Below.refl _ _).alloc (Nat.le_refl _) _
  rw [← hW1] at hmk
  have hlen : (zerosL 28).length = 28 := by simp [zerosL]
  have hP := putBe32_any (zerosL 28) [n] (by simpa using hn) (some ⟨w.heap.size, 0, none⟩) (some ⟨W1.heap.size, 0, none⟩) 28 1 (W1.alloc (.cells #[.int .u32 (n : Int)] 28)).heap.size (W1.alloc (.cells #[.int .u32 (n : Int)] 28)) (Nat.le_refl _)
    (by rw [hlen]; exact ((hz.alloc (Nat.le_refl _) _).wide (by simp))) (lies_one W1 (.int .u32 (n : Int)) 28) (by rw [hlen]; simp)
  rw [hlen, show putAll 0 4 [n] = numBytes 0 4 n by simp [putAll]] at hP
  have HP := Lib.hid hP
  have HB := Lib.hid hb1
  clear hP hb1 hz hlen hW1
  go_enter Tryz.func40, Tryz.ntmps40
  go_wp2_with (go_at_call 32; refine HP.out.mono ?_; rintro e w' ⟨v, rfl, hv1, hv2⟩)
  go_ret
  have hl : (zerosL 28 ++ numBytes 0 4 n).length = (wideL n).length := rfl
  exact ⟨_, rfl, owns_mono hv1 (by have := HB.out.size; simp; omega), (HB.out.alloc HB.out.size _).trans (hv2.mono (by have := HB.out.size; simp; omega))⟩

set_option maxRecDepth 100000 in
/-- A new row of parts. -/
theorem parts_of {W : World} {ps : List Part} (cs : Array Value) (hcs : cs.toList = ps.map partV) (hp : ∀ p ∈ ps, Lies W W.heap.size 1 p.1 p.2.2.length (u8s p.2.2) ∧ p.2.2.length ≤ p.2.1) :
    Parts (W.alloc (.cells cs 22)) (some ⟨W.heap.size, 0, none⟩) ps := by
  refine ⟨?_, fun p h => ?_, fun p h => (hp p h).2⟩
  · have := lies_new W cs 22 ps.length (ps.map partV) hcs (by simp)
    exact this.wide (by simp)
  · exact ((hp p h).1.alloc (Nat.le_refl _) _).wide (by simp)

set_option maxRecDepth 100000 in
theorem row_info : (Tryz.prog.info? 22).map (fun i => (i.zero, i.size, i.bytes)) = some (some (.slice none 0 0), 1, 24) := by kernel_rfl
set_option maxRecDepth 100000 in
theorem part_one (ps : List Part) : ∀ u ∈ ps.map partV, u.oneCell' = true := by
  intro u hu
  obtain ⟨b, _, rfl⟩ := List.mem_map.1 hu
  rfl

set_option maxHeartbeats 1000000 in
set_option maxRecDepth 100000 in
theorem keyed_any (n : Nat) (hn : n < 4294967296) (ps : List Part) (A : Option Addr) (c : Nat) (w : World) (hP : Parts w A ps) (hl : ps.length ≤ 1000) (htot : (catAll ps).length ≤ 1000000000) (hT : Tabs w) :
    Calls Tryz.prog 39 #[.int .u32 (n : Int), .slice A ps.length c] w fun e w' => e = .returned (.agg (vec 32 (bys (shaL (wideL n ++ catAll ps))))) ∧ Below w.heap.size w w' := by
  obtain ⟨i0, hi, hz0, hz1, hz2⟩ := info_parts row_info
  have Hi := Lib.hid (And.intro hi (And.intro hz0 (And.intro hz1 hz2)))
  obtain ⟨W0, hW0⟩ : ∃ W0, W0 = w.alloc (.cells (vec 32 (bys zb)) 30) := ⟨_, rfl⟩
  have hR0 : Arr W0 w.heap.size 30 32 (bys zb) := by rw [hW0]; exact Arr.new w _ _ _
  have hB0 : Below w.heap.size w W0 := by rw [hW0]; exact (Below.refl _ _).alloc (Nat.le_refl _) _
  have hs0 : W0.heap.size = w.heap.size + 1 := by rw [hW0]; simp
  obtain ⟨f, hf⟩ : ∃ f, f = shaL (wideL n ++ catAll ps) := ⟨_, rfl⟩
  have HF := Lib.hid hf
  have HA := Lib.hid (And.intro hP (And.intro hl (And.intro htot (And.intro hT (And.intro hR0 (And.intro hB0 hs0))))))
  have HW := Lib.hid hW0
  rw [← hf]
  clear hi hz0 hz1 hz2 hP hl htot hT hR0 hB0 hs0 hW0 hf
  go_enter Tryz.func39, Tryz.ntmps39
  go_upto_region 1 with fail
  rw [← HW.out]
  clear HW
  obtain ⟨hi0, hz0, hz1, hz2⟩ := Hi.out
  go_upto_region 2 with (first
    | (go_at_call 40
       refine (wide_any n hn _).mono ?_
       rintro e w1 ⟨v, rfl, hv1, hv2⟩
       obtain ⟨E, ce, rfl, hcap, hbase, hli⟩ := owns_cap hv1
       rw [wideL_length] at hcap hli
       have H1 := Lib.hid (And.intro hcap (And.intro hli (And.intro hv2 (World.ownsRow_lit (base := w1.heap.size) (e := 22) (size := 1) w1 #[.slice E (wideL n).length ce] 1 (Nat.le_refl _) (by decide) rfl))))
       clear hv1 hv2 hcap hbase hli)
    | (at_builtin
       refine wpList_app rfl (.tmp 8) (.tmp 9) 95 rfl w1.heap.size 22 i0 (.slice none 0 0) 24 Tryz.underlying95 hi0 hz0 hz1 hz2 rfl _ _ _ rfl H1.out.2.2.2 w.heap.size _ _ _ (ps.map partV) rfl
         ((HA.out.1.row.below (HA.out.2.2.2.2.2.1.trans (H1.out.2.2.1.mono HA.out.2.2.2.2.2.1.size))).alloc (Nat.le_trans HA.out.2.2.2.2.2.1.size H1.out.2.2.1.size) _) (part_one _) (by have := HA.out.2.1; unfold maxLen; omega) (by have := HA.out.2.1; omega) (by simp) ?_
       intro v' w3 h1 h2 h3
       rw [Nat.add_comm] at h1
       obtain ⟨E3, c3, rfl, hl3⟩ := owns_form h1
       have H3 := Lib.hid (And.intro hl3 h2)
       clear h1 h2 h3 hl3))
  have hcat : catAll ((E, ce, wideL n) :: ps) = wideL n ++ catAll ps := by simp [catAll]
  have hb1 : Below w.heap.size w w1 := HA.out.2.2.2.2.2.1.trans (H1.out.2.2.1.mono HA.out.2.2.2.2.2.1.size)
  have hs1 : w1.heap.size < w3.heap.size := by have := H3.out.2.size; simp at this; omega
  have hg : ∀ B, B ≤ w1.heap.size → ∀ X, Below B X w1 → Below B X w3 := fun B hB X hX => (hX.alloc hB _).grown H3.out.2 (by simp; omega) (fun k hk => by have hk2 : w1.heap.size = k := Option.some.inj hk; omega)
  have hb2 : Below w.heap.size w w3 := hg _ hb1.size _ hb1
  have hb3 : Below W0.heap.size W0 w3 := hg _ H1.out.2.2.1.size _ H1.out.2.2.1
  have hPa : Parts w3 E3 ((E, ce, wideL n) :: ps) := by
    refine ⟨H3.out.1, fun p hp => ?_, fun p hp => ?_⟩
    · rcases List.mem_cons.1 hp with rfl | hp
      · rw [wideL_length]
        exact Lies.wide (Lies.grown (H1.out.2.1.alloc (Nat.le_refl _) _) H3.out.2 (by simp) (fun k hk => by have hk2 : w1.heap.size = k := Option.some.inj hk; omega)) (by omega)
      · exact ((HA.out.1.each p hp).below hb2).wide hb2.size
    · rcases List.mem_cons.1 hp with rfl | hp
      · rw [wideL_length]; exact H1.out.1
      · exact HA.out.1.cap p hp
  have hS := sum_any ((E, ce, wideL n) :: ps) E3 c3 _ hPa (by have := HA.out.2.1; simp; omega) (by have := HA.out.2.2.1; rw [hcat, List.length_append, wideL_length]; omega) (tabs_below HA.out.2.2.2.1 hb2)
  rw [hcat, ← HF.out] at hS
  have HS := Lib.hid hS
  have H4 := Lib.hid (And.intro (HA.out.2.2.2.2.1.under hb3) hb2)
  clear hcat hb1 hs1 hg hb2 hb3 hPa hS hi0 hz0 hz1 hz2 H1 H3
  go_wp2_with (first
    | (go_at_call 61
       refine HS.out.mono ?_
       rintro e w4 ⟨rfl, hd⟩
       have H5 := Lib.hid (And.intro (H4.out.1.under hd) (H4.out.2.trans (hd.mono H4.out.2.size)))
       clear hd)
    | (refine wl_store rfl 30 _ _ rfl _ rfl _ rfl (run_store_arr H5.out.1 (bys f) info26 (bys_one _ _)) ?_))
  refine bodyPost_ret (results_cell1 rfl _ _ _ rfl (run_load_arr (H5.out.1.row _) Tryz.underlying30 rfl info26)) rfl ⟨rfl, ?_⟩
  exact below_row H5.out.2 (Nat.le_refl _) _
end Go.Proofs.YtfeiplaiekbdkaaGreatDoor
