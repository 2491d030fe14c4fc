/- word.put and the four calls over it. -/
import Derived.Test.YtmcpmcicolpoeaaDoorNum
import Derived.Test.YtmcpmcicolpoeaaDoorCat
namespace Go.Proofs.YtmcpmcicolpoeaaDoor
open Go.RowKit

/-- Byte i of a number of so many bytes. -/
def putByte (o : Int) (m : Nat) (n i : Nat) : UInt8 := UInt8.ofNat (n / 2 ^ (shAt o i m).toNat % 256)
def numBytes (o : Int) (m : Nat) (n : Nat) : List UInt8 := (List.range m).map (putByte o m n)
def putAll (o : Int) (m : Nat) (ns : List Nat) : List UInt8 := (ns.map (numBytes o m)).flatten
set_option maxRecDepth 100000 in
theorem putAll_succ (o : Int) (m : Nat) (ns : List Nat) (k : Nat) (h : k < ns.length) : putAll o m (ns.take (k + 1)) = putAll o m (ns.take k) ++ numBytes o m ns[k] := by
  unfold putAll
  rw [List.take_succ_eq_append_getElem h, List.map_append, List.flatten_append]; simp
set_option maxRecDepth 100000 in
theorem numBytes_length (o : Int) (m n : Nat) : (numBytes o m n).length = m := by simp [numBytes]
set_option maxRecDepth 100000 in
theorem putAll_length (o : Int) (m : Nat) (ns : List Nat) : (putAll o m ns).length = m * ns.length := by
  induction ns with
  | nil => simp [putAll]
  | cons n ns ih =>
    have : putAll o m (n :: ns) = numBytes o m n ++ putAll o m ns := by simp [putAll]
    rw [this, List.length_append, ih, numBytes_length, List.length_cons, Nat.mul_succ, Nat.add_comm]
def firstBytes (o : Int) (m n j : Nat) : List UInt8 := (List.range j).map (putByte o m n)
set_option maxRecDepth 100000 in
theorem firstBytes_succ (o : Int) (m n j : Nat) : firstBytes o m n (j + 1) = firstBytes o m n j ++ [putByte o m n j] := by
  unfold firstBytes
  rw [List.range_succ, List.map_append]; rfl
set_option maxRecDepth 100000 in
theorem firstBytes_length (o : Int) (m n j : Nat) : (firstBytes o m n j).length = j := by simp [firstBytes]
set_option maxRecDepth 100000 in
theorem toNat_ofNat_mod (n : Nat) : ((UInt8.ofNat (n % 256)).toNat : Int) = ((n % 256 : Nat) : Int) := by
  rw [UInt8.toNat_ofNat']; omega
def u32s (xs : List Nat) : List Value := xs.map fun (x : Nat) => Value.int .u32 (x : Int)

set_option maxRecDepth 100000 in
theorem shr_byte32 (o : Int) (n i : Nat) (ho : o = 0 ∨ o = 1) (hi : i < 4) :
    IntKind.u8.wrap ((n : Int) / 2 ^ min (shAt o i 4).toNat 32) = ((putByte o 4 n i).toNat : Int) := by
  have hs : (shAt o i 4).toNat ≤ 32 := by rcases ho with rfl | rfl <;> simp only [shAt_low, shAt_high] <;> omega
  rw [Nat.min_eq_left hs, putByte, toNat_ofNat_mod, IntKind.wrap_u8]
  simp
set_option maxHeartbeats 400000 in
set_option maxRecDepth 100000 in
theorem put32_any (b : List UInt8) (ns : List Nat) (hns : ∀ n ∈ ns, n < 4294967296) (A D : Option Addr) (c d B : Nat) (o : Int) (ho : o = 0 ∨ o = 1) (w : World) (hB : B ≤ w.heap.size)
    (hb : Lies w B 1 A b.length (u8s b)) (hl : Lies w B 1 D ns.length (u32s ns)) (htot : b.length + 4 * ns.length ≤ 70368744177664) :
    Calls Tryd.prog 96 #[.slice A b.length c, .slice D ns.length d, .int .i64 o] w (Bytes w (b ++ putAll o 4 ns)) := by
  obtain ⟨i0, hi, hz0, hz1, hz2⟩ := info_parts u8_info
  have Hi := Lib.hid (And.intro hi (And.intro hz0 (And.intro hz1 hz2)))
  have HO := Lib.hid ho
  have Hb := Lib.hid hb
  have Hl := Lib.hid hl
  have Hns := Lib.hid hns
  clear hi hz0 hz1 hz2 hb hl ho hns
  obtain ⟨cur, hcur, hmk⟩ := make_u8 (4 * ns.length) (by omega) w
  have Hcur := Lib.hid hcur
  clear hcur
  have hmul : ((4 * ns.length : Nat) : Int) = 4 * (ns.length : Int) := by omega
  rw [hmul] at hmk
  clear hmul
  go_enter Tryd.func96, Tryd.ntmps96
  go_wp2_with (go_at_call 117; refine (size32_any _).mono ?_; rintro e w' ⟨rfl, rfl⟩)
  obtain ⟨W0, hW0⟩ : ∃ W0, W0 = w.alloc (.cells cur 5) := ⟨_, rfl⟩
  have hown0 : W0.ownsRow w.heap.size 5 1 (.slice (some ⟨w.heap.size, 0, none⟩) 0 (4 * ns.length)) 0 (u8s []) := by
    rw [hW0]; exact World.ownsRow_made w cur _ (Nat.le_refl _) (by unfold maxLen; omega) (by rw [Hcur.out, Nat.mul_one])
  have hbel0 : Below w.heap.size w W0 := by rw [hW0]; exact (Below.refl _ _).alloc (Nat.le_refl _) _
  rw [← hW0]
  clear hW0 hmk
  go_loopw [8, 20] (fun v j W => ∃ k : Nat, k ≤ ns.length ∧ j = .int .i64 k ∧ W.ownsRow w.heap.size 5 1 v (4 * k) (u8s (putAll o 4 (ns.take k))) ∧ Below w.heap.size w W) (fun _ i _ => ns.length - (intOf i).toNat)
  case atStart => exact ⟨0, Nat.zero_le _, rfl, hown0, hbel0⟩
  case round =>
    obtain ⟨k, hk, rfl, hown, hbel⟩ := hrel
    have Hown := Lib.hid hown
    have Hbel := Lib.hid hbel
    clear hown0 hbel0 hown hbel
    by_cases hlt : k < ns.length
    · obtain ⟨a, hx, rfl, hab, hc⟩ := ((Hl.out.wide hB).below Hbel.out).atMap hlt
      have hnb := Hns.out _ (List.getElem_mem hx)
      go_wp2
      obtain ⟨wo, rfl⟩ : ∃ wo : World, wo = wr := ⟨_, rfl⟩
      go_loopw [8, 25] (fun v j W => ∃ i : Nat, i ≤ 4 ∧ j = .int .i64 i ∧ W.ownsRow w.heap.size 5 1 v (4 * k + i) (u8s (putAll o 4 (ns.take k) ++ firstBytes o 4 ns[k] i)) ∧ Below w.heap.size w W) (fun _ i _ => 4 - (intOf i).toNat)
      case atStart => exact ⟨0, Nat.zero_le _, rfl, by simpa [firstBytes] using Hown.out, Hbel.out⟩
      case round =>
        obtain ⟨i, hi, rfl, hown, hbel⟩ := hrel
        have Hown2 := Lib.hid hown
        have Hbel2 := Lib.hid hbel
        clear hown hbel Hown Hbel hc
        by_cases hlt2 : i < 4
        · have hsh := shr_byte32 o ns[k] i HO.out hlt2
          have s5 : 0 ≤ shAt o i 4 := by rcases HO.out with rfl | rfl <;> simp only [shAt_low, shAt_high] <;> omega
          obtain ⟨hi0, hz0, hz1, hz2⟩ := Hi.out
          have hfin : ∀ (W1 : World) v' w', W1.heap.size = wr.heap.size + 1 → Below w.heap.size w W1 → w'.ownsRow w.heap.size 5 1 v' (4 * k + i + 1) (u8s (putAll o 4 (ns.take k) ++ firstBytes o 4 ns[k] i) ++ u8s [putByte o 4 ns[k] i]) → W1.grownBy w' u8.ownBlock → Below w.heap.size w w' ∧ w'.ownsRow w.heap.size 5 1 v' (4 * k + (i + 1)) (u8s (putAll o 4 (ns.take k) ++ firstBytes o 4 ns[k] (i + 1))) := by
            intro W1 v' w' hsz h0 h1 h2
            refine ⟨h0.grown h2 (by have := Hbel2.out.size; omega) (fun g hg => (Hown2.out.lt g hg).1), ?_⟩
            rw [firstBytes_succ, ← List.append_assoc, ← u8s_append]; exact h1
          have Hsz := Lib.hid Hbel2.out.size
          go_wp2_with (first
            | (go_at_call 118; refine (shift_any _ _ _ HO.out (by omega) (by omega) (by omega) _).mono ?_; rintro e w' ⟨rfl, rfl⟩)
            | (at_builtin; refine wpList_app rfl (.tmp 28) (.tmp 36) 22 rfl w.heap.size 5 i0 (.int .u8 0) 1 Tryd.underlying22 hi0 hz0 hz1 hz2 rfl _ _ _ rfl (Hown2.out.alloc _) _ _ _ _ (u8s [putByte o 4 ns[k] i]) rfl (lies_new _ _ _ _ _ rfl rfl) (u8s_one _) (by unfold maxLen; omega) (by omega) (by have := Hsz.out; simp; omega) ?_; intro v' w' h1 h2 h3))
          obtain ⟨f1, f2⟩ := hfin _ v' w' (by simp) (Hbel2.out.alloc Hsz.out _) h1 h2
          clear hfin hi0 hz0 hz1 hz2 h1 h2 h3 hsh s5
          go_roundw
          case rel => exact ⟨i + 1, by omega, by go_num, f2, f1⟩
          case measure => simp [intOf]; omega
        · obtain rfl : i = 4 := by omega
          have hown3 : wr.ownsRow w.heap.size 5 1 u8 (4 * (k + 1)) (u8s (putAll o 4 (ns.take (k + 1)))) := by rw [putAll_succ _ _ _ _ hx]; exact Hown2.out
          have Hown3 := Lib.hid hown3
          clear hown3
          go_wp2
          go_roundw
          case rel => exact ⟨k + 1, by omega, by go_num, Hown3.out, Hbel2.out⟩
          case measure => simp [intOf]; omega
    · obtain rfl : k = ns.length := by omega
      have h1 := Hown.out
      rw [List.take_length] at h1
      obtain ⟨E, c2, rfl, hl2⟩ := owns_form h1
      have Hown2 := Lib.hid h1
      have Hl2 := Lib.hid hl2
      clear h1 hl2
      have hlen : (putAll o 4 ns).length = 4 * ns.length := putAll_length _ _ _
      have L : ∀ W1, wr.heap.size ≤ W1.heap.size → Below wr.heap.size wr W1 → ∀ P, Lies W1 (W1.heap.size) 1 P 2 ([(A, c, b), (E, c2, putAll o 4 ns)].map partV) → ∀ c3, Calls Tryd.prog 54 #[.slice P 2 c3] W1 (Bytes W1 (b ++ putAll o 4 ns)) := by
        intro W1 hs1 hb1 P hP c3
        have hc := cat_any [(A, c, b), (E, c2, putAll o 4 ns)] P c3 W1.heap.size W1 (Nat.le_refl _) hP (by
          intro p hp
          simp only [List.mem_cons, List.not_mem_nil, or_false] at hp
          rcases hp with rfl | rfl
          · exact (((Hb.out.wide hB).below Hbel.out).wide Hbel.out.size).below hb1 |>.wide hs1
          · rw [← hlen] at Hl2; exact (Hl2.out.below hb1).wide hs1) (by simp [catAll, hlen]; omega) (by simp [maxLen])
        simpa [catAll] using hc
      have P0 : ∀ W1 : World, Lies (W1.alloc (.cells #[.slice A b.length c, .slice E (4 * ns.length) c2] 22)) (W1.alloc (.cells #[.slice A b.length c, .slice E (4 * ns.length) c2] 22)).heap.size 1 (some ⟨W1.heap.size, 0, none⟩) 2 ([(A, c, b), (E, c2, putAll o 4 ns)].map partV) := by
        intro W1
        have := lies_new W1 #[.slice A b.length c, .slice E (4 * ns.length) c2] 22 2 _ rfl rfl
        simpa [partV, hlen] using this
      have HL := Lib.hid L
      have HP := Lib.hid P0
      clear L P0 hlen
      go_wp2_with (go_at_call 54; refine (HL.out _ (by simp) ((Below.refl _ _).alloc (Nat.le_refl _) _) _ (HP.out _) _).mono ?_; rintro e w' ⟨v, rfl, hv1, hv2⟩)
      go_ret
      have hsz := Hbel.out.size
      exact ⟨_, rfl, owns_mono hv1 (by simp; omega), (Hbel.out.alloc hsz _).trans (hv2.mono (by simp; omega))⟩

set_option maxRecDepth 100000 in
theorem shr_byte64 (o : Int) (n i : Nat) (ho : o = 0 ∨ o = 1) (hi : i < 8) :
    IntKind.u8.wrap ((n : Int) / 2 ^ min (shAt o i 8).toNat 64) = ((putByte o 8 n i).toNat : Int) := by
  have hs : (shAt o i 8).toNat ≤ 64 := by rcases ho with rfl | rfl <;> simp only [shAt_low, shAt_high] <;> omega
  rw [Nat.min_eq_left hs, putByte, toNat_ofNat_mod, IntKind.wrap_u8]
  simp
set_option maxHeartbeats 400000 in
set_option maxRecDepth 100000 in
theorem put64_any (b : List UInt8) (ns : List Nat) (hns : ∀ n ∈ ns, n < 18446744073709551616) (A D : Option Addr) (c d B : Nat) (o : Int) (ho : o = 0 ∨ o = 1) (w : World) (hB : B ≤ w.heap.size)
    (hb : Lies w B 1 A b.length (u8s b)) (hl : Lies w B 1 D ns.length (u64s ns)) (htot : b.length + 8 * ns.length ≤ 70368744177664) :
    Calls Tryd.prog 119 #[.slice A b.length c, .slice D ns.length d, .int .i64 o] w (Bytes w (b ++ putAll o 8 ns)) := by
  obtain ⟨i0, hi, hz0, hz1, hz2⟩ := info_parts u8_info
  have Hi := Lib.hid (And.intro hi (And.intro hz0 (And.intro hz1 hz2)))
  have HO := Lib.hid ho
  have Hb := Lib.hid hb
  have Hl := Lib.hid hl
  have Hns := Lib.hid hns
  clear hi hz0 hz1 hz2 hb hl ho hns
  obtain ⟨cur, hcur, hmk⟩ := make_u8 (8 * ns.length) (by omega) w
  have Hcur := Lib.hid hcur
  clear hcur
  have hmul : ((8 * ns.length : Nat) : Int) = 8 * (ns.length : Int) := by omega
  rw [hmul] at hmk
  clear hmul
  go_enter Tryd.func119, Tryd.ntmps119
  go_wp2_with (go_at_call 126; refine (size64_any _).mono ?_; rintro e w' ⟨rfl, rfl⟩)
  obtain ⟨W0, hW0⟩ : ∃ W0, W0 = w.alloc (.cells cur 5) := ⟨_, rfl⟩
  have hown0 : W0.ownsRow w.heap.size 5 1 (.slice (some ⟨w.heap.size, 0, none⟩) 0 (8 * ns.length)) 0 (u8s []) := by
    rw [hW0]; exact World.ownsRow_made w cur _ (Nat.le_refl _) (by unfold maxLen; omega) (by rw [Hcur.out, Nat.mul_one])
  have hbel0 : Below w.heap.size w W0 := by rw [hW0]; exact (Below.refl _ _).alloc (Nat.le_refl _) _
  rw [← hW0]
  clear hW0 hmk
  go_loopw [8, 20] (fun v j W => ∃ k : Nat, k ≤ ns.length ∧ j = .int .i64 k ∧ W.ownsRow w.heap.size 5 1 v (8 * k) (u8s (putAll o 8 (ns.take k))) ∧ Below w.heap.size w W) (fun _ i _ => ns.length - (intOf i).toNat)
  case atStart => exact ⟨0, Nat.zero_le _, rfl, hown0, hbel0⟩
  case round =>
    obtain ⟨k, hk, rfl, hown, hbel⟩ := hrel
    have Hown := Lib.hid hown
    have Hbel := Lib.hid hbel
    clear hown0 hbel0 hown hbel
    by_cases hlt : k < ns.length
    · obtain ⟨a, hx, rfl, hab, hc⟩ := ((Hl.out.wide hB).below Hbel.out).atMap hlt
      have hnb := Hns.out _ (List.getElem_mem hx)
      go_wp2
      obtain ⟨wo, rfl⟩ : ∃ wo : World, wo = wr := ⟨_, rfl⟩
      go_loopw [8, 25] (fun v j W => ∃ i : Nat, i ≤ 8 ∧ j = .int .i64 i ∧ W.ownsRow w.heap.size 5 1 v (8 * k + i) (u8s (putAll o 8 (ns.take k) ++ firstBytes o 8 ns[k] i)) ∧ Below w.heap.size w W) (fun _ i _ => 8 - (intOf i).toNat)
      case atStart => exact ⟨0, Nat.zero_le _, rfl, by simpa [firstBytes] using Hown.out, Hbel.out⟩
      case round =>
        obtain ⟨i, hi, rfl, hown, hbel⟩ := hrel
        have Hown2 := Lib.hid hown
        have Hbel2 := Lib.hid hbel
        clear hown hbel Hown Hbel hc
        by_cases hlt2 : i < 8
        · have hsh := shr_byte64 o ns[k] i HO.out hlt2
          have s5 : 0 ≤ shAt o i 8 := by rcases HO.out with rfl | rfl <;> simp only [shAt_low, shAt_high] <;> omega
          obtain ⟨hi0, hz0, hz1, hz2⟩ := Hi.out
          have hfin : ∀ (W1 : World) v' w', W1.heap.size = wr.heap.size + 1 → Below w.heap.size w W1 → w'.ownsRow w.heap.size 5 1 v' (8 * k + i + 1) (u8s (putAll o 8 (ns.take k) ++ firstBytes o 8 ns[k] i) ++ u8s [putByte o 8 ns[k] i]) → W1.grownBy w' u8.ownBlock → Below w.heap.size w w' ∧ w'.ownsRow w.heap.size 5 1 v' (8 * k + (i + 1)) (u8s (putAll o 8 (ns.take k) ++ firstBytes o 8 ns[k] (i + 1))) := by
            intro W1 v' w' hsz h0 h1 h2
            refine ⟨h0.grown h2 (by have := Hbel2.out.size; omega) (fun g hg => (Hown2.out.lt g hg).1), ?_⟩
            rw [firstBytes_succ, ← List.append_assoc, ← u8s_append]; exact h1
          have Hsz := Lib.hid Hbel2.out.size
          go_wp2_with (first
            | (go_at_call 118; refine (shift_any _ _ _ HO.out (by omega) (by omega) (by omega) _).mono ?_; rintro e w' ⟨rfl, rfl⟩)
            | (at_builtin; refine wpList_app rfl (.tmp 28) (.tmp 36) 22 rfl w.heap.size 5 i0 (.int .u8 0) 1 Tryd.underlying22 hi0 hz0 hz1 hz2 rfl _ _ _ rfl (Hown2.out.alloc _) _ _ _ _ (u8s [putByte o 8 ns[k] i]) rfl (lies_new _ _ _ _ _ rfl rfl) (u8s_one _) (by unfold maxLen; omega) (by omega) (by have := Hsz.out; simp; omega) ?_; intro v' w' h1 h2 h3))
          obtain ⟨f1, f2⟩ := hfin _ v' w' (by simp) (Hbel2.out.alloc Hsz.out _) h1 h2
          clear hfin hi0 hz0 hz1 hz2 h1 h2 h3 hsh s5
          go_roundw
          case rel => exact ⟨i + 1, by omega, by go_num, f2, f1⟩
          case measure => simp [intOf]; omega
        · obtain rfl : i = 8 := by omega
          have hown3 : wr.ownsRow w.heap.size 5 1 u8 (8 * (k + 1)) (u8s (putAll o 8 (ns.take (k + 1)))) := by rw [putAll_succ _ _ _ _ hx]; exact Hown2.out
          have Hown3 := Lib.hid hown3
          clear hown3
          go_wp2
          go_roundw
          case rel => exact ⟨k + 1, by omega, by go_num, Hown3.out, Hbel2.out⟩
          case measure => simp [intOf]; omega
    · obtain rfl : k = ns.length := by omega
      have h1 := Hown.out
      rw [List.take_length] at h1
      obtain ⟨E, c2, rfl, hl2⟩ := owns_form h1
      have Hown2 := Lib.hid h1
      have Hl2 := Lib.hid hl2
      clear h1 hl2
      have hlen : (putAll o 8 ns).length = 8 * ns.length := putAll_length _ _ _
      have L : ∀ W1, wr.heap.size ≤ W1.heap.size → Below wr.heap.size wr W1 → ∀ P, Lies W1 (W1.heap.size) 1 P 2 ([(A, c, b), (E, c2, putAll o 8 ns)].map partV) → ∀ c3, Calls Tryd.prog 54 #[.slice P 2 c3] W1 (Bytes W1 (b ++ putAll o 8 ns)) := by
        intro W1 hs1 hb1 P hP c3
        have hc := cat_any [(A, c, b), (E, c2, putAll o 8 ns)] P c3 W1.heap.size W1 (Nat.le_refl _) hP (by
          intro p hp
          simp only [List.mem_cons, List.not_mem_nil, or_false] at hp
          rcases hp with rfl | rfl
          · exact (((Hb.out.wide hB).below Hbel.out).wide Hbel.out.size).below hb1 |>.wide hs1
          · rw [← hlen] at Hl2; exact (Hl2.out.below hb1).wide hs1) (by simp [catAll, hlen]; omega) (by simp [maxLen])
        simpa [catAll] using hc
      have P0 : ∀ W1 : World, Lies (W1.alloc (.cells #[.slice A b.length c, .slice E (8 * ns.length) c2] 22)) (W1.alloc (.cells #[.slice A b.length c, .slice E (8 * ns.length) c2] 22)).heap.size 1 (some ⟨W1.heap.size, 0, none⟩) 2 ([(A, c, b), (E, c2, putAll o 8 ns)].map partV) := by
        intro W1
        have := lies_new W1 #[.slice A b.length c, .slice E (8 * ns.length) c2] 22 2 _ rfl rfl
        simpa [partV, hlen] using this
      have HL := Lib.hid L
      have HP := Lib.hid P0
      clear L P0 hlen
      go_wp2_with (go_at_call 54; refine (HL.out _ (by simp) ((Below.refl _ _).alloc (Nat.le_refl _) _) _ (HP.out _) _).mono ?_; rintro e w' ⟨v, rfl, hv1, hv2⟩)
      go_ret
      have hsz := Hbel.out.size
      exact ⟨_, rfl, owns_mono hv1 (by simp; omega), (Hbel.out.alloc hsz _).trans (hv2.mono (by simp; omega))⟩
set_option maxRecDepth 100000 in
theorem putBe32_any (b : List UInt8) (ns : List Nat) (hns : ∀ n ∈ ns, n < 4294967296) (A D : Option Addr) (c d B : Nat) (w : World) (hB : B ≤ w.heap.size)
    (hb : Lies w B 1 A b.length (u8s b)) (hl : Lies w B 1 D ns.length (u32s ns)) (htot : b.length + 4 * ns.length ≤ 70368744177664) :
    Calls Tryd.prog 55 #[.slice A b.length c, .slice D ns.length d] w (Bytes w (b ++ putAll 0 4 ns)) := by
  have L := Lib.hid (put32_any b ns hns A D c d B 0 (by simp) w hB hb hl htot)
  clear hb hl hns htot
  go_enter Tryd.func55, Tryd.ntmps55
  go_wp2_with (go_at_call 96; refine L.out.mono ?_; rintro e w' ⟨v, rfl, hv1, hv2⟩)
  go_ret
  exact ⟨_, rfl, hv1, hv2⟩
set_option maxRecDepth 100000 in
theorem putBe64_any (b : List UInt8) (ns : List Nat) (hns : ∀ n ∈ ns, n < 18446744073709551616) (A D : Option Addr) (c d B : Nat) (w : World) (hB : B ≤ w.heap.size)
    (hb : Lies w B 1 A b.length (u8s b)) (hl : Lies w B 1 D ns.length (u64s ns)) (htot : b.length + 8 * ns.length ≤ 70368744177664) :
    Calls Tryd.prog 98 #[.slice A b.length c, .slice D ns.length d] w (Bytes w (b ++ putAll 0 8 ns)) := by
  have L := Lib.hid (put64_any b ns hns A D c d B 0 (by simp) w hB hb hl htot)
  clear hb hl hns htot
  go_enter Tryd.func98, Tryd.ntmps98
  go_wp2_with (go_at_call 119; refine L.out.mono ?_; rintro e w' ⟨v, rfl, hv1, hv2⟩)
  go_ret
  exact ⟨_, rfl, hv1, hv2⟩
end Go.Proofs.YtmcpmcicolpoeaaDoor
