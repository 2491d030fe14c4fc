/- strconv.FormatUint at base 16. -/
import Derived.Test.YtnjgneophllciaaDoorChecked
import Derived.Test.YtnjgneophllciaaDoorStr
import Derived.WalkSpells
import Derived.KernelRfl
namespace Go.Proofs.YtnjgneophllciaaDoor
open Go.RowKit

theorem isPow16 (w : World) : Calls Tryd.prog 47 #[.int .i64 16] w fun e w' => e = .returned (.bool true) ∧ w = w' := by
  have hb : bits .and .i64 16 15 = 0 := by decide +kernel
  go_enter Tryd.func47, Tryd.ntmps47
  go_wp2
  go_ret
  exact ⟨rfl, rfl⟩
/-- The one place of the table that is read. -/
def Tab16 (w : World) : Prop := w.cell? ⟨2, 15, none⟩ = some (.int .u8 4)
theorem tz16 (w : World) (hT : Tab16 w) : Calls Tryd.prog 50 #[.int .u64 16] w fun e w' => e = .returned (.int .i64 4) ∧ w = w' := by
  unfold Tab16 at hT
  have hb : bits .and .u64 16 (IntKind.u64.wrap (-16)) = 16 := by decide +kernel
  go_enter Tryd.func50, Tryd.ntmps50
  go_wp2
  go_ret
  exact ⟨rfl, rfl⟩
theorem tzs16 (w : World) (hT : Tab16 w) : Calls Tryd.prog 48 #[.int .u64 16] w fun e w' => e = .returned (.int .i64 4) ∧ w = w' := by
  have H := Lib.hid (tz16 w hT)
  clear hT
  go_enter Tryd.func48, Tryd.ntmps48
  go_wp2_with (go_at_call 50; refine H.out.mono ?_; rintro e w' ⟨rfl, rfl⟩)
  go_ret
  exact ⟨rfl, rfl⟩
theorem tab_alloc {w : World} (hT : Tab16 w) (o : Obj) : Tab16 (w.alloc o) :=
  (World.cell?_alloc_lt w o _ (World.block_lt_of_cell? w _ hT)).trans hT
/-- The call's own array: i noughts, then the digits that stand already. -/
def row65 (i : Nat) (ds : List UInt8) : Array Value := (u8s (List.replicate i 0 ++ ds)).toArray
theorem zero65 (w : World) : (zeroValue 68).run Tryd.prog w = .ok (.agg (row65 65 [])) w := by kernel_rfl
theorem row65_length (i : Nat) (ds : List UInt8) : (row65 i ds).size = i + ds.length := by simp [row65, u8s]
theorem row65_at (i : Nat) (ds : List UInt8) (j : Nat) (h : j < i) : (row65 i ds)[j]? = some (.int .u8 0) := by
  simp only [row65, u8s, List.map_append, List.getElem?_toArray]
  rw [List.getElem?_append_left (by simp; omega)]
  simp [h]
theorem row65_set (i : Nat) (ds : List UInt8) (d : UInt8) : (row65 (i + 1) ds).setIfInBounds i (.int .u8 (d.toNat : Int)) = row65 i (d :: ds) := by
  simp only [row65, u8s, List.setIfInBounds_toArray]
  congr 1
  rw [List.replicate_succ', List.append_assoc, List.map_append, List.set_append_right _ _ (by simp)]
  simp
def hexd (k : Nat) : UInt8 := if k < 10 then UInt8.ofNat (48 + k) else UInt8.ofNat (87 + k)
def digs : ByteArray := ⟨#[48, 49, 50, 51, 52, 53, 54, 55, 56, 57, 97, 98, 99, 100, 101, 102, 103, 104, 105, 106, 107, 108, 109, 110, 111, 112, 113, 114, 115, 116, 117, 118, 119, 120, 121, 122]⟩
theorem digs_at (j : Nat) (h : j < 16) (h2 : j < digs.size) : digs[j] = hexd j := by
  revert h2
  revert j
  decide
def hexF : Nat → Nat → List UInt8
  | 0, _ => []
  | f + 1, n => if n < 16 then [hexd n] else hexF f (n / 16) ++ [hexd (n % 16)]
def hexL (n : Nat) : List UInt8 := hexF 17 n
theorem hexF_fuel (f : Nat) : ∀ n, n < 16 ^ f → 1 ≤ f → hexF (f + 1) n = hexF f n := by
  induction f with
  | zero => intro n _ h; omega
  | succ f ih =>
    intro n hn _
    have e1 : hexF (f + 1 + 1) n = if n < 16 then [hexd n] else hexF (f + 1) (n / 16) ++ [hexd (n % 16)] := rfl
    have e2 : hexF (f + 1) n = if n < 16 then [hexd n] else hexF f (n / 16) ++ [hexd (n % 16)] := rfl
    rw [e1, e2]
    by_cases h : n < 16
    · rw [if_pos h, if_pos h]
    · rw [if_neg h, if_neg h]
      rw [Nat.pow_succ] at hn
      rw [ih (n / 16) (by omega) (by
        rcases f with _ | f
        · simp at hn; omega
        · omega)]
theorem hexL_small (n : Nat) (h : n < 16) : hexL n = [hexd n] := by rw [hexL, hexF, if_pos h]
theorem hexL_step (n : Nat) (h : ¬ n < 16) (h2 : n < 18446744073709551616) : hexL n = hexL (n / 16) ++ [hexd (n % 16)] := by
  rw [hexL, hexF, if_neg h, ← hexF_fuel 16 (n / 16) (by omega) (by omega)]; rfl

theorem slice65 (m : Nat) (hm : m ≤ 64) (g : Nat) (w : World) :
    (Instr.sliceAt 68 (.pointer (some ⟨g, 0, none⟩)) (some (.int .i64 (m : Int))) none none).run Tryd.prog w = .ok (.slice (some ⟨g, m, none⟩) (65 - m) (65 - m)) w := by
  have hal : Tryd.prog.arrayLen 68 = 65 := by kernel_rfl
  rw [run_sliceAt_array_l w 68 ⟨g, 0, none⟩ (by kernel_rfl) .i64 (m : Int) (by omega) (by rw [hal]; omega)]
  have hs : (sizeOf (Tryd.prog.elem 68)).run Tryd.prog w = .ok 1 w := by kernel_rfl
  rw [hs]
  simp only [Result.andThen_ok, slicedAt, hal, Int.toNat_natCast]
  rw [if_neg (by omega)]
  have e : ((⟨g, 0, none⟩ : Addr).add (m * 1)) = ⟨g, m, none⟩ := by
    unfold Addr.add; by_cases h0 : m = 0 <;> simp [h0]
  rw [e]
theorem row65_lies (w : World) (g m : Nat) (ds : List UInt8) (t : TypeId) (h : w.heap[g]? = some (.cells (row65 m ds) t (0, 0))) (n : Nat) (hn : ds.length = n) :
    Lies w (g + 1) 1 (some ⟨g, m, none⟩) n (u8s ds) := by
  refine ⟨by rw [u8s_length]; omega, fun _ => ⟨_, rfl, Nat.lt_succ_self _, fun j hj => ?_⟩⟩
  have e : ((⟨g, m, none⟩ : Addr).add j) = ⟨g, m + j, none⟩ := by
    unfold Addr.add; by_cases h0 : j = 0 <;> simp [h0]
  rw [e, cell_of_row w g (m + j) _ _ _ h]
  simp only [row65, u8s, List.map_append, List.getElem?_toArray]
  rw [List.getElem?_append_right (by simp)]
  simp at hj ⊢
  rw [List.getElem?_eq_getElem (by simpa [u8s] using hj)]
  simp
set_option maxHeartbeats 400000 in
set_option maxRecDepth 100000 in
theorem formatBits_any (n : Nat) (hn : n < 18446744073709551616) (w : World) (hT : Tab16 w) :
    Calls Tryd.prog 44 #[.slice none 0 0, .int .u64 (n : Int), .int .i64 16, .bool false, .bool false] w fun e w' => e = .returned (.tuple #[.slice none 0 0, .string (strOf (hexL n))]) ∧ Below w.heap.size w w' := by
  have hz := zero65
  have hn2 : (n : Int) ≤ 18446744073709551615 := by omega
  have Hn := Lib.hid hn
  clear hn
  go_enter Tryd.func44, Tryd.ntmps44
  go_wp2_with (first
    | (go_at_call 47; refine (isPow16 _).mono ?_; rintro e w' ⟨rfl, rfl⟩)
    | (go_at_call 48; refine (tzs16 _ (tab_alloc hT _)).mono ?_; rintro e w' ⟨rfl, rfl⟩))
  go_loopw [1, 13] (fun u i W => ∃ (k m : Nat) (ds : List UInt8), i = .int .i64 (m : Int) ∧ u = .int .u64 (k : Int) ∧ m + ds.length = 65 ∧ ds.length ≤ 15 ∧ k < 16 ^ (16 - ds.length) ∧ hexL n = hexL k ++ ds ∧ W.heap[w.heap.size]? = some (.cells (row65 m ds) 68 (0, 0)) ∧ Below w.heap.size w W) (fun u _ _ => (intOf u).toNat)
  case atStart => exact ⟨n, 65, [], rfl, rfl, by simp, by simp, by have := Hn.out; simpa using this, by simp, heap_alloc_new w _, (Below.refl _ _).alloc (Nat.le_refl _) _⟩
  case round =>
    obtain ⟨k, m, ds, rfl, rfl, hm, hd, hk, hh, hb, hbel⟩ := hrel
    obtain ⟨g, hg⟩ : ∃ g, g = w.heap.size := ⟨_, rfl⟩
    by_cases h16 : 16 ≤ k
    · have hk2 : k < 18446744073709551616 := Nat.lt_of_lt_of_le hk (Nat.le_trans (Nat.pow_le_pow_right (by decide) (Nat.sub_le _ _)) (by decide))
      have hd2 : ds.length ≤ 14 := by
        rcases Nat.lt_or_ge ds.length 15 with h | h
        · omega
        · have : ds.length = 15 := by omega
          rw [this] at hk
          simp at hk; omega
      obtain ⟨m', rfl⟩ : ∃ m', m = m' + 1 := ⟨m - 1, by omega⟩
      have hcell : wr.cell? ⟨w.heap.size, m', none⟩ = some (.int .u8 0) := by
        rw [cell_of_row wr _ m' _ _ _ hb]; exact row65_at _ _ _ (by omega)
      have hfr : wr.frozen? ⟨w.heap.size, m', none⟩ = false := by simp [World.frozen?, hb]
      have hand : bits .and .u64 (k : Int) 15 = ((k % 16 : Nat) : Int) := by
        have := u64_and_nat k 15 (by omega) (by decide)
        rw [nat_mask4] at this; exact this
      have Hh := Lib.hid (And.intro hh (And.intro hb hbel))
      have Hk := Lib.hid hk
      clear hh hb hbel hk
      go_wp2
      have hdig := digs_at (k % 16) (by omega) (by show _ < 36; omega)
      unfold digs at hdig
      refine ⟨⟨k / 16, m', hexd (k % 16) :: ds, rfl, by simp, by simp only [List.length_cons]; omega, by simp only [List.length_cons]; omega, ?_, ?_, ?_, ?_⟩, by simp only [intOf]; omega⟩
      · have h1 := Hk.out
        have e : 16 - ds.length = (16 - (hexd (k % 16) :: ds).length) + 1 := by simp only [List.length_cons]; omega
        rw [e, Nat.pow_succ] at h1
        omega
      · rw [Hh.out.1, hexL_step k (by omega) hk2]; simp
      · rw [hdig, ← row65_set]
        have h2 := Hh.out.2.1
        simp only [World.setCell, Array.getElem?_modify, h2]
        simp
      · exact Hh.out.2.2.setCell (Nat.le_refl _) _
    · have h16' : k < 16 := by omega
      obtain ⟨m', rfl⟩ : ∃ m', m = m' + 1 := ⟨m - 1, by omega⟩
      have hcell : wr.cell? ⟨w.heap.size, m', none⟩ = some (.int .u8 0) := by
        rw [cell_of_row wr _ m' _ _ _ hb]; exact row65_at _ _ _ (by omega)
      have hfr : wr.frozen? ⟨w.heap.size, m', none⟩ = false := by simp [World.frozen?, hb]
      have hsl := slice65 m' (by omega) w.heap.size
      have hdig := digs_at k h16' (by show _ < 36; omega)
      unfold digs at hdig
      have hb2 : (wr.setCell ⟨w.heap.size, m', none⟩ (.int .u8 ((hexd k).toNat : Int))).heap[w.heap.size]? = some (.cells (row65 m' (hexd k :: ds)) 68 (0, 0)) := by
        rw [← row65_set]
        simp only [World.setCell, Array.getElem?_modify, hb]
        simp
      have hcv := conv_str _ _ _ (65 - m') (65 - m') _ (row65_lies _ _ _ _ _ hb2 (65 - m') (by simp only [List.length_cons]; omega))
      have hres : hexL n = hexd k :: ds := by rw [hh, hexL_small k h16']; rfl
      rw [← hres] at hcv
      have Hbel := Lib.hid (hbel.setCell (p := ⟨w.heap.size, m', none⟩) (Nat.le_refl _) (.int .u8 ((hexd k).toNat : Int)))
      clear hh hb hbel hk hb2 hres
      go_wp2
      go_ret2
      exact ⟨rfl, Hbel.out⟩

theorem iformat_any (n : Nat) (hn : n < 18446744073709551616) (w : World) (hT : Tab16 w) :
    Calls Tryd.prog 39 #[.int .u64 (n : Int), .int .i64 16] w fun e w' => e = .returned (.string (strOf (hexL n))) ∧ Below w.heap.size w w' := by
  have H := Lib.hid (formatBits_any n hn w hT)
  clear hn hT
  go_enter Tryd.func39, Tryd.ntmps39
  go_wp2_with (go_at_call 44; refine H.out.mono ?_; rintro e w' ⟨rfl, hb⟩)
  go_ret
  exact ⟨rfl, hb⟩
theorem format_any (n : Nat) (hn : n < 18446744073709551616) (w : World) (hT : Tab16 w) :
    Calls Tryd.prog 35 #[.int .u64 (n : Int), .int .i64 16] w fun e w' => e = .returned (.string (strOf (hexL n))) ∧ Below w.heap.size w w' := by
  have H := Lib.hid (iformat_any n hn w hT)
  clear hn hT
  go_enter Tryd.func35, Tryd.ntmps35
  go_wp2_with (go_at_call 39; refine H.out.mono ?_; rintro e w' ⟨rfl, hb⟩)
  go_ret
  exact ⟨rfl, hb⟩
theorem hex_any (n : Nat) (hn : n < 18446744073709551616) (w : World) (hT : Tab16 w) :
    Calls Tryd.prog 28 #[.int .u64 (n : Int)] w fun e w' => e = .returned (.string (strOf (hexL n))) ∧ Below w.heap.size w w' := by
  have H := Lib.hid (format_any n hn w hT)
  clear hn hT
  go_enter Tryd.func28, Tryd.ntmps28
  go_wp2_with (go_at_call 35; refine H.out.mono ?_; rintro e w' ⟨rfl, hb⟩)
  go_ret
  exact ⟨rfl, hb⟩

def hexUp (n : Nat) : List UInt8 := if n < 16 then [] else hexL (n / 16)
theorem hexL_up (n : Nat) (hn : n < 18446744073709551616) : hexL n = hexUp n ++ [hexd (n % 16)] := by
  unfold hexUp
  by_cases h : n < 16
  · rw [if_pos h, hexL_small n h, Nat.mod_eq_of_lt h]; rfl
  · rw [if_neg h, hexL_step n h hn]
theorem hexUp_step (n k : Nat) (ds : List UInt8) (h : ¬ k < 16) (hk : k < 18446744073709551616) (hh : hexL n = hexUp k ++ ds) : hexL n = hexUp (k / 16) ++ hexd (k / 16 % 16) :: ds := by
  rw [hh, hexUp, if_neg h, hexL_up (k / 16) (by omega)]; simp
def digs16 : ByteArray := ⟨#[48, 49, 50, 51, 52, 53, 54, 55, 56, 57, 97, 98, 99, 100, 101, 102]⟩
theorem enc_at (j : Nat) (h : j < 16) (h2 : j < digs16.size) : Utf8.encode ((digs16[j].toNat : Nat) : Int) = strOf [hexd j] := by
  revert h2
  revert j
  decide +kernel
theorem enc_size (j : Nat) (h2 : j < digs16.size) : (Utf8.encode ((digs16[j].toNat : Nat) : Int)).size = 1 := by
  rw [enc_at j h2]; rfl
theorem strOf_append (a b : List UInt8) : strOf a ++ strOf b = strOf (a ++ b) := by
  simp [strOf, ByteArray.ext_iff]
theorem strOf_size (l : List UInt8) : (strOf l).size = l.length := by simp [strOf, ByteArray.size]
theorem hexF_length (f : Nat) : ∀ n, (hexF f n).length ≤ f := by
  induction f with
  | zero => intro n; simp [hexF]
  | succ f ih =>
    intro n
    rw [hexF]
    split
    · simp
    · have := ih (n / 16)
      simp only [List.length_append, List.length_cons, List.length_nil]; omega
set_option maxHeartbeats 400000 in
set_option maxRecDepth 100000 in
theorem rhex_any (n : Nat) (hn : n < 18446744073709551616) (w : World) :
    Calls Tryd.prog 29 #[.int .u64 (n : Int)] w fun e w' => e = .returned (.string (strOf (hexL n))) ∧ w = w' := by
  have hn2 : (n : Int) ≤ 18446744073709551615 := by omega
  have Hn := Lib.hid hn
  clear hn
  go_enter Tryd.func29, Tryd.ntmps29
  go_wp2
  go_loop [0, 3] (fun u s => ∃ (k : Nat) (ds : List UInt8), u = .int .u64 (k : Int) ∧ s = .string (strOf ds) ∧ k ≤ n ∧ hexL n = hexUp k ++ ds) (fun u _ => (intOf u).toNat)
  case atStart => exact ⟨n, [hexd (n % 16)], rfl, congrArg Value.string (enc_at _ (by omega) _), Nat.le_refl _, hexL_up n Hn.out⟩
  case round =>
    obtain ⟨k, ds, rfl, rfl, hk, hh⟩ := hrel
    have Hh := Lib.hid hh
    clear hh
    by_cases h16 : 16 ≤ k
    · have hs1 := enc_size
      unfold digs16 at hs1
      have hs2 := strOf_size ds
      have hs3 : ds.length ≤ 17 := by
        have h1 := hexF_length 17 n
        have h2 := Hh.out
        rw [hexL] at h2
        rw [h2, List.length_append] at h1
        omega
      go_wp2
      go_round
      case rel => exact ⟨k / 16, hexd (k / 16 % 16) :: ds, by go_num, by have he := enc_at (k / 16 % 16) (by omega) (by show _ < 16; omega); unfold digs16 at he; rw [he]; exact congrArg Value.string (strOf_append [_] ds), by omega, hexUp_step n k ds (by omega) (by have := Hn.out; omega) Hh.out⟩
      case measure => simp only [intOf]; omega
    · go_wp2
      go_ret
      have h1 := Hh.out
      rw [hexUp, if_pos (by omega)] at h1
      exact ⟨by rw [h1]; rfl, rfl⟩
end Go.Proofs.YtnjgneophllciaaDoor
