/- Merged: Sort, Rev, Sift, Heap, Part, Part2, Pivot, St, Break, Pins, Pdq. -/
import Derived.Sort.WalkA
import Derived.Shelf.SlSortCmp.WholeK
import Derived.Sort.LotA
import Derived.Sort.WalkA6
import Derived.Sort.WalkB3
import Derived.Sort.LotB
import Derived.Sort.LotC
import Derived.OwnWalk
import Derived.Sort.AtCall
import Derived.Sort.LotD5
import Derived.Sort.LotD1
import Derived.Deep.RegionHeld
import Derived.Deep.CutBlock
import Derived.Sort.LotD2
import Derived.Deep.Cut
import Derived.Test.YtbemphfijkcbhaaColl9
import Derived.Test.YtbemphfijkcbhaaLay
/- slices.Sort at []uint64: rows of twelve or fewer (the insertion sort). -/
namespace Go.Proofs.Ytbemphfijkcbhaa
open Go.RowKit Go.Shelf Go.Lib Go.Sort Go.Proofs

theorem isNaN_any (x : Int) (w : World) : Calls Try.prog 97 #[.int .u64 x] w fun e w' => e = .returned (.bool false) ∧ w' = w := by
  go_enter Try.func97, Try.ntmps97
  go_wp2
  go_ret
  exact ⟨by simp, rfl⟩
def cmpN (x y : Int) : Int := if x < y then -1 else if y < x then 1 else 0
theorem isNaN64_any (x : Int) (w : World) : Calls Try.prog 97 #[.int .u64 x] w fun e w' => e = .returned (.bool false) ∧ w' = w := isNaN_any x w
theorem less_any (x y : Int) (w : World) : Calls Try.prog 87 #[.int .u64 x, .int .u64 y] w fun e w' => e = .returned (.bool (ltInt x y)) ∧ w' = w := by
  go_enter Try.func87, Try.ntmps87
  go_wp2_with (go_at_call 97; refine (isNaN_any _ _).mono ?_; rintro e w' ⟨rfl, rfl⟩)
  go_ret
  exact ⟨by simp [ltInt], rfl⟩
abbrev encU : Int → Value := Value.int .u64

set_option maxHeartbeats 4000000 in
set_option maxRecDepth 100000 in
theorem insert_any (blk off cap a b : Nat) (d : Array Int) (w : World) (hH : Holds encU w blk off d) (hab : a ≤ b) (hb : b ≤ d.size) (hsz : d.size < 4611686018427387904) :
    Calls Try.prog 81 #[.slice (some ⟨blk, off, none⟩) d.size cap, .int .i64 a, .int .i64 b] w fun e w' =>
      e = .returned (.tuple #[]) ∧ ∃ n, w' = putRow encU (Sort.ahead w n) blk off (Sort.insertionSort ltInt d a b) := by
  go_enter Try.func81, Try.ntmps81
  go_wp2
  go_loopw [6] (fun vi wr => ∃ (i n : Nat) (dk : Array Int), vi = .int .i64 i ∧ a < i ∧ i ≤ b + 1 ∧ dk.size = d.size ∧ wr = putRow encU (Sort.ahead w n) blk off dk ∧ Hid (insOuter ltInt a b i dk = insOuter ltInt a b (a + 1) d)) (fun vi _ => b + 1 - (intOf vi).toNat)
  case atStart => exact ⟨a + 1, 0, d, by go_num, by omega, by omega, rfl, (putRow_self _ _ _ _ _ hH).symm, Lib.hid rfl⟩
  case round =>
    obtain ⟨i, n, dk, rfl, hai, hib, hsk, hwr, HO⟩ := hrel
    by_cases hlt : i < b
    · go_wp2
      go_loopw [7] (fun vj wr2 => ∃ (j m : Nat) (dj : Array Int), vj = .int .i64 j ∧ a ≤ j ∧ j ≤ i ∧ dj.size = d.size ∧ wr2 = putRow encU (Sort.ahead w m) blk off dj ∧ Hid (insInner ltInt a j dj = insInner ltInt a i dk)) (fun vj _ => (intOf vj).toNat)
      case atStart => exact ⟨i, n, dk, rfl, by omega, Nat.le_refl _, hsk, rfl, Lib.hid rfl⟩
      case round =>
        obtain ⟨j, m, dj, rfl, haj, hji, hsj, hw2, HI⟩ := hrel
        obtain ⟨G, hG⟩ : ∃ G : Nat → Int, ∀ t, G t = dj[t]! := ⟨fun t => dj[t]!, fun _ => rfl⟩
        have hcw : ∀ t, t < d.size → wr.cell? ⟨blk, off + t, none⟩ = some (.int .u64 (G t)) := fun t ht => by
          rw [hw2, hG]; exact cell?_putRow _ _ _ _ d dj (holds_ahead _ _ _ _ _ _ hH) hsj t (by omega)
        have hfw : ∀ t, t < d.size → wr.frozen? ⟨blk, off + t, none⟩ = false := fun t ht => by
          rw [hw2, frozen?_putRow]; exact ((holds_ahead _ _ m _ _ _ hH) t ht).2
        have HW := Lib.hid hw2
        have HG := Lib.hid hG
        clear hw2 hG hH
        -- where the inner loop ends, the outer round does
        have OUT := Lib.hid (show (j ≤ a ∨ ltInt dj[j]! dj[j - 1]! = false) → ∀ q, ∃ (i' n' : Nat) (dk' : Array Int), Value.int .i64 ((i : Int) + 1) = .int .i64 (i' : Nat) ∧ a < i' ∧ i' ≤ b + 1 ∧ dk'.size = d.size ∧
            wr.drewN q = putRow encU (Sort.ahead w n') blk off dk' ∧ Hid (insOuter ltInt a b i' dk' = insOuter ltInt a b (a + 1) d) from fun hs q =>
          ⟨i + 1, m + q, dj, by go_num, by omega, by omega, hsj, by rw [HW.out]; exact putRow_drewN _ _ _ _ _ _ _, Lib.hid (by rw [← HO.out, insOuter_go _ _ _ _ _ hlt, ← HI.out, insInner_stop _ _ _ _ hs])⟩)
        go_wp2
        by_cases hja : a < j
        · go_quiet (first | (go_at_call 87; refine Calls.quiet_of_same (less_any _ _ _)))
          go_wp2
          · have hl : ltInt (G j) (G (j - 1)) = true := by assumption
            go_region
            all_goals go_wp2
            go_roundw
            case rel =>
              refine ⟨j - 1, m + (nq + 1), swp dj j (j - 1), by congr 1; omega, by omega, by omega, by rw [size_swp]; exact hsj, ?_, Lib.hid ?_⟩
              · rw [HW.out, HG.out, HG.out]
                exact swap_worldA _ w m (nq + 1) blk off dj j (j - 1) (by omega) (by omega)
              · rw [← HI.out, insInner_go ltInt a j dj hja (by rw [← HG.out, ← HG.out]; exact hl)]
            case measure => simp [intOf]; omega
          · have hl : ltInt (G j) (G (j - 1)) = false := by assumption
            go_roundw
            case rel => exact OUT.out (Or.inr (by rw [← HG.out, ← HG.out]; exact hl)) nq
            case measure => simp [intOf]; omega
        · go_quiet (first | (go_at_call 87; refine Calls.quiet_of_same (less_any _ _ _)))
          go_wp2
          go_roundw
          case rel => exact OUT.out (Or.inl (by omega)) nq
          case measure => simp [intOf]; omega
    · go_wp2
      go_end0
      exact ⟨rfl, n, by unfold Sort.insertionSort; rw [← HO.out, insOuter_stop _ _ _ _ _ hlt]⟩

/-- A row of the call's own with the numbers l. -/
def OwnN (w : World) (base : Nat) (v : Value) (l : List Nat) : Prop := w.ownsRow base 22 1 v l.length (u64s l)
theorem OwnN.below {w w' : World} {base : Nat} {v : Value} {l : List Nat} (h : OwnN w base v l) (hb : RowKit.Below w.heap.size w w') : OwnN w' base v l := by
  refine ⟨h.1, ?_⟩
  rcases h.2 with h2 | ⟨g, cap, cur, hv, hg, hh, r⟩
  · exact Or.inl h2
  · exact Or.inr ⟨g, cap, cur, hv, hg, (hb.block g (Array.getElem?_eq_some_iff.1 hh).1).trans hh, r⟩
def ints (l : List Nat) : List Int := l.map fun (n : Nat) => (n : Int)
theorem u64s_ints (l : List Nat) : u64s l = (ints l).map encU := by simp [u64s, ints]
/-- slices.Sort sorts every row of N numbers or fewer. -/
def SortsAt (N : Nat) : Prop := ∀ (l : List Nat) (base : Nat) (v : Value) (w : World), l.length ≤ N → base ≤ w.heap.size → OwnN w base v l →
  Calls Try.prog 63 #[v] w fun e w' => e = .returned (.tuple #[]) ∧ ∃ r : List Nat, r.Perm l ∧ r.Pairwise (· ≤ ·) ∧ OwnN w' base v r ∧ w.grownBy w' v.ownBlock

theorem holds_own {w : World} {g : Nat} {cur : Array Value} {l : List Int} (hb : w.heap[g]? = some (.cells cur 22 (0, 0))) (ht : cur.toList.take l.length = l.map encU) : Holds encU w g 0 l.toArray := by
  intro j hj
  have hj' : j < l.length := by simpa using hj
  refine ⟨?_, by simp [World.frozen?, hb]⟩
  have h1 : (cur.toList.take l.length)[j]? = (l.map encU)[j]? := by rw [ht]
  rw [List.getElem?_take_of_lt hj'] at h1
  simp only [World.cell?, hb, Nat.zero_add]
  simp only [Option.isSome_none, Bool.false_eq_true, if_false]
  rw [← Array.getElem?_toList, h1]
  simp [hj']
theorem heap_row {w : World} {g n : Nat} {cur : Array Value} {e : TypeId} {fr : Nat × Nat} (d : Array Int) (hb : w.heap[g]? = some (.cells cur e fr)) :
    (putRow encU (Sort.ahead w n) g 0 d).heap[g]? = some (.cells (putCells encU 0 d cur) e fr) := by
  simp [putRow, mapBlock, Sort.ahead, Array.getElem?_modify, hb, onCells]
theorem take_row (cur : Array Value) (l : List Int) (h : l.length ≤ cur.size) : (putCells encU 0 l.toArray cur).toList.take l.length = l.map encU := by
  apply List.ext_getElem?
  intro j
  by_cases hj : j < l.length
  · rw [List.getElem?_take_of_lt hj, Array.getElem?_toList]
    simp [putCells, hj, show j < cur.size by omega]
  · rw [List.getElem?_take_eq_none (by omega), List.getElem?_eq_none (by simp; omega)]
theorem grown_row {w : World} {g n : Nat} (d : Array Int) (os : Array Obj) : w.grownBy (grow (putRow encU (Sort.ahead w n) g 0 d) os) (some g) := by
  refine ⟨rfl, rfl, rfl, by simp, fun k hk hne => ?_⟩
  rw [heap_grow_old _ _ (by simpa using hk)]
  have : g ≠ k := fun e => hne (by rw [e])
  simp [putRow, mapBlock, Sort.ahead, Array.getElem?_modify, this]

theorem insert_nil (w : World) : Calls Try.prog 81 #[.slice none 0 0, .int .i64 0, .int .i64 0] w fun e w' => e = .returned (.tuple #[]) ∧ w' = w := by
  go_enter Try.func81, Try.ntmps81
  go_wp2
  go_loopw [6] (fun vi wr => vi = .int .i64 1 ∧ wr = w) (fun _ _ => 0)
  case atStart => exact ⟨rfl, rfl⟩
  case round =>
    obtain ⟨rfl, rfl⟩ := hrel
    go_wp2
    go_end0
    exact ⟨rfl, rfl⟩
set_option maxRecDepth 100000 in
theorem pdq_nil (lim : Int) (w : World) : Calls Try.prog 72 #[.slice none 0 0, .int .i64 0, .int .i64 0, .int .i64 lim] w fun e w' => e = .returned (.tuple #[]) ∧ w' = w := by
  go_enter Try.func72, Try.ntmps72
  go_wp2
  go_loopw [1, 2, 3, 8, 9] (fun s1 s2 s3 s8 s9 wr => s1 = .int .i64 0 ∧ s2 = .int .i64 0 ∧ s3 = .int .i64 lim ∧ s8 = .bool true ∧ s9 = .bool true ∧ wr = w) (fun _ _ _ _ _ _ => 0)
  case atStart => exact ⟨rfl, rfl, rfl, rfl, rfl, rfl⟩
  case round =>
    obtain ⟨rfl, rfl, rfl, rfl, rfl, rfl⟩ := hrel
    go_wp2_with (go_at_call 81; refine (insert_nil _).mono ?_; rintro e w' ⟨rfl, rfl⟩)
    refine bodyPost_ret (results_none rfl _ _ _) rfl ?_
    exact ⟨rfl, rfl⟩
set_option maxRecDepth 100000 in
theorem pdq_small (g cap : Nat) (lim : Int) (d : Array Int) (w : World) (hH : Holds encU w g 0 d) (hsz : d.size ≤ 12) :
    Calls Try.prog 72 #[.slice (some ⟨g, 0, none⟩) d.size cap, .int .i64 0, .int .i64 d.size, .int .i64 lim] w fun e w' => e = .returned (.tuple #[]) ∧ ∃ n, w' = putRow encU (Sort.ahead w n) g 0 (Sort.insertionSort ltInt d 0 d.size) := by
  have Hc := Lib.hid (insert_any g 0 cap 0 d.size d w hH (Nat.zero_le _) (Nat.le_refl _) (by omega))
  clear hH
  go_enter Try.func72, Try.ntmps72
  go_wp2
  go_loopw [1, 2, 3, 8, 9] (fun s1 s2 s3 s8 s9 wr => s1 = .int .i64 0 ∧ s2 = .int .i64 d.size ∧ s3 = .int .i64 lim ∧ s8 = .bool true ∧ s9 = .bool true ∧ wr = w) (fun _ _ _ _ _ _ => 0)
  case atStart => exact ⟨rfl, rfl, rfl, rfl, rfl, rfl⟩
  case round =>
    obtain ⟨rfl, rfl, rfl, rfl, rfl, rfl⟩ := hrel
    go_wp2_with (go_at_call 81; refine Hc.out.mono ?_; rintro e w' ⟨rfl, n, rfl⟩)
    refine bodyPost_ret (results_none rfl _ _ _) rfl ?_
    exact ⟨rfl, n, rfl⟩
theorem len_any (n : Nat) (hn : n ≤ 1000000) (w : World) : Calls Try.prog 73 #[.int .u64 (n : Int)] w fun e w' => (∃ l : Int, e = .returned (.int .i64 l)) ∧ w' = w :=
  (Any.bits_Len (SlLaysF0.n15.bits (P := Try.prog) (ρ := layF_ren) { layF with }) (n : Int) w (by omega) (by omega)).mono fun _ _ ⟨h1, h2⟩ => ⟨⟨_, h1⟩, h2⟩
theorem wrap_conv (n : Nat) (hn : n ≤ 1000000) : IntKind.u64.wrap (n : Int) = n := by simp [IntKind.wrap, IntKind.bits, IntKind.signed]; omega
theorem sort_nil (w : World) : Calls Try.prog 63 #[.slice none 0 0] w fun e w' => e = .returned (.tuple #[]) ∧ w' = w := by
  have hl := fun W => len_any 0 (by omega) W
  have Hl := Lib.hid hl
  clear hl
  go_enter Try.func63, Try.ntmps63
  go_wp2_with (first
    | (go_at_call 73; refine (Hl.out _).mono ?_; rintro e w' ⟨⟨n, rfl⟩, rfl⟩)
    | (go_at_call 72; refine (pdq_nil _ _).mono ?_; rintro e w' ⟨rfl, rfl⟩))
  go_end0
  exact ⟨rfl, rfl⟩
theorem sort_row (g cap : Nat) (d : Array Int) (w : World) (hsz : d.size ≤ 1000000) (F : World → Prop)
    (hp : ∀ lim : Int, Calls Try.prog 72 #[.slice (some ⟨g, 0, none⟩) d.size cap, .int .i64 0, .int .i64 d.size, .int .i64 lim] w fun e w' => e = .returned (.tuple #[]) ∧ F w') :
    Calls Try.prog 63 #[.slice (some ⟨g, 0, none⟩) d.size cap] w fun e w' => e = .returned (.tuple #[]) ∧ F w' := by
  have hl := fun W => len_any d.size hsz W
  have Hl := Lib.hid hl
  have hw := wrap_conv d.size hsz
  have HP := Lib.hid hp
  clear hl hp
  go_enter Try.func63, Try.ntmps63
  go_wp2_with (first
    | (go_at_call 73; refine (Hl.out _).mono ?_; rintro e w' ⟨⟨n, rfl⟩, rfl⟩)
    | (go_at_call 72; refine (HP.out _).mono ?_; rintro e w' ⟨rfl, hF⟩))
  go_end0
  exact ⟨rfl, hF⟩
/-- A row of ints that are numbers, sorted, is a sorted row of numbers. -/
theorem sorted_nat {l : List Nat} {d' : Array Int} (hp : PermIn 0 (ints l).toArray.size (ints l).toArray d') (hs : SortedIn ltInt 0 (ints l).toArray.size d') :
    ∃ r : List Nat, ints r = d'.toList ∧ r.Perm l ∧ r.Pairwise (· ≤ ·) := by
  obtain ⟨h1, _, h3⟩ := hp
  have e1 : (d'.extract 0 (ints l).toArray.size).toList = d'.toList := by rw [← h1]; simp
  have e2 : ((ints l).toArray.extract 0 (ints l).toArray.size).toList = ints l := by simp
  rw [e1, e2] at h3
  refine ⟨d'.toList.map Int.toNat, ?_, ?_, ?_⟩
  · unfold ints
    rw [List.map_map]
    conv => rhs; rw [← List.map_id d'.toList]
    refine List.map_congr_left fun x hx => ?_
    obtain ⟨n, _, rfl⟩ := List.mem_map.1 (h3.mem_iff.1 hx)
    simp
  · have := h3.map Int.toNat
    have e : (ints l).map Int.toNat = l := by simp [ints, List.map_map, Function.comp_def]
    rwa [e] at this
  · rw [List.pairwise_map, List.pairwise_iff_getElem]
    intro i j hi hj hij
    have := hs i j (Nat.zero_le _) hij (by rw [← h1]; simpa using hj)
    rw [getElem!_pos d' i (by simpa using hi), getElem!_pos d' j (by simpa using hj)] at this
    simp [ltInt] at this
    simp
    omega
theorem own_sorted {w : World} {base g cap n : Nat} {cur : Array Value} {l : List Nat} {d' : Array Int} {os : Array Obj} (hbase : base ≤ g) (hh : w.heap[g]? = some (.cells cur 22 (0, 0))) (hle : l.length ≤ cap) (hcap : cap ≤ maxLen) (hsz : cur.size = cap * 1)
    (hp : PermIn 0 (ints l).toArray.size (ints l).toArray d') (hs : SortedIn ltInt 0 (ints l).toArray.size d') :
    ∃ r : List Nat, r.Perm l ∧ r.Pairwise (· ≤ ·) ∧ OwnN (grow (putRow encU (Sort.ahead w n) g 0 d') os) base (.slice (some ⟨g, 0, none⟩) l.length cap) r ∧ w.grownBy (grow (putRow encU (Sort.ahead w n) g 0 d') os) (some g) := by
  obtain ⟨r, hr, hpr, hpw⟩ := sorted_nat hp hs
  have hl : r.length = l.length := hpr.length_eq
  have hg : g < w.heap.size := (Array.getElem?_eq_some_iff.1 hh).1
  refine ⟨r, hpr, hpw, ⟨by simp [u64s], .inr ⟨g, cap, putCells encU 0 d' cur, by rw [hl], hbase, ?_, by omega, hcap, ?_, ?_⟩⟩, ?_⟩
  · rw [heap_grow_old _ _ (by simp [putRow, mapBlock, Sort.ahead]; omega)]
    exact heap_row d' hh
  · simp [putCells, hsz]
  · have hd : d' = (ints r).toArray := by rw [hr]
    have := take_row cur (ints r) (by simp [ints, hsz]; omega)
    rw [hd, Nat.mul_one, u64s_ints]
    simpa [ints] using this
  · exact grown_row d' os
theorem sorts12 : SortsAt 12 := by
  intro l base v w hlen hbw hv
  rcases hv.2 with ⟨rfl, h0⟩ | ⟨g, cap, cur, rfl, hbase, hh, hle, hcap, hsz, ht⟩
  · obtain rfl : l = [] := List.eq_nil_of_length_eq_zero h0
    refine (sort_nil w).mono ?_
    rintro e w' ⟨rfl, rfl⟩
    exact ⟨rfl, [], List.Perm.refl _, List.Pairwise.nil, hv, World.grownBy.refl _ _⟩
  · have hil : (ints l).length = l.length := by simp [ints]
    have hH := holds_own (l := ints l) hh (by rw [hil, ← Nat.mul_one l.length, ht, u64s_ints])
    have hds : (ints l).toArray.size = l.length := by simp [ints]
    have hcon := sort_row g cap (ints l).toArray w (by omega) _ (fun lim => pdq_small g cap lim (ints l).toArray w hH (by omega))
    rw [hds] at hcon
    refine hcon.mono ?_
    rintro e w' ⟨rfl, n, rfl⟩
    have hI := insertionSort_holds swo_ltInt (ints l).toArray 0 (ints l).toArray.size (Nat.zero_le _) (Nat.le_refl _)
    obtain ⟨r, h1, h2, h3, h4⟩ := own_sorted (n := n) (os := #[]) hbase hh (by omega) hcap hsz hI.1 hI.2
    rw [grow_empty] at h3 h4
    rw [hds] at h3 h4
    exact ⟨rfl, r, h1, h2, h3, h4⟩
end Go.Proofs.Ytbemphfijkcbhaa
/- The library's sort at []uint64, part by part: what each makes of a row. A row of n numbers lies at (blk, off); 'wr = putRow encU (Sort.ahead w n) blk off dk': the world now, dk: what the row holds. -/
namespace Go.Proofs.Ytbemphfijkcbhaa
open Go.RowKit Go.Shelf Go.Lib Go.Sort Go.Proofs

/-- What a walk sees of the row: its numbers by name, readable and writable. -/
theorem row_view {blk off n : Nat} {d dk : Array Int} {w wr : World} (hH : Holds encU w blk off d) (hs : dk.size = d.size) (hw : wr = putRow encU (Sort.ahead w n) blk off dk) :
    ∃ G : Nat → Int, (∀ t, G t = dk[t]!) ∧ (∀ t, t < d.size → wr.cell? ⟨blk, off + t, none⟩ = some (.int .u64 (G t))) ∧ (∀ t, t < d.size → wr.frozen? ⟨blk, off + t, none⟩ = false) := by
  refine ⟨fun t => dk[t]!, fun _ => rfl, fun t ht => ?_, fun t ht => ?_⟩
  · rw [hw]; exact cell?_putRow _ _ _ _ d dk (holds_ahead _ _ _ _ _ _ hH) hs t (by omega)
  · rw [hw, frozen?_putRow]; exact ((holds_ahead _ _ n _ _ _ hH) t ht).2
theorem perm_swp {a b i j : Nat} {d dk : Array Int} (h : PermIn a b d dk) (hb : b ≤ d.size) (h1 : a ≤ i) (h2 : i < b) (h3 : a ≤ j) (h4 : j < b) : PermIn a b d (swp dk i j) :=
  permIn_trans d dk _ a b h (swp_permIn dk a b i j h1 h2 h3 h4 (by rw [h.1]; exact hb))

set_option maxHeartbeats 4000000 in
set_option maxRecDepth 100000 in
theorem rev_any (blk off cap a b : Nat) (d : Array Int) (w : World) (hH : Holds encU w blk off d) (hab : a < b) (hb : b ≤ d.size) (hsz : d.size < 1000000) :
    Calls Try.prog 85 #[.slice (some ⟨blk, off, none⟩) d.size cap, .int .i64 a, .int .i64 b] w fun e w' =>
      e = .returned (.tuple #[]) ∧ ∃ n d', PermIn a b d d' ∧ w' = putRow encU (Sort.ahead w n) blk off d' := by
  go_enter Try.func85, Try.ntmps85
  go_wp2
  go_loopw [6, 7] (fun vi vj wr => ∃ (i j n : Nat) (dk : Array Int), vi = .int .i64 i ∧ vj = .int .i64 j ∧ a ≤ i ∧ j < b ∧ i ≤ b ∧ Hid (PermIn a b d dk) ∧ Hid (wr = putRow encU (Sort.ahead w n) blk off dk)) (fun _ vj _ => (intOf vj).toNat)
  case atStart => exact ⟨a, b - 1, 0, d, rfl, by go_num, Nat.le_refl _, by omega, by omega, Lib.hid (permIn_refl d a b), Lib.hid (putRow_self _ _ _ _ _ hH).symm⟩
  case round =>
    obtain ⟨i, j, n, dk, rfl, rfl, hai, hjb, hib, HP, HW⟩ := hrel
    have hsk := HP.out.1
    obtain ⟨G, hG, hcw, hfw⟩ := row_view hH hsk HW.out
    have HG := Lib.hid hG
    clear hG hH
    by_cases hlt : i < j
    · go_wp2
      go_region
      all_goals go_wp2
      go_roundw
      case rel =>
        refine ⟨i + 1, j - 1, n + 1, swp dk i j, by go_num, by go_num, by omega, by omega, by omega, Lib.hid (perm_swp HP.out hb hai (by omega) (by omega) hjb), Lib.hid ?_⟩
        rw [HW.out, HG.out, HG.out]
        exact swap_worldA _ w n 1 blk off dk i j (by omega) (by omega)
      case measure => simp [intOf]; omega
    · go_wp2
      go_end0
      exact ⟨rfl, n, dk, HP.out, HW.out⟩
end Go.Proofs.Ytbemphfijkcbhaa
/- The heap. -/
namespace Go.Proofs.Ytbemphfijkcbhaa
open Go.RowKit Go.Shelf Go.Lib Go.Sort Go.Proofs

/-- Draws alone: the row is seen as it was. -/
theorem drew_view {blk off n q m : Nat} {dk : Array Int} {w wr : World} {G : Nat → Int} (hW : Hid (wr = putRow encU (Sort.ahead w n) blk off dk)) (hc : ∀ t, t < m → wr.cell? ⟨blk, off + t, none⟩ = some (.int .u64 (G t))) (hf : ∀ t, t < m → wr.frozen? ⟨blk, off + t, none⟩ = false) :
    ∃ W, W = wr.drewN q ∧ Hid (W = putRow encU (Sort.ahead w (n + q)) blk off dk) ∧ (∀ t, t < m → W.cell? ⟨blk, off + t, none⟩ = some (.int .u64 (G t))) ∧ (∀ t, t < m → W.frozen? ⟨blk, off + t, none⟩ = false) :=
  ⟨_, rfl, Lib.hid (by rw [hW.out]; exact putRow_drewN _ _ _ _ _ _ _), hc, hf⟩

set_option maxHeartbeats 4000000 in
set_option maxRecDepth 100000 in
theorem sift_any (blk off cap lo hi F : Nat) (d : Array Int) (w : World) (hH : Holds encU w blk off d) (hlo : lo ≤ hi) (hb : F + hi ≤ d.size) (hsz : d.size < 1000000) :
    Calls Try.prog 92 #[.slice (some ⟨blk, off, none⟩) d.size cap, .int .i64 lo, .int .i64 hi, .int .i64 F] w fun e w' =>
      e = .returned (.tuple #[]) ∧ ∃ n, w' = putRow encU (Sort.ahead w n) blk off (siftDown ltInt hi F lo d) := by
  go_enter Try.func92, Try.ntmps92
  go_wp2
  go_loopw [8] (fun vr wr => ∃ (root n : Nat) (dk : Array Int), vr = .int .i64 root ∧ root ≤ hi ∧ dk.size = d.size ∧ Hid (siftDown ltInt hi F root dk = siftDown ltInt hi F lo d) ∧ Hid (wr = putRow encU (Sort.ahead w n) blk off dk)) (fun vr _ => hi - (intOf vr).toNat)
  case atStart => exact ⟨lo, 0, d, rfl, hlo, rfl, Lib.hid rfl, Lib.hid (putRow_self _ _ _ _ _ hH).symm⟩
  case round =>
    obtain ⟨root, n, dk, rfl, hrh, hsk, HP, HW⟩ := hrel
    obtain ⟨G, hG, hcw, hfw⟩ := row_view hH hsk HW.out
    have HG := Lib.hid hG
    clear hG hH
    by_cases h0 : 2 * root + 1 < hi
    · have hz0 : ¬ ((hi : Int) ≤ 2 * (root : Int) + 1) := by omega
      by_cases h1 : 2 * root + 2 < hi
      · have hz1 : 2 * (root : Int) + 1 + 1 < (hi : Int) := by omega
        go_wp2_with fail
        go_big_quiet (first | (go_at_call 87; refine Calls.quiet_of_same (less_any _ _ _)))
        go_wp2_with fail
        · have hL : ltInt (G (F + 2 * root + 1)) (G (F + 2 * root + 2)) = true := by assumption
          have HL := Lib.hid hL
          clear hL
          revert nq; intro nq1
          obtain ⟨W2, hWq, HW2, hcw2, hfw2⟩ := drew_view (q := nq1) HW hcw hfw
          rw [← hWq]
          clear hcw hfw hWq
          go_big_quiet (first | (go_at_call 87; refine Calls.quiet_of_same (less_any _ _ _)))
          go_wp2_with fail
          · have hS : ltInt (G (F + root)) (G (F + 2 * root + 2)) = false := by
              have : (!ltInt (G (F + root)) (G (F + 2 * root + 2))) = true := by assumption
              simpa using this
            ((try simp only [Exit.inBlock, Exit.then]); refine bodyPost_ret (results_none rfl _ _ _) rfl ?_)
            refine ⟨rfl, n + nq1 + nq, ?_⟩
            rw [← HP.out, sd_right_stop ltInt dk h1 (by rw [← HG.out, ← HG.out]; exact HL.out) (by rw [← HG.out, ← HG.out]; exact hS), HW2.out]
            exact putRow_drewN _ _ _ _ _ _ _
          · have hS : ltInt (G (F + root)) (G (F + 2 * root + 2)) = true := by
              have : (!ltInt (G (F + root)) (G (F + 2 * root + 2))) = false := by assumption
              simpa using this
            have HS := Lib.hid hS
            clear hS
            obtain ⟨W3, hWq, HW3, hcw3, hfw3⟩ := drew_view (q := nq) HW2 hcw2 hfw2
            rw [← hWq]
            clear hcw2 hfw2 hWq
            go_region
            all_goals go_wp2
            go_roundw
            case rel =>
              refine ⟨2 * root + 2, n + nq1 + nq + 1, swp dk (F + root) (F + 2 * root + 2), by go_num, by omega, by rw [size_swp]; exact hsk, Lib.hid ?_, Lib.hid ?_⟩
              · rw [← HP.out, sd_right_go ltInt dk h1 (by rw [← HG.out, ← HG.out]; exact HL.out) (by rw [← HG.out, ← HG.out]; exact HS.out)]; simp only [Nat.add_assoc]
              · rw [HW3.out, HG.out, HG.out]
                exact swap_worldA _ w (n + nq1 + nq) 1 blk off dk (F + root) (F + 2 * root + 2) (by omega) (by omega)
            case measure => simp [intOf]; omega
        · have hL : ltInt (G (F + 2 * root + 1)) (G (F + 2 * root + 2)) = false := by assumption
          have HL := Lib.hid hL
          clear hL
          revert nq; intro nq1
          obtain ⟨W2, hWq, HW2, hcw2, hfw2⟩ := drew_view (q := nq1) HW hcw hfw
          rw [← hWq]
          clear hcw hfw hWq
          go_big_quiet (first | (go_at_call 87; refine Calls.quiet_of_same (less_any _ _ _)))
          go_wp2_with fail
          · have hS : ltInt (G (F + root)) (G (F + 2 * root + 1)) = false := by
              have : (!ltInt (G (F + root)) (G (F + 2 * root + 1))) = true := by assumption
              simpa using this
            ((try simp only [Exit.inBlock, Exit.then]); refine bodyPost_ret (results_none rfl _ _ _) rfl ?_)
            refine ⟨rfl, n + nq1 + nq, ?_⟩
            rw [← HP.out, sd_left_stop ltInt dk h0 (fun _ => (by rw [← HG.out, ← HG.out]; exact HL.out)) (by rw [← HG.out, ← HG.out]; exact hS), HW2.out]
            exact putRow_drewN _ _ _ _ _ _ _
          · have hS : ltInt (G (F + root)) (G (F + 2 * root + 1)) = true := by
              have : (!ltInt (G (F + root)) (G (F + 2 * root + 1))) = false := by assumption
              simpa using this
            have HS := Lib.hid hS
            clear hS
            obtain ⟨W3, hWq, HW3, hcw3, hfw3⟩ := drew_view (q := nq) HW2 hcw2 hfw2
            rw [← hWq]
            clear hcw2 hfw2 hWq
            go_region
            all_goals go_wp2
            go_roundw
            case rel =>
              refine ⟨2 * root + 1, n + nq1 + nq + 1, swp dk (F + root) (F + 2 * root + 1), by go_num, by omega, by rw [size_swp]; exact hsk, Lib.hid ?_, Lib.hid ?_⟩
              · rw [← HP.out, sd_left_go ltInt dk h0 (fun _ => (by rw [← HG.out, ← HG.out]; exact HL.out)) (by rw [← HG.out, ← HG.out]; exact HS.out)]; simp only [Nat.add_assoc]
              · rw [HW3.out, HG.out, HG.out]
                exact swap_worldA _ w (n + nq1 + nq) 1 blk off dk (F + root) (F + 2 * root + 1) (by omega) (by omega)
            case measure => simp [intOf]; omega
      · have hz1 : decide (2 * (root : Int) + 1 + 1 < (hi : Int)) = false := decide_eq_false (by omega)
        have hz2 : 2 * (root : Int) + 1 + 1 ≤ 1000001 := by omega
        go_wp2_with fail
        go_big_quiet (first | (go_at_call 87; refine Calls.quiet_of_same (less_any _ _ _)))
        go_wp2_with fail
        clear hz1 hz2
        revert nq; intro nq1
        obtain ⟨W2, hWq, HW2, hcw2, hfw2⟩ := drew_view (q := nq1) HW hcw hfw
        rw [← hWq]
        clear hcw hfw hWq
        go_big_quiet (first | (go_at_call 87; refine Calls.quiet_of_same (less_any _ _ _)))
        go_wp2_with fail
        · have hS : ltInt (G (F + root)) (G (F + 2 * root + 1)) = false := by
            have : (!ltInt (G (F + root)) (G (F + 2 * root + 1))) = true := by assumption
            simpa using this
          ((try simp only [Exit.inBlock, Exit.then]); refine bodyPost_ret (results_none rfl _ _ _) rfl ?_)
          refine ⟨rfl, n + nq1 + nq, ?_⟩
          rw [← HP.out, sd_left_stop ltInt dk h0 (fun h => absurd h h1) (by rw [← HG.out, ← HG.out]; exact hS), HW2.out]
          exact putRow_drewN _ _ _ _ _ _ _
        · have hS : ltInt (G (F + root)) (G (F + 2 * root + 1)) = true := by
            have : (!ltInt (G (F + root)) (G (F + 2 * root + 1))) = false := by assumption
            simpa using this
          have HS := Lib.hid hS
          clear hS
          obtain ⟨W3, hWq, HW3, hcw3, hfw3⟩ := drew_view (q := nq) HW2 hcw2 hfw2
          rw [← hWq]
          clear hcw2 hfw2 hWq
          go_region
          all_goals go_wp2
          go_roundw
          case rel =>
            refine ⟨2 * root + 1, n + nq1 + nq + 1, swp dk (F + root) (F + 2 * root + 1), by go_num, by omega, by rw [size_swp]; exact hsk, Lib.hid ?_, Lib.hid ?_⟩
            · rw [← HP.out, sd_left_go ltInt dk h0 (fun h => absurd h h1) (by rw [← HG.out, ← HG.out]; exact HS.out)]; simp only [Nat.add_assoc]
            · rw [HW3.out, HG.out, HG.out]
              exact swap_worldA _ w (n + nq1 + nq) 1 blk off dk (F + root) (F + 2 * root + 1) (by omega) (by omega)
          case measure => simp [intOf]; omega
    · have hz0 : (hi : Int) ≤ 2 * (root : Int) + 1 := by omega
      go_wp2
      go_end0
      exact ⟨rfl, n, by rw [← HP.out, sd_end ltInt dk (by omega)]; exact HW.out⟩
end Go.Proofs.Ytbemphfijkcbhaa
/- The heap: the sort. -/
namespace Go.Proofs.Ytbemphfijkcbhaa
open Go.RowKit Go.Shelf Go.Lib Go.Sort Go.Proofs

theorem row_then {blk off n m : Nat} {dk d2 : Array Int} {w wr W : World} (hW : wr = putRow encU (Sort.ahead w n) blk off dk) (h2 : W = putRow encU (Sort.ahead wr m) blk off d2) (hs : d2.size = dk.size) : W = putRow encU (Sort.ahead w (n + m)) blk off d2 := by
  rw [h2, hW]
  exact putRow_ahead_putRow _ _ _ _ _ _ _ _ hs
theorem row_holds {blk off n : Nat} {d dk : Array Int} {w wr : World} (hH : Holds encU w blk off d) (hs : dk.size = d.size) (hW : wr = putRow encU (Sort.ahead w n) blk off dk) : Holds encU wr blk off dk := by
  rw [hW]; exact holds_putRow encU _ blk off d dk (holds_ahead encU w n blk off d hH) hs
theorem sift_size (hi F root : Nat) (d : Array Int) : (siftDown ltInt hi F root d).size = d.size := size_siftDown ltInt hi F _ root d (Nat.le_refl _)

set_option maxHeartbeats 4000000 in
set_option maxRecDepth 100000 in
theorem heap_any (blk off cap a N : Nat) (d : Array Int) (w : World) (hH : Holds encU w blk off d) (hN : 0 < N) (hb : a + N ≤ d.size) (hsz : d.size < 1000000) :
    Calls Try.prog 82 #[.slice (some ⟨blk, off, none⟩) d.size cap, .int .i64 a, .int .i64 ((a : Int) + N)] w fun e w' =>
      e = .returned (.tuple #[]) ∧ ∃ n, w' = putRow encU (Sort.ahead w n) blk off (heapPop ltInt a N (heapBuild ltInt N a ((N - 1) / 2 + 1) d)) := by
  have hst : ((N : Int) - 1).tdiv 2 = (((N - 1) / 2 : Nat) : Int) := by rw [Int.tdiv_eq_ediv_of_nonneg (by omega)]; omega
  obtain ⟨M, hM⟩ : ∃ M, M = (N - 1) / 2 := ⟨_, rfl⟩
  rw [← hM] at hst ⊢
  have hMN : M + 1 ≤ N := by omega
  have HH := Lib.hid hH
  have HM := Lib.hid hM
  clear hM hH
  go_enter Try.func82, Try.ntmps82
  go_wp2
  clear hst
  simp only [show ((a : Int) + N - a) = N from by omega]
  go_loopw [9] (fun vi wr => ∃ (k n : Nat) (dk : Array Int), vi = .int .i64 ((k : Int) - 1) ∧ k ≤ N ∧ dk.size = d.size ∧ Hid (heapBuild ltInt N a k dk = heapBuild ltInt N a (M + 1) d) ∧ Hid (wr = putRow encU (Sort.ahead w n) blk off dk)) (fun vi _ => (intOf vi + 1).toNat)
  case atStart => exact ⟨M + 1, 0, d, by congr 1; have := HM.out; omega, hMN, rfl, Lib.hid rfl, Lib.hid (putRow_self _ _ _ _ _ HH.out).symm⟩
  case round =>
    obtain ⟨k, n, dk, rfl, hk, hsk, HP, HW⟩ := hrel
    rcases k with _ | k
    · rw [show (((0 : Nat) : Int) - 1) = -1 from rfl]
      go_wp2
      go_loopw [10] (fun vi wr2 => ∃ (k n : Nat) (dj : Array Int), vi = .int .i64 ((k : Int) - 1) ∧ k ≤ N ∧ dj.size = d.size ∧ Hid (heapPop ltInt a k dj = heapPop ltInt a N dk) ∧ Hid (wr2 = putRow encU (Sort.ahead w n) blk off dj)) (fun vi _ => (intOf vi + 1).toNat)
      case atStart => exact ⟨N, n, dk, rfl, Nat.le_refl _, hsk, Lib.hid rfl, HW⟩
      case round =>
        obtain ⟨k, n2, dj, rfl, hk2, hsj, HP2, HW2⟩ := hrel
        rcases k with _ | k
        · go_wp2
          go_end0
          exact ⟨rfl, n2, by rw [HW2.out, ← HP.out]; simp only [heapBuild]; rw [← HP2.out]; rfl⟩
        · rw [show (((k + 1 : Nat) : Int) - 1) = (k : Int) by omega]
          obtain ⟨G, hG, hcw, hfw⟩ := row_view HH.out hsj HW2.out
          have HG := Lib.hid hG
          clear hG
          have hs2 : (swp dj a (a + k)).size = d.size := by rw [size_swp]; exact hsj
          have hcon := fun (W : World) (hW : W = putRow encU (Sort.ahead w (n2 + 1)) blk off (swp dj a (a + k))) => sift_any blk off cap 0 k a (swp dj a (a + k)) W (row_holds HH.out hs2 hW) (Nat.zero_le _) (by omega) (by omega)
          rw [hs2] at hcon
          have HC := Lib.hid hcon
          have hsw := swap_worldA encU w n2 1 blk off dj a (a + k) (by omega) (by omega)
          rw [← HW2.out, ← HG.out, ← HG.out] at hsw
          have HSW := Lib.hid hsw
          clear hcon hsw
          by_cases hk0 : k = 0
          · subst hk0
            have HS0 := Lib.hid hs2
            clear hs2
            go_wp2
            go_region
            all_goals go_wp2_with (go_at_call 92; refine (HC.out _ HSW.out).mono ?_; rintro e w2 ⟨rfl, m, hw2⟩; have H2 := Lib.hid (row_then HSW.out hw2 (sift_size _ _ _ _)); clear hw2)
            go_roundw
            case rel => exact ⟨0, _, _, rfl, by omega, by rw [sift_size]; exact HS0.out, Lib.hid (by rw [← HP2.out]; rfl), H2⟩
            case measure => simp [intOf]
          · have hak : a + k < d.size := by omega
            have hne : 0 < k := by omega
            go_wp2
            go_region
            all_goals go_wp2_with (go_at_call 92; refine (HC.out _ HSW.out).mono ?_; rintro e w2 ⟨rfl, m, hw2⟩; have H2 := Lib.hid (row_then HSW.out hw2 (sift_size _ _ _ _)); clear hw2)
            go_roundw
            case rel => exact ⟨k, _, _, rfl, by omega, by rw [sift_size]; exact hs2, Lib.hid (by rw [← HP2.out]; rfl), H2⟩
            case measure => simp [intOf]
    · rw [show (((k + 1 : Nat) : Int) - 1) = (k : Int) by omega]
      have hcon := sift_any blk off cap k N a dk wr (row_holds HH.out hsk HW.out) (by omega) (by omega) (by omega)
      rw [hsk] at hcon
      have HC := Lib.hid hcon
      clear hcon
      go_wp2_with (go_at_call 92; refine HC.out.mono ?_; rintro e w2 ⟨rfl, m, hw2⟩; have H2 := Lib.hid (row_then HW.out hw2 (sift_size _ _ _ _)); clear hw2)
      go_roundw
      case rel => exact ⟨k, _, _, rfl, by omega, by rw [sift_size]; exact hsk, Lib.hid (by rw [← HP.out]; rfl), H2⟩
      case measure => simp [intOf]
end Go.Proofs.Ytbemphfijkcbhaa
/- The partitions. -/
namespace Go.Proofs.Ytbemphfijkcbhaa
open Go.RowKit Go.Shelf Go.Lib Go.Sort Go.Proofs

theorem swp_at {d : Array Int} {i j : Nat} (hi : i < d.size) (hj : j < d.size) (k : Nat) : (swp d i j)[k]! = if k = j then d[i]! else if k = i then d[j]! else d[k]! := swp_get d hi hj k
/-- What partitionEqual has so far: left of i nothing that p is less than, right of j all such. -/
structure PE (a b : Nat) (d : Array Int) (p : Int) (i j : Nat) (dk : Array Int) : Prop where
  perm : PermIn a b d dk
  piv : dk[a]! = p
  left : ∀ t, a ≤ t → t < i → ltInt p dk[t]! = false
  right : ∀ t, j < t → t < b → ltInt p dk[t]! = true
theorem PE.up {a b : Nat} {d dk : Array Int} {p : Int} {i j : Nat} (h : PE a b d p i j dk) (hi : ltInt p dk[i]! = false) : PE a b d p (i + 1) j dk :=
  ⟨h.perm, h.piv, fun t h1 h2 => (Nat.lt_succ_iff_lt_or_eq.1 h2).elim (h.left t h1) (fun e => e ▸ hi), h.right⟩
theorem PE.down {a b : Nat} {d dk : Array Int} {p : Int} {i j : Nat} (h : PE a b d p i j dk) (hj : ltInt p dk[j]! = true) (h0 : 0 < j) : PE a b d p i (j - 1) dk :=
  ⟨h.perm, h.piv, h.left, fun t h1 h2 => (Nat.lt_or_ge j t).elim (fun h3 => h.right t h3 h2) (fun h3 => (show t = j by omega) ▸ hj)⟩
theorem PE.swap {a b : Nat} {d dk : Array Int} {p : Int} {i j : Nat} (h : PE a b d p i j dk) (hb : b ≤ d.size) (hai : a < i) (hij : i < j) (hjb : j < b) (hi : ltInt p dk[i]! = true) (hj : ltInt p dk[j]! = false) : PE a b d p (i + 1) (j - 1) (swp dk i j) := by
  have hs := h.perm.1
  have g := swp_at (d := dk) (i := i) (j := j) (by omega) (by omega)
  refine ⟨perm_swp h.perm hb (by omega) (by omega) (by omega) hjb, by rw [g, if_neg (by omega), if_neg (by omega)]; exact h.piv, fun t h1 h2 => ?_, fun t h1 h2 => ?_⟩
  · rw [g, if_neg (by omega)]
    split
    · exact hj
    · exact h.left t h1 (by omega)
  · rw [g]
    split
    · exact hi
    · rw [if_neg (by omega)]; exact h.right t (by omega) h2
theorem lt_fact {G : Nat → Int} {dk : Array Int} {p : Int} {a : Nat} (HG : Hid (∀ t, G t = dk[t]!)) (hp : dk[a]! = p) {i : Nat} {o : Bool} (h : ltInt (G a) (G i) = o) : ltInt p dk[i]! = o := by
  rw [HG.out, HG.out, hp] at h; exact h
theorem not_true {x : Bool} (h : (!x) = true) : x = false := by simpa using h
theorem not_false' {x : Bool} (h : (!x) = false) : x = true := by simpa using h

set_option maxHeartbeats 4000000 in
set_option maxRecDepth 100000 in
theorem parteq_any (blk off cap a b pivot : Nat) (d : Array Int) (w : World) (hH : Holds encU w blk off d) (hap : a < pivot) (hpb : pivot < b) (hb : b ≤ d.size) (hsz : d.size < 1000000) (hle : ∀ i, a ≤ i → i < b → ltInt d[i]! d[pivot]! = false) :
    Calls Try.prog 88 #[.slice (some ⟨blk, off, none⟩) d.size cap, .int .i64 a, .int .i64 b, .int .i64 pivot] w fun e w' =>
      ∃ (m n : Nat) (d' : Array Int), e = .returned (.int .i64 m) ∧ a < m ∧ m ≤ b ∧ PermIn a b d d' ∧ (∀ i, a ≤ i → i < m → ltInt d[pivot]! d'[i]! = false) ∧ (∀ i, m ≤ i → i < b → ltInt d[pivot]! d'[i]! = true) ∧ w' = putRow encU (Sort.ahead w n) blk off d' := by
  obtain ⟨p, hp⟩ : ∃ p, p = d[pivot]! := ⟨_, rfl⟩
  rw [← hp] at hle ⊢
  have HH := Lib.hid hH
  obtain ⟨G, hG, hcw, hfw⟩ := row_view (n := 0) hH rfl (putRow_self encU w blk off d hH).symm
  have hsw := swap_worldA encU w 0 1 blk off d a pivot (by omega) (by omega)
  rw [show putRow encU (Sort.ahead w 0) blk off d = w from putRow_self encU w blk off d hH, ← hG, ← hG] at hsw
  have hpa : (swp d a pivot)[a]! = p := by rw [swp_left d a pivot (by omega) (by omega)]; exact hp.symm
  have HS := Lib.hid hsw
  have HP0 := Lib.hid (show PE a b d p (a + 1) (b - 1) (swp d a pivot) from ⟨swp_permIn d a b a pivot (Nat.le_refl _) (by omega) (by omega) hpb hb, hpa, fun t h1 h2 => by
    obtain rfl : t = a := by omega
    rw [hpa]; simp [ltInt], fun t h1 h2 => by omega⟩)
  clear hG hsw hpa hp hH hle
  go_enter Try.func88, Try.ntmps88
  go_wp2
  go_region
  all_goals go_wp2
  go_loopw [9, 10] (fun vi vj wr => ∃ (i j n : Nat) (dk : Array Int), vi = .int .i64 i ∧ vj = .int .i64 j ∧ a < i ∧ i ≤ j + 1 ∧ j < b ∧ Hid (PE a b d p i j dk) ∧ Hid (wr = putRow encU (Sort.ahead w n) blk off dk)) (fun vi vj _ => (intOf vj + 1).toNat - (intOf vi).toNat)
  case atStart => exact ⟨a + 1, b - 1, 1, swp d a pivot, by go_num, by go_num, by omega, by omega, by omega, HP0, HS⟩
  case round =>
    obtain ⟨i0, j, n0, dk, rfl, rfl, hai0, hij0, hjb, HP0, HW0⟩ := hrel
    have hsk := HP0.out.perm.1
    clear hcw hfw
    go_wp2
    go_loopw [9] (fun vi wr2 => ∃ (i n : Nat), vi = .int .i64 i ∧ i0 ≤ i ∧ i ≤ j + 1 ∧ Hid (PE a b d p i j dk) ∧ Hid (wr2 = putRow encU (Sort.ahead w n) blk off dk)) (fun vi _ => j + 1 - (intOf vi).toNat)
    case atStart => exact ⟨i0, n0, rfl, Nat.le_refl _, hij0, HP0, HW0⟩
    case round =>
      obtain ⟨i, n, rfl, hai, hij, HP, HW⟩ := hrel
      obtain ⟨G, hG, hcw, hfw⟩ := row_view HH.out hsk HW.out
      have HG := Lib.hid hG
      clear hG
      by_cases h1 : i ≤ j
      · have h1z : (i : Int) ≤ (j : Int) := by omega
        go_wp2_with fail
        go_big_quiet (first | (go_at_call 87; refine Calls.quiet_of_same (less_any _ _ _)))
        go_wp2_with fail
        · have hx : (!ltInt (G a) (G i)) = true := by assumption
          have HX := Lib.hid (lt_fact HG HP.out.piv (not_true hx))
          clear hx
          go_wp2
          go_roundw
          case rel => exact ⟨i + 1, n + nq, by go_num, by omega, by omega, Lib.hid (HP.out.up HX.out), Lib.hid (by rw [HW.out]; exact putRow_drewN _ _ _ _ _ _ _)⟩
          case measure => simp [intOf]; omega
        · have hx : (!ltInt (G a) (G i)) = false := by assumption
          have HX := Lib.hid (lt_fact HG HP.out.piv (not_false' hx))
          clear hx
          obtain ⟨W2, hWq, HW2, hcw2, hfw2⟩ := drew_view (q := nq) HW hcw hfw
          rw [← hWq]
          clear hcw hfw hWq hcw2 hfw2
          go_wp2
          go_loopw [10] (fun vj wr2 => ∃ (j2 n : Nat), vj = .int .i64 j2 ∧ i ≤ j2 + 1 ∧ j2 ≤ j ∧ Hid (PE a b d p i j2 dk) ∧ Hid (wr2 = putRow encU (Sort.ahead w n) blk off dk)) (fun vj _ => (intOf vj).toNat)
          case atStart => exact ⟨j, n + nq, rfl, hij, Nat.le_refl _, HP, HW2⟩
          case round =>
            obtain ⟨j2, n2, rfl, hij2, hjj, HP2, HW3⟩ := hrel
            obtain ⟨G2, hG2, hcw2, hfw2⟩ := row_view HH.out hsk HW3.out
            have HG2 := Lib.hid hG2
            clear hG2
            by_cases h2 : i ≤ j2
            · have h2z : (i : Int) ≤ (j2 : Int) := by omega
              go_wp2_with fail
              go_big_quiet (first | (go_at_call 87; refine Calls.quiet_of_same (less_any _ _ _)))
              go_wp2_with fail
              · have hx : ltInt (G2 a) (G2 j2) = true := by assumption
                have HY := Lib.hid (lt_fact HG2 HP2.out.piv hx)
                clear hx
                go_wp2
                go_roundw
                case rel => exact ⟨j2 - 1, _, by go_num, by omega, by omega, Lib.hid (HP2.out.down HY.out (by omega)), Lib.hid (by rw [HW3.out]; exact putRow_drewN _ _ _ _ _ _ _)⟩
                case measure => simp [intOf]; omega
              · have hx : ltInt (G2 a) (G2 j2) = false := by assumption
                have HY := Lib.hid (lt_fact HG2 HP2.out.piv hx)
                clear hx
                have hlt : i < j2 := by
                  rcases Nat.lt_or_ge i j2 with h | h
                  · exact h
                  · obtain rfl : i = j2 := by omega
                    have := HX.out; rw [HY.out] at this; cases this
                obtain ⟨W4, hWq, HW4, hcw3, hfw3⟩ := drew_view (q := nq) HW3 hcw2 hfw2
                rw [← hWq]
                clear hcw2 hfw2 hWq
                go_wp2
                go_region
                all_goals go_wp2
                go_roundw
                case rel =>
                  refine ⟨i + 1, j2 - 1, n2 + nq + 1, swp dk i j2, by go_num, by go_num, by omega, by omega, by omega, Lib.hid (HP2.out.swap hb (by omega) hlt (by omega) HX.out HY.out), Lib.hid ?_⟩
                  rw [HW4.out, HG2.out, HG2.out]
                  exact swap_worldA _ w (n2 + nq) 1 blk off dk i j2 (by omega) (by omega)
                case measure => simp [intOf]; omega
            · have h2z : ¬ ((i : Int) ≤ (j2 : Int)) := by omega
              have h3z : (j2 : Int) < (i : Int) := by omega
              go_wp2_with fail
              go_big_quiet (first | (go_at_call 87; refine Calls.quiet_of_same (less_any _ _ _)))
              go_wp2
              go_ret
              obtain ⟨W4, hWq, HW4, hcw3, hfw3⟩ := drew_view (q := nq) HW3 hcw2 hfw2
              exact ⟨i, _, dk, rfl, by omega, by omega, HP2.out.perm, HP2.out.left, fun t h4 h5 => HP2.out.right t (by omega) h5, hWq ▸ HW4.out⟩
      · have h1z : ¬ ((i : Int) ≤ (j : Int)) := by omega
        have h3z : (j : Int) < (i : Int) := by omega
        go_wp2_with fail
        go_big_quiet (first | (go_at_call 87; refine Calls.quiet_of_same (less_any _ _ _)))
        go_wp2_with fail
        obtain ⟨W2, hWq, HW2, hcw2, hfw2⟩ := drew_view (q := nq) HW hcw hfw
        rw [← hWq]
        clear hcw hfw hWq hcw2 hfw2
        go_loopw [10] (fun vj wr2 => vj = .int .i64 j ∧ ∃ n : Nat, Hid (wr2 = putRow encU (Sort.ahead w n) blk off dk)) (fun _ _ => 0)
        case atStart => exact ⟨rfl, _, HW2⟩
        case round =>
          obtain ⟨rfl, n3, HW3⟩ := hrel
          obtain ⟨G3, hG3, hcw3, hfw3⟩ := row_view HH.out hsk HW3.out
          clear hG3
          go_wp2_with fail
          go_big_quiet (first | (go_at_call 87; refine Calls.quiet_of_same (less_any _ _ _)))
          go_wp2
          go_ret
          obtain ⟨W4, hWq, HW4, hcw4, hfw4⟩ := drew_view (q := nq) HW3 hcw3 hfw3
          exact ⟨i, _, dk, rfl, by omega, by omega, HP.out.perm, HP.out.left, fun t h4 h5 => HP.out.right t (by omega) h5, hWq ▸ HW4.out⟩
end Go.Proofs.Ytbemphfijkcbhaa
/- partitionOrdered. -/
namespace Go.Proofs.Ytbemphfijkcbhaa
open Go.RowKit Go.Shelf Go.Lib Go.Sort Go.Proofs

/-- What partition has so far: between a and i all less than p, right of j none. -/
structure PT (a b : Nat) (d : Array Int) (p : Int) (i j : Nat) (dk : Array Int) : Prop where
  perm : PermIn a b d dk
  piv : dk[a]! = p
  left : ∀ t, a < t → t < i → ltInt dk[t]! p = true
  right : ∀ t, j < t → t < b → ltInt dk[t]! p = false
theorem PT.up {a b : Nat} {d dk : Array Int} {p : Int} {i j : Nat} (h : PT a b d p i j dk) (hi : ltInt dk[i]! p = true) : PT a b d p (i + 1) j dk :=
  ⟨h.perm, h.piv, fun t h1 h2 => (Nat.lt_succ_iff_lt_or_eq.1 h2).elim (h.left t h1) (fun e => e ▸ hi), h.right⟩
theorem PT.down {a b : Nat} {d dk : Array Int} {p : Int} {i j : Nat} (h : PT a b d p i j dk) (hj : ltInt dk[j]! p = false) (h0 : 0 < j) : PT a b d p i (j - 1) dk :=
  ⟨h.perm, h.piv, h.left, fun t h1 h2 => (Nat.lt_or_ge j t).elim (fun h3 => h.right t h3 h2) (fun h3 => (show t = j by omega) ▸ hj)⟩
theorem PT.swap {a b : Nat} {d dk : Array Int} {p : Int} {i j : Nat} (h : PT a b d p i j dk) (hb : b ≤ d.size) (hai : a < i) (hij : i < j) (hjb : j < b) (hi : ltInt dk[i]! p = false) (hj : ltInt dk[j]! p = true) : PT a b d p (i + 1) (j - 1) (swp dk i j) := by
  have hs := h.perm.1
  have g := swp_at (d := dk) (i := i) (j := j) (by omega) (by omega)
  refine ⟨perm_swp h.perm hb (by omega) (by omega) (by omega) hjb, by rw [g, if_neg (by omega), if_neg (by omega)]; exact h.piv, fun t h1 h2 => ?_, fun t h1 h2 => ?_⟩
  · rw [g, if_neg (by omega)]
    split
    · exact hj
    · exact h.left t h1 (by omega)
  · rw [g]
    split
    · exact hi
    · rw [if_neg (by omega)]; exact h.right t (by omega) h2
theorem PT.fin {a b : Nat} {d dk : Array Int} {p : Int} {j : Nat} (h : PT a b d p (j + 1) j dk) (hb : b ≤ d.size) (haj : a ≤ j) (hjb : j < b) : a ≤ j ∧ j < b ∧ PermIn a b d (swp dk j a) ∧
    (∀ t, a ≤ t → t < j → ltInt (swp dk j a)[t]! (swp dk j a)[j]! = true) ∧ (∀ t, j < t → t < b → ltInt (swp dk j a)[t]! (swp dk j a)[j]! = false) := by
  have hs := h.perm.1
  have g := swp_at (d := dk) (i := j) (j := a) (by omega) (by omega)
  have gj : (swp dk j a)[j]! = p := by
    rw [g]
    split
    · rename_i e; rw [e]; exact h.piv
    · rw [if_pos rfl]; exact h.piv
  refine ⟨haj, hjb, perm_swp h.perm hb haj hjb (Nat.le_refl _) (by omega), fun t h1 h2 => ?_, fun t h1 h2 => ?_⟩
  · rw [gj, g]
    split
    · exact h.left j (by omega) (by omega)
    · rw [if_neg (by omega)]; exact h.left t (by omega) (by omega)
  · rw [gj, g, if_neg (by omega), if_neg (by omega)]
    exact h.right t h1 h2
theorem lt_fact2 {G : Nat → Int} {dk : Array Int} {p : Int} {a : Nat} (HG : Hid (∀ t, G t = dk[t]!)) (hp : dk[a]! = p) {i : Nat} {o : Bool} (h : ltInt (G i) (G a) = o) : ltInt dk[i]! p = o := by
  rw [HG.out, HG.out, hp] at h; exact h

set_option maxHeartbeats 4000000 in
set_option maxRecDepth 100000 in
theorem part_any (blk off cap a b pivot : Nat) (d : Array Int) (w : World) (hH : Holds encU w blk off d) (hap : a < pivot) (hpb : pivot < b) (hb : b ≤ d.size) (hsz : d.size < 1000000) :
    Calls Try.prog 89 #[.slice (some ⟨blk, off, none⟩) d.size cap, .int .i64 a, .int .i64 b, .int .i64 pivot] w fun e w' =>
      ∃ (m : Nat) (f : Bool) (n : Nat) (d' : Array Int), e = .returned (.tuple #[.int .i64 m, .bool f]) ∧ a ≤ m ∧ m < b ∧ PermIn a b d d' ∧ (∀ t, a ≤ t → t < m → ltInt d'[t]! d'[m]! = true) ∧ (∀ t, m < t → t < b → ltInt d'[t]! d'[m]! = false) ∧ w' = putRow encU (Sort.ahead w n) blk off d' := by
  obtain ⟨p, hp⟩ : ∃ p, p = d[pivot]! := ⟨_, rfl⟩
  have HH := Lib.hid hH
  obtain ⟨G, hG, hcw, hfw⟩ := row_view (n := 0) hH rfl (putRow_self encU w blk off d hH).symm
  have hsw := swap_worldA encU w 0 1 blk off d a pivot (by omega) (by omega)
  rw [show putRow encU (Sort.ahead w 0) blk off d = w from putRow_self encU w blk off d hH, ← hG, ← hG] at hsw
  have hpa : (swp d a pivot)[a]! = p := by rw [swp_left d a pivot (by omega) (by omega)]; exact hp.symm
  have HS := Lib.hid hsw
  have HP0 := Lib.hid (show PT a b d p (a + 1) (b - 1) (swp d a pivot) from ⟨swp_permIn d a b a pivot (Nat.le_refl _) (by omega) (by omega) hpb hb, hpa, fun t h1 h2 => by omega, fun t h1 h2 => by omega⟩)
  have hsk : (swp d a pivot).size = d.size := size_swp d a pivot
  clear hG hsw hpa hp hH
  go_enter Try.func89, Try.ntmps89
  go_wp2
  go_region
  all_goals go_wp2
  clear hcw hfw
  obtain ⟨d1, hd1⟩ : ∃ d1, d1 = swp d a pivot := ⟨_, rfl⟩
  obtain ⟨j1, hj1⟩ : ∃ j1, j1 = b - 1 := ⟨_, rfl⟩
  have hjz : (b : Int) - 1 = (j1 : Int) := by omega
  have hab1 : a + 1 ≤ j1 + 1 := by omega
  have hjb : j1 < b := by omega
  rw [← hd1] at HP0 hsk HS
  rw [← hj1] at HP0
  rw [hjz]
  clear hd1 hj1 hjz
  go_loopw [10] (fun vi wr2 => ∃ (i n : Nat), vi = .int .i64 i ∧ (a + 1) ≤ i ∧ i ≤ j1 + 1 ∧ Hid (PT a b d p i j1 d1) ∧ Hid (wr2 = putRow encU (Sort.ahead w n) blk off d1)) (fun vi _ => j1 + 1 - (intOf vi).toNat)
  case atStart => exact ⟨(a + 1), 1, by go_num, Nat.le_refl _, hab1, HP0, HS⟩
  case round =>
    obtain ⟨i, n, rfl, hai, hij, HP, HW⟩ := hrel
    obtain ⟨G, hG, hcw, hfw⟩ := row_view HH.out hsk HW.out
    have HG := Lib.hid hG
    clear hG
    by_cases h1 : i ≤ j1
    · have h1z : (i : Int) ≤ (j1 : Nat) := by omega
      go_wp2_with fail
      go_big_quiet (first | (go_at_call 87; refine Calls.quiet_of_same (less_any _ _ _)))
      go_wp2_with fail
      · have hx : ltInt (G i) (G a) = true := by assumption
        have HX := Lib.hid (lt_fact2 HG HP.out.piv hx)
        clear hx
        go_wp2
        go_roundw
        case rel => exact ⟨i + 1, n + nq, by go_num, by omega, by omega, Lib.hid (HP.out.up HX.out), Lib.hid (by rw [HW.out]; exact putRow_drewN _ _ _ _ _ _ _)⟩
        case measure => simp [intOf]; omega
      · have hx : ltInt (G i) (G a) = false := by assumption
        have HX := Lib.hid (lt_fact2 HG HP.out.piv hx)
        clear hx
        obtain ⟨W2, hWq, HW2, hcw2, hfw2⟩ := drew_view (q := nq) HW hcw hfw
        rw [← hWq]
        clear hcw hfw hWq hcw2 hfw2
        go_wp2
        go_loopw [11] (fun vj wr2 => ∃ (j2 n : Nat), vj = .int .i64 j2 ∧ i ≤ j2 + 1 ∧ j2 ≤ j1 ∧ Hid (PT a b d p i j2 d1) ∧ Hid (wr2 = putRow encU (Sort.ahead w n) blk off d1)) (fun vj _ => (intOf vj).toNat)
        case atStart => exact ⟨j1, n + nq, by go_num, hij, Nat.le_refl _, HP, HW2⟩
        case round =>
          obtain ⟨j2, n2, rfl, hij2, hjj, HP2, HW3⟩ := hrel
          obtain ⟨G2, hG2, hcw2, hfw2⟩ := row_view HH.out hsk HW3.out
          have HG2 := Lib.hid hG2
          clear hG2
          by_cases h2 : i ≤ j2
          · have h2z : (i : Int) ≤ (j2 : Int) := by omega
            go_wp2_with fail
            go_big_quiet (first | (go_at_call 87; refine Calls.quiet_of_same (less_any _ _ _)))
            go_wp2_with fail
            · have hx : (!ltInt (G2 j2) (G2 a)) = true := by assumption
              have HY := Lib.hid (lt_fact2 HG2 HP2.out.piv (not_true hx))
              clear hx
              go_wp2
              go_roundw
              case rel => exact ⟨j2 - 1, n2 + nq, by go_num, by omega, by omega, Lib.hid (HP2.out.down HY.out (by omega)), Lib.hid (by rw [HW3.out]; exact putRow_drewN _ _ _ _ _ _ _)⟩
              case measure => simp [intOf]; omega
            · have hx : (!ltInt (G2 j2) (G2 a)) = false := by assumption
              have HY := Lib.hid (lt_fact2 HG2 HP2.out.piv (not_false' hx))
              clear hx
              have hlt : i < j2 := by
                rcases Nat.lt_or_ge i j2 with h | h
                · exact h
                · obtain rfl : i = j2 := by omega
                  have := HX.out; rw [HY.out] at this; cases this
              revert nq; intro nq1
              obtain ⟨W4, hWq, HW4, hcw3, hfw3⟩ := drew_view (q := nq1) HW3 hcw2 hfw2
              rw [← hWq]
              clear hcw2 hfw2 hWq
              go_wp2
              go_region
              all_goals go_wp2
              have HS4 := Lib.hid (show (((W4.drewN 1).setCell ⟨blk, off + i, none⟩ (.int .u64 (G2 j2))).setCell ⟨blk, off + j2, none⟩ (.int .u64 (G2 i))) = putRow encU (Sort.ahead w (n2 + nq1 + 1)) blk off (swp d1 i j2) from by
                rw [HW4.out, HG2.out, HG2.out]; exact swap_worldA encU w (n2 + nq1) 1 blk off d1 i j2 (by omega) (by omega))
              have HPS := Lib.hid (HP2.out.swap hb (by omega) hlt (by omega) HX.out HY.out)
              go_loopw [10, 11] (fun vi vj wr => ∃ (i j n : Nat) (dk : Array Int), vi = .int .i64 i ∧ vj = .int .i64 j ∧ a < i ∧ i ≤ j + 1 ∧ j < b ∧ Hid (PT a b d p i j dk) ∧ Hid (wr = putRow encU (Sort.ahead w n) blk off dk)) (fun vi vj _ => (intOf vj + 1).toNat - (intOf vi).toNat)
              case atStart => exact ⟨i + 1, j2 - 1, n2 + nq1 + 1, _, by go_num, by go_num, by omega, by omega, by omega, HPS, HS4⟩
              case round =>
                clear HPS HS4 HW4 HW3 HW2 hcw3 hfw3 HX HY HP HP2 HG HG2 HW h1z h2z hij2 hjj hij hai hlt
                obtain ⟨i0, j, n0, dk, rfl, rfl, hai0, hij0, hjb, HP0, HW0⟩ := hrel
                have hsk := HP0.out.perm.1
                go_wp2
                go_loopw [10] (fun vi wr2 => ∃ (i n : Nat), vi = .int .i64 i ∧ i0 ≤ i ∧ i ≤ j + 1 ∧ Hid (PT a b d p i j dk) ∧ Hid (wr2 = putRow encU (Sort.ahead w n) blk off dk)) (fun vi _ => j + 1 - (intOf vi).toNat)
                case atStart => exact ⟨i0, n0, by go_num, Nat.le_refl _, hij0, HP0, HW0⟩
                case round =>
                  obtain ⟨i, n, rfl, hai, hij, HP, HW⟩ := hrel
                  obtain ⟨G, hG, hcw, hfw⟩ := row_view HH.out hsk HW.out
                  have HG := Lib.hid hG
                  clear hG
                  by_cases h1 : i ≤ j
                  · have h1z : (i : Int) ≤ (j : Nat) := by omega
                    go_wp2_with fail
                    go_big_quiet (first | (go_at_call 87; refine Calls.quiet_of_same (less_any _ _ _)))
                    go_wp2_with fail
                    · have hx : ltInt (G i) (G a) = true := by assumption
                      have HX := Lib.hid (lt_fact2 HG HP.out.piv hx)
                      clear hx
                      go_wp2
                      go_roundw
                      case rel => exact ⟨i + 1, n + nq, by go_num, by omega, by omega, Lib.hid (HP.out.up HX.out), Lib.hid (by rw [HW.out]; exact putRow_drewN _ _ _ _ _ _ _)⟩
                      case measure => simp [intOf]; omega
                    · have hx : ltInt (G i) (G a) = false := by assumption
                      have HX := Lib.hid (lt_fact2 HG HP.out.piv hx)
                      clear hx
                      obtain ⟨W2, hWq, HW2, hcw2, hfw2⟩ := drew_view (q := nq) HW hcw hfw
                      rw [← hWq]
                      clear hcw hfw hWq hcw2 hfw2
                      go_wp2
                      go_loopw [11] (fun vj wr2 => ∃ (j2 n : Nat), vj = .int .i64 j2 ∧ i ≤ j2 + 1 ∧ j2 ≤ j ∧ Hid (PT a b d p i j2 dk) ∧ Hid (wr2 = putRow encU (Sort.ahead w n) blk off dk)) (fun vj _ => (intOf vj).toNat)
                      case atStart => exact ⟨j, n + nq, by go_num, hij, Nat.le_refl _, HP, HW2⟩
                      case round =>
                        obtain ⟨j2, n2, rfl, hij2, hjj, HP2, HW3⟩ := hrel
                        obtain ⟨G2, hG2, hcw2, hfw2⟩ := row_view HH.out hsk HW3.out
                        have HG2 := Lib.hid hG2
                        clear hG2
                        by_cases h2 : i ≤ j2
                        · have h2z : (i : Int) ≤ (j2 : Int) := by omega
                          go_wp2_with fail
                          go_big_quiet (first | (go_at_call 87; refine Calls.quiet_of_same (less_any _ _ _)))
                          go_wp2_with fail
                          · have hx : (!ltInt (G2 j2) (G2 a)) = true := by assumption
                            have HY := Lib.hid (lt_fact2 HG2 HP2.out.piv (not_true hx))
                            clear hx
                            go_wp2
                            go_roundw
                            case rel => exact ⟨j2 - 1, n2 + nq, by go_num, by omega, by omega, Lib.hid (HP2.out.down HY.out (by omega)), Lib.hid (by rw [HW3.out]; exact putRow_drewN _ _ _ _ _ _ _)⟩
                            case measure => simp [intOf]; omega
                          · have hx : (!ltInt (G2 j2) (G2 a)) = false := by assumption
                            have HY := Lib.hid (lt_fact2 HG2 HP2.out.piv (not_false' hx))
                            clear hx
                            have hlt : i < j2 := by
                              rcases Nat.lt_or_ge i j2 with h | h
                              · exact h
                              · obtain rfl : i = j2 := by omega
                                have := HX.out; rw [HY.out] at this; cases this
                            revert nq; intro nq1
                            obtain ⟨W4, hWq, HW4, hcw3, hfw3⟩ := drew_view (q := nq1) HW3 hcw2 hfw2
                            rw [← hWq]
                            clear hcw2 hfw2 hWq
                            go_wp2
                            go_region
                            all_goals go_wp2
                            have HS4 := Lib.hid (show (((W4.drewN 1).setCell ⟨blk, off + i, none⟩ (.int .u64 (G2 j2))).setCell ⟨blk, off + j2, none⟩ (.int .u64 (G2 i))) = putRow encU (Sort.ahead w (n2 + nq1 + 1)) blk off (swp dk i j2) from by
                              rw [HW4.out, HG2.out, HG2.out]; exact swap_worldA encU w (n2 + nq1) 1 blk off dk i j2 (by omega) (by omega))
                            have HPS := Lib.hid (HP2.out.swap hb (by omega) hlt (by omega) HX.out HY.out)
                            go_roundw
                            case rel => exact ⟨i + 1, j2 - 1, n2 + nq1 + 1, _, by go_num, by go_num, by omega, by omega, by omega, HPS, HS4⟩
                            case measure => simp [intOf]; omega
                        · have h2z : ¬ ((i : Int) ≤ (j2 : Int)) := by omega
                          have h3z : (j2 : Int) < (i : Int) := by omega
                          go_wp2_with fail
                          go_big_quiet (first | (go_at_call 87; refine Calls.quiet_of_same (less_any _ _ _)))
                          revert nq; intro nq1
                          obtain ⟨W4, hWq, HW4, hcw3, hfw3⟩ := drew_view (q := nq1) HW3 hcw2 hfw2
                          rw [← hWq]
                          clear hcw2 hfw2 hWq
                          go_wp2
                          obtain rfl : i = j2 + 1 := by omega
                          have HPE := HP2
                          have HGE := HG2
                          have hjb2 : j2 < b := by omega
                          have haj2 : a ≤ j2 := by omega
                          have hF := HPE.out.fin hb haj2 hjb2
                          rcases Nat.lt_or_ge a (j2) with haj | haj
                          · go_region
                            all_goals go_wp2
                            go_ret2
                            refine ⟨j2, _, n2 + nq1 + 1, swp dk j2 a, rfl, hF.1, hF.2.1, hF.2.2.1, hF.2.2.2.1, hF.2.2.2.2, ?_⟩
                            rw [HW4.out]
                            simp only [HGE.out]
                            exact swap_worldA encU w (n2 + nq1) 1 blk off dk j2 a (by omega) (by omega)
                          · have hja : j2 = a := by omega
                            subst hja
                            go_region
                            all_goals go_wp2
                            go_ret2
                            refine ⟨j2, _, n2 + nq1 + 1, swp dk j2 j2, rfl, hF.1, hF.2.1, hF.2.2.1, hF.2.2.2.1, hF.2.2.2.2, ?_⟩
                            rw [HW4.out]
                            simp only [HGE.out]
                            exact swap_worldA encU w (n2 + nq1) 1 blk off dk j2 j2 (by omega) (by omega)
                  · have h1z : ¬ ((i : Int) ≤ (j : Nat)) := by omega
                    have h3z : ((j : Nat) : Int) < (i : Int) := by omega
                    go_wp2_with fail
                    go_big_quiet (first | (go_at_call 87; refine Calls.quiet_of_same (less_any _ _ _)))
                    go_wp2_with fail
                    obtain ⟨W2, hWq, HW2, hcw2, hfw2⟩ := drew_view (q := nq) HW hcw hfw
                    rw [← hWq]
                    clear hcw hfw hWq hcw2 hfw2
                    go_loopw [11] (fun vj wr2 => vj = .int .i64 (j : Nat) ∧ ∃ n : Nat, Hid (wr2 = putRow encU (Sort.ahead w n) blk off dk)) (fun _ _ => 0)
                    case atStart => exact ⟨by go_num, _, HW2⟩
                    case round =>
                      obtain ⟨rfl, n3, HW3⟩ := hrel
                      obtain ⟨G3, hG3, hcw3, hfw3⟩ := row_view HH.out hsk HW3.out
                      have HGE := Lib.hid hG3
                      clear hG3
                      go_wp2_with fail
                      go_big_quiet (first | (go_at_call 87; refine Calls.quiet_of_same (less_any _ _ _)))
                      revert nq; intro nq1
                      obtain ⟨W4, hWq, HW4, hcw4, hfw4⟩ := drew_view (q := nq1) HW3 hcw3 hfw3
                      rw [← hWq]
                      clear hcw3 hfw3 hWq
                      go_wp2
                      obtain rfl : i = j + 1 := by omega
                      have HPE := HP
                      have hjb2 : j < b := by omega
                      have haj2 : a ≤ j := by omega
                      have hF := HPE.out.fin hb haj2 hjb2
                      rcases Nat.lt_or_ge a (j) with haj | haj
                      · go_region
                        all_goals go_wp2
                        go_ret2
                        refine ⟨j, _, n3 + nq1 + 1, swp dk j a, rfl, hF.1, hF.2.1, hF.2.2.1, hF.2.2.2.1, hF.2.2.2.2, ?_⟩
                        rw [HW4.out]
                        simp only [HGE.out]
                        exact swap_worldA encU w (n3 + nq1) 1 blk off dk j a (by omega) (by omega)
                      · have hja : j = a := by omega
                        subst hja
                        go_region
                        all_goals go_wp2
                        go_ret2
                        refine ⟨j, _, n3 + nq1 + 1, swp dk j j, rfl, hF.1, hF.2.1, hF.2.2.1, hF.2.2.2.1, hF.2.2.2.2, ?_⟩
                        rw [HW4.out]
                        simp only [HGE.out]
                        exact swap_worldA encU w (n3 + nq1) 1 blk off dk j j (by omega) (by omega)
          · have h2z : ¬ ((i : Int) ≤ (j2 : Int)) := by omega
            have h3z : (j2 : Int) < (i : Int) := by omega
            go_wp2_with fail
            go_big_quiet (first | (go_at_call 87; refine Calls.quiet_of_same (less_any _ _ _)))
            revert nq; intro nq1
            obtain ⟨W4, hWq, HW4, hcw3, hfw3⟩ := drew_view (q := nq1) HW3 hcw2 hfw2
            rw [← hWq]
            clear hcw2 hfw2 hWq
            go_wp2
            obtain rfl : i = j2 + 1 := by omega
            have HPE := HP2
            have HGE := HG2
            have hjb2 : j2 < b := by omega
            have haj2 : a ≤ j2 := by omega
            have hF := HPE.out.fin hb haj2 hjb2
            rcases Nat.lt_or_ge a (j2) with haj | haj
            · go_region
              all_goals go_wp2
              go_ret2
              refine ⟨j2, _, n2 + nq1 + 1, swp d1 j2 a, rfl, hF.1, hF.2.1, hF.2.2.1, hF.2.2.2.1, hF.2.2.2.2, ?_⟩
              rw [HW4.out]
              simp only [HGE.out]
              exact swap_worldA encU w (n2 + nq1) 1 blk off d1 j2 a (by omega) (by omega)
            · have hja : j2 = a := by omega
              subst hja
              go_region
              all_goals go_wp2
              go_ret2
              refine ⟨j2, _, n2 + nq1 + 1, swp d1 j2 j2, rfl, hF.1, hF.2.1, hF.2.2.1, hF.2.2.2.1, hF.2.2.2.2, ?_⟩
              rw [HW4.out]
              simp only [HGE.out]
              exact swap_worldA encU w (n2 + nq1) 1 blk off d1 j2 j2 (by omega) (by omega)
    · have h1z : ¬ ((i : Int) ≤ (j1 : Nat)) := by omega
      have h3z : ((j1 : Nat) : Int) < (i : Int) := by omega
      go_wp2_with fail
      go_big_quiet (first | (go_at_call 87; refine Calls.quiet_of_same (less_any _ _ _)))
      go_wp2_with fail
      obtain ⟨W2, hWq, HW2, hcw2, hfw2⟩ := drew_view (q := nq) HW hcw hfw
      rw [← hWq]
      clear hcw hfw hWq hcw2 hfw2
      go_loopw [11] (fun vj wr2 => vj = .int .i64 (j1 : Nat) ∧ ∃ n : Nat, Hid (wr2 = putRow encU (Sort.ahead w n) blk off d1)) (fun _ _ => 0)
      case atStart => exact ⟨by go_num, _, HW2⟩
      case round =>
        obtain ⟨rfl, n3, HW3⟩ := hrel
        obtain ⟨G3, hG3, hcw3, hfw3⟩ := row_view HH.out hsk HW3.out
        have HGE := Lib.hid hG3
        clear hG3
        go_wp2_with fail
        go_big_quiet (first | (go_at_call 87; refine Calls.quiet_of_same (less_any _ _ _)))
        revert nq; intro nq1
        obtain ⟨W4, hWq, HW4, hcw4, hfw4⟩ := drew_view (q := nq1) HW3 hcw3 hfw3
        rw [← hWq]
        clear hcw3 hfw3 hWq
        go_wp2
        obtain rfl : i = j1 + 1 := by omega
        have HPE := HP
        have hjb2 : j1 < b := by omega
        have haj2 : a ≤ j1 := by omega
        have hF := HPE.out.fin hb haj2 hjb2
        rcases Nat.lt_or_ge a (j1) with haj | haj
        · go_region
          all_goals go_wp2
          go_ret2
          refine ⟨j1, _, n3 + nq1 + 1, swp d1 j1 a, rfl, hF.1, hF.2.1, hF.2.2.1, hF.2.2.2.1, hF.2.2.2.2, ?_⟩
          rw [HW4.out]
          simp only [HGE.out]
          exact swap_worldA encU w (n3 + nq1) 1 blk off d1 j1 a (by omega) (by omega)
        · have hja : j1 = a := by omega
          subst hja
          go_region
          all_goals go_wp2
          go_ret2
          refine ⟨j1, _, n3 + nq1 + 1, swp d1 j1 j1, rfl, hF.1, hF.2.1, hF.2.2.1, hF.2.2.2.1, hF.2.2.2.2, ?_⟩
          rw [HW4.out]
          simp only [HGE.out]
          exact swap_worldA encU w (n3 + nq1) 1 blk off d1 j1 j1 (by omega) (by omega)
end Go.Proofs.Ytbemphfijkcbhaa
/- choosePivotOrdered: some place inside, away from the ends; the row is only read. -/
namespace Go.Proofs.Ytbemphfijkcbhaa
open Go.RowKit Go.Shelf Go.Lib Go.Sort Go.Proofs

/-- The count of swaps has a box of its own. -/
def Box (sb : Nat) (W : World) : Prop := ∃ s : Int, W.cell? ⟨sb, 0, none⟩ = some (.int .i64 s) ∧ W.frozen? ⟨sb, 0, none⟩ = false
theorem box_set {sb : Nat} {W : World} {s : Int} (x : Int) (h : W.cell? ⟨sb, 0, none⟩ = some (.int .i64 s)) (hf : W.frozen? ⟨sb, 0, none⟩ = false) : Box sb (W.setCell ⟨sb, 0, none⟩ (.int .i64 x)) :=
  ⟨x, World.cell?_setCell_same _ _ _ h, by rw [World.frozen?_setCell]; exact hf⟩

set_option maxHeartbeats 4000000 in
set_option maxRecDepth 100000 in
theorem order2_any (blk off cap m sb a b L U : Nat) (G : Nat → Int) (w : World) (hc : ∀ t, t < m → w.cell? ⟨blk, off + t, none⟩ = some (.int .u64 (G t))) (hU : U ≤ m) (hbx : Box sb w) (h1 : L ≤ a) (h2 : a < U) (h3 : L ≤ b) (h4 : b < U) :
    Calls Try.prog 98 #[.slice (some ⟨blk, off, none⟩) m cap, .int .i64 a, .int .i64 b, .pointer (some ⟨sb, 0, none⟩)] w fun e w' =>
      ∃ x y : Nat, e = .returned (.tuple #[.int .i64 x, .int .i64 y]) ∧ (L ≤ x ∧ x < U ∧ L ≤ y ∧ y < U) ∧ Box sb w' ∧ RowKit.Below sb w w' := by
  obtain ⟨s, hs, hfs⟩ := hbx
  go_enter Try.func98, Try.ntmps98
  go_wp2_with fail
  go_big_quiet (first | (go_at_call 87; refine Calls.quiet_of_same (less_any _ _ _)))
  have hs2 : (w.drewN nq).cell? ⟨sb, 0, none⟩ = some (.int .i64 s) := hs
  have hfs2 : (w.drewN nq).frozen? ⟨sb, 0, none⟩ = false := hfs
  have HB := Lib.hid (below_drewN (RowKit.Below.refl sb w) nq)
  clear hc hs hfs
  generalize w.drewN nq = W at hs2 hfs2 HB ⊢
  go_wp2_with fail
  · go_ret2
    exact ⟨b, a, rfl, ⟨h3, h4, h1, h2⟩, box_set _ hs2 hfs2, HB.out.setCell (Nat.le_refl _) _⟩
  · go_ret2
    exact ⟨a, b, rfl, ⟨h1, h2, h3, h4⟩, ⟨s, hs2, hfs2⟩, HB.out⟩

set_option maxHeartbeats 4000000 in
set_option maxRecDepth 100000 in
theorem median_any (blk off cap m sb a b c L U : Nat) (G : Nat → Int) (w : World) (hc : ∀ t, t < m → w.cell? ⟨blk, off + t, none⟩ = some (.int .u64 (G t))) (hU : U ≤ m) (hlt : blk < sb) (hbx : Box sb w) (h1 : L ≤ a) (h2 : a < U) (h3 : L ≤ b) (h4 : b < U) (h5 : L ≤ c) (h6 : c < U) :
    Calls Try.prog 96 #[.slice (some ⟨blk, off, none⟩) m cap, .int .i64 a, .int .i64 b, .int .i64 c, .pointer (some ⟨sb, 0, none⟩)] w fun e w' =>
      ∃ x : Nat, e = .returned (.int .i64 x) ∧ (L ≤ x ∧ x < U) ∧ Box sb w' ∧ RowKit.Below sb w w' := by
  have O := Lib.hid (show ∀ (W : World) (a b : Nat), RowKit.Below sb w W → Box sb W → L ≤ a → a < U → L ≤ b → b < U → _ from fun W a b hW hB k1 k2 k3 k4 =>
    order2_any blk off cap m sb a b L U G W (fun t ht => (hW.cell hlt).trans (hc t ht)) hU hB k1 k2 k3 k4)
  have HX := Lib.hid hbx
  clear hc hbx
  go_enter Try.func96, Try.ntmps96
  go_wp2_with (first
    | (go_at_call_has 98 (Value.int .i64 (a : Int)); refine (O.out w a b (RowKit.Below.refl _ _) HX.out h1 h2 h3 h4).mono ?_; rintro e w1 ⟨x1, y1, rfl, ⟨i1, i2, i3, i4⟩, hb1, hw1⟩; have HB1 := Lib.hid hb1; have HW1 := Lib.hid hw1; clear hb1 hw1)
    | (go_at_call_has 98 (Value.int .i64 (c : Int)); refine (O.out w1 y1 c HW1.out HB1.out i3 i4 h5 h6).mono ?_; rintro e w2 ⟨x2, y2, rfl, ⟨j1, j2, j3, j4⟩, hb2, hw2⟩; have HB2 := Lib.hid hb2; have HW2 := Lib.hid (HW1.out.trans hw2); clear hb2 hw2)
    | (go_at_call_has 98 (Value.int .i64 (x2 : Int)); refine (O.out w2 x1 x2 HW2.out HB2.out i1 i2 j1 j2).mono ?_; rintro e w3 ⟨x3, y3, rfl, ⟨k1, k2, k3, k4⟩, hb3, hw3⟩; have HB3 := Lib.hid hb3; have HW3 := Lib.hid (HW2.out.trans hw3); clear hb3 hw3))
  go_ret
  exact ⟨y3, rfl, ⟨k3, k4⟩, HB3.out, HW3.out⟩

set_option maxHeartbeats 4000000 in
set_option maxRecDepth 100000 in
theorem medadj_any (blk off cap m sb : Nat) (L U : Nat) (G : Nat → Int) (w : World) (hc : ∀ t, t < m → w.cell? ⟨blk, off + t, none⟩ = some (.int .u64 (G t))) (hU : U ≤ m) (hm : m < 1000000) (hlt : blk < sb) (hbx : Box sb w) (z : Int) (a : Nat) (hz : z = (a + 1 : Nat)) (h1 : L ≤ a) (h2 : a + 2 < U) :
    Calls Try.prog 95 #[.slice (some ⟨blk, off, none⟩) m cap, .int .i64 z, .pointer (some ⟨sb, 0, none⟩)] w fun e w' =>
      ∃ x : Nat, e = .returned (.int .i64 x) ∧ (L ≤ x ∧ x < U) ∧ Box sb w' ∧ RowKit.Below sb w w' := by
  have hM := median_any blk off cap m sb a (a + 1) (a + 2) L U G w hc hU hlt hbx (by omega) (by omega) (by omega) (by omega) (by omega) (by omega)
  rw [show ((a : Nat) : Int) = z - 1 by omega, ← hz, show ((a + 2 : Nat) : Int) = z + 1 by omega] at hM
  have HM := Lib.hid hM
  have hz1 : 0 ≤ z := by omega
  have hz2 : z ≤ 1000000 := by omega
  clear hM hc hbx hz
  go_enter Try.func95, Try.ntmps95
  go_wp2_with (go_at_call 96; refine HM.out.mono ?_; rintro e w1 ⟨x, rfl, hx, hb, hw⟩)
  go_ret
  exact ⟨x, rfl, hx, hb, hw⟩

set_option maxHeartbeats 4000000 in
set_option maxRecDepth 100000 in
theorem pivot_any (blk off cap m a N : Nat) (G : Nat → Int) (w : World) (hc : ∀ t, t < m → w.cell? ⟨blk, off + t, none⟩ = some (.int .u64 (G t))) (hN : 12 < N) (hb : a + N ≤ m) (hm : m < 1000000) (hlt : blk < w.heap.size) :
    Calls Try.prog 84 #[.slice (some ⟨blk, off, none⟩) m cap, .int .i64 a, .int .i64 ((a : Int) + N)] w fun e w' =>
      ∃ (p : Nat) (h : Int), e = .returned (.tuple #[.int .i64 p, .int .i64 h]) ∧ (a + 1 ≤ p ∧ p < a + N - 1) ∧ (h = 0 ∨ h = 1 ∨ h = 2) ∧ RowKit.Below w.heap.size w w' := by
  have hs : (w.alloc (.cells #[.int .i64 0] 3)).heap.size = w.heap.size + 1 := by simp
  obtain ⟨W0, hW0⟩ : ∃ W0, W0 = w.alloc (.cells #[.int .i64 0] 3) := ⟨_, rfl⟩
  have HW0 := Lib.hid hW0
  have HX0 := Lib.hid (show Box w.heap.size W0 from ⟨0, by rw [hW0]; simp, by rw [hW0]; simp⟩)
  have HB0 := Lib.hid (show RowKit.Below w.heap.size w W0 by rw [hW0]; exact (RowKit.Below.refl _ w).alloc (Nat.le_refl _) _)
  have hc0 : ∀ (W : World), RowKit.Below w.heap.size w W → ∀ t, t < m → W.cell? ⟨blk, off + t, none⟩ = some (.int .u64 (G t)) := fun W hW t ht => (hW.cell (p := ⟨blk, off + t, none⟩) hlt).trans (hc t ht)
  have M := Lib.hid (show ∀ (W : World) (x y z : Nat), RowKit.Below w.heap.size w W → Box w.heap.size W → a + 1 ≤ x → x < a + N - 1 → a + 1 ≤ y → y < a + N - 1 → a + 1 ≤ z → z < a + N - 1 → ∀ (X Y Z : Int), X = x → Y = y → Z = z → _ from fun W x y z hW hB k1 k2 k3 k4 k5 k6 X Y Z e1 e2 e3 => by
    have := median_any blk off cap m w.heap.size x y z (a + 1) (a + N - 1) G W (hc0 W hW) (by omega) hlt hB k1 k2 k3 k4 k5 k6
    rw [← e1, ← e2, ← e3] at this
    exact this)
  have A := Lib.hid (show ∀ (W : World) (z : Int) (x : Nat), RowKit.Below w.heap.size w W → Box w.heap.size W → z = (x + 1 : Nat) → a + 1 ≤ x → x + 2 < a + N - 1 → _ from fun W z x hW hB e k1 k2 =>
    medadj_any blk off cap m w.heap.size (a + 1) (a + N - 1) G W (hc0 W hW) (by omega) hm hlt hB z x e k1 k2)
  obtain ⟨q, hq⟩ : ∃ q, q = N / 4 := ⟨_, rfl⟩
  have HQ := Lib.hid (show (N : Int) / 4 = (q : Int) ∧ 4 * q ≤ N ∧ N < 4 * q + 4 by omega)
  clear hc hc0 hW0 hs hq
  by_cases h50 : 50 ≤ N
  · have h50z : 50 ≤ (N : Int) := by omega
    have h8z : 8 ≤ (N : Int) := by omega
    go_enter Try.func84, Try.ntmps84
    go_wp2_with fail
    simp only [show (a : Int) + N - a = N from by omega]
    rw [← HW0.out]
    go_wp2_with (first
      | (go_at_call_has 95 (Value.int .i64 ((a : Int) + (N : Int) / 4)); refine (A.out W0 _ (a + q - 1) HB0.out HX0.out (by have := HQ.out; omega) (by have := HQ.out; omega) (by have := HQ.out; omega)).mono ?_; rintro e w1 ⟨x1, rfl, ⟨i1, j1⟩, hb1, hw1⟩; have HX1 := Lib.hid hb1; have HB1 := Lib.hid ((HB0.out).trans hw1); clear hb1 hw1)
      | (go_at_call_has 95 (Value.int .i64 ((a : Int) + (N : Int) / 4 * 2)); refine (A.out w1 _ (a + 2 * q - 1) HB1.out HX1.out (by have := HQ.out; omega) (by have := HQ.out; omega) (by have := HQ.out; omega)).mono ?_; rintro e w2 ⟨x2, rfl, ⟨i2, j2⟩, hb2, hw2⟩; have HX2 := Lib.hid hb2; have HB2 := Lib.hid ((HB1.out).trans hw2); clear hb2 hw2)
      | (go_at_call_has 95 (Value.int .i64 ((a : Int) + (N : Int) / 4 * 3)); refine (A.out w2 _ (a + 3 * q - 1) HB2.out HX2.out (by have := HQ.out; omega) (by have := HQ.out; omega) (by have := HQ.out; omega)).mono ?_; rintro e w3 ⟨x3, rfl, ⟨i3, j3⟩, hb3, hw3⟩; have HX3 := Lib.hid hb3; have HB3 := Lib.hid ((HB2.out).trans hw3); clear hb3 hw3)
      | (go_at_call 96; refine (M.out w3 x1 x2 x3 HB3.out HX3.out (by have := HQ.out; omega) (by have := HQ.out; omega) (by have := HQ.out; omega) (by have := HQ.out; omega) (by have := HQ.out; omega) (by have := HQ.out; omega) _ _ _ (by have := HQ.out; omega) (by have := HQ.out; omega) (by have := HQ.out; omega)).mono ?_; rintro e w4 ⟨x4, rfl, ⟨i4, j4⟩, ⟨s, hs, hfs⟩, hw4⟩; have HB4 := Lib.hid ((HB3.out).trans hw4); clear hw4))
    all_goals go_ret2
    · exact ⟨x4, 1, rfl, ⟨i4, j4⟩, by simp, HB4.out⟩
    · exact ⟨x4, 2, rfl, ⟨i4, j4⟩, by simp, HB4.out⟩
    · exact ⟨x4, 0, rfl, ⟨i4, j4⟩, by simp, HB4.out⟩
  · have h50z : ¬ (50 ≤ (N : Int)) := by omega
    have h8z : 8 ≤ (N : Int) := by omega
    go_enter Try.func84, Try.ntmps84
    go_wp2_with fail
    simp only [show (a : Int) + N - a = N from by omega]
    rw [← HW0.out]
    go_wp2_with (go_at_call 96; refine (M.out W0 (a + q) (a + 2 * q) (a + 3 * q) HB0.out HX0.out (by have := HQ.out; omega) (by have := HQ.out; omega) (by have := HQ.out; omega) (by have := HQ.out; omega) (by have := HQ.out; omega) (by have := HQ.out; omega) _ _ _ (by have := HQ.out; omega) (by have := HQ.out; omega) (by have := HQ.out; omega)).mono ?_; rintro e w4 ⟨x4, rfl, ⟨i4, j4⟩, ⟨s, hs, hfs⟩, hw4⟩; have HB4 := Lib.hid ((HB0.out).trans hw4); clear hw4)
    all_goals go_ret2
    · exact ⟨x4, 1, rfl, ⟨i4, j4⟩, by simp, HB4.out⟩
    · exact ⟨x4, 2, rfl, ⟨i4, j4⟩, by simp, HB4.out⟩
    · exact ⟨x4, 0, rfl, ⟨i4, j4⟩, by simp, HB4.out⟩
end Go.Proofs.Ytbemphfijkcbhaa
/- The row as a whole: what it holds, and that all else is as it was (but for new blocks). -/
namespace Go.Proofs.Ytbemphfijkcbhaa
open Go.RowKit Go.Shelf Go.Lib Go.Sort Go.Proofs

structure St (w W : World) (blk off : Nat) (d : Array Int) : Prop where
  holds : Holds encU W blk off d
  grown : w.grownBy W (some blk)
  shape : ∀ c e fr, w.heap[blk]? = some (.cells c e fr) → ∃ c', W.heap[blk]? = some (.cells c' e fr) ∧ c'.size = c.size
  lt : blk < w.heap.size
section
variable {w W W' : World} {blk off : Nat} {d d' : Array Int}
theorem St.refl (h : Holds encU w blk off d) (hlt : blk < w.heap.size) : St w w blk off d := ⟨h, World.grownBy.refl _ _, fun c _ _ hc => ⟨c, hc, rfl⟩, hlt⟩
theorem St.below (h : St w W blk off d) (hb : RowKit.Below W.heap.size W W') : St w W' blk off d := by
  have hl := Nat.lt_of_lt_of_le h.lt h.grown.size
  refine ⟨fun j hj => ⟨(hb.cell hl).trans (h.holds j hj).1, (hb.frozen hl).trans (h.holds j hj).2⟩, h.grown.trans ⟨hb.os, hb.tape, hb.output, hb.size, fun k hk _ => hb.block k hk⟩, fun c e fr hc => ?_, h.lt⟩
  obtain ⟨c', h1, h2⟩ := h.shape c e fr hc
  exact ⟨c', (hb.block blk hl).trans h1, h2⟩
theorem grownBy_putRow (W : World) (n blk off : Nat) (d : Array Int) : W.grownBy (putRow encU (Sort.ahead W n) blk off d) (some blk) := by
  refine ⟨rfl, rfl, rfl, by simp, fun k hk hne => ?_⟩
  have : blk ≠ k := fun e => hne (by rw [e])
  simp [putRow, mapBlock, Sort.ahead, Array.getElem?_modify, this]
theorem St.put (h : St w W blk off d) {n : Nat} (hs : d'.size = d.size) (hW : W' = putRow encU (Sort.ahead W n) blk off d') : St w W' blk off d' := by
  subst hW
  refine ⟨holds_putRow encU _ blk off d d' (holds_ahead encU W n blk off d h.holds) hs, h.grown.trans (grownBy_putRow W n blk off d'), fun c e fr hc => ?_, h.lt⟩
  obtain ⟨c', h1, h2⟩ := h.shape c e fr hc
  refine ⟨putCells encU off d' c', ?_, by simp [putCells, h2]⟩
  simp [putRow, mapBlock, Sort.ahead, Array.getElem?_modify, h1, onCells]
theorem swap_put (h : Holds encU W blk off d) {i j : Nat} (hi : i < d.size) (hj : j < d.size) (q : Nat) :
    ((W.drewN q).setCell ⟨blk, off + i, none⟩ (encU d[j]!)).setCell ⟨blk, off + j, none⟩ (encU d[i]!) = putRow encU (Sort.ahead W q) blk off (swp d i j) := by
  have := swap_worldA encU W 0 q blk off d i j hi hj
  rw [show putRow encU (Sort.ahead W 0) blk off d = W from putRow_self encU W blk off d h] at this
  rwa [Nat.zero_add] at this
theorem St.swap (h : St w W blk off d) {i j : Nat} (hi : i < d.size) (hj : j < d.size) (q : Nat) :
    St w (((W.drewN q).setCell ⟨blk, off + i, none⟩ (encU d[j]!)).setCell ⟨blk, off + j, none⟩ (encU d[i]!)) blk off (swp d i j) :=
  h.put (size_swp d i j) (swap_put h.holds hi hj q)
theorem St.other (h : St w W blk off d) {sb : Nat} (hs : w.heap.size ≤ sb) (v : Value) (q : Nat) : St w ((W.setCell ⟨sb, 0, none⟩ v).drewN q) blk off d := by
  have hne : sb ≠ blk := by have := h.lt; omega
  have hcell : ∀ a : Addr, a.block = blk → (W.setCell ⟨sb, 0, none⟩ v).cell? a = W.cell? a := fun a ha => World.cell?_setCell_far W ⟨sb, 0, none⟩ a v (by simp [ha, hne])
  have hblk : ∀ k, k ≠ sb → (W.setCell ⟨sb, 0, none⟩ v).heap[k]? = W.heap[k]? := fun k hk => RowKit.Below.heap_setCell W ⟨sb, 0, none⟩ v k hk
  have hB : RowKit.Below sb W ((W.setCell ⟨sb, 0, none⟩ v).drewN q) := below_drewN ((RowKit.Below.refl sb W).setCell (Nat.le_refl _) v) q
  refine ⟨fun j hj => ⟨(hcell _ rfl).trans (h.holds j hj).1, ?_⟩, ?_, fun c e fr hc => ?_, h.lt⟩
  · have := (h.holds j hj).2
    rw [World.frozen?_drewN, World.frozen?_setCell]
    exact this
  · exact ⟨hB.os.trans h.grown.os, hB.tape.trans h.grown.tape, hB.output.trans h.grown.output, Nat.le_trans h.grown.size hB.size, fun k hk hk2 => (hblk k (by omega)).trans (h.grown.block k hk hk2)⟩
  · obtain ⟨c', h1, h2⟩ := h.shape c e fr hc
    exact ⟨c', (hblk blk (Ne.symm hne)).trans h1, h2⟩
end
theorem st_view {w W : World} {blk off : Nat} {dk : Array Int} {m : Nat} (h : St w W blk off dk) (hs : dk.size = m) :
    ∃ G : Nat → Int, (∀ t, G t = dk[t]!) ∧ (∀ t, t < m → W.cell? ⟨blk, off + t, none⟩ = some (.int .u64 (G t))) ∧ (∀ t, t < m → W.frozen? ⟨blk, off + t, none⟩ = false) :=
  ⟨fun t => dk[t]!, fun _ => rfl, fun t ht => (h.holds t (by omega)).1, fun t ht => (h.holds t (by omega)).2⟩
end Go.Proofs.Ytbemphfijkcbhaa
/- breakPatternsOrdered: the numbers are permuted within the part. -/
namespace Go.Proofs.Ytbemphfijkcbhaa
open Go.RowKit Go.Shelf Go.Lib Go.Sort Go.Proofs

theorem npot_any (n : Nat) (hn : n < 1000000) (w : World) : Calls Try.prog 93 #[.int .i64 n] w fun e w' => e = .returned (.int .u64 ((1 <<< bitsLen n : Nat) : Int)) ∧ w' = w :=
  AnyF.nextPowerOfTwo (P := Try.prog) (ρ := layF_ren) { layF with } n (by omega) w
theorem next_any (rb X : Nat) (hX : X < 18446744073709551616) (w : World) (hc : w.cell? ⟨rb, 0, none⟩ = some (.int .u64 X)) (hf : w.frozen? ⟨rb, 0, none⟩ = false) :
    Calls Try.prog 94 #[.pointer (some ⟨rb, 0, none⟩)] w fun e w' => e = .returned (.int .u64 (xorNextN X : Nat)) ∧ w' = (w.setCell ⟨rb, 0, none⟩ (.int .u64 (xorNextN X : Nat))).drewN 3 :=
  AnyF.xorshift_Next (P := Try.prog) (ρ := layF_ren) { layX with } rb 0 X hX w hc hf

theorem box_far {W : World} {sb blk : Nat} {v : Value} (h : W.cell? ⟨sb, 0, none⟩ = some v ∧ W.frozen? ⟨sb, 0, none⟩ = false) (hne : blk ≠ sb) (i j : Nat) (u u' : Value) {q : Nat} :
    (((W.drewN q).setCell ⟨blk, i, none⟩ u).setCell ⟨blk, j, none⟩ u').cell? ⟨sb, 0, none⟩ = some v ∧ (((W.drewN q).setCell ⟨blk, i, none⟩ u).setCell ⟨blk, j, none⟩ u').frozen? ⟨sb, 0, none⟩ = false := by
  refine ⟨?_, ?_⟩
  · rw [World.cell?_setCell_far _ ⟨blk, j, none⟩ ⟨sb, 0, none⟩ _ hne, World.cell?_setCell_far _ ⟨blk, i, none⟩ ⟨sb, 0, none⟩ _ hne, World.cell?_drewN]; exact h.1
  · rw [World.frozen?_setCell, World.frozen?_setCell, World.frozen?_drewN]; exact h.2
set_option maxHeartbeats 4000000 in
set_option maxRecDepth 100000 in
theorem break_any (blk off cap a N : Nat) (d : Array Int) (w0 w : World) (h0 : St w0 w blk off d) (hN : 12 < N) (hb : a + N ≤ d.size) (hsz : d.size < 1000000) :
    Calls Try.prog 83 #[.slice (some ⟨blk, off, none⟩) d.size cap, .int .i64 a, .int .i64 ((a : Int) + N)] w fun e w' =>
      e = .returned (.tuple #[]) ∧ ∃ d', PermIn a (a + N) d d' ∧ St w0 w' blk off d' := by
  obtain ⟨M, hM⟩ : ∃ M : Nat, M = 1 <<< bitsLen N := ⟨_, rfl⟩
  have hM1 : 1 ≤ M := by rw [hM, Nat.one_shiftLeft]; exact Nat.two_pow_pos _
  have hM2 : M ≤ 2 * N := by rw [hM, Nat.one_shiftLeft]; exact two_pow_bitsLen_le (by omega)
  have HN := Lib.hid (show ∀ w, Calls Try.prog 93 #[.int .i64 N] w fun e w' => e = .returned (.int .u64 (M : Int)) ∧ w' = w by rw [hM]; exact fun w => npot_any N (by omega) w)
  have H0 := Lib.hid h0
  have hsb := h0.grown.size
  have h8z : (8 : Int) ≤ (N : Int) := by omega
  have hLz : ((a : Int) + (N : Int) - (a : Int)) = (N : Int) := by omega
  clear hM h0
  go_enter Try.func83, Try.ntmps83
  go_wp2_with (go_at_call 93; refine (HN.out _).mono ?_; rintro e w' ⟨rfl, rfl⟩)
  obtain ⟨Q, hQ⟩ : ∃ Q, Q = N / 4 := ⟨_, rfl⟩
  have HQ := Lib.hid (show (N : Int) / 4 = (Q : Int) ∧ 4 * Q ≤ N ∧ N < 4 * Q + 4 by omega)
  have hQ3 : 3 ≤ Q := by omega
  have hQN : 4 * Q ≤ N := by omega
  have HNE := Lib.hid (show blk ≠ w.heap.size by have := H0.out.lt; have := H0.out.grown.size; omega)
  clear hQ
  go_loopw [9] (fun vi wr => ∃ (x X : Nat) (dk : Array Int), vi = .int .i64 x ∧ a ≤ x ∧ x ≤ a + Q * 2 + 2 ∧ Hid (PermIn a (a + N) d dk) ∧ X < 18446744073709551616 ∧ Hid (St w0 wr blk off dk) ∧ Hid (wr.cell? ⟨w.heap.size, 0, none⟩ = some (.int .u64 (X : Int)) ∧ wr.frozen? ⟨w.heap.size, 0, none⟩ = false)) (fun vi _ => a + Q * 2 + 2 - (intOf vi).toNat)
  case atStart => exact ⟨a + Q * 2 - 1, N, d, by congr 1; have := HQ.out; omega, by omega, by omega, Lib.hid (permIn_refl d a (a + N)), by omega, Lib.hid (H0.out.below ((RowKit.Below.refl _ w).alloc (Nat.le_refl _) _)), Lib.hid (by simp)⟩
  case round =>
    obtain ⟨x, X, dk, rfl, hax, hxq, HP, lX, HSt, BX0⟩ := hrel
    have hsk := HP.out.1
    by_cases hlt : x ≤ a + Q * 2 + 1
    · have hlt2 : (x : Int) ≤ (a : Int) + (N : Int) / 4 * 2 + 1 := by have := HQ.out; omega
      have hxN : x < a + N := by omega
      obtain ⟨R', hR'⟩ : ∃ R' : Nat, R' = xorNextN X := ⟨_, rfl⟩
      have lR' : R' < 18446744073709551616 := by rw [hR']; exact xorNextN_lt X lX
      obtain ⟨O, hO⟩ : ∃ O : Nat, O = R' &&& (M - 1) := ⟨_, rfl⟩
      have lO : O ≤ M - 1 := by rw [hO]; exact Nat.and_le_right
      have eAnd : bits .and .u64 (R' : Int) ((M : Int) - 1) = (O : Int) := by
        rw [show ((M : Int) - 1) = ((M - 1 : Nat) : Int) by omega, bits_and_u64_nat _ _ lR' (by omega), hO]
      have hNext := next_any w.heap.size X lX wr BX0.out.1 BX0.out.2
      rw [← hR'] at hNext
      have HX := Lib.hid hNext
      have S2 := Lib.hid (HSt.out.other (sb := w.heap.size) hsb (.int .u64 (R' : Int)) 3)
      have BX := Lib.hid (show ((wr.setCell ⟨w.heap.size, 0, none⟩ (.int .u64 (R' : Int))).drewN 3).cell? ⟨w.heap.size, 0, none⟩ = some (.int .u64 (R' : Int)) ∧ ((wr.setCell ⟨w.heap.size, 0, none⟩ (.int .u64 (R' : Int))).drewN 3).frozen? ⟨w.heap.size, 0, none⟩ = false by
        rw [World.cell?_drewN, World.frozen?_drewN, World.frozen?_setCell]
        exact ⟨World.cell?_setCell_same _ _ _ BX0.out.1, BX0.out.2⟩)
      clear hR' hO hNext HSt BX0
      generalize (wr.setCell ⟨w.heap.size, 0, none⟩ (.int .u64 (R' : Int))).drewN 3 = w2 at HX S2 BX
      obtain ⟨G, hG, hcw, hfw⟩ := st_view S2.out hsk
      have HG := Lib.hid hG
      clear hG
      have hOz : (O : Int) ≤ 2000000 := by omega
      by_cases hNO : N ≤ O
      · have hNOz : (N : Int) ≤ (O : Int) := by omega
        obtain ⟨y, hy⟩ : ∃ y, y = O - N := ⟨_, rfl⟩
        have hyN : y < N := by omega
        have hyz : (O : Int) - (N : Int) = (y : Int) := by omega
        clear hy
        go_wp2_with (go_at_call 94; refine HX.out.mono ?_; rintro e w3 ⟨rfl, rfl⟩)
        clear eAnd hlt2 hyz
        rcases Nat.lt_trichotomy x (a + y) with hxy | hxy | hxy
        · go_region
          all_goals go_wp2
          go_roundw
          case rel => exact ⟨x + 1, R', swp dk x (a + y), by go_num, by omega, by omega, Lib.hid (perm_swp HP.out (by omega) (by omega) (by omega) (by omega) (by omega)), lR', Lib.hid (by have := S2.out.swap (i := x) (j := (a + y)) (by omega) (by omega) 1; rw [← HG.out, ← HG.out] at this; exact this), Lib.hid (box_far BX.out HNE.out _ _ _ _)⟩
          case measure => simp [intOf]; omega
        · subst hxy
          go_region
          all_goals go_wp2
          go_roundw
          case rel => exact ⟨(a + y) + 1, R', swp dk (a + y) (a + y), by go_num, by omega, by omega, Lib.hid (perm_swp HP.out (by omega) (by omega) (by omega) (by omega) (by omega)), lR', Lib.hid (by have := S2.out.swap (i := (a + y)) (j := (a + y)) (by omega) (by omega) 1; rw [← HG.out] at this; exact this), Lib.hid (box_far BX.out HNE.out _ _ _ _)⟩
          case measure => simp [intOf]; omega
        · go_region
          all_goals go_wp2
          go_roundw
          case rel => exact ⟨x + 1, R', swp dk x (a + y), by go_num, by omega, by omega, Lib.hid (perm_swp HP.out (by omega) (by omega) (by omega) (by omega) (by omega)), lR', Lib.hid (by have := S2.out.swap (i := x) (j := (a + y)) (by omega) (by omega) 1; rw [← HG.out, ← HG.out] at this; exact this), Lib.hid (box_far BX.out HNE.out _ _ _ _)⟩
          case measure => simp [intOf]; omega
      · have hNOz : ¬ ((N : Int) ≤ (O : Int)) := by omega
        have hyN : O < N := by omega
        go_wp2_with (go_at_call 94; refine HX.out.mono ?_; rintro e w3 ⟨rfl, rfl⟩)
        clear eAnd hlt2
        rcases Nat.lt_trichotomy x (a + O) with hxy | hxy | hxy
        · go_region
          all_goals go_wp2
          go_roundw
          case rel => exact ⟨x + 1, R', swp dk x (a + O), by go_num, by omega, by omega, Lib.hid (perm_swp HP.out (by omega) (by omega) (by omega) (by omega) (by omega)), lR', Lib.hid (by have := S2.out.swap (i := x) (j := (a + O)) (by omega) (by omega) 1; rw [← HG.out, ← HG.out] at this; exact this), Lib.hid (box_far BX.out HNE.out _ _ _ _)⟩
          case measure => simp [intOf]; omega
        · subst hxy
          go_region
          all_goals go_wp2
          go_roundw
          case rel => exact ⟨(a + O) + 1, R', swp dk (a + O) (a + O), by go_num, by omega, by omega, Lib.hid (perm_swp HP.out (by omega) (by omega) (by omega) (by omega) (by omega)), lR', Lib.hid (by have := S2.out.swap (i := (a + O)) (j := (a + O)) (by omega) (by omega) 1; rw [← HG.out] at this; exact this), Lib.hid (box_far BX.out HNE.out _ _ _ _)⟩
          case measure => simp [intOf]; omega
        · go_region
          all_goals go_wp2
          go_roundw
          case rel => exact ⟨x + 1, R', swp dk x (a + O), by go_num, by omega, by omega, Lib.hid (perm_swp HP.out (by omega) (by omega) (by omega) (by omega) (by omega)), lR', Lib.hid (by have := S2.out.swap (i := x) (j := (a + O)) (by omega) (by omega) 1; rw [← HG.out, ← HG.out] at this; exact this), Lib.hid (box_far BX.out HNE.out _ _ _ _)⟩
          case measure => simp [intOf]; omega
    · have hlt2 : ¬ ((x : Int) ≤ (a : Int) + (N : Int) / 4 * 2 + 1) := by have := HQ.out; omega
      go_wp2
      go_end0
      exact ⟨rfl, dk, HP.out, HSt.out⟩
end Go.Proofs.Ytbemphfijkcbhaa
/- partialInsertionSortOrdered at []uint64: the scan, the two shifts, each walked once. -/
namespace Go.Proofs.Ytbemphfijkcbhaa
open Go.RowKit Go.Shelf Go.Lib Go.Sort Go.Proofs

set_option maxHeartbeats 8000000 in
set_option maxRecDepth 100000 in
theorem pins_any (blk off cap a b : Nat) (d : Array Int) (w : World) (hH : Holds encU w blk off d) (hab : a < b) (hb : b ≤ d.size) (hsz : d.size < 1000000) :
    Calls Try.prog 86 #[.slice (some ⟨blk, off, none⟩) d.size cap, .int .i64 a, .int .i64 b] w fun e w' =>
      e = .returned (.bool (Sort.partialInsertionSort ltInt d a b).2) ∧ ∃ n, w' = putRow encU (Sort.ahead w n) blk off (Sort.partialInsertionSort ltInt d a b).1 := by
  have HH := Lib.hid hH
  have HST := Lib.hid (putRow_self encU w blk off d hH).symm
  clear hH
  go_enter Try.func86, Try.ntmps86
  go_wp2
  go_loopw [7, 8] (fun vi vs wr => ∃ (i s n : Nat) (dk : Array Int), vi = .int .i64 i ∧ vs = .int .i64 s ∧ s ≤ 5 ∧ a < i ∧ i ≤ b ∧ dk.size = d.size ∧ Hid (wr = putRow encU (Sort.ahead w n) blk off dk) ∧ Hid (partialIns ltInt a b (5 - s) i dk = partialIns ltInt a b 5 (a + 1) d)) (fun _ vs _ => 5 - (intOf vs).toNat)
  case atStart => exact ⟨a + 1, 0, 0, d, by go_num, rfl, by omega, by omega, by omega, rfl, HST, Lib.hid rfl⟩
  case round =>
    obtain ⟨i, s, n, dk, rfl, rfl, hs5, hai, hib, hsk, HW, HO⟩ := hrel
    clear HST
    rcases Nat.lt_or_ge s 5 with hs | hs
    · go_upto_block 2 with fail
      go_cut [7] from 13 to 132 (fun v7 wx => ∃ k m : Nat, v7 = .int .i64 k ∧ a < k ∧ k ≤ b ∧ Hid (scanSorted ltInt dk b i = k) ∧ Hid (wx = putRow encU (Sort.ahead w m) blk off dk))
      case first =>
        obtain ⟨wo, rfl⟩ : ∃ wo : World, wo = wr := ⟨_, rfl⟩
        go_wp2_with fail
        go_loopw [7] (fun vi wr2 => ∃ (k m : Nat), vi = .int .i64 k ∧ i ≤ k ∧ k ≤ b ∧ Hid (wr2 = putRow encU (Sort.ahead w m) blk off dk) ∧ Hid (scanSorted ltInt dk b i = scanSorted ltInt dk b k)) (fun vi _ => b - (intOf vi).toNat)
        case atStart => exact ⟨i, n, rfl, Nat.le_refl _, hib, HW, Lib.hid rfl⟩
        case round =>
          obtain ⟨k, m, rfl, hik, hkb, HW2, HS⟩ := hrel
          obtain ⟨G, hG, hcw, hfw⟩ := row_view HH.out hsk HW2.out
          have HG := Lib.hid hG
          clear hG
          by_cases hlt : k < b
          · have hltz : (k : Int) < (b : Int) := by omega
            go_wp2_with fail
            go_big_quiet (first | (go_at_call 87; refine Calls.quiet_of_same (less_any _ _ _)))
            go_wp2_with fail
            · have hx : (!ltInt (G k) (G (k - 1))) = true := by assumption
              have hl := not_true hx
              rw [HG.out, HG.out] at hl
              have HL := Lib.hid hl
              clear hx hl
              go_roundw
              case rel => exact ⟨k + 1, m + nq, by go_num, by omega, by omega, Lib.hid (by rw [HW2.out]; exact putRow_drewN _ _ _ _ _ _ _), Lib.hid (by rw [HS.out, scanSorted_go ltInt dk b k hlt HL.out])⟩
              case measure => simp [intOf]; omega
            · have hx : (!ltInt (G k) (G (k - 1))) = false := by assumption
              have hl := not_false' hx
              rw [HG.out, HG.out] at hl
              have HL := Lib.hid hl
              clear hx hl
              go_meet
              case rel => exact ⟨k, m + nq, rfl, by omega, by omega, Lib.hid (by rw [HS.out, scanSorted_stop ltInt dk b k (Or.inr HL.out)]), Lib.hid (by rw [HW2.out]; exact putRow_drewN _ _ _ _ _ _ _)⟩
          · have hltz : decide ((k : Int) < (b : Int)) = false := decide_eq_false (by omega)
            go_wp2_with fail
            go_big_quiet (first | (go_at_call 87; refine Calls.quiet_of_same (less_any _ _ _)))
            go_wp2_with fail
            go_meet
            case rel => exact ⟨k, m + nq, rfl, by omega, by omega, Lib.hid (by rw [HS.out, scanSorted_stop ltInt dk b k (Or.inl hlt)]), Lib.hid (by rw [HW2.out]; exact putRow_drewN _ _ _ _ _ _ _)⟩
      case rest =>
        obtain ⟨k, m, rfl, hak, hkb, HS, HW2⟩ := hcut
        obtain ⟨wa, rfl⟩ : ∃ wa : World, wa = wc := ⟨_, rfl⟩
        clear HW
        by_cases hkb2 : b = k
        · have HV := Lib.hid (show Sort.partialInsertionSort ltInt d a b = (dk, true) by unfold Sort.partialInsertionSort; rw [← HO.out, pi_true ltInt a b s i dk hs (by rw [HS.out, hkb2])])
          subst hkb2
          go_wp2_with fail
          go_ret
          rw [HV.out]
          exact ⟨rfl, m, HW2.out⟩
        · have hkz : ((k : Int) == (b : Int)) = false := by simp; omega
          have hkz2 : ¬ ((k : Int) = (b : Int)) := by omega
          by_cases h50 : b - a < 50
          · have h50z : (b : Int) - (a : Int) < 50 := by omega
            have HV := Lib.hid (show Sort.partialInsertionSort ltInt d a b = (dk, false) by unfold Sort.partialInsertionSort; rw [← HO.out, pi_short ltInt a b s i dk hs (by rw [HS.out]; omega) h50])
            go_wp2_with fail
            go_ret
            rw [HV.out]
            exact ⟨rfl, m, HW2.out⟩
          · have h50z : ¬ ((b : Int) - (a : Int) < 50) := by omega
            obtain ⟨G, hG, hcw, hfw⟩ := row_view HH.out hsk HW2.out
            have HS1 := Lib.hid (show (((wa.setCell ⟨blk, off + k, none⟩ (.int .u64 (G (k - 1)))).setCell ⟨blk, off + (k - 1), none⟩ (.int .u64 (G k)))).drew = putRow encU (Sort.ahead w (m + 1)) blk off (swp dk k (k - 1)) from by
              rw [HW2.out, hG, hG]; exact swap_worldA encU w m 1 blk off dk k (k - 1) (by omega) (by omega))
            have hz1 : (swp dk k (k - 1)).size = d.size := by rw [size_swp]; exact hsk
            have HZ1 := Lib.hid hz1
            clear hG hz1
            go_wp2_with fail
            go_region
            go_upto_if 61 with fail
            obtain ⟨w1, hw1⟩ : ∃ w1, w1 = (((wa.setCell ⟨blk, off + k, none⟩ (.int .u64 (G (k - 1)))).setCell ⟨blk, off + (k - 1), none⟩ (.int .u64 (G k)))).drew := ⟨_, rfl⟩
            have HW3 := Lib.hid (hw1.trans HS1.out)
            rw [← hw1]
            clear hw1 HS1 hcw hfw hkz hkz2 h50z
            go_cut [] from 13 to 132 (fun wx => ∃ m2, Hid (wx = putRow encU (Sort.ahead w m2) blk off (fixDown ltInt a k (swp dk k (k - 1)))))
            case first =>
              by_cases hka : k - a ≥ 2
              · have hkaz : 2 ≤ (k : Int) - (a : Int) := by omega
                go_wp2_with fail
                go_loopw [9] (fun vj wr2 => ∃ (j m2 : Nat) (dj : Array Int), vj = .int .i64 j ∧ j ≤ k - 1 ∧ dj.size = d.size ∧ Hid (wr2 = putRow encU (Sort.ahead w m2) blk off dj) ∧ Hid (shiftDown ltInt j dj = shiftDown ltInt (k - 1) (swp dk k (k - 1)))) (fun vj _ => (intOf vj).toNat)
                case atStart => exact ⟨k - 1, m + 1, _, by congr 1; omega, Nat.le_refl _, HZ1.out, HW3, Lib.hid rfl⟩
                case round =>
                  obtain ⟨j, m2, dj, rfl, hjk, hsj, HW4, HD⟩ := hrel
                  obtain ⟨G2, hG, hcw, hfw⟩ := row_view HH.out hsj HW4.out
                  have HG := Lib.hid hG
                  clear hG
                  by_cases hj : 1 ≤ j
                  · have hjz : 1 ≤ (j : Int) := by omega
                    go_wp2_with fail
                    go_big_quiet (first | (go_at_call 87; refine Calls.quiet_of_same (less_any _ _ _)))
                    go_wp2_with fail
                    · have hx : (!ltInt (G2 j) (G2 (j - 1))) = true := by assumption
                      have hl := not_true hx
                      rw [HG.out, HG.out] at hl
                      have HL := Lib.hid hl
                      clear hx hl
                      go_meet
                      case rel => exact ⟨m2 + nq, Lib.hid (by rw [show fixDown ltInt a k (swp dk k (k - 1)) = dj from by unfold fixDown; rw [if_pos hka, ← HD.out, shiftDown_stop ltInt j dj (Or.inr HL.out)], HW4.out]; exact putRow_drewN _ _ _ _ _ _ _)⟩
                    · have hx : (!ltInt (G2 j) (G2 (j - 1))) = false := by assumption
                      have hl := not_false' hx
                      rw [HG.out, HG.out] at hl
                      have HL := Lib.hid hl
                      clear hx hl
                      obtain ⟨W5, hWq, HW5, hcw2, hfw2⟩ := drew_view (q := nq) HW4 hcw hfw
                      rw [← hWq]
                      clear hcw hfw hWq
                      go_region
                      all_goals go_wp2_with fail
                      go_roundw
                      case rel =>
                        refine ⟨j - 1, m2 + nq + 1, swp dj j (j - 1), by congr 1; omega, by omega, by rw [size_swp]; exact hsj, Lib.hid ?_, Lib.hid ?_⟩
                        · rw [HW5.out, HG.out, HG.out]
                          exact swap_worldA encU w (m2 + nq) 1 blk off dj j (j - 1) (by omega) (by omega)
                        · rw [← HD.out, shiftDown_go ltInt j dj hj HL.out]
                      case measure => simp [intOf]; omega
                  · have hjz : ¬ (1 ≤ (j : Int)) := by omega
                    go_wp2_with fail
                    go_meet
                    case rel => exact ⟨m2, Lib.hid (by rw [show fixDown ltInt a k (swp dk k (k - 1)) = dj from by unfold fixDown; rw [if_pos hka, ← HD.out, shiftDown_stop ltInt j dj (Or.inl (by omega))]]; exact HW4.out)⟩
              · have hkaz : ¬ (2 ≤ (k : Int) - (a : Int)) := by omega
                go_wp2_with fail
                go_meet
                case rel => exact ⟨m + 1, Lib.hid (by rw [show fixDown ltInt a k (swp dk k (k - 1)) = swp dk k (k - 1) from by unfold fixDown; rw [if_neg hka]]; exact HW3.out)⟩
            case rest =>
              obtain ⟨m2, HW4⟩ := hcut
              obtain ⟨wb, rfl⟩ : ∃ wb : World, wb = wc := ⟨_, rfl⟩
              obtain ⟨d2, hd2⟩ : ∃ d2, d2 = fixDown ltInt a k (swp dk k (k - 1)) := ⟨_, rfl⟩
              have hs2 : d2.size = d.size := by
                rw [hd2]; unfold fixDown; split
                · rw [show ∀ (j : Nat) (x : Array Int), (shiftDown ltInt j x).size = x.size from fun j => by
                    induction j with
                    | zero => intro x; rfl
                    | succ j ih => intro x; unfold shiftDown; split; rfl; rw [ih, size_swp]]
                  exact HZ1.out
                · exact HZ1.out
              have HD2 := Lib.hid hd2
              rw [← hd2] at HW4
              clear hd2
              clear HW3
              have END := Lib.hid (show ∀ (dj : Array Int) (m3 : Nat) (W : World), fixUp ltInt b k d2 = dj → dj.size = d.size → W = putRow encU (Sort.ahead w m3) blk off dj →
                  ∃ (i s' n : Nat) (dk' : Array Int), Value.int .i64 (k : Int) = .int .i64 i ∧ Value.int .i64 ((s : Int) + 1) = .int .i64 s' ∧ s' ≤ 5 ∧ a < i ∧ i ≤ b ∧ dk'.size = d.size ∧ Hid (W = putRow encU (Sort.ahead w n) blk off dk') ∧ Hid (partialIns ltInt a b (5 - s') i dk' = partialIns ltInt a b 5 (a + 1) d) from
                fun dj m3 W h1 h2 h3 => ⟨k, s + 1, m3, dj, rfl, by go_num, by omega, hak, hkb, h2, Lib.hid h3, Lib.hid (by rw [← HO.out, pi_go ltInt a b s i k dk hs HS.out (by omega) h50, ← HD2.out, h1])⟩)
              clear HD2 HS HO
              by_cases hka : b - k ≥ 2
              · have hkaz : 2 ≤ (b : Int) - (k : Int) := by omega
                go_wp2_with fail
                go_loopw [10] (fun vj wr2 => ∃ (j m3 : Nat) (dj : Array Int), vj = .int .i64 j ∧ k + 1 ≤ j ∧ j ≤ b ∧ dj.size = d.size ∧ Hid (wr2 = putRow encU (Sort.ahead w m3) blk off dj) ∧ Hid (shiftUp ltInt b j dj = shiftUp ltInt b (k + 1) d2)) (fun vj _ => b - (intOf vj).toNat)
                case atStart => exact ⟨k + 1, m2, d2, by go_num, Nat.le_refl _, by omega, hs2, HW4, Lib.hid rfl⟩
                case round =>
                  obtain ⟨j, m3, dj, rfl, hjk, hjb, hsj, HW5, HD⟩ := hrel
                  obtain ⟨G2, hG, hcw, hfw⟩ := row_view HH.out hsj HW5.out
                  have HG := Lib.hid hG
                  clear hG
                  by_cases hj : j < b
                  · have hjz : (j : Int) < (b : Int) := by omega
                    go_wp2_with fail
                    go_big_quiet (first | (go_at_call 87; refine Calls.quiet_of_same (less_any _ _ _)))
                    go_wp2_with fail
                    · have hx : (!ltInt (G2 j) (G2 (j - 1))) = true := by assumption
                      have hl := not_true hx
                      rw [HG.out, HG.out] at hl
                      have HL := Lib.hid hl
                      clear hx hl
                      go_roundw
                      case rel => exact END.out dj (m3 + nq) _ (by unfold fixUp; rw [if_pos hka, ← HD.out, shiftUp_stop ltInt b j dj (Or.inr HL.out)]) hsj (by rw [HW5.out]; exact putRow_drewN _ _ _ _ _ _ _)
                      case measure => simp [intOf]; omega
                    · have hx : (!ltInt (G2 j) (G2 (j - 1))) = false := by assumption
                      have hl := not_false' hx
                      rw [HG.out, HG.out] at hl
                      have HL := Lib.hid hl
                      clear hx hl
                      obtain ⟨W5, hWq, HW6, hcw2, hfw2⟩ := drew_view (q := nq) HW5 hcw hfw
                      rw [← hWq]
                      clear hcw hfw hWq
                      go_region
                      all_goals go_wp2_with fail
                      go_roundw
                      case rel =>
                        refine ⟨j + 1, m3 + nq + 1, swp dj j (j - 1), by go_num, by omega, by omega, by rw [size_swp]; exact hsj, Lib.hid ?_, Lib.hid ?_⟩
                        · rw [HW6.out, HG.out, HG.out]
                          exact swap_worldA encU w (m3 + nq) 1 blk off dj j (j - 1) (by omega) (by omega)
                        · rw [← HD.out, shiftUp_go ltInt b j dj hj HL.out]
                      case measure => simp [intOf]; omega
                  · have hjz : ¬ ((j : Int) < (b : Int)) := by omega
                    go_wp2_with fail
                    go_roundw
                    case rel => exact END.out dj m3 _ (by unfold fixUp; rw [if_pos hka, ← HD.out, shiftUp_stop ltInt b j dj (Or.inl hj)]) hsj HW5.out
                    case measure => simp [intOf]; omega
              · have hkaz : ¬ (2 ≤ (b : Int) - (k : Int)) := by omega
                go_wp2_with fail
                go_roundw
                case rel => exact END.out d2 m2 _ (by unfold fixUp; rw [if_neg hka]) hs2 HW4.out
                case measure => simp [intOf]; omega
    · obtain rfl : s = 5 := by omega
      have HV := Lib.hid (show Sort.partialInsertionSort ltInt d a b = (dk, false) by unfold Sort.partialInsertionSort; rw [← HO.out]; rfl)
      go_wp2_with fail
      go_ret
      rw [HV.out]
      exact ⟨rfl, n, HW.out⟩
end Go.Proofs.Ytbemphfijkcbhaa
/- pdqsortOrdered at []uint64: whatever row, it ends sorted. Each callee by what it promises (a permutation, and what the step needs); the pivot may be any. -/
namespace Go.Proofs.Ytbemphfijkcbhaa
open Go.RowKit Go.Shelf Go.Lib Go.Sort Go.Proofs

/-- Whatever sorts [a', b') of dk sorts [a, b) of d. -/
def Ends (a b : Nat) (d : Array Int) (a' b' : Nat) (dk : Array Int) : Prop := ∀ R, PermIn a' b' dk R → SortedIn ltInt a' b' R → PermIn a b d R ∧ SortedIn ltInt a b R
theorem Ends.perm {a b a' b' : Nat} {d dk dl : Array Int} (h : Ends a b d a' b' dk) (hp : PermIn a' b' dk dl) : Ends a b d a' b' dl := fun R h1 h2 => h R (permIn_trans _ _ _ _ _ hp h1) h2
theorem below_perm {a b : Nat} {d d' : Array Int} (h : Sort.Below ltInt a b d) (hb : b ≤ d.size) (hp : PermIn a b d d') : Sort.Below ltInt a b d' := Sort.Below.perm h hb hp
section
variable {a b a' b' mid : Nat} {d dk d4 L : Array Int}
/-- Behind partitionEqual: what is left of mid is done. -/
theorem ends_eq {p : Int} (h : Ends a b d a' b' dk) (hb : b' ≤ dk.size) (hm1 : a' < mid) (hm2 : mid ≤ b') (hp : PermIn a' b' dk d4) (hge : ∀ i, a' ≤ i → i < b' → ltInt dk[i]! p = false) (hle : ∀ i, a' ≤ i → i < mid → ltInt p d4[i]! = false) (hgt : ∀ i, mid ≤ i → i < b' → ltInt p d4[i]! = true) :
    Ends a b d mid b' d4 ∧ Sort.Below ltInt mid b' d4 := by
  have hb4 : b' ≤ d4.size := by rw [hp.1]; exact hb
  have hge4 := permIn_all dk d4 a' b' (fun x => ltInt x p = false) hb hp hge
  refine ⟨fun R h1 h2 => h R (permIn_trans _ _ _ _ _ hp (permIn_mono _ _ mid b' a' b' (by omega) (Nat.le_refl _) hb4 h1)) ?_, Or.inr fun i h1 h2 => ?_⟩
  · refine sorted_glue_eq swo_ltInt p h2 (fun i k1 k2 => ?_) (fun i k1 k2 => ?_) (permIn_all d4 R mid b' (fun x => ltInt p x = true) hb4 h1 hgt)
    · rw [h1.2.1 i (Or.inl k2)]; exact hle i k1 k2
    · rw [h1.2.1 i (Or.inl k2)]; exact hge4 i k1 (by omega)
  · have h3 := hgt i h1 h2
    have h4 := hle (mid - 1) (by omega) (by omega)
    simp [ltInt] at h3 h4 ⊢
    omega
/-- Behind partition and the sort of the left side. -/
theorem ends_left (h : Ends a b d a' b' dk) (hb : b' ≤ dk.size) (hm1 : a' ≤ mid) (hm2 : mid < b') (hp : PermIn a' b' dk d4) (hlo : ∀ i, a' ≤ i → i < mid → ltInt d4[i]! d4[mid]! = true) (hhi : ∀ i, mid < i → i < b' → ltInt d4[i]! d4[mid]! = false)
    (hL : PermIn a' mid d4 L) (hsL : SortedIn ltInt a' mid L) : Ends a b d (mid + 1) b' L ∧ Sort.Below ltInt (mid + 1) b' L := by
  have hb4 : b' ≤ d4.size := by rw [hp.1]; exact hb
  have hbL : b' ≤ L.size := by rw [hL.1]; exact hb4
  have eL : ∀ i, mid ≤ i → L[i]! = d4[i]! := fun i hi => hL.2.1 i (Or.inr hi)
  have hhL : ∀ i, mid < i → i < b' → ltInt L[i]! L[mid]! = false := fun i k1 k2 => by rw [eL i (by omega), eL mid (Nat.le_refl _)]; exact hhi i k1 k2
  refine ⟨fun R h1 h2 => h R (permIn_trans _ _ _ _ _ hp (permIn_trans _ _ _ _ _ (permIn_mono _ _ a' mid a' b' (Nat.le_refl _) (by omega) hb4 hL) (permIn_mono _ _ (mid + 1) b' a' b' (by omega) (Nat.le_refl _) hbL h1))) ?_, Or.inr fun i h1 h2 => by rw [Nat.add_sub_cancel]; exact hhL i (by omega) h2⟩
  have eR : ∀ i, i ≤ mid → R[i]! = L[i]! := fun i hi => h1.2.1 i (Or.inl (by omega))
  refine sorted_glue swo_ltInt (hsL.congr fun i _ k => eR i (by omega)) h2 (fun i k1 k2 => ?_) (fun i k1 k2 => ?_)
  · rw [eR i (by omega), eR mid (Nat.le_refl _), eL mid (Nat.le_refl _)]
    exact permIn_all d4 L a' mid (fun x => ltInt x d4[mid]! = true) (by omega) hL hlo i k1 k2
  · rw [eR mid (Nat.le_refl _)]
    exact permIn_all L R (mid + 1) b' (fun x => ltInt x L[mid]! = false) hbL h1 (fun t t1 t2 => hhL t (by omega) t2) i (by omega) k2
/-- Behind partition and the sort of the right side. -/
theorem ends_right (h : Ends a b d a' b' dk) (hBe : Sort.Below ltInt a' b' dk) (hb : b' ≤ dk.size) (hm1 : a' ≤ mid) (hm2 : mid < b') (hp : PermIn a' b' dk d4) (hlo : ∀ i, a' ≤ i → i < mid → ltInt d4[i]! d4[mid]! = true) (hhi : ∀ i, mid < i → i < b' → ltInt d4[i]! d4[mid]! = false)
    (hL : PermIn (mid + 1) b' d4 L) (hsL : SortedIn ltInt (mid + 1) b' L) : Ends a b d a' mid L ∧ Sort.Below ltInt a' mid L := by
  have hb4 : b' ≤ d4.size := by rw [hp.1]; exact hb
  have hbL : b' ≤ L.size := by rw [hL.1]; exact hb4
  have hPL := permIn_trans _ _ _ _ _ hp (permIn_mono _ _ (mid + 1) b' a' b' (by omega) (Nat.le_refl _) hb4 hL)
  have eL : ∀ i, i ≤ mid → L[i]! = d4[i]! := fun i hi => hL.2.1 i (Or.inl (by omega))
  refine ⟨fun R h1 h2 => h R (permIn_trans _ _ _ _ _ hPL (permIn_mono _ _ a' mid a' b' (Nat.le_refl _) (by omega) hbL h1)) ?_, Sort.Below.mono (below_perm hBe hb hPL) (by omega)⟩
  have eR : ∀ i, mid ≤ i → R[i]! = L[i]! := fun i hi => h1.2.1 i (Or.inr hi)
  refine sorted_glue swo_ltInt h2 (hsL.congr fun i k _ => eR i (by omega)) (fun i k1 k2 => ?_) (fun i k1 k2 => ?_)
  · rw [eR mid (Nat.le_refl _), eL mid (Nat.le_refl _)]
    exact permIn_all L R a' mid (fun x => ltInt x d4[mid]! = true) (by omega) h1 (fun t t1 t2 => by rw [eL t (by omega)]; exact hlo t t1 t2) i k1 k2
  · rw [eR i (by omega), eR mid (Nat.le_refl _), eL mid (Nat.le_refl _)]
    exact permIn_all d4 L (mid + 1) b' (fun x => ltInt x d4[mid]! = false) hb4 hL (fun t t1 t2 => hhi t (by omega) t2) i (by omega) k2
end

/-- What a round has. -/
structure Rd (w0 W : World) (blk off a b : Nat) (dk dl : Array Int) : Prop where
  perm : PermIn a b dk dl
  st : St w0 W blk off dl
theorem Rd.put {w0 W W' : World} {blk off a b n : Nat} {dk dl dm : Array Int} (h : Rd w0 W blk off a b dk dl) (hp : PermIn a b dl dm) (hW : W' = putRow encU (Sort.ahead W n) blk off dm) : Rd w0 W' blk off a b dk dm :=
  ⟨permIn_trans _ _ _ _ _ h.perm hp, h.st.put hp.1 hW⟩
theorem Rd.drew {w0 W : World} {blk off a b : Nat} {dk dl : Array Int} (h : Rd w0 W blk off a b dk dl) (q : Nat) : Rd w0 (W.drewN q) blk off a b dk dl :=
  ⟨h.perm, h.st.below (below_drewN (RowKit.Below.refl _ _) q)⟩

set_option maxHeartbeats 16000000 in
set_option maxRecDepth 1000000 in
theorem pdq_any : ∀ (N blk off cap a b lim : Nat) (d : Array Int) (w0 w : World), b - a < N → St w0 w blk off d → a ≤ b → b ≤ d.size → d.size < 1000000 → lim < 1000000 → Sort.Below ltInt a b d →
    Calls Try.prog 72 #[.slice (some ⟨blk, off, none⟩) d.size cap, .int .i64 a, .int .i64 b, .int .i64 lim] w fun e w' => e = .returned (.tuple #[]) ∧ ∃ d', (PermIn a b d d' ∧ SortedIn ltInt a b d') ∧ St w0 w' blk off d' := by
  intro N
  induction N with
  | zero => intro _ _ _ _ _ _ _ _ _ h; exact absurd h (Nat.not_lt_zero _)
  | succ N ih =>
    intro blk off cap a b lim d w0 w hN hSt hab hb hsz hlim hBe
    have IH := Lib.hid ih
    have H0 := Lib.hid hSt
    have HB0 := Lib.hid hBe
    clear ih hSt hBe
    go_enter Try.func72, Try.ntmps72
    go_wp2
    go_loopg [1, 2, 3, 8, 9] (b - a) (fun k s1 s2 s3 s8 s9 wr => ∃ (a' b' lm : Nat) (wb wp : Bool) (dk : Array Int), s1 = .int .i64 a' ∧ s2 = .int .i64 b' ∧ s3 = .int .i64 lm ∧ s8 = .bool wb ∧ s9 = .bool wp ∧
      a' ≤ b' ∧ b' ≤ d.size ∧ b' - a' ≤ k ∧ k ≤ b - a ∧ lm ≤ lim ∧ dk.size = d.size ∧ Hid (Sort.Below ltInt a' b' dk) ∧ Hid (St w0 wr blk off dk) ∧ Hid (Ends a b d a' b' dk))
    case atStart => exact ⟨a, b, lim, true, true, d, rfl, rfl, rfl, rfl, rfl, hab, hb, Nat.le_refl _, Nat.le_refl _, Nat.le_refl _, rfl, HB0, H0, Lib.hid fun R h1 h2 => ⟨h1, h2⟩⟩
    case round =>
      obtain ⟨a', b', lm, wb, wp, dk, rfl, rfl, rfl, rfl, rfl, hab', hb', hk, hkN, hlm, hds, HBe, HSt, HE⟩ := hrel
      have HDS := Lib.hid hds
      by_cases h12 : b' - a' ≤ 12
      · have h12z : (b' : Int) - (a' : Int) ≤ 12 := by omega
        have hc := insert_any blk off cap a' b' dk wr HSt.out.holds hab' (by omega) (by omega)
        rw [hds] at hc
        have HC := Lib.hid hc
        clear hc hds
        go_wp2_with (go_at_call 81; refine HC.out.mono ?_; rintro e w1 ⟨rfl, n1, hw1⟩; have HW1 := Lib.hid hw1; clear hw1)
        (try simp only [Exit.inBlock, Exit.then]); refine bodyPost_ret (results_none rfl _ _ _) rfl ?_
        have hI := insertionSort_holds swo_ltInt dk a' b' hab' (by have := HDS.out; omega)
        exact ⟨rfl, _, HE.out _ hI.1 hI.2, HSt.out.put hI.1.1 HW1.out⟩
      · have h12z : ¬ ((b' : Int) - (a' : Int) ≤ 12) := by omega
        by_cases hl0 : lm = 0
        · subst hl0
          have hc := heap_any blk off cap a' (b' - a') dk wr HSt.out.holds (by omega) (by omega) (by omega)
          rw [hds, show (a' : Int) + ((b' - a' : Nat) : Int) = (b' : Int) by omega] at hc
          have HC := Lib.hid hc
          clear hc hds
          go_wp2_with (go_at_call 82; refine HC.out.mono ?_; rintro e w1 ⟨rfl, n1, hw1⟩; have HW1 := Lib.hid hw1; clear hw1)
          (try simp only [Exit.inBlock, Exit.then]); refine bodyPost_ret (results_none rfl _ _ _) rfl ?_
          have hI := heapSort_holds swo_ltInt dk a' b' hab' (by have := HDS.out; omega)
          exact ⟨rfl, _, HE.out _ hI.1 hI.2, HSt.out.put hI.1.1 HW1.out⟩
        · have hl0z : ¬ ((lm : Int) = 0) := by omega
          have hl0y : ((lm : Int) == 0) = false := by simp; omega
          have HR0 := Lib.hid (show Rd w0 wr blk off a' b' dk dk from ⟨permIn_refl _ _ _, HSt.out⟩)
          clear HSt hds
          -- breakPatterns, or not
          go_upto_if 35 with fail
          go_cut [3] from 19 to 133 (fun s3 wx => ∃ (lm2 : Nat) (d1 : Array Int), s3 = .int .i64 lm2 ∧ lm2 ≤ lim ∧ Hid (Rd w0 wx blk off a' b' dk d1))
          case first =>
            cases wb
            · have hc := break_any blk off cap a' (b' - a') dk w0 wr HR0.out.st (by omega) (by have := HDS.out; omega) (by have := HDS.out; omega)
              rw [HDS.out, show (a' : Int) + ((b' - a' : Nat) : Int) = (b' : Int) by omega, show a' + (b' - a') = b' by omega] at hc
              have HC := Lib.hid hc
              clear hc
              go_wp2_with (go_at_call 83; refine HC.out.mono ?_; rintro e w1 ⟨rfl, d1, hp1, hs1⟩)
              go_meet
              case rel => exact ⟨lm - 1, d1, by congr 1; omega, by omega, Lib.hid ⟨hp1, hs1⟩⟩
            · go_wp2_with fail
              go_meet
              case rel => exact ⟨lm, dk, rfl, hlm, HR0⟩
          case rest =>
            obtain ⟨lm2, d1, rfl, hlm2, HR1⟩ := hcut
            obtain ⟨wA, rfl⟩ : ∃ wA : World, wA = wc := ⟨_, rfl⟩
            clear HR0 hl0z hl0y
            have hs1 : d1.size = d.size := HR1.out.perm.1.trans HDS.out
            have hc := pivot_any blk off cap d.size a' (b' - a') (fun t => d1[t]!) wA (fun t ht => (HR1.out.st.holds t (by omega)).1) (by omega) (by omega) hsz (by have := HR1.out.st.lt; have := HR1.out.st.grown.size; omega)
            rw [show (a' : Int) + ((b' - a' : Nat) : Int) = (b' : Int) by omega, show a' + (b' - a') = b' by omega] at hc
            have HC := Lib.hid hc
            have HS1 := Lib.hid hs1
            clear hc hs1
            go_upto_if 50 with (go_at_call 84; refine HC.out.mono ?_; rintro e w2 ⟨p, h, rfl, ⟨hp1, hp2⟩, hh, hw2⟩)
            have HR2 := Lib.hid (show Rd w0 w2 blk off a' b' dk d1 from ⟨HR1.out.perm, HR1.out.st.below hw2⟩)
            clear hw2 HC HR1
            -- a falling part is turned round, or not
            go_cut [11, 12] from 19 to 133 (fun s11 s12 wx => ∃ (p2 : Nat) (h2 : Int) (d2 : Array Int), s11 = .int .i64 p2 ∧ s12 = .int .i64 h2 ∧ a' < p2 ∧ p2 < b' ∧ Hid (Rd w0 wx blk off a' b' dk d2))
            case first =>
              rcases hh with rfl | rfl | rfl
              · go_wp2_with fail
                go_meet
                case rel => exact ⟨p, 0, d1, rfl, rfl, by omega, by omega, HR2⟩
              · go_wp2_with fail
                go_meet
                case rel => exact ⟨p, 1, d1, rfl, rfl, by omega, by omega, HR2⟩
              · have hc := rev_any blk off cap a' b' d1 w2 HR2.out.st.holds (by omega) (by have := HS1.out; omega) (by have := HS1.out; omega)
                rw [HS1.out] at hc
                have HC := Lib.hid hc
                clear hc
                go_wp2_with (go_at_call 85; refine HC.out.mono ?_; rintro e w3 ⟨rfl, n3, d2, hp3, hw3⟩; have HW3 := Lib.hid hw3; clear hw3)
                go_meet
                case rel => exact ⟨b' - 1 - (p - a'), 1, d2, by congr 1; omega, rfl, by omega, by omega, Lib.hid (HR2.out.put hp3 HW3.out)⟩
            case rest =>
              obtain ⟨p2, h2, d2, rfl, rfl, hp3, hp4, HR3⟩ := hcut
              obtain ⟨wB, rfl⟩ : ∃ wB : World, wB = wc := ⟨_, rfl⟩
              clear HR2 HS1 hh hp1 hp2
              go_upto_region 15 with fail
              go_cut [68] from 19 to 133 (fun s68 wx => ∃ c : Bool, s68 = .bool c ∧ wx = wB)
              case first =>
                cases wb <;> cases wp <;>
                  (go_wp2_with fail
                   go_meet
                   exact ⟨_, rfl, rfl⟩)
              case rest =>
                obtain ⟨c, rfl, rfl⟩ := hcut
                go_upto_if 68 with fail
                go_cut [] from 19 to 133 (fun wx => ∃ d3, Hid (Rd w0 wx blk off a' b' dk d3))
                case first =>
                  cases c
                  · go_wp2_with fail
                    go_meet
                    case rel => exact ⟨d2, HR3⟩
                  · have hs2 : d2.size = d.size := HR3.out.perm.1.trans HDS.out
                    have hc := pins_any blk off cap a' b' d2 wc HR3.out.st.holds (by omega) (by omega) (by omega)
                    rw [hs2] at hc
                    have HC := Lib.hid hc
                    have HI := Lib.hid (partialInsertionSort_holds swo_ltInt d2 a' b' (by omega) (by omega) (below_perm HBe.out (by have := HDS.out; omega) HR3.out.perm))
                    clear hc hs2
                    generalize Sort.partialInsertionSort ltInt d2 a' b' = PI at HC HI
                    obtain ⟨d3, o⟩ := PI
                    cases o
                    · go_wp2_with (go_at_call 86; refine HC.out.mono ?_; rintro e w4 ⟨rfl, n4, hw4⟩; have HW4 := Lib.hid hw4; clear hw4)
                      go_meet
                      case rel => exact ⟨d3, Lib.hid (HR3.out.put HI.out.1 HW4.out)⟩
                    · go_wp2_with (go_at_call 86; refine HC.out.mono ?_; rintro e w4 ⟨rfl, n4, hw4⟩; have HW4 := Lib.hid hw4; clear hw4)
                      (try simp only [Exit.inBlock, Exit.then]); refine bodyPost_ret (results_none rfl _ _ _) rfl ?_
                      have hR := HR3.out.put HI.out.1 HW4.out
                      exact ⟨rfl, d3, HE.out _ hR.perm (HI.out.2 (by first | trivial | rfl)), hR.st⟩
                case rest =>
                  obtain ⟨d3, HR4⟩ := hcut
                  obtain ⟨wD, rfl⟩ : ∃ wD : World, wD = wc := ⟨_, rfl⟩
                  clear HR3
                  have HS3 := Lib.hid (show d3.size = d.size from HR4.out.perm.1.trans HDS.out)
                  go_upto_region 17 with fail
                  go_cut [87] from 19 to 133 (fun s87 wx => ∃ c : Bool, s87 = .bool c ∧ Hid (c = true → 0 < a' ∧ ltInt d3[a' - 1]! d3[p2]! = false) ∧ Hid (Rd w0 wx blk off a' b' dk d3))
                  case first =>
                    obtain ⟨G, hG, hcw, hfw⟩ := st_view HR4.out.st HS3.out
                    have HG := Lib.hid hG
                    clear hG
                    rcases Nat.eq_zero_or_pos a' with ha0 | ha0
                    · have ha0z : decide ((a' : Int) > 0) = false := decide_eq_false (by omega)
                      have ha0y : decide (0 < (a' : Int)) = false := decide_eq_false (by omega)
                      go_big_quiet (first | (go_at_call 87; refine Calls.quiet_of_same (less_any _ _ _)))
                      go_wp2_with fail
                      go_meet
                      case rel => exact ⟨false, rfl, Lib.hid (fun h => by cases h), Lib.hid (HR4.out.drew nq)⟩
                    · have ha0z : (a' : Int) > 0 := by omega
                      go_big_quiet (first | (go_at_call 87; refine Calls.quiet_of_same (less_any _ _ _)))
                      go_wp2_with fail
                      go_meet
                      case rel => exact ⟨!ltInt (G (a' - 1)) (G p2), rfl, Lib.hid (fun h => ⟨ha0, by rw [HG.out, HG.out] at h; exact not_true h⟩), Lib.hid (HR4.out.drew nq)⟩
                  case rest =>
                    obtain ⟨c, rfl, HQ, HR5⟩ := hcut
                    obtain ⟨wE, rfl⟩ : ∃ wE : World, wE = wc := ⟨_, rfl⟩
                    clear HR4
                    cases c
                    · have hc := part_any blk off cap a' b' p2 d3 wE HR5.out.st.holds hp3 hp4 (by have := HS3.out; omega) (by have := HS3.out; omega)
                      rw [HS3.out] at hc
                      have HC := Lib.hid hc
                      clear hc HQ
                      go_upto_if 113 with (go_at_call 89; refine HC.out.mono ?_; rintro e w7 ⟨mid, ap, n7, d4, rfl, hm1, hm2, hp7, hlo, hhi, hw7⟩; have HW7 := Lib.hid hw7; have HLO := Lib.hid hlo; have HHI := Lib.hid hhi; clear hw7 hlo hhi)
                      have HR6 := Lib.hid (HR5.out.put hp7 HW7.out)
                      have HB4 := Lib.hid (below_perm HBe.out (by have := HDS.out; omega) HR6.out.perm)
                      have HS4 := Lib.hid (show d4.size = d.size from HR6.out.perm.1.trans HDS.out)
                      clear hp7 HW7 HC HR5
                      by_cases h4 : mid - a' < b' - mid
                      · have h4z : (mid : Int) - (a' : Int) < (b' : Int) - (mid : Int) := by omega
                        have hih := IH.out blk off cap a' mid lm2 d4 w0 w7 (by omega) HR6.out.st (by omega) (by have := HS4.out; omega) (by have := HS4.out; omega) (by omega) (HB4.out.mono (by omega))
                        rw [HS4.out] at hih
                        have HI := Lib.hid hih
                        clear hih
                        go_wp2_with (go_at_call 72; refine HI.out.mono ?_; rintro e w8 ⟨rfl, d5, ⟨hp8, hs8⟩, hst8⟩)
                        have HK := Lib.hid (ends_left HE.out (by have := HDS.out; omega) hm1 hm2 HR6.out.perm HLO.out HHI.out hp8 hs8)
                        have HS5 := Lib.hid (hp8.1.trans HS4.out)
                        have H8 := Lib.hid hst8
                        clear hp8 hs8 hst8
                        go_roundg (b' - (mid + 1))
                        case measure => omega
                        case rel => exact ⟨mid + 1, b', lm2, _, ap, d5, by go_num, rfl, rfl, rfl, rfl, hm2, hb', Nat.le_refl _, Nat.le_trans (Nat.le_trans (Nat.sub_le_sub_left (Nat.le_succ_of_le hm1) b') hk) hkN, hlm2, HS5.out, Lib.hid HK.out.2, H8, Lib.hid HK.out.1⟩
                      · have h4z : ¬ ((mid : Int) - (a' : Int) < (b' : Int) - (mid : Int)) := by omega
                        have hih := IH.out blk off cap (mid + 1) b' lm2 d4 w0 w7 (by omega) HR6.out.st (by omega) (by have := HS4.out; omega) (by have := HS4.out; omega) (by omega) (Or.inr fun i h1 h2 => by rw [Nat.add_sub_cancel]; exact HHI.out i (by omega) h2)
                        rw [HS4.out, show ((mid + 1 : Nat) : Int) = (mid : Int) + 1 by omega] at hih
                        have HI := Lib.hid hih
                        clear hih
                        go_wp2_with (go_at_call 72; refine HI.out.mono ?_; rintro e w8 ⟨rfl, d5, ⟨hp8, hs8⟩, hst8⟩)
                        have HK := Lib.hid (ends_right HE.out HBe.out (by have := HDS.out; omega) hm1 hm2 HR6.out.perm HLO.out HHI.out hp8 hs8)
                        have HS5 := Lib.hid (hp8.1.trans HS4.out)
                        have H8 := Lib.hid hst8
                        clear hp8 hs8 hst8
                        go_roundg (mid - a')
                        case measure => omega
                        case rel => exact ⟨a', mid, lm2, _, ap, d5, rfl, rfl, rfl, rfl, rfl, hm1, Nat.le_trans (Nat.le_of_lt hm2) hb', Nat.le_refl _, Nat.le_trans (Nat.le_trans (Nat.sub_le_sub_right (Nat.le_of_lt hm2) a') hk) hkN, hlm2, HS5.out, Lib.hid HK.out.2, H8, Lib.hid HK.out.1⟩
                    · obtain ⟨ha0, hnl⟩ := HQ.out rfl
                      have hB3 := below_perm HBe.out (by have := HDS.out; omega) HR5.out.perm
                      have hge : ∀ i, a' ≤ i → i < b' → ltInt d3[i]! d3[p2]! = false := fun i h1 h2 => by
                        rcases hB3 with h0 | h0
                        · omega
                        · exact swo_ltInt.ntrans _ _ _ (h0 i h1 h2) hnl
                      have hc := parteq_any blk off cap a' b' p2 d3 wE HR5.out.st.holds hp3 hp4 (by have := HS3.out; omega) (by have := HS3.out; omega) hge
                      rw [HS3.out] at hc
                      have HC := Lib.hid hc
                      have HGE := Lib.hid hge
                      clear hc HQ hnl hge hB3
                      go_wp2_with (go_at_call 88; refine HC.out.mono ?_; rintro e w7 ⟨mid, n7, d4, rfl, hm1, hm2, hp7, hle, hgt, hw7⟩; have HW7 := Lib.hid hw7; have HLE := Lib.hid hle; have HGT := Lib.hid hgt; clear hw7 hle hgt)
                      have HR6 := Lib.hid (HR5.out.put hp7 HW7.out)
                      have HK := Lib.hid (ends_eq (HE.out.perm HR5.out.perm) (by have := HS3.out; omega) hm1 hm2 hp7 HGE.out HLE.out HGT.out)
                      clear hp7 HW7 HLE HGT
                      go_roundg (b' - mid)
                      case measure => omega
                      case rel => exact ⟨mid, b', lm2, wb, wp, d4, rfl, rfl, rfl, rfl, rfl, hm2, hb', Nat.le_refl _, Nat.le_trans (Nat.le_trans (Nat.sub_le_sub_left (Nat.le_of_lt hm1) b') hk) hkN, hlm2, HR6.out.perm.1.trans HDS.out, Lib.hid HK.out.2, Lib.hid HR6.out.st, Lib.hid HK.out.1⟩

theorem bitLen_le : ∀ (k x : Nat), k ≤ 64 → x < 2 ^ k → Lib.bitLen x ≤ k
  | 0, x, _, h => by
    obtain rfl : x = 0 := by simpa using h
    exact Nat.le_of_eq (by decide)
  | k + 1, x, hk, h => by
    by_cases h0 : x = 0
    · subst h0; exact Nat.le_trans (Nat.le_of_eq (by decide : Lib.bitLen 0 = 0)) (Nat.zero_le _)
    · rw [Lib.bitLen_half x h0 (Nat.lt_of_lt_of_le h (Nat.pow_le_pow_right (by omega) hk))]
      have := bitLen_le k (x / 2) (by omega) (by rw [Nat.pow_succ] at h; omega)
      omega
theorem len2_any (n : Nat) (hn : n ≤ 1000000) (w : World) : Calls Try.prog 73 #[.int .u64 (n : Int)] w fun e w' => (∃ l : Nat, l < 1000000 ∧ e = .returned (.int .i64 l)) ∧ w' = w :=
  (Any.bits_Len (SlLaysF0.n15.bits (P := Try.prog) (ρ := layF_ren) { layF with }) (n : Int) w (by omega) (by omega)).mono fun _ _ ⟨h1, h2⟩ =>
    ⟨⟨_, Nat.lt_of_le_of_lt (bitLen_le 64 _ (Nat.le_refl _) (by simp; omega)) (by omega), h1⟩, h2⟩
theorem sort_row2 (g cap : Nat) (d : Array Int) (w : World) (hsz : d.size ≤ 1000000) (F : World → Prop)
    (hp : ∀ lim : Nat, lim < 1000000 → Calls Try.prog 72 #[.slice (some ⟨g, 0, none⟩) d.size cap, .int .i64 0, .int .i64 d.size, .int .i64 lim] w fun e w' => e = .returned (.tuple #[]) ∧ F w') :
    Calls Try.prog 63 #[.slice (some ⟨g, 0, none⟩) d.size cap] w fun e w' => e = .returned (.tuple #[]) ∧ F w' := by
  have hl := fun W => len2_any d.size hsz W
  have Hl := Lib.hid hl
  have hw := wrap_conv d.size hsz
  have HP := Lib.hid hp
  clear hl hp
  go_enter Try.func63, Try.ntmps63
  go_wp2_with (first
    | (go_at_call 73; refine (Hl.out _).mono ?_; rintro e w' ⟨⟨n, hn, rfl⟩, rfl⟩)
    | (go_at_call 72; refine (HP.out _ hn).mono ?_; rintro e w' ⟨rfl, hF⟩))
  go_end0
  exact ⟨rfl, hF⟩

/-- slices.Sort sorts. -/
theorem sorts_all : SortsAt 999999 := by
  intro l base v w hlen hbw hv
  rcases hv.2 with ⟨rfl, h0⟩ | ⟨g, cap, cur, rfl, hbase, hh, hle, hcap, hsz, ht⟩
  · obtain rfl : l = [] := List.eq_nil_of_length_eq_zero h0
    refine (sort_nil w).mono ?_
    rintro e w' ⟨rfl, rfl⟩
    exact ⟨rfl, [], List.Perm.refl _, List.Pairwise.nil, hv, World.grownBy.refl _ _⟩
  · have hil : (ints l).length = l.length := by simp [ints]
    have hds : (ints l).toArray.size = l.length := by simp [ints]
    have hH := holds_own (l := ints l) hh (by rw [hil, ← Nat.mul_one l.length, ht, u64s_ints])
    have hg : g < w.heap.size := (Array.getElem?_eq_some_iff.1 hh).1
    have hcon := sort_row2 g cap (ints l).toArray w (by omega) (fun w' => ∃ d', (PermIn 0 (ints l).toArray.size (ints l).toArray d' ∧ SortedIn ltInt 0 (ints l).toArray.size d') ∧ St w w' g 0 d') (fun lim hlim => by
      have := pdq_any ((ints l).toArray.size + 1) g 0 cap 0 (ints l).toArray.size lim (ints l).toArray w w (by omega) (St.refl hH hg) (Nat.zero_le _) (Nat.le_refl _) (by omega) hlim (Or.inl rfl)
      exact this)
    rw [hds] at hcon
    refine hcon.mono ?_
    rintro e w' ⟨rfl, d', ⟨hp, hs⟩, hst⟩
    rw [← hds] at hp hs
    obtain ⟨r, hr, hpr, hpw⟩ := sorted_nat hp hs
    have hl : r.length = l.length := hpr.length_eq
    obtain ⟨cur', hh', hsz'⟩ := hst.shape cur _ _ hh
    refine ⟨rfl, r, hpr, hpw, ⟨by simp [u64s], .inr ⟨g, cap, cur', by rw [hl], hbase, hh', by omega, hcap, by omega, ?_⟩⟩, hst.grown⟩
    have hd : d'.size = r.length := by rw [← Array.length_toList, ← hr]; simp [ints]
    apply List.ext_getElem?
    intro j
    rw [Nat.mul_one]
    by_cases hj : j < r.length
    · have h1 := (hst.holds j (by omega)).1
      simp only [World.cell?, hh', Nat.zero_add, Option.isSome_none, Bool.false_eq_true, if_false] at h1
      have e1 : d'[j]! = ((r[j] : Nat) : Int) := by
        have h2 : d'.toList[j]? = (ints r)[j]? := by rw [hr]
        rw [getElem!_def, ← Array.getElem?_toList, h2]
        simp [ints, hj]
      rw [List.getElem?_take_of_lt hj, Array.getElem?_toList, h1, e1]
      simp [u64s, hj]
    · rw [List.getElem?_take_eq_none (by omega), List.getElem?_eq_none (by simp [u64s]; omega)]
end Go.Proofs.Ytbemphfijkcbhaa
