/- slices.Sort at []uint64: rows of twelve or fewer (the insertion sort). -/
import Derived.Sort.WalkA
import Derived.Shelf.SlSortCmp.WholeK
import Derived.Sort.LotA
import Derived.Test.YtmhhckpdhjnmeaaCover
namespace Go.Proofs.Ytmhhckpdhjnmeaa
open Go.RowKit Go.Shelf Go.Lib Go.Sort Go.Proofs

theorem isNaN64_any (x : Int) (w : World) : Calls Try.prog 71 #[.int .u64 x] w fun e w' => e = .returned (.bool false) ∧ w' = w := isNaN_any x w
theorem less_any (x y : Int) (w : World) : Calls Try.prog 79 #[.int .u64 x, .int .u64 y] w fun e w' => e = .returned (.bool (ltInt x y)) ∧ w' = w := by
  go_enter Try.func79, Try.ntmps79
  go_wp2_with (go_at_call 71; refine (isNaN_any _ _).mono ?_; rintro e w' ⟨rfl, rfl⟩)
  go_ret
  exact ⟨by simp [ltInt], rfl⟩
abbrev encU : Int → Value := Value.int .u64

set_option maxHeartbeats 4000000 in
set_option maxRecDepth 100000 in
theorem insert_any (blk off cap a b : Nat) (d : Array Int) (w : World) (hH : Holds encU w blk off d) (hab : a ≤ b) (hb : b ≤ d.size) (hsz : d.size < 4611686018427387904) :
    Calls Try.prog 73 #[.slice (some ⟨blk, off, none⟩) d.size cap, .int .i64 a, .int .i64 b] w fun e w' =>
      e = .returned (.tuple #[]) ∧ ∃ n, w' = putRow encU (Sort.ahead w n) blk off (Sort.insertionSort ltInt d a b) := by
  go_enter Try.func73, Try.ntmps73
  go_wp2
  go_loopw [6] (fun vi wr => ∃ (i n : Nat) (dk : Array Int), vi = .int .i64 i ∧ a < i ∧ i ≤ b + 1 ∧ dk.size = d.size ∧ wr = putRow encU (Sort.ahead w n) blk off dk ∧ Hid (insOuter ltInt a b i dk = insOuter ltInt a b (a + 1) d)) (fun vi _ => b + 1 - (intOf vi).toNat)
  case atStart => exact ⟨a + 1, 0, d, by go_num, by omega, by omega, rfl, (putRow_self _ _ _ _ _ hH).symm, Lib.hid rfl⟩
  case round =>
    obtain ⟨i, n, dk, rfl, hai, hib, hsk, hwr, HO⟩ := hrel
    by_cases hlt : i < b
    · go_wp2
      go_loopw [7] (fun vj wr2 => ∃ (j m : Nat) (dj : Array Int), vj = .int .i64 j ∧ a ≤ j ∧ j ≤ i ∧ dj.size = d.size ∧ wr2 = putRow encU (Sort.ahead w m) blk off dj ∧ Hid (insInner ltInt a j dj = insInner ltInt a i dk)) (fun vj _ => (intOf vj).toNat)
      case atStart => exact ⟨i, n, dk, rfl, by omega, Nat.le_refl _, hsk, rfl, Lib.hid rfl⟩
      case round =>
        obtain ⟨j, m, dj, rfl, haj, hji, hsj, hw2, HI⟩ := hrel
        obtain ⟨G, hG⟩ : ∃ G : Nat → Int, ∀ t, G t = dj[t]! := ⟨fun t => dj[t]!, fun _ => rfl⟩
        have hcw : ∀ t, t < d.size → wr.cell? ⟨blk, off + t, none⟩ = some (.int .u64 (G t)) := fun t ht => by
          rw [hw2, hG]; exact cell?_putRow _ _ _ _ d dj (holds_ahead _ _ _ _ _ _ hH) hsj t (by omega)
        have hfw : ∀ t, t < d.size → wr.frozen? ⟨blk, off + t, none⟩ = false := fun t ht => by
          rw [hw2, frozen?_putRow]; exact ((holds_ahead _ _ m _ _ _ hH) t ht).2
        have HW := Lib.hid hw2
        have HG := Lib.hid hG
        clear hw2 hG hH
        -- where the inner loop ends, the outer round does
        have OUT := Lib.hid (show (j ≤ a ∨ ltInt dj[j]! dj[j - 1]! = false) → ∀ q, ∃ (i' n' : Nat) (dk' : Array Int), Value.int .i64 ((i : Int) + 1) = .int .i64 (i' : Nat) ∧ a < i' ∧ i' ≤ b + 1 ∧ dk'.size = d.size ∧
            wr.drewN q = putRow encU (Sort.ahead w n') blk off dk' ∧ Hid (insOuter ltInt a b i' dk' = insOuter ltInt a b (a + 1) d) from fun hs q =>
          ⟨i + 1, m + q, dj, by go_num, by omega, by omega, hsj, by rw [HW.out]; exact putRow_drewN _ _ _ _ _ _ _, Lib.hid (by rw [← HO.out, insOuter_go _ _ _ _ _ hlt, ← HI.out, insInner_stop _ _ _ _ hs])⟩)
        go_wp2
        by_cases hja : a < j
        · go_quiet (first | (go_at_call 79; refine Calls.quiet_of_same (less_any _ _ _)))
          go_wp2
          · have hl : ltInt (G j) (G (j - 1)) = true := by assumption
            go_region
            all_goals go_wp2
            go_roundw
            case rel =>
              refine ⟨j - 1, m + (nq + 1), swp dj j (j - 1), by congr 1; omega, by omega, by omega, by rw [size_swp]; exact hsj, ?_, Lib.hid ?_⟩
              · rw [HW.out, HG.out, HG.out]
                exact swap_worldA _ w m (nq + 1) blk off dj j (j - 1) (by omega) (by omega)
              · rw [← HI.out, insInner_go ltInt a j dj hja (by rw [← HG.out, ← HG.out]; exact hl)]
            case measure => simp [intOf]; omega
          · have hl : ltInt (G j) (G (j - 1)) = false := by assumption
            go_roundw
            case rel => exact OUT.out (Or.inr (by rw [← HG.out, ← HG.out]; exact hl)) nq
            case measure => simp [intOf]; omega
        · go_quiet (first | (go_at_call 79; refine Calls.quiet_of_same (less_any _ _ _)))
          go_wp2
          go_roundw
          case rel => exact OUT.out (Or.inl (by omega)) nq
          case measure => simp [intOf]; omega
    · go_wp2
      go_end0
      exact ⟨rfl, n, by unfold Sort.insertionSort; rw [← HO.out, insOuter_stop _ _ _ _ _ hlt]⟩

/-- A row of the call's own with the numbers l. -/
def OwnN (w : World) (base : Nat) (v : Value) (l : List Nat) : Prop := w.ownsRow base 22 1 v l.length (u64s l)
theorem OwnN.below {w w' : World} {base : Nat} {v : Value} {l : List Nat} (h : OwnN w base v l) (hb : RowKit.Below w.heap.size w w') : OwnN w' base v l := by
  refine ⟨h.1, ?_⟩
  rcases h.2 with h2 | ⟨g, cap, cur, hv, hg, hh, r⟩
  · exact Or.inl h2
  · exact Or.inr ⟨g, cap, cur, hv, hg, (hb.block g (Array.getElem?_eq_some_iff.1 hh).1).trans hh, r⟩
def ints (l : List Nat) : List Int := l.map fun (n : Nat) => (n : Int)
theorem u64s_ints (l : List Nat) : u64s l = (ints l).map encU := by simp [u64s, ints]
/-- slices.Sort sorts every row of N numbers or fewer. -/
def SortsAt (N : Nat) : Prop := ∀ (l : List Nat) (base : Nat) (v : Value) (w : World), l.length ≤ N → base ≤ w.heap.size → OwnN w base v l →
  Calls Try.prog 60 #[v] w fun e w' => e = .returned (.tuple #[]) ∧ ∃ r : List Nat, r.Perm l ∧ r.Pairwise (· ≤ ·) ∧ OwnN w' base v r ∧ w.grownBy w' v.ownBlock

theorem holds_own {w : World} {g : Nat} {cur : Array Value} {l : List Int} (hb : w.heap[g]? = some (.cells cur 22 (0, 0))) (ht : cur.toList.take l.length = l.map encU) : Holds encU w g 0 l.toArray := by
  intro j hj
  have hj' : j < l.length := by simpa using hj
  refine ⟨?_, by simp [World.frozen?, hb]⟩
  have h1 : (cur.toList.take l.length)[j]? = (l.map encU)[j]? := by rw [ht]
  rw [List.getElem?_take_of_lt hj'] at h1
  simp only [World.cell?, hb, Nat.zero_add]
  simp only [Option.isSome_none, Bool.false_eq_true, if_false]
  rw [← Array.getElem?_toList, h1]
  simp [hj']
theorem heap_row {w : World} {g n : Nat} {cur : Array Value} {e : TypeId} {fr : Nat × Nat} (d : Array Int) (hb : w.heap[g]? = some (.cells cur e fr)) :
    (putRow encU (Sort.ahead w n) g 0 d).heap[g]? = some (.cells (putCells encU 0 d cur) e fr) := by
  simp [putRow, mapBlock, Sort.ahead, Array.getElem?_modify, hb, onCells]
theorem take_row (cur : Array Value) (l : List Int) (h : l.length ≤ cur.size) : (putCells encU 0 l.toArray cur).toList.take l.length = l.map encU := by
  apply List.ext_getElem?
  intro j
  by_cases hj : j < l.length
  · rw [List.getElem?_take_of_lt hj, Array.getElem?_toList]
    simp [putCells, hj, show j < cur.size by omega]
  · rw [List.getElem?_take_eq_none (by omega), List.getElem?_eq_none (by simp; omega)]
theorem grown_row {w : World} {g n : Nat} (d : Array Int) (os : Array Obj) : w.grownBy (grow (putRow encU (Sort.ahead w n) g 0 d) os) (some g) := by
  refine ⟨rfl, rfl, rfl, by simp, fun k hk hne => ?_⟩
  rw [heap_grow_old _ _ (by simpa using hk)]
  have : g ≠ k := fun e => hne (by rw [e])
  simp [putRow, mapBlock, Sort.ahead, Array.getElem?_modify, this]

theorem insert_nil (w : World) : Calls Try.prog 73 #[.slice none 0 0, .int .i64 0, .int .i64 0] w fun e w' => e = .returned (.tuple #[]) ∧ w' = w := by
  go_enter Try.func73, Try.ntmps73
  go_wp2
  go_loopw [6] (fun vi wr => vi = .int .i64 1 ∧ wr = w) (fun _ _ => 0)
  case atStart => exact ⟨rfl, rfl⟩
  case round =>
    obtain ⟨rfl, rfl⟩ := hrel
    go_wp2
    go_end0
    exact ⟨rfl, rfl⟩
set_option maxRecDepth 100000 in
theorem pdq_nil (lim : Int) (w : World) : Calls Try.prog 67 #[.slice none 0 0, .int .i64 0, .int .i64 0, .int .i64 lim] w fun e w' => e = .returned (.tuple #[]) ∧ w' = w := by
  go_enter Try.func67, Try.ntmps67
  go_wp2
  go_loopw [1, 2, 3, 8, 9] (fun s1 s2 s3 s8 s9 wr => s1 = .int .i64 0 ∧ s2 = .int .i64 0 ∧ s3 = .int .i64 lim ∧ s8 = .bool true ∧ s9 = .bool true ∧ wr = w) (fun _ _ _ _ _ _ => 0)
  case atStart => exact ⟨rfl, rfl, rfl, rfl, rfl, rfl⟩
  case round =>
    obtain ⟨rfl, rfl, rfl, rfl, rfl, rfl⟩ := hrel
    go_wp2_with (go_at_call 73; refine (insert_nil _).mono ?_; rintro e w' ⟨rfl, rfl⟩)
    refine bodyPost_ret (results_none rfl _ _ _) rfl ?_
    exact ⟨rfl, rfl⟩
set_option maxRecDepth 100000 in
theorem pdq_small (g cap : Nat) (lim : Int) (d : Array Int) (w : World) (hH : Holds encU w g 0 d) (hsz : d.size ≤ 12) :
    Calls Try.prog 67 #[.slice (some ⟨g, 0, none⟩) d.size cap, .int .i64 0, .int .i64 d.size, .int .i64 lim] w fun e w' => e = .returned (.tuple #[]) ∧ ∃ n, w' = putRow encU (Sort.ahead w n) g 0 (Sort.insertionSort ltInt d 0 d.size) := by
  have Hc := Lib.hid (insert_any g 0 cap 0 d.size d w hH (Nat.zero_le _) (Nat.le_refl _) (by omega))
  clear hH
  go_enter Try.func67, Try.ntmps67
  go_wp2
  go_loopw [1, 2, 3, 8, 9] (fun s1 s2 s3 s8 s9 wr => s1 = .int .i64 0 ∧ s2 = .int .i64 d.size ∧ s3 = .int .i64 lim ∧ s8 = .bool true ∧ s9 = .bool true ∧ wr = w) (fun _ _ _ _ _ _ => 0)
  case atStart => exact ⟨rfl, rfl, rfl, rfl, rfl, rfl⟩
  case round =>
    obtain ⟨rfl, rfl, rfl, rfl, rfl, rfl⟩ := hrel
    go_wp2_with (go_at_call 73; refine Hc.out.mono ?_; rintro e w' ⟨rfl, n, rfl⟩)
    refine bodyPost_ret (results_none rfl _ _ _) rfl ?_
    exact ⟨rfl, n, rfl⟩
theorem len_any (n : Nat) (hn : n ≤ 1000000) (w : World) : Calls Try.prog 68 #[.int .u64 (n : Int)] w fun e w' => (∃ l : Int, e = .returned (.int .i64 l)) ∧ w' = w :=
  (Any.bits_Len (SlLaysF0.n15.bits (P := Try.prog) (ρ := layF_ren) { layF with }) (n : Int) w (by omega) (by omega)).mono fun _ _ ⟨h1, h2⟩ => ⟨⟨_, h1⟩, h2⟩
theorem wrap_conv (n : Nat) (hn : n ≤ 1000000) : IntKind.u64.wrap (n : Int) = n := by simp [IntKind.wrap, IntKind.bits, IntKind.signed]; omega
theorem sort_nil (w : World) : Calls Try.prog 60 #[.slice none 0 0] w fun e w' => e = .returned (.tuple #[]) ∧ w' = w := by
  have hl := fun W => len_any 0 (by omega) W
  have Hl := Lib.hid hl
  clear hl
  go_enter Try.func60, Try.ntmps60
  go_wp2_with (first
    | (go_at_call 68; refine (Hl.out _).mono ?_; rintro e w' ⟨⟨n, rfl⟩, rfl⟩)
    | (go_at_call 67; refine (pdq_nil _ _).mono ?_; rintro e w' ⟨rfl, rfl⟩))
  go_end0
  exact ⟨rfl, rfl⟩
theorem sort_row (g cap : Nat) (d : Array Int) (w : World) (hsz : d.size ≤ 1000000) (F : World → Prop)
    (hp : ∀ lim : Int, Calls Try.prog 67 #[.slice (some ⟨g, 0, none⟩) d.size cap, .int .i64 0, .int .i64 d.size, .int .i64 lim] w fun e w' => e = .returned (.tuple #[]) ∧ F w') :
    Calls Try.prog 60 #[.slice (some ⟨g, 0, none⟩) d.size cap] w fun e w' => e = .returned (.tuple #[]) ∧ F w' := by
  have hl := fun W => len_any d.size hsz W
  have Hl := Lib.hid hl
  have hw := wrap_conv d.size hsz
  have HP := Lib.hid hp
  clear hl hp
  go_enter Try.func60, Try.ntmps60
  go_wp2_with (first
    | (go_at_call 68; refine (Hl.out _).mono ?_; rintro e w' ⟨⟨n, rfl⟩, rfl⟩)
    | (go_at_call 67; refine (HP.out _).mono ?_; rintro e w' ⟨rfl, hF⟩))
  go_end0
  exact ⟨rfl, hF⟩
/-- A row of ints that are numbers, sorted, is a sorted row of numbers. -/
theorem sorted_nat {l : List Nat} {d' : Array Int} (hp : PermIn 0 (ints l).toArray.size (ints l).toArray d') (hs : SortedIn ltInt 0 (ints l).toArray.size d') :
    ∃ r : List Nat, ints r = d'.toList ∧ r.Perm l ∧ r.Pairwise (· ≤ ·) := by
  obtain ⟨h1, _, h3⟩ := hp
  have e1 : (d'.extract 0 (ints l).toArray.size).toList = d'.toList := by rw [← h1]; simp
  have e2 : ((ints l).toArray.extract 0 (ints l).toArray.size).toList = ints l := by simp
  rw [e1, e2] at h3
  refine ⟨d'.toList.map Int.toNat, ?_, ?_, ?_⟩
  · unfold ints
    rw [List.map_map]
    conv => rhs; rw [← List.map_id d'.toList]
    refine List.map_congr_left fun x hx => ?_
    obtain ⟨n, _, rfl⟩ := List.mem_map.1 (h3.mem_iff.1 hx)
    simp
  · have := h3.map Int.toNat
    have e : (ints l).map Int.toNat = l := by simp [ints, List.map_map, Function.comp_def]
    rwa [e] at this
  · rw [List.pairwise_map, List.pairwise_iff_getElem]
    intro i j hi hj hij
    have := hs i j (Nat.zero_le _) hij (by rw [← h1]; simpa using hj)
    rw [getElem!_pos d' i (by simpa using hi), getElem!_pos d' j (by simpa using hj)] at this
    simp [ltInt] at this
    simp
    omega
theorem own_sorted {w : World} {base g cap n : Nat} {cur : Array Value} {l : List Nat} {d' : Array Int} {os : Array Obj} (hbase : base ≤ g) (hh : w.heap[g]? = some (.cells cur 22 (0, 0))) (hle : l.length ≤ cap) (hcap : cap ≤ maxLen) (hsz : cur.size = cap * 1)
    (hp : PermIn 0 (ints l).toArray.size (ints l).toArray d') (hs : SortedIn ltInt 0 (ints l).toArray.size d') :
    ∃ r : List Nat, r.Perm l ∧ r.Pairwise (· ≤ ·) ∧ OwnN (grow (putRow encU (Sort.ahead w n) g 0 d') os) base (.slice (some ⟨g, 0, none⟩) l.length cap) r ∧ w.grownBy (grow (putRow encU (Sort.ahead w n) g 0 d') os) (some g) := by
  obtain ⟨r, hr, hpr, hpw⟩ := sorted_nat hp hs
  have hl : r.length = l.length := hpr.length_eq
  have hg : g < w.heap.size := (Array.getElem?_eq_some_iff.1 hh).1
  refine ⟨r, hpr, hpw, ⟨by simp [u64s], .inr ⟨g, cap, putCells encU 0 d' cur, by rw [hl], hbase, ?_, by omega, hcap, ?_, ?_⟩⟩, ?_⟩
  · rw [heap_grow_old _ _ (by simp [putRow, mapBlock, Sort.ahead]; omega)]
    exact heap_row d' hh
  · simp [putCells, hsz]
  · have hd : d' = (ints r).toArray := by rw [hr]
    have := take_row cur (ints r) (by simp [ints, hsz]; omega)
    rw [hd, Nat.mul_one, u64s_ints]
    simpa [ints] using this
  · exact grown_row d' os
theorem sorts12 : SortsAt 12 := by
  intro l base v w hlen hbw hv
  rcases hv.2 with ⟨rfl, h0⟩ | ⟨g, cap, cur, rfl, hbase, hh, hle, hcap, hsz, ht⟩
  · obtain rfl : l = [] := List.eq_nil_of_length_eq_zero h0
    refine (sort_nil w).mono ?_
    rintro e w' ⟨rfl, rfl⟩
    exact ⟨rfl, [], List.Perm.refl _, List.Pairwise.nil, hv, World.grownBy.refl _ _⟩
  · have hil : (ints l).length = l.length := by simp [ints]
    have hH := holds_own (l := ints l) hh (by rw [hil, ← Nat.mul_one l.length, ht, u64s_ints])
    have hds : (ints l).toArray.size = l.length := by simp [ints]
    have hcon := sort_row g cap (ints l).toArray w (by omega) _ (fun lim => pdq_small g cap lim (ints l).toArray w hH (by omega))
    rw [hds] at hcon
    refine hcon.mono ?_
    rintro e w' ⟨rfl, n, rfl⟩
    have hI := insertionSort_holds swo_ltInt (ints l).toArray 0 (ints l).toArray.size (Nat.zero_le _) (Nat.le_refl _)
    obtain ⟨r, h1, h2, h3, h4⟩ := own_sorted (n := n) (os := #[]) hbase hh (by omega) hcap hsz hI.1 hI.2
    rw [grow_empty] at h3 h4
    rw [hds] at h3 h4
    exact ⟨rfl, r, h1, h2, h3, h4⟩
end Go.Proofs.Ytmhhckpdhjnmeaa
