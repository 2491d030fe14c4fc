/- mach.Fit. -/
import Derived.Test.YtbemphfijkcbhaaNew9
namespace Go.Proofs.Ytbemphfijkcbhaa
open Go.RowKit

def boxBd (r1 r2 l1 l2 : Nat) (i s c : Int) : Array Value := #[.int .u64 (r1 : Int), .int .u64 (r2 : Int), .int .u64 (l1 : Int), .int .u64 (l2 : Int), .int .i64 i, .int .i64 s, .int .i64 c]
def memB (r1 r2 l1 l2 : Nat) : Bool := addrB (r1, r2) && (paged (l1, l2) && within (l1, l2) (r1, r2))
def restB (i s c : Int) : Bool := decide (0 ≤ i ∧ i ≤ 1020) && (decide (0 ≤ s ∧ s ≤ 256) && decide (1 ≤ c ∧ c ≤ 32))
def fitE (r1 r2 l1 l2 : Nat) (i s c : Int) : Nat := if (memB r1 r2 l1 l2 && restB i s c) = true then 0 else 282
/-- A board in its box, seen from any later world. -/
def BdAt (w : World) (r1 r2 l1 l2 : Nat) (i s c : Int) (v : World) : Prop := v.cell? ⟨w.heap.size, 0, none⟩ = some (.int .u64 (r1 : Int)) ∧ v.cell? ⟨w.heap.size, 1, none⟩ = some (.int .u64 (r2 : Int)) ∧ v.cell? ⟨w.heap.size, 2, none⟩ = some (.int .u64 (l1 : Int)) ∧ v.cell? ⟨w.heap.size, 3, none⟩ = some (.int .u64 (l2 : Int)) ∧
  v.cell? ⟨w.heap.size, 4, none⟩ = some (.int .i64 i) ∧ v.cell? ⟨w.heap.size, 5, none⟩ = some (.int .i64 s) ∧ v.cell? ⟨w.heap.size, 6, none⟩ = some (.int .i64 c)
theorem BdAt.of {w v : World} {r1 r2 l1 l2 : Nat} {i s c : Int} (h : Below (w.alloc (.cells (boxBd r1 r2 l1 l2 i s c) 26)).heap.size (w.alloc (.cells (boxBd r1 r2 l1 l2 i s c) 26)) v) : BdAt w r1 r2 l1 l2 i s c v := by
  have hb : Blk v w.heap.size 26 (boxBd r1 r2 l1 l2 i s c) := Blk.under (Blk.new _ _ _ rfl) h
  exact ⟨hb.cellAt 0 rfl, hb.cellAt 1 rfl, hb.cellAt 2 rfl, hb.cellAt 3 rfl, hb.cellAt 4 rfl, hb.cellAt 5 rfl, hb.cellAt 6 rfl⟩
theorem pages1' (a b : Nat) (hx : fit (a, b)) (w : World) (g : Nat) (hg : g = w.heap.size) :
    Calls Try.prog 34 #[.slice (some ⟨g, 0, none⟩) 1 1] (w.alloc (spo a b)) fun e w' => e = .returned (.bool (paged (a, b))) ∧ Below w.heap.size w w' := pages1 a b hx w g hg
set_option maxRecDepth 100000 in
set_option maxHeartbeats 4000000 in
theorem fit_any (r1 r2 l1 l2 : Nat) (i s c : Int) (hr : fit (r1, r2)) (hl : fit (l1, l2)) (w : World) :
    Calls Try.prog 11 #[.agg #[.int .u64 (r1 : Int), .int .u64 (r2 : Int), .int .u64 (l1 : Int), .int .u64 (l2 : Int), .int .i64 i, .int .i64 s, .int .i64 c]] w fun e w' => e = .returned (.int .i64 (fitE r1 r2 l1 l2 i s c : Nat)) ∧ Below w.heap.size w w' := by
  obtain ⟨V, hV⟩ : ∃ V, V = w.alloc (.cells (boxBd r1 r2 l1 l2 i s c) 26) := ⟨_, rfl⟩
  have HBA : Hid (∀ v, Below V.heap.size V v → BdAt w r1 r2 l1 l2 i s c v) := Lib.hid (by rw [hV]; exact fun v h => BdAt.of h)
  have HS : Hid (Below V.heap.size V V) := Lib.hid (Below.refl _ _)
  have HW : Hid (Below w.heap.size w V) := Lib.hid (by rw [hV]; exact (Below.refl _ _).alloc (Nat.le_refl _) _)
  obtain ⟨zA, hzA⟩ : ∃ z, z = addrB (r1, r2) := ⟨_, rfl⟩
  obtain ⟨zP, hzP⟩ : ∃ z, z = paged (l1, l2) := ⟨_, rfl⟩
  obtain ⟨zW, hzW⟩ : ∃ z, z = within (l1, l2) (r1, r2) := ⟨_, rfl⟩
  obtain ⟨zi, hzi⟩ : ∃ z, z = decide ((0 : Int) ≤ i ∧ i ≤ 1020) := ⟨_, rfl⟩
  obtain ⟨zs, hzs⟩ : ∃ z, z = decide ((0 : Int) ≤ s ∧ s ≤ 256) := ⟨_, rfl⟩
  obtain ⟨zc, hzc⟩ : ∃ z, z = decide ((1 : Int) ≤ c ∧ c ≤ 32) := ⟨_, rfl⟩
  have CA := Lib.hid (fun W => addressed_any r1 r2 hr W)
  have CP := Lib.hid (fun W g hg => pages1 l1 l2 hl W g hg)
  have CW := Lib.hid (fun W => within_any l1 l2 r1 r2 hl hr W)
  have Ci := Lib.hid (fun W => among_any i 0 1020 W)
  have Cs := Lib.hid (fun W => among_any s 0 256 W)
  have Cc := Lib.hid (fun W => among_any c 1 32 W)
  obtain ⟨E, hE⟩ : ∃ E, E = fitE r1 r2 l1 l2 i s c := ⟨_, rfl⟩
  have he : E = if ((zA && (zP && zW)) && (zi && (zs && zc))) = true then 0 else 282 := by rw [hE, hzA, hzP, hzW, hzi, hzs, hzc]; rfl
  rw [← hE]
  rw [← hzA] at CA
  rw [← hzP] at CP
  rw [← hzW] at CW
  rw [← hzi] at Ci
  rw [← hzs] at Cs
  rw [← hzc] at Cc
  have HV := Lib.hid hV
  clear hr hl hE hzA hzP hzW hzi hzs hzc hV
  obtain ⟨c0, c1, c2, c3, c4, c5, c6⟩ := HBA.out V HS.out
  rw [HV.out] at c0 c1 c2 c3 c4 c5 c6
  simp only [boxBd] at c0 c1 c2 c3 c4 c5 c6
  cases zA with
  | false =>
    cases zi with
    | false =>
      obtain rfl : E = 282 := by rw [he]; simp
      clear he
      go_enter Try.func11, Try.ntmps11
      go_wp2_with (first
        | (go_at_call 33; refine (CA.out _).mono ?_; rintro e v ⟨rfl, hd⟩; have hd : Below V.heap.size V v := (by rw [HV.out]; exact hd); have HS := Lib.hid (HS.out.trans (hd.mono HS.out.size)); obtain ⟨c0, c1, c2, c3, c4, c5, c6⟩ := HBA.out v HS.out; clear hd)
        | (go_at_call 36; first | ((with_reducible show Calls _ _ #[.int .i64 i, _, _] _ _); refine (Ci.out _).mono ?_; rintro e v ⟨rfl, rfl⟩) | ((with_reducible show Calls _ _ #[.int .i64 s, _, _] _ _); refine (Cs.out _).mono ?_; rintro e v ⟨rfl, rfl⟩) | ((with_reducible show Calls _ _ #[.int .i64 c, _, _] _ _); refine (Cc.out _).mono ?_; rintro e v ⟨rfl, rfl⟩)))
      go_ret
      exact ⟨rfl, HW.out.trans (HS.out.mono HW.out.size)⟩
    | true =>
      cases zs with
      | false =>
        obtain rfl : E = 282 := by rw [he]; simp
        clear he
        go_enter Try.func11, Try.ntmps11
        go_wp2_with (first
          | (go_at_call 33; refine (CA.out _).mono ?_; rintro e v ⟨rfl, hd⟩; have hd : Below V.heap.size V v := (by rw [HV.out]; exact hd); have HS := Lib.hid (HS.out.trans (hd.mono HS.out.size)); obtain ⟨c0, c1, c2, c3, c4, c5, c6⟩ := HBA.out v HS.out; clear hd)
          | (go_at_call 36; first | ((with_reducible show Calls _ _ #[.int .i64 i, _, _] _ _); refine (Ci.out _).mono ?_; rintro e v ⟨rfl, rfl⟩) | ((with_reducible show Calls _ _ #[.int .i64 s, _, _] _ _); refine (Cs.out _).mono ?_; rintro e v ⟨rfl, rfl⟩) | ((with_reducible show Calls _ _ #[.int .i64 c, _, _] _ _); refine (Cc.out _).mono ?_; rintro e v ⟨rfl, rfl⟩)))
        go_ret
        exact ⟨rfl, HW.out.trans (HS.out.mono HW.out.size)⟩
      | true =>
        cases zc with
        | false =>
          obtain rfl : E = 282 := by rw [he]; simp
          clear he
          go_enter Try.func11, Try.ntmps11
          go_wp2_with (first
            | (go_at_call 33; refine (CA.out _).mono ?_; rintro e v ⟨rfl, hd⟩; have hd : Below V.heap.size V v := (by rw [HV.out]; exact hd); have HS := Lib.hid (HS.out.trans (hd.mono HS.out.size)); obtain ⟨c0, c1, c2, c3, c4, c5, c6⟩ := HBA.out v HS.out; clear hd)
            | (go_at_call 36; first | ((with_reducible show Calls _ _ #[.int .i64 i, _, _] _ _); refine (Ci.out _).mono ?_; rintro e v ⟨rfl, rfl⟩) | ((with_reducible show Calls _ _ #[.int .i64 s, _, _] _ _); refine (Cs.out _).mono ?_; rintro e v ⟨rfl, rfl⟩) | ((with_reducible show Calls _ _ #[.int .i64 c, _, _] _ _); refine (Cc.out _).mono ?_; rintro e v ⟨rfl, rfl⟩)))
          go_ret
          exact ⟨rfl, HW.out.trans (HS.out.mono HW.out.size)⟩
        | true =>
          obtain rfl : E = 282 := by rw [he]; simp
          clear he
          go_enter Try.func11, Try.ntmps11
          go_wp2_with (first
            | (go_at_call 33; refine (CA.out _).mono ?_; rintro e v ⟨rfl, hd⟩; have hd : Below V.heap.size V v := (by rw [HV.out]; exact hd); have HS := Lib.hid (HS.out.trans (hd.mono HS.out.size)); obtain ⟨c0, c1, c2, c3, c4, c5, c6⟩ := HBA.out v HS.out; clear hd)
            | (go_at_call 36; first | ((with_reducible show Calls _ _ #[.int .i64 i, _, _] _ _); refine (Ci.out _).mono ?_; rintro e v ⟨rfl, rfl⟩) | ((with_reducible show Calls _ _ #[.int .i64 s, _, _] _ _); refine (Cs.out _).mono ?_; rintro e v ⟨rfl, rfl⟩) | ((with_reducible show Calls _ _ #[.int .i64 c, _, _] _ _); refine (Cc.out _).mono ?_; rintro e v ⟨rfl, rfl⟩)))
          go_ret
          exact ⟨rfl, HW.out.trans (HS.out.mono HW.out.size)⟩
  | true =>
    cases zP with
    | false =>
      cases zi with
      | false =>
        obtain rfl : E = 282 := by rw [he]; simp
        clear he
        go_enter Try.func11, Try.ntmps11
        go_wp2_with (first
          | (go_at_call 33; refine (CA.out _).mono ?_; rintro e v ⟨rfl, hd⟩; have hd : Below V.heap.size V v := (by rw [HV.out]; exact hd); have HS := Lib.hid (HS.out.trans (hd.mono HS.out.size)); obtain ⟨c0, c1, c2, c3, c4, c5, c6⟩ := HBA.out v HS.out; clear hd)
          | (go_at_call 34; refine (CP.out _ _ rfl).mono ?_; rintro e v ⟨rfl, hd⟩; have HS := Lib.hid (HS.out.trans (hd.mono HS.out.size)); obtain ⟨c0, c1, c2, c3, c4, c5, c6⟩ := HBA.out v HS.out; clear hd)
          | (go_at_call 36; first | ((with_reducible show Calls _ _ #[.int .i64 i, _, _] _ _); refine (Ci.out _).mono ?_; rintro e v ⟨rfl, rfl⟩) | ((with_reducible show Calls _ _ #[.int .i64 s, _, _] _ _); refine (Cs.out _).mono ?_; rintro e v ⟨rfl, rfl⟩) | ((with_reducible show Calls _ _ #[.int .i64 c, _, _] _ _); refine (Cc.out _).mono ?_; rintro e v ⟨rfl, rfl⟩)))
        go_ret
        exact ⟨rfl, HW.out.trans (HS.out.mono HW.out.size)⟩
      | true =>
        cases zs with
        | false =>
          obtain rfl : E = 282 := by rw [he]; simp
          clear he
          go_enter Try.func11, Try.ntmps11
          go_wp2_with (first
            | (go_at_call 33; refine (CA.out _).mono ?_; rintro e v ⟨rfl, hd⟩; have hd : Below V.heap.size V v := (by rw [HV.out]; exact hd); have HS := Lib.hid (HS.out.trans (hd.mono HS.out.size)); obtain ⟨c0, c1, c2, c3, c4, c5, c6⟩ := HBA.out v HS.out; clear hd)
            | (go_at_call 34; refine (CP.out _ _ rfl).mono ?_; rintro e v ⟨rfl, hd⟩; have HS := Lib.hid (HS.out.trans (hd.mono HS.out.size)); obtain ⟨c0, c1, c2, c3, c4, c5, c6⟩ := HBA.out v HS.out; clear hd)
            | (go_at_call 36; first | ((with_reducible show Calls _ _ #[.int .i64 i, _, _] _ _); refine (Ci.out _).mono ?_; rintro e v ⟨rfl, rfl⟩) | ((with_reducible show Calls _ _ #[.int .i64 s, _, _] _ _); refine (Cs.out _).mono ?_; rintro e v ⟨rfl, rfl⟩) | ((with_reducible show Calls _ _ #[.int .i64 c, _, _] _ _); refine (Cc.out _).mono ?_; rintro e v ⟨rfl, rfl⟩)))
          go_ret
          exact ⟨rfl, HW.out.trans (HS.out.mono HW.out.size)⟩
        | true =>
          cases zc with
          | false =>
            obtain rfl : E = 282 := by rw [he]; simp
            clear he
            go_enter Try.func11, Try.ntmps11
            go_wp2_with (first
              | (go_at_call 33; refine (CA.out _).mono ?_; rintro e v ⟨rfl, hd⟩; have hd : Below V.heap.size V v := (by rw [HV.out]; exact hd); have HS := Lib.hid (HS.out.trans (hd.mono HS.out.size)); obtain ⟨c0, c1, c2, c3, c4, c5, c6⟩ := HBA.out v HS.out; clear hd)
              | (go_at_call 34; refine (CP.out _ _ rfl).mono ?_; rintro e v ⟨rfl, hd⟩; have HS := Lib.hid (HS.out.trans (hd.mono HS.out.size)); obtain ⟨c0, c1, c2, c3, c4, c5, c6⟩ := HBA.out v HS.out; clear hd)
              | (go_at_call 36; first | ((with_reducible show Calls _ _ #[.int .i64 i, _, _] _ _); refine (Ci.out _).mono ?_; rintro e v ⟨rfl, rfl⟩) | ((with_reducible show Calls _ _ #[.int .i64 s, _, _] _ _); refine (Cs.out _).mono ?_; rintro e v ⟨rfl, rfl⟩) | ((with_reducible show Calls _ _ #[.int .i64 c, _, _] _ _); refine (Cc.out _).mono ?_; rintro e v ⟨rfl, rfl⟩)))
            go_ret
            exact ⟨rfl, HW.out.trans (HS.out.mono HW.out.size)⟩
          | true =>
            obtain rfl : E = 282 := by rw [he]; simp
            clear he
            go_enter Try.func11, Try.ntmps11
            go_wp2_with (first
              | (go_at_call 33; refine (CA.out _).mono ?_; rintro e v ⟨rfl, hd⟩; have hd : Below V.heap.size V v := (by rw [HV.out]; exact hd); have HS := Lib.hid (HS.out.trans (hd.mono HS.out.size)); obtain ⟨c0, c1, c2, c3, c4, c5, c6⟩ := HBA.out v HS.out; clear hd)
              | (go_at_call 34; refine (CP.out _ _ rfl).mono ?_; rintro e v ⟨rfl, hd⟩; have HS := Lib.hid (HS.out.trans (hd.mono HS.out.size)); obtain ⟨c0, c1, c2, c3, c4, c5, c6⟩ := HBA.out v HS.out; clear hd)
              | (go_at_call 36; first | ((with_reducible show Calls _ _ #[.int .i64 i, _, _] _ _); refine (Ci.out _).mono ?_; rintro e v ⟨rfl, rfl⟩) | ((with_reducible show Calls _ _ #[.int .i64 s, _, _] _ _); refine (Cs.out _).mono ?_; rintro e v ⟨rfl, rfl⟩) | ((with_reducible show Calls _ _ #[.int .i64 c, _, _] _ _); refine (Cc.out _).mono ?_; rintro e v ⟨rfl, rfl⟩)))
            go_ret
            exact ⟨rfl, HW.out.trans (HS.out.mono HW.out.size)⟩
    | true =>
      cases zW with
      | false =>
        cases zi with
        | false =>
          obtain rfl : E = 282 := by rw [he]; simp
          clear he
          go_enter Try.func11, Try.ntmps11
          go_wp2_with (first
            | (go_at_call 33; refine (CA.out _).mono ?_; rintro e v ⟨rfl, hd⟩; have hd : Below V.heap.size V v := (by rw [HV.out]; exact hd); have HS := Lib.hid (HS.out.trans (hd.mono HS.out.size)); obtain ⟨c0, c1, c2, c3, c4, c5, c6⟩ := HBA.out v HS.out; clear hd)
            | (go_at_call 34; refine (CP.out _ _ rfl).mono ?_; rintro e v ⟨rfl, hd⟩; have HS := Lib.hid (HS.out.trans (hd.mono HS.out.size)); obtain ⟨c0, c1, c2, c3, c4, c5, c6⟩ := HBA.out v HS.out; clear hd)
            | (go_at_call 35; refine (CW.out _).mono ?_; rintro e v ⟨rfl, hd⟩; have HS := Lib.hid (HS.out.trans (hd.mono HS.out.size)); obtain ⟨c0, c1, c2, c3, c4, c5, c6⟩ := HBA.out v HS.out; clear hd)
            | (go_at_call 36; first | ((with_reducible show Calls _ _ #[.int .i64 i, _, _] _ _); refine (Ci.out _).mono ?_; rintro e v ⟨rfl, rfl⟩) | ((with_reducible show Calls _ _ #[.int .i64 s, _, _] _ _); refine (Cs.out _).mono ?_; rintro e v ⟨rfl, rfl⟩) | ((with_reducible show Calls _ _ #[.int .i64 c, _, _] _ _); refine (Cc.out _).mono ?_; rintro e v ⟨rfl, rfl⟩)))
          go_ret
          exact ⟨rfl, HW.out.trans (HS.out.mono HW.out.size)⟩
        | true =>
          cases zs with
          | false =>
            obtain rfl : E = 282 := by rw [he]; simp
            clear he
            go_enter Try.func11, Try.ntmps11
            go_wp2_with (first
              | (go_at_call 33; refine (CA.out _).mono ?_; rintro e v ⟨rfl, hd⟩; have hd : Below V.heap.size V v := (by rw [HV.out]; exact hd); have HS := Lib.hid (HS.out.trans (hd.mono HS.out.size)); obtain ⟨c0, c1, c2, c3, c4, c5, c6⟩ := HBA.out v HS.out; clear hd)
              | (go_at_call 34; refine (CP.out _ _ rfl).mono ?_; rintro e v ⟨rfl, hd⟩; have HS := Lib.hid (HS.out.trans (hd.mono HS.out.size)); obtain ⟨c0, c1, c2, c3, c4, c5, c6⟩ := HBA.out v HS.out; clear hd)
              | (go_at_call 35; refine (CW.out _).mono ?_; rintro e v ⟨rfl, hd⟩; have HS := Lib.hid (HS.out.trans (hd.mono HS.out.size)); obtain ⟨c0, c1, c2, c3, c4, c5, c6⟩ := HBA.out v HS.out; clear hd)
              | (go_at_call 36; first | ((with_reducible show Calls _ _ #[.int .i64 i, _, _] _ _); refine (Ci.out _).mono ?_; rintro e v ⟨rfl, rfl⟩) | ((with_reducible show Calls _ _ #[.int .i64 s, _, _] _ _); refine (Cs.out _).mono ?_; rintro e v ⟨rfl, rfl⟩) | ((with_reducible show Calls _ _ #[.int .i64 c, _, _] _ _); refine (Cc.out _).mono ?_; rintro e v ⟨rfl, rfl⟩)))
            go_ret
            exact ⟨rfl, HW.out.trans (HS.out.mono HW.out.size)⟩
          | true =>
            cases zc with
            | false =>
              obtain rfl : E = 282 := by rw [he]; simp
              clear he
              go_enter Try.func11, Try.ntmps11
              go_wp2_with (first
                | (go_at_call 33; refine (CA.out _).mono ?_; rintro e v ⟨rfl, hd⟩; have hd : Below V.heap.size V v := (by rw [HV.out]; exact hd); have HS := Lib.hid (HS.out.trans (hd.mono HS.out.size)); obtain ⟨c0, c1, c2, c3, c4, c5, c6⟩ := HBA.out v HS.out; clear hd)
                | (go_at_call 34; refine (CP.out _ _ rfl).mono ?_; rintro e v ⟨rfl, hd⟩; have HS := Lib.hid (HS.out.trans (hd.mono HS.out.size)); obtain ⟨c0, c1, c2, c3, c4, c5, c6⟩ := HBA.out v HS.out; clear hd)
                | (go_at_call 35; refine (CW.out _).mono ?_; rintro e v ⟨rfl, hd⟩; have HS := Lib.hid (HS.out.trans (hd.mono HS.out.size)); obtain ⟨c0, c1, c2, c3, c4, c5, c6⟩ := HBA.out v HS.out; clear hd)
                | (go_at_call 36; first | ((with_reducible show Calls _ _ #[.int .i64 i, _, _] _ _); refine (Ci.out _).mono ?_; rintro e v ⟨rfl, rfl⟩) | ((with_reducible show Calls _ _ #[.int .i64 s, _, _] _ _); refine (Cs.out _).mono ?_; rintro e v ⟨rfl, rfl⟩) | ((with_reducible show Calls _ _ #[.int .i64 c, _, _] _ _); refine (Cc.out _).mono ?_; rintro e v ⟨rfl, rfl⟩)))
              go_ret
              exact ⟨rfl, HW.out.trans (HS.out.mono HW.out.size)⟩
            | true =>
              obtain rfl : E = 282 := by rw [he]; simp
              clear he
              go_enter Try.func11, Try.ntmps11
              go_wp2_with (first
                | (go_at_call 33; refine (CA.out _).mono ?_; rintro e v ⟨rfl, hd⟩; have hd : Below V.heap.size V v := (by rw [HV.out]; exact hd); have HS := Lib.hid (HS.out.trans (hd.mono HS.out.size)); obtain ⟨c0, c1, c2, c3, c4, c5, c6⟩ := HBA.out v HS.out; clear hd)
                | (go_at_call 34; refine (CP.out _ _ rfl).mono ?_; rintro e v ⟨rfl, hd⟩; have HS := Lib.hid (HS.out.trans (hd.mono HS.out.size)); obtain ⟨c0, c1, c2, c3, c4, c5, c6⟩ := HBA.out v HS.out; clear hd)
                | (go_at_call 35; refine (CW.out _).mono ?_; rintro e v ⟨rfl, hd⟩; have HS := Lib.hid (HS.out.trans (hd.mono HS.out.size)); obtain ⟨c0, c1, c2, c3, c4, c5, c6⟩ := HBA.out v HS.out; clear hd)
                | (go_at_call 36; first | ((with_reducible show Calls _ _ #[.int .i64 i, _, _] _ _); refine (Ci.out _).mono ?_; rintro e v ⟨rfl, rfl⟩) | ((with_reducible show Calls _ _ #[.int .i64 s, _, _] _ _); refine (Cs.out _).mono ?_; rintro e v ⟨rfl, rfl⟩) | ((with_reducible show Calls _ _ #[.int .i64 c, _, _] _ _); refine (Cc.out _).mono ?_; rintro e v ⟨rfl, rfl⟩)))
              go_ret
              exact ⟨rfl, HW.out.trans (HS.out.mono HW.out.size)⟩
      | true =>
        cases zi with
        | false =>
          obtain rfl : E = 282 := by rw [he]; simp
          clear he
          go_enter Try.func11, Try.ntmps11
          go_wp2_with (first
            | (go_at_call 33; refine (CA.out _).mono ?_; rintro e v ⟨rfl, hd⟩; have hd : Below V.heap.size V v := (by rw [HV.out]; exact hd); have HS := Lib.hid (HS.out.trans (hd.mono HS.out.size)); obtain ⟨c0, c1, c2, c3, c4, c5, c6⟩ := HBA.out v HS.out; clear hd)
            | (go_at_call 34; refine (CP.out _ _ rfl).mono ?_; rintro e v ⟨rfl, hd⟩; have HS := Lib.hid (HS.out.trans (hd.mono HS.out.size)); obtain ⟨c0, c1, c2, c3, c4, c5, c6⟩ := HBA.out v HS.out; clear hd)
            | (go_at_call 35; refine (CW.out _).mono ?_; rintro e v ⟨rfl, hd⟩; have HS := Lib.hid (HS.out.trans (hd.mono HS.out.size)); obtain ⟨c0, c1, c2, c3, c4, c5, c6⟩ := HBA.out v HS.out; clear hd)
            | (go_at_call 36; first | ((with_reducible show Calls _ _ #[.int .i64 i, _, _] _ _); refine (Ci.out _).mono ?_; rintro e v ⟨rfl, rfl⟩) | ((with_reducible show Calls _ _ #[.int .i64 s, _, _] _ _); refine (Cs.out _).mono ?_; rintro e v ⟨rfl, rfl⟩) | ((with_reducible show Calls _ _ #[.int .i64 c, _, _] _ _); refine (Cc.out _).mono ?_; rintro e v ⟨rfl, rfl⟩)))
          go_ret
          exact ⟨rfl, HW.out.trans (HS.out.mono HW.out.size)⟩
        | true =>
          cases zs with
          | false =>
            obtain rfl : E = 282 := by rw [he]; simp
            clear he
            go_enter Try.func11, Try.ntmps11
            go_wp2_with (first
              | (go_at_call 33; refine (CA.out _).mono ?_; rintro e v ⟨rfl, hd⟩; have hd : Below V.heap.size V v := (by rw [HV.out]; exact hd); have HS := Lib.hid (HS.out.trans (hd.mono HS.out.size)); obtain ⟨c0, c1, c2, c3, c4, c5, c6⟩ := HBA.out v HS.out; clear hd)
              | (go_at_call 34; refine (CP.out _ _ rfl).mono ?_; rintro e v ⟨rfl, hd⟩; have HS := Lib.hid (HS.out.trans (hd.mono HS.out.size)); obtain ⟨c0, c1, c2, c3, c4, c5, c6⟩ := HBA.out v HS.out; clear hd)
              | (go_at_call 35; refine (CW.out _).mono ?_; rintro e v ⟨rfl, hd⟩; have HS := Lib.hid (HS.out.trans (hd.mono HS.out.size)); obtain ⟨c0, c1, c2, c3, c4, c5, c6⟩ := HBA.out v HS.out; clear hd)
              | (go_at_call 36; first | ((with_reducible show Calls _ _ #[.int .i64 i, _, _] _ _); refine (Ci.out _).mono ?_; rintro e v ⟨rfl, rfl⟩) | ((with_reducible show Calls _ _ #[.int .i64 s, _, _] _ _); refine (Cs.out _).mono ?_; rintro e v ⟨rfl, rfl⟩) | ((with_reducible show Calls _ _ #[.int .i64 c, _, _] _ _); refine (Cc.out _).mono ?_; rintro e v ⟨rfl, rfl⟩)))
            go_ret
            exact ⟨rfl, HW.out.trans (HS.out.mono HW.out.size)⟩
          | true =>
            cases zc with
            | false =>
              obtain rfl : E = 282 := by rw [he]; simp
              clear he
              go_enter Try.func11, Try.ntmps11
              go_wp2_with (first
                | (go_at_call 33; refine (CA.out _).mono ?_; rintro e v ⟨rfl, hd⟩; have hd : Below V.heap.size V v := (by rw [HV.out]; exact hd); have HS := Lib.hid (HS.out.trans (hd.mono HS.out.size)); obtain ⟨c0, c1, c2, c3, c4, c5, c6⟩ := HBA.out v HS.out; clear hd)
                | (go_at_call 34; refine (CP.out _ _ rfl).mono ?_; rintro e v ⟨rfl, hd⟩; have HS := Lib.hid (HS.out.trans (hd.mono HS.out.size)); obtain ⟨c0, c1, c2, c3, c4, c5, c6⟩ := HBA.out v HS.out; clear hd)
                | (go_at_call 35; refine (CW.out _).mono ?_; rintro e v ⟨rfl, hd⟩; have HS := Lib.hid (HS.out.trans (hd.mono HS.out.size)); obtain ⟨c0, c1, c2, c3, c4, c5, c6⟩ := HBA.out v HS.out; clear hd)
                | (go_at_call 36; first | ((with_reducible show Calls _ _ #[.int .i64 i, _, _] _ _); refine (Ci.out _).mono ?_; rintro e v ⟨rfl, rfl⟩) | ((with_reducible show Calls _ _ #[.int .i64 s, _, _] _ _); refine (Cs.out _).mono ?_; rintro e v ⟨rfl, rfl⟩) | ((with_reducible show Calls _ _ #[.int .i64 c, _, _] _ _); refine (Cc.out _).mono ?_; rintro e v ⟨rfl, rfl⟩)))
              go_ret
              exact ⟨rfl, HW.out.trans (HS.out.mono HW.out.size)⟩
            | true =>
              obtain rfl : E = 0 := by rw [he]; simp
              clear he
              go_enter Try.func11, Try.ntmps11
              go_wp2_with (first
                | (go_at_call 33; refine (CA.out _).mono ?_; rintro e v ⟨rfl, hd⟩; have hd : Below V.heap.size V v := (by rw [HV.out]; exact hd); have HS := Lib.hid (HS.out.trans (hd.mono HS.out.size)); obtain ⟨c0, c1, c2, c3, c4, c5, c6⟩ := HBA.out v HS.out; clear hd)
                | (go_at_call 34; refine (CP.out _ _ rfl).mono ?_; rintro e v ⟨rfl, hd⟩; have HS := Lib.hid (HS.out.trans (hd.mono HS.out.size)); obtain ⟨c0, c1, c2, c3, c4, c5, c6⟩ := HBA.out v HS.out; clear hd)
                | (go_at_call 35; refine (CW.out _).mono ?_; rintro e v ⟨rfl, hd⟩; have HS := Lib.hid (HS.out.trans (hd.mono HS.out.size)); obtain ⟨c0, c1, c2, c3, c4, c5, c6⟩ := HBA.out v HS.out; clear hd)
                | (go_at_call 36; first | ((with_reducible show Calls _ _ #[.int .i64 i, _, _] _ _); refine (Ci.out _).mono ?_; rintro e v ⟨rfl, rfl⟩) | ((with_reducible show Calls _ _ #[.int .i64 s, _, _] _ _); refine (Cs.out _).mono ?_; rintro e v ⟨rfl, rfl⟩) | ((with_reducible show Calls _ _ #[.int .i64 c, _, _] _ _); refine (Cc.out _).mono ?_; rintro e v ⟨rfl, rfl⟩)))
              go_ret
              exact ⟨rfl, HW.out.trans (HS.out.mono HW.out.size)⟩
end Go.Proofs.Ytbemphfijkcbhaa
