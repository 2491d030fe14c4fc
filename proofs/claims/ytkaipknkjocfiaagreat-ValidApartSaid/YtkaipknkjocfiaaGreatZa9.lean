import Derived.Test.YtkaipknkjocfiaaGreatZa8
namespace Go.Proofs.YtkaipknkjocfiaaGreat
open Go.RowKit
def boxBd (r1 r2 l1 l2 : Nat) (i s c : Int) : Array Value := #[.int .u64 (r1 : Int), .int .u64 (r2 : Int), .int .u64 (l1 : Int), .int .u64 (l2 : Int), .int .i64 i, .int .i64 s, .int .i64 c]
def memB (r1 r2 l1 l2 : Nat) : Bool := addrB (r1, r2) && (paged (l1, l2) && within (l1, l2) (r1, r2))
def restB (i s c : Int) : Bool := decide (0 ≤ i ∧ i ≤ 1020) && (decide (0 ≤ s ∧ s ≤ 256) && decide (1 ≤ c ∧ c ≤ 32))
def fitE (r1 r2 l1 l2 : Nat) (i s c : Int) : Nat := if (memB r1 r2 l1 l2 && restB i s c) = true then 0 else 282
def BdAt (w : World) (r1 r2 l1 l2 : Nat) (i s c : Int) (v : World) : Prop := v.cell? ⟨w.heap.size, 0, none⟩ = some (.int .u64 (r1 : Int)) ∧ v.cell? ⟨w.heap.size, 1, none⟩ = some (.int .u64 (r2 : Int)) ∧ v.cell? ⟨w.heap.size, 2, none⟩ = some (.int .u64 (l1 : Int)) ∧ v.cell? ⟨w.heap.size, 3, none⟩ = some (.int .u64 (l2 : Int)) ∧
 v.cell? ⟨w.heap.size, 4, none⟩ = some (.int .i64 i) ∧ v.cell? ⟨w.heap.size, 5, none⟩ = some (.int .i64 s) ∧ v.cell? ⟨w.heap.size, 6, none⟩ = some (.int .i64 c)
theorem BdAt.of {w v : World} {r1 r2 l1 l2 : Nat} {i s c : Int} (h : Below (w.alloc (.cells (boxBd r1 r2 l1 l2 i s c) 26)).heap.size (w.alloc (.cells (boxBd r1 r2 l1 l2 i s c) 26)) v) : BdAt w r1 r2 l1 l2 i s c v := by
 have hb : Blk v w.heap.size 26 (boxBd r1 r2 l1 l2 i s c) := Blk.under (Blk.new _ _ _ rfl) h
 exact ⟨hb.cellAt 0 rfl, hb.cellAt 1 rfl, hb.cellAt 2 rfl, hb.cellAt 3 rfl, hb.cellAt 4 rfl, hb.cellAt 5 rfl, hb.cellAt 6 rfl⟩
set_option maxRecDepth 100000 in
set_option maxHeartbeats 4000000 in
theorem fit_any (r1 r2 l1 l2 : Nat) (i s c : Int) (hr : fit (r1, r2)) (hl : fit (l1, l2)) (w : World) :
  Calls Tryz.prog 37 #[.agg #[.int .u64 (r1 : Int), .int .u64 (r2 : Int), .int .u64 (l1 : Int), .int .u64 (l2 : Int), .int .i64 i, .int .i64 s, .int .i64 c]] w fun e w' => e = .returned (.int .i64 (fitE r1 r2 l1 l2 i s c : Nat)) ∧ Below w.heap.size w w' := by
 obtain ⟨V, hV⟩ : ∃ V, V = w.alloc (.cells (boxBd r1 r2 l1 l2 i s c) 26) := ⟨_, rfl⟩
 have HBA : Hid (∀ v, Below V.heap.size V v → BdAt w r1 r2 l1 l2 i s c v) := Lib.hid (by rw [hV]; exact fun v h => BdAt.of h)
 have HS : Hid (Below V.heap.size V V) := Lib.hid (Below.refl _ _)
 have HW : Hid (Below w.heap.size w V) := Lib.hid (by rw [hV]; exact (Below.refl _ _).alloc (Nat.le_refl _) _)
 obtain ⟨zA, hzA⟩ : ∃ z, z = addrB (r1, r2) := ⟨_, rfl⟩
 obtain ⟨zP, hzP⟩ : ∃ z, z = paged (l1, l2) := ⟨_, rfl⟩
 obtain ⟨zW, hzW⟩ : ∃ z, z = within (l1, l2) (r1, r2) := ⟨_, rfl⟩
 obtain ⟨zi, hzi⟩ : ∃ z, z = decide ((0 : Int) ≤ i ∧ i ≤ 1020) := ⟨_, rfl⟩
 obtain ⟨zs, hzs⟩ : ∃ z, z = decide ((0 : Int) ≤ s ∧ s ≤ 256) := ⟨_, rfl⟩
 obtain ⟨zc, hzc⟩ : ∃ z, z = decide ((1 : Int) ≤ c ∧ c ≤ 32) := ⟨_, rfl⟩
 have CA := Lib.hid (fun W => addressed_any r1 r2 hr W)
 have CP := Lib.hid (fun W g hg => pages1 l1 l2 hl W g hg)
 have CW := Lib.hid (fun W => within_any l1 l2 r1 r2 hl hr W)
 have Ci := Lib.hid (fun W => among9_any i 0 1020 W)
 have Cs := Lib.hid (fun W => among9_any s 0 256 W)
 have Cc := Lib.hid (fun W => among9_any c 1 32 W)
 obtain ⟨E, hE⟩ : ∃ E, E = fitE r1 r2 l1 l2 i s c := ⟨_, rfl⟩
 have he : E = if ((zA && (zP && zW)) && (zi && (zs && zc))) = true then 0 else 282 := by rw [hE, hzA, hzP, hzW, hzi, hzs, hzc]; rfl
 rw [← hE]
 rw [← hzA] at CA
 rw [← hzP] at CP
 rw [← hzW] at CW
 rw [← hzi] at Ci
 rw [← hzs] at Cs
 rw [← hzc] at Cc
 have HV := Lib.hid hV
 clear hr hl hE hzA hzP hzW hzi hzs hzc hV
 obtain ⟨c0, c1, c2, c3, c4, c5, c6⟩ := HBA.out V HS.out
 rw [HV.out] at c0 c1 c2 c3 c4 c5 c6
 simp only [boxBd] at c0 c1 c2 c3 c4 c5 c6
 cases zA with
 | false =>
  cases zi with
  | false =>
   obtain rfl : E = 282 := by rw [he]; simp
   clear he
   go_enter Tryz.func37, Tryz.ntmps37
   go_wp2_with (first
    | (go_at_call 67; refine (CA.out _).mono ?_; rintro e v ⟨rfl, hd⟩; have hd : Below V.heap.size V v := (by rw [HV.out]; exact hd); have HS := Lib.hid (HS.out.trans (hd.mono HS.out.size)); obtain ⟨c0, c1, c2, c3, c4, c5, c6⟩ := HBA.out v HS.out; clear hd)
    | (go_at_call 70; first | ((with_reducible show Calls _ _ #[.int .i64 i, _, _] _ _); refine (Ci.out _).mono ?_; rintro e v ⟨rfl, rfl⟩) | ((with_reducible show Calls _ _ #[.int .i64 s, _, _] _ _); refine (Cs.out _).mono ?_; rintro e v ⟨rfl, rfl⟩) | ((with_reducible show Calls _ _ #[.int .i64 c, _, _] _ _); refine (Cc.out _).mono ?_; rintro e v ⟨rfl, rfl⟩)))
   go_ret
   exact ⟨rfl, HW.out.trans (HS.out.mono HW.out.size)⟩
  | true =>
   cases zs with
   | false =>
    obtain rfl : E = 282 := by rw [he]; simp
    clear he
    go_enter Tryz.func37, Tryz.ntmps37
    go_wp2_with (first
     | (go_at_call 67; refine (CA.out _).mono ?_; rintro e v ⟨rfl, hd⟩; have hd : Below V.heap.size V v := (by rw [HV.out]; exact hd); have HS := Lib.hid (HS.out.trans (hd.mono HS.out.size)); obtain ⟨c0, c1, c2, c3, c4, c5, c6⟩ := HBA.out v HS.out; clear hd)
     | (go_at_call 70; first | ((with_reducible show Calls _ _ #[.int .i64 i, _, _] _ _); refine (Ci.out _).mono ?_; rintro e v ⟨rfl, rfl⟩) | ((with_reducible show Calls _ _ #[.int .i64 s, _, _] _ _); refine (Cs.out _).mono ?_; rintro e v ⟨rfl, rfl⟩) | ((with_reducible show Calls _ _ #[.int .i64 c, _, _] _ _); refine (Cc.out _).mono ?_; rintro e v ⟨rfl, rfl⟩)))
    go_ret
    exact ⟨rfl, HW.out.trans (HS.out.mono HW.out.size)⟩
   | true =>
    cases zc with
    | false =>
     obtain rfl : E = 282 := by rw [he]; simp
     clear he
     go_enter Tryz.func37, Tryz.ntmps37
     go_wp2_with (first
      | (go_at_call 67; refine (CA.out _).mono ?_; rintro e v ⟨rfl, hd⟩; have hd : Below V.heap.size V v := (by rw [HV.out]; exact hd); have HS := Lib.hid (HS.out.trans (hd.mono HS.out.size)); obtain ⟨c0, c1, c2, c3, c4, c5, c6⟩ := HBA.out v HS.out; clear hd)
      | (go_at_call 70; first | ((with_reducible show Calls _ _ #[.int .i64 i, _, _] _ _); refine (Ci.out _).mono ?_; rintro e v ⟨rfl, rfl⟩) | ((with_reducible show Calls _ _ #[.int .i64 s, _, _] _ _); refine (Cs.out _).mono ?_; rintro e v ⟨rfl, rfl⟩) | ((with_reducible show Calls _ _ #[.int .i64 c, _, _] _ _); refine (Cc.out _).mono ?_; rintro e v ⟨rfl, rfl⟩)))
     go_ret
     exact ⟨rfl, HW.out.trans (HS.out.mono HW.out.size)⟩
    | true =>
     obtain rfl : E = 282 := by rw [he]; simp
     clear he
     go_enter Tryz.func37, Tryz.ntmps37
     go_wp2_with (first
      | (go_at_call 67; refine (CA.out _).mono ?_; rintro e v ⟨rfl, hd⟩; have hd : Below V.heap.size V v := (by rw [HV.out]; exact hd); have HS := Lib.hid (HS.out.trans (hd.mono HS.out.size)); obtain ⟨c0, c1, c2, c3, c4, c5, c6⟩ := HBA.out v HS.out; clear hd)
      | (go_at_call 70; first | ((with_reducible show Calls _ _ #[.int .i64 i, _, _] _ _); refine (Ci.out _).mono ?_; rintro e v ⟨rfl, rfl⟩) | ((with_reducible show Calls _ _ #[.int .i64 s, _, _] _ _); refine (Cs.out _).mono ?_; rintro e v ⟨rfl, rfl⟩) | ((with_reducible show Calls _ _ #[.int .i64 c, _, _] _ _); refine (Cc.out _).mono ?_; rintro e v ⟨rfl, rfl⟩)))
     go_ret
     exact ⟨rfl, HW.out.trans (HS.out.mono HW.out.size)⟩
 | true =>
  cases zP with
  | false =>
   cases zi with
   | false =>
    obtain rfl : E = 282 := by rw [he]; simp
    clear he
    go_enter Tryz.func37, Tryz.ntmps37
    go_wp2_with (first
     | (go_at_call 67; refine (CA.out _).mono ?_; rintro e v ⟨rfl, hd⟩; have hd : Below V.heap.size V v := (by rw [HV.out]; exact hd); have HS := Lib.hid (HS.out.trans (hd.mono HS.out.size)); obtain ⟨c0, c1, c2, c3, c4, c5, c6⟩ := HBA.out v HS.out; clear hd)
     | (go_at_call 68; refine (CP.out _ _ rfl).mono ?_; rintro e v ⟨rfl, hd⟩; have HS := Lib.hid (HS.out.trans (hd.mono HS.out.size)); obtain ⟨c0, c1, c2, c3, c4, c5, c6⟩ := HBA.out v HS.out; clear hd)
     | (go_at_call 70; first | ((with_reducible show Calls _ _ #[.int .i64 i, _, _] _ _); refine (Ci.out _).mono ?_; rintro e v ⟨rfl, rfl⟩) | ((with_reducible show Calls _ _ #[.int .i64 s, _, _] _ _); refine (Cs.out _).mono ?_; rintro e v ⟨rfl, rfl⟩) | ((with_reducible show Calls _ _ #[.int .i64 c, _, _] _ _); refine (Cc.out _).mono ?_; rintro e v ⟨rfl, rfl⟩)))
    go_ret
    exact ⟨rfl, HW.out.trans (HS.out.mono HW.out.size)⟩
   | true =>
    cases zs with
    | false =>
     obtain rfl : E = 282 := by rw [he]; simp
     clear he
     go_enter Tryz.func37, Tryz.ntmps37
     go_wp2_with (first
      | (go_at_call 67; refine (CA.out _).mono ?_; rintro e v ⟨rfl, hd⟩; have hd : Below V.heap.size V v := (by rw [HV.out]; exact hd); have HS := Lib.hid (HS.out.trans (hd.mono HS.out.size)); obtain ⟨c0, c1, c2, c3, c4, c5, c6⟩ := HBA.out v HS.out; clear hd)
      | (go_at_call 68; refine (CP.out _ _ rfl).mono ?_; rintro e v ⟨rfl, hd⟩; have HS := Lib.hid (HS.out.trans (hd.mono HS.out.size)); obtain ⟨c0, c1, c2, c3, c4, c5, c6⟩ := HBA.out v HS.out; clear hd)
      | (go_at_call 70; first | ((with_reducible show Calls _ _ #[.int .i64 i, _, _] _ _); refine (Ci.out _).mono ?_; rintro e v ⟨rfl, rfl⟩) | ((with_reducible show Calls _ _ #[.int .i64 s, _, _] _ _); refine (Cs.out _).mono ?_; rintro e v ⟨rfl, rfl⟩) | ((with_reducible show Calls _ _ #[.int .i64 c, _, _] _ _); refine (Cc.out _).mono ?_; rintro e v ⟨rfl, rfl⟩)))
     go_ret
     exact ⟨rfl, HW.out.trans (HS.out.mono HW.out.size)⟩
    | true =>
     cases zc with
     | false =>
      obtain rfl : E = 282 := by rw [he]; simp
      clear he
      go_enter Tryz.func37, Tryz.ntmps37
      go_wp2_with (first
       | (go_at_call 67; refine (CA.out _).mono ?_; rintro e v ⟨rfl, hd⟩; have hd : Below V.heap.size V v := (by rw [HV.out]; exact hd); have HS := Lib.hid (HS.out.trans (hd.mono HS.out.size)); obtain ⟨c0, c1, c2, c3, c4, c5, c6⟩ := HBA.out v HS.out; clear hd)
       | (go_at_call 68; refine (CP.out _ _ rfl).mono ?_; rintro e v ⟨rfl, hd⟩; have HS := Lib.hid (HS.out.trans (hd.mono HS.out.size)); obtain ⟨c0, c1, c2, c3, c4, c5, c6⟩ := HBA.out v HS.out; clear hd)
       | (go_at_call 70; first | ((with_reducible show Calls _ _ #[.int .i64 i, _, _] _ _); refine (Ci.out _).mono ?_; rintro e v ⟨rfl, rfl⟩) | ((with_reducible show Calls _ _ #[.int .i64 s, _, _] _ _); refine (Cs.out _).mono ?_; rintro e v ⟨rfl, rfl⟩) | ((with_reducible show Calls _ _ #[.int .i64 c, _, _] _ _); refine (Cc.out _).mono ?_; rintro e v ⟨rfl, rfl⟩)))
      go_ret
      exact ⟨rfl, HW.out.trans (HS.out.mono HW.out.size)⟩
     | true =>
      obtain rfl : E = 282 := by rw [he]; simp
      clear he
      go_enter Tryz.func37, Tryz.ntmps37
      go_wp2_with (first
       | (go_at_call 67; refine (CA.out _).mono ?_; rintro e v ⟨rfl, hd⟩; have hd : Below V.heap.size V v := (by rw [HV.out]; exact hd); have HS := Lib.hid (HS.out.trans (hd.mono HS.out.size)); obtain ⟨c0, c1, c2, c3, c4, c5, c6⟩ := HBA.out v HS.out; clear hd)
       | (go_at_call 68; refine (CP.out _ _ rfl).mono ?_; rintro e v ⟨rfl, hd⟩; have HS := Lib.hid (HS.out.trans (hd.mono HS.out.size)); obtain ⟨c0, c1, c2, c3, c4, c5, c6⟩ := HBA.out v HS.out; clear hd)
       | (go_at_call 70; first | ((with_reducible show Calls _ _ #[.int .i64 i, _, _] _ _); refine (Ci.out _).mono ?_; rintro e v ⟨rfl, rfl⟩) | ((with_reducible show Calls _ _ #[.int .i64 s, _, _] _ _); refine (Cs.out _).mono ?_; rintro e v ⟨rfl, rfl⟩) | ((with_reducible show Calls _ _ #[.int .i64 c, _, _] _ _); refine (Cc.out _).mono ?_; rintro e v ⟨rfl, rfl⟩)))
      go_ret
      exact ⟨rfl, HW.out.trans (HS.out.mono HW.out.size)⟩
  | true =>
   cases zW with
   | false =>
    cases zi with
    | false =>
     obtain rfl : E = 282 := by rw [he]; simp
     clear he
     go_enter Tryz.func37, Tryz.ntmps37
     go_wp2_with (first
      | (go_at_call 67; refine (CA.out _).mono ?_; rintro e v ⟨rfl, hd⟩; have hd : Below V.heap.size V v := (by rw [HV.out]; exact hd); have HS := Lib.hid (HS.out.trans (hd.mono HS.out.size)); obtain ⟨c0, c1, c2, c3, c4, c5, c6⟩ := HBA.out v HS.out; clear hd)
      | (go_at_call 68; refine (CP.out _ _ rfl).mono ?_; rintro e v ⟨rfl, hd⟩; have HS := Lib.hid (HS.out.trans (hd.mono HS.out.size)); obtain ⟨c0, c1, c2, c3, c4, c5, c6⟩ := HBA.out v HS.out; clear hd)
      | (go_at_call 69; refine (CW.out _).mono ?_; rintro e v ⟨rfl, hd⟩; have HS := Lib.hid (HS.out.trans (hd.mono HS.out.size)); obtain ⟨c0, c1, c2, c3, c4, c5, c6⟩ := HBA.out v HS.out; clear hd)
      | (go_at_call 70; first | ((with_reducible show Calls _ _ #[.int .i64 i, _, _] _ _); refine (Ci.out _).mono ?_; rintro e v ⟨rfl, rfl⟩) | ((with_reducible show Calls _ _ #[.int .i64 s, _, _] _ _); refine (Cs.out _).mono ?_; rintro e v ⟨rfl, rfl⟩) | ((with_reducible show Calls _ _ #[.int .i64 c, _, _] _ _); refine (Cc.out _).mono ?_; rintro e v ⟨rfl, rfl⟩)))
     go_ret
     exact ⟨rfl, HW.out.trans (HS.out.mono HW.out.size)⟩
    | true =>
     cases zs with
     | false =>
      obtain rfl : E = 282 := by rw [he]; simp
      clear he
      go_enter Tryz.func37, Tryz.ntmps37
      go_wp2_with (first
       | (go_at_call 67; refine (CA.out _).mono ?_; rintro e v ⟨rfl, hd⟩; have hd : Below V.heap.size V v := (by rw [HV.out]; exact hd); have HS := Lib.hid (HS.out.trans (hd.mono HS.out.size)); obtain ⟨c0, c1, c2, c3, c4, c5, c6⟩ := HBA.out v HS.out; clear hd)
       | (go_at_call 68; refine (CP.out _ _ rfl).mono ?_; rintro e v ⟨rfl, hd⟩; have HS := Lib.hid (HS.out.trans (hd.mono HS.out.size)); obtain ⟨c0, c1, c2, c3, c4, c5, c6⟩ := HBA.out v HS.out; clear hd)
       | (go_at_call 69; refine (CW.out _).mono ?_; rintro e v ⟨rfl, hd⟩; have HS := Lib.hid (HS.out.trans (hd.mono HS.out.size)); obtain ⟨c0, c1, c2, c3, c4, c5, c6⟩ := HBA.out v HS.out; clear hd)
       | (go_at_call 70; first | ((with_reducible show Calls _ _ #[.int .i64 i, _, _] _ _); refine (Ci.out _).mono ?_; rintro e v ⟨rfl, rfl⟩) | ((with_reducible show Calls _ _ #[.int .i64 s, _, _] _ _); refine (Cs.out _).mono ?_; rintro e v ⟨rfl, rfl⟩) | ((with_reducible show Calls _ _ #[.int .i64 c, _, _] _ _); refine (Cc.out _).mono ?_; rintro e v ⟨rfl, rfl⟩)))
      go_ret
      exact ⟨rfl, HW.out.trans (HS.out.mono HW.out.size)⟩
     | true =>
      cases zc with
      | false =>
       obtain rfl : E = 282 := by rw [he]; simp
       clear he
       go_enter Tryz.func37, Tryz.ntmps37
       go_wp2_with (first
        | (go_at_call 67; refine (CA.out _).mono ?_; rintro e v ⟨rfl, hd⟩; have hd : Below V.heap.size V v := (by rw [HV.out]; exact hd); have HS := Lib.hid (HS.out.trans (hd.mono HS.out.size)); obtain ⟨c0, c1, c2, c3, c4, c5, c6⟩ := HBA.out v HS.out; clear hd)
        | (go_at_call 68; refine (CP.out _ _ rfl).mono ?_; rintro e v ⟨rfl, hd⟩; have HS := Lib.hid (HS.out.trans (hd.mono HS.out.size)); obtain ⟨c0, c1, c2, c3, c4, c5, c6⟩ := HBA.out v HS.out; clear hd)
        | (go_at_call 69; refine (CW.out _).mono ?_; rintro e v ⟨rfl, hd⟩; have HS := Lib.hid (HS.out.trans (hd.mono HS.out.size)); obtain ⟨c0, c1, c2, c3, c4, c5, c6⟩ := HBA.out v HS.out; clear hd)
        | (go_at_call 70; first | ((with_reducible show Calls _ _ #[.int .i64 i, _, _] _ _); refine (Ci.out _).mono ?_; rintro e v ⟨rfl, rfl⟩) | ((with_reducible show Calls _ _ #[.int .i64 s, _, _] _ _); refine (Cs.out _).mono ?_; rintro e v ⟨rfl, rfl⟩) | ((with_reducible show Calls _ _ #[.int .i64 c, _, _] _ _); refine (Cc.out _).mono ?_; rintro e v ⟨rfl, rfl⟩)))
       go_ret
       exact ⟨rfl, HW.out.trans (HS.out.mono HW.out.size)⟩
      | true =>
       obtain rfl : E = 282 := by rw [he]; simp
       clear he
       go_enter Tryz.func37, Tryz.ntmps37
       go_wp2_with (first
        | (go_at_call 67; refine (CA.out _).mono ?_; rintro e v ⟨rfl, hd⟩; have hd : Below V.heap.size V v := (by rw [HV.out]; exact hd); have HS := Lib.hid (HS.out.trans (hd.mono HS.out.size)); obtain ⟨c0, c1, c2, c3, c4, c5, c6⟩ := HBA.out v HS.out; clear hd)
        | (go_at_call 68; refine (CP.out _ _ rfl).mono ?_; rintro e v ⟨rfl, hd⟩; have HS := Lib.hid (HS.out.trans (hd.mono HS.out.size)); obtain ⟨c0, c1, c2, c3, c4, c5, c6⟩ := HBA.out v HS.out; clear hd)
        | (go_at_call 69; refine (CW.out _).mono ?_; rintro e v ⟨rfl, hd⟩; have HS := Lib.hid (HS.out.trans (hd.mono HS.out.size)); obtain ⟨c0, c1, c2, c3, c4, c5, c6⟩ := HBA.out v HS.out; clear hd)
        | (go_at_call 70; first | ((with_reducible show Calls _ _ #[.int .i64 i, _, _] _ _); refine (Ci.out _).mono ?_; rintro e v ⟨rfl, rfl⟩) | ((with_reducible show Calls _ _ #[.int .i64 s, _, _] _ _); refine (Cs.out _).mono ?_; rintro e v ⟨rfl, rfl⟩) | ((with_reducible show Calls _ _ #[.int .i64 c, _, _] _ _); refine (Cc.out _).mono ?_; rintro e v ⟨rfl, rfl⟩)))
       go_ret
       exact ⟨rfl, HW.out.trans (HS.out.mono HW.out.size)⟩
   | true =>
    cases zi with
    | false =>
     obtain rfl : E = 282 := by rw [he]; simp
     clear he
     go_enter Tryz.func37, Tryz.ntmps37
     go_wp2_with (first
      | (go_at_call 67; refine (CA.out _).mono ?_; rintro e v ⟨rfl, hd⟩; have hd : Below V.heap.size V v := (by rw [HV.out]; exact hd); have HS := Lib.hid (HS.out.trans (hd.mono HS.out.size)); obtain ⟨c0, c1, c2, c3, c4, c5, c6⟩ := HBA.out v HS.out; clear hd)
      | (go_at_call 68; refine (CP.out _ _ rfl).mono ?_; rintro e v ⟨rfl, hd⟩; have HS := Lib.hid (HS.out.trans (hd.mono HS.out.size)); obtain ⟨c0, c1, c2, c3, c4, c5, c6⟩ := HBA.out v HS.out; clear hd)
      | (go_at_call 69; refine (CW.out _).mono ?_; rintro e v ⟨rfl, hd⟩; have HS := Lib.hid (HS.out.trans (hd.mono HS.out.size)); obtain ⟨c0, c1, c2, c3, c4, c5, c6⟩ := HBA.out v HS.out; clear hd)
      | (go_at_call 70; first | ((with_reducible show Calls _ _ #[.int .i64 i, _, _] _ _); refine (Ci.out _).mono ?_; rintro e v ⟨rfl, rfl⟩) | ((with_reducible show Calls _ _ #[.int .i64 s, _, _] _ _); refine (Cs.out _).mono ?_; rintro e v ⟨rfl, rfl⟩) | ((with_reducible show Calls _ _ #[.int .i64 c, _, _] _ _); refine (Cc.out _).mono ?_; rintro e v ⟨rfl, rfl⟩)))
     go_ret
     exact ⟨rfl, HW.out.trans (HS.out.mono HW.out.size)⟩
    | true =>
     cases zs with
     | false =>
      obtain rfl : E = 282 := by rw [he]; simp
      clear he
      go_enter Tryz.func37, Tryz.ntmps37
      go_wp2_with (first
       | (go_at_call 67; refine (CA.out _).mono ?_; rintro e v ⟨rfl, hd⟩; have hd : Below V.heap.size V v := (by rw [HV.out]; exact hd); have HS := Lib.hid (HS.out.trans (hd.mono HS.out.size)); obtain ⟨c0, c1, c2, c3, c4, c5, c6⟩ := HBA.out v HS.out; clear hd)
       | (go_at_call 68; refine (CP.out _ _ rfl).mono ?_; rintro e v ⟨rfl, hd⟩; have HS := Lib.hid (HS.out.trans (hd.mono HS.out.size)); obtain ⟨c0, c1, c2, c3, c4, c5, c6⟩ := HBA.out v HS.out; clear hd)
       | (go_at_call 69; refine (CW.out _).mono ?_; rintro e v ⟨rfl, hd⟩; have HS := Lib.hid (HS.out.trans (hd.mono HS.out.size)); obtain ⟨c0, c1, c2, c3, c4, c5, c6⟩ := HBA.out v HS.out; clear hd)
       | (go_at_call 70; first | ((with_reducible show Calls _ _ #[.int .i64 i, _, _] _ _); refine (Ci.out _).mono ?_; rintro e v ⟨rfl, rfl⟩) | ((with_reducible show Calls _ _ #[.int .i64 s, _, _] _ _); refine (Cs.out _).mono ?_; rintro e v ⟨rfl, rfl⟩) | ((with_reducible show Calls _ _ #[.int .i64 c, _, _] _ _); refine (Cc.out _).mono ?_; rintro e v ⟨rfl, rfl⟩)))
      go_ret
      exact ⟨rfl, HW.out.trans (HS.out.mono HW.out.size)⟩
     | true =>
      cases zc with
      | false =>
       obtain rfl : E = 282 := by rw [he]; simp
       clear he
       go_enter Tryz.func37, Tryz.ntmps37
       go_wp2_with (first
        | (go_at_call 67; refine (CA.out _).mono ?_; rintro e v ⟨rfl, hd⟩; have hd : Below V.heap.size V v := (by rw [HV.out]; exact hd); have HS := Lib.hid (HS.out.trans (hd.mono HS.out.size)); obtain ⟨c0, c1, c2, c3, c4, c5, c6⟩ := HBA.out v HS.out; clear hd)
        | (go_at_call 68; refine (CP.out _ _ rfl).mono ?_; rintro e v ⟨rfl, hd⟩; have HS := Lib.hid (HS.out.trans (hd.mono HS.out.size)); obtain ⟨c0, c1, c2, c3, c4, c5, c6⟩ := HBA.out v HS.out; clear hd)
        | (go_at_call 69; refine (CW.out _).mono ?_; rintro e v ⟨rfl, hd⟩; have HS := Lib.hid (HS.out.trans (hd.mono HS.out.size)); obtain ⟨c0, c1, c2, c3, c4, c5, c6⟩ := HBA.out v HS.out; clear hd)
        | (go_at_call 70; first | ((with_reducible show Calls _ _ #[.int .i64 i, _, _] _ _); refine (Ci.out _).mono ?_; rintro e v ⟨rfl, rfl⟩) | ((with_reducible show Calls _ _ #[.int .i64 s, _, _] _ _); refine (Cs.out _).mono ?_; rintro e v ⟨rfl, rfl⟩) | ((with_reducible show Calls _ _ #[.int .i64 c, _, _] _ _); refine (Cc.out _).mono ?_; rintro e v ⟨rfl, rfl⟩)))
       go_ret
       exact ⟨rfl, HW.out.trans (HS.out.mono HW.out.size)⟩
      | true =>
       obtain rfl : E = 0 := by rw [he]; simp
       clear he
       go_enter Tryz.func37, Tryz.ntmps37
       go_wp2_with (first
        | (go_at_call 67; refine (CA.out _).mono ?_; rintro e v ⟨rfl, hd⟩; have hd : Below V.heap.size V v := (by rw [HV.out]; exact hd); have HS := Lib.hid (HS.out.trans (hd.mono HS.out.size)); obtain ⟨c0, c1, c2, c3, c4, c5, c6⟩ := HBA.out v HS.out; clear hd)
        | (go_at_call 68; refine (CP.out _ _ rfl).mono ?_; rintro e v ⟨rfl, hd⟩; have HS := Lib.hid (HS.out.trans (hd.mono HS.out.size)); obtain ⟨c0, c1, c2, c3, c4, c5, c6⟩ := HBA.out v HS.out; clear hd)
        | (go_at_call 69; refine (CW.out _).mono ?_; rintro e v ⟨rfl, hd⟩; have HS := Lib.hid (HS.out.trans (hd.mono HS.out.size)); obtain ⟨c0, c1, c2, c3, c4, c5, c6⟩ := HBA.out v HS.out; clear hd)
        | (go_at_call 70; first | ((with_reducible show Calls _ _ #[.int .i64 i, _, _] _ _); refine (Ci.out _).mono ?_; rintro e v ⟨rfl, rfl⟩) | ((with_reducible show Calls _ _ #[.int .i64 s, _, _] _ _); refine (Cs.out _).mono ?_; rintro e v ⟨rfl, rfl⟩) | ((with_reducible show Calls _ _ #[.int .i64 c, _, _] _ _); refine (Cc.out _).mono ?_; rintro e v ⟨rfl, rfl⟩)))
       go_ret
       exact ⟨rfl, HW.out.trans (HS.out.mono HW.out.size)⟩
end Go.Proofs.YtkaipknkjocfiaaGreat
namespace Go.Proofs.YtkaipknkjocfiaaGreat
set_option linter.unusedSimpArgs false
def PutIs {α : Type} (c : Cod α) (x : α) (er : Nat) (l : By) : Prop := c.put x = if er = 0 then .ok l else .error er
theorem PutIs.map {α β : Type} {c : Cod α} {f : α → β} {g : β → α} {x : β} {e : Nat} {l : By} (h : PutIs c (g x) e l) : PutIs (c.map f g) x e l := h
def errL {α : Type} (e : α → Nat) : List α → Nat
 | [] => 0
 | x :: xs => if e x = 0 then errL e xs else e x
theorem put_fld {m lo hi er : Nat} (z : Int) : (fld m lo hi er).put z = if (lo : Int) ≤ z ∧ z ≤ (hi : Int) then .ok (be m z.toNat) else .error er := rfl
theorem PutIs.fld {m lo hi er : Nat} (he : er ≠ 0) (z : Int) : PutIs (fld m lo hi er) z (if inB z lo hi = true then 0 else er) (be m z.toNat) := by
 unfold PutIs
 rw [put_fld]
 unfold inB
 by_cases h : (lo : Int) ≤ z ∧ z ≤ (hi : Int) <;> simp [h, he]
theorem PutIs.fldOk {m lo hi er : Nat} {z : Int} (h : (lo : Int) ≤ z ∧ z ≤ (hi : Int)) : PutIs (Go.Proofs.YtkaipknkjocfiaaGreat.fld m lo hi er) z 0 (be m z.toNat) := by
 unfold PutIs
 rw [put_fld, if_pos h, if_pos rfl]
theorem PutIs.u64 {z : Int} (h : u64B z) : PutIs u64C z 0 (be 8 z.toNat) := PutIs.fldOk h
theorem PutIs.u32 {z : Int} (h : u32B z) : PutIs u32C z 0 (be 4 z.toNat) := PutIs.fldOk h
def flagN (b : Bool) : Nat := cond b 1 0
theorem PutIs.bool (b : Bool) : PutIs boolC b 0 (be 4 (flagN b)) := by
 cases b <;> exact PutIs.map (PutIs.fldOk (by decide))
theorem PutIs.e {α : Type} {c : Cod α} {x : α} {e e' : Nat} {l l' : By} (h : PutIs c x e l) (he : e = e') (hl : l = l') : PutIs c x e' l' := he ▸ hl ▸ h
def badWi (x : Wi) : Bool := !inB x.perm 0 7
def badIr (x : Ir) : Bool := !inB x.number 0 65535 || !inB x.cpu 0 65535
def badEn (x : En) : Bool := !inB x.guest 0 65535 || !inB x.perm 0 7
def badCh (x : Ch) : Bool := badEn x.a || badEn x.b
def e144 (b : Bool) : Nat := if b = true then 144 else 0
def layWi (x : Wi) : By := be 8 x.ipa.toNat ++ (be 8 x.pa.toNat ++ (be 8 x.size.toNat ++ be 4 x.perm.toNat))
def layDe (x : De) : By := be 8 x.ipa.toNat ++ (be 8 x.pa.toNat ++ be 8 x.size.toNat)
def layIr (x : Ir) : By := be 2 x.number.toNat ++ (be 2 x.cpu.toNat ++ be 4 (flagN x.edge))
def layEn (x : En) : By := be 2 x.guest.toNat ++ (be 2 x.perm.toNat ++ be 8 x.ipa.toNat)
def layCh (x : Ch) : By := be 8 x.pa.toNat ++ (be 8 x.size.toNat ++ (layEn x.a ++ layEn x.b))
def layNu (x : Int) : By := be 4 x.toNat
def cntOk (g : Gs) : Bool := inB g.wins.length 1 16 && (inB g.devs.length 0 16 && (inB g.irqs.length 0 64 && inB g.strs.length 0 32))
def errG (g : Gs) : Nat := if nameOk g.name = false then 143 else if kOk g.key = false then 144 else if cntOk g = false then 142 else e144 (g.wins.any badWi || g.irqs.any badIr)
def layHd (g : Gs) : By := nameE g.name ++ (be 4 (flagN g.must) ++ (be 4 g.off.toNat ++ (be 4 g.len.toNat ++ (be 4 g.cpus.toNat ++ (be 8 g.entry.toNat ++ (be 8 g.dtb.toNat ++ g.key))))))
def layCt (g : Gs) : By := be 2 g.wins.length ++ (be 2 g.devs.length ++ (be 2 g.irqs.length ++ be 2 g.strs.length))
def layLs (g : Gs) : By := g.wins.flatMap layWi ++ (g.devs.flatMap layDe ++ (g.irqs.flatMap layIr ++ g.strs.flatMap layNu))
def layG (g : Gs) : By := layHd g ++ (layCt g ++ layLs g)
def errC (c : Cf) : Nat := if (inB c.gs.length 1 16 && inB c.chs.length 0 32) = false then 142 else if errL errG c.gs = 0 then e144 (c.chs.any badCh) else errL errG c.gs
def layC (c : Cf) : By := be 4 1111705159 ++ (be 2 1 ++ (be 2 c.gs.length ++ (be 2 c.chs.length ++ (be 2 0 ++ be 4 c.ver.toNat)))) ++ (c.gs.flatMap layG ++ c.chs.flatMap layCh)
def errP (c : Cf) : Nat := if errC c = 0 then (if (layC c).length ≤ 65536 then 0 else 2) else errC c
end Go.Proofs.YtkaipknkjocfiaaGreat
