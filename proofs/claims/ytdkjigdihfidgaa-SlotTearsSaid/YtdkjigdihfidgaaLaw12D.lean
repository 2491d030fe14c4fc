/- The walk of SlotTears. -/
import Derived.Test.YtdkjigdihfidgaaLaw12A
namespace Go.Proofs.Ytdkjigdihfidgaa
open Go.RowKit

/-- The words behind i of the writes, of which n are done whole and the next one in the bits of m. -/
def wantAt (f : Nat → W32) (l : List Ct) (n : Nat) (m : W32) (i : Nat) : Nat → W32 := if i ≤ n then aft f (l.take i) else torn f l n m
theorem wantAt_zero (f : Nat → W32) (l : List Ct) (n : Nat) (m : W32) : wantAt f l n m 0 = f := by unfold wantAt; rw [if_pos (Nat.zero_le _)]; rfl
theorem wantAt_end (f : Nat → W32) (l : List Ct) (n : Nat) (m : W32) (h : n ≤ l.length) : wantAt f l n m l.length = torn f l n m := by
  unfold wantAt
  by_cases h2 : l.length ≤ n
  · rw [if_pos h2, torn_ge f l n m h2, show l.length = n by omega]
  · rw [if_neg h2]
theorem wantAt_lt (f : Nat → W32) (l : List Ct) (n : Nat) (m : W32) (i : Nat) (h : i < n) (hl : i < l.length) : wantAt f l n m (i + 1) = put1 (wantAt f l n m i) l[i] ones := by
  unfold wantAt
  rw [if_pos (by omega), if_pos (by omega), aft_take f l i hl]
theorem wantAt_eq (f : Nat → W32) (l : List Ct) (n : Nat) (m : W32) (i : Nat) (h : i = n) (hl : i < l.length) : wantAt f l n m (i + 1) = put1 (wantAt f l n m i) l[i] m := by
  subst h
  unfold wantAt
  rw [if_neg (by omega), if_pos (Nat.le_refl _), torn_lt f l i m hl]
theorem wantAt_gt (f : Nat → W32) (l : List Ct) (n : Nat) (m : W32) (i : Nat) (h : n < i) : wantAt f l n m (i + 1) = wantAt f l n m i := by
  unfold wantAt
  rw [if_neg (by omega), if_neg (by omega)]
theorem Blk.far {w : World} {g : Nat} {t : TypeId} {cs : Array Value} (h : Blk w g t cs) {q : Addr} (hq : g ≠ q.block) (u : Value) : Blk (w.setCell q u) g t cs := (Below.heap_setCell w q u g hq).trans h
/-- Four words, and those that are wanted. -/
structure Tear (w W : World) (gw ga : Nat) (f g h : Nat → W32) : Prop where
  box : Arr W w.heap.size 25 4 (wds f)
  want : Arr W gw 25 4 (wds g)
  all : Arr W ga 25 4 (wds h)
  ne : gw ≠ ga
  lw : w.heap.size < gw
  la : w.heap.size < ga
  be : Below w.heap.size w W
section
variable {w W : World} {gw ga : Nat} {f g h : Nat → W32}
theorem Tear.alloc (H : Tear w W gw ga f g h) (o : Obj) : Tear w (W.alloc o) gw ga f g h := ⟨H.box.alloc _, H.want.alloc _, H.all.alloc _, H.ne, H.lw, H.la, H.be.alloc H.be.size _⟩
theorem Tear.drew (H : Tear w W gw ga f g h) : Tear w W.drew gw ga f g h := ⟨H.box, H.want, H.all, H.ne, H.lw, H.la, H.be.1, H.be.2, H.be.3, H.be.4, H.be.5⟩
theorem Tear.setAll (H : Tear w W gw ga f g h) (j : Nat) (x : W32) : Tear w (W.setCell ⟨ga, j, none⟩ (.int .u32 (num x))) gw ga f g (upd h j x) := by
  have h1 := H.la
  refine ⟨H.box.far (p := ⟨ga, j, none⟩) (show w.heap.size ≠ ga by omega) _, H.want.far (p := ⟨ga, j, none⟩) H.ne _, ?_, H.ne, H.lw, H.la, H.be.setCell (p := ⟨ga, j, none⟩) (show w.heap.size ≤ ga by omega) _⟩
  rw [← wds_upd]; exact H.all.set j _
theorem Tear.setWant (H : Tear w W gw ga f g h) (j : Nat) (x : W32) : Tear w (W.setCell ⟨gw, j, none⟩ (.int .u32 (num x))) gw ga f (upd g j x) h := by
  have h1 := H.lw
  refine ⟨H.box.far (p := ⟨gw, j, none⟩) (show w.heap.size ≠ gw by omega) _, ?_, H.all.far (p := ⟨gw, j, none⟩) (Ne.symm H.ne) _, H.ne, H.lw, H.la, H.be.setCell (p := ⟨gw, j, none⟩) (show w.heap.size ≤ gw by omega) _⟩
  rw [← wds_upd]; exact H.want.set j _
end
attribute [local go_sem ↓ high] zeroQ
attribute [local go_sem] num_or num_and num_andn
set_option maxRecDepth 100000 in
set_option maxHeartbeats 8000000 in
theorem slotTears_walk (f : Nat → W32) (A : Option Addr) (c : Nat) (l : List Ct) (k : Int) (mn : Nat) (w : World) (hc : l.length ≤ c ∧ c ≤ maxLen) (hA : Lies w w.heap.size 2 A l.length (cellsC l)) (_ho : ∀ x ∈ l, CtOk x) (_h3 : -9223372036854775808 ≤ k) (_h4 : k ≤ 9223372036854775807) (hmn : mn < 4294967296) :
    Calls Try.prog 6 #[.agg (vec 4 (wds f)), .slice A l.length c, .int .i64 k, .int .u32 (mn : Int)] w fun e w' => e = .returned (.bool true) ∧ Below w.heap.size w w' := by
  obtain ⟨m, hm⟩ := num_ex (z := (mn : Int)) (by omega) (by omega)
  rw [hm]
  clear hm hmn _h3 _h4 _ho
  have HAw := Lib.hid (fun W => awake_any W)
  obtain ⟨L, hL⟩ : ∃ L, L = l.length := ⟨_, rfl⟩
  obtain ⟨V0, hV0⟩ : ∃ V0, V0 = w.alloc (.cells (vec 4 (wds f)) 25) := ⟨_, rfl⟩
  have B0 : Hid (Arr V0 w.heap.size 25 4 (wds f) ∧ Below w.heap.size w V0) := Lib.hid (by rw [hV0]; exact ⟨Arr.new _ _ _ _, (Below.refl _ _).alloc (Nat.le_refl _) _⟩)
  have HV0 := Lib.hid hV0
  clear hV0
  by_cases h30 : 30 < l.length
  · have e1 : (30 : Int) < L := by omega
    rw [← hL]
    clear hA hc h30 hL
    go_enter Try.func6, Try.ntmps6
    go_upto_region 1 with fail
    rw [← HV0.out]
    go_wp2_with (go_at_call 7; refine (HAw.out _).mono ?_; rintro e w1 ⟨rfl, hd⟩; have H1 := Lib.hid (B0.out.2.trans (hd.mono B0.out.2.size)); clear hd)
    go_ret
    exact ⟨rfl, H1.out⟩
  have e1 : ¬ (30 : Int) < L := by omega
  obtain ⟨n, hn⟩ : ∃ n, n = cutN l k := ⟨_, rfl⟩
  have HX := Lib.hid (And.intro hL hn)
  obtain ⟨T, hT⟩ : ∃ T, T = torn f l n m := ⟨_, rfl⟩
  obtain ⟨U, hU⟩ : ∃ U, U = aft f l := ⟨_, rfl⟩
  have HTU := Lib.hid (And.intro hT hU)
  have HTC : Hid (∀ Z, Below w.heap.size w Z → Calls Try.prog 17 #[.agg (vec 4 (wds f)), .slice A L c, .int .i64 k, .int .u32 (num m)] Z fun e w' => e = .returned (.agg (vec 4 (wds T))) ∧ Below Z.heap.size Z w') := Lib.hid fun Z hZ => by
    rw [hT, hn, hL]
    exact torn_any f A c l (by omega) hc.1 k m Z ((hA.below hZ).wide hZ.size)
  have HUC : Hid (∀ Z, Below w.heap.size w Z → Calls Try.prog 16 #[.agg (vec 4 (wds f)), .slice A L c] Z fun e w' => e = .returned (.agg (vec 4 (wds U))) ∧ Below Z.heap.size Z w') := Lib.hid fun Z hZ => by
    rw [hU, hL]
    exact after_any f A c l (by omega) Z ((hA.below hZ).wide hZ.size)
  have HA := Lib.hid hA
  rw [← hL]
  clear hA hc h30 hL hn hT hU
  go_enter Try.func6, Try.ntmps6
  go_upto_region 1 with fail
  rw [← HV0.out]
  clear HV0
  go_upto_region 5 with (go_at_call 7; refine (HAw.out _).mono ?_; rintro e V ⟨rfl, hd⟩; have B1 := Lib.hid (And.intro (B0.out.1.under hd) (B0.out.2.trans (hd.mono B0.out.2.size))); clear hd)
  clear B0 HAw
  have HQ0 : Hid (∀ W, VS V W → (loadVar 25 ⟨w.heap.size, 0, none⟩).run Try.prog W = .ok (.agg (vec 4 (wds f))) W) := Lib.hid fun W hW => run_load_arr (B1.out.1.under hW) Try.underlying25 rfl infoQ
  refine wp_region_held_drew (S := fun Y => VS V Y) (by kernel_rfl) (VS.begin V) (fun hS => ?_)
  (refine held_take (i := 0) (oi := ?ot1) (v := .agg (vec 4 (wds f))) ?at1 (by kernel_rfl) (by kernel_rfl) (by kernel_rfl) ?bt1 ?ct1 ?dt1 (by assumption) ?rt1; (case at1 => (simp only [List.getElem?_toArray, List.getElem?_cons_zero]; rfl)); (case bt1 => exact fun _ _ _ h => h); (case ct1 => kernel_rfl); (case dt1 => (intro W hW; exact exec_load _ _ rfl _ rfl _ (HQ0.out W hW))); (case' rt1 => simp only [Act.put, List.setIfInBounds_toArray, List.set_cons_zero, List.set_cons_succ]))
  (refine held_take (i := 1) (oi := ?ot2) (v := .agg (vec 4 (wds f))) ?at2 (by kernel_rfl) (by kernel_rfl) (by kernel_rfl) ?bt2 ?ct2 ?dt2 (by assumption) ?rt2; (case at2 => (simp only [List.getElem?_toArray, List.getElem?_cons_zero, List.getElem?_cons_succ]; rfl)); (case bt2 => exact fun _ _ _ h => h); (case ct2 => kernel_rfl); (case dt2 => (intro W hW; exact exec_load _ _ rfl _ rfl _ (HQ0.out W hW))); (case' rt2 => simp only [Act.put, List.setIfInBounds_toArray, List.set_cons_zero, List.set_cons_succ]))
  refine held_two (i := 2) (j := 3) (oi := ?oit99) (oj := ?ojt99) (by kernel_rfl) ?ait99 ?ajt99 ?cit99 ?cjt99 (fun K2 hK2 => ?hit99) (fun K3 hK3 => ?hjt99)
  (case ait99 => (simp only [List.getElem?_toArray, List.getElem?_cons_zero, List.getElem?_cons_succ]; rfl))
  (case ajt99 => (simp only [List.getElem?_toArray, List.getElem?_cons_zero, List.getElem?_cons_succ]; rfl))
  (case cit99 => kernel_rfl)
  (case cjt99 => kernel_rfl)
  case hit99 =>
    go_simp
    obtain ⟨y2, hy⟩ : ∃ y, y = (V.alloc (.cells (vec 4 (wds zw)) 25)).drew := ⟨_, rfl⟩
    have hd : Below V.heap.size V.drew y2 := by rw [hy]; exact (show Below V.drew.heap.size V.drew (V.drew.alloc (.cells (vec 4 (wds zw)) 25)) from (Below.refl _ _).alloc (Nat.le_refl _) _)
    have hgl : V.heap.size ≤ V.heap.size := (show Below V.heap.size V _ from hS).size
    obtain ⟨gw, hg⟩ : ∃ g, g = V.heap.size := ⟨_, rfl⟩
    have hga : Arr y2 gw 25 4 (wds zw) := by rw [hy, hg]; exact Arr.new V _ _ _
    have Hgw := Lib.hid (And.intro hga (by rw [hg]; exact hgl : V.heap.size ≤ gw))
    have hSb := VS.keep hS hd
    clear hd hgl hga
    rw [← hy, ← hg]
    clear hy hg
    refine hK2 _ _ hSb (fun hS2 => ?_)
    clear hSb hK2 K2
    refine held_one (i := 3) (oi := ?ot3) (by kernel_rfl) ?at3 ?ct3 (fun K3 hK3 => ?_)
    (case at3 => (simp only [List.getElem?_toArray, List.getElem?_cons_zero, List.getElem?_cons_succ]; rfl))
    (case ct3 => kernel_rfl)
    go_simp
    obtain ⟨y3, hy⟩ : ∃ y, y = (y2.alloc (.cells (vec 4 (wds zw)) 25)) := ⟨_, rfl⟩
    have hd : Below y2.heap.size y2 y3 := by rw [hy]; exact (show Below y2.heap.size y2 (y2.alloc (.cells (vec 4 (wds zw)) 25)) from (Below.refl _ _).alloc (Nat.le_refl _) _)
    have hgl : V.heap.size ≤ y2.heap.size := (show Below V.heap.size V _ from hS2).size
    obtain ⟨ga, hg⟩ : ∃ g, g = y2.heap.size := ⟨_, rfl⟩
    have hga : Arr y3 ga 25 4 (wds zw) := by rw [hy, hg]; exact Arr.new y2 _ _ _
    have HNE := Lib.hid (show gw ≠ ga by have := Hgw.out.1.lt; omega)
    have Hgw := Lib.hid (And.intro (Hgw.out.1.under hd) Hgw.out.2)
    have Hga := Lib.hid (And.intro hga (by rw [hg]; exact hgl : V.heap.size ≤ ga))
    have hSb := VS.keep hS2 hd
    clear hd hgl hga
    rw [← hy, ← hg]
    clear hy hg
    refine hK3 _ _ hSb (fun hS3 => ?_)
    clear hSb hK3 K3
    refine held_one (i := 4) (oi := ?ot4) (by kernel_rfl) ?at4 ?ct4 (fun K4 hK4 => ?_)
    (case at4 => (simp only [List.getElem?_toArray, List.getElem?_cons_zero, List.getElem?_cons_succ]; rfl))
    (case ct4 => kernel_rfl)
    refine ow_store 25 _ _ rfl _ rfl _ rfl (run_store_arr Hgw.out.1 (wds f) infoQ (wds_one _ _)) ?_
    have hga := Hgw.out.1.row (wds f)
    have hgb := Hga.out.1.rowFar (g' := gw) (by have := HNE.out; omega) (vec 4 (wds f))
    have hSb := below_row (show Below V.heap.size V _ from hS3) Hgw.out.2 (vec 4 (wds f))
    obtain ⟨X4, hX⟩ : ∃ Z, Z = World.setRow y3 gw (vec 4 (wds f)) := ⟨_, rfl⟩
    rw [← hX] at hga hgb hSb
    have Hgw := Lib.hid (And.intro hga Hgw.out.2)
    have Hga := Lib.hid (And.intro hgb Hga.out.2)
    rw [← hX]
    clear hX hga hgb
    refine hK4 _ _ hSb (fun hS4 => ?_)
    clear hSb hK4 K4
    refine held_one (i := 5) (oi := ?ot5) (by kernel_rfl) ?at5 ?ct5 (fun K5 hK5 => ?_)
    (case at5 => (simp only [List.getElem?_toArray, List.getElem?_cons_zero, List.getElem?_cons_succ]; rfl))
    (case ct5 => kernel_rfl)
    refine ow_store 25 _ _ rfl _ rfl _ rfl (run_store_arr Hga.out.1 (wds f) infoQ (wds_one _ _)) ?_
    have hga := Hga.out.1.row (wds f)
    have hgb := Hgw.out.1.rowFar (g' := ga) (by have := HNE.out; omega) (vec 4 (wds f))
    have hSb := below_row (show Below V.heap.size V _ from hS4) Hga.out.2 (vec 4 (wds f))
    obtain ⟨X5, hX⟩ : ∃ Z, Z = World.setRow X4 ga (vec 4 (wds f)) := ⟨_, rfl⟩
    rw [← hX] at hga hgb hSb
    have Hga := Lib.hid (And.intro hga Hga.out.2)
    have Hgw := Lib.hid (And.intro hgb Hgw.out.2)
    rw [← hX]
    clear hX hga hgb
    refine hK5 _ _ hSb (fun hS5 => ?_)
    clear hSb hK5 K5
    refine wpAnyH_done (by kernel_rfl) ?_ _
    have T0 : Hid (Tear w X5 gw ga f (wantAt f l n m 0) (aft f (l.take 0))) := Lib.hid (by
      rw [wantAt_zero, List.take_zero]
      have hx : Below V.heap.size V X5 := hS5
      have hl := B1.out.1.lt
      have h1 := Hgw.out.2
      have h2 := Hga.out.2
      exact ⟨B1.out.1.under hx, Hgw.out.1, Hga.out.1, (by have := HNE.out; omega), by omega, by omega, B1.out.2.trans (hx.mono B1.out.2.size)⟩)
    clear Hgw Hga HNE hS5
    go_wp2_with fail
    go_loopw [22] (fun i W => ∃ q : Nat, q ≤ L ∧ i = .int .i64 q ∧ Hid (Tear w W gw ga f (wantAt f l n m q) (aft f (l.take q)))) (fun i _ => L - (intOf i).toNat)
    case atStart => exact ⟨0, Nat.zero_le _, rfl, T0⟩
    case round =>
      obtain ⟨q, hq, rfl, HI⟩ := hrel
      obtain ⟨W, hWr⟩ : ∃ W : World, W = wr := ⟨_, rfl⟩
      subst hWr
      clear T0
      by_cases hlt : q < L
      · have hlt2 : q < l.length := by have := HX.out.1; omega
        obtain ⟨a, p, rfl, hp, hc0, hc1⟩ := put_at (HA.out.below HI.out.be) hlt2
        obtain ⟨⟨t, y⟩, hy⟩ : ∃ x, l[q] = x := ⟨_, rfl⟩
        rw [hy] at hc0 hc1
        simp only at hc0 hc1
        have HT1 := Lib.hid (aft_take f l q hlt2)
        have HW1 := Lib.hid (fun h : q < n => wantAt_lt f l n m q h hlt2)
        have HW2 := Lib.hid (fun h : q = n => wantAt_eq f l n m q h hlt2)
        have HW3 := Lib.hid (fun h : n < q => wantAt_gt f l n m q h)
        rw [hy] at HT1 HW1 HW2
        have HK := Lib.hid hlt
        have h0 : (q : Int) < (L : Int) := by omega
        have hqn : (q < n ∧ (q : Int) < k) ∨ (q = n ∧ ¬ (q : Int) < k) ∨ (n < q ∧ ¬ (q : Int) < k) := by have := HX.out.2; unfold cutN at this; omega
        have hcz : q = n → ¬ (q : Int) < k → (k = (q : Int)) ∨ (q = 0 ∧ k < 0) := by have := HX.out.2; unfold cutN at this; intro h1 h2; omega
        have hcg : n < q → (q : Int) ≠ k ∧ q ≠ 0 := by have := HX.out.2; unfold cutN at this; intro h1; omega
        obtain ⟨V1, hV1⟩ : ∃ V1, V1 = W.alloc (.cells #[.int .i64 t, .int .u32 (num y)] 35) := ⟨_, rfl⟩
        have HV1 := Lib.hid hV1
        have I1 : Hid (Tear w V1 gw ga f (wantAt f l n m q) (aft f (l.take q))) := Lib.hid (by rw [hV1]; exact HI.out.alloc _)
        have P1 : Hid (Blk V1 W.heap.size 35 #[.int .i64 t, .int .u32 (num y)]) := Lib.hid (by rw [hV1]; exact Blk.new _ _ _ rfl)
        have hgg : gw ≠ W.heap.size ∧ ga ≠ W.heap.size := ⟨by have := HI.out.want.lt; omega, by have := HI.out.all.lt; omega⟩
        obtain ⟨gp, hgp⟩ : ∃ gp, gp = W.heap.size := ⟨_, rfl⟩
        rw [← hgp] at P1 hgg
        have HGP := Lib.hid hgp
        have HGG := Lib.hid hgg
        have c0 : V1.cell? ⟨gp, 0, none⟩ = some (.int .i64 t) := P1.out.cellAt 0 rfl
        have c1 : V1.cell? ⟨gp, 1, none⟩ = some (.int .u32 (num y)) := P1.out.cellAt 1 rfl
        clear hV1 hgp hgg hy hq hlt2 HI
        go_upto_region 9 with fail
        rw [← HV1.out, ← HGP.out]
        clear HV1 HGP hc0 hc1
        by_cases hin : 0 ≤ t ∧ t < 4
        case neg =>
          have e1 : ∀ g mm, put1 g ⟨t, y⟩ mm = g := fun g mm => put1_out g ⟨t, y⟩ mm hin
          have HN : Hid (wantAt f l n m (q + 1) = wantAt f l n m q ∧ aft f (l.take (q + 1)) = aft f (l.take q)) := Lib.hid (by
            refine ⟨?_, by rw [HT1.out, e1]⟩
            rcases hqn with ⟨h, _⟩ | ⟨h, _⟩ | ⟨h, _⟩
            · rw [HW1.out h, e1]
            · rw [HW2.out h, e1]
            · exact HW3.out h)
          clear e1 hqn hcz hcg
          by_cases hneg : t < 0
          · clear hin
            go_wp2_with fail
            go_roundw
            case rel => exact ⟨q + 1, HK.out, by go_num, Lib.hid (by rw [HN.out.1, HN.out.2]; exact I1.out)⟩
            case measure => have := HK.out; simp [intOf]; omega
          · have h3 : 3 < t := by omega
            clear hin
            go_wp2_with fail
            go_roundw
            case rel => exact ⟨q + 1, HK.out, by go_num, Lib.hid (by rw [HN.out.1, HN.out.2]; exact I1.out)⟩
            case measure => have := HK.out; simp [intOf]; omega
        case pos =>
          obtain ⟨j, rfl⟩ := Int.eq_ofNat_of_zero_le hin.1
          have hj : j < 4 := by omega
          have hj2 : (j : Int) < 4 := by omega
          have hj3 : ¬ 3 < (j : Int) := by omega
          have HP := Lib.hid (fun g mm => put1_at g j y mm hj)
          have cw := I1.out.all.cell (i := j) hj
          have cf := I1.out.all.frozen j
          clear hin
          go_upto_region 11 with fail
          obtain ⟨W2, hW2⟩ : ∃ W2, W2 = V1.setCell ⟨ga, j, none⟩ (.int .u32 (num y)) := ⟨_, rfl⟩
          have I2 : Hid (Tear w W2 gw ga f (wantAt f l n m q) (aft f (l.take (q + 1)))) := Lib.hid (by
            rw [hW2, HT1.out, HP.out, tornW_ones]; exact I1.out.setAll j y)
          have P2 : Hid (Blk W2 gp 35 #[.int .i64 (j : Int), .int .u32 (num y)]) := Lib.hid (by rw [hW2]; exact P1.out.far (q := ⟨ga, j, none⟩) (fun e => HGG.out.2 e.symm) _)
          rw [← hW2]
          clear hW2 cw cf c0 c1 I1 P1
          have d0 : W2.cell? ⟨gp, 0, none⟩ = some (.int .i64 (j : Int)) := P2.out.cellAt 0 rfl
          have d1 : W2.cell? ⟨gp, 1, none⟩ = some (.int .u32 (num y)) := P2.out.cellAt 1 rfl
          rcases hqn with ⟨hq1, hqk⟩ | ⟨hq1, hqk⟩ | ⟨hq1, hqk⟩
          · have HE := Lib.hid (HW1.out hq1)
            have dw := I2.out.want.cell (i := j) hj
            have df := I2.out.want.frozen j
            clear hq1 hcz hcg
            go_wp2_with fail
            go_roundw
            case rel => exact ⟨q + 1, HK.out, by go_num, Lib.hid (by rw [HE.out, HP.out, tornW_ones]; exact I2.out.setWant j y)⟩
            case measure => have := HK.out; simp [intOf]; omega
          · have HE := Lib.hid (HW2.out hq1)
            have hz := hcz hq1 hqk
            clear hcz hcg
            have HC : Hid (∀ Z, Save gw W2 Z → Z.cell? ⟨gp, 0, none⟩ = some (.int .i64 (j : Int)) ∧ Z.cell? ⟨gp, 1, none⟩ = some (.int .u32 (num y))) := Lib.hid fun Z hZ => by
              have := P2.out.save hZ (fun e => HGG.out.1 e.symm)
              exact ⟨this.cellAt 0 rfl, this.cellAt 1 rfl⟩
            obtain ⟨g, hg⟩ : ∃ g, wantAt f l n m q = g := ⟨_, rfl⟩
            rw [hg] at HE
            have I2' := I2
            rw [hg] at I2'
            clear hg I2 hq1
            have HX2 : Hid (W2.drew.cell? ⟨gw, j, none⟩ = some (.int .u32 (num (g j))) ∧ W2.drew.frozen? ⟨gw, j, none⟩ = false) := Lib.hid ⟨I2'.out.want.cell (i := j) hj, I2'.out.want.frozen j⟩
            rcases hz with hz | ⟨hz0, hz1⟩
            · subst hz
              go_upto_region 14 with fail
              clear d0 d1
              obtain ⟨hx, hf⟩ := HX2.out
              refine wp_region_held_drew (S := fun Y => Save gw W2 Y) (by kernel_rfl) (show Save gw W2 W2.drew from ⟨rfl, rfl, rfl, Nat.le_refl _, fun _ _ _ => rfl⟩) (fun hS => ?_)
              (refine held_take (i := 0) (oi := ?ot6) (v := ?vt6) ?at6 (by kernel_rfl) (by kernel_rfl) (by kernel_rfl) ?bt6 ?ct6 ?dt6 (by assumption) ?rt6; (case at6 => (simp only [List.getElem?_toArray, List.getElem?_cons_zero]; rfl)); (case bt6 => exact fun _ _ _ h => h); (case ct6 => kernel_rfl); (case dt6 => (intro W hW; (try dsimp only at hW); go_split_ands; go_simp; (try with_reducible rfl))); (case' rt6 => simp only [Act.put, List.setIfInBounds_toArray, List.set_cons_zero, List.set_cons_succ]))
              (refine held_take (i := 1) (oi := ?ot7) (v := .int .i64 (j : Int)) ?at7 (by kernel_rfl) (by kernel_rfl) (by kernel_rfl) ?bt7 ?ct7 ?dt7 (by assumption) ?rt7; (case at7 => (simp only [List.getElem?_toArray, List.getElem?_cons_zero, List.getElem?_cons_succ]; rfl)); (case bt7 => exact fun _ _ _ h => h); (case ct7 => kernel_rfl); (case dt7 => (intro Z hZ; obtain ⟨c0, c1⟩ := HC.out Z hZ; clear hZ; go_simp; (try with_reducible rfl))); (case' rt7 => simp only [Act.put, List.setIfInBounds_toArray, List.set_cons_zero, List.set_cons_succ]))
              (refine held_take (i := 2) (oi := ?ot8) (v := ?vt8) ?at8 (by kernel_rfl) (by kernel_rfl) (by kernel_rfl) ?bt8 ?ct8 ?dt8 (by assumption) ?rt8; (case at8 => (simp only [List.getElem?_toArray, List.getElem?_cons_zero, List.getElem?_cons_succ]; rfl)); (case bt8 => exact fun _ _ _ h => h); (case ct8 => kernel_rfl); (case dt8 => (intro W hW; (try dsimp only at hW); go_split_ands; go_simp; (try with_reducible rfl))); (case' rt8 => simp only [Act.put, List.setIfInBounds_toArray, List.set_cons_zero, List.set_cons_succ]))
              (refine held_take (i := 3) (oi := ?ot9) (v := .int .u32 (num y)) ?at9 (by kernel_rfl) (by kernel_rfl) (by kernel_rfl) ?bt9 ?ct9 ?dt9 (by assumption) ?rt9; (case at9 => (simp only [List.getElem?_toArray, List.getElem?_cons_zero, List.getElem?_cons_succ]; rfl)); (case bt9 => exact fun _ _ _ h => h); (case ct9 => kernel_rfl); (case dt9 => (intro Z hZ; obtain ⟨c0, c1⟩ := HC.out Z hZ; clear hZ; go_simp; (try with_reducible rfl))); (case' rt9 => simp only [Act.put, List.setIfInBounds_toArray, List.set_cons_zero, List.set_cons_succ]))
              (refine held_take (i := 4) (oi := ?ot10) (v := ?vt10) ?at10 (by kernel_rfl) (by kernel_rfl) (by kernel_rfl) ?bt10 ?ct10 ?dt10 (by assumption) ?rt10; (case at10 => (simp only [List.getElem?_toArray, List.getElem?_cons_zero, List.getElem?_cons_succ]; rfl)); (case bt10 => exact fun _ _ _ h => h); (case ct10 => kernel_rfl); (case dt10 => (intro W hW; (try dsimp only at hW); go_split_ands; go_simp; (try with_reducible rfl))); (case' rt10 => simp only [Act.put, List.setIfInBounds_toArray, List.set_cons_zero, List.set_cons_succ]))
              (refine held_take (i := 5) (oi := ?ot11) (v := ?vt11) ?at11 (by kernel_rfl) (by kernel_rfl) (by kernel_rfl) ?bt11 ?ct11 ?dt11 (by assumption) ?rt11; (case at11 => (simp only [List.getElem?_toArray, List.getElem?_cons_zero, List.getElem?_cons_succ]; rfl)); (case bt11 => exact fun _ _ _ h => h); (case ct11 => kernel_rfl); (case dt11 => (intro W hW; (try dsimp only at hW); go_split_ands; go_simp; (try with_reducible rfl))); (case' rt11 => simp only [Act.put, List.setIfInBounds_toArray, List.set_cons_zero, List.set_cons_succ]))
              (refine held_take (i := 6) (oi := ?ot12) (v := ?vt12) ?at12 (by kernel_rfl) (by kernel_rfl) (by kernel_rfl) ?bt12 ?ct12 ?dt12 (by assumption) ?rt12; (case at12 => (simp only [List.getElem?_toArray, List.getElem?_cons_zero, List.getElem?_cons_succ]; rfl)); (case bt12 => exact fun _ _ _ h => h); (case ct12 => kernel_rfl); (case dt12 => (intro W hW; (try dsimp only at hW); go_split_ands; go_simp; (try with_reducible rfl))); (case' rt12 => simp only [Act.put, List.setIfInBounds_toArray, List.set_cons_zero, List.set_cons_succ]))
              (refine held_take (i := 7) (oi := ?ot13) (v := .int .i64 (j : Int)) ?at13 (by kernel_rfl) (by kernel_rfl) (by kernel_rfl) ?bt13 ?ct13 ?dt13 (by assumption) ?rt13; (case at13 => (simp only [List.getElem?_toArray, List.getElem?_cons_zero, List.getElem?_cons_succ]; rfl)); (case bt13 => exact fun _ _ _ h => h); (case ct13 => kernel_rfl); (case dt13 => (intro Z hZ; obtain ⟨c0, c1⟩ := HC.out Z hZ; clear hZ; go_simp; (try with_reducible rfl))); (case' rt13 => simp only [Act.put, List.setIfInBounds_toArray, List.set_cons_zero, List.set_cons_succ]))
              (refine held_take (i := 8) (oi := ?ot14) (v := .pointer (some ⟨gw, j, none⟩)) ?at14 (by kernel_rfl) (by kernel_rfl) (by kernel_rfl) ?bt14 ?ct14 ?dt14 (by assumption) ?rt14; (case at14 => (simp only [List.getElem?_toArray, List.getElem?_cons_zero, List.getElem?_cons_succ]; rfl)); (case bt14 => exact fun _ _ _ h => h); (case ct14 => kernel_rfl); (case dt14 => (intro Z hZ; clear hZ; go_simp; (try with_reducible rfl); (try (intro h; omega)))); (case' rt14 => simp only [Act.put, List.setIfInBounds_toArray, List.set_cons_zero, List.set_cons_succ]))
              (refine held_take (i := 10) (oi := ?ot15) (v := ?vt15) ?at15 (by kernel_rfl) (by kernel_rfl) (by kernel_rfl) ?bt15 ?ct15 ?dt15 (by assumption) ?rt15; (case at15 => (simp only [List.getElem?_toArray, List.getElem?_cons_zero, List.getElem?_cons_succ]; rfl)); (case bt15 => exact fun _ _ _ h => h); (case ct15 => kernel_rfl); (case dt15 => (intro W hW; (try dsimp only at hW); go_split_ands; go_simp; (try with_reducible rfl))); (case' rt15 => simp only [Act.put, List.setIfInBounds_toArray, List.set_cons_zero, List.set_cons_succ]))
              refine held_one (i := 9) (oi := ?ot16) (by kernel_rfl) ?at16 ?ct16 (fun K9 hK9 => ?_)
              (case at16 => (simp only [List.getElem?_toArray, List.getElem?_cons_zero, List.getElem?_cons_succ]; rfl))
              (case ct16 => kernel_rfl)
              go_simp
              refine hK9 _ _ hS (fun hS9 => ?_)
              clear hS hK9 K9
              (refine held_take (i := 11) (oi := ?ot17) (v := ?vt17) ?at17 (by kernel_rfl) (by kernel_rfl) (by kernel_rfl) ?bt17 ?ct17 ?dt17 (by assumption) ?rt17; (case at17 => (simp only [List.getElem?_toArray, List.getElem?_cons_zero, List.getElem?_cons_succ]; rfl)); (case bt17 => exact fun _ _ _ h => h); (case ct17 => kernel_rfl); (case dt17 => (intro W hW; (try dsimp only at hW); go_split_ands; go_simp; (try with_reducible rfl))); (case' rt17 => simp only [Act.put, List.setIfInBounds_toArray, List.set_cons_zero, List.set_cons_succ]))
              (refine held_take (i := 12) (oi := ?ot18) (v := ?vt18) ?at18 (by kernel_rfl) (by kernel_rfl) (by kernel_rfl) ?bt18 ?ct18 ?dt18 (by assumption) ?rt18; (case at18 => (simp only [List.getElem?_toArray, List.getElem?_cons_zero, List.getElem?_cons_succ]; rfl)); (case bt18 => exact fun _ _ _ h => h); (case ct18 => kernel_rfl); (case dt18 => (intro W hW; (try dsimp only at hW); go_split_ands; go_simp; (try with_reducible rfl))); (case' rt18 => simp only [Act.put, List.setIfInBounds_toArray, List.set_cons_zero, List.set_cons_succ]))
              (refine held_take (i := 13) (oi := ?ot19) (v := .pointer (some ⟨gw, j, none⟩)) ?at19 (by kernel_rfl) (by kernel_rfl) (by kernel_rfl) ?bt19 ?ct19 ?dt19 (by assumption) ?rt19; (case at19 => (simp only [List.getElem?_toArray, List.getElem?_cons_zero, List.getElem?_cons_succ]; rfl)); (case bt19 => exact fun _ _ _ h => h); (case ct19 => kernel_rfl); (case dt19 => (intro Z hZ; clear hZ; go_simp; (try with_reducible rfl); (try (intro h; omega)))); (case' rt19 => simp only [Act.put, List.setIfInBounds_toArray, List.set_cons_zero, List.set_cons_succ]))
              refine held_one (i := 14) (oi := ?ot20) (by kernel_rfl) ?at20 ?ct20 (fun K14 hK14 => ?_)
              (case at20 => (simp only [List.getElem?_toArray, List.getElem?_cons_zero, List.getElem?_cons_succ]; rfl))
              (case ct20 => kernel_rfl)
              have hSb := hS9
              go_simp
              refine hK14 _ _ (hSb.setCell j _) (fun hS14 => ?_)
              clear hS9 hSb hK14 K14
              refine wpAnyH_done (by kernel_rfl) ?_ _
              clear hS14 hx hf
              go_wp2_with fail
              go_roundw
              case rel => exact ⟨q + 1, HK.out, by go_num, Lib.hid (by rw [HE.out, HP.out]; exact (I2'.out.setWant j (tornW (g j) y m)).drew)⟩
              case measure => have := HK.out; simp [intOf]; omega
            · subst hz0
              have z1 : ((0 : Int) == k) = false := by simp; omega
              have z2 : ¬ (0 : Int) = k := by omega
              have z4 : decide ((0 : Int) = k) = false := decide_eq_false z2
              have z3 : ¬ (0 : Int) < k := by omega
              go_upto_region 14 with fail
              clear d0 d1
              obtain ⟨hx, hf⟩ := HX2.out
              refine wp_region_held_drew (S := fun Y => Save gw W2 Y) (by kernel_rfl) (show Save gw W2 W2.drew from ⟨rfl, rfl, rfl, Nat.le_refl _, fun _ _ _ => rfl⟩) (fun hS => ?_)
              (refine held_take (i := 0) (oi := ?ot21) (v := ?vt21) ?at21 (by kernel_rfl) (by kernel_rfl) (by kernel_rfl) ?bt21 ?ct21 ?dt21 (by assumption) ?rt21; (case at21 => (simp only [List.getElem?_toArray, List.getElem?_cons_zero]; rfl)); (case bt21 => exact fun _ _ _ h => h); (case ct21 => kernel_rfl); (case dt21 => (intro W hW; (try dsimp only at hW); go_split_ands; go_simp; (try with_reducible rfl))); (case' rt21 => simp only [Act.put, List.setIfInBounds_toArray, List.set_cons_zero, List.set_cons_succ]))
              (refine held_take (i := 1) (oi := ?ot22) (v := .int .i64 (j : Int)) ?at22 (by kernel_rfl) (by kernel_rfl) (by kernel_rfl) ?bt22 ?ct22 ?dt22 (by assumption) ?rt22; (case at22 => (simp only [List.getElem?_toArray, List.getElem?_cons_zero, List.getElem?_cons_succ]; rfl)); (case bt22 => exact fun _ _ _ h => h); (case ct22 => kernel_rfl); (case dt22 => (intro Z hZ; obtain ⟨c0, c1⟩ := HC.out Z hZ; clear hZ; go_simp; (try with_reducible rfl))); (case' rt22 => simp only [Act.put, List.setIfInBounds_toArray, List.set_cons_zero, List.set_cons_succ]))
              (refine held_take (i := 2) (oi := ?ot23) (v := ?vt23) ?at23 (by kernel_rfl) (by kernel_rfl) (by kernel_rfl) ?bt23 ?ct23 ?dt23 (by assumption) ?rt23; (case at23 => (simp only [List.getElem?_toArray, List.getElem?_cons_zero, List.getElem?_cons_succ]; rfl)); (case bt23 => exact fun _ _ _ h => h); (case ct23 => kernel_rfl); (case dt23 => (intro W hW; (try dsimp only at hW); go_split_ands; go_simp; (try with_reducible rfl))); (case' rt23 => simp only [Act.put, List.setIfInBounds_toArray, List.set_cons_zero, List.set_cons_succ]))
              (refine held_take (i := 3) (oi := ?ot24) (v := .int .u32 (num y)) ?at24 (by kernel_rfl) (by kernel_rfl) (by kernel_rfl) ?bt24 ?ct24 ?dt24 (by assumption) ?rt24; (case at24 => (simp only [List.getElem?_toArray, List.getElem?_cons_zero, List.getElem?_cons_succ]; rfl)); (case bt24 => exact fun _ _ _ h => h); (case ct24 => kernel_rfl); (case dt24 => (intro Z hZ; obtain ⟨c0, c1⟩ := HC.out Z hZ; clear hZ; go_simp; (try with_reducible rfl))); (case' rt24 => simp only [Act.put, List.setIfInBounds_toArray, List.set_cons_zero, List.set_cons_succ]))
              (refine held_take (i := 4) (oi := ?ot25) (v := ?vt25) ?at25 (by kernel_rfl) (by kernel_rfl) (by kernel_rfl) ?bt25 ?ct25 ?dt25 (by assumption) ?rt25; (case at25 => (simp only [List.getElem?_toArray, List.getElem?_cons_zero, List.getElem?_cons_succ]; rfl)); (case bt25 => exact fun _ _ _ h => h); (case ct25 => kernel_rfl); (case dt25 => (intro W hW; (try dsimp only at hW); go_split_ands; go_simp; (try with_reducible rfl))); (case' rt25 => simp only [Act.put, List.setIfInBounds_toArray, List.set_cons_zero, List.set_cons_succ]))
              (refine held_take (i := 5) (oi := ?ot26) (v := ?vt26) ?at26 (by kernel_rfl) (by kernel_rfl) (by kernel_rfl) ?bt26 ?ct26 ?dt26 (by assumption) ?rt26; (case at26 => (simp only [List.getElem?_toArray, List.getElem?_cons_zero, List.getElem?_cons_succ]; rfl)); (case bt26 => exact fun _ _ _ h => h); (case ct26 => kernel_rfl); (case dt26 => (intro W hW; (try dsimp only at hW); go_split_ands; go_simp; (try with_reducible rfl))); (case' rt26 => simp only [Act.put, List.setIfInBounds_toArray, List.set_cons_zero, List.set_cons_succ]))
              (refine held_take (i := 6) (oi := ?ot27) (v := ?vt27) ?at27 (by kernel_rfl) (by kernel_rfl) (by kernel_rfl) ?bt27 ?ct27 ?dt27 (by assumption) ?rt27; (case at27 => (simp only [List.getElem?_toArray, List.getElem?_cons_zero, List.getElem?_cons_succ]; rfl)); (case bt27 => exact fun _ _ _ h => h); (case ct27 => kernel_rfl); (case dt27 => (intro W hW; (try dsimp only at hW); go_split_ands; go_simp; (try with_reducible rfl))); (case' rt27 => simp only [Act.put, List.setIfInBounds_toArray, List.set_cons_zero, List.set_cons_succ]))
              (refine held_take (i := 7) (oi := ?ot28) (v := .int .i64 (j : Int)) ?at28 (by kernel_rfl) (by kernel_rfl) (by kernel_rfl) ?bt28 ?ct28 ?dt28 (by assumption) ?rt28; (case at28 => (simp only [List.getElem?_toArray, List.getElem?_cons_zero, List.getElem?_cons_succ]; rfl)); (case bt28 => exact fun _ _ _ h => h); (case ct28 => kernel_rfl); (case dt28 => (intro Z hZ; obtain ⟨c0, c1⟩ := HC.out Z hZ; clear hZ; go_simp; (try with_reducible rfl))); (case' rt28 => simp only [Act.put, List.setIfInBounds_toArray, List.set_cons_zero, List.set_cons_succ]))
              (refine held_take (i := 8) (oi := ?ot29) (v := .pointer (some ⟨gw, j, none⟩)) ?at29 (by kernel_rfl) (by kernel_rfl) (by kernel_rfl) ?bt29 ?ct29 ?dt29 (by assumption) ?rt29; (case at29 => (simp only [List.getElem?_toArray, List.getElem?_cons_zero, List.getElem?_cons_succ]; rfl)); (case bt29 => exact fun _ _ _ h => h); (case ct29 => kernel_rfl); (case dt29 => (intro Z hZ; clear hZ; go_simp; (try with_reducible rfl); (try (intro h; omega)))); (case' rt29 => simp only [Act.put, List.setIfInBounds_toArray, List.set_cons_zero, List.set_cons_succ]))
              (refine held_take (i := 10) (oi := ?ot30) (v := ?vt30) ?at30 (by kernel_rfl) (by kernel_rfl) (by kernel_rfl) ?bt30 ?ct30 ?dt30 (by assumption) ?rt30; (case at30 => (simp only [List.getElem?_toArray, List.getElem?_cons_zero, List.getElem?_cons_succ]; rfl)); (case bt30 => exact fun _ _ _ h => h); (case ct30 => kernel_rfl); (case dt30 => (intro W hW; (try dsimp only at hW); go_split_ands; go_simp; (try with_reducible rfl))); (case' rt30 => simp only [Act.put, List.setIfInBounds_toArray, List.set_cons_zero, List.set_cons_succ]))
              refine held_one (i := 9) (oi := ?ot31) (by kernel_rfl) ?at31 ?ct31 (fun K9 hK9 => ?_)
              (case at31 => (simp only [List.getElem?_toArray, List.getElem?_cons_zero, List.getElem?_cons_succ]; rfl))
              (case ct31 => kernel_rfl)
              go_simp
              refine hK9 _ _ hS (fun hS9 => ?_)
              clear hS hK9 K9
              (refine held_take (i := 11) (oi := ?ot32) (v := ?vt32) ?at32 (by kernel_rfl) (by kernel_rfl) (by kernel_rfl) ?bt32 ?ct32 ?dt32 (by assumption) ?rt32; (case at32 => (simp only [List.getElem?_toArray, List.getElem?_cons_zero, List.getElem?_cons_succ]; rfl)); (case bt32 => exact fun _ _ _ h => h); (case ct32 => kernel_rfl); (case dt32 => (intro W hW; (try dsimp only at hW); go_split_ands; go_simp; (try with_reducible rfl))); (case' rt32 => simp only [Act.put, List.setIfInBounds_toArray, List.set_cons_zero, List.set_cons_succ]))
              (refine held_take (i := 12) (oi := ?ot33) (v := ?vt33) ?at33 (by kernel_rfl) (by kernel_rfl) (by kernel_rfl) ?bt33 ?ct33 ?dt33 (by assumption) ?rt33; (case at33 => (simp only [List.getElem?_toArray, List.getElem?_cons_zero, List.getElem?_cons_succ]; rfl)); (case bt33 => exact fun _ _ _ h => h); (case ct33 => kernel_rfl); (case dt33 => (intro W hW; (try dsimp only at hW); go_split_ands; go_simp; (try with_reducible rfl))); (case' rt33 => simp only [Act.put, List.setIfInBounds_toArray, List.set_cons_zero, List.set_cons_succ]))
              (refine held_take (i := 13) (oi := ?ot34) (v := .pointer (some ⟨gw, j, none⟩)) ?at34 (by kernel_rfl) (by kernel_rfl) (by kernel_rfl) ?bt34 ?ct34 ?dt34 (by assumption) ?rt34; (case at34 => (simp only [List.getElem?_toArray, List.getElem?_cons_zero, List.getElem?_cons_succ]; rfl)); (case bt34 => exact fun _ _ _ h => h); (case ct34 => kernel_rfl); (case dt34 => (intro Z hZ; clear hZ; go_simp; (try with_reducible rfl); (try (intro h; omega)))); (case' rt34 => simp only [Act.put, List.setIfInBounds_toArray, List.set_cons_zero, List.set_cons_succ]))
              refine held_one (i := 14) (oi := ?ot35) (by kernel_rfl) ?at35 ?ct35 (fun K14 hK14 => ?_)
              (case at35 => (simp only [List.getElem?_toArray, List.getElem?_cons_zero, List.getElem?_cons_succ]; rfl))
              (case ct35 => kernel_rfl)
              have hSb := hS9
              go_simp
              refine hK14 _ _ (hSb.setCell j _) (fun hS14 => ?_)
              clear hS9 hSb hK14 K14
              refine wpAnyH_done (by kernel_rfl) ?_ _
              clear hS14 hx hf
              go_wp2_with fail
              go_roundw
              case rel => exact ⟨0 + 1, HK.out, by go_num, Lib.hid (by rw [HE.out, HP.out]; exact (I2'.out.setWant j (tornW (g j) y m)).drew)⟩
              case measure => have := HK.out; simp [intOf]; omega
          · have HE := Lib.hid (HW3.out hq1)
            obtain ⟨n1, n2⟩ := hcg hq1
            have z1 : ((q : Int) == k) = false := by simp [n1]
            have z2 : ((q : Int) == 0) = false := by simp; omega
            have z3 : ¬ (q : Int) = k := n1
            have z4 : ¬ (q : Int) = 0 := by omega
            have z5 : decide ((q : Int) = k) = false := decide_eq_false z3
            clear n1 n2 hcz hcg hq1
            go_wp2_with fail
            go_roundw
            case rel => exact ⟨q + 1, HK.out, by go_num, Lib.hid (by rw [HE.out]; exact I2.out)⟩
            case measure => have := HK.out; simp [intOf]; omega
      · obtain rfl : q = L := by omega
        have I3 : Hid (Tear w W gw ga f T U) := Lib.hid (by
          have := HI.out
          rw [HX.out.1, wantAt_end f l n m (by have := HX.out.2; unfold cutN at this; omega), List.take_length] at this
          rw [HTU.out.1, HTU.out.2]; exact this)
        have HQ : Hid (∀ Z, VS W Z → (loadVar 25 ⟨w.heap.size, 0, none⟩).run Try.prog Z = .ok (.agg (vec 4 (wds f))) Z) := Lib.hid fun Z hZ => run_load_arr (I3.out.box.under hZ) Try.underlying25 rfl infoQ
        have HWt : Hid (∀ Z, VS W Z → (loadVar 25 ⟨gw, 0, none⟩).run Try.prog Z = .ok (.agg (vec 4 (wds T))) Z) := Lib.hid fun Z hZ => run_load_arr (I3.out.want.under hZ) Try.underlying25 rfl infoQ
        have HAl : Hid (∀ Z, VS W Z → (loadVar 25 ⟨ga, 0, none⟩).run Try.prog Z = .ok (.agg (vec 4 (wds U))) Z) := Lib.hid fun Z hZ => run_load_arr (I3.out.all.under hZ) Try.underlying25 rfl infoQ
        have HT : Hid (∀ Z, VS W Z → Calls Try.prog 17 #[.agg (vec 4 (wds f)), .slice A q c, .int .i64 k, .int .u32 (num m)] Z fun e w' => e = .returned (.agg (vec 4 (wds T))) ∧ Below Z.heap.size Z w') := Lib.hid fun Z hZ => HTC.out Z (hZ.below0 I3.out.be)
        have HU : Hid (∀ Z, VS W Z → Calls Try.prog 16 #[.agg (vec 4 (wds f)), .slice A q c] Z fun e w' => e = .returned (.agg (vec 4 (wds U))) ∧ Below Z.heap.size Z w') := Lib.hid fun Z hZ => HUC.out Z (hZ.below0 I3.out.be)
        clear HI hlt hq
        go_upto_region 16 with fail
        refine wp_region_held_drew (S := fun Y => VS W Y) (by kernel_rfl) (VS.begin W) (fun hS => ?_)
        (refine held_take (i := 0) (oi := ?ot36) (v := .agg (vec 4 (wds f))) ?at36 (by kernel_rfl) (by kernel_rfl) (by kernel_rfl) ?bt36 ?ct36 ?dt36 (by assumption) ?rt36; (case at36 => (simp only [List.getElem?_toArray, List.getElem?_cons_zero]; rfl)); (case bt36 => exact fun _ _ _ h => h); (case ct36 => kernel_rfl); (case dt36 => (intro W hW; exact exec_load _ _ rfl _ rfl _ (HQ.out W hW))); (case' rt36 => simp only [Act.put, List.setIfInBounds_toArray, List.set_cons_zero, List.set_cons_succ]))
        (refine held_take (i := 1) (oi := ?ot37) (v := ?vt37) ?at37 (by kernel_rfl) (by kernel_rfl) (by kernel_rfl) ?bt37 ?ct37 ?dt37 (by assumption) ?rt37; (case at37 => (simp only [List.getElem?_toArray, List.getElem?_cons_zero, List.getElem?_cons_succ]; rfl)); (case bt37 => exact fun _ _ _ h => h); (case ct37 => kernel_rfl); (case dt37 => (intro W hW; (try dsimp only at hW); go_split_ands; go_simp; (try with_reducible rfl))); (case' rt37 => simp only [Act.put, List.setIfInBounds_toArray, List.set_cons_zero, List.set_cons_succ]))
        (refine held_take (i := 2) (oi := ?ot38) (v := ?vt38) ?at38 (by kernel_rfl) (by kernel_rfl) (by kernel_rfl) ?bt38 ?ct38 ?dt38 (by assumption) ?rt38; (case at38 => (simp only [List.getElem?_toArray, List.getElem?_cons_zero, List.getElem?_cons_succ]; rfl)); (case bt38 => exact fun _ _ _ h => h); (case ct38 => kernel_rfl); (case dt38 => (intro W hW; (try dsimp only at hW); go_split_ands; go_simp; (try with_reducible rfl))); (case' rt38 => simp only [Act.put, List.setIfInBounds_toArray, List.set_cons_zero, List.set_cons_succ]))
        (refine held_take (i := 3) (oi := ?ot39) (v := ?vt39) ?at39 (by kernel_rfl) (by kernel_rfl) (by kernel_rfl) ?bt39 ?ct39 ?dt39 (by assumption) ?rt39; (case at39 => (simp only [List.getElem?_toArray, List.getElem?_cons_zero, List.getElem?_cons_succ]; rfl)); (case bt39 => exact fun _ _ _ h => h); (case ct39 => kernel_rfl); (case dt39 => (intro W hW; (try dsimp only at hW); go_split_ands; go_simp; (try with_reducible rfl))); (case' rt39 => simp only [Act.put, List.setIfInBounds_toArray, List.set_cons_zero, List.set_cons_succ]))
        (refine held_take (i := 5) (oi := ?ot40) (v := .agg (vec 4 (wds T))) ?at40 (by kernel_rfl) (by kernel_rfl) (by kernel_rfl) ?bt40 ?ct40 ?dt40 (by assumption) ?rt40; (case at40 => (simp only [List.getElem?_toArray, List.getElem?_cons_zero, List.getElem?_cons_succ]; rfl)); (case bt40 => exact fun _ _ _ h => h); (case ct40 => kernel_rfl); (case dt40 => (intro W hW; exact exec_load _ _ rfl _ rfl _ (HWt.out W hW))); (case' rt40 => simp only [Act.put, List.setIfInBounds_toArray, List.set_cons_zero, List.set_cons_succ]))
        refine held_one (i := 4) (oi := ?ot41) (by kernel_rfl) ?at41 ?ct41 (fun K4 hK4 => ?_)
        (case at41 => (simp only [List.getElem?_toArray, List.getElem?_cons_zero, List.getElem?_cons_succ]; rfl))
        (case ct41 => kernel_rfl)
        have hSb := hS
        go_simp
        refine (HT.out _ hSb).mono ?_
        rintro e z4 ⟨rfl, hd⟩
        refine hK4 _ _ (hSb.keep hd) (fun hS4 => ?_)
        clear hS hSb hd hK4 K4
        (refine held_take (i := 6) (oi := ?ot42) (v := .bool true) ?at42 (by kernel_rfl) (by kernel_rfl) (by kernel_rfl) ?bt42 ?ct42 ?dt42 (by assumption) ?rt42; (case at42 => (simp only [List.getElem?_toArray, List.getElem?_cons_zero, List.getElem?_cons_succ]; rfl)); (case bt42 => exact fun _ _ _ h => h); (case ct42 => kernel_rfl); (case dt42 => (intro Z _; exact exec_eql4 _ _ _ rfl _ _ rfl rfl Z (quadEq_self _))); (case' rt42 => simp only [Act.put, List.setIfInBounds_toArray, List.set_cons_zero, List.set_cons_succ]))
        (refine held_take (i := 7) (oi := ?ot43) (v := ?vt43) ?at43 (by kernel_rfl) (by kernel_rfl) (by kernel_rfl) ?bt43 ?ct43 ?dt43 (by assumption) ?rt43; (case at43 => (simp only [List.getElem?_toArray, List.getElem?_cons_zero, List.getElem?_cons_succ]; rfl)); (case bt43 => exact fun _ _ _ h => h); (case ct43 => kernel_rfl); (case dt43 => (intro W hW; (try dsimp only at hW); go_split_ands; go_simp; (try with_reducible rfl))); (case' rt43 => simp only [Act.put, List.setIfInBounds_toArray, List.set_cons_zero, List.set_cons_succ]))
        (refine held_take (i := 8) (oi := ?ot44) (v := .agg (vec 4 (wds f))) ?at44 (by kernel_rfl) (by kernel_rfl) (by kernel_rfl) ?bt44 ?ct44 ?dt44 (by assumption) ?rt44; (case at44 => (simp only [List.getElem?_toArray, List.getElem?_cons_zero, List.getElem?_cons_succ]; rfl)); (case bt44 => exact fun _ _ _ h => h); (case ct44 => kernel_rfl); (case dt44 => (intro W hW; exact exec_load _ _ rfl _ rfl _ (HQ.out W hW))); (case' rt44 => simp only [Act.put, List.setIfInBounds_toArray, List.set_cons_zero, List.set_cons_succ]))
        (refine held_take (i := 9) (oi := ?ot45) (v := ?vt45) ?at45 (by kernel_rfl) (by kernel_rfl) (by kernel_rfl) ?bt45 ?ct45 ?dt45 (by assumption) ?rt45; (case at45 => (simp only [List.getElem?_toArray, List.getElem?_cons_zero, List.getElem?_cons_succ]; rfl)); (case bt45 => exact fun _ _ _ h => h); (case ct45 => kernel_rfl); (case dt45 => (intro W hW; (try dsimp only at hW); go_split_ands; go_simp; (try with_reducible rfl))); (case' rt45 => simp only [Act.put, List.setIfInBounds_toArray, List.set_cons_zero, List.set_cons_succ]))
        (refine held_take (i := 11) (oi := ?ot46) (v := .agg (vec 4 (wds U))) ?at46 (by kernel_rfl) (by kernel_rfl) (by kernel_rfl) ?bt46 ?ct46 ?dt46 (by assumption) ?rt46; (case at46 => (simp only [List.getElem?_toArray, List.getElem?_cons_zero, List.getElem?_cons_succ]; rfl)); (case bt46 => exact fun _ _ _ h => h); (case ct46 => kernel_rfl); (case dt46 => (intro W hW; exact exec_load _ _ rfl _ rfl _ (HAl.out W hW))); (case' rt46 => simp only [Act.put, List.setIfInBounds_toArray, List.set_cons_zero, List.set_cons_succ]))
        refine held_one (i := 10) (oi := ?ot47) (by kernel_rfl) ?at47 ?ct47 (fun K10 hK10 => ?_)
        (case at47 => (simp only [List.getElem?_toArray, List.getElem?_cons_zero, List.getElem?_cons_succ]; rfl))
        (case ct47 => kernel_rfl)
        have hSb := hS4
        go_simp
        refine (HU.out _ hSb).mono ?_
        rintro e z10 ⟨rfl, hd⟩
        refine hK10 _ _ (hSb.keep hd) (fun hS10 => ?_)
        clear hS4 hSb hd hK10 K10
        (refine held_take (i := 12) (oi := ?ot48) (v := .bool true) ?at48 (by kernel_rfl) (by kernel_rfl) (by kernel_rfl) ?bt48 ?ct48 ?dt48 (by assumption) ?rt48; (case at48 => (simp only [List.getElem?_toArray, List.getElem?_cons_zero, List.getElem?_cons_succ]; rfl)); (case bt48 => exact fun _ _ _ h => h); (case ct48 => kernel_rfl); (case dt48 => (intro Z _; exact exec_eql4 _ _ _ rfl _ _ rfl rfl Z (quadEq_self _))); (case' rt48 => simp only [Act.put, List.setIfInBounds_toArray, List.set_cons_zero, List.set_cons_succ]))
        (refine held_take (i := 13) (oi := ?ot49) (v := ?vt49) ?at49 (by kernel_rfl) (by kernel_rfl) (by kernel_rfl) ?bt49 ?ct49 ?dt49 (by assumption) ?rt49; (case at49 => (simp only [List.getElem?_toArray, List.getElem?_cons_zero, List.getElem?_cons_succ]; rfl)); (case bt49 => exact fun _ _ _ h => h); (case ct49 => kernel_rfl); (case dt49 => (intro W hW; (try dsimp only at hW); go_split_ands; go_simp; (try with_reducible rfl))); (case' rt49 => simp only [Act.put, List.setIfInBounds_toArray, List.set_cons_zero, List.set_cons_succ]))
        (refine held_take (i := 14) (oi := ?ot50) (v := ?vt50) ?at50 (by kernel_rfl) (by kernel_rfl) (by kernel_rfl) ?bt50 ?ct50 ?dt50 (by assumption) ?rt50; (case at50 => (simp only [List.getElem?_toArray, List.getElem?_cons_zero, List.getElem?_cons_succ]; rfl)); (case bt50 => exact fun _ _ _ h => h); (case ct50 => kernel_rfl); (case dt50 => (intro W hW; (try dsimp only at hW); go_split_ands; go_simp; (try with_reducible rfl))); (case' rt50 => simp only [Act.put, List.setIfInBounds_toArray, List.set_cons_zero, List.set_cons_succ]))
        refine wpAnyH_done (by kernel_rfl) ?_ _
        have HF := Lib.hid hS10
        clear hS10
        go_wp2
        go_ret
        exact ⟨rfl, HF.out.below0 I3.out.be⟩
  case hjt99 =>
    go_simp
    obtain ⟨y3, hy⟩ : ∃ y, y = (V.alloc (.cells (vec 4 (wds zw)) 25)).drew := ⟨_, rfl⟩
    have hd : Below V.heap.size V.drew y3 := by rw [hy]; exact (show Below V.drew.heap.size V.drew (V.drew.alloc (.cells (vec 4 (wds zw)) 25)) from (Below.refl _ _).alloc (Nat.le_refl _) _)
    have hgl : V.heap.size ≤ V.heap.size := (show Below V.heap.size V _ from hS).size
    obtain ⟨ga, hg⟩ : ∃ g, g = V.heap.size := ⟨_, rfl⟩
    have hga : Arr y3 ga 25 4 (wds zw) := by rw [hy, hg]; exact Arr.new V _ _ _
    have Hga := Lib.hid (And.intro hga (by rw [hg]; exact hgl : V.heap.size ≤ ga))
    have hSb := VS.keep hS hd
    clear hd hgl hga
    rw [← hy, ← hg]
    clear hy hg
    refine hK3 _ _ hSb (fun hS3 => ?_)
    clear hSb hK3 K3
    refine held_one (i := 2) (oi := ?ot51) (by kernel_rfl) ?at51 ?ct51 (fun K2 hK2 => ?_)
    (case at51 => (simp only [List.getElem?_toArray, List.getElem?_cons_zero, List.getElem?_cons_succ]; rfl))
    (case ct51 => kernel_rfl)
    go_simp
    obtain ⟨y2, hy⟩ : ∃ y, y = (y3.alloc (.cells (vec 4 (wds zw)) 25)) := ⟨_, rfl⟩
    have hd : Below y3.heap.size y3 y2 := by rw [hy]; exact (show Below y3.heap.size y3 (y3.alloc (.cells (vec 4 (wds zw)) 25)) from (Below.refl _ _).alloc (Nat.le_refl _) _)
    have hgl : V.heap.size ≤ y3.heap.size := (show Below V.heap.size V _ from hS3).size
    obtain ⟨gw, hg⟩ : ∃ g, g = y3.heap.size := ⟨_, rfl⟩
    have hga : Arr y2 gw 25 4 (wds zw) := by rw [hy, hg]; exact Arr.new y3 _ _ _
    have HNE := Lib.hid (show ga ≠ gw by have := Hga.out.1.lt; omega)
    have Hga := Lib.hid (And.intro (Hga.out.1.under hd) Hga.out.2)
    have Hgw := Lib.hid (And.intro hga (by rw [hg]; exact hgl : V.heap.size ≤ gw))
    have hSb := VS.keep hS3 hd
    clear hd hgl hga
    rw [← hy, ← hg]
    clear hy hg
    refine hK2 _ _ hSb (fun hS2 => ?_)
    clear hSb hK2 K2
    refine held_one (i := 4) (oi := ?ot52) (by kernel_rfl) ?at52 ?ct52 (fun K4 hK4 => ?_)
    (case at52 => (simp only [List.getElem?_toArray, List.getElem?_cons_zero, List.getElem?_cons_succ]; rfl))
    (case ct52 => kernel_rfl)
    refine ow_store 25 _ _ rfl _ rfl _ rfl (run_store_arr Hgw.out.1 (wds f) infoQ (wds_one _ _)) ?_
    have hga := Hgw.out.1.row (wds f)
    have hgb := Hga.out.1.rowFar (g' := gw) (by have := HNE.out; omega) (vec 4 (wds f))
    have hSb := below_row (show Below V.heap.size V _ from hS2) Hgw.out.2 (vec 4 (wds f))
    obtain ⟨X4, hX⟩ : ∃ Z, Z = World.setRow y2 gw (vec 4 (wds f)) := ⟨_, rfl⟩
    rw [← hX] at hga hgb hSb
    have Hgw := Lib.hid (And.intro hga Hgw.out.2)
    have Hga := Lib.hid (And.intro hgb Hga.out.2)
    rw [← hX]
    clear hX hga hgb
    refine hK4 _ _ hSb (fun hS4 => ?_)
    clear hSb hK4 K4
    refine held_one (i := 5) (oi := ?ot53) (by kernel_rfl) ?at53 ?ct53 (fun K5 hK5 => ?_)
    (case at53 => (simp only [List.getElem?_toArray, List.getElem?_cons_zero, List.getElem?_cons_succ]; rfl))
    (case ct53 => kernel_rfl)
    refine ow_store 25 _ _ rfl _ rfl _ rfl (run_store_arr Hga.out.1 (wds f) infoQ (wds_one _ _)) ?_
    have hga := Hga.out.1.row (wds f)
    have hgb := Hgw.out.1.rowFar (g' := ga) (by have := HNE.out; omega) (vec 4 (wds f))
    have hSb := below_row (show Below V.heap.size V _ from hS4) Hga.out.2 (vec 4 (wds f))
    obtain ⟨X5, hX⟩ : ∃ Z, Z = World.setRow X4 ga (vec 4 (wds f)) := ⟨_, rfl⟩
    rw [← hX] at hga hgb hSb
    have Hga := Lib.hid (And.intro hga Hga.out.2)
    have Hgw := Lib.hid (And.intro hgb Hgw.out.2)
    rw [← hX]
    clear hX hga hgb
    refine hK5 _ _ hSb (fun hS5 => ?_)
    clear hSb hK5 K5
    refine wpAnyH_done (by kernel_rfl) ?_ _
    have T0 : Hid (Tear w X5 gw ga f (wantAt f l n m 0) (aft f (l.take 0))) := Lib.hid (by
      rw [wantAt_zero, List.take_zero]
      have hx : Below V.heap.size V X5 := hS5
      have hl := B1.out.1.lt
      have h1 := Hgw.out.2
      have h2 := Hga.out.2
      exact ⟨B1.out.1.under hx, Hgw.out.1, Hga.out.1, (by have := HNE.out; omega), by omega, by omega, B1.out.2.trans (hx.mono B1.out.2.size)⟩)
    clear Hgw Hga HNE hS5
    go_wp2_with fail
    go_loopw [22] (fun i W => ∃ q : Nat, q ≤ L ∧ i = .int .i64 q ∧ Hid (Tear w W gw ga f (wantAt f l n m q) (aft f (l.take q)))) (fun i _ => L - (intOf i).toNat)
    case atStart => exact ⟨0, Nat.zero_le _, rfl, T0⟩
    case round =>
      obtain ⟨q, hq, rfl, HI⟩ := hrel
      obtain ⟨W, hWr⟩ : ∃ W : World, W = wr := ⟨_, rfl⟩
      subst hWr
      clear T0
      by_cases hlt : q < L
      · have hlt2 : q < l.length := by have := HX.out.1; omega
        obtain ⟨a, p, rfl, hp, hc0, hc1⟩ := put_at (HA.out.below HI.out.be) hlt2
        obtain ⟨⟨t, y⟩, hy⟩ : ∃ x, l[q] = x := ⟨_, rfl⟩
        rw [hy] at hc0 hc1
        simp only at hc0 hc1
        have HT1 := Lib.hid (aft_take f l q hlt2)
        have HW1 := Lib.hid (fun h : q < n => wantAt_lt f l n m q h hlt2)
        have HW2 := Lib.hid (fun h : q = n => wantAt_eq f l n m q h hlt2)
        have HW3 := Lib.hid (fun h : n < q => wantAt_gt f l n m q h)
        rw [hy] at HT1 HW1 HW2
        have HK := Lib.hid hlt
        have h0 : (q : Int) < (L : Int) := by omega
        have hqn : (q < n ∧ (q : Int) < k) ∨ (q = n ∧ ¬ (q : Int) < k) ∨ (n < q ∧ ¬ (q : Int) < k) := by have := HX.out.2; unfold cutN at this; omega
        have hcz : q = n → ¬ (q : Int) < k → (k = (q : Int)) ∨ (q = 0 ∧ k < 0) := by have := HX.out.2; unfold cutN at this; intro h1 h2; omega
        have hcg : n < q → (q : Int) ≠ k ∧ q ≠ 0 := by have := HX.out.2; unfold cutN at this; intro h1; omega
        obtain ⟨V1, hV1⟩ : ∃ V1, V1 = W.alloc (.cells #[.int .i64 t, .int .u32 (num y)] 35) := ⟨_, rfl⟩
        have HV1 := Lib.hid hV1
        have I1 : Hid (Tear w V1 gw ga f (wantAt f l n m q) (aft f (l.take q))) := Lib.hid (by rw [hV1]; exact HI.out.alloc _)
        have P1 : Hid (Blk V1 W.heap.size 35 #[.int .i64 t, .int .u32 (num y)]) := Lib.hid (by rw [hV1]; exact Blk.new _ _ _ rfl)
        have hgg : gw ≠ W.heap.size ∧ ga ≠ W.heap.size := ⟨by have := HI.out.want.lt; omega, by have := HI.out.all.lt; omega⟩
        obtain ⟨gp, hgp⟩ : ∃ gp, gp = W.heap.size := ⟨_, rfl⟩
        rw [← hgp] at P1 hgg
        have HGP := Lib.hid hgp
        have HGG := Lib.hid hgg
        have c0 : V1.cell? ⟨gp, 0, none⟩ = some (.int .i64 t) := P1.out.cellAt 0 rfl
        have c1 : V1.cell? ⟨gp, 1, none⟩ = some (.int .u32 (num y)) := P1.out.cellAt 1 rfl
        clear hV1 hgp hgg hy hq hlt2 HI
        go_upto_region 9 with fail
        rw [← HV1.out, ← HGP.out]
        clear HV1 HGP hc0 hc1
        by_cases hin : 0 ≤ t ∧ t < 4
        case neg =>
          have e1 : ∀ g mm, put1 g ⟨t, y⟩ mm = g := fun g mm => put1_out g ⟨t, y⟩ mm hin
          have HN : Hid (wantAt f l n m (q + 1) = wantAt f l n m q ∧ aft f (l.take (q + 1)) = aft f (l.take q)) := Lib.hid (by
            refine ⟨?_, by rw [HT1.out, e1]⟩
            rcases hqn with ⟨h, _⟩ | ⟨h, _⟩ | ⟨h, _⟩
            · rw [HW1.out h, e1]
            · rw [HW2.out h, e1]
            · exact HW3.out h)
          clear e1 hqn hcz hcg
          by_cases hneg : t < 0
          · clear hin
            go_wp2_with fail
            go_roundw
            case rel => exact ⟨q + 1, HK.out, by go_num, Lib.hid (by rw [HN.out.1, HN.out.2]; exact I1.out)⟩
            case measure => have := HK.out; simp [intOf]; omega
          · have h3 : 3 < t := by omega
            clear hin
            go_wp2_with fail
            go_roundw
            case rel => exact ⟨q + 1, HK.out, by go_num, Lib.hid (by rw [HN.out.1, HN.out.2]; exact I1.out)⟩
            case measure => have := HK.out; simp [intOf]; omega
        case pos =>
          obtain ⟨j, rfl⟩ := Int.eq_ofNat_of_zero_le hin.1
          have hj : j < 4 := by omega
          have hj2 : (j : Int) < 4 := by omega
          have hj3 : ¬ 3 < (j : Int) := by omega
          have HP := Lib.hid (fun g mm => put1_at g j y mm hj)
          have cw := I1.out.all.cell (i := j) hj
          have cf := I1.out.all.frozen j
          clear hin
          go_upto_region 11 with fail
          obtain ⟨W2, hW2⟩ : ∃ W2, W2 = V1.setCell ⟨ga, j, none⟩ (.int .u32 (num y)) := ⟨_, rfl⟩
          have I2 : Hid (Tear w W2 gw ga f (wantAt f l n m q) (aft f (l.take (q + 1)))) := Lib.hid (by
            rw [hW2, HT1.out, HP.out, tornW_ones]; exact I1.out.setAll j y)
          have P2 : Hid (Blk W2 gp 35 #[.int .i64 (j : Int), .int .u32 (num y)]) := Lib.hid (by rw [hW2]; exact P1.out.far (q := ⟨ga, j, none⟩) (fun e => HGG.out.2 e.symm) _)
          rw [← hW2]
          clear hW2 cw cf c0 c1 I1 P1
          have d0 : W2.cell? ⟨gp, 0, none⟩ = some (.int .i64 (j : Int)) := P2.out.cellAt 0 rfl
          have d1 : W2.cell? ⟨gp, 1, none⟩ = some (.int .u32 (num y)) := P2.out.cellAt 1 rfl
          rcases hqn with ⟨hq1, hqk⟩ | ⟨hq1, hqk⟩ | ⟨hq1, hqk⟩
          · have HE := Lib.hid (HW1.out hq1)
            have dw := I2.out.want.cell (i := j) hj
            have df := I2.out.want.frozen j
            clear hq1 hcz hcg
            go_wp2_with fail
            go_roundw
            case rel => exact ⟨q + 1, HK.out, by go_num, Lib.hid (by rw [HE.out, HP.out, tornW_ones]; exact I2.out.setWant j y)⟩
            case measure => have := HK.out; simp [intOf]; omega
          · have HE := Lib.hid (HW2.out hq1)
            have hz := hcz hq1 hqk
            clear hcz hcg
            have HC : Hid (∀ Z, Save gw W2 Z → Z.cell? ⟨gp, 0, none⟩ = some (.int .i64 (j : Int)) ∧ Z.cell? ⟨gp, 1, none⟩ = some (.int .u32 (num y))) := Lib.hid fun Z hZ => by
              have := P2.out.save hZ (fun e => HGG.out.1 e.symm)
              exact ⟨this.cellAt 0 rfl, this.cellAt 1 rfl⟩
            obtain ⟨g, hg⟩ : ∃ g, wantAt f l n m q = g := ⟨_, rfl⟩
            rw [hg] at HE
            have I2' := I2
            rw [hg] at I2'
            clear hg I2 hq1
            have HX2 : Hid (W2.drew.cell? ⟨gw, j, none⟩ = some (.int .u32 (num (g j))) ∧ W2.drew.frozen? ⟨gw, j, none⟩ = false) := Lib.hid ⟨I2'.out.want.cell (i := j) hj, I2'.out.want.frozen j⟩
            rcases hz with hz | ⟨hz0, hz1⟩
            · subst hz
              go_upto_region 14 with fail
              clear d0 d1
              obtain ⟨hx, hf⟩ := HX2.out
              refine wp_region_held_drew (S := fun Y => Save gw W2 Y) (by kernel_rfl) (show Save gw W2 W2.drew from ⟨rfl, rfl, rfl, Nat.le_refl _, fun _ _ _ => rfl⟩) (fun hS => ?_)
              (refine held_take (i := 0) (oi := ?ot54) (v := ?vt54) ?at54 (by kernel_rfl) (by kernel_rfl) (by kernel_rfl) ?bt54 ?ct54 ?dt54 (by assumption) ?rt54; (case at54 => (simp only [List.getElem?_toArray, List.getElem?_cons_zero]; rfl)); (case bt54 => exact fun _ _ _ h => h); (case ct54 => kernel_rfl); (case dt54 => (intro W hW; (try dsimp only at hW); go_split_ands; go_simp; (try with_reducible rfl))); (case' rt54 => simp only [Act.put, List.setIfInBounds_toArray, List.set_cons_zero, List.set_cons_succ]))
              (refine held_take (i := 1) (oi := ?ot55) (v := .int .i64 (j : Int)) ?at55 (by kernel_rfl) (by kernel_rfl) (by kernel_rfl) ?bt55 ?ct55 ?dt55 (by assumption) ?rt55; (case at55 => (simp only [List.getElem?_toArray, List.getElem?_cons_zero, List.getElem?_cons_succ]; rfl)); (case bt55 => exact fun _ _ _ h => h); (case ct55 => kernel_rfl); (case dt55 => (intro Z hZ; obtain ⟨c0, c1⟩ := HC.out Z hZ; clear hZ; go_simp; (try with_reducible rfl))); (case' rt55 => simp only [Act.put, List.setIfInBounds_toArray, List.set_cons_zero, List.set_cons_succ]))
              (refine held_take (i := 2) (oi := ?ot56) (v := ?vt56) ?at56 (by kernel_rfl) (by kernel_rfl) (by kernel_rfl) ?bt56 ?ct56 ?dt56 (by assumption) ?rt56; (case at56 => (simp only [List.getElem?_toArray, List.getElem?_cons_zero, List.getElem?_cons_succ]; rfl)); (case bt56 => exact fun _ _ _ h => h); (case ct56 => kernel_rfl); (case dt56 => (intro W hW; (try dsimp only at hW); go_split_ands; go_simp; (try with_reducible rfl))); (case' rt56 => simp only [Act.put, List.setIfInBounds_toArray, List.set_cons_zero, List.set_cons_succ]))
              (refine held_take (i := 3) (oi := ?ot57) (v := .int .u32 (num y)) ?at57 (by kernel_rfl) (by kernel_rfl) (by kernel_rfl) ?bt57 ?ct57 ?dt57 (by assumption) ?rt57; (case at57 => (simp only [List.getElem?_toArray, List.getElem?_cons_zero, List.getElem?_cons_succ]; rfl)); (case bt57 => exact fun _ _ _ h => h); (case ct57 => kernel_rfl); (case dt57 => (intro Z hZ; obtain ⟨c0, c1⟩ := HC.out Z hZ; clear hZ; go_simp; (try with_reducible rfl))); (case' rt57 => simp only [Act.put, List.setIfInBounds_toArray, List.set_cons_zero, List.set_cons_succ]))
              (refine held_take (i := 4) (oi := ?ot58) (v := ?vt58) ?at58 (by kernel_rfl) (by kernel_rfl) (by kernel_rfl) ?bt58 ?ct58 ?dt58 (by assumption) ?rt58; (case at58 => (simp only [List.getElem?_toArray, List.getElem?_cons_zero, List.getElem?_cons_succ]; rfl)); (case bt58 => exact fun _ _ _ h => h); (case ct58 => kernel_rfl); (case dt58 => (intro W hW; (try dsimp only at hW); go_split_ands; go_simp; (try with_reducible rfl))); (case' rt58 => simp only [Act.put, List.setIfInBounds_toArray, List.set_cons_zero, List.set_cons_succ]))
              (refine held_take (i := 5) (oi := ?ot59) (v := ?vt59) ?at59 (by kernel_rfl) (by kernel_rfl) (by kernel_rfl) ?bt59 ?ct59 ?dt59 (by assumption) ?rt59; (case at59 => (simp only [List.getElem?_toArray, List.getElem?_cons_zero, List.getElem?_cons_succ]; rfl)); (case bt59 => exact fun _ _ _ h => h); (case ct59 => kernel_rfl); (case dt59 => (intro W hW; (try dsimp only at hW); go_split_ands; go_simp; (try with_reducible rfl))); (case' rt59 => simp only [Act.put, List.setIfInBounds_toArray, List.set_cons_zero, List.set_cons_succ]))
              (refine held_take (i := 6) (oi := ?ot60) (v := ?vt60) ?at60 (by kernel_rfl) (by kernel_rfl) (by kernel_rfl) ?bt60 ?ct60 ?dt60 (by assumption) ?rt60; (case at60 => (simp only [List.getElem?_toArray, List.getElem?_cons_zero, List.getElem?_cons_succ]; rfl)); (case bt60 => exact fun _ _ _ h => h); (case ct60 => kernel_rfl); (case dt60 => (intro W hW; (try dsimp only at hW); go_split_ands; go_simp; (try with_reducible rfl))); (case' rt60 => simp only [Act.put, List.setIfInBounds_toArray, List.set_cons_zero, List.set_cons_succ]))
              (refine held_take (i := 7) (oi := ?ot61) (v := .int .i64 (j : Int)) ?at61 (by kernel_rfl) (by kernel_rfl) (by kernel_rfl) ?bt61 ?ct61 ?dt61 (by assumption) ?rt61; (case at61 => (simp only [List.getElem?_toArray, List.getElem?_cons_zero, List.getElem?_cons_succ]; rfl)); (case bt61 => exact fun _ _ _ h => h); (case ct61 => kernel_rfl); (case dt61 => (intro Z hZ; obtain ⟨c0, c1⟩ := HC.out Z hZ; clear hZ; go_simp; (try with_reducible rfl))); (case' rt61 => simp only [Act.put, List.setIfInBounds_toArray, List.set_cons_zero, List.set_cons_succ]))
              (refine held_take (i := 8) (oi := ?ot62) (v := .pointer (some ⟨gw, j, none⟩)) ?at62 (by kernel_rfl) (by kernel_rfl) (by kernel_rfl) ?bt62 ?ct62 ?dt62 (by assumption) ?rt62; (case at62 => (simp only [List.getElem?_toArray, List.getElem?_cons_zero, List.getElem?_cons_succ]; rfl)); (case bt62 => exact fun _ _ _ h => h); (case ct62 => kernel_rfl); (case dt62 => (intro Z hZ; clear hZ; go_simp; (try with_reducible rfl); (try (intro h; omega)))); (case' rt62 => simp only [Act.put, List.setIfInBounds_toArray, List.set_cons_zero, List.set_cons_succ]))
              (refine held_take (i := 10) (oi := ?ot63) (v := ?vt63) ?at63 (by kernel_rfl) (by kernel_rfl) (by kernel_rfl) ?bt63 ?ct63 ?dt63 (by assumption) ?rt63; (case at63 => (simp only [List.getElem?_toArray, List.getElem?_cons_zero, List.getElem?_cons_succ]; rfl)); (case bt63 => exact fun _ _ _ h => h); (case ct63 => kernel_rfl); (case dt63 => (intro W hW; (try dsimp only at hW); go_split_ands; go_simp; (try with_reducible rfl))); (case' rt63 => simp only [Act.put, List.setIfInBounds_toArray, List.set_cons_zero, List.set_cons_succ]))
              refine held_one (i := 9) (oi := ?ot64) (by kernel_rfl) ?at64 ?ct64 (fun K9 hK9 => ?_)
              (case at64 => (simp only [List.getElem?_toArray, List.getElem?_cons_zero, List.getElem?_cons_succ]; rfl))
              (case ct64 => kernel_rfl)
              go_simp
              refine hK9 _ _ hS (fun hS9 => ?_)
              clear hS hK9 K9
              (refine held_take (i := 11) (oi := ?ot65) (v := ?vt65) ?at65 (by kernel_rfl) (by kernel_rfl) (by kernel_rfl) ?bt65 ?ct65 ?dt65 (by assumption) ?rt65; (case at65 => (simp only [List.getElem?_toArray, List.getElem?_cons_zero, List.getElem?_cons_succ]; rfl)); (case bt65 => exact fun _ _ _ h => h); (case ct65 => kernel_rfl); (case dt65 => (intro W hW; (try dsimp only at hW); go_split_ands; go_simp; (try with_reducible rfl))); (case' rt65 => simp only [Act.put, List.setIfInBounds_toArray, List.set_cons_zero, List.set_cons_succ]))
              (refine held_take (i := 12) (oi := ?ot66) (v := ?vt66) ?at66 (by kernel_rfl) (by kernel_rfl) (by kernel_rfl) ?bt66 ?ct66 ?dt66 (by assumption) ?rt66; (case at66 => (simp only [List.getElem?_toArray, List.getElem?_cons_zero, List.getElem?_cons_succ]; rfl)); (case bt66 => exact fun _ _ _ h => h); (case ct66 => kernel_rfl); (case dt66 => (intro W hW; (try dsimp only at hW); go_split_ands; go_simp; (try with_reducible rfl))); (case' rt66 => simp only [Act.put, List.setIfInBounds_toArray, List.set_cons_zero, List.set_cons_succ]))
              (refine held_take (i := 13) (oi := ?ot67) (v := .pointer (some ⟨gw, j, none⟩)) ?at67 (by kernel_rfl) (by kernel_rfl) (by kernel_rfl) ?bt67 ?ct67 ?dt67 (by assumption) ?rt67; (case at67 => (simp only [List.getElem?_toArray, List.getElem?_cons_zero, List.getElem?_cons_succ]; rfl)); (case bt67 => exact fun _ _ _ h => h); (case ct67 => kernel_rfl); (case dt67 => (intro Z hZ; clear hZ; go_simp; (try with_reducible rfl); (try (intro h; omega)))); (case' rt67 => simp only [Act.put, List.setIfInBounds_toArray, List.set_cons_zero, List.set_cons_succ]))
              refine held_one (i := 14) (oi := ?ot68) (by kernel_rfl) ?at68 ?ct68 (fun K14 hK14 => ?_)
              (case at68 => (simp only [List.getElem?_toArray, List.getElem?_cons_zero, List.getElem?_cons_succ]; rfl))
              (case ct68 => kernel_rfl)
              have hSb := hS9
              go_simp
              refine hK14 _ _ (hSb.setCell j _) (fun hS14 => ?_)
              clear hS9 hSb hK14 K14
              refine wpAnyH_done (by kernel_rfl) ?_ _
              clear hS14 hx hf
              go_wp2_with fail
              go_roundw
              case rel => exact ⟨q + 1, HK.out, by go_num, Lib.hid (by rw [HE.out, HP.out]; exact (I2'.out.setWant j (tornW (g j) y m)).drew)⟩
              case measure => have := HK.out; simp [intOf]; omega
            · subst hz0
              have z1 : ((0 : Int) == k) = false := by simp; omega
              have z2 : ¬ (0 : Int) = k := by omega
              have z4 : decide ((0 : Int) = k) = false := decide_eq_false z2
              have z3 : ¬ (0 : Int) < k := by omega
              go_upto_region 14 with fail
              clear d0 d1
              obtain ⟨hx, hf⟩ := HX2.out
              refine wp_region_held_drew (S := fun Y => Save gw W2 Y) (by kernel_rfl) (show Save gw W2 W2.drew from ⟨rfl, rfl, rfl, Nat.le_refl _, fun _ _ _ => rfl⟩) (fun hS => ?_)
              (refine held_take (i := 0) (oi := ?ot69) (v := ?vt69) ?at69 (by kernel_rfl) (by kernel_rfl) (by kernel_rfl) ?bt69 ?ct69 ?dt69 (by assumption) ?rt69; (case at69 => (simp only [List.getElem?_toArray, List.getElem?_cons_zero]; rfl)); (case bt69 => exact fun _ _ _ h => h); (case ct69 => kernel_rfl); (case dt69 => (intro W hW; (try dsimp only at hW); go_split_ands; go_simp; (try with_reducible rfl))); (case' rt69 => simp only [Act.put, List.setIfInBounds_toArray, List.set_cons_zero, List.set_cons_succ]))
              (refine held_take (i := 1) (oi := ?ot70) (v := .int .i64 (j : Int)) ?at70 (by kernel_rfl) (by kernel_rfl) (by kernel_rfl) ?bt70 ?ct70 ?dt70 (by assumption) ?rt70; (case at70 => (simp only [List.getElem?_toArray, List.getElem?_cons_zero, List.getElem?_cons_succ]; rfl)); (case bt70 => exact fun _ _ _ h => h); (case ct70 => kernel_rfl); (case dt70 => (intro Z hZ; obtain ⟨c0, c1⟩ := HC.out Z hZ; clear hZ; go_simp; (try with_reducible rfl))); (case' rt70 => simp only [Act.put, List.setIfInBounds_toArray, List.set_cons_zero, List.set_cons_succ]))
              (refine held_take (i := 2) (oi := ?ot71) (v := ?vt71) ?at71 (by kernel_rfl) (by kernel_rfl) (by kernel_rfl) ?bt71 ?ct71 ?dt71 (by assumption) ?rt71; (case at71 => (simp only [List.getElem?_toArray, List.getElem?_cons_zero, List.getElem?_cons_succ]; rfl)); (case bt71 => exact fun _ _ _ h => h); (case ct71 => kernel_rfl); (case dt71 => (intro W hW; (try dsimp only at hW); go_split_ands; go_simp; (try with_reducible rfl))); (case' rt71 => simp only [Act.put, List.setIfInBounds_toArray, List.set_cons_zero, List.set_cons_succ]))
              (refine held_take (i := 3) (oi := ?ot72) (v := .int .u32 (num y)) ?at72 (by kernel_rfl) (by kernel_rfl) (by kernel_rfl) ?bt72 ?ct72 ?dt72 (by assumption) ?rt72; (case at72 => (simp only [List.getElem?_toArray, List.getElem?_cons_zero, List.getElem?_cons_succ]; rfl)); (case bt72 => exact fun _ _ _ h => h); (case ct72 => kernel_rfl); (case dt72 => (intro Z hZ; obtain ⟨c0, c1⟩ := HC.out Z hZ; clear hZ; go_simp; (try with_reducible rfl))); (case' rt72 => simp only [Act.put, List.setIfInBounds_toArray, List.set_cons_zero, List.set_cons_succ]))
              (refine held_take (i := 4) (oi := ?ot73) (v := ?vt73) ?at73 (by kernel_rfl) (by kernel_rfl) (by kernel_rfl) ?bt73 ?ct73 ?dt73 (by assumption) ?rt73; (case at73 => (simp only [List.getElem?_toArray, List.getElem?_cons_zero, List.getElem?_cons_succ]; rfl)); (case bt73 => exact fun _ _ _ h => h); (case ct73 => kernel_rfl); (case dt73 => (intro W hW; (try dsimp only at hW); go_split_ands; go_simp; (try with_reducible rfl))); (case' rt73 => simp only [Act.put, List.setIfInBounds_toArray, List.set_cons_zero, List.set_cons_succ]))
              (refine held_take (i := 5) (oi := ?ot74) (v := ?vt74) ?at74 (by kernel_rfl) (by kernel_rfl) (by kernel_rfl) ?bt74 ?ct74 ?dt74 (by assumption) ?rt74; (case at74 => (simp only [List.getElem?_toArray, List.getElem?_cons_zero, List.getElem?_cons_succ]; rfl)); (case bt74 => exact fun _ _ _ h => h); (case ct74 => kernel_rfl); (case dt74 => (intro W hW; (try dsimp only at hW); go_split_ands; go_simp; (try with_reducible rfl))); (case' rt74 => simp only [Act.put, List.setIfInBounds_toArray, List.set_cons_zero, List.set_cons_succ]))
              (refine held_take (i := 6) (oi := ?ot75) (v := ?vt75) ?at75 (by kernel_rfl) (by kernel_rfl) (by kernel_rfl) ?bt75 ?ct75 ?dt75 (by assumption) ?rt75; (case at75 => (simp only [List.getElem?_toArray, List.getElem?_cons_zero, List.getElem?_cons_succ]; rfl)); (case bt75 => exact fun _ _ _ h => h); (case ct75 => kernel_rfl); (case dt75 => (intro W hW; (try dsimp only at hW); go_split_ands; go_simp; (try with_reducible rfl))); (case' rt75 => simp only [Act.put, List.setIfInBounds_toArray, List.set_cons_zero, List.set_cons_succ]))
              (refine held_take (i := 7) (oi := ?ot76) (v := .int .i64 (j : Int)) ?at76 (by kernel_rfl) (by kernel_rfl) (by kernel_rfl) ?bt76 ?ct76 ?dt76 (by assumption) ?rt76; (case at76 => (simp only [List.getElem?_toArray, List.getElem?_cons_zero, List.getElem?_cons_succ]; rfl)); (case bt76 => exact fun _ _ _ h => h); (case ct76 => kernel_rfl); (case dt76 => (intro Z hZ; obtain ⟨c0, c1⟩ := HC.out Z hZ; clear hZ; go_simp; (try with_reducible rfl))); (case' rt76 => simp only [Act.put, List.setIfInBounds_toArray, List.set_cons_zero, List.set_cons_succ]))
              (refine held_take (i := 8) (oi := ?ot77) (v := .pointer (some ⟨gw, j, none⟩)) ?at77 (by kernel_rfl) (by kernel_rfl) (by kernel_rfl) ?bt77 ?ct77 ?dt77 (by assumption) ?rt77; (case at77 => (simp only [List.getElem?_toArray, List.getElem?_cons_zero, List.getElem?_cons_succ]; rfl)); (case bt77 => exact fun _ _ _ h => h); (case ct77 => kernel_rfl); (case dt77 => (intro Z hZ; clear hZ; go_simp; (try with_reducible rfl); (try (intro h; omega)))); (case' rt77 => simp only [Act.put, List.setIfInBounds_toArray, List.set_cons_zero, List.set_cons_succ]))
              (refine held_take (i := 10) (oi := ?ot78) (v := ?vt78) ?at78 (by kernel_rfl) (by kernel_rfl) (by kernel_rfl) ?bt78 ?ct78 ?dt78 (by assumption) ?rt78; (case at78 => (simp only [List.getElem?_toArray, List.getElem?_cons_zero, List.getElem?_cons_succ]; rfl)); (case bt78 => exact fun _ _ _ h => h); (case ct78 => kernel_rfl); (case dt78 => (intro W hW; (try dsimp only at hW); go_split_ands; go_simp; (try with_reducible rfl))); (case' rt78 => simp only [Act.put, List.setIfInBounds_toArray, List.set_cons_zero, List.set_cons_succ]))
              refine held_one (i := 9) (oi := ?ot79) (by kernel_rfl) ?at79 ?ct79 (fun K9 hK9 => ?_)
              (case at79 => (simp only [List.getElem?_toArray, List.getElem?_cons_zero, List.getElem?_cons_succ]; rfl))
              (case ct79 => kernel_rfl)
              go_simp
              refine hK9 _ _ hS (fun hS9 => ?_)
              clear hS hK9 K9
              (refine held_take (i := 11) (oi := ?ot80) (v := ?vt80) ?at80 (by kernel_rfl) (by kernel_rfl) (by kernel_rfl) ?bt80 ?ct80 ?dt80 (by assumption) ?rt80; (case at80 => (simp only [List.getElem?_toArray, List.getElem?_cons_zero, List.getElem?_cons_succ]; rfl)); (case bt80 => exact fun _ _ _ h => h); (case ct80 => kernel_rfl); (case dt80 => (intro W hW; (try dsimp only at hW); go_split_ands; go_simp; (try with_reducible rfl))); (case' rt80 => simp only [Act.put, List.setIfInBounds_toArray, List.set_cons_zero, List.set_cons_succ]))
              (refine held_take (i := 12) (oi := ?ot81) (v := ?vt81) ?at81 (by kernel_rfl) (by kernel_rfl) (by kernel_rfl) ?bt81 ?ct81 ?dt81 (by assumption) ?rt81; (case at81 => (simp only [List.getElem?_toArray, List.getElem?_cons_zero, List.getElem?_cons_succ]; rfl)); (case bt81 => exact fun _ _ _ h => h); (case ct81 => kernel_rfl); (case dt81 => (intro W hW; (try dsimp only at hW); go_split_ands; go_simp; (try with_reducible rfl))); (case' rt81 => simp only [Act.put, List.setIfInBounds_toArray, List.set_cons_zero, List.set_cons_succ]))
              (refine held_take (i := 13) (oi := ?ot82) (v := .pointer (some ⟨gw, j, none⟩)) ?at82 (by kernel_rfl) (by kernel_rfl) (by kernel_rfl) ?bt82 ?ct82 ?dt82 (by assumption) ?rt82; (case at82 => (simp only [List.getElem?_toArray, List.getElem?_cons_zero, List.getElem?_cons_succ]; rfl)); (case bt82 => exact fun _ _ _ h => h); (case ct82 => kernel_rfl); (case dt82 => (intro Z hZ; clear hZ; go_simp; (try with_reducible rfl); (try (intro h; omega)))); (case' rt82 => simp only [Act.put, List.setIfInBounds_toArray, List.set_cons_zero, List.set_cons_succ]))
              refine held_one (i := 14) (oi := ?ot83) (by kernel_rfl) ?at83 ?ct83 (fun K14 hK14 => ?_)
              (case at83 => (simp only [List.getElem?_toArray, List.getElem?_cons_zero, List.getElem?_cons_succ]; rfl))
              (case ct83 => kernel_rfl)
              have hSb := hS9
              go_simp
              refine hK14 _ _ (hSb.setCell j _) (fun hS14 => ?_)
              clear hS9 hSb hK14 K14
              refine wpAnyH_done (by kernel_rfl) ?_ _
              clear hS14 hx hf
              go_wp2_with fail
              go_roundw
              case rel => exact ⟨0 + 1, HK.out, by go_num, Lib.hid (by rw [HE.out, HP.out]; exact (I2'.out.setWant j (tornW (g j) y m)).drew)⟩
              case measure => have := HK.out; simp [intOf]; omega
          · have HE := Lib.hid (HW3.out hq1)
            obtain ⟨n1, n2⟩ := hcg hq1
            have z1 : ((q : Int) == k) = false := by simp [n1]
            have z2 : ((q : Int) == 0) = false := by simp; omega
            have z3 : ¬ (q : Int) = k := n1
            have z4 : ¬ (q : Int) = 0 := by omega
            have z5 : decide ((q : Int) = k) = false := decide_eq_false z3
            clear n1 n2 hcz hcg hq1
            go_wp2_with fail
            go_roundw
            case rel => exact ⟨q + 1, HK.out, by go_num, Lib.hid (by rw [HE.out]; exact I2.out)⟩
            case measure => have := HK.out; simp [intOf]; omega
      · obtain rfl : q = L := by omega
        have I3 : Hid (Tear w W gw ga f T U) := Lib.hid (by
          have := HI.out
          rw [HX.out.1, wantAt_end f l n m (by have := HX.out.2; unfold cutN at this; omega), List.take_length] at this
          rw [HTU.out.1, HTU.out.2]; exact this)
        have HQ : Hid (∀ Z, VS W Z → (loadVar 25 ⟨w.heap.size, 0, none⟩).run Try.prog Z = .ok (.agg (vec 4 (wds f))) Z) := Lib.hid fun Z hZ => run_load_arr (I3.out.box.under hZ) Try.underlying25 rfl infoQ
        have HWt : Hid (∀ Z, VS W Z → (loadVar 25 ⟨gw, 0, none⟩).run Try.prog Z = .ok (.agg (vec 4 (wds T))) Z) := Lib.hid fun Z hZ => run_load_arr (I3.out.want.under hZ) Try.underlying25 rfl infoQ
        have HAl : Hid (∀ Z, VS W Z → (loadVar 25 ⟨ga, 0, none⟩).run Try.prog Z = .ok (.agg (vec 4 (wds U))) Z) := Lib.hid fun Z hZ => run_load_arr (I3.out.all.under hZ) Try.underlying25 rfl infoQ
        have HT : Hid (∀ Z, VS W Z → Calls Try.prog 17 #[.agg (vec 4 (wds f)), .slice A q c, .int .i64 k, .int .u32 (num m)] Z fun e w' => e = .returned (.agg (vec 4 (wds T))) ∧ Below Z.heap.size Z w') := Lib.hid fun Z hZ => HTC.out Z (hZ.below0 I3.out.be)
        have HU : Hid (∀ Z, VS W Z → Calls Try.prog 16 #[.agg (vec 4 (wds f)), .slice A q c] Z fun e w' => e = .returned (.agg (vec 4 (wds U))) ∧ Below Z.heap.size Z w') := Lib.hid fun Z hZ => HUC.out Z (hZ.below0 I3.out.be)
        clear HI hlt hq
        go_upto_region 16 with fail
        refine wp_region_held_drew (S := fun Y => VS W Y) (by kernel_rfl) (VS.begin W) (fun hS => ?_)
        (refine held_take (i := 0) (oi := ?ot84) (v := .agg (vec 4 (wds f))) ?at84 (by kernel_rfl) (by kernel_rfl) (by kernel_rfl) ?bt84 ?ct84 ?dt84 (by assumption) ?rt84; (case at84 => (simp only [List.getElem?_toArray, List.getElem?_cons_zero]; rfl)); (case bt84 => exact fun _ _ _ h => h); (case ct84 => kernel_rfl); (case dt84 => (intro W hW; exact exec_load _ _ rfl _ rfl _ (HQ.out W hW))); (case' rt84 => simp only [Act.put, List.setIfInBounds_toArray, List.set_cons_zero, List.set_cons_succ]))
        (refine held_take (i := 1) (oi := ?ot85) (v := ?vt85) ?at85 (by kernel_rfl) (by kernel_rfl) (by kernel_rfl) ?bt85 ?ct85 ?dt85 (by assumption) ?rt85; (case at85 => (simp only [List.getElem?_toArray, List.getElem?_cons_zero, List.getElem?_cons_succ]; rfl)); (case bt85 => exact fun _ _ _ h => h); (case ct85 => kernel_rfl); (case dt85 => (intro W hW; (try dsimp only at hW); go_split_ands; go_simp; (try with_reducible rfl))); (case' rt85 => simp only [Act.put, List.setIfInBounds_toArray, List.set_cons_zero, List.set_cons_succ]))
        (refine held_take (i := 2) (oi := ?ot86) (v := ?vt86) ?at86 (by kernel_rfl) (by kernel_rfl) (by kernel_rfl) ?bt86 ?ct86 ?dt86 (by assumption) ?rt86; (case at86 => (simp only [List.getElem?_toArray, List.getElem?_cons_zero, List.getElem?_cons_succ]; rfl)); (case bt86 => exact fun _ _ _ h => h); (case ct86 => kernel_rfl); (case dt86 => (intro W hW; (try dsimp only at hW); go_split_ands; go_simp; (try with_reducible rfl))); (case' rt86 => simp only [Act.put, List.setIfInBounds_toArray, List.set_cons_zero, List.set_cons_succ]))
        (refine held_take (i := 3) (oi := ?ot87) (v := ?vt87) ?at87 (by kernel_rfl) (by kernel_rfl) (by kernel_rfl) ?bt87 ?ct87 ?dt87 (by assumption) ?rt87; (case at87 => (simp only [List.getElem?_toArray, List.getElem?_cons_zero, List.getElem?_cons_succ]; rfl)); (case bt87 => exact fun _ _ _ h => h); (case ct87 => kernel_rfl); (case dt87 => (intro W hW; (try dsimp only at hW); go_split_ands; go_simp; (try with_reducible rfl))); (case' rt87 => simp only [Act.put, List.setIfInBounds_toArray, List.set_cons_zero, List.set_cons_succ]))
        (refine held_take (i := 5) (oi := ?ot88) (v := .agg (vec 4 (wds T))) ?at88 (by kernel_rfl) (by kernel_rfl) (by kernel_rfl) ?bt88 ?ct88 ?dt88 (by assumption) ?rt88; (case at88 => (simp only [List.getElem?_toArray, List.getElem?_cons_zero, List.getElem?_cons_succ]; rfl)); (case bt88 => exact fun _ _ _ h => h); (case ct88 => kernel_rfl); (case dt88 => (intro W hW; exact exec_load _ _ rfl _ rfl _ (HWt.out W hW))); (case' rt88 => simp only [Act.put, List.setIfInBounds_toArray, List.set_cons_zero, List.set_cons_succ]))
        refine held_one (i := 4) (oi := ?ot89) (by kernel_rfl) ?at89 ?ct89 (fun K4 hK4 => ?_)
        (case at89 => (simp only [List.getElem?_toArray, List.getElem?_cons_zero, List.getElem?_cons_succ]; rfl))
        (case ct89 => kernel_rfl)
        have hSb := hS
        go_simp
        refine (HT.out _ hSb).mono ?_
        rintro e z4 ⟨rfl, hd⟩
        refine hK4 _ _ (hSb.keep hd) (fun hS4 => ?_)
        clear hS hSb hd hK4 K4
        (refine held_take (i := 6) (oi := ?ot90) (v := .bool true) ?at90 (by kernel_rfl) (by kernel_rfl) (by kernel_rfl) ?bt90 ?ct90 ?dt90 (by assumption) ?rt90; (case at90 => (simp only [List.getElem?_toArray, List.getElem?_cons_zero, List.getElem?_cons_succ]; rfl)); (case bt90 => exact fun _ _ _ h => h); (case ct90 => kernel_rfl); (case dt90 => (intro Z _; exact exec_eql4 _ _ _ rfl _ _ rfl rfl Z (quadEq_self _))); (case' rt90 => simp only [Act.put, List.setIfInBounds_toArray, List.set_cons_zero, List.set_cons_succ]))
        (refine held_take (i := 7) (oi := ?ot91) (v := ?vt91) ?at91 (by kernel_rfl) (by kernel_rfl) (by kernel_rfl) ?bt91 ?ct91 ?dt91 (by assumption) ?rt91; (case at91 => (simp only [List.getElem?_toArray, List.getElem?_cons_zero, List.getElem?_cons_succ]; rfl)); (case bt91 => exact fun _ _ _ h => h); (case ct91 => kernel_rfl); (case dt91 => (intro W hW; (try dsimp only at hW); go_split_ands; go_simp; (try with_reducible rfl))); (case' rt91 => simp only [Act.put, List.setIfInBounds_toArray, List.set_cons_zero, List.set_cons_succ]))
        (refine held_take (i := 8) (oi := ?ot92) (v := .agg (vec 4 (wds f))) ?at92 (by kernel_rfl) (by kernel_rfl) (by kernel_rfl) ?bt92 ?ct92 ?dt92 (by assumption) ?rt92; (case at92 => (simp only [List.getElem?_toArray, List.getElem?_cons_zero, List.getElem?_cons_succ]; rfl)); (case bt92 => exact fun _ _ _ h => h); (case ct92 => kernel_rfl); (case dt92 => (intro W hW; exact exec_load _ _ rfl _ rfl _ (HQ.out W hW))); (case' rt92 => simp only [Act.put, List.setIfInBounds_toArray, List.set_cons_zero, List.set_cons_succ]))
        (refine held_take (i := 9) (oi := ?ot93) (v := ?vt93) ?at93 (by kernel_rfl) (by kernel_rfl) (by kernel_rfl) ?bt93 ?ct93 ?dt93 (by assumption) ?rt93; (case at93 => (simp only [List.getElem?_toArray, List.getElem?_cons_zero, List.getElem?_cons_succ]; rfl)); (case bt93 => exact fun _ _ _ h => h); (case ct93 => kernel_rfl); (case dt93 => (intro W hW; (try dsimp only at hW); go_split_ands; go_simp; (try with_reducible rfl))); (case' rt93 => simp only [Act.put, List.setIfInBounds_toArray, List.set_cons_zero, List.set_cons_succ]))
        (refine held_take (i := 11) (oi := ?ot94) (v := .agg (vec 4 (wds U))) ?at94 (by kernel_rfl) (by kernel_rfl) (by kernel_rfl) ?bt94 ?ct94 ?dt94 (by assumption) ?rt94; (case at94 => (simp only [List.getElem?_toArray, List.getElem?_cons_zero, List.getElem?_cons_succ]; rfl)); (case bt94 => exact fun _ _ _ h => h); (case ct94 => kernel_rfl); (case dt94 => (intro W hW; exact exec_load _ _ rfl _ rfl _ (HAl.out W hW))); (case' rt94 => simp only [Act.put, List.setIfInBounds_toArray, List.set_cons_zero, List.set_cons_succ]))
        refine held_one (i := 10) (oi := ?ot95) (by kernel_rfl) ?at95 ?ct95 (fun K10 hK10 => ?_)
        (case at95 => (simp only [List.getElem?_toArray, List.getElem?_cons_zero, List.getElem?_cons_succ]; rfl))
        (case ct95 => kernel_rfl)
        have hSb := hS4
        go_simp
        refine (HU.out _ hSb).mono ?_
        rintro e z10 ⟨rfl, hd⟩
        refine hK10 _ _ (hSb.keep hd) (fun hS10 => ?_)
        clear hS4 hSb hd hK10 K10
        (refine held_take (i := 12) (oi := ?ot96) (v := .bool true) ?at96 (by kernel_rfl) (by kernel_rfl) (by kernel_rfl) ?bt96 ?ct96 ?dt96 (by assumption) ?rt96; (case at96 => (simp only [List.getElem?_toArray, List.getElem?_cons_zero, List.getElem?_cons_succ]; rfl)); (case bt96 => exact fun _ _ _ h => h); (case ct96 => kernel_rfl); (case dt96 => (intro Z _; exact exec_eql4 _ _ _ rfl _ _ rfl rfl Z (quadEq_self _))); (case' rt96 => simp only [Act.put, List.setIfInBounds_toArray, List.set_cons_zero, List.set_cons_succ]))
        (refine held_take (i := 13) (oi := ?ot97) (v := ?vt97) ?at97 (by kernel_rfl) (by kernel_rfl) (by kernel_rfl) ?bt97 ?ct97 ?dt97 (by assumption) ?rt97; (case at97 => (simp only [List.getElem?_toArray, List.getElem?_cons_zero, List.getElem?_cons_succ]; rfl)); (case bt97 => exact fun _ _ _ h => h); (case ct97 => kernel_rfl); (case dt97 => (intro W hW; (try dsimp only at hW); go_split_ands; go_simp; (try with_reducible rfl))); (case' rt97 => simp only [Act.put, List.setIfInBounds_toArray, List.set_cons_zero, List.set_cons_succ]))
        (refine held_take (i := 14) (oi := ?ot98) (v := ?vt98) ?at98 (by kernel_rfl) (by kernel_rfl) (by kernel_rfl) ?bt98 ?ct98 ?dt98 (by assumption) ?rt98; (case at98 => (simp only [List.getElem?_toArray, List.getElem?_cons_zero, List.getElem?_cons_succ]; rfl)); (case bt98 => exact fun _ _ _ h => h); (case ct98 => kernel_rfl); (case dt98 => (intro W hW; (try dsimp only at hW); go_split_ands; go_simp; (try with_reducible rfl))); (case' rt98 => simp only [Act.put, List.setIfInBounds_toArray, List.set_cons_zero, List.set_cons_succ]))
        refine wpAnyH_done (by kernel_rfl) ?_ _
        have HF := Lib.hid hS10
        clear hS10
        go_wp2
        go_ret
        exact ⟨rfl, HF.out.below0 I3.out.be⟩
end Go.Proofs.Ytdkjigdihfidgaa
