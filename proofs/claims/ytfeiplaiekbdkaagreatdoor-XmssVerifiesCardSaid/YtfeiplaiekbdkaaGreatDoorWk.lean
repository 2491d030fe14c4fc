/- Merged: Root, RRoot, RLeaf, Xroot. -/
import Derived.Deep.Cut
import Derived.Deep.CutRange
import Derived.Test.YtfeiplaiekbdkaaGreatDoorWi
/- ltree.Root. -/
namespace Go.Proofs.YtfeiplaiekbdkaaGreatDoor
open Go.RowKit
attribute [local go_sem ↓ high] zeroV26 zeroVPr

/-- The node behind k steps of a way. -/
def rootK (R : Nat → Nat → Nd → Nd → Nd) (idx : Nat) (auth : List Nd) (leaf : Nd) : Nat → Nd
  | 0 => leaf
  | k + 1 => if idx / 2 ^ k % 2 = 1 then R k (idx / 2 ^ (k + 1)) (auth.getD k zb) (rootK R idx auth leaf k) else R k (idx / 2 ^ (k + 1)) (rootK R idx auth leaf k) (auth.getD k zb)
theorem rootK_succ (R : Nat → Nat → Nd → Nd → Nd) (idx : Nat) (auth : List Nd) (leaf : Nd) (k : Nat) : rootK R idx auth leaf (k + 1) =
    if idx / 2 ^ k % 2 = 1 then R k (idx / 2 ^ (k + 1)) (auth.getD k zb) (rootK R idx auth leaf k) else R k (idx / 2 ^ (k + 1)) (rootK R idx auth leaf k) (auth.getD k zb) := rfl
/-- The document's Root. -/
def rootD (leaf : Nat → UInt8) (idx : Nat) (auth : List Nd) (seed : Nat → UInt8) : Nd := if auth.length ≤ 32 then rootK (joinR seed 2 0) idx auth leaf auth.length else zb

theorem joiner_b (seed : Nat → UInt8) (pf : Nat) (pcap : Array Value) (w : World) :
    Calls Tryz.prog 62 #[.agg (vec 32 (bys seed)), .func (.func pf) #[] pcap] w fun e w' => e = .returned (.func (.func 86) #[] #[.pointer (some ⟨w.heap.size, 0, none⟩), .pointer (some ⟨w.heap.size + 1, 0, none⟩)]) ∧
      Arr w' w.heap.size 30 32 (bys seed) ∧ Blk w' (w.heap.size + 1) 106 #[.func (.func pf) #[] pcap] ∧ w'.heap.size = w.heap.size + 2 ∧ Below w.heap.size w w' :=
  (joiner_any seed pf pcap w).mono fun e w' ⟨he, hw⟩ => ⟨he, by rw [hw]; exact (Arr.newAt _ _ _ _ rfl).alloc _, by rw [hw]; exact Blk.new _ _ _ (by simp), by rw [hw]; simp, by rw [hw]; exact (((Below.refl _ _).alloc (by simp <;> omega) _).alloc (by simp <;> omega) _)⟩
section
variable {P : Program} {w : World} {ops : Array Oper} {rest : List Oper} {o : Oper} {a : Act} {Q : Exit → Act → World → Prop}
theorem wl_load_p (hgd : o.guard = none) (ty : TypeId) (x : Operand) (ho : o.op = .load ty x) (p : Addr) (hx : a.eval x = .pointer (some p)) (v : Value)
    (hl : (loadVar ty p).run P w = .ok v w) (h : wpList P ops Q rest (a.put o.dst v) w) : wpList P ops Q (o :: rest) a w :=
  wpList_plain hgd fun _ hK => by
    unfold Oper.wp
    rw [exec_load_p ty x ho p hx v hl]
    exact hK _ _ h
end
theorem and1_u32 (n : Nat) (h : n < 4294967296) : bits .and .u32 (n : Int) 1 = ((n % 2 : Nat) : Int) := by
  have e : (n : Int) = num (BitVec.ofNat 32 n) := by unfold num; rw [BitVec.toNat_ofNat, Nat.mod_eq_of_lt (by simpa using h)]
  have e1 : (1 : Int) = num (1#32) := rfl
  rw [e, e1, num_and]
  unfold num
  rw [BitVec.toNat_and, BitVec.toNat_ofNat, Nat.mod_eq_of_lt (by simpa using h)]
  show ((n &&& 1 : Nat) : Int) = _
  rw [Nat.and_one_is_mod]
/-- What Root's loop keeps. -/
structure RI (V : World) (gs gp gn : Nat) (seed x : Nat → UInt8) (W : World) : Prop where
  s : Arr W gs 30 32 (bys seed)
  p : Blk W gp 106 #[(.func (.func 63) #[] #[])]
  n : Arr W gn 30 32 (bys x)
  b : VS V W
  ds : V.heap.size ≤ gs
  dp : V.heap.size ≤ gp
  dn : V.heap.size ≤ gn
  ns : gs ≠ gn
  np : gp ≠ gn
theorem RI.keep {V W Z : World} {gs gp gn : Nat} {seed x : Nat → UInt8} (h : RI V gs gp gn seed x W) (hd : Below W.heap.size W Z) : RI V gs gp gn seed x Z := ⟨h.s.under hd, h.p.under hd, h.n.under hd, h.b.keep hd, h.ds, h.dp, h.dn, h.ns, h.np⟩

set_option maxHeartbeats 2000000 in
set_option maxRecDepth 100000 in
theorem root_any (leaf : Nat → UInt8) (idx : Nat) (hidx : idx < 4294967296) (A : Option Addr) (cap : Nat) (auth : List Nd) (seed : Nat → UInt8) (w : World) (hr : NRow w w.heap.size A auth) (hT : Tabs w) :
    Calls Tryz.prog 41 #[.agg (vec 32 (bys leaf)), .int .u32 (idx : Int), .slice A auth.length cap, .agg (vec 32 (bys seed))] w fun e w' => e = .returned (.agg (vec 32 (bys (rootD leaf idx auth seed)))) ∧ Below w.heap.size w w' := by
  obtain ⟨V, hV⟩ : ∃ V, V = ((w.alloc (.cells (vec 32 (bys leaf)) 30)).alloc (.cells (vec 32 (bys seed)) 30)).alloc (.cells (vec 32 (bys zb)) 30) := ⟨_, rfl⟩
  have h0 : Arr V w.heap.size 30 32 (bys leaf) := by rw [hV]; exact ((Arr.newAt _ _ _ _ (by simp)).alloc _).alloc _
  have h1 : Arr V (w.heap.size + 1) 30 32 (bys seed) := by rw [hV]; exact (Arr.newAt _ _ _ _ (by simp)).alloc _
  have h2 : Arr V (w.heap.size + 2) 30 32 (bys zb) := by rw [hV]; exact Arr.newAt _ _ _ _ (by simp)
  have hB : Below w.heap.size w V := by rw [hV]; exact (((Below.refl _ _).alloc (by simp <;> omega) _).alloc (by simp <;> omega) _).alloc (by simp <;> omega) _
  have hsz : V.heap.size = w.heap.size + 3 := by rw [hV]; simp
  have HA := Lib.hid (And.intro h0 (And.intro h1 (And.intro h2 (And.intro hB hsz))))
  have HT := Lib.hid hT
  have HR := Lib.hid hr
  have HW := Lib.hid hV
  clear hV h0 h1 h2 hB hsz hT hr
  go_enter Tryz.func41, Tryz.ntmps41
  go_upto_region 1 with fail
  rw [← HW.out]
  clear HW
  by_cases hlen : auth.length ≤ 32
  · have t1 : ¬ (32 : Int) < (auth.length : Int) := by omega
    have HP : Hid (rootD leaf idx auth seed = rootK (joinR seed 2 0) idx auth leaf auth.length) := Lib.hid (if_pos hlen)
    go_upto_region 3 with fail
    go_cut [9, 10, 19] from 21 to 49 (fun s9 s10 s19 wx => ∃ gs gp gn : Nat, s9 = (.func (.func 86) #[] #[.pointer (some ⟨gs, 0, none⟩), .pointer (some ⟨gp, 0, none⟩)]) ∧ s10 = .pointer (some ⟨gn, 0, none⟩) ∧ s19 = (.func (.func 86) #[] #[.pointer (some ⟨gs, 0, none⟩), .pointer (some ⟨gp, 0, none⟩)]) ∧ Hid (RI V gs gp gn seed leaf wx))
    case first =>
      refine wp_region_held_drew (S := fun Y => VS V Y) (by kernel_rfl) (VS.begin V) (fun hS => ?_)
      (refine held_take (i := 0) (oi := ?ot1) (v := .agg (vec 32 (bys seed))) ?at1 (by kernel_rfl) (by kernel_rfl) (by kernel_rfl) ?bt1 ?ct1 ?dt1 (by assumption) ?rt1; (case at1 => (simp only [List.getElem?_toArray, List.getElem?_cons_zero]; rfl)); (case bt1 => exact fun _ _ _ h => h); (case ct1 => kernel_rfl); (case dt1 => (intro W hW; exact exec_load 30 _ rfl _ rfl _ (run_load_arr (HA.out.2.1.under hW) Tryz.underlying30 rfl info26))); (case' rt1 => simp only [Act.put, List.setIfInBounds_toArray, List.set_cons_zero, List.set_cons_succ]))
      (refine held_take (i := 2) (oi := ?ot2) (v := .agg (vec 32 (bys leaf))) ?at2 (by kernel_rfl) (by kernel_rfl) (by kernel_rfl) ?bt2 ?ct2 ?dt2 (by assumption) ?rt2; (case at2 => (simp only [List.getElem?_toArray, List.getElem?_cons_zero, List.getElem?_cons_succ]; rfl)); (case bt2 => exact fun _ _ _ h => h); (case ct2 => kernel_rfl); (case dt2 => (intro W hW; exact exec_load 30 _ rfl _ rfl _ (run_load_arr (HA.out.1.under hW) Tryz.underlying30 rfl info26))); (case' rt2 => simp only [Act.put, List.setIfInBounds_toArray, List.set_cons_zero, List.set_cons_succ]))
      refine held_two (i := 1) (j := 3) (oi := ?oit9) (oj := ?ojt9) (by kernel_rfl) ?ait9 ?ajt9 ?cit9 ?cjt9 (fun K1 hK1 => ?hit9) (fun K3 hK3 => ?hjt9)
      (case ait9 => (simp only [List.getElem?_toArray, List.getElem?_cons_zero, List.getElem?_cons_succ]; rfl))
      (case ajt9 => (simp only [List.getElem?_toArray, List.getElem?_cons_zero, List.getElem?_cons_succ]; rfl))
      (case cit9 => kernel_rfl)
      (case cjt9 => kernel_rfl)
      case hit9 =>
        go_simp
        refine (joiner_b seed _ _ _).mono ?_
        rintro e y1 ⟨rfl, hj1, hj2, hjz, hd⟩
        refine hK1 _ _ (hS.keep hd) (fun hS1 => ?_)
        clear hK1 K1
        have HJ := Lib.hid (And.intro hj1 (And.intro hj2 (And.intro hjz (And.intro hd hS1))))
        clear hj1 hj2 hjz hd hS
        refine held_one (i := 3) (oi := ?ot3) (by kernel_rfl) ?at3 ?ct3 (fun K3 hK3 => ?_)
        (case at3 => (simp only [List.getElem?_toArray, List.getElem?_cons_zero, List.getElem?_cons_succ]; rfl))
        (case ct3 => kernel_rfl)
        have hSb := hS1
        go_simp
        refine hK3 _ _ (hS1.keep ((Below.refl _ _).alloc (Nat.le_refl _) _)) (fun hS3 => ?_)
        clear hK3 K3
        (refine held_take (i := 4) (oi := ?ot4) (v := ?vt4) ?at4 (by kernel_rfl) (by kernel_rfl) (by kernel_rfl) ?bt4 ?ct4 ?dt4 (by assumption) ?rt4; (case at4 => (simp only [List.getElem?_toArray, List.getElem?_cons_zero, List.getElem?_cons_succ]; rfl)); (case bt4 => exact fun _ _ _ h => h); (case ct4 => kernel_rfl); (case dt4 => (intro W hW; (try dsimp only at hW); go_split_ands; go_simp; (try with_reducible rfl))); (case' rt4 => simp only [Act.put, List.setIfInBounds_toArray, List.set_cons_zero, List.set_cons_succ]))
        refine held_one (i := 5) (oi := ?ot5) (by kernel_rfl) ?at5 ?ct5 (fun K5 hK5 => ?_)
        (case at5 => (simp only [List.getElem?_toArray, List.getElem?_cons_zero, List.getElem?_cons_succ]; rfl))
        (case ct5 => kernel_rfl)
        refine ow_store 30 _ _ rfl _ rfl _ rfl (run_store_arr (Arr.new y1 _ _ _) (bys leaf) info26 (bys_one _ _)) ?_
        have hvy : V.heap.size ≤ y1.heap.size := (show Below _ _ _ from HJ.out.2.2.2.2).size
        refine hK5 _ _ (below_row hS3 hvy _) (fun hS5 => ?_)
        clear hK5 K5
        refine wpAnyH_done (by kernel_rfl) ?_ _
        go_wp2_with fail
        go_meet
        have hvd : V.drew.heap.size = V.heap.size := rfl
        have hl1 := HJ.out.1.lt
        have hl2 := HJ.out.2.1.lt
        case rel => exact ⟨V.heap.size, V.heap.size + 1, y1.heap.size, rfl, rfl, rfl, Lib.hid ⟨(HJ.out.1.alloc _).rowFar (by omega) _, (HJ.out.2.1.alloc _).rowFar (by omega) _, (Arr.new y1 _ _ _).row _, hS5, Nat.le_refl _, by omega, hvy, by omega, by omega⟩⟩
      case hjt9 =>
        have hSb := hS
        go_simp
        refine hK3 _ _ (hS.keep ((Below.refl _ _).alloc (Nat.le_refl _) _)) (fun hS3 => ?_)
        clear hK3 K3
        refine held_one (i := 1) (oi := ?ot6) (by kernel_rfl) ?at6 ?ct6 (fun K1 hK1 => ?_)
        (case at6 => (simp only [List.getElem?_toArray, List.getElem?_cons_zero, List.getElem?_cons_succ]; rfl))
        (case ct6 => kernel_rfl)
        go_simp
        refine (joiner_b seed _ _ _).mono ?_
        rintro e y1 ⟨rfl, hj1, hj2, hjz, hd⟩
        refine hK1 _ _ (hS3.keep hd) (fun hS1 => ?_)
        clear hK1 K1
        have HJ := Lib.hid (And.intro (show Arr y1 (V.heap.size + 1) 30 32 (bys seed) by simpa using hj1) (And.intro (show Blk y1 (V.heap.size + 1 + 1) 106 #[(.func (.func 63) #[] #[])] by simpa using hj2) (And.intro hjz (And.intro hd hS1))))
        clear hj1 hj2 hjz hd hS hS3
        (refine held_take (i := 4) (oi := ?ot7) (v := ?vt7) ?at7 (by kernel_rfl) (by kernel_rfl) (by kernel_rfl) ?bt7 ?ct7 ?dt7 (by assumption) ?rt7; (case at7 => (simp only [List.getElem?_toArray, List.getElem?_cons_zero, List.getElem?_cons_succ]; rfl)); (case bt7 => exact fun _ _ _ h => h); (case ct7 => kernel_rfl); (case dt7 => (intro W hW; (try dsimp only at hW); go_split_ands; go_simp; (try with_reducible rfl))); (case' rt7 => simp only [Act.put, List.setIfInBounds_toArray, List.set_cons_zero, List.set_cons_succ]))
        refine held_one (i := 5) (oi := ?ot8) (by kernel_rfl) ?at8 ?ct8 (fun K5 hK5 => ?_)
        (case at8 => (simp only [List.getElem?_toArray, List.getElem?_cons_zero, List.getElem?_cons_succ]; rfl))
        (case ct8 => kernel_rfl)
        have hN : Arr y1 V.heap.size 30 32 (bys zb) := (Arr.new V.drew _ _ _).under HJ.out.2.2.2.1
        refine ow_store 30 _ _ rfl _ rfl _ rfl (run_store_arr hN (bys leaf) info26 (bys_one _ _)) ?_
        refine hK5 _ _ (below_row hS1 (Nat.le_refl _) _) (fun hS5 => ?_)
        clear hK5 K5
        refine wpAnyH_done (by kernel_rfl) ?_ _
        go_wp2_with fail
        go_meet
        case rel => exact ⟨V.heap.size + 1, V.heap.size + 1 + 1, V.heap.size, rfl, rfl, rfl, Lib.hid ⟨HJ.out.1.rowFar (by omega) _, HJ.out.2.1.rowFar (by omega) _, hN.row _, hS5, by omega, by omega, Nat.le_refl _, by omega, by omega⟩⟩
    case rest =>
      rename_i wc
      obtain ⟨gs, gp, gn, rfl, rfl, rfl, hI⟩ := hcut
      go_wp2
      go_loopw [23] (fun j W => ∃ k : Nat, k ≤ auth.length ∧ j = .int .i64 k ∧ Hid (RI V gs gp gn seed (rootK (joinR seed 2 0) idx auth leaf k) W)) (fun j _ => auth.length - (intOf j).toNat)
      case atStart => exact ⟨0, Nat.zero_le _, rfl, Lib.hid hI.out⟩
      case round =>
        obtain ⟨k, hk, rfl, hR⟩ := hrel
        by_cases hlt : k < auth.length
        · have hltI : (k : Int) < (auth.length : Int) := by omega
          have hBr := HA.out.2.2.2.1.trans ((show Below V.heap.size V wr from hR.out.b).mono HA.out.2.2.2.1.size)
          obtain ⟨a, p, rfl, hp, hpb, hpc⟩ := (HR.out.below hBr).at hlt
          obtain ⟨x, hx⟩ : ∃ x, x = auth.getD k zb := ⟨_, rfl⟩
          have hpc' : ∀ i, i < 32 → wr.cell? (p.add i) = some (bys x i) := fun i hi => by
            rw [hpc i hi, hx, List.getD_eq_getElem?_getD, List.getElem?_eq_getElem hlt]; rfl
          obtain ⟨nd, hnd⟩ : ∃ nd, nd = rootK (joinR seed 2 0) idx auth leaf k := ⟨_, rfl⟩
          rw [← hnd] at hR
          have HX := Lib.hid (And.intro hx hnd)
          have HC := Lib.hid hpc'
          clear hpc hpc' hx hnd hBr
          go_upto_region 7 with (first
            | ((with_reducible show wpList _ _ _ (Oper.mk _ (.load _ _) _ _ _ _ :: _) _ _); refine wl_load_p rfl 30 _ rfl p rfl _ (load_p HC.out) ?_)
            | ((with_reducible show wpList _ _ _ (Oper.mk _ (.store _ _ _) _ _ _ _ :: _) _ _); refine wl_store rfl 30 _ _ rfl _ rfl _ rfl (run_store_arr (Arr.new wr _ _ _) (bys x) info26 (bys_one _ _)) ?_))
          obtain ⟨g1, hg1⟩ : ∃ g, g = wr.heap.size := ⟨_, rfl⟩
          obtain ⟨W1, hW1⟩ : ∃ W1, W1 = (wr.alloc (.cells (vec 32 (bys zb)) 30)).setRow wr.heap.size (vec 32 (bys x)) := ⟨_, rfl⟩
          have hb1 : Below wr.heap.size wr W1 := by rw [hW1]; exact below_row ((Below.refl _ _).alloc (Nat.le_refl _) _) (Nat.le_refl _) _
          have ho1 : Arr W1 g1 30 32 (bys x) := by rw [hW1, hg1]; exact (Arr.new wr _ _ _).row _
          rw [← hW1, ← hg1]
          have HI := Lib.hid (And.intro (hR.out.keep hb1) ho1)
          clear hW1 hg1 hb1 ho1 hR HC
          go_upto_region 8 with (first
            | ((with_reducible show wpList _ _ _ (Oper.mk _ (.load _ (.tmp 10)) _ _ _ _ :: _) _ _); refine wl_load rfl 30 _ rfl _ rfl _ (run_load_arr HI.out.1.n Tryz.underlying30 rfl info26) ?_)
            | ((with_reducible show wpList _ _ _ (Oper.mk _ (.load _ (.tmp 12)) _ _ _ _ :: _) _ _); refine wl_load rfl 30 _ rfl _ rfl _ (run_load_arr HI.out.2 Tryz.underlying30 rfl info26) ?_)
            | ((with_reducible show wpList _ _ _ (Oper.mk _ (.build _ _) _ _ _ _ :: _) _ _); refine wl_build rfl 108 _ rfl (vec 64 (prV nd x)) (by kernel_rfl) ?_)
            | ((with_reducible show wpList _ _ _ (Oper.mk _ (.store _ _ _) _ _ _ _ :: _) _ _); refine wl_store rfl 108 _ _ rfl _ rfl _ rfl (run_store_arr (Arr.new W1 _ _ _) (prV nd x) infoPr (prV_one _ _ _)) ?_))
          obtain ⟨g2, hg2⟩ : ∃ g, g = W1.heap.size := ⟨_, rfl⟩
          obtain ⟨W2, hW2⟩ : ∃ W2, W2 = (W1.alloc (.cells (vec 64 (prV zb zb)) 108)).setRow W1.heap.size (vec 64 (prV nd x)) := ⟨_, rfl⟩
          have hb2 : Below W1.heap.size W1 W2 := by rw [hW2]; exact below_row ((Below.refl _ _).alloc (Nat.le_refl _) _) (Nat.le_refl _) _
          have ho2 : Arr W2 g2 108 64 (prV nd x) := by rw [hW2, hg2]; exact (Arr.new W1 _ _ _).row _
          have hg12 : g1 ≠ g2 := by have := HI.out.2.lt; omega
          have hgn2 : gn ≠ g2 := by have := HI.out.1.n.lt; omega
          have hgs2 : gs ≠ g2 := by have := HI.out.1.s.lt; omega
          have hgp2 : gp ≠ g2 := by have := HI.out.1.p.lt; omega
          rw [← hW2, ← hg2]
          have HI2 := Lib.hid (And.intro (HI.out.1.keep hb2) (And.intro (HI.out.2.under hb2) (And.intro ho2 (show V.heap.size ≤ g2 by have := (show Below _ _ _ from HI.out.1.b).size; omega))))
          have HG := Lib.hid (And.intro hg12 (And.intro hgn2 (And.intro hgs2 hgp2)))
          clear hW2 hg2 hb2 ho2 hg12 hgn2 hgs2 hgp2 HI
          have hbit : bits .and .u32 ((idx : Int) / 2 ^ k) 1 = ((idx / 2 ^ k % 2 : Nat) : Int) := by
            have e : (idx : Int) / 2 ^ k = ((idx / 2 ^ k : Nat) : Int) := by rw [Int.natCast_ediv, Int.natCast_pow]; rfl
            rw [e]; exact and1_u32 _ (Nat.lt_of_le_of_lt (Nat.div_le_self _ _) hidx)
          obtain ⟨i1, hi1⟩ : ∃ i1, i1 = idx / 2 ^ (k + 1) := ⟨_, rfl⟩
          have hi1l : i1 < 4294967296 := by rw [hi1]; exact Nat.lt_of_le_of_lt (Nat.div_le_self _ _) hidx
          obtain ⟨k1, hk1⟩ : ∃ k1, k1 = k + 1 := ⟨_, rfl⟩
          have hsh : (idx : Int) / 2 ^ k1 = (i1 : Int) := by rw [hi1, hk1, Int.natCast_ediv, Int.natCast_pow]; rfl
          have hw1 : IntKind.i64.wrap ((k : Int) + 1) = (k1 : Int) := by rw [IntKind.wrap_i64]; omega
          have hkm : min k1 32 = k1 := by omega
          have HI1 : Hid (i1 = idx / 2 ^ (k + 1)) := Lib.hid hi1
          have HK1 := Lib.hid hk1
          clear hi1 hk1
          by_cases hb : idx / 2 ^ k % 2 = 1
          · rw [hb] at hbit
            have HRS : Hid (joinR seed 2 0 k i1 x nd = rootK (joinR seed 2 0) idx auth leaf (k + 1)) := Lib.hid (by rw [rootK_succ, if_pos hb, HX.out.1, HX.out.2, HI1.out])
            go_upto_region 10 with (first
              | ((with_reducible show wpList _ _ _ (Oper.mk _ (.load _ (.tmp 10)) _ _ _ _ :: _) _ _); refine wl_load rfl 30 _ rfl _ rfl _ (run_load_arr HI2.out.1.n Tryz.underlying30 rfl info26) ?_)
              | ((with_reducible show wpList _ _ _ (Oper.mk _ (.load _ (.tmp 12)) _ _ _ _ :: _) _ _); refine wl_load rfl 30 _ rfl _ rfl _ (run_load_arr HI2.out.2.1 Tryz.underlying30 rfl info26) ?_)
              | ((with_reducible show wpList _ _ _ (Oper.mk _ (.build _ _) _ _ _ _ :: _) _ _); refine wl_build rfl 108 _ rfl (vec 64 (prV x nd)) (by kernel_rfl) ?_)
              | ((with_reducible show wpList _ _ _ (Oper.mk _ (.store _ _ _) _ _ _ _ :: _) _ _); refine wl_store rfl 108 _ _ rfl _ rfl _ rfl (run_store_arr HI2.out.2.2.1 (prV x nd) infoPr (prV_one _ _ _)) ?_))
            obtain ⟨W3, hW3⟩ : ∃ W3, W3 = W2.setRow g2 (vec 64 (prV x nd)) := ⟨_, rfl⟩
            have hI3 : RI V gs gp gn seed nd W3 := by
              rw [hW3]
              exact ⟨HI2.out.1.s.rowFar HG.out.2.2.1 _, HI2.out.1.p.rowFar HG.out.2.2.2 _, HI2.out.1.n.rowFar HG.out.2.1 _, below_row HI2.out.1.b HI2.out.2.2.2 _, HI2.out.1.ds, HI2.out.1.dp, HI2.out.1.dn, HI2.out.1.ns, HI2.out.1.np⟩
            have HP3 : Hid (Arr W3 g2 108 64 (prV x nd)) := Lib.hid (by rw [hW3]; exact HI2.out.2.2.1.row _)
            have HI3 := Lib.hid hI3
            rw [← hW3]
            clear hW3 hI3 hbit
            have hwn : IntKind.u32.wrap (k : Int) = (k : Int) := by rw [IntKind.wrap_u32']; omega
            have HTw := Lib.hid (tabs_below HT.out (HA.out.2.2.2.1.trans ((show Below V.heap.size V W3 from HI3.out.b).mono HA.out.2.2.2.1.size)))
            have HF := Lib.hid (show gn ≠ 1 ∧ gn ≠ 0 from tabs_far HT.out (by have := HI3.out.dn; have := HA.out.2.2.2.1.size; omega))
            refine wp_region_held_drew (S := fun Y => SR W3 gn Y) (by kernel_rfl) (SR.begin HI3.out.n) (fun hS => ?_)
            (refine held_take (i := 0) (oi := ?ot10) (v := ?vt10) ?at10 (by kernel_rfl) (by kernel_rfl) (by kernel_rfl) ?bt10 ?ct10 ?dt10 (by assumption) ?rt10; (case at10 => (simp only [List.getElem?_toArray, List.getElem?_cons_zero]; rfl)); (case bt10 => exact fun _ _ _ h => h); (case ct10 => kernel_rfl); (case dt10 => (intro W hW; (try dsimp only at hW); go_split_ands; go_simp; (try with_reducible rfl))); (case' rt10 => simp only [Act.put, List.setIfInBounds_toArray, List.set_cons_zero, List.set_cons_succ]))
            (refine held_take (i := 1) (oi := ?ot11) (v := ?vt11) ?at11 (by kernel_rfl) (by kernel_rfl) (by kernel_rfl) ?bt11 ?ct11 ?dt11 (by assumption) ?rt11; (case at11 => (simp only [List.getElem?_toArray, List.getElem?_cons_zero, List.getElem?_cons_succ]; rfl)); (case bt11 => exact fun _ _ _ h => h); (case ct11 => kernel_rfl); (case dt11 => (intro W hW; (try dsimp only at hW); go_split_ands; go_simp; (try with_reducible rfl))); (case' rt11 => simp only [Act.put, List.setIfInBounds_toArray, List.set_cons_zero, List.set_cons_succ]))
            (refine held_take (i := 2) (oi := ?ot12) (v := ?vt12) ?at12 (by kernel_rfl) (by kernel_rfl) (by kernel_rfl) ?bt12 ?ct12 ?dt12 (by assumption) ?rt12; (case at12 => (simp only [List.getElem?_toArray, List.getElem?_cons_zero, List.getElem?_cons_succ]; rfl)); (case bt12 => exact fun _ _ _ h => h); (case ct12 => kernel_rfl); (case dt12 => (intro W hW; (try dsimp only at hW); go_split_ands; go_simp; (try with_reducible rfl))); (case' rt12 => simp only [Act.put, List.setIfInBounds_toArray, List.set_cons_zero, List.set_cons_succ]))
            (refine held_take (i := 3) (oi := ?ot13) (v := ?vt13) ?at13 (by kernel_rfl) (by kernel_rfl) (by kernel_rfl) ?bt13 ?ct13 ?dt13 (by assumption) ?rt13; (case at13 => (simp only [List.getElem?_toArray, List.getElem?_cons_zero, List.getElem?_cons_succ]; rfl)); (case bt13 => exact fun _ _ _ h => h); (case ct13 => kernel_rfl); (case dt13 => (intro W hW; (try dsimp only at hW); go_split_ands; go_simp; (try with_reducible rfl))); (case' rt13 => simp only [Act.put, List.setIfInBounds_toArray, List.set_cons_zero, List.set_cons_succ]))
            (refine held_take (i := 4) (oi := ?ot14) (v := ?vt14) ?at14 (by kernel_rfl) (by kernel_rfl) (by kernel_rfl) ?bt14 ?ct14 ?dt14 (by assumption) ?rt14; (case at14 => (simp only [List.getElem?_toArray, List.getElem?_cons_zero, List.getElem?_cons_succ]; rfl)); (case bt14 => exact fun _ _ _ h => h); (case ct14 => kernel_rfl); (case dt14 => (intro W hW; (try dsimp only at hW); go_split_ands; go_simp; (try with_reducible rfl))); (case' rt14 => simp only [Act.put, List.setIfInBounds_toArray, List.set_cons_zero, List.set_cons_succ]))
            (refine held_take (i := 5) (oi := ?ot15) (v := ?vt15) ?at15 (by kernel_rfl) (by kernel_rfl) (by kernel_rfl) ?bt15 ?ct15 ?dt15 (by assumption) ?rt15; (case at15 => (simp only [List.getElem?_toArray, List.getElem?_cons_zero, List.getElem?_cons_succ]; rfl)); (case bt15 => exact fun _ _ _ h => h); (case ct15 => kernel_rfl); (case dt15 => (intro W hW; (try dsimp only at hW); go_split_ands; go_simp; (try with_reducible rfl))); (case' rt15 => simp only [Act.put, List.setIfInBounds_toArray, List.set_cons_zero, List.set_cons_succ]))
            (refine held_take (i := 6) (oi := ?ot16) (v := ?vt16) ?at16 (by kernel_rfl) (by kernel_rfl) (by kernel_rfl) ?bt16 ?ct16 ?dt16 (by assumption) ?rt16; (case at16 => (simp only [List.getElem?_toArray, List.getElem?_cons_zero, List.getElem?_cons_succ]; rfl)); (case bt16 => exact fun _ _ _ h => h); (case ct16 => kernel_rfl); (case dt16 => (intro W hW; (try dsimp only at hW); go_split_ands; go_simp; (try with_reducible rfl))); (case' rt16 => simp only [Act.put, List.setIfInBounds_toArray, List.set_cons_zero, List.set_cons_succ]))
            (refine held_take (i := 7) (oi := ?ot17) (v := .agg (vec 64 (prV x nd))) ?at17 (by kernel_rfl) (by kernel_rfl) (by kernel_rfl) ?bt17 ?ct17 ?dt17 (by assumption) ?rt17; (case at17 => (simp only [List.getElem?_toArray, List.getElem?_cons_zero, List.getElem?_cons_succ]; rfl)); (case bt17 => exact fun _ _ _ h => h); (case ct17 => kernel_rfl); (case dt17 => (intro W hW; exact exec_load 108 _ rfl _ rfl _ (run_load_arr (hW.arr HP3.out (Ne.symm HG.out.2.1)) Tryz.underlying108 rfl infoPr))); (case' rt17 => simp only [Act.put, List.setIfInBounds_toArray, List.set_cons_zero, List.set_cons_succ]))
            refine held_one (i := 8) (oi := ?ot18) (by kernel_rfl) ?at18 ?ct18 (fun K8 hK8 => ?_)
            (case at18 => (simp only [List.getElem?_toArray, List.getElem?_cons_zero, List.getElem?_cons_succ]; rfl))
            (case ct18 => kernel_rfl)
            go_simp
            refine (join1_any seed 2 0 k i1 ⟨by decide, by decide, by decide, by decide, by omega, hi1l, by decide⟩ x nd gs gp 63 #[] (fun _ _ => rfl) _ (hS.arr HI3.out.s HI3.out.ns) (hS.blk HI3.out.p HI3.out.np) (hS.tabs HTw.out HF.out.1 HF.out.2) (fun Y _ => tree_any k i1 Y)).mono ?_
            rintro e y8 ⟨rfl, hd⟩
            refine hK8 _ _ (hS.keep hd) (fun hS8 => ?_)
            clear hS hd hK8 K8
            refine held_one (i := 9) (oi := ?ot19) (by kernel_rfl) ?at19 ?ct19 (fun K9 hK9 => ?_)
            (case at19 => (simp only [List.getElem?_toArray, List.getElem?_cons_zero, List.getElem?_cons_succ]; rfl))
            (case ct19 => kernel_rfl)
            obtain ⟨f0, hf0⟩ := hS8.res
            refine ow_store 30 _ _ rfl _ rfl _ rfl (run_store_arr hf0 (bys (joinR seed 2 0 k i1 x nd)) info26 (bys_one _ _)) ?_
            refine hK9 _ _ (hS8.put _) (fun hS9 => ?_)
            clear hK9 K9
            refine wpAnyH_done (by kernel_rfl) ?_ _
            have HN : Hid (RI V gs gp gn seed (rootK (joinR seed 2 0) idx auth leaf (k + 1)) _) := Lib.hid ⟨hS9.arr HI3.out.s HI3.out.ns, hS9.blk HI3.out.p HI3.out.np, by rw [← HRS.out]; exact hf0.row _, Below.trans HI3.out.b (hS9.save.below HI3.out.dn (show Below _ _ _ from HI3.out.b).size), HI3.out.ds, HI3.out.dp, HI3.out.dn, HI3.out.ns, HI3.out.np⟩
            clear hf0 hS9
            go_wp2
            go_roundw
            case rel => exact ⟨k1, by have := HK1.out; omega, rfl, Lib.hid (by rw [HK1.out]; exact HN.out)⟩
            case measure => have := HK1.out; simp [intOf]; omega
          · have hbit0 : idx / 2 ^ k % 2 = 0 := by omega
            rw [hbit0] at hbit
            have HRS : Hid (joinR seed 2 0 k i1 nd x = rootK (joinR seed 2 0) idx auth leaf (k + 1)) := Lib.hid (by rw [rootK_succ, if_neg hb, HX.out.1, HX.out.2, HI1.out])
            have HP3 := Lib.hid HI2.out.2.2.1
            have HI3 := Lib.hid HI2.out.1
            go_upto_region 10 with fail
            have hwn : IntKind.u32.wrap (k : Int) = (k : Int) := by rw [IntKind.wrap_u32']; omega
            have HTw := Lib.hid (tabs_below HT.out (HA.out.2.2.2.1.trans ((show Below V.heap.size V W2 from HI3.out.b).mono HA.out.2.2.2.1.size)))
            have HF := Lib.hid (show gn ≠ 1 ∧ gn ≠ 0 from tabs_far HT.out (by have := HI3.out.dn; have := HA.out.2.2.2.1.size; omega))
            refine wp_region_held_drew (S := fun Y => SR W2 gn Y) (by kernel_rfl) (SR.begin HI3.out.n) (fun hS => ?_)
            (refine held_take (i := 0) (oi := ?ot20) (v := ?vt20) ?at20 (by kernel_rfl) (by kernel_rfl) (by kernel_rfl) ?bt20 ?ct20 ?dt20 (by assumption) ?rt20; (case at20 => (simp only [List.getElem?_toArray, List.getElem?_cons_zero]; rfl)); (case bt20 => exact fun _ _ _ h => h); (case ct20 => kernel_rfl); (case dt20 => (intro W hW; (try dsimp only at hW); go_split_ands; go_simp; (try with_reducible rfl))); (case' rt20 => simp only [Act.put, List.setIfInBounds_toArray, List.set_cons_zero, List.set_cons_succ]))
            (refine held_take (i := 1) (oi := ?ot21) (v := ?vt21) ?at21 (by kernel_rfl) (by kernel_rfl) (by kernel_rfl) ?bt21 ?ct21 ?dt21 (by assumption) ?rt21; (case at21 => (simp only [List.getElem?_toArray, List.getElem?_cons_zero, List.getElem?_cons_succ]; rfl)); (case bt21 => exact fun _ _ _ h => h); (case ct21 => kernel_rfl); (case dt21 => (intro W hW; (try dsimp only at hW); go_split_ands; go_simp; (try with_reducible rfl))); (case' rt21 => simp only [Act.put, List.setIfInBounds_toArray, List.set_cons_zero, List.set_cons_succ]))
            (refine held_take (i := 2) (oi := ?ot22) (v := ?vt22) ?at22 (by kernel_rfl) (by kernel_rfl) (by kernel_rfl) ?bt22 ?ct22 ?dt22 (by assumption) ?rt22; (case at22 => (simp only [List.getElem?_toArray, List.getElem?_cons_zero, List.getElem?_cons_succ]; rfl)); (case bt22 => exact fun _ _ _ h => h); (case ct22 => kernel_rfl); (case dt22 => (intro W hW; (try dsimp only at hW); go_split_ands; go_simp; (try with_reducible rfl))); (case' rt22 => simp only [Act.put, List.setIfInBounds_toArray, List.set_cons_zero, List.set_cons_succ]))
            (refine held_take (i := 3) (oi := ?ot23) (v := ?vt23) ?at23 (by kernel_rfl) (by kernel_rfl) (by kernel_rfl) ?bt23 ?ct23 ?dt23 (by assumption) ?rt23; (case at23 => (simp only [List.getElem?_toArray, List.getElem?_cons_zero, List.getElem?_cons_succ]; rfl)); (case bt23 => exact fun _ _ _ h => h); (case ct23 => kernel_rfl); (case dt23 => (intro W hW; (try dsimp only at hW); go_split_ands; go_simp; (try with_reducible rfl))); (case' rt23 => simp only [Act.put, List.setIfInBounds_toArray, List.set_cons_zero, List.set_cons_succ]))
            (refine held_take (i := 4) (oi := ?ot24) (v := ?vt24) ?at24 (by kernel_rfl) (by kernel_rfl) (by kernel_rfl) ?bt24 ?ct24 ?dt24 (by assumption) ?rt24; (case at24 => (simp only [List.getElem?_toArray, List.getElem?_cons_zero, List.getElem?_cons_succ]; rfl)); (case bt24 => exact fun _ _ _ h => h); (case ct24 => kernel_rfl); (case dt24 => (intro W hW; (try dsimp only at hW); go_split_ands; go_simp; (try with_reducible rfl))); (case' rt24 => simp only [Act.put, List.setIfInBounds_toArray, List.set_cons_zero, List.set_cons_succ]))
            (refine held_take (i := 5) (oi := ?ot25) (v := ?vt25) ?at25 (by kernel_rfl) (by kernel_rfl) (by kernel_rfl) ?bt25 ?ct25 ?dt25 (by assumption) ?rt25; (case at25 => (simp only [List.getElem?_toArray, List.getElem?_cons_zero, List.getElem?_cons_succ]; rfl)); (case bt25 => exact fun _ _ _ h => h); (case ct25 => kernel_rfl); (case dt25 => (intro W hW; (try dsimp only at hW); go_split_ands; go_simp; (try with_reducible rfl))); (case' rt25 => simp only [Act.put, List.setIfInBounds_toArray, List.set_cons_zero, List.set_cons_succ]))
            (refine held_take (i := 6) (oi := ?ot26) (v := ?vt26) ?at26 (by kernel_rfl) (by kernel_rfl) (by kernel_rfl) ?bt26 ?ct26 ?dt26 (by assumption) ?rt26; (case at26 => (simp only [List.getElem?_toArray, List.getElem?_cons_zero, List.getElem?_cons_succ]; rfl)); (case bt26 => exact fun _ _ _ h => h); (case ct26 => kernel_rfl); (case dt26 => (intro W hW; (try dsimp only at hW); go_split_ands; go_simp; (try with_reducible rfl))); (case' rt26 => simp only [Act.put, List.setIfInBounds_toArray, List.set_cons_zero, List.set_cons_succ]))
            (refine held_take (i := 7) (oi := ?ot27) (v := .agg (vec 64 (prV nd x))) ?at27 (by kernel_rfl) (by kernel_rfl) (by kernel_rfl) ?bt27 ?ct27 ?dt27 (by assumption) ?rt27; (case at27 => (simp only [List.getElem?_toArray, List.getElem?_cons_zero, List.getElem?_cons_succ]; rfl)); (case bt27 => exact fun _ _ _ h => h); (case ct27 => kernel_rfl); (case dt27 => (intro W hW; exact exec_load 108 _ rfl _ rfl _ (run_load_arr (hW.arr HP3.out (Ne.symm HG.out.2.1)) Tryz.underlying108 rfl infoPr))); (case' rt27 => simp only [Act.put, List.setIfInBounds_toArray, List.set_cons_zero, List.set_cons_succ]))
            refine held_one (i := 8) (oi := ?ot28) (by kernel_rfl) ?at28 ?ct28 (fun K8 hK8 => ?_)
            (case at28 => (simp only [List.getElem?_toArray, List.getElem?_cons_zero, List.getElem?_cons_succ]; rfl))
            (case ct28 => kernel_rfl)
            go_simp
            refine (join1_any seed 2 0 k i1 ⟨by decide, by decide, by decide, by decide, by omega, hi1l, by decide⟩ nd x gs gp 63 #[] (fun _ _ => rfl) _ (hS.arr HI3.out.s HI3.out.ns) (hS.blk HI3.out.p HI3.out.np) (hS.tabs HTw.out HF.out.1 HF.out.2) (fun Y _ => tree_any k i1 Y)).mono ?_
            rintro e y8 ⟨rfl, hd⟩
            refine hK8 _ _ (hS.keep hd) (fun hS8 => ?_)
            clear hS hd hK8 K8
            refine held_one (i := 9) (oi := ?ot29) (by kernel_rfl) ?at29 ?ct29 (fun K9 hK9 => ?_)
            (case at29 => (simp only [List.getElem?_toArray, List.getElem?_cons_zero, List.getElem?_cons_succ]; rfl))
            (case ct29 => kernel_rfl)
            obtain ⟨f0, hf0⟩ := hS8.res
            refine ow_store 30 _ _ rfl _ rfl _ rfl (run_store_arr hf0 (bys (joinR seed 2 0 k i1 nd x)) info26 (bys_one _ _)) ?_
            refine hK9 _ _ (hS8.put _) (fun hS9 => ?_)
            clear hK9 K9
            refine wpAnyH_done (by kernel_rfl) ?_ _
            have HN : Hid (RI V gs gp gn seed (rootK (joinR seed 2 0) idx auth leaf (k + 1)) _) := Lib.hid ⟨hS9.arr HI3.out.s HI3.out.ns, hS9.blk HI3.out.p HI3.out.np, by rw [← HRS.out]; exact hf0.row _, Below.trans HI3.out.b (hS9.save.below HI3.out.dn (show Below _ _ _ from HI3.out.b).size), HI3.out.ds, HI3.out.dp, HI3.out.dn, HI3.out.ns, HI3.out.np⟩
            clear hf0 hS9
            go_wp2
            go_roundw
            case rel => exact ⟨k1, by have := HK1.out; omega, rfl, Lib.hid (by rw [HK1.out]; exact HN.out)⟩
            case measure => have := HK1.out; simp [intOf]; omega
        · obtain rfl : k = auth.length := by omega
          have hltI : ¬ ((auth.length : Int) < (auth.length : Int)) := by omega
          have hR2 : Arr wr (w.heap.size + 2) 30 32 (bys zb) := HA.out.2.2.1.under hR.out.b
          go_wp2_with (first
            | ((with_reducible show wpList _ _ _ (Oper.mk _ (.load _ _) _ _ _ _ :: _) _ _); refine wl_load rfl 30 _ rfl _ rfl _ (run_load_arr hR.out.n Tryz.underlying30 rfl info26) ?_)
            | ((with_reducible show wpList _ _ _ (Oper.mk _ (.store _ _ _) _ _ _ _ :: _) _ _); refine wl_store rfl 30 _ _ rfl _ rfl _ rfl (run_store_arr hR2 (bys (rootK (joinR seed 2 0) idx auth leaf auth.length)) info26 (bys_one _ _)) ?_))
          exact bodyPost_ret (results_cell1 rfl _ _ _ rfl (run_load_arr (hR2.row _) Tryz.underlying30 rfl info26)) rfl ⟨by rw [HP.out], below_row (HA.out.2.2.2.1.trans ((show Below V.heap.size V wr from hR.out.b).mono HA.out.2.2.2.1.size)) (by omega) _⟩
  · have t1 : (32 : Int) < (auth.length : Int) := by omega
    go_wp2_with (first
      | ((with_reducible show wpList _ _ _ (Oper.mk _ (.build _ _) _ _ _ _ :: _) _ _); refine wl_build rfl 30 _ rfl (vec 32 (bys zb)) (by kernel_rfl) ?_)
      | ((with_reducible show wpList _ _ _ (Oper.mk _ (.store _ _ _) _ _ _ _ :: _) _ _); refine wl_store rfl 30 _ _ rfl _ rfl _ rfl (run_store_arr HA.out.2.2.1 (bys zb) info26 (bys_one _ _)) ?_))
    exact bodyPost_ret (results_cell1 rfl _ _ _ rfl (run_load_arr (HA.out.2.2.1.row _) Tryz.underlying30 rfl info26)) rfl ⟨by unfold rootD; rw [if_neg hlen], below_row HA.out.2.2.2.1 (by omega) _⟩
end Go.Proofs.YtfeiplaiekbdkaaGreatDoor
/- The reference's Root. -/
namespace Go.Proofs.YtfeiplaiekbdkaaGreatDoor
open Go.RowKit
attribute [local go_sem ↓ high] zeroV26

/-- What the reference's loop keeps. -/
structure RJ (V : World) (gn : Nat) (x : Nat → UInt8) (W : World) : Prop where
  n : Arr W gn 30 32 (bys x)
  b : VS V W
  dn : V.heap.size ≤ gn
theorem RJ.keep {V W Z : World} {gn : Nat} {x : Nat → UInt8} (h : RJ V gn x W) (hd : Below W.heap.size W Z) : RJ V gn x Z := ⟨h.n.under hd, h.b.keep hd, h.dn⟩
set_option maxHeartbeats 2000000 in
set_option maxRecDepth 100000 in
theorem rroot_any (leaf : Nat → UInt8) (idx : Nat) (hidx : idx < 4294967296) (A : Option Addr) (cap : Nat) (auth : List Nd) (seed : Nat → UInt8) (w : World) (hr : NRow w w.heap.size A auth) (hT : Tabs w) :
    Calls Tryz.prog 21 #[.agg (vec 32 (bys leaf)), .int .u32 (idx : Int), .slice A auth.length cap, .agg (vec 32 (bys seed))] w fun e w' => e = .returned (.agg (vec 32 (bys (rootD leaf idx auth seed)))) ∧ Below w.heap.size w w' := by
  obtain ⟨V, hV⟩ : ∃ V, V = ((w.alloc (.cells (vec 32 (bys leaf)) 30)).alloc (.cells (vec 32 (bys seed)) 30)).alloc (.cells (vec 32 (bys zb)) 30) := ⟨_, rfl⟩
  have h0 : Arr V w.heap.size 30 32 (bys leaf) := by rw [hV]; exact ((Arr.newAt _ _ _ _ (by simp)).alloc _).alloc _
  have h1 : Arr V (w.heap.size + 1) 30 32 (bys seed) := by rw [hV]; exact (Arr.newAt _ _ _ _ (by simp)).alloc _
  have h2 : Arr V (w.heap.size + 2) 30 32 (bys zb) := by rw [hV]; exact Arr.newAt _ _ _ _ (by simp)
  have hB : Below w.heap.size w V := by rw [hV]; exact (((Below.refl _ _).alloc (by simp <;> omega) _).alloc (by simp <;> omega) _).alloc (by simp <;> omega) _
  have HA := Lib.hid (And.intro h0 (And.intro h1 (And.intro h2 hB)))
  have HT := Lib.hid hT
  have HR := Lib.hid hr
  have HW := Lib.hid hV
  clear hV h0 h1 h2 hB hT hr
  go_enter Tryz.func21, Tryz.ntmps21
  go_upto_region 1 with fail
  rw [← HW.out]
  clear HW
  by_cases hlen : auth.length ≤ 32
  · have t1 : ¬ (32 : Int) < (auth.length : Int) := by omega
    have HP : Hid (rootD leaf idx auth seed = rootK (joinR seed 2 0) idx auth leaf auth.length) := Lib.hid (if_pos hlen)
    go_upto_region 4 with (first
      | ((with_reducible show wpList _ _ _ (Oper.mk _ (.load _ _) _ _ _ _ :: _) _ _); refine wl_load rfl 30 _ rfl _ rfl _ (run_load_arr HA.out.1 Tryz.underlying30 rfl info26) ?_)
      | ((with_reducible show wpList _ _ _ (Oper.mk _ (.store _ _ _) _ _ _ _ :: _) _ _); refine wl_store rfl 30 _ _ rfl _ rfl _ rfl (run_store_arr (Arr.new V _ _ _) (bys leaf) info26 (bys_one _ _)) ?_))
    obtain ⟨gn, hgn⟩ : ∃ g, g = V.heap.size := ⟨_, rfl⟩
    obtain ⟨W0, hW0⟩ : ∃ W0, W0 = (V.alloc (.cells (vec 32 (bys zb)) 30)).setRow V.heap.size (vec 32 (bys leaf)) := ⟨_, rfl⟩
    have hI0 : RJ V gn leaf W0 := ⟨by rw [hW0, hgn]; exact (Arr.new V _ _ _).row _, by rw [hW0]; exact below_row ((Below.refl _ _).alloc (Nat.le_refl _) _) (Nat.le_refl _) _, by omega⟩
    rw [← hW0, ← hgn]
    have HI := Lib.hid hI0
    clear hW0 hgn hI0
    go_wp2
    go_loopw [19] (fun j W => ∃ k : Nat, k ≤ auth.length ∧ j = .int .i64 k ∧ Hid (RJ V gn (rootK (joinR seed 2 0) idx auth leaf k) W)) (fun j _ => auth.length - (intOf j).toNat)
    case atStart => exact ⟨0, Nat.zero_le _, rfl, Lib.hid HI.out⟩
    case round =>
      clear HI
      obtain ⟨k, hk, rfl, hR⟩ := hrel
      by_cases hlt : k < auth.length
      · have hltI : (k : Int) < (auth.length : Int) := by omega
        have hBr := HA.out.2.2.2.trans ((show Below V.heap.size V wr from hR.out.b).mono HA.out.2.2.2.size)
        obtain ⟨a, p, rfl, hp, hpb, hpc⟩ := (HR.out.below hBr).at hlt
        obtain ⟨x, hx⟩ : ∃ x, x = auth.getD k zb := ⟨_, rfl⟩
        have hpc' : ∀ i, i < 32 → wr.cell? (p.add i) = some (bys x i) := fun i hi => by
          rw [hpc i hi, hx, List.getD_eq_getElem?_getD, List.getElem?_eq_getElem hlt]; rfl
        obtain ⟨nd, hnd⟩ : ∃ nd, nd = rootK (joinR seed 2 0) idx auth leaf k := ⟨_, rfl⟩
        rw [← hnd] at hR
        have HX := Lib.hid (And.intro hx hnd)
        have HC := Lib.hid (And.intro hpc' (show p.block < V.heap.size from Nat.lt_of_lt_of_le hpb HA.out.2.2.2.size))
        have hwn : IntKind.u32.wrap (k : Int) = (k : Int) := by rw [IntKind.wrap_u32']; omega
        have hwu : IntKind.u64.wrap (idx : Int) = (idx : Int) := by rw [IntKind.wrap_u64]; omega
        obtain ⟨i1, hi1⟩ : ∃ i1, i1 = idx / 2 ^ (k + 1) := ⟨_, rfl⟩
        have hi1l : i1 < 4294967296 := by rw [hi1]; exact Nat.lt_of_le_of_lt (Nat.div_le_self _ _) hidx
        obtain ⟨k1, hk1⟩ : ∃ k1, k1 = k + 1 := ⟨_, rfl⟩
        have hsh : (idx : Int) / 2 ^ k1 = (i1 : Int) := by rw [hi1, hk1, Int.natCast_ediv, Int.natCast_pow]; rfl
        have hw1 : IntKind.i64.wrap ((k : Int) + 1) = (k1 : Int) := by rw [IntKind.wrap_i64]; omega
        have hkm : min k1 64 = k1 := by omega
        have hwi : IntKind.u32.wrap (i1 : Int) = (i1 : Int) := by rw [IntKind.wrap_u32']; omega
        have HI1 : Hid (i1 = idx / 2 ^ (k + 1)) := Lib.hid hi1
        have HK1 := Lib.hid hk1
        clear hi1 hk1 hpc hpc' hx hnd hBr
        go_upto_region 8 with fail
        obtain ⟨g1, hg1⟩ : ∃ g, g = wr.heap.size := ⟨_, rfl⟩
        obtain ⟨W1, hW1⟩ : ∃ W1, W1 = wr.alloc (.cells #[.int .u32 0, .int .u64 0, .int .u32 2, .int .u32 0, .int .u32 (k : Int), .int .u32 (i1 : Int), .int .u32 0] 86) := ⟨_, rfl⟩
        have hb1 : Below wr.heap.size wr W1 := by rw [hW1]; exact (Below.refl _ _).alloc (Nat.le_refl _) _
        have HD : Hid (Blk W1 g1 86 (adA 0 0 2 0 (k : Int) (i1 : Int) 0) ∧ g1 ≠ gn) := Lib.hid ⟨by rw [hW1]; exact Blk.new _ _ _ hg1, by have := hR.out.n.lt; omega⟩
        rw [← hW1, ← hg1]
        have HI := Lib.hid (hR.out.keep hb1)
        have HC1 : Hid ((∀ i, i < 32 → W1.cell? (p.add i) = some (bys x i)) ∧ p.block < V.heap.size) := Lib.hid ⟨fun i hi => (hb1.cell (by rw [addr_add_block]; have := HC.out.2; have := (show Below _ _ _ from hR.out.b).size; omega)).trans (HC.out.1 i hi), HC.out.2⟩
        have HTw := Lib.hid (tabs_below HT.out (HA.out.2.2.2.trans ((show Below V.heap.size V W1 from HI.out.b).mono HA.out.2.2.2.size)))
        have HF := Lib.hid (show gn ≠ 1 ∧ gn ≠ 0 from tabs_far HT.out (by have := HI.out.dn; have := HA.out.2.2.2.size; omega))
        have HS := Lib.hid (HA.out.2.1.under (show Below V.heap.size V W1 from HI.out.b))
        have HL : Hid (w.heap.size + 1 < V.heap.size ∧ V.heap.size ≤ W1.heap.size) := Lib.hid ⟨HA.out.2.1.lt, (show Below _ _ _ from HI.out.b).size⟩
        have HN0 : Hid (Arr W1.drew gn 30 32 (bys nd)) := Lib.hid (HI.out.n.drewN 1)
        clear hW1 hg1 hb1 hR HC
        have hbit : bits .and .u32 ((idx : Int) / 2 ^ k) 1 = ((idx / 2 ^ k % 2 : Nat) : Int) := by
          have e : (idx : Int) / 2 ^ k = ((idx / 2 ^ k : Nat) : Int) := by rw [Int.natCast_ediv, Int.natCast_pow]; rfl
          rw [e]; exact and1_u32 _ (Nat.lt_of_le_of_lt (Nat.div_le_self _ _) hidx)
        by_cases hb : idx / 2 ^ k % 2 = 1
        · rw [hb] at hbit
          have HRS : Hid (joinR seed 2 0 k i1 x nd = rootK (joinR seed 2 0) idx auth leaf (k + 1)) := Lib.hid (by rw [rootK_succ, if_pos hb, HX.out.1, HX.out.2, HI1.out])
          go_upto_region 10 with fail
          refine wp_region_held_drew (S := fun Y => SR W1 gn Y) (by kernel_rfl) (SR.begin HI.out.n) (fun hS => ?_)
          (refine held_take (i := 0) (oi := ?ot1) (v := ?vt1) ?at1 (by kernel_rfl) (by kernel_rfl) (by kernel_rfl) ?bt1 ?ct1 ?dt1 (by assumption) ?rt1; (case at1 => (simp only [List.getElem?_toArray, List.getElem?_cons_zero]; rfl)); (case bt1 => exact fun _ _ _ h => h); (case ct1 => kernel_rfl); (case dt1 => (intro W hW; (try dsimp only at hW); go_split_ands; go_simp; (try with_reducible rfl))); (case' rt1 => simp only [Act.put, List.setIfInBounds_toArray, List.set_cons_zero, List.set_cons_succ]))
          (refine held_take (i := 1) (oi := ?ot2) (v := ?vt2) ?at2 (by kernel_rfl) (by kernel_rfl) (by kernel_rfl) ?bt2 ?ct2 ?dt2 (by assumption) ?rt2; (case at2 => (simp only [List.getElem?_toArray, List.getElem?_cons_zero, List.getElem?_cons_succ]; rfl)); (case bt2 => exact fun _ _ _ h => h); (case ct2 => kernel_rfl); (case dt2 => (intro W hW; (try dsimp only at hW); go_split_ands; go_simp; (try with_reducible rfl))); (case' rt2 => simp only [Act.put, List.setIfInBounds_toArray, List.set_cons_zero, List.set_cons_succ]))
          (refine held_take (i := 2) (oi := ?ot3) (v := .pointer (some p)) ?at3 (by kernel_rfl) (by kernel_rfl) (by kernel_rfl) ?bt3 ?ct3 ?dt3 (by assumption) ?rt3; (case at3 => (simp only [List.getElem?_toArray, List.getElem?_cons_zero, List.getElem?_cons_succ]; rfl)); (case bt3 => exact fun _ _ _ h => h); (case ct3 => kernel_rfl); (case dt3 => (intro W hW; clear hW; go_simp; (try with_reducible rfl); (try (intro h; omega)))); (case' rt3 => simp only [Act.put, List.setIfInBounds_toArray, List.set_cons_zero, List.set_cons_succ]))
          (refine held_take (i := 3) (oi := ?ot4) (v := .agg (vec 32 (bys x))) ?at4 (by kernel_rfl) (by kernel_rfl) (by kernel_rfl) ?bt4 ?ct4 ?dt4 (by assumption) ?rt4; (case at4 => (simp only [List.getElem?_toArray, List.getElem?_cons_zero, List.getElem?_cons_succ]; rfl)); (case bt4 => exact fun _ _ _ h => h); (case ct4 => kernel_rfl); (case dt4 => (intro W hW; exact exec_load_p 30 _ rfl p rfl _ (load_p fun i hi => (hW.save.cell (p := p.add i) (by rw [addr_add_block]; have := HC1.out.2; have := HL.out.2; omega) (by rw [addr_add_block]; have := HC1.out.2; have := HI.out.dn; omega)).trans (HC1.out.1 i hi)))); (case' rt4 => simp only [Act.put, List.setIfInBounds_toArray, List.set_cons_zero, List.set_cons_succ]))
          (refine held_take (i := 5) (oi := ?ot5) (v := .agg (vec 32 (bys seed))) ?at5 (by kernel_rfl) (by kernel_rfl) (by kernel_rfl) ?bt5 ?ct5 ?dt5 (by assumption) ?rt5; (case at5 => (simp only [List.getElem?_toArray, List.getElem?_cons_zero, List.getElem?_cons_succ]; rfl)); (case bt5 => exact fun _ _ _ h => h); (case ct5 => kernel_rfl); (case dt5 => (intro W hW; exact exec_load 30 _ rfl _ rfl _ (run_load_arr (hW.arr HS.out (by have := HL.out.1; have := HI.out.dn; omega)) Tryz.underlying30 rfl info26))); (case' rt5 => simp only [Act.put, List.setIfInBounds_toArray, List.set_cons_zero, List.set_cons_succ]))
          (refine held_take (i := 6) (oi := ?ot6) (v := adV 0 0 2 0 (k : Int) (i1 : Int) 0) ?at6 (by kernel_rfl) (by kernel_rfl) (by kernel_rfl) ?bt6 ?ct6 ?dt6 (by assumption) ?rt6; (case at6 => (simp only [List.getElem?_toArray, List.getElem?_cons_zero, List.getElem?_cons_succ]; rfl)); (case bt6 => exact fun _ _ _ h => h); (case ct6 => kernel_rfl); (case dt6 => (intro W hW; exact exec_load 86 _ rfl _ rfl _ ((hW.blk HD.out.1 HD.out.2).load Tryz.underlying86 rfl infoAd))); (case' rt6 => simp only [Act.put, List.setIfInBounds_toArray, List.set_cons_zero, List.set_cons_succ]))
          refine held_one (i := 4) (oi := ?ot7) (by kernel_rfl) ?at7 ?ct7 (fun K4 hK4 => ?_)
          (case at7 => (simp only [List.getElem?_toArray, List.getElem?_cons_zero, List.getElem?_cons_succ]; rfl))
          (case ct7 => kernel_rfl)
          refine ow_load 30 _ rfl _ _ rfl _ (run_load_arr HN0.out Tryz.underlying30 rfl info26) ?_
          refine hK4 _ _ hS (fun hS4 => ?_)
          clear hK4 K4
          refine held_one (i := 7) (oi := ?ot8) (by kernel_rfl) ?at8 ?ct8 (fun K7 hK7 => ?_)
          (case at8 => (simp only [List.getElem?_toArray, List.getElem?_cons_zero, List.getElem?_cons_succ]; rfl))
          (case ct8 => kernel_rfl)
          go_simp
          refine (rrand_any x nd seed 0 0 2 0 k i1 0 ⟨by decide, by decide, by decide, by decide, by omega, hi1l, by decide⟩ _ (hS4.tabs HTw.out HF.out.1 HF.out.2)).mono ?_
          rintro e y7 ⟨rfl, hd⟩
          refine hK7 _ _ (hS4.keep hd) (fun hS7 => ?_)
          clear hS4 hd hK7 K7
          refine held_one (i := 8) (oi := ?ot9) (by kernel_rfl) ?at9 ?ct9 (fun K8 hK8 => ?_)
          (case at9 => (simp only [List.getElem?_toArray, List.getElem?_cons_zero, List.getElem?_cons_succ]; rfl))
          (case ct9 => kernel_rfl)
          obtain ⟨f0, hf0⟩ := hS7.res
          refine ow_store 30 _ _ rfl _ rfl _ rfl (run_store_arr hf0 (bys (joinR seed 2 0 k i1 x nd)) info26 (bys_one _ _)) ?_
          refine hK8 _ _ (hS7.put _) (fun hS8 => ?_)
          clear hK8 K8
          refine wpAnyH_done (by kernel_rfl) ?_ _
          have HN : Hid (RJ V gn (rootK (joinR seed 2 0) idx auth leaf (k + 1)) _) := Lib.hid ⟨by rw [← HRS.out]; exact hf0.row _, Below.trans HI.out.b (hS8.save.below HI.out.dn (show Below _ _ _ from HI.out.b).size), HI.out.dn⟩
          clear hf0 hS8
          go_wp2
          go_roundw
          case rel => exact ⟨k1, by have := HK1.out; omega, rfl, Lib.hid (by rw [HK1.out]; exact HN.out)⟩
          case measure => have := HK1.out; simp [intOf]; omega
        · have hbit0 : idx / 2 ^ k % 2 = 0 := by omega
          rw [hbit0] at hbit
          have HRS : Hid (joinR seed 2 0 k i1 nd x = rootK (joinR seed 2 0) idx auth leaf (k + 1)) := Lib.hid (by rw [rootK_succ, if_neg hb, HX.out.1, HX.out.2, HI1.out])
          go_upto_region 9 with fail
          refine wp_region_held_drew (S := fun Y => SR W1 gn Y) (by kernel_rfl) (SR.begin HI.out.n) (fun hS => ?_)
          (refine held_take (i := 1) (oi := ?ot10) (v := ?vt10) ?at10 (by kernel_rfl) (by kernel_rfl) (by kernel_rfl) ?bt10 ?ct10 ?dt10 (by assumption) ?rt10; (case at10 => (simp only [List.getElem?_toArray, List.getElem?_cons_zero, List.getElem?_cons_succ]; rfl)); (case bt10 => exact fun _ _ _ h => h); (case ct10 => kernel_rfl); (case dt10 => (intro W hW; (try dsimp only at hW); go_split_ands; go_simp; (try with_reducible rfl))); (case' rt10 => simp only [Act.put, List.setIfInBounds_toArray, List.set_cons_zero, List.set_cons_succ]))
          (refine held_take (i := 2) (oi := ?ot11) (v := ?vt11) ?at11 (by kernel_rfl) (by kernel_rfl) (by kernel_rfl) ?bt11 ?ct11 ?dt11 (by assumption) ?rt11; (case at11 => (simp only [List.getElem?_toArray, List.getElem?_cons_zero, List.getElem?_cons_succ]; rfl)); (case bt11 => exact fun _ _ _ h => h); (case ct11 => kernel_rfl); (case dt11 => (intro W hW; (try dsimp only at hW); go_split_ands; go_simp; (try with_reducible rfl))); (case' rt11 => simp only [Act.put, List.setIfInBounds_toArray, List.set_cons_zero, List.set_cons_succ]))
          (refine held_take (i := 3) (oi := ?ot12) (v := .pointer (some p)) ?at12 (by kernel_rfl) (by kernel_rfl) (by kernel_rfl) ?bt12 ?ct12 ?dt12 (by assumption) ?rt12; (case at12 => (simp only [List.getElem?_toArray, List.getElem?_cons_zero, List.getElem?_cons_succ]; rfl)); (case bt12 => exact fun _ _ _ h => h); (case ct12 => kernel_rfl); (case dt12 => (intro W hW; clear hW; go_simp; (try with_reducible rfl); (try (intro h; omega)))); (case' rt12 => simp only [Act.put, List.setIfInBounds_toArray, List.set_cons_zero, List.set_cons_succ]))
          (refine held_take (i := 4) (oi := ?ot13) (v := .agg (vec 32 (bys x))) ?at13 (by kernel_rfl) (by kernel_rfl) (by kernel_rfl) ?bt13 ?ct13 ?dt13 (by assumption) ?rt13; (case at13 => (simp only [List.getElem?_toArray, List.getElem?_cons_zero, List.getElem?_cons_succ]; rfl)); (case bt13 => exact fun _ _ _ h => h); (case ct13 => kernel_rfl); (case dt13 => (intro W hW; exact exec_load_p 30 _ rfl p rfl _ (load_p fun i hi => (hW.save.cell (p := p.add i) (by rw [addr_add_block]; have := HC1.out.2; have := HL.out.2; omega) (by rw [addr_add_block]; have := HC1.out.2; have := HI.out.dn; omega)).trans (HC1.out.1 i hi)))); (case' rt13 => simp only [Act.put, List.setIfInBounds_toArray, List.set_cons_zero, List.set_cons_succ]))
          (refine held_take (i := 5) (oi := ?ot14) (v := .agg (vec 32 (bys seed))) ?at14 (by kernel_rfl) (by kernel_rfl) (by kernel_rfl) ?bt14 ?ct14 ?dt14 (by assumption) ?rt14; (case at14 => (simp only [List.getElem?_toArray, List.getElem?_cons_zero, List.getElem?_cons_succ]; rfl)); (case bt14 => exact fun _ _ _ h => h); (case ct14 => kernel_rfl); (case dt14 => (intro W hW; exact exec_load 30 _ rfl _ rfl _ (run_load_arr (hW.arr HS.out (by have := HL.out.1; have := HI.out.dn; omega)) Tryz.underlying30 rfl info26))); (case' rt14 => simp only [Act.put, List.setIfInBounds_toArray, List.set_cons_zero, List.set_cons_succ]))
          (refine held_take (i := 6) (oi := ?ot15) (v := adV 0 0 2 0 (k : Int) (i1 : Int) 0) ?at15 (by kernel_rfl) (by kernel_rfl) (by kernel_rfl) ?bt15 ?ct15 ?dt15 (by assumption) ?rt15; (case at15 => (simp only [List.getElem?_toArray, List.getElem?_cons_zero, List.getElem?_cons_succ]; rfl)); (case bt15 => exact fun _ _ _ h => h); (case ct15 => kernel_rfl); (case dt15 => (intro W hW; exact exec_load 86 _ rfl _ rfl _ ((hW.blk HD.out.1 HD.out.2).load Tryz.underlying86 rfl infoAd))); (case' rt15 => simp only [Act.put, List.setIfInBounds_toArray, List.set_cons_zero, List.set_cons_succ]))
          refine held_one (i := 0) (oi := ?ot16) (by kernel_rfl) ?at16 ?ct16 (fun K0 hK0 => ?_)
          (case at16 => (simp only [List.getElem?_toArray, List.getElem?_cons_zero]; rfl))
          (case ct16 => kernel_rfl)
          refine ow_load 30 _ rfl _ _ rfl _ (run_load_arr HN0.out Tryz.underlying30 rfl info26) ?_
          refine hK0 _ _ hS (fun hS0 => ?_)
          clear hK0 K0
          refine held_one (i := 7) (oi := ?ot17) (by kernel_rfl) ?at17 ?ct17 (fun K7 hK7 => ?_)
          (case at17 => (simp only [List.getElem?_toArray, List.getElem?_cons_zero, List.getElem?_cons_succ]; rfl))
          (case ct17 => kernel_rfl)
          go_simp
          refine (rrand_any nd x seed 0 0 2 0 k i1 0 ⟨by decide, by decide, by decide, by decide, by omega, hi1l, by decide⟩ _ (hS0.tabs HTw.out HF.out.1 HF.out.2)).mono ?_
          rintro e y7 ⟨rfl, hd⟩
          refine hK7 _ _ (hS0.keep hd) (fun hS7 => ?_)
          clear hS0 hd hK7 K7
          refine held_one (i := 8) (oi := ?ot18) (by kernel_rfl) ?at18 ?ct18 (fun K8 hK8 => ?_)
          (case at18 => (simp only [List.getElem?_toArray, List.getElem?_cons_zero, List.getElem?_cons_succ]; rfl))
          (case ct18 => kernel_rfl)
          obtain ⟨f0, hf0⟩ := hS7.res
          refine ow_store 30 _ _ rfl _ rfl _ rfl (run_store_arr hf0 (bys (joinR seed 2 0 k i1 nd x)) info26 (bys_one _ _)) ?_
          refine hK8 _ _ (hS7.put _) (fun hS8 => ?_)
          clear hK8 K8
          refine wpAnyH_done (by kernel_rfl) ?_ _
          have HN : Hid (RJ V gn (rootK (joinR seed 2 0) idx auth leaf (k + 1)) _) := Lib.hid ⟨by rw [← HRS.out]; exact hf0.row _, Below.trans HI.out.b (hS8.save.below HI.out.dn (show Below _ _ _ from HI.out.b).size), HI.out.dn⟩
          clear hf0 hS8
          go_wp2
          go_roundw
          case rel => exact ⟨k1, by have := HK1.out; omega, rfl, Lib.hid (by rw [HK1.out]; exact HN.out)⟩
          case measure => have := HK1.out; simp [intOf]; omega
      · obtain rfl : k = auth.length := by omega
        have hltI : ¬ ((auth.length : Int) < (auth.length : Int)) := by omega
        have hR2 : Arr wr (w.heap.size + 2) 30 32 (bys zb) := HA.out.2.2.1.under hR.out.b
        go_wp2_with (first
          | ((with_reducible show wpList _ _ _ (Oper.mk _ (.load _ _) _ _ _ _ :: _) _ _); refine wl_load rfl 30 _ rfl _ rfl _ (run_load_arr hR.out.n Tryz.underlying30 rfl info26) ?_)
          | ((with_reducible show wpList _ _ _ (Oper.mk _ (.store _ _ _) _ _ _ _ :: _) _ _); refine wl_store rfl 30 _ _ rfl _ rfl _ rfl (run_store_arr hR2 (bys (rootK (joinR seed 2 0) idx auth leaf auth.length)) info26 (bys_one _ _)) ?_))
        exact bodyPost_ret (results_cell1 rfl _ _ _ rfl (run_load_arr (hR2.row _) Tryz.underlying30 rfl info26)) rfl ⟨by rw [HP.out], below_row (HA.out.2.2.2.trans ((show Below V.heap.size V wr from hR.out.b).mono HA.out.2.2.2.size)) (by omega) _⟩
  · have t1 : (32 : Int) < (auth.length : Int) := by omega
    go_wp2_with (first
      | ((with_reducible show wpList _ _ _ (Oper.mk _ (.build _ _) _ _ _ _ :: _) _ _); refine wl_build rfl 30 _ rfl (vec 32 (bys zb)) (by kernel_rfl) ?_)
      | ((with_reducible show wpList _ _ _ (Oper.mk _ (.store _ _ _) _ _ _ _ :: _) _ _); refine wl_store rfl 30 _ _ rfl _ rfl _ rfl (run_store_arr HA.out.2.2.1 (bys zb) info26 (bys_one _ _)) ?_))
    exact bodyPost_ret (results_cell1 rfl _ _ _ rfl (run_load_arr (HA.out.2.2.1.row _) Tryz.underlying30 rfl info26)) rfl ⟨by unfold rootD; rw [if_neg hlen], below_row HA.out.2.2.2 (by omega) _⟩
end Go.Proofs.YtfeiplaiekbdkaaGreatDoor
/- The reference's Leaf. -/
namespace Go.Proofs.YtfeiplaiekbdkaaGreatDoor
open Go.RowKit
attribute [local go_sem ↓ high] zeroV26

theorem vs_drew {V W : World} (h : VS V W) : VS V W.drew := ⟨h.os, h.tape, h.output, h.size, h.block⟩
theorem NRow.atA {w : World} {B : Nat} {A : Option Addr} {l : List Nd} (h : NRow w B A l) (hl : 0 < l.length) : ∃ a, A = some a ∧ At w a l ∧ a.block < B := by
  obtain ⟨a, e, hb, hc⟩ := h (List.length_pos_iff.1 hl)
  exact ⟨a, e, hc, hb⟩
theorem At.row {w : World} {B : Nat} {a : Addr} {l : List Nd} (h : At w a l) (hb : a.block < B) : NRow w B (some a) l := fun _ => ⟨a, rfl, hb, h⟩
theorem prsP_succ (R : Nat → Nd → Nd → Nd) (l : List Nd) (q : Nat) (hq : q < 4294967296) : madeP R (prs l (q + 1)) = madeP R (prs l q) ++ [R q (l.getD (2 * q) zb) (l.getD (2 * q + 1) zb)] := by
  rw [prs_succ, madeP_snoc, prOf_val hq]
theorem own_even {W : World} {base : Nat} {v : Value} {R : Nat → Nd → Nd → Nd} {l : List Nd} (h : W.ownsRow base 30 32 v (l.length / 2) (cellsN (madeP R (prs l (l.length / 2))))) (he : ¬ l.length % 2 = 1) : OwnN W base v (raise R l) := by
  unfold OwnN raise
  rw [if_neg he, List.append_nil, madeP_length, prs_length]
  exact h
/-- What the inner loop keeps: the first q nodes of the next height. -/
structure RQ (W0 : World) (R : Nat → Nd → Nd → Nd) (l : List Nd) (q m : Nat) (v : Value) (W : World) : Prop where
  row : W.ownsRow W0.heap.size 30 32 v q (cellsN (madeP R (prs l q)))
  b : VS W0 W
  m : m = 2 * q
set_option maxHeartbeats 2000000 in
set_option maxRecDepth 100000 in
theorem rleaf_any (A : Option Addr) (cap : Nat) (pk : List Nd) (seed : Nat → UInt8) (idx : Nat) (hidx : idx < 4294967296) (w : World) (hr : NRow w w.heap.size A pk) (hT : Tabs w) :
    Calls Tryz.prog 22 #[.slice A pk.length cap, .agg (vec 32 (bys seed)), .int .u32 (idx : Int)] w fun e w' => e = .returned (.agg (vec 32 (bys (leafD pk seed idx)))) ∧ Below w.heap.size w w' := by
  obtain ⟨V, hV⟩ : ∃ V, V = (w.alloc (.cells (vec 32 (bys seed)) 30)).alloc (.cells (vec 32 (bys zb)) 30) := ⟨_, rfl⟩
  have h0 : Arr V w.heap.size 30 32 (bys seed) := by rw [hV]; exact (Arr.newAt _ _ _ _ (by simp)).alloc _
  have h1 : Arr V (w.heap.size + 1) 30 32 (bys zb) := by rw [hV]; exact Arr.newAt _ _ _ _ (by simp)
  have hB : Below w.heap.size w V := by rw [hV]; exact ((Below.refl _ _).alloc (by simp <;> omega) _).alloc (by simp <;> omega) _
  have HA := Lib.hid (And.intro h0 (And.intro h1 hB))
  have HT := Lib.hid hT
  have HR0 := Lib.hid hr
  have HW := Lib.hid hV
  clear hV h0 h1 hB hT hr
  have bad : ¬ (1 ≤ pk.length ∧ pk.length ≤ 1000) → leafD pk seed idx = zb := fun h => by
    unfold leafD
    split
    · have : pk = [] := List.eq_nil_of_length_eq_zero (by omega)
      rw [this]; rfl
    · rfl
  have HBAD := Lib.hid bad
  clear bad
  by_cases hz : pk.length = 0
  · have t0 : (pk.length : Int) = 0 := by omega
    have t1 : ((pk.length : Int) == 0) = true := by rw [beq_iff_eq]; omega
    go_enter Tryz.func22, Tryz.ntmps22
    go_upto_region 1 with fail
    rw [← HW.out]
    clear HW
    go_wp2_with (first
      | ((with_reducible show wpList _ _ _ (Oper.mk _ (.build _ _) _ _ _ _ :: _) _ _); refine wl_build rfl 30 _ rfl (vec 32 (bys zb)) (by kernel_rfl) ?_)
      | ((with_reducible show wpList _ _ _ (Oper.mk _ (.store _ _ _) _ _ _ _ :: _) _ _); refine wl_store rfl 30 _ _ rfl _ rfl _ rfl (run_store_arr HA.out.2.1 (bys zb) info26 (bys_one _ _)) ?_))
    exact bodyPost_ret (results_cell1 rfl _ _ _ rfl (run_load_arr (HA.out.2.1.row _) Tryz.underlying30 rfl info26)) rfl ⟨by rw [HBAD.out (by omega)], below_row HA.out.2.2 (by omega) _⟩
  · by_cases hlen : pk.length ≤ 1000
    · have t0 : ((pk.length : Int) == 0) = false := beq_eq_false_iff_ne.2 (by omega)
      have t1 : ¬ (1000 : Int) < (pk.length : Int) := by omega
      have HP : Hid (leafD pk seed idx = topF (joinR seed 1 idx) pk) := Lib.hid (if_pos hlen)
      clear HBAD
      go_enter Tryz.func22, Tryz.ntmps22
      go_upto_region 1 with fail
      rw [← HW.out]
      clear HW
      go_wp2
      go_loopw [0, 7] (fun s h W => ∃ (k : Nat) (a : Addr) (c n : Nat), s = .slice (some a) n c ∧ h = .int .u32 k ∧ Hid (n = (levs (joinR seed 1 idx) pk k).length ∧ At W a (levs (joinR seed 1 idx) pk k) ∧ a.block < W.heap.size ∧ VS V W ∧ 1 ≤ n ∧ ∀ j, j < k → 1 < (levs (joinR seed 1 idx) pk j).length)) (fun s _ _ => lenOf s)
      case atStart =>
        obtain ⟨a, rfl, hat, hab⟩ := HR0.out.atA (by omega)
        exact ⟨0, a, cap, pk.length, rfl, rfl, Lib.hid ⟨rfl, hat.same (HA.out.2.2.block _ hab), Nat.lt_of_lt_of_le hab HA.out.2.2.size, Below.refl _ _, by omega, fun j hj => by omega⟩⟩
      case round =>
        obtain ⟨k, a, c, n, rfl, rfl, hL⟩ := hrel
        obtain ⟨lk, hlk⟩ : ∃ lk, lk = levs (joinR seed 1 idx) pk k := ⟨_, rfl⟩
        have hsum := levs_sum (joinR seed 1 idx) pk k hL.out.2.2.2.2.2
        rw [← hlk] at hL hsum
        have hn1 : n = lk.length := hL.out.1
        have hn2 := hL.out.2.2.2.2.1
        have hk : k < 4294967296 := by omega
        by_cases h1n : 1 < n
        · have h1I : (1 : Int) < (n : Int) := by omega
          have hwn : IntKind.u32.wrap ((k : Int) + 1) = ((k + 1 : Nat) : Int) := by rw [IntKind.wrap_u32']; omega
          obtain ⟨W0, hW0⟩ : ∃ W0, W0 = wr := ⟨_, rfl⟩
          have HAT : Hid (At W0 a lk ∧ a.block < W0.heap.size) := Lib.hid (by rw [hW0]; exact ⟨hL.out.2.1, hL.out.2.2.1⟩)
          have HSD : Hid (Arr W0 w.heap.size 30 32 (bys seed)) := Lib.hid (by rw [hW0]; exact HA.out.1.under hL.out.2.2.2.1)
          have HTW : Hid (Tabs W0) := Lib.hid (by rw [hW0]; exact tabs_below HT.out (HA.out.2.2.trans ((show Below V.heap.size V wr from hL.out.2.2.2.1).mono HA.out.2.2.size)))
          have HOK : Hid (idx < 4294967296 ∧ k < 4294967296) := Lib.hid ⟨hidx, hk⟩
          have HLK := Lib.hid (And.intro hlk hL.out)
          have HVW : Hid (VS V W0) := Lib.hid (by rw [hW0]; exact hL.out.2.2.2.1)
          have HSM : Hid (k + lk.length ≤ 1000) := Lib.hid (by omega)
          have hl1000 : lk.length ≤ 1000 := by omega
          rw [hn1] at h1n h1I
          clear hlk hsum hL hn2
          subst hn1
          go_wp2
          go_loopw [8, 9] (fun s i W => ∃ (q m : Nat), q ≤ lk.length / 2 ∧ i = .int .i64 (m : Int) ∧ Hid (RQ W0 (joinR seed 1 idx k) lk q m s W)) (fun _ i _ => lk.length - (intOf i).toNat)
          case atStart => exact ⟨0, 0, Nat.zero_le _, rfl, Lib.hid ⟨World.ownsRow_nil _ _ _ _, by rw [hW0]; exact Below.refl _ _, rfl⟩⟩
          case round =>
            obtain ⟨q, m, hq, rfl, hQ⟩ := hrel
            have hmq := hQ.out.m
            by_cases hlt : q < lk.length / 2
            · have hltI : ((m : Int) + 1) < (lk.length : Int) := by omega
              obtain ⟨m1, hm1⟩ : ∃ m1, m1 = m + 1 := ⟨_, rfl⟩
              obtain ⟨m2, hm2⟩ : ∃ m2, m2 = m + 2 := ⟨_, rfl⟩
              have hlm : m < lk.length := by omega
              have hlm1 : m1 < lk.length := by omega
              obtain ⟨p, hp, hpc⟩ := (HAT.out.1.same (Below.block hQ.out.b _ HAT.out.2)).get hlm
              obtain ⟨p2, hp2, hpc2⟩ := (HAT.out.1.same (Below.block hQ.out.b _ HAT.out.2)).get hlm1
              obtain ⟨x, hx⟩ : ∃ x, x = lk.getD m zb := ⟨_, rfl⟩
              obtain ⟨y, hy⟩ : ∃ y, y = lk.getD m1 zb := ⟨_, rfl⟩
              rw [← hx] at hpc
              rw [← hy] at hpc2
              have hpb : p.block < W0.heap.size := by rw [← hp, addr_add_block]; exact HAT.out.2
              have hpb2 : p2.block < W0.heap.size := by rw [← hp2, addr_add_block]; exact HAT.out.2
              have HXY : Hid ((∀ i, i < 32 → W0.cell? (p.add i) = some (bys x i)) ∧ (∀ i, i < 32 → W0.cell? (p2.add i) = some (bys y i)) ∧ p.block < W0.heap.size ∧ p2.block < W0.heap.size) :=
                Lib.hid ⟨fun i hi => (Below.cell hQ.out.b (by rw [addr_add_block]; exact hpb)).symm.trans (hpc i hi), fun i hi => (Below.cell hQ.out.b (by rw [addr_add_block]; exact hpb2)).symm.trans (hpc2 i hi), hpb, hpb2⟩
              have HMQ : Hid (m = 2 * q ∧ x = lk.getD (2 * q) zb ∧ y = lk.getD (2 * q + 1) zb ∧ m2 = 2 * (q + 1) ∧ True) := Lib.hid ⟨hmq, by rw [hx, hmq], by rw [hy, hm1, hmq], by omega, trivial⟩
              have hwm1 : IntKind.i64.wrap ((m : Int) + 1) = (m1 : Int) := by rw [IntKind.wrap_i64]; omega
              have hwm2 : IntKind.i64.wrap ((m : Int) + 2) = (m2 : Int) := by rw [IntKind.wrap_i64]; omega
              have hdv : (m : Int) / 2 = (q : Int) := by omega
              have hwq : IntKind.u32.wrap (q : Int) = (q : Int) := by rw [IntKind.wrap_u32']; omega
              have hwq0 : IntKind.i64.wrap (q : Int) = (q : Int) := by rw [IntKind.wrap_i64]; omega
              have HR : Hid (wr.drew.ownsRow W0.heap.size 30 32 _ q (cellsN (madeP (joinR seed 1 idx k) (prs lk q)))) := Lib.hid hQ.out.row
              have HS := Lib.hid (vs_drew hQ.out.b)
              clear hpc hpc2 hx hy hpb hpb2 hQ hmq hm1 hm2
              go_upto_region 10 with fail
              refine wp_region_held_drew (S := fun Y => VS W0 Y) (by kernel_rfl) HS.out (fun hS => ?_)
              (refine held_take (i := 0) (oi := ?ot1) (v := ?vt1) ?at1 (by kernel_rfl) (by kernel_rfl) (by kernel_rfl) ?bt1 ?ct1 ?dt1 (by assumption) ?rt1; (case at1 => (simp only [List.getElem?_toArray, List.getElem?_cons_zero]; rfl)); (case bt1 => exact fun _ _ _ h => h); (case ct1 => kernel_rfl); (case dt1 => (intro W hW; (try dsimp only at hW); go_split_ands; go_simp; (try with_reducible rfl))); (case' rt1 => simp only [Act.put, List.setIfInBounds_toArray, List.set_cons_zero, List.set_cons_succ]))
              (refine held_take (i := 1) (oi := ?ot2) (v := ?vt2) ?at2 (by kernel_rfl) (by kernel_rfl) (by kernel_rfl) ?bt2 ?ct2 ?dt2 (by assumption) ?rt2; (case at2 => (simp only [List.getElem?_toArray, List.getElem?_cons_zero, List.getElem?_cons_succ]; rfl)); (case bt2 => exact fun _ _ _ h => h); (case ct2 => kernel_rfl); (case dt2 => (intro W hW; (try dsimp only at hW); go_split_ands; go_simp; (try with_reducible rfl))); (case' rt2 => simp only [Act.put, List.setIfInBounds_toArray, List.set_cons_zero, List.set_cons_succ]))
              (refine held_take (i := 2) (oi := ?ot3) (v := ?vt3) ?at3 (by kernel_rfl) (by kernel_rfl) (by kernel_rfl) ?bt3 ?ct3 ?dt3 (by assumption) ?rt3; (case at3 => (simp only [List.getElem?_toArray, List.getElem?_cons_zero, List.getElem?_cons_succ]; rfl)); (case bt3 => exact fun _ _ _ h => h); (case ct3 => kernel_rfl); (case dt3 => (intro W hW; (try dsimp only at hW); go_split_ands; go_simp; (try with_reducible rfl))); (case' rt3 => simp only [Act.put, List.setIfInBounds_toArray, List.set_cons_zero, List.set_cons_succ]))
              (refine held_take (i := 3) (oi := ?ot4) (v := .pointer (some p)) ?at4 (by kernel_rfl) (by kernel_rfl) (by kernel_rfl) ?bt4 ?ct4 ?dt4 (by assumption) ?rt4; (case at4 => (simp only [List.getElem?_toArray, List.getElem?_cons_zero, List.getElem?_cons_succ]; rfl)); (case bt4 => exact fun _ _ _ h => h); (case ct4 => kernel_rfl); (case dt4 => (intro W hW; clear hW; go_simp; (try with_reducible rfl); (try (intro h; omega)))); (case' rt4 => simp only [Act.put, List.setIfInBounds_toArray, List.set_cons_zero, List.set_cons_succ]))
              (refine held_take (i := 4) (oi := ?ot5) (v := .agg (vec 32 (bys x))) ?at5 (by kernel_rfl) (by kernel_rfl) (by kernel_rfl) ?bt5 ?ct5 ?dt5 (by assumption) ?rt5; (case at5 => (simp only [List.getElem?_toArray, List.getElem?_cons_zero, List.getElem?_cons_succ]; rfl)); (case bt5 => exact fun _ _ _ h => h); (case ct5 => kernel_rfl); (case dt5 => (intro W hW; exact exec_load_p 30 _ rfl p rfl _ (load_p fun i hi => (World.cell?_of_block (a := p.add i) (by rw [addr_add_block]; exact Below.block hW _ HXY.out.2.2.1)).trans (HXY.out.1 i hi)))); (case' rt5 => simp only [Act.put, List.setIfInBounds_toArray, List.set_cons_zero, List.set_cons_succ]))
              (refine held_take (i := 5) (oi := ?ot6) (v := ?vt6) ?at6 (by kernel_rfl) (by kernel_rfl) (by kernel_rfl) ?bt6 ?ct6 ?dt6 (by assumption) ?rt6; (case at6 => (simp only [List.getElem?_toArray, List.getElem?_cons_zero, List.getElem?_cons_succ]; rfl)); (case bt6 => exact fun _ _ _ h => h); (case ct6 => kernel_rfl); (case dt6 => (intro W hW; (try dsimp only at hW); go_split_ands; go_simp; (try with_reducible rfl))); (case' rt6 => simp only [Act.put, List.setIfInBounds_toArray, List.set_cons_zero, List.set_cons_succ]))
              (refine held_take (i := 6) (oi := ?ot7) (v := ?vt7) ?at7 (by kernel_rfl) (by kernel_rfl) (by kernel_rfl) ?bt7 ?ct7 ?dt7 (by assumption) ?rt7; (case at7 => (simp only [List.getElem?_toArray, List.getElem?_cons_zero, List.getElem?_cons_succ]; rfl)); (case bt7 => exact fun _ _ _ h => h); (case ct7 => kernel_rfl); (case dt7 => (intro W hW; (try dsimp only at hW); go_split_ands; go_simp; (try with_reducible rfl))); (case' rt7 => simp only [Act.put, List.setIfInBounds_toArray, List.set_cons_zero, List.set_cons_succ]))
              (refine held_take (i := 7) (oi := ?ot8) (v := ?vt8) ?at8 (by kernel_rfl) (by kernel_rfl) (by kernel_rfl) ?bt8 ?ct8 ?dt8 (by assumption) ?rt8; (case at8 => (simp only [List.getElem?_toArray, List.getElem?_cons_zero, List.getElem?_cons_succ]; rfl)); (case bt8 => exact fun _ _ _ h => h); (case ct8 => kernel_rfl); (case dt8 => (intro W hW; (try dsimp only at hW); go_split_ands; go_simp; (try with_reducible rfl))); (case' rt8 => simp only [Act.put, List.setIfInBounds_toArray, List.set_cons_zero, List.set_cons_succ]))
              (refine held_take (i := 8) (oi := ?ot9) (v := .pointer (some p2)) ?at9 (by kernel_rfl) (by kernel_rfl) (by kernel_rfl) ?bt9 ?ct9 ?dt9 (by assumption) ?rt9; (case at9 => (simp only [List.getElem?_toArray, List.getElem?_cons_zero, List.getElem?_cons_succ]; rfl)); (case bt9 => exact fun _ _ _ h => h); (case ct9 => kernel_rfl); (case dt9 => (intro W hW; clear hW; go_simp; (try with_reducible rfl); (try (intro h; omega)))); (case' rt9 => simp only [Act.put, List.setIfInBounds_toArray, List.set_cons_zero, List.set_cons_succ]))
              (refine held_take (i := 9) (oi := ?ot10) (v := .agg (vec 32 (bys y))) ?at10 (by kernel_rfl) (by kernel_rfl) (by kernel_rfl) ?bt10 ?ct10 ?dt10 (by assumption) ?rt10; (case at10 => (simp only [List.getElem?_toArray, List.getElem?_cons_zero, List.getElem?_cons_succ]; rfl)); (case bt10 => exact fun _ _ _ h => h); (case ct10 => kernel_rfl); (case dt10 => (intro W hW; exact exec_load_p 30 _ rfl p2 rfl _ (load_p fun i hi => (World.cell?_of_block (a := p2.add i) (by rw [addr_add_block]; exact Below.block hW _ HXY.out.2.2.2)).trans (HXY.out.2.1 i hi)))); (case' rt10 => simp only [Act.put, List.setIfInBounds_toArray, List.set_cons_zero, List.set_cons_succ]))
              (refine held_take (i := 10) (oi := ?ot11) (v := .agg (vec 32 (bys seed))) ?at11 (by kernel_rfl) (by kernel_rfl) (by kernel_rfl) ?bt11 ?ct11 ?dt11 (by assumption) ?rt11; (case at11 => (simp only [List.getElem?_toArray, List.getElem?_cons_zero, List.getElem?_cons_succ]; rfl)); (case bt11 => exact fun _ _ _ h => h); (case ct11 => kernel_rfl); (case dt11 => (intro W hW; exact exec_load 30 _ rfl _ rfl _ (run_load_arr (HSD.out.under hW) Tryz.underlying30 rfl info26))); (case' rt11 => simp only [Act.put, List.setIfInBounds_toArray, List.set_cons_zero, List.set_cons_succ]))
              (refine held_take (i := 11) (oi := ?ot12) (v := ?vt12) ?at12 (by kernel_rfl) (by kernel_rfl) (by kernel_rfl) ?bt12 ?ct12 ?dt12 (by assumption) ?rt12; (case at12 => (simp only [List.getElem?_toArray, List.getElem?_cons_zero, List.getElem?_cons_succ]; rfl)); (case bt12 => exact fun _ _ _ h => h); (case ct12 => kernel_rfl); (case dt12 => (intro W hW; (try dsimp only at hW); go_split_ands; go_simp; (try with_reducible rfl))); (case' rt12 => simp only [Act.put, List.setIfInBounds_toArray, List.set_cons_zero, List.set_cons_succ]))
              (refine held_take (i := 12) (oi := ?ot13) (v := ?vt13) ?at13 (by kernel_rfl) (by kernel_rfl) (by kernel_rfl) ?bt13 ?ct13 ?dt13 (by assumption) ?rt13; (case at13 => (simp only [List.getElem?_toArray, List.getElem?_cons_zero, List.getElem?_cons_succ]; rfl)); (case bt13 => exact fun _ _ _ h => h); (case ct13 => kernel_rfl); (case dt13 => (intro W hW; (try dsimp only at hW); go_split_ands; go_simp; (try with_reducible rfl))); (case' rt13 => simp only [Act.put, List.setIfInBounds_toArray, List.set_cons_zero, List.set_cons_succ]))
              (refine held_take (i := 13) (oi := ?ot14) (v := ?vt14) ?at14 (by kernel_rfl) (by kernel_rfl) (by kernel_rfl) ?bt14 ?ct14 ?dt14 (by assumption) ?rt14; (case at14 => (simp only [List.getElem?_toArray, List.getElem?_cons_zero, List.getElem?_cons_succ]; rfl)); (case bt14 => exact fun _ _ _ h => h); (case ct14 => kernel_rfl); (case dt14 => (intro W hW; (try dsimp only at hW); go_split_ands; go_simp; (try with_reducible rfl))); (case' rt14 => simp only [Act.put, List.setIfInBounds_toArray, List.set_cons_zero, List.set_cons_succ]))
              (refine held_take (i := 14) (oi := ?ot15) (v := ?vt15) ?at15 (by kernel_rfl) (by kernel_rfl) (by kernel_rfl) ?bt15 ?ct15 ?dt15 (by assumption) ?rt15; (case at15 => (simp only [List.getElem?_toArray, List.getElem?_cons_zero, List.getElem?_cons_succ]; rfl)); (case bt15 => exact fun _ _ _ h => h); (case ct15 => kernel_rfl); (case dt15 => (intro W hW; (try dsimp only at hW); go_split_ands; go_simp; (try with_reducible rfl))); (case' rt15 => simp only [Act.put, List.setIfInBounds_toArray, List.set_cons_zero, List.set_cons_succ]))
              (refine held_take (i := 15) (oi := ?ot16) (v := ?vt16) ?at16 (by kernel_rfl) (by kernel_rfl) (by kernel_rfl) ?bt16 ?ct16 ?dt16 (by assumption) ?rt16; (case at16 => (simp only [List.getElem?_toArray, List.getElem?_cons_zero, List.getElem?_cons_succ]; rfl)); (case bt16 => exact fun _ _ _ h => h); (case ct16 => kernel_rfl); (case dt16 => (intro W hW; (try dsimp only at hW); go_split_ands; go_simp; (try with_reducible rfl))); (case' rt16 => simp only [Act.put, List.setIfInBounds_toArray, List.set_cons_zero, List.set_cons_succ]))
              (refine held_take (i := 16) (oi := ?ot17) (v := ?vt17) ?at17 (by kernel_rfl) (by kernel_rfl) (by kernel_rfl) ?bt17 ?ct17 ?dt17 (by assumption) ?rt17; (case at17 => (simp only [List.getElem?_toArray, List.getElem?_cons_zero, List.getElem?_cons_succ]; rfl)); (case bt17 => exact fun _ _ _ h => h); (case ct17 => kernel_rfl); (case dt17 => (intro W hW; (try dsimp only at hW); go_split_ands; go_simp; (try with_reducible rfl))); (case' rt17 => simp only [Act.put, List.setIfInBounds_toArray, List.set_cons_zero, List.set_cons_succ]))
              refine held_one (i := 17) (oi := ?ot18) (by kernel_rfl) ?at18 ?ct18 (fun K17 hK17 => ?_)
              (case at18 => (simp only [List.getElem?_toArray, List.getElem?_cons_zero, List.getElem?_cons_succ]; rfl))
              (case ct18 => kernel_rfl)
              go_simp
              refine (rrand_any x y seed 0 0 1 idx k q 0 ⟨by decide, by decide, by decide, HOK.out.1, HOK.out.2, by omega, by decide⟩ _ (tabs_below HTW.out hS)).mono ?_
              rintro e y17 ⟨rfl, hd⟩
              have HR := Lib.hid (ownsN_below (w := wr.drew) HR.out hd)
              refine hK17 _ _ (hS.keep hd) (fun hS17 => ?_)
              clear hS hd hK17 K17
              refine held_one (i := 18) (oi := ?ot19) (by kernel_rfl) ?at19 ?ct19 (fun K18 hK18 => ?_)
              (case at19 => (simp only [List.getElem?_toArray, List.getElem?_cons_zero, List.getElem?_cons_succ]; rfl))
              (case ct19 => kernel_rfl)
              refine ow_build1 _ rfl (joinR seed 1 idx k q x y) rfl ?_
              refine hK18 _ _ (hS17.keep ((Below.refl _ _).alloc (Nat.le_refl _) _)) (fun hS18 => ?_)
              clear hK18 K18
              refine held_one (i := 19) (oi := ?ot20) (by kernel_rfl) ?at20 ?ct20 (fun K19 hK19 => ?_)
              (case at20 => (simp only [List.getElem?_toArray, List.getElem?_cons_zero, List.getElem?_cons_succ]; rfl))
              (case ct20 => kernel_rfl)
              obtain ⟨v9, y9, hr9, hown9, hg9⟩ := app_own (HR.out.alloc (.cells (vec 32 (bys (joinR seed 1 idx k q x y))) 30)) (Arr.new y17 30 32 (bys (joinR seed 1 idx k q x y))) (by omega) (show Below _ _ _ from hS18).size 31
              have hbl9 : VS W0 y9 := Below.grown hS18 hg9 (show Below _ _ _ from hS18).size (fun q hq => ((HR.out.alloc (.cells (vec 32 (bys (joinR seed 1 idx k q x y))) 30)).lt q hq).1)
              refine Lib.wp_append_run _ _ _ _ _ rfl _ _ rfl rfl _ _ hr9 ?_
              refine hK19 _ _ hbl9 (fun hS19 => ?_)
              have HN := Lib.hid (And.intro hown9 hbl9)
              clear hK19 K19 hr9 hown9 hg9 hbl9
              (refine held_take (i := 20) (oi := ?ot21) (v := ?vt21) ?at21 (by kernel_rfl) (by kernel_rfl) (by kernel_rfl) ?bt21 ?ct21 ?dt21 (by assumption) ?rt21; (case at21 => (simp only [List.getElem?_toArray, List.getElem?_cons_zero, List.getElem?_cons_succ]; rfl)); (case bt21 => exact fun _ _ _ h => h); (case ct21 => kernel_rfl); (case dt21 => (intro W hW; (try dsimp only at hW); go_split_ands; go_simp; (try with_reducible rfl))); (case' rt21 => simp only [Act.put, List.setIfInBounds_toArray, List.set_cons_zero, List.set_cons_succ]))
              refine wpAnyH_done (by kernel_rfl) ?_ _
              go_wp2
              go_roundw
              case rel => exact ⟨q + 1, m2, by omega, rfl, Lib.hid ⟨by rw [prsP_succ _ _ _ (by omega), ← HMQ.out.2.1, ← HMQ.out.2.2.1, cellsN_snoc]; exact HN.out.1, HN.out.2, HMQ.out.2.2.2.1⟩⟩
              case measure => have := HMQ.out.2.2.2.1; have := HMQ.out.1; simp [intOf]; omega
            · have hltI : ¬ (((m : Int) + 1) < (lk.length : Int)) := by omega
              have hmm := hQ.out.m
              obtain rfl : q = lk.length / 2 := by omega
              by_cases hodd : lk.length % 2 = 1
              · have hrem : (lk.length : Int) % 2 = 1 := by omega
                obtain ⟨k0, hk0⟩ : ∃ k0, k0 = lk.length - 1 := ⟨_, rfl⟩
                have hlk0 : k0 < lk.length := by omega
                have hw : IntKind.i64.wrap ((lk.length : Int) - 1) = (k0 : Int) := by rw [IntKind.wrap_i64]; omega
                obtain ⟨p, hp, hpc⟩ := (HAT.out.1.same (Below.block hQ.out.b _ HAT.out.2)).get hlk0
                obtain ⟨x, hx⟩ : ∃ x, x = lk.getD k0 zb := ⟨_, rfl⟩
                rw [← hx] at hpc
                have HC := Lib.hid hpc
                obtain ⟨v9, y9, hr9, hown9, hg9⟩ := app_own (hQ.out.row.alloc (.cells (vec 32 (bys x)) 30)) (Arr.new wr 30 32 (bys x)) (by omega) (by have := (show Below _ _ _ from hQ.out.b).size; simp; omega) 31
                have hbl9 : VS W0 y9 := Below.grown ((show Below _ _ _ from hQ.out.b).alloc (show Below _ _ _ from hQ.out.b).size _) hg9 (by have := (show Below _ _ _ from hQ.out.b).size; simp; omega) (fun q hq => ((hQ.out.row.alloc (.cells (vec 32 (bys x)) 30)).lt q hq).1)
                have hO : OwnN y9 W0.heap.size v9 (raise (joinR seed 1 idx k) lk) := by
                  unfold OwnN raise
                  rw [if_pos hodd, List.length_append, madeP_length, prs_length, ← hk0, ← hx, cellsN_snoc]
                  exact hown9
                obtain ⟨a9, c9, rfl, hat9, hb9, hl9⟩ := hO.at (List.length_pos_iff.1 (by rw [raise_length]; omega))
                have HO := Lib.hid (And.intro hat9 (And.intro hb9 (And.intro hl9 hbl9)))
                clear hO hown9 hg9 hbl9 hat9 hb9 hl9 hpc hk0 hx hmm hQ
                go_wp2_with (first
                  | ((with_reducible show wpList _ _ _ (Oper.mk _ (.load _ _) _ _ _ _ :: _) _ _); refine wl_load_p rfl 30 _ rfl p rfl _ (load_p HC.out) ?_)
                  | ((with_reducible show wpList _ _ _ (Oper.mk _ (.buildSlice _ _ _) _ _ _ _ :: _) _ _); refine wpList_plain rfl fun K hK => ow_build1 _ rfl x rfl (hK _ _ ?_); clear hK K)
                  | ((with_reducible show wpList _ _ _ (Oper.mk _ (.call ⟨.builtin .append, _, _⟩) _ _ _ _ :: _) _ _); refine wpList_plain rfl fun K hK => Lib.wp_append_run _ _ _ _ _ rfl _ _ rfl rfl _ _ hr9 (hK _ _ ?_); clear hK K))
                go_roundw
                case rel => exact ⟨k + 1, a9, c9, _, rfl, by simp, Lib.hid ⟨by rw [levs_succ, ← HLK.out.1], by rw [levs_succ, ← HLK.out.1]; exact HO.out.1, HO.out.2.2.1, Below.trans HVW.out ((show Below _ _ _ from HO.out.2.2.2).mono (show Below _ _ _ from HVW.out).size), by rw [raise_length]; omega, fun j hj => by
                    by_cases e : j = k
                    · rw [e, ← HLK.out.1]; omega
                    · exact HLK.out.2.2.2.2.2.2 j (by omega)⟩⟩
                case measure => simp [lenOf, raise_length]; omega
              · have hrem : (lk.length : Int) % 2 = 0 := by omega
                have hO := own_even hQ.out.row hodd
                obtain ⟨a9, c9, rfl, hat9, hb9, hl9⟩ := hO.at (List.length_pos_iff.1 (by rw [raise_length]; omega))
                have HO := Lib.hid (And.intro hat9 (And.intro hb9 (And.intro hl9 hQ.out.b)))
                clear hO hat9 hb9 hl9 hmm hQ
                go_wp2
                go_roundw
                case rel => exact ⟨k + 1, a9, c9, _, rfl, by simp, Lib.hid ⟨by rw [levs_succ, ← HLK.out.1], by rw [levs_succ, ← HLK.out.1]; exact HO.out.1, HO.out.2.2.1, Below.trans HVW.out ((show Below _ _ _ from HO.out.2.2.2).mono (show Below _ _ _ from HVW.out).size), by rw [raise_length]; omega, fun j hj => by
                    by_cases e : j = k
                    · rw [e, ← HLK.out.1]; omega
                    · exact HLK.out.2.2.2.2.2.2 j (by omega)⟩⟩
                case measure => simp [lenOf, raise_length]; omega
        · have h1I : ¬ (1 : Int) < (n : Int) := by omega
          have hn3 : n = 1 := by omega
          obtain ⟨p, hp, hpc⟩ := hL.out.2.1.get (k := 0) (by omega)
          have hp0 : a.add 0 = p := by simpa using hp
          have hpos : (0 : Int) < (n : Int) := by omega
          have HC := Lib.hid hpc
          have hR2 : Arr wr (w.heap.size + 1) 30 32 (bys zb) := HA.out.2.1.under hL.out.2.2.2.1
          have HE : Hid (leafD pk seed idx = lk.getD 0 zb) := Lib.hid (by rw [HP.out, topF_at (joinR seed 1 idx) pk k (by rw [← hlk]; omega) hL.out.2.2.2.2.2, hlk])
          have HB2 := Lib.hid (HA.out.2.2.trans ((show Below V.heap.size V wr from hL.out.2.2.2.1).mono HA.out.2.2.size))
          have HR2 := Lib.hid hR2
          clear hpc hp hR2 hsum hlk hL hn1
          go_wp2_with (first
            | ((with_reducible show wpList _ _ _ (Oper.mk _ (.load _ _) _ _ _ _ :: _) _ _); refine wl_load_p rfl 30 _ rfl p rfl _ (load_p HC.out) ?_)
            | ((with_reducible show wpList _ _ _ (Oper.mk _ (.store _ _ _) _ _ _ _ :: _) _ _); refine wl_store rfl 30 _ _ rfl _ rfl _ rfl (run_store_arr HR2.out (bys (lk.getD 0 zb)) info26 (bys_one _ _)) ?_))
          exact bodyPost_ret (results_cell1 rfl _ _ _ rfl (run_load_arr (HR2.out.row _) Tryz.underlying30 rfl info26)) rfl ⟨by rw [HE.out, List.getD_eq_getElem?_getD], below_row HB2.out (by omega) _⟩
    · have t0 : ((pk.length : Int) == 0) = false := beq_eq_false_iff_ne.2 (by omega)
      have t1 : (1000 : Int) < (pk.length : Int) := by omega
      go_enter Tryz.func22, Tryz.ntmps22
      go_upto_region 1 with fail
      rw [← HW.out]
      clear HW
      go_wp2_with (first
        | ((with_reducible show wpList _ _ _ (Oper.mk _ (.build _ _) _ _ _ _ :: _) _ _); refine wl_build rfl 30 _ rfl (vec 32 (bys zb)) (by kernel_rfl) ?_)
        | ((with_reducible show wpList _ _ _ (Oper.mk _ (.store _ _ _) _ _ _ _ :: _) _ _); refine wl_store rfl 30 _ _ rfl _ rfl _ rfl (run_store_arr HA.out.2.1 (bys zb) info26 (bys_one _ _)) ?_))
      exact bodyPost_ret (results_cell1 rfl _ _ _ rfl (run_load_arr (HA.out.2.1.row _) Tryz.underlying30 rfl info26)) rfl ⟨by rw [HBAD.out (by omega)], below_row HA.out.2.2 (by omega) _⟩
end Go.Proofs.YtfeiplaiekbdkaaGreatDoor
/- xmss.root. -/
namespace Go.Proofs.YtfeiplaiekbdkaaGreatDoor
open Go.RowKit
attribute [local go_sem ↓ high] zeroV26

set_option maxHeartbeats 1000000 in
set_option maxRecDepth 100000 in
theorem xroot_any (A1 : Option Addr) (c1 : Nat) (pk : List Nd) (seed : Nd) (idx : Nat) (hidx : idx < 4294967296) (A2 : Option Addr) (c2 : Nat) (auth : List Nd) (w : World) (h1 : NRow w w.heap.size A1 pk) (h2 : NRow w w.heap.size A2 auth) (hT : Tabs w) :
    Calls Tryz.prog 16 #[.slice A1 pk.length c1, .agg (vec 32 (bys seed)), .int .u32 (idx : Int), .slice A2 auth.length c2] w fun e w' => e = .returned (.agg (vec 32 (bys (rootD (leafD pk seed idx) idx auth seed)))) ∧ Below w.heap.size w w' := by
  obtain ⟨V, hV⟩ : ∃ V, V = (w.alloc (.cells (vec 32 (bys seed)) 30)).alloc (.cells (vec 32 (bys zb)) 30) := ⟨_, rfl⟩
  have hA0 : Arr V w.heap.size 30 32 (bys seed) := by rw [hV]; exact (Arr.newAt _ _ _ _ (by simp)).alloc _
  have hA1 : Arr V (w.heap.size + 1) 30 32 (bys zb) := by rw [hV]; exact Arr.newAt _ _ _ _ (by simp)
  have hB : Below w.heap.size w V := by rw [hV]; exact ((Below.refl _ _).alloc (by simp <;> omega) _).alloc (by simp <;> omega) _
  have HA := Lib.hid (And.intro hA0 (And.intro hA1 (And.intro hB (And.intro (tabs_below hT hB) (tabs_far hT (r := w.heap.size + 1) (by omega))))))
  have HR := Lib.hid (And.intro h1 h2)
  have HW := Lib.hid hV
  obtain ⟨lf, hlf⟩ : ∃ lf, lf = leafD pk seed idx := ⟨_, rfl⟩
  have HL := Lib.hid hlf
  rw [← hlf]
  clear hV hA0 hA1 hB h1 h2 hT hlf
  go_enter Tryz.func16, Tryz.ntmps16
  go_upto_region 1 with fail
  rw [← HW.out]
  clear HW
  refine wp_region_held_drew (S := fun Y => SR V (w.heap.size + 1) Y) (by kernel_rfl) (SR.begin HA.out.2.1) (fun hS => ?_)
  (refine held_take (i := 0) (oi := ?ot1) (v := ?vt1) ?at1 (by kernel_rfl) (by kernel_rfl) (by kernel_rfl) ?bt1 ?ct1 ?dt1 (by assumption) ?rt1; (case at1 => (simp only [List.getElem?_toArray, List.getElem?_cons_zero]; rfl)); (case bt1 => exact fun _ _ _ h => h); (case ct1 => kernel_rfl); (case dt1 => (intro W hW; (try dsimp only at hW); go_split_ands; go_simp; (try with_reducible rfl))); (case' rt1 => simp only [Act.put, List.setIfInBounds_toArray, List.set_cons_zero, List.set_cons_succ]))
  (refine held_take (i := 1) (oi := ?ot2) (v := .agg (vec 32 (bys seed))) ?at2 (by kernel_rfl) (by kernel_rfl) (by kernel_rfl) ?bt2 ?ct2 ?dt2 (by assumption) ?rt2; (case at2 => (simp only [List.getElem?_toArray, List.getElem?_cons_zero, List.getElem?_cons_succ]; rfl)); (case bt2 => exact fun _ _ _ h => h); (case ct2 => kernel_rfl); (case dt2 => (intro W hW; exact exec_load 30 _ rfl _ rfl _ (run_load_arr ((show SR V (w.heap.size + 1) W from hW).arr HA.out.1 (by omega)) Tryz.underlying30 rfl info26))); (case' rt2 => simp only [Act.put, List.setIfInBounds_toArray, List.set_cons_zero, List.set_cons_succ]))
  (refine held_take (i := 2) (oi := ?ot3) (v := ?vt3) ?at3 (by kernel_rfl) (by kernel_rfl) (by kernel_rfl) ?bt3 ?ct3 ?dt3 (by assumption) ?rt3; (case at3 => (simp only [List.getElem?_toArray, List.getElem?_cons_zero, List.getElem?_cons_succ]; rfl)); (case bt3 => exact fun _ _ _ h => h); (case ct3 => kernel_rfl); (case dt3 => (intro W hW; (try dsimp only at hW); go_split_ands; go_simp; (try with_reducible rfl))); (case' rt3 => simp only [Act.put, List.setIfInBounds_toArray, List.set_cons_zero, List.set_cons_succ]))
  (refine held_take (i := 4) (oi := ?ot4) (v := ?vt4) ?at4 (by kernel_rfl) (by kernel_rfl) (by kernel_rfl) ?bt4 ?ct4 ?dt4 (by assumption) ?rt4; (case at4 => (simp only [List.getElem?_toArray, List.getElem?_cons_zero, List.getElem?_cons_succ]; rfl)); (case bt4 => exact fun _ _ _ h => h); (case ct4 => kernel_rfl); (case dt4 => (intro W hW; (try dsimp only at hW); go_split_ands; go_simp; (try with_reducible rfl))); (case' rt4 => simp only [Act.put, List.setIfInBounds_toArray, List.set_cons_zero, List.set_cons_succ]))
  (refine held_take (i := 5) (oi := ?ot5) (v := ?vt5) ?at5 (by kernel_rfl) (by kernel_rfl) (by kernel_rfl) ?bt5 ?ct5 ?dt5 (by assumption) ?rt5; (case at5 => (simp only [List.getElem?_toArray, List.getElem?_cons_zero, List.getElem?_cons_succ]; rfl)); (case bt5 => exact fun _ _ _ h => h); (case ct5 => kernel_rfl); (case dt5 => (intro W hW; (try dsimp only at hW); go_split_ands; go_simp; (try with_reducible rfl))); (case' rt5 => simp only [Act.put, List.setIfInBounds_toArray, List.set_cons_zero, List.set_cons_succ]))
  (refine held_take (i := 6) (oi := ?ot6) (v := .agg (vec 32 (bys seed))) ?at6 (by kernel_rfl) (by kernel_rfl) (by kernel_rfl) ?bt6 ?ct6 ?dt6 (by assumption) ?rt6; (case at6 => (simp only [List.getElem?_toArray, List.getElem?_cons_zero, List.getElem?_cons_succ]; rfl)); (case bt6 => exact fun _ _ _ h => h); (case ct6 => kernel_rfl); (case dt6 => (intro W hW; exact exec_load 30 _ rfl _ rfl _ (run_load_arr ((show SR V (w.heap.size + 1) W from hW).arr HA.out.1 (by omega)) Tryz.underlying30 rfl info26))); (case' rt6 => simp only [Act.put, List.setIfInBounds_toArray, List.set_cons_zero, List.set_cons_succ]))
  refine held_one (i := 3) (oi := ?ot7) (by kernel_rfl) ?at7 ?ct7 (fun K3 hK3 => ?_)
  (case at7 => (simp only [List.getElem?_toArray, List.getElem?_cons_zero, List.getElem?_cons_succ]; rfl))
  (case ct7 => kernel_rfl)
  have hcall := leaf_any A1 c1 pk seed idx hidx _ ((HR.out.1.below (hS.below HA.out.2.2.1 (by omega))).wide (hS.below HA.out.2.2.1 (by omega)).size) (hS.tabs HA.out.2.2.2.1 HA.out.2.2.2.2.1 HA.out.2.2.2.2.2)
  rw [← HL.out] at hcall
  go_simp
  refine hcall.mono ?_
  rintro e y3 ⟨rfl, hd⟩
  refine hK3 _ _ (hS.keep hd) (fun hS3 => ?_)
  clear hcall hd hK3 K3
  refine held_one (i := 7) (oi := ?ot8) (by kernel_rfl) ?at8 ?ct8 (fun K7 hK7 => ?_)
  (case at8 => (simp only [List.getElem?_toArray, List.getElem?_cons_zero, List.getElem?_cons_succ]; rfl))
  (case ct8 => kernel_rfl)
  have hcall := root_any lf idx hidx A2 c2 auth seed _ ((HR.out.2.below (hS3.below HA.out.2.2.1 (by omega))).wide (hS3.below HA.out.2.2.1 (by omega)).size) (hS3.tabs HA.out.2.2.2.1 HA.out.2.2.2.2.1 HA.out.2.2.2.2.2)
  go_simp
  refine hcall.mono ?_
  rintro e y7 ⟨rfl, hd⟩
  refine hK7 _ _ (hS3.keep hd) (fun hS7 => ?_)
  clear hcall hd hK7 K7
  refine held_one (i := 8) (oi := ?ot9) (by kernel_rfl) ?at9 ?ct9 (fun K8 hK8 => ?_)
  (case at9 => (simp only [List.getElem?_toArray, List.getElem?_cons_zero, List.getElem?_cons_succ]; rfl))
  (case ct9 => kernel_rfl)
  obtain ⟨f0, hf0⟩ := hS7.res
  refine ow_store 30 _ _ rfl _ rfl _ rfl (run_store_arr hf0 (bys (rootD lf idx auth seed)) info26 (bys_one _ _)) ?_
  refine hK8 _ _ (hS7.put _) (fun hS8 => ?_)
  clear hK8 K8
  refine wpAnyH_done (by kernel_rfl) ?_ _
  go_wp2
  refine bodyPost_ret (results_cell1 rfl _ _ _ rfl (run_load_arr (hf0.row _) Tryz.underlying30 rfl info26)) rfl ⟨rfl, hS8.below HA.out.2.2.1 (by omega)⟩
end Go.Proofs.YtfeiplaiekbdkaaGreatDoor
