/- First: the program's. -/
import Derived.Test.YthedpjlafapfeaaFirstA
import Derived.Test.YthedpjlafapfeaaClash
import Derived.Test.YthedpjlafapfeaaSearch
import Derived.Shelf.SlicesQ.IndexFunc
namespace Go.Proofs.Ythedpjlafapfeaa
open Go.RowKit

theorem Row.take {w : World} {B : Nat} {A : Option Addr} {l : List Sp} (h : Row w B A l) (n : Nat) : Row w B A (l.take n) := fun hn => by
  obtain ⟨a, e, hb, hc⟩ := h (fun h0 => hn (by rw [h0]; simp))
  refine ⟨a, e, hb, fun j hj => ?_⟩
  have hj' : j < l.length := by simp at hj; omega
  simp only [List.getElem_take]
  exact hc j hj'
set_option maxHeartbeats 1000000 in
theorem first1_any (bL : Nat) (A : Option Addr) (cap : Nat) (l : List Sp) (hl : l.length ≤ 100000) (hcap : l.length ≤ cap ∧ cap ≤ maxLen) (hf : ∀ x ∈ l, fit x) (i : Nat) (hi : i < l.length) (w : World) (hb : w.cell? ⟨bL, 0, none⟩ = some (.slice A l.length cap)) (hR : Row w w.heap.size A l) :
    Calls Try.prog 33 (#[.int .i64 (i : Int)] ++ #[.pointer (some ⟨bL, 0, none⟩)]) w fun e w' => e = .returned (.bool (clashB (l.take (i + 1)))) ∧ Below w.heap.size w w' := by
  obtain ⟨a, rfl, _⟩ := hR (fun h => by subst h; cases hi)
  have hc := clash_any (some a) cap (l.take (i + 1)) (by simp; omega) (fun x hx => hf x (List.mem_of_mem_take hx)) w (hR.take _)
  rw [show (l.take (i + 1)).length = i + 1 by simp; omega] at hc
  have HC := Lib.hid hc
  have h1 : (i : Int) + 1 ≤ cap := by omega
  have h2 : (i : Int) + 1 ≤ 1000000 := by omega
  have h3 : (0 : Int) ≤ (i : Int) + 1 := by omega
  have h4 := hcap.2
  have h5 : ((i : Int) + 1).toNat = i + 1 := by omega
  have h6 : i + 1 ≤ cap := by omega
  unfold maxLen at h4
  clear hc hR hf hcap
  go_enter Try.func33, Try.ntmps33
  go_wp2_with (go_at_call 34; refine HC.out.mono ?_; rintro e w1 ⟨rfl, hd⟩)
  go_ret
  exact ⟨rfl, hd⟩
set_option maxHeartbeats 1000000 in
theorem first2_any (bL bJ : Nat) (A : Option Addr) (cap : Nat) (l : List Sp) (hf : ∀ x ∈ l, fit x) (k : Nat) (hk : k < l.length) (x y : Nat) (hx : fit (x, y)) (W0 : World) (hb : W0.cell? ⟨bL, 0, none⟩ = some (.slice A l.length cap)) (hj : W0.cell? ⟨bJ, 0, none⟩ = some (.int .i64 (k : Int))) (hR : Row W0 W0.heap.size A l) :
    Calls Try.prog 36 (#[.agg #[.int .u64 (x : Int), .int .u64 (y : Int)]] ++ #[.pointer (some ⟨bL, 0, none⟩), .pointer (some ⟨bJ, 0, none⟩)]) W0 fun e w' => e = .returned (.bool (overlap (x, y) l[k])) ∧ Below W0.heap.size W0 w' := by
  obtain ⟨a, q, rfl, hq, hqb, hc3, hc4⟩ := hR.at hk
  have hfit := hf _ (List.getElem_mem hk)
  obtain ⟨z, hz⟩ : ∃ z, l[k] = z := ⟨_, rfl⟩
  rw [hz] at hc3 hc4 hfit ⊢
  obtain ⟨c, d⟩ := z
  obtain ⟨o, ho⟩ : ∃ o, o = overlap (x, y) (c, d) := ⟨_, rfl⟩
  rw [← ho]
  have HO := Lib.hid (show ∀ w, Calls Try.prog 18 #[.agg #[.int .u64 (x : Int), .int .u64 (y : Int)], .agg #[.int .u64 (c : Int), .int .u64 (d : Int)]] w fun e w' => e = .returned (.bool o) ∧ Below w.heap.size w w' from fun w => by rw [ho]; exact overlap_any x y c d hx hfit w)
  have Hb0 := Lib.hid (show Below W0.heap.size W0 (W0.alloc (spo x y)) from (Below.refl _ _).alloc (Nat.le_refl _) _)
  have HbL := Lib.hid (show (W0.alloc (spo x y)).cell? ⟨bL, 0, none⟩ = some (.slice (some a) l.length cap) from (World.cell?_alloc_lt W0 _ _ (World.block_lt_of_cell? W0 _ hb)).trans hb)
  have HbJ := Lib.hid (show (W0.alloc (spo x y)).cell? ⟨bJ, 0, none⟩ = some (.int .i64 (k : Int)) from (World.cell?_alloc_lt W0 _ _ (World.block_lt_of_cell? W0 _ hj)).trans hj)
  have Hq1 := Lib.hid (show (W0.alloc (spo x y)).cell? q = some (.int .u64 (c : Int)) from (World.cell?_alloc_lt W0 _ _ hqb).trans hc3)
  have Hq2 := Lib.hid (show (W0.alloc (spo x y)).cell? ⟨q.block, q.off + 1, none⟩ = some (.int .u64 (d : Int)) from (World.cell?_alloc_lt W0 (spo x y) ⟨q.block, q.off + 1, none⟩ hqb).trans hc4)
  have hk' : (k : Int) < (l.length : Int) := by omega
  clear hb hj hR hqb hc3 hc4 hfit hz ho hf hx
  go_enter Try.func36, Try.ntmps36
  go_wp2
  refine wp_region_held_drew (S := fun W => (Below W0.heap.size W0 W ∧ W.cell? ⟨W0.heap.size, 0, none⟩ = some (.int .u64 (x : Int)) ∧ W.cell? ⟨W0.heap.size, 1, none⟩ = some (.int .u64 (y : Int)) ∧ W.cell? ⟨bL, 0, none⟩ = some (.slice (some a) l.length cap) ∧ W.cell? ⟨bJ, 0, none⟩ = some (.int .i64 (k : Int))) ∧ (Below W0.heap.size W0 W ∧ W.cell? q = some (.int .u64 (c : Int)) ∧ W.cell? ⟨q.block, q.off + 1, none⟩ = some (.int .u64 (d : Int)) ∧ W.cell? q = some (.int .u64 (c : Int)) ∧ W.cell? q = some (.int .u64 (c : Int)))) (by kernel_rfl) (by exact ⟨⟨Hb0.out.drew, by simp, by simp, HbL.out, HbJ.out⟩, Hb0.out.drew, Hq1.out, Hq2.out, Hq1.out, Hq1.out⟩) (fun hS => ?_)
  (refine held_take (i := 0) (oi := ?ot180) (v := ?vt180) ?at180 (by kernel_rfl) (by kernel_rfl) (by kernel_rfl) ?bt180 ?ct180 ?dt180 (by assumption) ?rt180; (case at180 => (simp only [List.getElem?_toArray, List.getElem?_cons_zero]; rfl)); (case bt180 => exact fun _ _ _ h => h); (case ct180 => kernel_rfl); (case dt180 => (intro W hW; (try dsimp only at hW); go_split_ands; go_simp; (try with_reducible rfl))); (case' rt180 => simp only [Act.put, List.setIfInBounds_toArray, List.set_cons_zero, List.set_cons_succ]))
  (refine held_take (i := 1) (oi := ?ot181) (v := ?vt181) ?at181 (by kernel_rfl) (by kernel_rfl) (by kernel_rfl) ?bt181 ?ct181 ?dt181 (by assumption) ?rt181; (case at181 => (simp only [List.getElem?_toArray, List.getElem?_cons_zero, List.getElem?_cons_succ]; rfl)); (case bt181 => exact fun _ _ _ h => h); (case ct181 => kernel_rfl); (case dt181 => (intro W hW; (try dsimp only at hW); go_split_ands; go_simp; (try with_reducible rfl))); (case' rt181 => simp only [Act.put, List.setIfInBounds_toArray, List.set_cons_zero, List.set_cons_succ]))
  (refine held_take (i := 2) (oi := ?ot182) (v := ?vt182) ?at182 (by kernel_rfl) (by kernel_rfl) (by kernel_rfl) ?bt182 ?ct182 ?dt182 (by assumption) ?rt182; (case at182 => (simp only [List.getElem?_toArray, List.getElem?_cons_zero, List.getElem?_cons_succ]; rfl)); (case bt182 => exact fun _ _ _ h => h); (case ct182 => kernel_rfl); (case dt182 => (intro W hW; (try dsimp only at hW); go_split_ands; go_simp; (try with_reducible rfl))); (case' rt182 => simp only [Act.put, List.setIfInBounds_toArray, List.set_cons_zero, List.set_cons_succ]))
  (refine held_take (i := 3) (oi := ?ot183) (v := ?vt183) ?at183 (by kernel_rfl) (by kernel_rfl) (by kernel_rfl) ?bt183 ?ct183 ?dt183 (by assumption) ?rt183; (case at183 => (simp only [List.getElem?_toArray, List.getElem?_cons_zero, List.getElem?_cons_succ]; rfl)); (case bt183 => exact fun _ _ _ h => h); (case ct183 => kernel_rfl); (case dt183 => (intro W hW; (try dsimp only at hW); go_split_ands; go_simp; (try with_reducible rfl))); (case' rt183 => simp only [Act.put, List.setIfInBounds_toArray, List.set_cons_zero, List.set_cons_succ]))
  (refine held_take (i := 4) (oi := ?ot184) (v := ?vt184) ?at184 (by kernel_rfl) (by kernel_rfl) (by kernel_rfl) ?bt184 ?ct184 ?dt184 (by assumption) ?rt184; (case at184 => (simp only [List.getElem?_toArray, List.getElem?_cons_zero, List.getElem?_cons_succ]; rfl)); (case bt184 => exact fun _ _ _ h => h); (case ct184 => kernel_rfl); (case dt184 => (intro W hW; (try dsimp only at hW); go_split_ands; go_simp; (try with_reducible rfl))); (case' rt184 => simp only [Act.put, List.setIfInBounds_toArray, List.set_cons_zero, List.set_cons_succ]))
  refine held_one (i := 5) (oi := ?ot185) (by kernel_rfl) ?at185 ?ct185 (fun K5 hK5 => ?_)
  (case at185 => (simp only [List.getElem?_toArray, List.getElem?_cons_zero, List.getElem?_cons_succ]; rfl))
  (case ct185 => kernel_rfl)
  go_simp
  refine (HO.out _).mono ?_
  rintro e w1 ⟨rfl, hd⟩
  refine hK5 _ _ (show _ ∧ _ from ⟨keep4 hd hS.1, keep4 hd hS.2⟩) (fun hS5 => ?_)
  clear hS hd hK5 K5
  (refine held_take (i := 6) (oi := ?ot186) (v := ?vt186) ?at186 (by kernel_rfl) (by kernel_rfl) (by kernel_rfl) ?bt186 ?ct186 ?dt186 (by assumption) ?rt186; (case at186 => (simp only [List.getElem?_toArray, List.getElem?_cons_zero, List.getElem?_cons_succ]; rfl)); (case bt186 => exact fun _ _ _ h => h); (case ct186 => kernel_rfl); (case dt186 => (intro W hW; (try dsimp only at hW); go_split_ands; go_simp; (try with_reducible rfl))); (case' rt186 => simp only [Act.put, List.setIfInBounds_toArray, List.set_cons_zero, List.set_cons_succ]))
  refine wpAnyH_done (by kernel_rfl) ?_ _
  have HS := Lib.hid hS5
  clear hS5
  go_wp2
  go_ret
  exact ⟨rfl, HS.out.1.1⟩
def encSp (x : Sp) : List Value := [.int .u64 ((cut64 x).1 : Int), .int .u64 ((cut64 x).2 : Int)]
set_option maxHeartbeats 2000000 in
theorem first_any (A : Option Addr) (cap : Nat) (l : List Sp) (hl : l.length ≤ 100000) (hcap : l.length ≤ cap ∧ cap ≤ maxLen) (hf : ∀ x ∈ l, fit x) (w : World) (hR : Row w w.heap.size A l) :
    Calls Try.prog 22 #[.slice A l.length cap] w fun e w' => ∃ (i j : Nat) (b : Bool), e = .returned (.tuple #[.int .i64 i, .int .i64 j, .bool b]) ∧ FirstIs l i j b ∧ Below w.heap.size w w' := by
  have eg1 : ∀ args w, (callFunc 33 args).run Try.prog w = .ok (.enter 33 args) w := enters_of Try.func33 (by kernel_rfl) rfl
  have eg2 : ∀ args w, (callFunc 36 args).run Try.prog w = .ok (.enter 36 args) w := enters_of Try.func36 (by kernel_rfl) rfl
  obtain ⟨w1, hw1⟩ : ∃ w1, w1 = w.alloc (.cells #[.slice A l.length cap] 32) := ⟨_, rfl⟩
  have hb1 : Below w.heap.size w w1 := by rw [hw1]; exact (Below.refl _ w).alloc (Nat.le_refl _) _
  have hs1 : w1.heap.size = w.heap.size + 1 := by rw [hw1]; simp
  have hc1 : w1.cell? ⟨w.heap.size, 0, none⟩ = some (.slice A l.length cap) := by rw [hw1]; simp
  have hR1 : Row w1 w1.heap.size A l := (hR.below hb1).wide (by omega)
  have hS := search_below 33 #[.pointer (some ⟨w.heap.size, 0, none⟩)] l.length (fun i => clashB (l.take (i + 1))) w1 eg1 (by omega)
    (fun W i hi hW => first1_any w.heap.size A cap l hl hcap hf i hi W ((hW.cell (World.block_lt_of_cell? w1 _ hc1)).trans hc1) ((hR1.below hW).wide hW.size))
    (fun a b hab hb ha => clash_mono l a b hab hb ha)
  have hIdx : ∀ (k : Nat) (hk : k < l.length) (W : World), Below w1.heap.size w1 W → W.cell? ⟨W.heap.size - 1, 0, none⟩ = some (.int .i64 (k : Int)) → 
      Calls Try.prog 35 #[.slice A l.length cap, .func (.func 36) #[] #[.pointer (some ⟨w.heap.size, 0, none⟩), .pointer (some ⟨W.heap.size - 1, 0, none⟩)]] W fun e w' => e = .returned (.int .i64 (Lib.idxBy (fun _ y => overlap (cut64 y) l[k]) (l.take l.length) default)) ∧ Below W.heap.size W w' := by
    intro k hk W hW hj
    have hRW := (hR1.below hW).wide hW.size
    obtain ⟨a, rfl, hab, hcell⟩ := hRW (fun h => by subst h; cases hk)
    have hsp : a.spot = none := by
      have h0 := (hcell 0 (by omega)).1
      rw [show a.add (0 * 2) = a by simp [Addr.add]] at h0
      unfold World.cell? at h0
      split at h0
      · split at h0
        · cases h0
        · rename_i h; simpa using h
      · cases h0
    obtain ⟨b, off, sp⟩ := a
    simp only at hsp
    subst hsp
    refine AnyQ.slices_IndexFunc layH 2 Try.isAgg24 Try.sizeOf24 encSp (fun _ => rfl) (fun y => overlap (cut64 y) l[k]) 36 _ eg2 b off l.length cap l W ?_ (Nat.le_refl _) (by omega) hab ?_
    · intro W2 x hW2
      refine (first2_any w.heap.size (W.heap.size - 1) _ cap l hf k hk (cut64 x).1 (cut64 x).2 (cut64_fit x) W2 ?_ ?_ ((hRW.below hW2).wide hW2.size)).mono fun e w' ⟨he, hb⟩ => ⟨he, hW2.trans (hb.mono hW2.size)⟩
      · have h1 := (hW.cell (World.block_lt_of_cell? w1 _ hc1)).trans hc1
        exact (hW2.cell (World.block_lt_of_cell? W _ h1)).trans h1
      · exact (hW2.cell (World.block_lt_of_cell? W _ hj)).trans hj
    · intro j hj' i v hv
      have e : l[j]! = l[j] := getElem!_pos l j hj'
      rw [e] at hv
      unfold encSp at hv
      rw [cut64_eq (hf _ (List.getElem_mem hj'))] at hv
      have := hcell j hj'
      simp only [Addr.add] at this
      match i, hv with
      | 0, hv => simp at hv; subst hv; have h0 := this.1; split at h0 <;> simp_all
      | 1, hv => simp at hv; subst hv; have h0 := this.2; simp at h0; simpa [Nat.add_assoc] using h0
  have HS := Lib.hid hS
  have HI := Lib.hid hIdx
  have HW := Lib.hid hw1
  have HB := Lib.hid hb1
  have HSZ := Lib.hid hs1
  have HC1 := Lib.hid hc1
  have HF := Lib.hid hf
  clear hS hIdx hw1 hb1 hs1 hc1 hR hR1 hf hcap
  go_enter Try.func22, Try.ntmps22
  go_wp2_with (go_at_call 32; rw [← HW.out]; refine HS.out.mono ?_; rintro e w2 ⟨k, rfl, hk, hn, hp, hd⟩; have HN := Lib.hid hn; have HP := Lib.hid hp; have HD := Lib.hid hd; have hbl := (hd.cell (World.block_lt_of_cell? w1 _ HC1.out)).trans HC1.out; have hlt2 := World.block_lt_of_cell? w2 _ hbl; have hbl3 := (World.cell?_alloc_lt w2 (.cells #[.int .i64 (k : Int)] 3) ⟨w.heap.size, 0, none⟩ hlt2).trans hbl; clear hn hp hd hbl hlt2)
  · rename_i hcond
    have e : k = l.length := by
      have := eq_of_beq hcond
      omega
    go_ret3
    exact ⟨0, 0, false, rfl, search_none e HN.out, HB.out.trans ((HD.out.alloc HD.out.size _).mono HB.out.size)⟩
  · rename (((k : Int) == (l.length : Int)) = false) => hcond
    have hkl : k < l.length := by
      have : ¬ (k : Int) = (l.length : Int) := fun h => by rw [h] at hcond; simp at hcond
      omega
    obtain ⟨i, hfi, hidx⟩ := search_hit hkl HF.out HN.out (HP.out k (Nat.le_refl _) hkl)
    have hI := HI.out k hkl (w2.alloc (.cells #[.int .i64 (k : Int)] 3)) (HD.out.alloc HD.out.size _) (by simp)
    rw [show (w2.alloc (.cells #[.int .i64 (k : Int)] 3)).heap.size - 1 = w2.heap.size by simp, hidx] at hI
    have HI2 := Lib.hid hI
    have HFI := Lib.hid hfi
    have hbj : (w2.alloc (.cells #[.int .i64 (k : Int)] 3)).cell? ⟨w2.heap.size, 0, none⟩ = some (.int .i64 (k : Int)) := by simp
    have HBJ := Lib.hid hbj
    clear HI hI hfi hidx hbj
    refine HI2.out.mono ?_
    rintro e w3 ⟨rfl, hd⟩
    have Hd := Lib.hid hd
    have hbj := (hd.cell (World.block_lt_of_cell? _ _ HBJ.out)).trans HBJ.out
    clear hd
    simp only []
    have HW3 := Lib.hid (show Below w.heap.size w w3 from HB.out.trans (((HD.out.alloc HD.out.size _).trans (Hd.out.mono (by have := HD.out.size; simp; omega))).mono HB.out.size))
    go_wp2
    refine wp_region_held_drew (S := fun W => Below w.heap.size w W ∧ W.cell? ⟨w2.heap.size, 0, none⟩ = some (.int .i64 (k : Int))) (by kernel_rfl) (by exact ⟨HW3.out.drew, hbj⟩) (fun hS => ?_)
    (refine held_take (i := 0) (oi := ?ot187) (v := ?vt187) ?at187 (by kernel_rfl) (by kernel_rfl) (by kernel_rfl) ?bt187 ?ct187 ?dt187 (by assumption) ?rt187; (case at187 => (simp only [List.getElem?_toArray, List.getElem?_cons_zero]; rfl)); (case bt187 => exact fun _ _ _ h => h); (case ct187 => kernel_rfl); (case dt187 => (intro W hW; (try dsimp only at hW); go_split_ands; go_simp; (try with_reducible rfl))); (case' rt187 => simp only [Act.put, List.setIfInBounds_toArray, List.set_cons_zero, List.set_cons_succ]))
    (refine held_take (i := 1) (oi := ?ot188) (v := ?vt188) ?at188 (by kernel_rfl) (by kernel_rfl) (by kernel_rfl) ?bt188 ?ct188 ?dt188 (by assumption) ?rt188; (case at188 => (simp only [List.getElem?_toArray, List.getElem?_cons_zero, List.getElem?_cons_succ]; rfl)); (case bt188 => exact fun _ _ _ h => h); (case ct188 => kernel_rfl); (case dt188 => (intro W hW; (try dsimp only at hW); go_split_ands; go_simp; (try with_reducible rfl))); (case' rt188 => simp only [Act.put, List.setIfInBounds_toArray, List.set_cons_zero, List.set_cons_succ]))
    (refine held_take (i := 2) (oi := ?ot189) (v := ?vt189) ?at189 (by kernel_rfl) (by kernel_rfl) (by kernel_rfl) ?bt189 ?ct189 ?dt189 (by assumption) ?rt189; (case at189 => (simp only [List.getElem?_toArray, List.getElem?_cons_zero, List.getElem?_cons_succ]; rfl)); (case bt189 => exact fun _ _ _ h => h); (case ct189 => kernel_rfl); (case dt189 => (intro W hW; (try dsimp only at hW); go_split_ands; go_simp; (try with_reducible rfl))); (case' rt189 => simp only [Act.put, List.setIfInBounds_toArray, List.set_cons_zero, List.set_cons_succ]))
    (refine held_take (i := 3) (oi := ?ot190) (v := ?vt190) ?at190 (by kernel_rfl) (by kernel_rfl) (by kernel_rfl) ?bt190 ?ct190 ?dt190 (by assumption) ?rt190; (case at190 => (simp only [List.getElem?_toArray, List.getElem?_cons_zero, List.getElem?_cons_succ]; rfl)); (case bt190 => exact fun _ _ _ h => h); (case ct190 => kernel_rfl); (case dt190 => (intro W hW; (try dsimp only at hW); go_split_ands; go_simp; (try with_reducible rfl))); (case' rt190 => simp only [Act.put, List.setIfInBounds_toArray, List.set_cons_zero, List.set_cons_succ]))
    (refine held_take (i := 4) (oi := ?ot191) (v := ?vt191) ?at191 (by kernel_rfl) (by kernel_rfl) (by kernel_rfl) ?bt191 ?ct191 ?dt191 (by assumption) ?rt191; (case at191 => (simp only [List.getElem?_toArray, List.getElem?_cons_zero, List.getElem?_cons_succ]; rfl)); (case bt191 => exact fun _ _ _ h => h); (case ct191 => kernel_rfl); (case dt191 => (intro W hW; (try dsimp only at hW); go_split_ands; go_simp; (try with_reducible rfl))); (case' rt191 => simp only [Act.put, List.setIfInBounds_toArray, List.set_cons_zero, List.set_cons_succ]))
    refine wpAnyH_done (by kernel_rfl) ?_ _
    have HS := Lib.hid hS
    clear hS
    go_wp2
    go_ret3
    exact ⟨i, k, true, rfl, HFI.out, HS.out.1⟩
end Go.Proofs.Ythedpjlafapfeaa
