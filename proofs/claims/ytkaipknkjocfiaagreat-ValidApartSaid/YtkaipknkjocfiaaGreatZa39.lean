import Derived.Shelf.SlicesQ.IndexFunc
import Derived.Test.YtkaipknkjocfiaaGreatZa38
namespace Go.Proofs.YtkaipknkjocfiaaGreat
open Go.RowKit
theorem Row.take {w : World} {B : Nat} {A : Option Addr} {l : List Sp} (h : Row w B A l) (n : Nat) : Row w B A (l.take n) := fun hn => by
 obtain ⟨a, e, hb, hc⟩ := h (fun h0 => hn (by rw [h0]; simp))
 refine ⟨a, e, hb, fun j hj => ?_⟩
 have hj' : j < l.length := by simp at hj; omega
 simp only [List.getElem_take]
 exact hc j hj'
set_option maxHeartbeats 1000000 in
theorem first1_any (bL : Nat) (A : Option Addr) (cap : Nat) (l : List Sp) (hl : l.length ≤ 100000) (hcap : l.length ≤ cap ∧ cap ≤ maxLen) (hf : ∀ x ∈ l, fit x) (i : Nat) (hi : i < l.length) (w : World) (hb : w.cell? ⟨bL, 0, none⟩ = some (.slice A l.length cap)) (hR : Row w w.heap.size A l) :
  Calls Tryz.prog 126 (#[.int .i64 (i : Int)] ++ #[.pointer (some ⟨bL, 0, none⟩)]) w fun e w' => e = .returned (.bool (clashB (l.take (i + 1)))) ∧ Below w.heap.size w w' := by
 obtain ⟨a, rfl, _⟩ := hR (fun h => by subst h; cases hi)
 have hc := clash_any (some a) cap (l.take (i + 1)) (by simp; omega) (fun x hx => hf x (List.mem_of_mem_take hx)) w (hR.take _)
 rw [show (l.take (i + 1)).length = i + 1 by simp; omega] at hc
 have HC := Lib.hid hc
 have h1 : (i : Int) + 1 ≤ cap := by omega
 have h2 : (i : Int) + 1 ≤ 1000000 := by omega
 have h3 : (0 : Int) ≤ (i : Int) + 1 := by omega
 have h4 := hcap.2
 have h5 : ((i : Int) + 1).toNat = i + 1 := by omega
 have h6 : i + 1 ≤ cap := by omega
 unfold maxLen at h4
 clear hc hR hf hcap
 go_enter Tryz.func126, Tryz.ntmps126
 go_wp2_with (go_at_call 127; refine HC.out.mono ?_; rintro e w1 ⟨rfl, hd⟩)
 go_ret
 exact ⟨rfl, hd⟩
set_option maxHeartbeats 1000000 in
theorem first2_any (bL bJ : Nat) (A : Option Addr) (cap : Nat) (l : List Sp) (hf : ∀ x ∈ l, fit x) (k : Nat) (hk : k < l.length) (x y : Nat) (hx : fit (x, y)) (W0 : World) (hb : W0.cell? ⟨bL, 0, none⟩ = some (.slice A l.length cap)) (hj : W0.cell? ⟨bJ, 0, none⟩ = some (.int .i64 (k : Int))) (hR : Row W0 W0.heap.size A l) :
  Calls Tryz.prog 129 (#[.agg #[.int .u64 (x : Int), .int .u64 (y : Int)]] ++ #[.pointer (some ⟨bL, 0, none⟩), .pointer (some ⟨bJ, 0, none⟩)]) W0 fun e w' => e = .returned (.bool (overlap (x, y) l[k])) ∧ Below W0.heap.size W0 w' := by
 obtain ⟨a, q, rfl, hq, hqb, hc3, hc4⟩ := hR.at hk
 have hfit := hf _ (List.getElem_mem hk)
 obtain ⟨z, hz⟩ : ∃ z, l[k] = z := ⟨_, rfl⟩
 rw [hz] at hc3 hc4 hfit ⊢
 obtain ⟨c, d⟩ := z
 obtain ⟨o, ho⟩ : ∃ o, o = overlap (x, y) (c, d) := ⟨_, rfl⟩
 rw [← ho]
 have HO := Lib.hid (show ∀ w, Calls Tryz.prog 83 #[.agg #[.int .u64 (x : Int), .int .u64 (y : Int)], .agg #[.int .u64 (c : Int), .int .u64 (d : Int)]] w fun e w' => e = .returned (.bool o) ∧ Below w.heap.size w w' from fun w => by rw [ho]; exact overlap_any x y c d hx hfit w)
 have Hb0 := Lib.hid (show Below W0.heap.size W0 (W0.alloc (spo x y)) from (Below.refl _ _).alloc (Nat.le_refl _) _)
 have HbL := Lib.hid (show (W0.alloc (spo x y)).cell? ⟨bL, 0, none⟩ = some (.slice (some a) l.length cap) from (World.cell?_alloc_lt W0 _ _ (World.block_lt_of_cell? W0 _ hb)).trans hb)
 have HbJ := Lib.hid (show (W0.alloc (spo x y)).cell? ⟨bJ, 0, none⟩ = some (.int .i64 (k : Int)) from (World.cell?_alloc_lt W0 _ _ (World.block_lt_of_cell? W0 _ hj)).trans hj)
 have Hq1 := Lib.hid (show (W0.alloc (spo x y)).cell? q = some (.int .u64 (c : Int)) from (World.cell?_alloc_lt W0 _ _ hqb).trans hc3)
 have Hq2 := Lib.hid (show (W0.alloc (spo x y)).cell? ⟨q.block, q.off + 1, none⟩ = some (.int .u64 (d : Int)) from (World.cell?_alloc_lt W0 (spo x y) ⟨q.block, q.off + 1, none⟩ hqb).trans hc4)
 have hk' : (k : Int) < (l.length : Int) := by omega
 clear hb hj hR hqb hc3 hc4 hfit hz ho hf hx
 go_enter Tryz.func129, Tryz.ntmps129
 go_wp2
 refine wp_region_held_drew (S := fun W => (Below W0.heap.size W0 W ∧ W.cell? ⟨W0.heap.size, 0, none⟩ = some (.int .u64 (x : Int)) ∧ W.cell? ⟨W0.heap.size, 1, none⟩ = some (.int .u64 (y : Int)) ∧ W.cell? ⟨bL, 0, none⟩ = some (.slice (some a) l.length cap) ∧ W.cell? ⟨bJ, 0, none⟩ = some (.int .i64 (k : Int))) ∧ (Below W0.heap.size W0 W ∧ W.cell? q = some (.int .u64 (c : Int)) ∧ W.cell? ⟨q.block, q.off + 1, none⟩ = some (.int .u64 (d : Int)) ∧ W.cell? q = some (.int .u64 (c : Int)) ∧ W.cell? q = some (.int .u64 (c : Int)))) (by kernel_rfl) (by exact ⟨⟨Hb0.out.drew, by simp, by simp, HbL.out, HbJ.out⟩, Hb0.out.drew, Hq1.out, Hq2.out, Hq1.out, Hq1.out⟩) (fun hS => ?_)
 refine tA 0 (h := ?_)
 refine tA 1 (h := ?_)
 refine tA 2 (h := ?_)
 refine tA 3 (h := ?_)
 refine tA 4 (h := ?_)
 refine oQ 5 (h := fun K5 hK5 => ?_)
 go_simp
 refine (HO.out _).mono ?_
 rintro e w1 ⟨rfl, hd⟩
 refine hK5 _ _ (show _ ∧ _ from ⟨keep4 hd hS.1, keep4 hd hS.2⟩) (fun hS5 => ?_)
 clear hS hd hK5 K5
 refine tA 6 (h := ?_)
 refine wpAnyH_done (by kernel_rfl) ?_ _
 have HS := Lib.hid hS5
 clear hS5
 go_wp2
 go_ret
 exact ⟨rfl, HS.out.1.1⟩
def encSp (x : Sp) : List Value := [.int .u64 ((cut64 x).1 : Int), .int .u64 ((cut64 x).2 : Int)]
set_option maxHeartbeats 2000000 in
theorem first_any (A : Option Addr) (cap : Nat) (l : List Sp) (hl : l.length ≤ 100000) (hcap : l.length ≤ cap ∧ cap ≤ maxLen) (hf : ∀ x ∈ l, fit x) (w : World) (hR : Row w w.heap.size A l) :
   Calls Tryz.prog 92 #[.slice A l.length cap] w fun e w' => ∃ (i j : Nat) (b : Bool), e = .returned (.tuple #[.int .i64 i, .int .i64 j, .bool b]) ∧ FirstIs l i j b ∧ Below w.heap.size w w' := by
 have eg1 : ∀ args w, (callFunc 126 args).run Tryz.prog w = .ok (.enter 126 args) w := enters_of Tryz.func126 (by kernel_rfl) rfl
 have eg2 : ∀ args w, (callFunc 129 args).run Tryz.prog w = .ok (.enter 129 args) w := enters_of Tryz.func129 (by kernel_rfl) rfl
 obtain ⟨w1, hw1⟩ : ∃ w1, w1 = w.alloc (.cells #[.slice A l.length cap] 40) := ⟨_, rfl⟩
 have hb1 : Below w.heap.size w w1 := by rw [hw1]; exact (Below.refl _ w).alloc (Nat.le_refl _) _
 have hs1 : w1.heap.size = w.heap.size + 1 := by rw [hw1]; simp
 have hc1 : w1.cell? ⟨w.heap.size, 0, none⟩ = some (.slice A l.length cap) := by rw [hw1]; simp
 have hR1 : Row w1 w1.heap.size A l := (hR.below hb1).wide (by omega)
 have hS := search_below 126 #[.pointer (some ⟨w.heap.size, 0, none⟩)] l.length (fun i => clashB (l.take (i + 1))) w1 eg1 (by omega)
   (fun W i hi hW => first1_any w.heap.size A cap l hl hcap hf i hi W ((hW.cell (World.block_lt_of_cell? w1 _ hc1)).trans hc1) ((hR1.below hW).wide hW.size))
   (fun a b hab hb ha => clash_mono l a b hab hb ha)
 have hIdx : ∀ (k : Nat) (hk : k < l.length) (W : World), Below w1.heap.size w1 W → W.cell? ⟨W.heap.size - 1, 0, none⟩ = some (.int .i64 (k : Int)) →
     Calls Tryz.prog 128 #[.slice A l.length cap, .func (.func 129) #[] #[.pointer (some ⟨w.heap.size, 0, none⟩), .pointer (some ⟨W.heap.size - 1, 0, none⟩)]] W fun e w' => e = .returned (.int .i64 (Lib.idxBy (fun _ y => overlap (cut64 y) l[k]) (l.take l.length) default)) ∧ Below W.heap.size W w' := by
   intro k hk W hW hj
   have hRW := (hR1.below hW).wide hW.size
   obtain ⟨a, rfl, hab, hcell⟩ := hRW (fun h => by subst h; cases hk)
   have hsp : a.spot = none := by
     have h0 := (hcell 0 (by omega)).1
     rw [show a.add (0 * 2) = a by simp [Addr.add]] at h0
     unfold World.cell? at h0
     split at h0
     · split at h0
       · cases h0
       · rename_i h; simpa using h
     · cases h0
   obtain ⟨b, off, sp⟩ := a
   simp only at hsp
   subst hsp
   refine AnyQ.slices_IndexFunc layH 2 Tryz.isAgg24 Tryz.sizeOf24 encSp (fun _ => rfl) (fun y => overlap (cut64 y) l[k]) 129 _ eg2 b off l.length cap l W ?_ (Nat.le_refl _) (by omega) hab ?_
   · intro W2 x hW2
     refine (first2_any w.heap.size (W.heap.size - 1) _ cap l hf k hk (cut64 x).1 (cut64 x).2 (cut64_fit x) W2 ?_ ?_ ((hRW.below hW2).wide hW2.size)).mono fun e w' ⟨he, hb⟩ => ⟨he, hW2.trans (hb.mono hW2.size)⟩
     · have h1 := (hW.cell (World.block_lt_of_cell? w1 _ hc1)).trans hc1
       exact (hW2.cell (World.block_lt_of_cell? W _ h1)).trans h1
     · exact (hW2.cell (World.block_lt_of_cell? W _ hj)).trans hj
   · intro j hj' i v hv
     have e : l[j]! = l[j] := getElem!_pos l j hj'
     rw [e] at hv
     unfold encSp at hv
     rw [cut64_eq (hf _ (List.getElem_mem hj'))] at hv
     have := hcell j hj'
     simp only [Addr.add] at this
     match i, hv with
     | 0, hv => simp at hv; subst hv; have h0 := this.1; split at h0 <;> simp_all
     | 1, hv => simp at hv; subst hv; have h0 := this.2; simp at h0; simpa [Nat.add_assoc] using h0
 have HS := Lib.hid hS
 have HI := Lib.hid hIdx
 have HW := Lib.hid hw1
 have HB := Lib.hid hb1
 have HSZ := Lib.hid hs1
 have HC1 := Lib.hid hc1
 have HF := Lib.hid hf
 clear hS hIdx hw1 hb1 hs1 hc1 hR hR1 hf hcap
 go_enter Tryz.func92, Tryz.ntmps92
 go_wp2_with (go_at_call 125; rw [← HW.out]; refine HS.out.mono ?_; rintro e w2 ⟨k, rfl, hk, hn, hp, hd⟩; have HN := Lib.hid hn; have HP := Lib.hid hp; have HD := Lib.hid hd; have hbl := (hd.cell (World.block_lt_of_cell? w1 _ HC1.out)).trans HC1.out; have hlt2 := World.block_lt_of_cell? w2 _ hbl; have hbl3 := (World.cell?_alloc_lt w2 (.cells #[.int .i64 (k : Int)] 3) ⟨w.heap.size, 0, none⟩ hlt2).trans hbl; clear hn hp hd hbl hlt2)
 · rename_i hcond
   have e : k = l.length := by
     have := eq_of_beq hcond
     omega
   go_ret3
   exact ⟨0, 0, false, rfl, search_none e HN.out, HB.out.trans ((HD.out.alloc HD.out.size _).mono HB.out.size)⟩
 · rename (((k : Int) == (l.length : Int)) = false) => hcond
   have hkl : k < l.length := by
     have : ¬ (k : Int) = (l.length : Int) := fun h => by rw [h] at hcond; simp at hcond
     omega
   obtain ⟨i, hfi, hidx⟩ := search_hit hkl HF.out HN.out (HP.out k (Nat.le_refl _) hkl)
   have hI := HI.out k hkl (w2.alloc (.cells #[.int .i64 (k : Int)] 3)) (HD.out.alloc HD.out.size _) (by simp)
   rw [show (w2.alloc (.cells #[.int .i64 (k : Int)] 3)).heap.size - 1 = w2.heap.size by simp, hidx] at hI
   have HI2 := Lib.hid hI
   have HFI := Lib.hid hfi
   have hbj : (w2.alloc (.cells #[.int .i64 (k : Int)] 3)).cell? ⟨w2.heap.size, 0, none⟩ = some (.int .i64 (k : Int)) := by simp
   have HBJ := Lib.hid hbj
   clear HI hI hfi hidx hbj
   refine HI2.out.mono ?_
   rintro e w3 ⟨rfl, hd⟩
   have Hd := Lib.hid hd
   have hbj := (hd.cell (World.block_lt_of_cell? _ _ HBJ.out)).trans HBJ.out
   clear hd
   simp only []
   have HW3 := Lib.hid (show Below w.heap.size w w3 from HB.out.trans (((HD.out.alloc HD.out.size _).trans (Hd.out.mono (by have := HD.out.size; simp; omega))).mono HB.out.size))
   go_wp2
   refine wp_region_held_drew (S := fun W => Below w.heap.size w W ∧ W.cell? ⟨w2.heap.size, 0, none⟩ = some (.int .i64 (k : Int))) (by kernel_rfl) (by exact ⟨HW3.out.drew, hbj⟩) (fun hS => ?_)
   refine tA 0 (h := ?_)
   refine tA 1 (h := ?_)
   refine tA 2 (h := ?_)
   refine tA 3 (h := ?_)
   refine tA 4 (h := ?_)
   refine wpAnyH_done (by kernel_rfl) ?_ _
   have HS := Lib.hid hS
   clear hS
   go_wp2
   go_ret3
   exact ⟨i, k, true, rfl, HFI.out, HS.out.1⟩
end Go.Proofs.YtkaipknkjocfiaaGreat
namespace Go.Proofs.YtkaipknkjocfiaaGreat
open Go.RowKit Go.Maps
theorem codeFirst : CodeFirst := fun A cap l w h1 h2 h3 hf hR => (first_any A cap l h1 ⟨h2, h3⟩ hf w (row_of hR)).mono fun e w' hh => by
 obtain ⟨i, j, b, he, hi, hb⟩ := hh
 exact ⟨i, j, by rw [he, first_clash hi], hb⟩
def cpuS (x : Cf) (n : Nat) : List Lit := (x.gs.take n).flatMap fun t => cpuL t.cpus 32
theorem cpuS_succ (x : Cf) (n : Nat) (hn : n < x.gs.length) : cpuS x (n + 1) = cpuS x n ++ cpuL x.gs[n].cpus 32 := by
 unfold cpuS
 rw [List.take_succ_eq_append_getElem hn, List.flatMap_append]
 simp
theorem all_congr_range {n : Nat} {f g : Nat → Bool} (h : ∀ i, i < n → f i = g i) : (List.range n).all f = (List.range n).all g := by
 rw [Bool.eq_iff_iff, List.all_eq_true, List.all_eq_true]
 exact ⟨fun hh i hi => by rw [← h i (List.mem_range.1 hi)]; exact hh i hi, fun hh i hi => by rw [h i (List.mem_range.1 hi)]; exact hh i hi⟩
theorem bit_test (m j : Nat) : bitS (m : Int) (j : Int) = m.testBit j := by
 unfold bitS
 rw [Nat.testBit_eq_decide_div_mod_eq, Int.toNat_natCast]
 exact decide_eq_decide.2 (by constructor <;> intro h <;> norm_cast at * )
theorem inL_cpuL (m j : Nat) (hj : j < 32) : inL (cpuL (m : Int) 32) (.int .i64 (j : Int)) = m.testBit j := by
 unfold inL cpuL
 rw [Bool.eq_iff_iff, List.any_eq_true]
 constructor
 · rintro ⟨y, hy, hk⟩
   obtain ⟨i, hi, rfl⟩ := List.mem_map.1 hy
   have h2 := (List.mem_filter.1 hi).2
   simp [Lit.sameKey] at hk
   obtain rfl : i = j := by omega
   rw [← bit_test]; exact h2
 · intro h
   exact ⟨_, List.mem_map.2 ⟨j, List.mem_filter.2 ⟨List.mem_range.2 hj, by rw [bit_test]; exact h⟩, rfl⟩, by simp [Lit.sameKey]⟩
theorem inL_flat {α : Type} (l : List α) (f : α → List Lit) (k : Lit) : inL (l.flatMap f) k = l.any fun t => inL (f t) k := by
 induction l with
 | nil => rfl
 | cons t l ih => rw [List.flatMap_cons, inL_append, ih, List.any_cons]
theorem and_zero (m k : Nat) : (m &&& k = 0) ↔ ∀ j, m.testBit j = true → k.testBit j = false := by
 constructor
 · intro h j hj
   have := congrArg (fun z => z.testBit j) h
   simp only [Nat.testBit_and, Nat.zero_testBit, hj, Bool.true_and] at this
   exact this
 · intro h
   refine Nat.eq_of_testBit_eq fun j => ?_
   rw [Nat.testBit_and, Nat.zero_testBit]
   cases hj : m.testBit j with
   | false => rfl
   | true => rw [h j hj]; rfl
theorem lt_two_pow_iff (m c : Nat) : m / 2 ^ c = 0 ↔ ∀ j, m.testBit j = true → j < c := by
 rw [Nat.div_eq_zero_iff_lt (Nat.two_pow_pos c)]
 constructor
 · intro h j hj
   rcases Nat.lt_or_ge j c with h1 | h1
   · exact h1
   · have := Nat.testBit_lt_two_pow (Nat.lt_of_lt_of_le h (Nat.pow_le_pow_right (by decide) h1))
     rw [this] at hj
     cases hj
 · intro h
   refine Nat.lt_pow_two_of_testBit m fun j hj => ?_
   cases hb : m.testBit j with
   | false => rfl
   | true => have := h j hb; omega
theorem cpus_is {b : Bd} {x : Cf} (hb : CfB x) (hc : 0 ≤ b.cpus ∧ b.cpus ≤ 32) {n : Nat} (hn : n < x.gs.length) : cpuK x.gs[n].cpus b.cpus (cpuS x n) = cpusB b x n := by
 obtain ⟨c, hc1⟩ := Int.eq_ofNat_of_zero_le hc.1
 have hm : ∀ i (hi : i < x.gs.length), ∃ m : Nat, x.gs[i].cpus = (m : Int) ∧ m < 4294967296 ∧ maskN x.gs[i] = m := fun i hi => by
   have := (hb.gs _ (List.getElem_mem hi)).cpus
   unfold u32B at this
   exact ⟨x.gs[i].cpus.toNat, by omega, by omega, rfl⟩
 obtain ⟨m, hm1, hm2, hm3⟩ := hm n hn
 unfold cpusB
 rw [List.getElem?_eq_getElem hn]
 simp only
 rw [hm3, hm1, hc1, show ((c : Int)).toNat = c from rfl]
 unfold cpuK
 have hmz : (!((m : Int) == 0)) = !(m == 0) := by
   congr 1
   exact Bool.eq_iff_iff.2 (by simp)
 rw [hmz]
 have h32 : ∀ j, m.testBit j = true → j < 32 := (lt_two_pow_iff m 32).1 (Nat.div_eq_of_lt (by omega))
 have hin : ∀ j : Nat, j < 32 → (inL (cpuS x n) (.int .i64 (j : Int)) = true ↔ ∃ i, ∃ hi : i < x.gs.length, i < n ∧ (maskN x.gs[i]).testBit j = true) := fun j hj => by
   unfold cpuS
   rw [inL_flat, List.any_eq_true]
   constructor
   · rintro ⟨t, ht, hk⟩
     obtain ⟨i, hi, rfl⟩ := List.mem_take_iff_getElem.1 ht
     obtain ⟨mi, h1, h2, h3⟩ := hm i (by omega)
     rw [h1, inL_cpuL mi j hj] at hk
     exact ⟨i, by omega, by omega, by rw [h3]; exact hk⟩
   · rintro ⟨i, hi, hin, hk⟩
     obtain ⟨mi, h1, h2, h3⟩ := hm i hi
     refine ⟨x.gs[i], List.mem_take_iff_getElem.2 ⟨i, by omega, rfl⟩, ?_⟩
     rw [h1, inL_cpuL mi j hj, ← h3]
     exact hk
 rw [Bool.eq_iff_iff]
 simp only [Bool.and_eq_true, List.all_eq_true, List.mem_range, decide_eq_true_eq, Bool.not_eq_true', beq_iff_eq]
 have hat : ∀ j : Nat, j < 32 → (cpuAt (m : Int) (c : Int) (cpuS x n) j = true ↔ (m.testBit j = true → j < c ∧ inL (cpuS x n) (.int .i64 (j : Int)) = false)) := fun j hj => by
   unfold cpuAt
   rw [bit_test]
   cases m.testBit j with
   | false => simp
   | true =>
     simp only [Bool.not_true, Bool.false_or, Bool.and_eq_true, decide_eq_true_eq, Bool.not_eq_true']
     constructor
     · rintro ⟨h1, h2⟩ _
       exact ⟨by omega, h2⟩
     · intro h
       obtain ⟨h1, h2⟩ := h trivial
       exact ⟨by omega, h2⟩
 constructor
 · rintro ⟨h1, h2⟩
   refine ⟨⟨h2, (lt_two_pow_iff m c).2 fun j hj => ((hat j (h32 j hj)).1 (h1 j (h32 j hj)) hj).1⟩, fun i hi => ?_⟩
   have hil : i < x.gs.length := by omega
   rw [List.getElem?_eq_getElem hil, Option.getD_some, and_zero]
   intro j hj
   have := ((hat j (h32 j hj)).1 (h1 j (h32 j hj)) hj).2
   rw [← Bool.not_eq_true, hin j (h32 j hj)] at this
   rw [← Bool.not_eq_true]
   exact fun hb => this ⟨i, hil, hi, hb⟩
 · rintro ⟨⟨h1, h2⟩, h3⟩
   refine ⟨fun j hj => (hat j hj).2 fun hb => ⟨(lt_two_pow_iff m c).1 h2 j hb, ?_⟩, h1⟩
   rw [← Bool.not_eq_true, hin j hj]
   rintro ⟨i, hi, hil, hk⟩
   have := h3 i hil
   rw [List.getElem?_eq_getElem hi, Option.getD_some, and_zero] at this
   rw [this j hb] at hk
   cases hk
theorem once_is (ls : List (List Int)) (g i : Nat) (v : Int) (hg : g < ls.length) : onceB ls g i v = !((ls.take g).flatten ++ (ls.getD g []).take i).contains v := by
 unfold onceB
 rw [Bool.eq_iff_iff, List.all_eq_true]
 simp only [List.mem_range, List.all_eq_true, Bool.or_eq_true, Bool.and_eq_true, decide_eq_true_eq, Bool.not_eq_true', beq_eq_false_iff_ne, ne_eq]
 rw [← Bool.not_eq_true, List.contains_iff_mem, List.mem_append, not_or]
 constructor
 · intro h
   constructor
   · intro hm
     obtain ⟨l, hl, hv⟩ := List.mem_flatten.1 hm
     obtain ⟨k, hk, rfl⟩ := List.mem_take_iff_getElem.1 hl
     obtain ⟨j, hj, rfl⟩ := List.getElem_of_mem hv
     have hkl : k < ls.length := by omega
     have := h k (by omega) j (by rw [List.getD_eq_getElem?_getD, List.getElem?_eq_getElem hkl, Option.getD_some]; exact hj)
     rcases this with ⟨h1, _⟩ | h1
     · omega
     · apply h1
       rw [List.getD_eq_getElem?_getD, List.getElem?_eq_getElem hkl, Option.getD_some, List.getElem?_eq_getElem hj]
   · intro hm
     obtain ⟨j, hj, hv⟩ := List.mem_take_iff_getElem.1 hm
     have hjl : j < (ls.getD g []).length := by omega
     rcases h g (by omega) j hjl with ⟨_, h1⟩ | h1
     · omega
     · apply h1
       rw [List.getElem?_eq_getElem hjl, hv]
 · rintro ⟨h1, h2⟩ k hk j hj
   by_cases hkg : k = g
   · subst hkg
     rcases Nat.lt_or_ge j i with h3 | h3
     · right
       intro e
       apply h2
       rw [List.getElem?_eq_getElem hj] at e
       injection e with e
       exact List.mem_take_iff_getElem.2 ⟨j, by omega, e⟩
     · exact .inl ⟨rfl, h3⟩
   · right
     intro e
     apply h1
     have hkl : k < ls.length := by omega
     rw [List.getD_eq_getElem?_getD, List.getElem?_eq_getElem hkl, Option.getD_some] at hj e
     rw [List.getElem?_eq_getElem hj] at e
     injection e with e
     exact List.mem_flatten.2 ⟨ls[k], List.mem_take_iff_getElem.2 ⟨k, by omega, rfl⟩, by rw [← e]; exact List.getElem_mem hj⟩
def irqN (x : Cf) (n : Nat) : List Lit := (x.gs.take n).flatMap fun t => t.irqs.map fun q => Lit.int .i64 q.number
def strN (x : Cf) (n : Nat) : List Lit := (x.gs.take n).flatMap fun t => t.strs.map (Lit.int .u32)
theorem irqN_succ (x : Cf) (n : Nat) (hn : n < x.gs.length) : irqN x (n + 1) = irqN x n ++ x.gs[n].irqs.map fun q => Lit.int .i64 q.number := by
 unfold irqN
 rw [List.take_succ_eq_append_getElem hn, List.flatMap_append]
 simp
theorem strN_succ (x : Cf) (n : Nat) (hn : n < x.gs.length) : strN x (n + 1) = strN x n ++ x.gs[n].strs.map (Lit.int .u32) := by
 unfold strN
 rw [List.take_succ_eq_append_getElem hn, List.flatMap_append]
 simp
def irqT (x : Cf) (n : Nat) (t : Gs) (i : Nat) : List Lit := irqN x n ++ (t.irqs.take i).map fun q => Lit.int .i64 q.number
def strT (x : Cf) (n : Nat) (t : Gs) (i : Nat) : List Lit := strN x n ++ (t.strs.take i).map (Lit.int .u32)
theorem irqT_succ (x : Cf) (n : Nat) (t : Gs) (i : Nat) (hi : i < t.irqs.length) : irqT x n t (i + 1) = irqT x n t i ++ [.int .i64 t.irqs[i].number] := by
 unfold irqT
 rw [List.take_succ_eq_append_getElem hi, List.map_append, List.append_assoc]
 rfl
theorem strT_succ (x : Cf) (n : Nat) (t : Gs) (i : Nat) (hi : i < t.strs.length) : strT x n t (i + 1) = strT x n t i ++ [.int .u32 t.strs[i]] := by
 unfold strT
 rw [List.take_succ_eq_append_getElem hi, List.map_append, List.append_assoc]
 rfl
theorem irqT_all (x : Cf) (n : Nat) (hn : n < x.gs.length) : irqT x n x.gs[n] x.gs[n].irqs.length = irqN x (n + 1) := by
 unfold irqT
 rw [List.take_length, irqN_succ x n hn]
theorem strT_all (x : Cf) (n : Nat) (hn : n < x.gs.length) : strT x n x.gs[n] x.gs[n].strs.length = strN x (n + 1) := by
 unfold strT
 rw [List.take_length, strN_succ x n hn]
theorem flat_map_map {α β : Type} (k : β → Lit) (f : α → List β) (l : List α) : (l.flatMap fun t => (f t).map k) = ((l.map f).flatten).map k := by
 induction l with
 | nil => rfl
 | cons t l ih => rw [List.flatMap_cons, ih, List.map_cons, List.flatten_cons, List.map_append]
theorem irq_once (x : Cf) (n i : Nat) (v : Int) (hn : n < x.gs.length) : (!inL (irqT x n x.gs[n] i) (.int .i64 v)) = onceB (x.gs.map fun u => u.irqs.map Ir.number) n i v := by
 rw [once_is _ _ _ _ (by rw [List.length_map]; exact hn)]
 congr 1
 have e : irqT x n x.gs[n] i = (((x.gs.map fun u => u.irqs.map Ir.number).take n).flatten ++ ((x.gs.map fun u => u.irqs.map Ir.number).getD n []).take i).map (Lit.int .i64) := by
  unfold irqT irqN
  rw [List.map_append, List.getD_eq_getElem?_getD, List.getElem?_map, List.getElem?_eq_getElem hn, Option.map_some, Option.getD_some, ← List.map_take, ← List.map_take, List.map_map]
  congr 1
  rw [← flat_map_map]
  congr 1
  funext t
  rw [List.map_map]
  rfl
 rw [e, inL_int]
theorem str_once (x : Cf) (n i : Nat) (v : Int) (hn : n < x.gs.length) : (!inL (strT x n x.gs[n] i) (.int .u32 v)) = onceB (x.gs.map Gs.strs) n i v := by
 rw [once_is _ _ _ _ (by rw [List.length_map]; exact hn)]
 congr 1
 have e : strT x n x.gs[n] i = (((x.gs.map Gs.strs).take n).flatten ++ ((x.gs.map Gs.strs).getD n []).take i).map (Lit.int .u32) := by
  unfold strT strN
  rw [List.map_append, List.getD_eq_getElem?_getD, List.getElem?_map, List.getElem?_eq_getElem hn, Option.map_some, Option.getD_some, ← List.map_take]
  congr 1
  rw [← flat_map_map]
 rw [e, inL_int]
def irqR (b : Bd) (x : Cf) (n : Nat) (t : Gs) (i : Nat) : Bool := match t.irqs[i]? with
 | none => true
 | some q => irqK b t q && !inL (irqT x n t i) (.int .i64 q.number)
def strR (b : Bd) (x : Cf) (n : Nat) (t : Gs) (i : Nat) : Bool := match t.strs[i]? with
 | none => true
 | some q => decide (q < b.strs) && !inL (strT x n t i) (.int .u32 q)
theorem irqs_is {b : Bd} {x : Cf} (hb : CfB x) {n : Nat} (hn : n < x.gs.length) (hp : ∀ q ∈ x.gs[n].irqs, 0 ≤ q.cpu) : irqsB b x n x.gs[n] = (List.range x.gs[n].irqs.length).all (irqR b x n x.gs[n]) := by
 have hc := (hb.gs _ (List.getElem_mem hn)).cpus
 unfold u32B at hc
 unfold irqsB
 refine all_congr_range fun i hi => ?_
 unfold irqR
 rw [List.getElem?_eq_getElem hi]
 simp only
 rw [irq_is hc (hp _ (List.getElem_mem hi)), irq_once x n i _ hn]
theorem strs_is {b : Bd} {x : Cf} {n : Nat} (hn : n < x.gs.length) : strsB b x n x.gs[n] = (List.range x.gs[n].strs.length).all (strR b x n x.gs[n]) := by
 unfold strsB
 refine all_congr_range fun i hi => ?_
 unfold strR
 rw [List.getElem?_eq_getElem hi]
 simp only
 rw [str_once x n i _ hn]
def memS (x : Cf) (n : Nat) : List Sp := (List.range n).flatMap fun i : Nat => physG x (i : Int)
theorem memS_succ (x : Cf) (n : Nat) : memS x (n + 1) = memS x n ++ physG x (n : Int) := by
 unfold memS
 rw [List.range_succ, List.flatMap_append]
 simp
def ApartS (l : List Sp) : Prop := l.Pairwise fun x y => overlap x y = false
theorem owned_iff (x : Cf) (n : Nat) : ownedB x n = true ↔ ApartS (physG x (n : Int)) ∧ ∀ i, i < n → ∀ s ∈ physG x (i : Int), ∀ t ∈ physG x (n : Int), overlap s t = false := by
 unfold ownedB
 simp only [Bool.and_eq_true, Bool.not_eq_true', List.all_eq_true, List.mem_range]
 rw [clashB_false]
 unfold olapsB
 constructor
 · rintro ⟨h1, h2⟩
   refine ⟨h1, fun i hi s hs t ht => ?_⟩
   obtain ⟨j, hj, rfl⟩ := List.getElem_of_mem ht
   have := h2 i hi j hj
   rw [← Bool.not_eq_true, List.any_eq_true] at this
   rw [overlap_sym, ← Bool.not_eq_true]
   intro ho
   apply this
   refine ⟨s, hs, ?_⟩
   rw [List.getD_eq_getElem?_getD, List.getElem?_eq_getElem hj, Option.getD_some]
   exact ho
 · rintro ⟨h1, h2⟩
   refine ⟨h1, fun i hi j hj => ?_⟩
   rw [← Bool.not_eq_true, List.any_eq_true]
   rintro ⟨s, hs, ho⟩
   rw [List.getD_eq_getElem?_getD, List.getElem?_eq_getElem hj, Option.getD_some, overlap_sym] at ho
   rw [h2 i hi s hs _ (List.getElem_mem hj)] at ho
   cases ho
theorem mem_in {x : Cf} {n : Nat} {s : Sp} : s ∈ memS x n ↔ ∃ i, i < n ∧ s ∈ physG x (i : Int) := by
 unfold memS
 simp [List.mem_flatMap]
theorem mem_apart {x : Cf} : ∀ n, (∀ i, i < n → ownedB x i = true) → ApartS (memS x n)
 | 0, _ => List.Pairwise.nil
 | n + 1, h => by
  have hn := (owned_iff x n).1 (h n (by omega))
  rw [memS_succ]
  refine List.pairwise_append.2 ⟨mem_apart n fun i hi => h i (by omega), hn.1, fun s hs t ht => ?_⟩
  obtain ⟨i, hi, hsi⟩ := mem_in.1 hs
  exact hn.2 i hi s hsi t ht
theorem own_is {x : Cf} {n : Nat} (h : ApartS (memS x n)) : (!clashB (memS x n ++ physG x (n : Int))) = ownedB x n := by
 rw [Bool.eq_iff_iff, owned_iff, Bool.not_eq_true', clashB_false]
 constructor
 · intro hp
   obtain ⟨_, h2, h3⟩ := List.pairwise_append.1 hp
   exact ⟨h2, fun i hi s hs t ht => h3 s (mem_in.2 ⟨i, hi, hs⟩) t ht⟩
 · rintro ⟨h1, h2⟩
   refine List.pairwise_append.2 ⟨h, h1, fun s hs t ht => ?_⟩
   obtain ⟨i, hi, hsi⟩ := mem_in.1 hs
   exact h2 i hi s hsi t ht
def memC (x : Cf) (k : Nat) : List Sp := memS x x.gs.length ++ (x.chs.take k).map spC
theorem memC_succ (x : Cf) (k : Nat) (hk : k < x.chs.length) : memC x (k + 1) = memC x k ++ [spC x.chs[k]] := by
 unfold memC
 rw [List.take_succ_eq_append_getElem hk, List.map_append, List.append_assoc]
 rfl
def chanK (b : Bd) (x : Cf) (k : Nat) (s : Sp) : Bool := paged s && (oursB b s && !clashB (memC x k ++ [s]))
theorem apart_snoc {l : List Sp} {s : Sp} (h : ApartS l) : (!clashB (l ++ [s])) = l.all fun o => !overlap o s := by
 rw [Bool.eq_iff_iff, Bool.not_eq_true', clashB_false, List.all_eq_true]
 constructor
 · intro hp
   obtain ⟨_, _, h3⟩ := List.pairwise_append.1 hp
   intro o ho
   rw [h3 o ho s (List.mem_singleton.2 rfl)]; rfl
 · intro hh
   refine List.pairwise_append.2 ⟨h, List.pairwise_singleton _ _, fun o ho t ht => ?_⟩
   rw [List.mem_singleton.1 ht]
   have := hh o ho
   simpa using this
theorem memC_apart {b : Bd} {x : Cf} (h : ApartS (memS x x.gs.length)) : ∀ k, k ≤ x.chs.length → (∀ i (hi : i < x.chs.length), i < k → chanK b x i (spC x.chs[i]) = true) → ApartS (memC x k)
 | 0, _, _ => by unfold memC; simpa using h
 | k + 1, hk, hh => by
  have ih := memC_apart (b := b) h k (by omega) fun i hi hlt => hh i hi (by omega)
  have hc := hh k (by omega) (by omega)
  unfold chanK at hc
  simp only [Bool.and_eq_true] at hc
  rw [memC_succ x k (by omega)]
  have := hc.2.2
  rw [Bool.not_eq_true', clashB_false] at this
  exact this
theorem chan_is {b : Bd} {x : Cf} (hd : ∀ t ∈ x.gs, t.devs.all (devB b) = true) (k : Nat) (hk : k < x.chs.length) (ha : ApartS (memC x k)) : chanK b x k (spC x.chs[k]) = chanB b x k x.chs[k] := by
 unfold chanK chanB
 rw [apart_snoc ha]
 obtain ⟨s, hs⟩ : ∃ s, s = spC x.chs[k] := ⟨_, rfl⟩
 rw [← hs]
 unfold oursB
 cases hp : paged s with
 | false => rfl
 | true =>
  cases hw : within s b.r with
  | false => rfl
  | true =>
   cases ho : overlap s b.l with
   | true => rfl
   | false =>
    simp only [Bool.true_and, Bool.not_false]
    rw [Bool.eq_iff_iff]
    simp only [List.all_eq_true, Bool.and_eq_true, Bool.not_eq_true']
    constructor
    · intro h
      refine ⟨fun t ht v hv => ?_, fun u hu => ?_⟩
      · obtain ⟨i, hi, rfl⟩ := List.getElem_of_mem ht
        rw [overlap_sym]
        refine h _ (List.mem_append.2 (.inl (mem_in.2 ⟨i, hi, ?_⟩)))
        unfold physG
        rw [guestAt_yes hi]
        simp only
        rw [physP_is]
        exact List.mem_append.2 (.inl (List.mem_map.2 ⟨v, hv, rfl⟩))
      · rw [overlap_sym]
        exact h _ (List.mem_append.2 (.inr (List.mem_map.2 ⟨u, hu, rfl⟩)))
    · rintro ⟨h1, h2⟩ o ho2
      rw [overlap_sym]
      rcases List.mem_append.1 ho2 with h3 | h3
      · obtain ⟨i, hi, hsi⟩ := mem_in.1 h3
        rcases phys_mem hi hsi with ⟨y, hy, rfl⟩ | ⟨y, hy, rfl⟩
        · exact h1 _ (List.getElem_mem hi) y hy
        · have := List.all_eq_true.1 (hd _ (List.getElem_mem hi)) y hy
          unfold devB at this
          simp only [Bool.and_eq_true, Bool.not_eq_true'] at this
          rw [← Bool.not_eq_true]
          intro hov
          rw [overlap_sym] at hov
          have h4 := overlap_in hov hw
          rw [this.2.2] at h4
          cases h4
      · obtain ⟨u, hu, rfl⟩ := List.mem_map.1 h3
        exact h2 u hu
end Go.Proofs.YtkaipknkjocfiaaGreat
