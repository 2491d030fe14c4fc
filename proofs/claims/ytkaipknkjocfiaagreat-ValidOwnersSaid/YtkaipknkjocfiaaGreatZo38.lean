import Derived.Lib.Hide
import Derived.Shelf.AbstractIn
import Derived.Shelf.SlicesQ.IndexFunc
import Derived.Test.YtkaipknkjocfiaaGreatZo37
namespace Go.Proofs.YtkaipknkjocfiaaGreat
open Go.RowKit
set_option maxHeartbeats 2000000 in
theorem clash_any (A : Option Addr) (cap : Nat) (l : List Sp) (hl : l.length ≤ 100000) (hf : ∀ x ∈ l, fit x) (w : World) (hR : Row w w.heap.size A l) :
  Calls Tryz.prog 127 #[.slice A l.length cap] w fun e w' => e = .returned (.bool (clashB l)) ∧ Below w.heap.size w w' := by
 have Hf := Lib.hid hf
 have Hl := Lib.hid hl
 have Hr := Lib.hid (rising_any A cap l hf hl w hR)
 obtain ⟨v0, hv0⟩ : ∃ v0, v0 = clashB l := ⟨_, rfl⟩
 rw [← hv0]
 have HV := Lib.hid hv0
 clear hl hf hR hv0
 go_enter Tryz.func127, Tryz.ntmps127
 go_wp2_with (go_at_call 162; refine Hr.out.mono ?_; rintro e w1 ⟨v, r, rfl, hri, ho, hb⟩; obtain ⟨A1, c1, rfl, hrow⟩ := ho.row; have hrl := Nat.le_trans (rising_len hri) Hl.out; have Hrl := Lib.hid hrl; have Hri := Lib.hid hri; have Hb := Lib.hid hb; have Hrow := Lib.hid hrow; clear hri hb hrow ho hrl)
 clear Hr
 go_loopw [4] (fun i W => ∃ m : Nat, (m = 0 ∨ m + 1 ≤ r.length) ∧ i = .int .i64 ((m : Int) + 1) ∧ RowKit.Hid (∀ i, i < m → hitAt r i (i + 1) = false) ∧ Below w1.heap.size w1 W) (fun i _ => r.length + 1 - (intOf i).toNat)
 case atStart => exact ⟨0, .inl rfl, by simp, Lib.hid fun _ h => absurd h (Nat.not_lt_zero _), Below.refl _ _⟩
 case round =>
  obtain ⟨m, hm, rfl, hno, hbel⟩ := hrel
  have hb3 : m + 1 ≤ 1000001 := by have := Hrl.out; omega
  by_cases hlt : m + 1 < r.length
  · have hml : m < r.length := by omega
    obtain ⟨a, p, rfl, hp, hpb, hc1, hc2⟩ := (Hrow.out.below hbel).at hml
    obtain ⟨a', q, ha, hq, hqb, hc3, hc4⟩ := (Hrow.out.below hbel).at hlt
    obtain rfl : a = a' := Option.some.inj ha
    have hfit := rising_fit Hf.out Hri.out _ (List.getElem_mem hml)
    have hfit2 := rising_fit Hf.out Hri.out _ (List.getElem_mem hlt)
    have hhit := hitAt_lt hml hlt
    obtain ⟨x, hx⟩ : ∃ x, r[m] = x := ⟨_, rfl⟩
    obtain ⟨y, hy⟩ : ∃ y, r[m + 1] = y := ⟨_, rfl⟩
    rw [hx] at hc1 hc2 hfit hhit
    rw [hy] at hc3 hc4 hfit2 hhit
    obtain ⟨b, s⟩ := x
    obtain ⟨c, d⟩ := y
    have HX := Lib.hid hx
    have HY := Lib.hid hy
    have Hbel := Lib.hid (show Below w.heap.size w wr from Hb.out.trans (hbel.mono Hb.out.size))
    have Hbel1 := Lib.hid hbel
    obtain ⟨o, ho⟩ : ∃ o, o = hitAt r m (m + 1) := ⟨_, rfl⟩
    have HO := Lib.hid (show ∀ w, Calls Tryz.prog 83 #[.agg #[.int .u64 (b : Int), .int .u64 (s : Int)], .agg #[.int .u64 (c : Int), .int .u64 (d : Int)]] w fun e w' => e = .returned (.bool o) ∧ Below w.heap.size w w' from fun w => by rw [ho, hhit]; exact overlap_any b s c d hfit hfit2 w)
    have HH := Lib.hid ho
    have hlt' : (m : Int) + 1 < (r.length : Int) := by omega
    have hml' : (m : Int) < (r.length : Int) := by omega
    have hlen' := Hrl.out
    have hw0 : IntKind.i64.wrap (m : Int) = m := by simp [IntKind.wrap, IntKind.bits, IntKind.signed]; omega
    have hz0 : (0 : Int) ≤ (m : Int) + 1 := by omega
    clear hx hy hpb hqb hbel hfit hfit2 hhit ha ho
    go_wp2
    refine wp_region_held_drew (S := fun W => Below w1.heap.size w1 W ∧ W.cell? p = some (.int .u64 (b : Int)) ∧ W.cell? ⟨p.block, p.off + 1, none⟩ = some (.int .u64 (s : Int)) ∧ W.cell? q = some (.int .u64 (c : Int)) ∧ W.cell? ⟨q.block, q.off + 1, none⟩ = some (.int .u64 (d : Int))) (by kernel_rfl) (by exact ⟨Hbel1.out.drew, hc1, hc2, hc3, hc4⟩) (fun hS => ?_)
    refine tA 0 (h := ?_)
    refine tA 1 (h := ?_)
    refine tA 2 (h := ?_)
    refine tA 3 (h := ?_)
    refine tA 4 (h := ?_)
    refine tA 5 (h := ?_)
    refine tA 6 (h := ?_)
    refine tA 7 (h := ?_)
    refine tA 8 (h := ?_)
    refine oQ 9 (h := fun K9 hK9 => ?_)
    go_simp
    refine (HO.out _).mono ?_
    rintro e w1 ⟨rfl, hd⟩
    refine hK9 _ _ (keep4 hd hS) (fun hS9 => ?_)
    clear hS hd hK9 K9
    refine wpAnyH_done (by kernel_rfl) ?_ _
    have HS := Lib.hid hS9
    clear hS9
    cases o
    · go_wp2
      go_roundw
      case rel =>
       refine ⟨m + 1, .inr (by omega), by go_num, Lib.hid fun i' hi' => ?_, ?_⟩
       · rcases Nat.lt_succ_iff_lt_or_eq.1 hi' with h | rfl
         · exact hno.out i' h
         · exact HH.out.symm
       · exact HS.out.1
      case measure => simp [intOf]; omega
    · have e : v0 = true := by
       rw [HV.out, ← Bool.not_eq_false, clash_perm Hri.out, ← clashB_false, clashB_hit]
       intro h
       have := h m (m + 1) (by omega) hlt
       rw [← HH.out] at this
       cases this
      have HE := Lib.hid e
      clear e
      go_wp2
      go_ret
      exact ⟨by rw [HE.out]; rfl, Hb.out.trans (HS.out.1.mono Hb.out.size)⟩
  · have e : v0 = false := by
      rw [HV.out, clash_perm Hri.out]
      refine clash_near r Hri.out.2 (fun x hx => (List.mem_filter.1 (Hri.out.1.mem_iff.1 hx)).2) (fun i hi => ?_)
      rw [← hitAt_lt (by omega) hi]
      exact hno.out i (by omega)
    have HE := Lib.hid e
    have Hbel := Lib.hid (show Below w.heap.size w wr from Hb.out.trans (hbel.mono Hb.out.size))
    clear e hbel
    have hlen' := Hrl.out
    go_wp2
    go_ret
    exact ⟨by rw [HE.out]; rfl, Hbel.out⟩
end Go.Proofs.YtkaipknkjocfiaaGreat
namespace Go.Proofs.YtkaipknkjocfiaaGreat
open Go.RowKit Go.Shelf
set_option maxHeartbeats 1000000 in
set_option maxRecDepth 100000 in
theorem search_below (g : Nat) (cb : Array Value) (n : Nat) (p : Nat → Bool) (w : World) (eg : ∀ args w, (callFunc g args).run Tryz.prog w = .ok (.enter g args) w) (hn : n ≤ 1000000)
  (hf : ∀ (W : World) (i : Nat), i < n → Below w.heap.size w W → Calls Tryz.prog g (#[.int .i64 (i : Int)] ++ cb) W fun e w' => e = .returned (.bool (p i)) ∧ Below W.heap.size W w')
  (hmono : ∀ a b, a ≤ b → b < n → p a = true → p b = true) :
  Calls Tryz.prog 125 #[.int .i64 (n : Int), .func (.func g) #[] cb] w fun e w' => ∃ k : Nat, e = .returned (.int .i64 (k : Int)) ∧ k ≤ n ∧ (∀ t, t < k → p t = false) ∧ (∀ t, k ≤ t → t < n → p t = true) ∧ Below w.heap.size w w' := by
 have HF := Lib.hid hf
 have HM := Lib.hid hmono
 have HN := Lib.hid hn
 clear hf hmono
 go_enter Tryz.func125, Tryz.ntmps125
 go_wp2
 go_loopw [5, 6] (fun s5 s6 wr => ∃ lo hi : Nat, s5 = .int .i64 (lo : Int) ∧ s6 = .int .i64 (hi : Int) ∧ lo ≤ hi ∧ hi ≤ n ∧ RowKit.Hid ((∀ t, t < lo → p t = false) ∧ (∀ t, hi ≤ t → t < n → p t = true)) ∧ Below w.heap.size w wr) (fun s5 s6 _ => (intOf s6).toNat - (intOf s5).toNat)
 case atStart => exact ⟨0, n, rfl, rfl, Nat.zero_le _, Nat.le_refl _, Lib.hid ⟨fun t ht => absurd ht (Nat.not_lt_zero _), fun t h1 h2 => by omega⟩, Below.refl _ _⟩
 case round =>
  obtain ⟨lo, hi, rfl, rfl, hlh, hin, I, hbel⟩ := hrel
  by_cases hlt : lo < hi
  · have hc := HF.out wr ((lo + hi) / 2) (by omega) hbel
    rw [show (((lo + hi) / 2 : Nat) : Int) = ((lo : Int) + (hi : Int)) / 2 by omega] at hc
    have Hbel := Lib.hid hbel
    clear hbel
    obtain ⟨b, hb⟩ : ∃ b, b = p ((lo + hi) / 2) := ⟨_, rfl⟩
    rw [← hb] at hc
    have HP := Lib.hid hb
    have HC := Lib.hid hc
    clear hb hc
    cases b
    · go_wp2_with (go_at_fn g; refine HC.out.mono ?_; rintro e w' ⟨rfl, hd⟩; have H1 := Lib.hid (Hbel.out.trans (hd.mono Hbel.out.size)); clear hd)
      go_roundw
      case rel =>
       refine ⟨(lo + hi) / 2 + 1, hi, by rw [show ((lo : Int) + (hi : Int)) / 2 + 1 = (((lo + hi) / 2 + 1 : Nat) : Int) by omega], rfl, by omega, hin, Lib.hid ⟨fun t ht => ?_, I.out.2⟩, H1.out⟩
       cases h : p t with
       | false => rfl
       | true => have := HM.out t ((lo + hi) / 2) (by omega) (by omega) h; rw [← HP.out] at this; cases this
      case measure => simp [intOf]; omega
    · go_wp2_with (go_at_fn g; refine HC.out.mono ?_; rintro e w' ⟨rfl, hd⟩; have H1 := Lib.hid (Hbel.out.trans (hd.mono Hbel.out.size)); clear hd)
      go_roundw
      case rel => exact ⟨lo, (lo + hi) / 2, rfl, by rw [show ((lo : Int) + (hi : Int)) / 2 = (((lo + hi) / 2 : Nat) : Int) by omega], by omega, by omega, Lib.hid ⟨I.out.1, fun t ht htn => HM.out ((lo + hi) / 2) t ht htn HP.out.symm⟩, H1.out⟩
      case measure => simp [intOf]; omega
  · obtain rfl : hi = lo := by omega
    have Hbel := Lib.hid hbel
    clear hbel
    go_wp2
    go_ret
    exact ⟨hi, rfl, hin, I.out.1, I.out.2, Hbel.out⟩
end Go.Proofs.YtkaipknkjocfiaaGreat
namespace Go.Proofs.YtkaipknkjocfiaaGreat
open Go.RowKit
theorem Row.take {w : World} {B : Nat} {A : Option Addr} {l : List Sp} (h : Row w B A l) (n : Nat) : Row w B A (l.take n) := fun hn => by
 obtain ⟨a, e, hb, hc⟩ := h (fun h0 => hn (by rw [h0]; simp))
 refine ⟨a, e, hb, fun j hj => ?_⟩
 have hj' : j < l.length := by simp at hj; omega
 simp only [List.getElem_take]
 exact hc j hj'
set_option maxHeartbeats 1000000 in
theorem first1_any (bL : Nat) (A : Option Addr) (cap : Nat) (l : List Sp) (hl : l.length ≤ 100000) (hcap : l.length ≤ cap ∧ cap ≤ maxLen) (hf : ∀ x ∈ l, fit x) (i : Nat) (hi : i < l.length) (w : World) (hb : w.cell? ⟨bL, 0, none⟩ = some (.slice A l.length cap)) (hR : Row w w.heap.size A l) :
  Calls Tryz.prog 126 (#[.int .i64 (i : Int)] ++ #[.pointer (some ⟨bL, 0, none⟩)]) w fun e w' => e = .returned (.bool (clashB (l.take (i + 1)))) ∧ Below w.heap.size w w' := by
 obtain ⟨a, rfl, _⟩ := hR (fun h => by subst h; cases hi)
 have hc := clash_any (some a) cap (l.take (i + 1)) (by simp; omega) (fun x hx => hf x (List.mem_of_mem_take hx)) w (hR.take _)
 rw [show (l.take (i + 1)).length = i + 1 by simp; omega] at hc
 have HC := Lib.hid hc
 have h1 : (i : Int) + 1 ≤ cap := by omega
 have h2 : (i : Int) + 1 ≤ 1000000 := by omega
 have h3 : (0 : Int) ≤ (i : Int) + 1 := by omega
 have h4 := hcap.2
 have h5 : ((i : Int) + 1).toNat = i + 1 := by omega
 have h6 : i + 1 ≤ cap := by omega
 unfold maxLen at h4
 clear hc hR hf hcap
 go_enter Tryz.func126, Tryz.ntmps126
 go_wp2_with (go_at_call 127; refine HC.out.mono ?_; rintro e w1 ⟨rfl, hd⟩)
 go_ret
 exact ⟨rfl, hd⟩
set_option maxHeartbeats 1000000 in
theorem first2_any (bL bJ : Nat) (A : Option Addr) (cap : Nat) (l : List Sp) (hf : ∀ x ∈ l, fit x) (k : Nat) (hk : k < l.length) (x y : Nat) (hx : fit (x, y)) (W0 : World) (hb : W0.cell? ⟨bL, 0, none⟩ = some (.slice A l.length cap)) (hj : W0.cell? ⟨bJ, 0, none⟩ = some (.int .i64 (k : Int))) (hR : Row W0 W0.heap.size A l) :
  Calls Tryz.prog 129 (#[.agg #[.int .u64 (x : Int), .int .u64 (y : Int)]] ++ #[.pointer (some ⟨bL, 0, none⟩), .pointer (some ⟨bJ, 0, none⟩)]) W0 fun e w' => e = .returned (.bool (overlap (x, y) l[k])) ∧ Below W0.heap.size W0 w' := by
 obtain ⟨a, q, rfl, hq, hqb, hc3, hc4⟩ := hR.at hk
 have hfit := hf _ (List.getElem_mem hk)
 obtain ⟨z, hz⟩ : ∃ z, l[k] = z := ⟨_, rfl⟩
 rw [hz] at hc3 hc4 hfit ⊢
 obtain ⟨c, d⟩ := z
 obtain ⟨o, ho⟩ : ∃ o, o = overlap (x, y) (c, d) := ⟨_, rfl⟩
 rw [← ho]
 have HO := Lib.hid (show ∀ w, Calls Tryz.prog 83 #[.agg #[.int .u64 (x : Int), .int .u64 (y : Int)], .agg #[.int .u64 (c : Int), .int .u64 (d : Int)]] w fun e w' => e = .returned (.bool o) ∧ Below w.heap.size w w' from fun w => by rw [ho]; exact overlap_any x y c d hx hfit w)
 have Hb0 := Lib.hid (show Below W0.heap.size W0 (W0.alloc (spo x y)) from (Below.refl _ _).alloc (Nat.le_refl _) _)
 have HbL := Lib.hid (show (W0.alloc (spo x y)).cell? ⟨bL, 0, none⟩ = some (.slice (some a) l.length cap) from (World.cell?_alloc_lt W0 _ _ (World.block_lt_of_cell? W0 _ hb)).trans hb)
 have HbJ := Lib.hid (show (W0.alloc (spo x y)).cell? ⟨bJ, 0, none⟩ = some (.int .i64 (k : Int)) from (World.cell?_alloc_lt W0 _ _ (World.block_lt_of_cell? W0 _ hj)).trans hj)
 have Hq1 := Lib.hid (show (W0.alloc (spo x y)).cell? q = some (.int .u64 (c : Int)) from (World.cell?_alloc_lt W0 _ _ hqb).trans hc3)
 have Hq2 := Lib.hid (show (W0.alloc (spo x y)).cell? ⟨q.block, q.off + 1, none⟩ = some (.int .u64 (d : Int)) from (World.cell?_alloc_lt W0 (spo x y) ⟨q.block, q.off + 1, none⟩ hqb).trans hc4)
 have hk' : (k : Int) < (l.length : Int) := by omega
 clear hb hj hR hqb hc3 hc4 hfit hz ho hf hx
 go_enter Tryz.func129, Tryz.ntmps129
 go_wp2
 refine wp_region_held_drew (S := fun W => (Below W0.heap.size W0 W ∧ W.cell? ⟨W0.heap.size, 0, none⟩ = some (.int .u64 (x : Int)) ∧ W.cell? ⟨W0.heap.size, 1, none⟩ = some (.int .u64 (y : Int)) ∧ W.cell? ⟨bL, 0, none⟩ = some (.slice (some a) l.length cap) ∧ W.cell? ⟨bJ, 0, none⟩ = some (.int .i64 (k : Int))) ∧ (Below W0.heap.size W0 W ∧ W.cell? q = some (.int .u64 (c : Int)) ∧ W.cell? ⟨q.block, q.off + 1, none⟩ = some (.int .u64 (d : Int)) ∧ W.cell? q = some (.int .u64 (c : Int)) ∧ W.cell? q = some (.int .u64 (c : Int)))) (by kernel_rfl) (by exact ⟨⟨Hb0.out.drew, by simp, by simp, HbL.out, HbJ.out⟩, Hb0.out.drew, Hq1.out, Hq2.out, Hq1.out, Hq1.out⟩) (fun hS => ?_)
 refine tA 0 (h := ?_)
 refine tA 1 (h := ?_)
 refine tA 2 (h := ?_)
 refine tA 3 (h := ?_)
 refine tA 4 (h := ?_)
 refine oQ 5 (h := fun K5 hK5 => ?_)
 go_simp
 refine (HO.out _).mono ?_
 rintro e w1 ⟨rfl, hd⟩
 refine hK5 _ _ (show _ ∧ _ from ⟨keep4 hd hS.1, keep4 hd hS.2⟩) (fun hS5 => ?_)
 clear hS hd hK5 K5
 refine tA 6 (h := ?_)
 refine wpAnyH_done (by kernel_rfl) ?_ _
 have HS := Lib.hid hS5
 clear hS5
 go_wp2
 go_ret
 exact ⟨rfl, HS.out.1.1⟩
def encSp (x : Sp) : List Value := [.int .u64 ((cut64 x).1 : Int), .int .u64 ((cut64 x).2 : Int)]
set_option maxHeartbeats 2000000 in
theorem first_any (A : Option Addr) (cap : Nat) (l : List Sp) (hl : l.length ≤ 100000) (hcap : l.length ≤ cap ∧ cap ≤ maxLen) (hf : ∀ x ∈ l, fit x) (w : World) (hR : Row w w.heap.size A l) :
   Calls Tryz.prog 92 #[.slice A l.length cap] w fun e w' => ∃ (i j : Nat) (b : Bool), e = .returned (.tuple #[.int .i64 i, .int .i64 j, .bool b]) ∧ FirstIs l i j b ∧ Below w.heap.size w w' := by
 have eg1 : ∀ args w, (callFunc 126 args).run Tryz.prog w = .ok (.enter 126 args) w := enters_of Tryz.func126 (by kernel_rfl) rfl
 have eg2 : ∀ args w, (callFunc 129 args).run Tryz.prog w = .ok (.enter 129 args) w := enters_of Tryz.func129 (by kernel_rfl) rfl
 obtain ⟨w1, hw1⟩ : ∃ w1, w1 = w.alloc (.cells #[.slice A l.length cap] 40) := ⟨_, rfl⟩
 have hb1 : Below w.heap.size w w1 := by rw [hw1]; exact (Below.refl _ w).alloc (Nat.le_refl _) _
 have hs1 : w1.heap.size = w.heap.size + 1 := by rw [hw1]; simp
 have hc1 : w1.cell? ⟨w.heap.size, 0, none⟩ = some (.slice A l.length cap) := by rw [hw1]; simp
 have hR1 : Row w1 w1.heap.size A l := (hR.below hb1).wide (by omega)
 have hS := search_below 126 #[.pointer (some ⟨w.heap.size, 0, none⟩)] l.length (fun i => clashB (l.take (i + 1))) w1 eg1 (by omega)
   (fun W i hi hW => first1_any w.heap.size A cap l hl hcap hf i hi W ((hW.cell (World.block_lt_of_cell? w1 _ hc1)).trans hc1) ((hR1.below hW).wide hW.size))
   (fun a b hab hb ha => clash_mono l a b hab hb ha)
 have hIdx : ∀ (k : Nat) (hk : k < l.length) (W : World), Below w1.heap.size w1 W → W.cell? ⟨W.heap.size - 1, 0, none⟩ = some (.int .i64 (k : Int)) →
     Calls Tryz.prog 128 #[.slice A l.length cap, .func (.func 129) #[] #[.pointer (some ⟨w.heap.size, 0, none⟩), .pointer (some ⟨W.heap.size - 1, 0, none⟩)]] W fun e w' => e = .returned (.int .i64 (Lib.idxBy (fun _ y => overlap (cut64 y) l[k]) (l.take l.length) default)) ∧ Below W.heap.size W w' := by
   intro k hk W hW hj
   have hRW := (hR1.below hW).wide hW.size
   obtain ⟨a, rfl, hab, hcell⟩ := hRW (fun h => by subst h; cases hk)
   have hsp : a.spot = none := by
     have h0 := (hcell 0 (by omega)).1
     rw [show a.add (0 * 2) = a by simp [Addr.add]] at h0
     unfold World.cell? at h0
     split at h0
     · split at h0
       · cases h0
       · rename_i h; simpa using h
     · cases h0
   obtain ⟨b, off, sp⟩ := a
   simp only at hsp
   subst hsp
   refine AnyQ.slices_IndexFunc layH 2 Tryz.isAgg24 Tryz.sizeOf24 encSp (fun _ => rfl) (fun y => overlap (cut64 y) l[k]) 129 _ eg2 b off l.length cap l W ?_ (Nat.le_refl _) (by omega) hab ?_
   · intro W2 x hW2
     refine (first2_any w.heap.size (W.heap.size - 1) _ cap l hf k hk (cut64 x).1 (cut64 x).2 (cut64_fit x) W2 ?_ ?_ ((hRW.below hW2).wide hW2.size)).mono fun e w' ⟨he, hb⟩ => ⟨he, hW2.trans (hb.mono hW2.size)⟩
     · have h1 := (hW.cell (World.block_lt_of_cell? w1 _ hc1)).trans hc1
       exact (hW2.cell (World.block_lt_of_cell? W _ h1)).trans h1
     · exact (hW2.cell (World.block_lt_of_cell? W _ hj)).trans hj
   · intro j hj' i v hv
     have e : l[j]! = l[j] := getElem!_pos l j hj'
     rw [e] at hv
     unfold encSp at hv
     rw [cut64_eq (hf _ (List.getElem_mem hj'))] at hv
     have := hcell j hj'
     simp only [Addr.add] at this
     match i, hv with
     | 0, hv => simp at hv; subst hv; have h0 := this.1; split at h0 <;> simp_all
     | 1, hv => simp at hv; subst hv; have h0 := this.2; simp at h0; simpa [Nat.add_assoc] using h0
 have HS := Lib.hid hS
 have HI := Lib.hid hIdx
 have HW := Lib.hid hw1
 have HB := Lib.hid hb1
 have HSZ := Lib.hid hs1
 have HC1 := Lib.hid hc1
 have HF := Lib.hid hf
 clear hS hIdx hw1 hb1 hs1 hc1 hR hR1 hf hcap
 go_enter Tryz.func92, Tryz.ntmps92
 go_wp2_with (go_at_call 125; rw [← HW.out]; refine HS.out.mono ?_; rintro e w2 ⟨k, rfl, hk, hn, hp, hd⟩; have HN := Lib.hid hn; have HP := Lib.hid hp; have HD := Lib.hid hd; have hbl := (hd.cell (World.block_lt_of_cell? w1 _ HC1.out)).trans HC1.out; have hlt2 := World.block_lt_of_cell? w2 _ hbl; have hbl3 := (World.cell?_alloc_lt w2 (.cells #[.int .i64 (k : Int)] 3) ⟨w.heap.size, 0, none⟩ hlt2).trans hbl; clear hn hp hd hbl hlt2)
 · rename_i hcond
   have e : k = l.length := by
     have := eq_of_beq hcond
     omega
   go_ret3
   exact ⟨0, 0, false, rfl, search_none e HN.out, HB.out.trans ((HD.out.alloc HD.out.size _).mono HB.out.size)⟩
 · rename (((k : Int) == (l.length : Int)) = false) => hcond
   have hkl : k < l.length := by
     have : ¬ (k : Int) = (l.length : Int) := fun h => by rw [h] at hcond; simp at hcond
     omega
   obtain ⟨i, hfi, hidx⟩ := search_hit hkl HF.out HN.out (HP.out k (Nat.le_refl _) hkl)
   have hI := HI.out k hkl (w2.alloc (.cells #[.int .i64 (k : Int)] 3)) (HD.out.alloc HD.out.size _) (by simp)
   rw [show (w2.alloc (.cells #[.int .i64 (k : Int)] 3)).heap.size - 1 = w2.heap.size by simp, hidx] at hI
   have HI2 := Lib.hid hI
   have HFI := Lib.hid hfi
   have hbj : (w2.alloc (.cells #[.int .i64 (k : Int)] 3)).cell? ⟨w2.heap.size, 0, none⟩ = some (.int .i64 (k : Int)) := by simp
   have HBJ := Lib.hid hbj
   clear HI hI hfi hidx hbj
   refine HI2.out.mono ?_
   rintro e w3 ⟨rfl, hd⟩
   have Hd := Lib.hid hd
   have hbj := (hd.cell (World.block_lt_of_cell? _ _ HBJ.out)).trans HBJ.out
   clear hd
   simp only []
   have HW3 := Lib.hid (show Below w.heap.size w w3 from HB.out.trans (((HD.out.alloc HD.out.size _).trans (Hd.out.mono (by have := HD.out.size; simp; omega))).mono HB.out.size))
   go_wp2
   refine wp_region_held_drew (S := fun W => Below w.heap.size w W ∧ W.cell? ⟨w2.heap.size, 0, none⟩ = some (.int .i64 (k : Int))) (by kernel_rfl) (by exact ⟨HW3.out.drew, hbj⟩) (fun hS => ?_)
   refine tA 0 (h := ?_)
   refine tA 1 (h := ?_)
   refine tA 2 (h := ?_)
   refine tA 3 (h := ?_)
   refine tA 4 (h := ?_)
   refine wpAnyH_done (by kernel_rfl) ?_ _
   have HS := Lib.hid hS
   clear hS
   go_wp2
   go_ret3
   exact ⟨i, k, true, rfl, HFI.out, HS.out.1⟩
end Go.Proofs.YtkaipknkjocfiaaGreat
