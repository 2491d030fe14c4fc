import Derived.Shelf.SlGeneric
import Derived.Ground.SlsfProg
import Derived.Ground.SlgnProg
import Derived.Ground.SlsoProg
import Derived.Ground.SlgfProg
import Derived.Shelf.SlLaysF0
import Derived.Shelf.SlLaysE
import Derived.Shelf.SlLaysO
import Derived.Shelf.SlLaysH0
import Derived.RangeFuncNested
import Derived.RangeFuncBound
import Derived.RangeFuncCalls
import Derived.RangeFuncLeaves
import Derived.Shelf.Abstract
import Derived.Shelf.RegionOpen
import Derived.WalkKit
import Derived.OwnWalkIn
import Derived.TacticsInMore
import Derived.LoopNIn
import Derived.LoopIn
import Derived.Maps.AppendAt
import Derived.RangeFuncBox
import Derived.Test.YtkaipknkjocfiaaGreatZa30
import Derived.Test.YtkaipknkjocfiaaGreatZa36
import Derived.Test.YtkaipknkjocfiaaGreatProg
namespace Go.Proofs.YtkaipknkjocfiaaGreat
open Go.RowKit Go.Maps
def xSP (pages : Nat) (key : By) (pa : Nat) : Cf := ⟨1, [gsS nm0 0 1074790400 key, gsS nm1 1 pa key], [chS pages]⟩
theorem xS_is (pages : Nat) (key : By) : xS pages key = xSP pages key 1075838976 := rfl
theorem errS_gs (nm : By) (hn : nameOk nm = true) (cpu : Nat) (hc : cpu ≤ 1) (pa : Nat) (key : By) (hk : kOk key = true) : errG (gsS nm cpu pa key) = 0 := by
 unfold errG
 rw [if_neg (by show ¬ nameOk nm = false; rw [hn]; decide), if_neg (by show ¬ kOk key = false; rw [hk]; decide), if_neg (by show ¬ (true = false); decide)]
 show e144 ((!inB 7 0 7 || false) || ((!inB (32 + (cpu : Int)) 0 65535 || !inB (cpu : Int) 0 65535) || false)) = 0
 unfold inB e144
 rw [decide_eq_true (by omega), decide_eq_true (by omega), decide_eq_true (by omega)]
 rfl
theorem errS (pages : Nat) (key : By) (pa : Nat) (hk : kOk key = true) (hl : key.length = 68) : errP (xSP pages key pa) = 0 := by
 have h0 := errS_gs nm0 (by decide +kernel) 0 (by decide) 1074790400 key hk
 have h1 := errS_gs nm1 (by decide +kernel) 1 (by decide) pa key hk
 have hc : errC (xSP pages key pa) = 0 := by
  unfold errC
  rw [if_neg (by show ¬ ((inB 2 1 16 && inB 1 0 32) = false); decide)]
  have he : errL errG (xSP pages key pa).gs = 0 := by
   show (if errG (gsS nm0 0 1074790400 key) = 0 then (if errG (gsS nm1 1 pa key) = 0 then 0 else errG (gsS nm1 1 pa key)) else errG (gsS nm0 0 1074790400 key)) = 0
   rw [if_pos h0, if_pos h1]
  rw [if_pos he]
  rfl
 unfold errP
 rw [if_pos hc, if_pos]
 unfold layC
 have l0 := layG_len (g := gsS nm0 0 1074790400 key) hl h0
 have l1 := layG_len (g := gsS nm1 1 pa key) hl h1
 have l2 := layCh_len (chS pages)
 show (be 4 1111705159 ++ (be 2 1 ++ (be 2 2 ++ (be 2 1 ++ (be 2 0 ++ be 4 1)))) ++ ([gsS nm0 0 1074790400 key, gsS nm1 1 pa key].flatMap layG ++ [chS pages].flatMap layCh)).length ≤ 65536
 simp only [List.length_append, be_len, List.flatMap_cons, List.flatMap_nil, List.length_nil]
 omega
theorem chS_ok (key : By) {pages : Nat} (h1 : 1 ≤ pages) (h2 : pages ≤ 64) : chanB bS (xS pages key) 0 (chS pages) = true := by
 have h : ∀ n, n < 65 → 1 ≤ n → chanB bS (xS n []) 0 (chS n) = true := by decide +kernel
 exact h pages (by omega) h1
theorem endS_ok (key : By) {pages : Nat} (h1 : 1 ≤ pages) (h2 : pages ≤ 64) : endB (xS pages key) (chS pages) (chS pages).a = true ∧ endB (xS pages key) (chS pages) (chS pages).b = true := by
 have h : ∀ n, n < 65 → 1 ≤ n → (endB (xS n []) (chS n) (chS n).a = true ∧ endB (xS n []) (chS n) (chS n).b = true) := by decide +kernel
 exact h pages (by omega) h1
theorem mapsS_ok (key : By) {pages : Nat} (h1 : 1 ≤ pages) (h2 : pages ≤ 64) (g : Nat) (hg : g < 2) : mapsB (xS pages key) g = true := by
 have h : ∀ n, n < 65 → 1 ≤ n → ∀ g, g < 2 → mapsB (xS n []) g = true := by decide +kernel
 have e : mapsB (xS pages key) g = mapsB (xS pages []) g := by
  rcases (by omega : g = 0 ∨ g = 1) with rfl | rfl <;> kernel_rfl
 rw [e]
 exact h pages (by omega) h1 g hg
theorem smallP_ok (pages : Nat) (key : By) (h1 : 1 ≤ pages) (h2 : pages ≤ 64) (hk : kOk key = true) (hl : key.length = 68) : CheckOk bS (xS pages key) where
 fit := by decide +kernel
 err := errS pages key 1075838976 hk hl
 names := fun i hi => by
  have hi : i < 2 := hi
  have n0 : nameB (xS pages key) 0 = true := by kernel_rfl
  have n1 : nameB (xS pages key) 1 = true := by kernel_rfl
  rcases (by omega : i = 0 ∨ i = 1) with rfl | rfl
  · exact n0
  · exact n1
 guests := fun g hg => by
  have hg : g < 2 := hg
  rcases (by omega : g = 0 ∨ g = 1) with rfl | rfl
  · exact ⟨by kernel_rfl, by kernel_rfl, by kernel_rfl, by kernel_rfl, by kernel_rfl, by kernel_rfl, by kernel_rfl, by kernel_rfl⟩
  · exact ⟨by kernel_rfl, by kernel_rfl, by kernel_rfl, by kernel_rfl, by kernel_rfl, by kernel_rfl, by kernel_rfl, by kernel_rfl⟩
 chans := fun k hk => by
  have hk : k < 1 := hk
  obtain rfl : k = 0 := by omega
  exact ⟨chS_ok key h1 h2, show (0 : Int) ≠ 1 by decide, (endS_ok key h1 h2).1, (endS_ok key h1 h2).2⟩
 maps := fun g hg => mapsS_ok key h1 h2 g hg
theorem small_check (pages : Nat) (key : By) (h1 : 1 ≤ pages) (h2 : pages ≤ 64) (hk : kOk key = true) (hl : key.length = 68) : checkP bS (xS pages key) = (0, 0, 0) := check_yes (smallP_ok pages key h1 h2 hk hl)
def keyA : By := [0, 0, 0, 1] ++ List.replicate 64 0
theorem keyA_ok : kOk keyA = true ∧ keyA.length = 68 := by decide +kernel
theorem bad_check : checkP bS (xSP 1 keyA 1074786304) = (4, 1, 170) := by
 have he : errP (xSP 1 keyA 1074786304) = 0 := errS 1 keyA 1074786304 keyA_ok.1 keyA_ok.2
 have hh : headP bS (xSP 1 keyA 1074786304) = (0, 0) := by
  unfold headP
  rw [he, show fitB bS = true by decide +kernel]
  rfl
 unfold checkP bodyP
 rw [hh]
 decide +kernel
end Go.Proofs.YtkaipknkjocfiaaGreat
namespace Go.Proofs.YtkaipknkjocfiaaGreat
open Go.Shelf
def layF_ren : Go.Shelf.Ren := ⟨fun | 6 => 192 | 15 => 197 | 14 => 196 | 28 => 207 | 29 => 189 | 20 => 199 | 21 => 200 | 22 => 201 | 23 => 202 | 24 => 203 | 25 => 204 | 26 => 205 | 27 => 206 | 46 => 208 | 47 => 209 | 48 => 210 | 49 => 211 | 50 => 212 | 57 => 213 | n => n, fun | 22 => 40 | 24 => 24 | 25 => 228 | 3 => 3 | 39 => 199 | 0 => 0 | 53 => 27 | 55 => 22 | 4 => 4 | 46 => 241 | 45 => 240 | 50 => 192 | 5 => 5 | 9 => 9 | 66 => 247 | 70 => 251 | 76 => 253 | 77 => 254 | n => n, fun | n => n⟩
theorem layF : Go.Proofs.SlLaysF0.n6 Tryz.prog layF_ren := {
 mixed := by kernel_rfl
 f6 := ⟨Tryz.f192.name, by decide, Tryz.func192.trans (congrArg some (by kernel_rfl))⟩
 f14 := ⟨Tryz.f196.name, by decide, Tryz.func196.trans (congrArg some (by kernel_rfl))⟩
 f15 := Tryz.func197.trans (congrArg some (by kernel_rfl))
 f20 := ⟨Tryz.f199.name, by decide, Tryz.func199.trans (congrArg some (by kernel_rfl))⟩
 f21 := ⟨Tryz.f200.name, by decide, Tryz.func200.trans (congrArg some (by kernel_rfl))⟩
 f22 := ⟨Tryz.f201.name, by decide, Tryz.func201.trans (congrArg some (by kernel_rfl))⟩
 f23 := ⟨Tryz.f202.name, by decide, Tryz.func202.trans (congrArg some (by kernel_rfl))⟩
 f24 := ⟨Tryz.f203.name, by decide, Tryz.func203.trans (congrArg some (by kernel_rfl))⟩
 f25 := ⟨Tryz.f204.name, by decide, Tryz.func204.trans (congrArg some (by kernel_rfl))⟩
 f26 := ⟨Tryz.f205.name, by decide, Tryz.func205.trans (congrArg some (by kernel_rfl))⟩
 f27 := ⟨Tryz.f206.name, by decide, Tryz.func206.trans (congrArg some (by kernel_rfl))⟩
 f28 := Tryz.func207.trans (congrArg some (by kernel_rfl))
 f29 := Tryz.func189.trans (congrArg some (by kernel_rfl))
 f46 := ⟨Tryz.f208.name, by decide, Tryz.func208.trans (congrArg some (by kernel_rfl))⟩
 f47 := Tryz.func209.trans (congrArg some (by kernel_rfl))
 f48 := Tryz.func210.trans (congrArg some (by kernel_rfl))
 f49 := ⟨Tryz.f211.name, by decide, Tryz.func211.trans (congrArg some (by kernel_rfl))⟩
 f50 := ⟨Tryz.f212.name, by decide, Tryz.func212.trans (congrArg some (by kernel_rfl))⟩
 f57 := ⟨Tryz.f213.name, by decide, Tryz.func213.trans (congrArg some (by kernel_rfl))⟩
 t0 := Tryz.underlying0
 a0 := Tryz.isAgg0
 z0 := Tryz.sizeOf0
 v0 := Tryz.zeroValue0
 t3 := Tryz.underlying3
 a3 := Tryz.isAgg3
 z3 := Tryz.sizeOf3
 v3 := Tryz.zeroValue3
 t4 := Tryz.underlying4
 a4 := Tryz.isAgg4
 z4 := Tryz.sizeOf4
 v4 := Tryz.zeroValue4
 t5 := Tryz.underlying5
 a5 := Tryz.isAgg5
 z5 := Tryz.sizeOf5
 v5 := Tryz.zeroValue5
 t9 := Tryz.underlying9
 a9 := Tryz.isAgg9
 z9 := Tryz.sizeOf9
 v9 := Tryz.zeroValue9
 t22 := Tryz.underlying40
 a22 := Tryz.isAgg40
 z22 := Tryz.sizeOf40
 v22 := Tryz.zeroValue40
 t25 := Tryz.underlying228
 a25 := Tryz.isAgg228
 z25 := Tryz.sizeOf228
 v25 := Tryz.zeroValue228
 t39 := Tryz.underlying199
 a39 := Tryz.isAgg199
 z39 := Tryz.sizeOf199
 v39 := Tryz.zeroValue199
 t45 := Tryz.underlying240
 a45 := Tryz.isAgg240
 z45 := Tryz.sizeOf240
 v45 := Tryz.zeroValue240
 t46 := Tryz.underlying241
 a46 := Tryz.isAgg241
 z46 := Tryz.sizeOf241
 v46 := Tryz.zeroValue241
 t50 := Tryz.underlying192
 a50 := Tryz.isAgg192
 z50 := Tryz.sizeOf192
 v50 := Tryz.zeroValue192
 t53 := Tryz.underlying27
 a53 := Tryz.isAgg27
 z53 := Tryz.sizeOf27
 v53 := Tryz.zeroValue27
 t55 := Tryz.underlying22
 a55 := Tryz.isAgg22
 z55 := Tryz.sizeOf22
 v55 := Tryz.zeroValue22
 t66 := Tryz.underlying247
 a66 := Tryz.isAgg247
 z66 := Tryz.sizeOf247
 v66 := Tryz.zeroValue247
 t70 := Tryz.underlying251
 a70 := Tryz.isAgg251
 z70 := Tryz.sizeOf251
 v70 := Tryz.zeroValue251
 t76 := Tryz.underlying253
 a76 := Tryz.isAgg253
 z76 := Tryz.sizeOf253
 v76 := Tryz.zeroValue253
 t77 := Tryz.underlying254
 a77 := Tryz.isAgg254
 z77 := Tryz.sizeOf254
 v77 := Tryz.zeroValue254 }
def layH_ren : Go.Shelf.Ren := ⟨fun | 6 => 128 | n => n, fun | 22 => 40 | 23 => 24 | 25 => 88 | 3 => 3 | 0 => 0 | 4 => 4 | n => n, fun | n => n⟩
theorem layH : Go.Proofs.SlLaysH0.n6 Tryz.prog layH_ren := {
 mixed := by kernel_rfl
 f6 := ⟨Tryz.f128.name, by decide, Tryz.func128.trans (congrArg some (by kernel_rfl))⟩
 t0 := Tryz.underlying0
 a0 := Tryz.isAgg0
 z0 := Tryz.sizeOf0
 v0 := Tryz.zeroValue0
 t3 := Tryz.underlying3
 a3 := Tryz.isAgg3
 z3 := Tryz.sizeOf3
 v3 := Tryz.zeroValue3
 t4 := Tryz.underlying4
 a4 := Tryz.isAgg4
 z4 := Tryz.sizeOf4
 v4 := Tryz.zeroValue4
 t22 := Tryz.underlying40
 a22 := Tryz.isAgg40
 z22 := Tryz.sizeOf40
 v22 := Tryz.zeroValue40
 t25 := Tryz.underlying88
 a25 := Tryz.isAgg88
 z25 := Tryz.sizeOf88
 v25 := Tryz.zeroValue88 }
end Go.Proofs.YtkaipknkjocfiaaGreat
namespace Go.Proofs.YtkaipknkjocfiaaGreat
open Go.RowKit Go.Shelf
attribute [local go_sem] Oper.semAt_some
instance (x : Sp) : Decidable (fit x) := by unfold fit; infer_instance
abbrev GS := { x : Sp // fit x ∧ good x = true }
def goods (l : List Sp) : List GS := l.filterMap fun x => if h : fit x ∧ good x = true then some ⟨x, h⟩ else none
theorem goods_append (a b : List Sp) : goods (a ++ b) = goods a ++ goods b := by simp [goods]
theorem goods_yes {x : Sp} (h : fit x ∧ good x = true) : goods [x] = [⟨x, h⟩] := by simp [goods, h]
theorem goods_no {x : Sp} (h : good x = false) : goods [x] = [] := by simp [goods, h]
theorem goods_val {l : List Sp} (hl : ∀ x ∈ l, fit x) : (goods l).map (·.1) = l.filter good := by
 induction l with
 | nil => rfl
 | cons x r ih =>
  have e : x :: r = [x] ++ r := rfl
  rw [e, goods_append, List.map_append, List.filter_append, ih (fun y hy => hl y (by simp [hy]))]
  congr 1
  by_cases h : good x = true
  · rw [goods_yes ⟨hl x (by simp), h⟩]; simp [h]
  · rw [goods_no (by simpa using h)]; simp [h]
theorem take_snoc {l : List Sp} {k : Nat} (h : k < l.length) : l.take (k + 1) = l.take k ++ [l[k]] := by simp
theorem goods_len (l : List Sp) : (goods l).length ≤ l.length := List.length_filterMap_le _ _
theorem goods_take (l : List Sp) (k : Nat) : goods (l.take k) <+: goods l := by
 conv => rhs; rw [← List.take_append_drop k l]
 rw [goods_append]
 exact List.prefix_append _ _
set_option maxRecDepth 100000 in
set_option maxHeartbeats 2000000 in
theorem good1_in (n : Nat) (hn : 1 ≤ n) (lp Bs n₀ cap : Nat) (A : Option Addr) (l : List Sp) (hl : ∀ x ∈ l, fit x) (hlen : l.length ≤ 4611686018427387904) (J Jx : List GS → World → Prop)
  (hY : ∀ pre (x : GS) W, J pre W → pre.length < l.length → YieldAt Fence.wide (n - 1) Tryz.prog lp #[spv x.1] W fun e W' =>
    (e = .returned (.bool true) ∧ J (pre ++ [x]) W' ∧ Below n₀ W W') ∨ (e = .returned (.bool false) ∧ Jx (pre ++ [x]) W'))
  (W : World) (hA : AbidesFrom W.heap.size J) (hn₀ : n₀ ≤ W.heap.size) (hBs : W.cell? ⟨Bs, 0, none⟩ = some (.slice A l.length cap)) (hc : Row W n₀ A l) (h0 : J [] W) :
  CallsIn Fence.wide n Tryz.prog 193 #[.func (.yield lp) #[] #[], .pointer (some ⟨Bs, 0, none⟩)] W fun e W' => (∃ v, e = .returned v) ∧
    ((∃ ys, ys = goods l ∧ J ys W') ∨ (∃ pre, pre <+: goods l ∧ Jx pre W')) := by
 refine callsIn_of_wp Tryz.func193 rfl trivial ?_ rfl
 simp only [Tryz.ntmps193, List.size_toArray, List.length_cons, List.length_nil, Nat.reduceAdd, Nat.reduceSub, Array.replicate_succ, Array.replicate_zero, List.push_toArray, List.append_toArray, List.nil_append, List.cons_append]
 gi_wp2
 gi_loopw [7] (fun i wr => ∃ k : Nat, k ≤ l.length ∧ i = .int .i64 k ∧ J (goods (l.take k)) wr ∧ Below n₀ W wr ∧ n₀ ≤ wr.heap.size)
  (fun i _ => l.length - (intOf i).toNat)
 case atStart => exact ⟨0, Nat.zero_le _, rfl, by simpa [goods] using h0, Below.refl _ _, hn₀⟩
 case round =>
  obtain ⟨k, hk, rfl, hJs, hnx, hsz⟩ := hrel
  by_cases hlt : k < l.length
  · obtain ⟨a, p, rfl, hp, hpb, hc1, hc2⟩ := (hc.below hnx).at hlt
    have hfit := hl _ (List.getElem_mem hlt)
    obtain ⟨x, hx⟩ : ∃ x, l[k] = x := ⟨_, rfl⟩
    rw [hx] at hc1 hc2 hfit
    obtain ⟨b, s⟩ := x
    have Hx := Lib.hid hfit
    have Ht := Lib.hid (take_snoc hlt)
    have HX := Lib.hid hx
    clear hfit hx hpb
    have hJ2 : J (goods (l.take k)) ((wr.alloc (spo b s)).alloc (spo b s)) :=
      hA _ _ _ none (hA _ _ _ none hJs (World.grownBy_alloc _ _ none) (fun r e => by cases e)) (World.grownBy_alloc _ _ none) (fun r e => by cases e)
    have hB2 : Below n₀ W ((wr.alloc (spo b s)).alloc (spo b s)) := (hnx.alloc hsz _).alloc (by simp; omega) _
    have hpl : (goods (l.take k)).length < l.length := by
      have := goods_len (l.take k)
      rw [List.length_take] at this; omega
    by_cases hg : good (b, s) = true
    · obtain ⟨fn, tmps, assign, body, hy, hR⟩ := hY _ ⟨(b, s), Hx.out, hg⟩ _ hJ2 hpl
      dsimp only at hy
      have HB2 := Lib.hid hB2
      have HR := Lib.hid hR
      clear hJ2 hB2 hpl hR
      gi_wp2_with (refine ⟨trivial, ?_⟩; gi_at_call 106; refine (callsIn_wide.2 (good_any b s Hx.out _)).mono ?_; rintro e w1 ⟨rfl, rfl⟩)
      refine HR.out.mono ?_
      rintro e W3 (⟨rfl, hJ3, hk3⟩ | ⟨rfl, hJx3⟩)
      · gi_wp2
        go_roundw
        case rel => exact ⟨k + 1, by omega, by simp, by rw [Ht.out, HX.out, goods_append, goods_yes ⟨Hx.out, hg⟩]; exact hJ3, HB2.out.trans hk3, Nat.le_trans (Nat.le_trans hsz (by simp; omega)) hk3.size⟩
        case measure => simp [intOf]; omega
      · gi_wp2
        refine bodyPost_ret (results_none rfl _ _ _) rfl ?_
        refine ⟨⟨_, rfl⟩, .inr ⟨_, ?_, hJx3⟩⟩
        have := goods_take l (k + 1)
        rw [Ht.out, HX.out, goods_append, goods_yes ⟨Hx.out, hg⟩] at this
        exact this
    · have hg' : good (b, s) = false := by simpa using hg
      have HJ2 := Lib.hid hJ2
      have HB2 := Lib.hid hB2
      clear hJ2 hB2 hpl hg
      gi_wp2_with (refine ⟨trivial, ?_⟩; gi_at_call 106; refine (callsIn_wide.2 (good_any b s Hx.out _)).mono ?_; rintro e w1 ⟨rfl, rfl⟩)
      refine ⟨fun _ h => (by cases h), ?_⟩
      gi_wp2
      go_roundw
      case rel => exact ⟨k + 1, by omega, by simp, by rw [Ht.out, HX.out, goods_append, goods_no hg', List.append_nil]; exact HJ2.out, HB2.out, by simp; omega⟩
      case measure => simp [intOf]; omega
  · obtain rfl : k = l.length := by omega
    gi_wp2
    go_end0
    exact ⟨⟨_, rfl⟩, .inl ⟨_, by rw [List.take_length], hJs⟩⟩
theorem good_in (A : Option Addr) (len cap : Nat) (w : World) :
  Calls Tryz.prog 182 #[.slice A len cap] w fun e w' => e = .returned (.func (.func 193) #[] #[.pointer (some ⟨w.heap.size, 0, none⟩)]) ∧ w' = w.alloc (.cells #[.slice A len cap] 40) := by
 go_enter Tryz.func182, Tryz.ntmps182
 go_wp2
 go_ret
 exact ⟨rfl, rfl⟩
theorem good_stops (n : Nat) (hn : 1 ≤ n) (Bs n₀ cap : Nat) (A : Option Addr) (l : List Sp) (hl : ∀ x ∈ l, fit x) (hlen : l.length ≤ 4611686018427387904) (w : World) (hBs : Bs < w.heap.size) (hn₀ : n₀ ≤ w.heap.size)
  (hc : w.cell? ⟨Bs, 0, none⟩ = some (.slice A l.length cap)) (hR : Row w n₀ A l) :
  SeqStopsK Fence.wide n Tryz.prog 193 #[.pointer (some ⟨Bs, 0, none⟩)] (fun x : GS => #[spv x.1]) (Below n₀) (fun ys => ys = goods l) (fun pre => pre <+: goods l) l.length w := fun lp J Jx W hW hJ _ hY h0 =>
 good1_in n hn lp Bs n₀ cap A l hl hlen J Jx hY W hJ (Nat.le_trans hn₀ hW.size) ((hW.cell (p := ⟨Bs, 0, none⟩) hBs).trans hc) (hR.below (hW.mono hn₀)) h0
end Go.Proofs.YtkaipknkjocfiaaGreat
namespace Go.Proofs.YtkaipknkjocfiaaGreat
open Go.RowKit Go.Shelf
attribute [local go_sem] Oper.semAt_some
def cells2 (l : List Sp) : List Value := l.flatMap fun x => [Value.int .u64 (x.1 : Int), Value.int .u64 (x.2 : Int)]
theorem cells2_append (a b : List Sp) : cells2 (a ++ b) = cells2 a ++ cells2 b := by simp [cells2]
theorem cells2_length (l : List Sp) : (cells2 l).length = l.length * 2 := by
 induction l with
 | nil => rfl
 | cons x r ih =>
  have e : x :: r = [x] ++ r := rfl
  rw [e, cells2_append, List.length_append, ih]; simp [cells2]; omega
theorem cells2_get : ∀ (l : List Sp) (j : Nat) (h : j < l.length), (cells2 l)[j * 2]? = some (Value.int .u64 (l[j].1 : Int)) ∧ (cells2 l)[j * 2 + 1]? = some (Value.int .u64 (l[j].2 : Int))
 | [], j, h => by cases h
 | x :: r, 0, _ => ⟨rfl, rfl⟩
 | x :: r, j + 1, h => by
  have e : cells2 (x :: r) = Value.int .u64 (x.1 : Int) :: Value.int .u64 (x.2 : Int) :: cells2 r := rfl
  have ih := cells2_get r j (by simpa using h)
  rw [e, show (j + 1) * 2 = j * 2 + 1 + 1 by omega]
  simpa using ih
def OwnSq (w : World) (base : Nat) (v : Value) (l : List Sp) : Prop := w.ownsRow base 24 2 v l.length (cells2 l)
theorem OwnSq.row {w : World} {base : Nat} {v : Value} {l : List Sp} (h : OwnSq w base v l) : ∃ A c, v = .slice A l.length c ∧ Row w w.heap.size A l := by
 rcases h.2 with ⟨rfl, h0⟩ | ⟨g, cap, cur, rfl, _, hh, hr⟩
 · have : l = [] := List.eq_nil_of_length_eq_zero h0
   subst this
   exact ⟨none, 0, rfl, Row.nil _ _ _⟩
 · refine ⟨_, cap, rfl, fun _ => ⟨_, rfl, (Array.getElem?_eq_some_iff.1 hh).1, fun j hj => ?_⟩⟩
   have g2 := cells2_get l j hj
   obtain ⟨q1, e1⟩ := List.getElem?_eq_some_iff.1 g2.1
   obtain ⟨q2, e2⟩ := List.getElem?_eq_some_iff.1 g2.2
   exact ⟨(h.cells (g := g) rfl (j * 2) _ (List.getElem?_eq_getElem q1)).trans (by rw [e1]), (h.cells (g := g) rfl (j * 2 + 1) _ (List.getElem?_eq_getElem q2)).trans (by rw [e2])⟩
theorem OwnSq.low {w : World} {base base' : Nat} {v : Value} {l : List Sp} (h : OwnSq w base v l) (hb : base' ≤ base) : OwnSq w base' v l := by
 refine ⟨h.1, ?_⟩
 rcases h.2 with h2 | ⟨g, cap, cur, hv, hg, r⟩
 · exact Or.inl h2
 · exact Or.inr ⟨g, cap, cur, hv, Nat.le_trans hb hg, r⟩
theorem OwnSq.below {w w' : World} {base : Nat} {v : Value} {l : List Sp} (h : OwnSq w base v l) (hb : Below w.heap.size w w') : OwnSq w' base v l := by
 refine ⟨h.1, ?_⟩
 rcases h.2 with h2 | ⟨g, cap, cur, hv, hg, hh, r⟩
 · exact Or.inl h2
 · exact Or.inr ⟨g, cap, cur, hv, hg, (hb.block g (Array.getElem?_eq_some_iff.1 hh).1).trans hh, r⟩
theorem infoS : (Tryz.prog.info? 24).map (fun i => (i.zero, i.size, i.bytes)) = some (some (.agg #[.int .u64 0, .int .u64 0]), 2, 16) := by kernel_rfl
theorem cell_two_new (w : World) (a b : Value) (t : TypeId) : ∀ j u, [a, b][j]? = some u → (w.alloc (.cells #[a, b] t)).cell? ((⟨w.heap.size, 0, none⟩ : Addr).add j) = some u := by
 intro j u hj
 match j, hj with
 | 0, hj => simp at hj; subst hj; simp [Addr.add]
 | 1, hj => simp at hj; subst hj; simp [Addr.add]
def Boxed2 (W : World) (B : Nat) (x : Sp) : Prop := W.heap[B]? = some (spo x.1 x.2)
theorem Boxed2.own (B : Nat) (x : Sp) : Own (fun (_ : Unit) W => Boxed2 W B x) := fun _ _ _ _ hs hg hrow => (grownBy_keeps_cells hg hrow hs rfl).trans hs
theorem Boxed2.cell0 {W : World} {B : Nat} {x : Sp} (h : Boxed2 W B x) : W.cell? ⟨B, 0, none⟩ = some (.int .u64 (x.1 : Int)) := by simp [World.cell?, show W.heap[B]? = _ from h]
theorem Boxed2.cell1 {W : World} {B : Nat} {x : Sp} (h : Boxed2 W B x) : W.cell? ⟨B, 1, none⟩ = some (.int .u64 (x.2 : Int)) := by simp [World.cell?, show W.heap[B]? = _ from h]
def vals (l : List GS) : List Sp := l.map (·.1)
theorem vals_snoc (l : List GS) (x : GS) : vals (l ++ [x]) = vals l ++ [x.1] := by simp [vals]
set_option maxRecDepth 100000 in
set_option maxHeartbeats 2000000 in
theorem appendSeq_any (gf : Nat) (lb : Array Value) (eg : ∀ args w, (callFunc gf args).run Tryz.prog w = .ok (.enter gf args) w) (G : List GS) (Spp : List GS → Prop) (N n₀ : Nat) (hN : N ≤ 1000000) (w0 w : World) (hn : n₀ ≤ w.heap.size) (hw : Below w0.heap.size w0 w)
  (hseq : SeqStopsK Fence.wide 9 Tryz.prog gf lb (fun x : GS => #[spv x.1]) (Below n₀) (fun ys => ys = G) Spp N w0) :
  Calls Tryz.prog 195 #[.slice none 0 0, .func (.func gf) #[] lb] w fun e W' => ∃ v, e = .returned v ∧ OwnSq W' w.heap.size v (vals G) ∧ Below w.heap.size w W' := by
 obtain ⟨i0, hi, hz0, hz1, hz2⟩ := info_parts infoS
 refine (callsIn_wide (n := 10)).1 ?_
 refine callsIn_of_wp_marks Tryz.func195 rfl trivial ?_ rfl
 simp only [Tryz.ntmps195, List.size_toArray, List.length_cons, List.length_nil, Nat.reduceAdd, Nat.reduceSub, Array.replicate_succ, Array.replicate_zero, List.push_toArray, List.append_toArray, List.nil_append, List.cons_append]
 gi_wp2
 have bO := Boxed.new w 40 (.slice none 0 0)
 have hB0 : Below w.heap.size w (w.alloc (.cells #[.slice none 0 0] 40)) := (Below.refl _ w).alloc (Nat.le_refl _) _
 refine wpIn_rangeFunc_ownH rfl (by omega) (gf := gf) (lb := lb) rfl trivial eg hseq belowK_t (belowK_b (by simp; omega)) (hw.trans (hB0.mono hw.size)) (fun _ => rfl)
  (fun pre W => (∃ v, Boxed W w.heap.size 40 v ∧ W.ownsRow w.heap.size 24 2 v (vals pre).length (cells2 (vals pre)) ∧ True) ∧ Below w.heap.size w W)
  (fun _ _ _ => False)
  (OwnFrom.and (Own.from (holdsRow_own w.heap.size w.heap.size 40 24 2 (fun pre => (vals pre).length) (fun pre => cells2 (vals pre)) (fun _ _ => True)) _) (ownFrom_below (Nat.le_refl _) (by simp)))
  (fun _ _ _ _ _ hs _ _ => hs)
  ⟨⟨_, bO, World.ownsRow_nil _ _ _ _, trivial⟩, hB0⟩
  (fun x a' W => ∃ Bx, w.heap.size < Bx ∧ Boxed2 W Bx x.1 ∧ a' = { tmps := #[.slice none 0 0, .func (.func gf) #[] lb, .pointer (some ⟨w.heap.size, 0, none⟩), undef, .slice none 0 0, .pointer (some ⟨Bx, 0, none⟩), .func (.func gf) #[] lb, spv x.1, undef, undef, undef, undef, undef], defers := [] })
  (fun x a' _ X Y row hs hg hr => by obtain ⟨Bx, h1, h2, h3⟩ := hs; exact ⟨Bx, h1, Boxed2.own Bx x.1 () X Y row h2 hg (fun r e => (hr r e).2), h3⟩)
  ?assign ?body ?done ?stop
 case assign =>
  rintro l pre ⟨⟨b, s⟩, hx⟩ W K ⟨⟨v, bO1, hrow, _⟩, hB1⟩ hK
  gi_wp2
  exact hK _ _ ((KeepsOthers.alloc _ _).from _) ((Below.refl n₀ W).alloc (Nat.le_trans hn hB1.size) _) ⟨⟨v, bO1.alloc _, hrow.alloc _, trivial⟩, hB1.alloc hB1.size _⟩ ⟨W.heap.size, bO1.lt, World.alloc_heap_new W _, rfl⟩
 case body =>
  rintro l pre ⟨⟨b, s⟩, hx⟩ a' W hl ⟨r, hr⟩ ⟨⟨v, hv, hrow, _⟩, hB⟩ ⟨Bx, hBx, bX, rfl⟩ hlt
  have hc := hv.cell
  have c0 := bX.cell0
  have c1 := bX.cell1
  have hb3 : (vals pre).length + 1 ≤ 1000000 := by simp [vals]; omega
  have hu : ∀ u ∈ [Value.int .u64 (b : Int), Value.int .u64 (s : Int)], u.oneCell' = true := by intro u h; simp at h; rcases h with rfl | rfl <;> rfl
  have hun := Tryz.underlying40
  gi_wp2_with (gi_at_builtin; refine wpListIn_append_own _ rfl _ _ 40 rfl w.heap.size 24 i0 (.agg #[.int .u64 0, .int .u64 0]) 2 16 hun hi hz0 hz1 hz2 rfl (by decide) _ _ _ rfl (hrow.alloc _) ⟨W.heap.size, 0, none⟩ 1 1 [.int .u64 (b : Int), .int .u64 (s : Int)] rfl rfl (cell_two_new _ _ _ _) hu (by unfold maxLen; omega) (by omega) (by have := hB.size; simp; omega) ?_; intro v' w1 hown' hgrow _; obtain ⟨g', cap', rfl⟩ := ownsRow_succ hown'; obtain ⟨hv1, hv2, hr2, hk2, hb2⟩ := hv.appended (by decide) hrow hB.size (Nat.le_refl _) hown' hgrow; have hc1 := hv1.cell; have hf1 := hv1.frozen)
  exact ⟨hk2.from _, hb2.mono hn, ⟨_, hv2, (by have e := cells2_append (vals pre) [(b, s)]; rw [vals_snoc, e, List.length_append]; exact hr2)⟩, hB.trans hb2⟩
 case done =>
  rintro D ys W hD rfl ⟨⟨v, hv, hrow, _⟩, hB⟩ hK
  have hc := hv.cell
  gi_wp2
  refine ⟨by simp, .inl ⟨_, _, rfl, run_takeDeferred hK, ?_⟩⟩
  exact ⟨_, results_tmp rfl _ _ _, v, rfl, ownsRow_putObj hrow _ hK rfl, hB.trans (belowK_b (w := w) (Nat.le_refl _) W D _ _ (by simp at hD; omega) hK rfl rfl)⟩
 case stop =>
  rintro D c pre W _ _ h _
  exact h.elim
theorem collect_any (gf : Nat) (lb : Array Value) (eg : ∀ args w, (callFunc gf args).run Tryz.prog w = .ok (.enter gf args) w) (G : List GS) (Spp : List GS → Prop) (N n₀ : Nat) (hN : N ≤ 1000000) (w : World) (hn : n₀ ≤ w.heap.size)
  (hseq : SeqStopsK Fence.wide 9 Tryz.prog gf lb (fun x : GS => #[spv x.1]) (Below n₀) (fun ys => ys = G) Spp N w) :
  Calls Tryz.prog 191 #[.func (.func gf) #[] lb] w fun e W' => ∃ v, e = .returned v ∧ OwnSq W' w.heap.size v (vals G) ∧ Below w.heap.size w W' := by
 have hcon := Lib.hid (appendSeq_any gf lb eg G Spp N n₀ hN w w hn (Below.refl _ _) hseq)
 clear hseq
 go_enter Tryz.func191, Tryz.ntmps191
 go_wp2_with (go_at_call 195; go_loud (refine hcon.out.mono ?_; rintro e w1 ⟨v, rfl, h1, h2⟩))
 go_ret
 exact ⟨v, rfl, h1, h2⟩
end Go.Proofs.YtkaipknkjocfiaaGreat
