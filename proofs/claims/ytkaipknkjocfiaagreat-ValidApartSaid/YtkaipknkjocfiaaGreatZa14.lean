import Derived.Test.YtkaipknkjocfiaaGreatZa12
namespace Go.Proofs.YtkaipknkjocfiaaGreat
open Go.RowKit Go.Maps
def lowS : Sp := (0, 1099511627776)
def lowL (l : List Sp) : Bool := l.all paged && l.all fun s => within s lowS
def oursB (b : Bd) (s : Sp) : Bool := within s b.r && !overlap s b.l
def ipaD (y : De) : Sp := (y.ipa.toNat, y.size.toNat)
def winK (b : Bd) (y : Wi) : Bool := lowL [ipaW y, spW y] && (!(y.perm == 0) && oursB b (spW y))
def devK (b : Bd) (y : De) : Bool := lowL [ipaD y, spD y] && !overlap (spD y) b.r
theorem page_low (p s : Int) : pageB p s = (paged (p.toNat, s.toNat) && within (p.toNat, s.toNat) lowS) := by
 unfold pageB paged within good lowS
 rw [Bool.eq_iff_iff]
 simp only [Bool.and_eq_true, decide_eq_true_eq]
 omega
theorem fitB_ram {b : Bd} (h : fitB b = true) : good b.r = true ∧ b.r.1 + b.r.2 ≤ 1099511627776 := by
 unfold fitB fitE at h
 simp only [beq_iff_eq] at h
 split at h
 · rename_i hc
   simp only [memB, addrB, paged, Bool.and_eq_true, decide_eq_true_eq] at hc
   have hg := hc.1.1.1.1
   have hl := hc.1.1.2
   refine ⟨hg, ?_⟩
   unfold last at hl
   rw [if_pos hg] at hl
   have hl : b.r.1 + b.r.2 - 1 < 1099511627776 := hl
   omega
 · cases h
theorem fitB_rest {b : Bd} (h : fitB b = true) : 0 ≤ b.irqs ∧ b.irqs ≤ 1020 ∧ 0 ≤ b.strs ∧ b.strs ≤ 256 ∧ 1 ≤ b.cpus ∧ b.cpus ≤ 32 := by
 unfold fitB fitE at h
 simp only [beq_iff_eq] at h
 split at h
 · rename_i hc
   simp only [restB, Bool.and_eq_true, decide_eq_true_eq] at hc
   omega
 · cases h
theorem within_low {b : Bd} (hf : fitB b = true) {s : Sp} (h : within s b.r = true) : within s lowS = true := by
 have hr := (fitB_ram hf).2
 unfold within good lowS at *
 simp only [Bool.and_eq_true, decide_eq_true_eq] at *
 omega
theorem win_is {b : Bd} (hf : fitB b = true) (y : Wi) : winK b y = winB b y := by
 have hl := fun h => within_low (s := spW y) hf h
 unfold winK winB lowL oursB
 rw [page_low]
 show (((paged (ipaW y)) && (paged (spW y) && true)) && (within (ipaW y) lowS && (within (spW y) lowS && true)) && _) = ((paged (ipaW y) && within (ipaW y) lowS) && _)
 have hp : (!(y.perm == 0)) = decide (y.perm ≠ 0) := by by_cases h : y.perm = 0 <;> simp [h]
 rw [hp]
 generalize paged (ipaW y) = a
 generalize within (ipaW y) lowS = c
 generalize paged (spW y) = d
 generalize decide (y.perm ≠ 0) = f
 generalize overlap (spW y) b.l = g
 revert hl
 generalize within (spW y) lowS = e
 generalize within (spW y) b.r = k
 intro hl
 cases k
 · simp
 · rw [hl rfl]
   cases a <;> cases c <;> cases d <;> cases f <;> cases g <;> rfl
theorem dev_is (b : Bd) (y : De) : devK b y = devB b y := by
 unfold devK devB lowL
 rw [page_low, page_low]
 show (((paged (ipaD y)) && (paged (spD y) && true)) && (within (ipaD y) lowS && (within (spD y) lowS && true)) && _) = ((paged (ipaD y) && within (ipaD y) lowS) && ((paged (spD y) && within (spD y) lowS) && _))
 generalize paged (ipaD y) = a
 generalize within (ipaD y) lowS = c
 generalize paged (spD y) = d
 generalize within (spD y) lowS = e
 cases a <;> cases c <;> cases d <;> cases e <;> rfl
theorem perm_cases {p : Int} (h : 0 ≤ p ∧ p ≤ 7) : p = 0 ∨ p = 1 ∨ p = 2 ∨ p = 3 ∨ p = 4 ∨ p = 5 ∨ p = 6 ∨ p = 7 := by omega
theorem allow5 {p : Int} (h : 0 ≤ p ∧ p ≤ 7) : allowB p 5 = (bitB p 0 && bitB p 2) := by
 rcases perm_cases h with rfl | rfl | rfl | rfl | rfl | rfl | rfl | rfl <;> decide +kernel
theorem allow1 {p : Int} (h : 0 ≤ p ∧ p ≤ 7) : allowB p 1 = bitB p 0 := by
 rcases perm_cases h with rfl | rfl | rfl | rfl | rfl | rfl | rfl | rfl <;> decide +kernel
theorem allow4 {p : Int} (h : 0 ≤ p ∧ p ≤ 7) : (!(p == 0) && !allowB p 4) = (decide (1 ≤ p) && decide (p ≤ 3)) := by
 rcases perm_cases h with rfl | rfl | rfl | rfl | rfl | rfl | rfl | rfl <;> decide +kernel
def treeS (t : Gs) : Sp := (t.dtb.toNat, 16384)
def entryK (t : Gs) (y : Wi) : Bool := t.entry % 4 == 0 && (has (ipaW y) t.entry.toNat && allowB y.perm 5)
theorem entry_is {t : Gs} {y : Wi} {l : List Wi} (hw : t.wins = y :: l) (hp : 0 ≤ y.perm ∧ y.perm ≤ 7) : entryK t y = entryB t := by
 unfold entryK entryB
 rw [hw]
 simp only
 rw [allow5 hp]
 congr 1
def heldK (t : Gs) (y : Wi) : Bool := allowB y.perm 1 && within (treeS t) (ipaW y)
def dtbK (t : Gs) : Bool := t.dtb == 0 || (t.dtb % 4096 == 0 && (t.wins.drop 1).any (heldK t))
theorem held_is {t : Gs} {y : Wi} (hp : 0 ≤ y.perm ∧ y.perm ≤ 7) : heldK t y = dtbW t y := by
 unfold heldK dtbW
 rw [allow1 hp]
 generalize bitB y.perm 0 = z
 have h : within (treeS t) (ipaW y) = (has (ipaW y) t.dtb.toNat && decide (16384 ≤ y.size.toNat - (t.dtb.toNat - y.ipa.toNat))) := by
  unfold within has good treeS ipaW
  rw [Bool.eq_iff_iff]
  simp only [Bool.and_eq_true, decide_eq_true_eq]
  omega
 rw [h]
 cases z <;> simp
theorem any_congr {α : Type} {l : List α} {f g : α → Bool} (h : ∀ x ∈ l, f x = g x) : l.any f = l.any g := by
 induction l with
 | nil => rfl
 | cons x l ih =>
  rw [List.any_cons, List.any_cons, h x (List.mem_cons_self ..), ih fun y hy => h y (List.mem_cons_of_mem _ hy)]
theorem dtb_is {t : Gs} (hp : ∀ y ∈ t.wins, 0 ≤ y.perm ∧ y.perm ≤ 7) : dtbK t = dtbB t := by
 unfold dtbK dtbB
 rw [any_congr (l := t.wins.drop 1) (f := heldK t) (g := dtbW t) fun y hy => held_is (hp y (List.mem_of_mem_drop hy))]
 generalize (t.wins.drop 1).any (dtbW t) = z
 rw [Bool.and_comm]
 rfl
def irqK (b : Bd) (t : Gs) (q : Ir) : Bool := decide (32 ≤ q.number) && (decide (q.number < b.irqs) && bitS t.cpus q.cpu)
theorem irq_is {b : Bd} {t : Gs} {q : Ir} (hc : 0 ≤ t.cpus ∧ t.cpus ≤ 4294967295) (h0 : 0 ≤ q.cpu) : irqK b t q = irqB b t q := by
 unfold irqK irqB
 rw [decide_eq_true h0]
 have h : bitS t.cpus q.cpu = (decide (q.cpu ≤ 31) && bitB t.cpus q.cpu.toNat) := by
  unfold bitS bitB
  by_cases hq : q.cpu ≤ 31
  · rw [decide_eq_true hq, Bool.true_and]
  · rw [decide_eq_false hq, Bool.false_and, decide_eq_false_iff_not]
    obtain ⟨m, hm⟩ := Int.eq_ofNat_of_zero_le hc.1
    rw [hm]
    have e2 : m / 2 ^ q.cpu.toNat = 0 := Nat.div_eq_of_lt (Nat.lt_of_lt_of_le (show m < 2 ^ 32 by omega) (Nat.pow_le_pow_right (by decide) (by omega)))
    have f2 : ((m / 2 ^ q.cpu.toNat : Nat) : Int) = (m : Int) / 2 ^ q.cpu.toNat := by norm_cast
    rw [← f2, e2]
    decide
 rw [h]
 cases decide (32 ≤ q.number) <;> cases decide (q.number < b.irqs) <;> rfl
def endK (n : Nat) (y : Ch) (e : En) : Bool := decide (e.guest < (n : Int)) && ((!(e.perm == 0) && !allowB e.perm 4) && lowL [(e.ipa.toNat, y.size.toNat)])
theorem end_is {x : Cf} {y : Ch} {e : En} (h0 : 0 ≤ e.guest) (hp : 0 ≤ e.perm ∧ e.perm ≤ 7) : endK x.gs.length y e = endB x y e := by
 unfold endK endB lowL
 rw [allow4 hp, decide_eq_true h0, page_low]
 show (_ && (_ && ((paged (e.ipa.toNat, y.size.toNat) && true) && (within (e.ipa.toNat, y.size.toNat) lowS && true)))) = _
 rw [Bool.and_true, Bool.and_true, Bool.true_and, Bool.and_assoc]
def joinK (n : Nat) (y : Ch) : Bool := decide (y.a.guest ≠ y.b.guest) && (endK n y y.a && endK n y y.b)
theorem inL_int (k : IntKind) (zs : List Int) (v : Int) : inL (zs.map (Lit.int k)) (.int k v) = zs.contains v := by
 unfold inL
 rw [List.any_map, Bool.eq_iff_iff, List.any_eq_true]
 simp [Lit.sameKey]
theorem toList_loop (bs : ByteArray) : ∀ (n i : Nat) (r : List UInt8), n = bs.size - i → ByteArray.toList.loop bs i r = r.reverse ++ bs.data.toList.drop i
 | 0, i, r, h => by
  rw [ByteArray.toList.loop, if_neg (by omega), List.drop_eq_nil_of_le (by have : bs.data.toList.length = bs.size := rfl; omega), List.append_nil]
 | n + 1, i, r, h => by
  have hi : i < bs.size := by omega
  have hl : i < bs.data.toList.length := hi
  rw [ByteArray.toList.loop, if_pos hi, toList_loop bs n (i + 1) _ (by omega), List.drop_eq_getElem_cons hl]
  have hg : bs.get! i = bs.data.toList[i] := by
   show bs.data[i]! = _
   rw [getElem!_pos bs.data i hi]
   simp
  rw [hg]
  simp
theorem nmEq_iff (a b : By) : nmEq a b = (a == b) := by
 unfold nmEq
 have h : ∀ l : By, (strOf l).toList = l := fun l => by
  unfold ByteArray.toList
  rw [toList_loop _ _ 0 [] rfl]
  simp [strOf]
 rw [h, h]
theorem inL_str (ns : List By) (v : By) : inL (ns.map fun s => Lit.string (strOf s).data.toList) (.string (strOf v).data.toList) = ns.contains v := by
 unfold inL
 rw [List.any_map, Bool.eq_iff_iff, List.any_eq_true]
 simp [Lit.sameKey, strOf]
end Go.Proofs.YtkaipknkjocfiaaGreat
namespace Go.Proofs.YtkaipknkjocfiaaGreat
open Go.RowKit
set_option maxHeartbeats 1000000 in
theorem overlap_any (a b c d : Nat) (hx : fit (a, b)) (hy : fit (c, d)) (w : World) :
   Calls Tryz.prog 83 #[.agg #[.int .u64 (a : Int), .int .u64 (b : Int)], .agg #[.int .u64 (c : Int), .int .u64 (d : Int)]] w fun e w' => e = .returned (.bool (overlap (a, b) (c, d))) ∧ Below w.heap.size w w' := by
 have Hx := Lib.hid hx
 have Hy := Lib.hid hy
 by_cases h : good (a, b) = true
 · by_cases k : good (c, d) = true
   · have E := Lib.hid (show overlap (a, b) (c, d) = (decide (a ≤ last (c, d)) && decide (c ≤ last (a, b))) by
       have hl := last_good h
       have kl := last_good k
       have hg := (good_iff _).1 h
       have kg := (good_iff _).1 k
       simp only at hl kl hg kg
       rw [Bool.eq_iff_iff]; simp [overlap, h, k]; omega)
     by_cases h1 : a ≤ last (c, d)
     · by_cases h2 : c ≤ last (a, b)
       · rw [show overlap (a, b) (c, d) = true from by first | (rw [E.out]; simp [h1, h2]) | (rw [E.out]; simp [h1]) | simp [overlap, h, k] | simp [overlap, h]]
         go_enter Tryz.func83, Tryz.ntmps83
         go_wp2
         refine wp_region_held_drew (S := fun W => Below w.heap.size w W ∧ W.cell? ⟨w.heap.size, 0, none⟩ = some (.int .u64 (a : Int)) ∧ W.cell? ⟨w.heap.size, 1, none⟩ = some (.int .u64 (b : Int)) ∧ W.cell? ⟨w.heap.size + 1, 0, none⟩ = some (.int .u64 (c : Int)) ∧ W.cell? ⟨w.heap.size + 1, 1, none⟩ = some (.int .u64 (d : Int))) (by kernel_rfl) (keep4_start w a b c d _ rfl) (fun hS => ?_)
         refine tA 0 (h := ?_)
         refine oQ 1 (h := fun K1 hK1 => ?_)
         go_simp
         refine (good_bel a b Hx.out _).mono ?_
         rintro e w1 ⟨rfl, hd⟩
         refine hK1 _ _ (keep4 hd hS) (fun hS1 => ?_)
         clear hS hd hK1 K1
         refine tA 2 (h := ?_)
         refine tA 3 (h := ?_)
         refine oQ 4 (h := fun K4 hK4 => ?_)
         go_simp
         refine (good_bel c d Hy.out _).mono ?_
         rintro e w1 ⟨rfl, hd⟩
         refine hK4 _ _ (keep4 hd hS1) (fun hS4 => ?_)
         clear hS1 hd hK4 K4
         refine tA 5 (h := ?_)
         refine tA 6 (h := ?_)
         refine tA 7 (h := ?_)
         refine tA 8 (h := ?_)
         refine tA 9 (h := ?_)
         refine oQ 10 (h := fun K10 hK10 => ?_)
         go_simp
         refine (last_bel c d Hy.out _).mono ?_
         rintro e w1 ⟨rfl, hd⟩
         refine hK10 _ _ (keep4 hd hS4) (fun hS10 => ?_)
         clear hS4 hd hK10 K10
         refine tA 11 (h := ?_)
         refine tA 12 (h := ?_)
         refine tA 13 (h := ?_)
         refine tA 14 (h := ?_)
         refine tA 15 (h := ?_)
         refine tA 16 (h := ?_)
         refine oQ 17 (h := fun K17 hK17 => ?_)
         go_simp
         refine (last_bel a b Hx.out _).mono ?_
         rintro e w1 ⟨rfl, hd⟩
         refine hK17 _ _ (keep4 hd hS10) (fun hS17 => ?_)
         clear hS10 hd hK17 K17
         refine tA 18 (h := ?_)
         refine tA 19 (h := ?_)
         refine tA 20 (h := ?_)
         refine wpAnyH_done (by kernel_rfl) ?_ _
         go_wp2
         go_ret
         exact ⟨rfl, hS17.1⟩
       · rw [show overlap (a, b) (c, d) = false from by first | (rw [E.out]; simp [h1, h2]) | (rw [E.out]; simp [h1]) | simp [overlap, h, k] | simp [overlap, h]]
         go_enter Tryz.func83, Tryz.ntmps83
         go_wp2
         refine wp_region_held_drew (S := fun W => Below w.heap.size w W ∧ W.cell? ⟨w.heap.size, 0, none⟩ = some (.int .u64 (a : Int)) ∧ W.cell? ⟨w.heap.size, 1, none⟩ = some (.int .u64 (b : Int)) ∧ W.cell? ⟨w.heap.size + 1, 0, none⟩ = some (.int .u64 (c : Int)) ∧ W.cell? ⟨w.heap.size + 1, 1, none⟩ = some (.int .u64 (d : Int))) (by kernel_rfl) (keep4_start w a b c d _ rfl) (fun hS => ?_)
         refine tA 0 (h := ?_)
         refine oQ 1 (h := fun K1 hK1 => ?_)
         go_simp
         refine (good_bel a b Hx.out _).mono ?_
         rintro e w1 ⟨rfl, hd⟩
         refine hK1 _ _ (keep4 hd hS) (fun hS1 => ?_)
         clear hS hd hK1 K1
         refine tA 2 (h := ?_)
         refine tA 3 (h := ?_)
         refine oQ 4 (h := fun K4 hK4 => ?_)
         go_simp
         refine (good_bel c d Hy.out _).mono ?_
         rintro e w1 ⟨rfl, hd⟩
         refine hK4 _ _ (keep4 hd hS1) (fun hS4 => ?_)
         clear hS1 hd hK4 K4
         refine tA 5 (h := ?_)
         refine tA 6 (h := ?_)
         refine tA 7 (h := ?_)
         refine tA 8 (h := ?_)
         refine tA 9 (h := ?_)
         refine oQ 10 (h := fun K10 hK10 => ?_)
         go_simp
         refine (last_bel c d Hy.out _).mono ?_
         rintro e w1 ⟨rfl, hd⟩
         refine hK10 _ _ (keep4 hd hS4) (fun hS10 => ?_)
         clear hS4 hd hK10 K10
         refine tA 11 (h := ?_)
         refine tA 12 (h := ?_)
         refine tA 13 (h := ?_)
         refine tA 14 (h := ?_)
         refine tA 15 (h := ?_)
         refine tA 16 (h := ?_)
         refine oQ 17 (h := fun K17 hK17 => ?_)
         go_simp
         refine (last_bel a b Hx.out _).mono ?_
         rintro e w1 ⟨rfl, hd⟩
         refine hK17 _ _ (keep4 hd hS10) (fun hS17 => ?_)
         clear hS10 hd hK17 K17
         refine tA 18 (h := ?_)
         refine tA 19 (h := ?_)
         refine tA 20 (h := ?_)
         refine wpAnyH_done (by kernel_rfl) ?_ _
         go_wp2
         go_ret
         exact ⟨rfl, hS17.1⟩
     · rw [show overlap (a, b) (c, d) = false from by first | (rw [E.out]; simp [h1, h2]) | (rw [E.out]; simp [h1]) | simp [overlap, h, k] | simp [overlap, h]]
       go_enter Tryz.func83, Tryz.ntmps83
       go_wp2
       refine wp_region_held_drew (S := fun W => Below w.heap.size w W ∧ W.cell? ⟨w.heap.size, 0, none⟩ = some (.int .u64 (a : Int)) ∧ W.cell? ⟨w.heap.size, 1, none⟩ = some (.int .u64 (b : Int)) ∧ W.cell? ⟨w.heap.size + 1, 0, none⟩ = some (.int .u64 (c : Int)) ∧ W.cell? ⟨w.heap.size + 1, 1, none⟩ = some (.int .u64 (d : Int))) (by kernel_rfl) (keep4_start w a b c d _ rfl) (fun hS => ?_)
       refine tA 0 (h := ?_)
       refine oQ 1 (h := fun K1 hK1 => ?_)
       go_simp
       refine (good_bel a b Hx.out _).mono ?_
       rintro e w1 ⟨rfl, hd⟩
       refine hK1 _ _ (keep4 hd hS) (fun hS1 => ?_)
       clear hS hd hK1 K1
       refine tA 2 (h := ?_)
       refine tA 3 (h := ?_)
       refine oQ 4 (h := fun K4 hK4 => ?_)
       go_simp
       refine (good_bel c d Hy.out _).mono ?_
       rintro e w1 ⟨rfl, hd⟩
       refine hK4 _ _ (keep4 hd hS1) (fun hS4 => ?_)
       clear hS1 hd hK4 K4
       refine tA 5 (h := ?_)
       refine tA 6 (h := ?_)
       refine tA 7 (h := ?_)
       refine tA 8 (h := ?_)
       refine tA 9 (h := ?_)
       refine oQ 10 (h := fun K10 hK10 => ?_)
       go_simp
       refine (last_bel c d Hy.out _).mono ?_
       rintro e w1 ⟨rfl, hd⟩
       refine hK10 _ _ (keep4 hd hS4) (fun hS10 => ?_)
       clear hS4 hd hK10 K10
       refine tA 11 (h := ?_)
       refine tA 12 (h := ?_)
       refine tA 13 (h := ?_)
       refine sQ 14 (h := ?_)
       refine sQ 15 (h := ?_)
       refine sQ 16 (h := ?_)
       refine sQ 17 (h := ?_)
       refine sQ 18 (h := ?_)
       refine tA 19 (h := ?_)
       refine tA 20 (h := ?_)
       refine wpAnyH_done (by kernel_rfl) ?_ _
       go_wp2
       go_ret
       exact ⟨rfl, hS10.1⟩
   · rw [show overlap (a, b) (c, d) = false from by first | (rw [E.out]; simp [h1, h2]) | (rw [E.out]; simp [h1]) | simp [overlap, h, k] | simp [overlap, h]]
     go_enter Tryz.func83, Tryz.ntmps83
     go_wp2
     refine wp_region_held_drew (S := fun W => Below w.heap.size w W ∧ W.cell? ⟨w.heap.size, 0, none⟩ = some (.int .u64 (a : Int)) ∧ W.cell? ⟨w.heap.size, 1, none⟩ = some (.int .u64 (b : Int)) ∧ W.cell? ⟨w.heap.size + 1, 0, none⟩ = some (.int .u64 (c : Int)) ∧ W.cell? ⟨w.heap.size + 1, 1, none⟩ = some (.int .u64 (d : Int))) (by kernel_rfl) (keep4_start w a b c d _ rfl) (fun hS => ?_)
     refine tA 0 (h := ?_)
     refine oQ 1 (h := fun K1 hK1 => ?_)
     go_simp
     refine (good_bel a b Hx.out _).mono ?_
     rintro e w1 ⟨rfl, hd⟩
     refine hK1 _ _ (keep4 hd hS) (fun hS1 => ?_)
     clear hS hd hK1 K1
     refine tA 2 (h := ?_)
     refine tA 3 (h := ?_)
     refine oQ 4 (h := fun K4 hK4 => ?_)
     go_simp
     refine (good_bel c d Hy.out _).mono ?_
     rintro e w1 ⟨rfl, hd⟩
     refine hK4 _ _ (keep4 hd hS1) (fun hS4 => ?_)
     clear hS1 hd hK4 K4
     refine tA 5 (h := ?_)
     refine tA 6 (h := ?_)
     refine sQ 7 (h := ?_)
     refine sQ 8 (h := ?_)
     refine sQ 9 (h := ?_)
     refine sQ 10 (h := ?_)
     refine sQ 11 (h := ?_)
     refine tA 12 (h := ?_)
     refine tA 13 (h := ?_)
     refine sQ 14 (h := ?_)
     refine sQ 15 (h := ?_)
     refine sQ 16 (h := ?_)
     refine sQ 17 (h := ?_)
     refine sQ 18 (h := ?_)
     refine tA 19 (h := ?_)
     refine tA 20 (h := ?_)
     refine wpAnyH_done (by kernel_rfl) ?_ _
     go_wp2
     go_ret
     exact ⟨rfl, hS4.1⟩
 · rw [show overlap (a, b) (c, d) = false from by first | (rw [E.out]; simp [h1, h2]) | (rw [E.out]; simp [h1]) | simp [overlap, h, k] | simp [overlap, h]]
   go_enter Tryz.func83, Tryz.ntmps83
   go_wp2
   refine wp_region_held_drew (S := fun W => Below w.heap.size w W ∧ W.cell? ⟨w.heap.size, 0, none⟩ = some (.int .u64 (a : Int)) ∧ W.cell? ⟨w.heap.size, 1, none⟩ = some (.int .u64 (b : Int)) ∧ W.cell? ⟨w.heap.size + 1, 0, none⟩ = some (.int .u64 (c : Int)) ∧ W.cell? ⟨w.heap.size + 1, 1, none⟩ = some (.int .u64 (d : Int))) (by kernel_rfl) (keep4_start w a b c d _ rfl) (fun hS => ?_)
   refine tA 0 (h := ?_)
   refine oQ 1 (h := fun K1 hK1 => ?_)
   go_simp
   refine (good_bel a b Hx.out _).mono ?_
   rintro e w1 ⟨rfl, hd⟩
   refine hK1 _ _ (keep4 hd hS) (fun hS1 => ?_)
   clear hS hd hK1 K1
   refine tA 2 (h := ?_)
   refine sQ 3 (h := ?_)
   refine sQ 4 (h := ?_)
   refine tA 5 (h := ?_)
   refine tA 6 (h := ?_)
   refine sQ 7 (h := ?_)
   refine sQ 8 (h := ?_)
   refine sQ 9 (h := ?_)
   refine sQ 10 (h := ?_)
   refine sQ 11 (h := ?_)
   refine tA 12 (h := ?_)
   refine tA 13 (h := ?_)
   refine sQ 14 (h := ?_)
   refine sQ 15 (h := ?_)
   refine sQ 16 (h := ?_)
   refine sQ 17 (h := ?_)
   refine sQ 18 (h := ?_)
   refine tA 19 (h := ?_)
   refine tA 20 (h := ?_)
   refine wpAnyH_done (by kernel_rfl) ?_ _
   go_wp2
   go_ret
   exact ⟨rfl, hS1.1⟩
end Go.Proofs.YtkaipknkjocfiaaGreat
