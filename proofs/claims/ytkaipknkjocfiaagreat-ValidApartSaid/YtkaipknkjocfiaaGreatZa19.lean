import Derived.Shelf.SlSortCmp.KitK
import Derived.Sort.WalkB2
import Derived.Sort.WalkB12
import Derived.Deep.LoopGhost
import Derived.Deep.CutRange
import Derived.Laws.Shifts
import Derived.Test.YtkaipknkjocfiaaGreatProg
import Derived.Test.YtkaipknkjocfiaaGreatZa18
namespace Go.Proofs.YtkaipknkjocfiaaGreat
open Go.RowKit Go.Shelf Go.Lib Go.Sort Go.Proofs
variable {α : Type} [Inhabited α]
set_option maxHeartbeats 4000000 in
set_option maxRecDepth 1000000 in
theorem swr_k (k : Nat) (zE : ∀ w, (Go.sizeOf 145).run Tryz.prog w = .ok k w) (enc : α → List Value) (g : Nat) (cb : Array Value) (blk off cap a b n : Nat) (d0 d : Array α) (w0 w : World)
  (R : RowK enc k w0 blk off d0) (hs : d0.size = d.size) (S : SWK enc k w0 blk off d w) (hab : a + n ≤ b) (hb : b + n ≤ d.size) (hsz : d.size < 4611686018427387904) :
  Calls Tryz.prog 198 #[.slice (some ⟨blk, off, none⟩) d.size cap, .int .i64 (a : Int), .int .i64 (b : Int), .int .i64 (n : Int), .func (.func g) #[] cb] w fun e w' => e = .returned (.tuple #[]) ∧ ∃ dk, SwrP d dk a b n n ∧ SWK enc k w0 blk off dk w' := by
 have mixed : Tryz.prog.follows Departure.mixedOrders = true := by kernel_rfl
 have aE := Tryz.isAgg145
 have S0 : Aside (SWK enc k w0 blk off d w) := S
 clear S
 go_enter Tryz.func198, Tryz.ntmps198
 go_wp2
 go_loopg [10] n (fun kx s wr => ∃ (i : Nat) (dk : Array α), s = .int .i64 (i : Int) ∧ i ≤ n ∧ n - i ≤ kx ∧ Aside (SwrP d dk a b n i) ∧ Aside (SWK enc k w0 blk off dk wr))
 case atStart => exact ⟨0, d, rfl, Nat.zero_le _, by omega, SwrP.start d a b n, S0⟩
 case round =>
  clear S0
  obtain ⟨i, dk, rfl, hi, hkx, HP, S1⟩ := hrel
  by_cases hlt : i < n
  · have hds : dk.size = d.size := HP.out.size
    obtain ⟨p, hp⟩ : ∃ p : Nat, p = a + i := ⟨_, rfl⟩
    obtain ⟨q, hq⟩ : ∃ q : Nat, q = b + i := ⟨_, rfl⟩
    have wp : IntKind.i64.wrap ((a : Int) + (i : Int)) = (p : Int) := by rw [IntKind.wrap_i64] <;> omega
    have wq : IntKind.i64.wrap ((b : Int) + (i : Int)) = (q : Int) := by rw [IntKind.wrap_i64] <;> omega
    have hltz : (i : Int) < (n : Int) := by omega
    have ea : ((p : Int)).toNat = p := by omega
    have pa : (0 : Int) ≤ (p : Int) := by omega
    have ba : (p : Int) < (d.size : Int) := by omega
    have ec : ((q : Int)).toNat = q := by omega
    have pc : (0 : Int) ≤ (q : Int) := by omega
    have bc : (q : Int) < (d.size : Int) := by omega
    have hpd : p < dk.size := by omega
    have hqd : q < dk.size := by omega
    have S2 : Aside (SWK enc k w0 blk off (swp dk p q) ((wr.drew.setCells blk (off + p * k) (enc dk[q]!)).setCells blk (off + q * k) (enc dk[p]!))) := S1.out.swapped R p q hpd hqd
    have HP2 : Aside (SwrP d (swp dk p q) a b n (i + 1)) := by
     show SwrP _ _ _ _ _ _
     rw [hp, hq]; exact HP.out.step hlt hab hb
    have la := S1.out.ld1 R (by omega) Tryz.prog p hpd
    have lb := S1.out.ld1 R (by omega) Tryz.prog q hqd
    have sa := S1.out.st1 R (by omega) Tryz.prog p hpd dk[q]!
    have sb := S1.out.st2 R (by omega) Tryz.prog p q hpd hqd dk[q]! dk[p]!
    have na : (enc dk[p]!).length = k := R.hk _
    have nb : (enc dk[q]!).length = k := R.hk _
    generalize enc dk[p]! = cI at S2 la sb na
    generalize enc dk[q]! = cJ at S2 lb sb sa nb
    have Hpq : Aside (p = a + i ∧ q = b + i) := ⟨hp, hq⟩
    clear S1 HP hp hq hpd hqd hds
    go_wp2_with fail
    go_big_region_o
    clear la lb sa sb
    generalize (wr.drew.setCells blk (off + p * k) cJ).setCells blk (off + q * k) cI = w2 at S2 ⊢
    go_wp2
    go_roundg (n - (i + 1))
    case measure => omega
    case rel => exact ⟨i + 1, swp dk p q, by first | rfl | go_num, hlt, Nat.le_refl _, HP2, S2⟩
  · obtain rfl : i = n := by omega
    go_wp2
    go_end0
    exact ⟨rfl, dk, HP.out, S1.out⟩
set_option maxHeartbeats 4000000 in
set_option maxRecDepth 1000000 in
theorem rot_k (k : Nat) (zE : ∀ w, (Go.sizeOf 145).run Tryz.prog w = .ok k w) (enc : α → List Value) (g : Nat) (cb : Array Value) (blk off cap a m b : Nat) (d0 d : Array α) (w0 w : World)
  (R : RowK enc k w0 blk off d0) (hs : d0.size = d.size) (S : SWK enc k w0 blk off d w) (ham : a < m) (hmb : m < b) (hb : b ≤ d.size) (hsz : d.size < 4611686018427387904) :
  Calls Tryz.prog 194 #[.slice (some ⟨blk, off, none⟩) d.size cap, .int .i64 (a : Int), .int .i64 (m : Int), .int .i64 (b : Int), .func (.func g) #[] cb] w fun e w' => e = .returned (.tuple #[]) ∧ ∃ dk, RotP d dk a m b ∧ SWK enc k w0 blk off dk w' := by
 have S0 : Aside (SWK enc k w0 blk off d w) := S
 clear S
 go_enter Tryz.func194, Tryz.ntmps194
 go_wp2
 go_loopg [10, 11] (m - a + (b - m)) (fun kx s1 s2 wr => ∃ (i j : Nat) (dk : Array α), s1 = .int .i64 (i : Int) ∧ s2 = .int .i64 (j : Int) ∧ i + j ≤ kx ∧ 0 < i ∧ 0 < j ∧ i ≤ m - a ∧ j ≤ b - m ∧ dk.size = d.size ∧ Aside (RotI d dk a m b i j) ∧ Aside (SWK enc k w0 blk off dk wr))
 case atStart => exact ⟨m - a, b - m, d, by first | rfl | go_num | (congr 1; omega), by first | rfl | go_num | (congr 1; omega), Nat.le_refl _, by omega, by omega, Nat.le_refl _, Nat.le_refl _, rfl, RotI.start d ham hmb, S0⟩
 case round =>
  clear S0
  obtain ⟨i, j, dk, rfl, rfl, hkx, hi0, hj0, him, hjm, hds, HP, S1⟩ := hrel
  by_cases hij : i = j
  · subst hij
    have hc := swr_k k zE enc g cb blk off cap (m - i) m i d0 dk w0 wr R (by omega) S1.out (by omega) (by omega) (by omega)
    rw [show ((m - i : Nat) : Int) = (m : Int) - (i : Int) by omega, hds] at hc
    have HC := Lib.hid hc
    clear hc S1
    go_wp2_with (go_at_call 198; refine HC.out.mono ?_; rintro e w1 ⟨rfl, dl, hsw, hS⟩)
    go_end0
    exact ⟨rfl, dl, HP.out.last hsw (by omega) (by omega) hb, hS⟩
  · by_cases hlt : j < i
    · have hltz : (j : Int) < (i : Int) := by omega
      have hne : ¬ (i : Int) = (j : Int) := by omega
      have hc := swr_k k zE enc g cb blk off cap (m - i) m j d0 dk w0 wr R (by omega) S1.out (by omega) (by omega) (by omega)
      rw [show ((m - i : Nat) : Int) = (m : Int) - (i : Int) by omega, hds] at hc
      have HC := Lib.hid hc
      clear hc S1
      go_wp2_with (go_at_call 198; refine HC.out.mono ?_; rintro e w1 ⟨rfl, dl, hsw, hS⟩; have HS : Aside (SWK enc k w0 blk off dl w1) := hS; have HW : Aside (SwrP dk dl (m - i) m j j) := hsw; clear hS hsw)
      go_roundg (i - j + j)
      case measure => omega
      case rel =>
       have h2 := HP.out.left HW.out hlt (by omega) (by omega) hb
       exact ⟨i - j, j, dl, by first | rfl | go_num | (congr 1; omega), rfl, Nat.le_refl _, by omega, hj0, by omega, hjm, h2.size, h2, HS⟩
    · have hlt' : i < j := by omega
      have hltz : ¬ (j : Int) < (i : Int) := by omega
      have hne : ¬ (i : Int) = (j : Int) := by omega
      have hc := swr_k k zE enc g cb blk off cap (m - i) (m + j - i) i d0 dk w0 wr R (by omega) S1.out (by omega) (by omega) (by omega)
      rw [show ((m - i : Nat) : Int) = (m : Int) - (i : Int) by omega, show ((m + j - i : Nat) : Int) = (m : Int) + (j : Int) - (i : Int) by omega, hds] at hc
      have HC := Lib.hid hc
      clear hc S1
      go_wp2_with (go_at_call 198; refine HC.out.mono ?_; rintro e w1 ⟨rfl, dl, hsw, hS⟩; have HS : Aside (SWK enc k w0 blk off dl w1) := hS; have HW : Aside (SwrP dk dl (m - i) (m + j - i) i i) := hsw; clear hS hsw)
      go_roundg (i + (j - i))
      case measure => omega
      case rel =>
       have h2 := HP.out.right HW.out hlt' (by omega) (by omega) hb
       exact ⟨i, j - i, dl, rfl, by first | rfl | go_num | (congr 1; omega), Nat.le_refl _, hi0, by omega, him, by omega, h2.size, h2, HS⟩
end Go.Proofs.YtkaipknkjocfiaaGreat
namespace Go.Proofs.YtkaipknkjocfiaaGreat
open Go.RowKit Go.Shelf Go.Lib Go.Sort Go.Proofs
variable {α : Type} [Inhabited α]
section
variable {lt : α → α → Bool} {d : Array α} {a m b h : Nat}
theorem find_up (hO : SWO lt) (hs : SortedIn lt (a + 1) b d) (hb : h < b) (hv : lt d[h]! d[a]! = true) : ∀ p, a + 1 ≤ p → p < h + 1 → lt d[p]! d[a]! = true := fun p hp hq => by
 have h1 := sorted_le hO hs hp (show p ≤ h by omega) hb
 cases h2 : lt d[p]! d[a]! with
 | true => rfl
 | false => rw [hO.ntrans _ _ _ h1 h2] at hv; cases hv
theorem find_dn (hO : SWO lt) (hs : SortedIn lt (a + 1) b d) (ha : a + 1 ≤ h) (hv : lt d[h]! d[a]! = false) : ∀ p, h ≤ p → p < b → lt d[p]! d[a]! = false := fun _ hp hq =>
 hO.ntrans _ _ _ (sorted_le hO hs ha hp hq) hv
theorem seek_up (hO : SWO lt) (hs : SortedIn lt a m d) (hb : h < m) (hv : lt d[m]! d[h]! = false) : ∀ p, a ≤ p → p < h + 1 → lt d[m]! d[p]! = false := fun _ hp hq =>
 hO.ntrans _ _ _ hv (sorted_le hO hs hp (by omega) hb)
theorem seek_dn (hO : SWO lt) (hs : SortedIn lt a m d) (ha : a ≤ h) (hv : lt d[m]! d[h]! = true) : ∀ p, h ≤ p → p < m → lt d[m]! d[p]! = true := fun p hp hq => by
 have h1 := sorted_le hO hs ha hp hq
 cases h2 : lt d[m]! d[p]! with
 | true => rfl
 | false => rw [hO.ntrans _ _ _ h2 h1] at hv; cases hv
end
omit [Inhabited α] in
theorem lt_true {cf : α → α → Int} {x y : α} (h : cf x y < 0) : ltOf cf x y = true := decide_eq_true h
omit [Inhabited α] in
theorem lt_false {cf : α → α → Int} {x y : α} (h : ¬ cf x y < 0) : ltOf cf x y = false := decide_eq_false h
set_option maxHeartbeats 8000000 in
set_option maxRecDepth 1000000 in
theorem sym_one (k : Nat) (zE : ∀ w, (Go.sizeOf 145).run Tryz.prog w = .ok k w) (enc : α → List Value) (cf : α → α → Int) (hO : SWO (ltOf cf)) (g : Nat) (cb : Array Value) (blk off cap : Nat) (d0 : Array α) (w0 : World)
  (eg : ∀ args w, (callFunc g args).run Tryz.prog w = .ok (.enter g args) w) (hcmp : CmpLays Tryz.prog g cb enc k cf blk off d0.size w0) (R : RowK enc k w0 blk off d0)
  (a b : Nat) (d : Array α) (w : World) (hs : d0.size = d.size) (S : SWK enc k w0 blk off d w) (hmb : a + 1 < b) (hb : b ≤ d.size) (hsz : d.size < 4611686018427387904) (hsB : SortedIn (ltOf cf) (a + 1) b d) :
  Calls Tryz.prog 185 #[.slice (some ⟨blk, off, none⟩) d.size cap, .int .i64 (a : Int), .int .i64 ((a + 1 : Nat) : Int), .int .i64 (b : Int), .func (.func g) #[] cb] w fun e w' => e = .returned (.tuple #[]) ∧ ∃ d', MergeP (ltOf cf) d d' a b ∧ SWK enc k w0 blk off d' w' := by
 have mixed : Tryz.prog.follows Departure.mixedOrders = true := by kernel_rfl
 have aE := Tryz.isAgg145
 have HC : Aside (CmpLays Tryz.prog g cb enc k cf blk off d0.size w0) := hcmp
 have S0 : Aside (SWK enc k w0 blk off d w) := S
 have HB := Lib.hid hsB
 have HON := Lib.hid hO
 clear hcmp S hsB hO
 have hz : IntKind.i64.wrap (((a + 1 : Nat) : Int) - (a : Int)) = 1 := by rw [IntKind.wrap_i64] <;> omega
 have hz2 : ((a : Int) + 1 - (a : Int)) = 1 := by omega
 go_enter Tryz.func185, Tryz.ntmps185
 go_wp2
 go_loopg [10, 11] (b - (a + 1)) (fun kx s1 s2 wr => ∃ (i j : Nat), s1 = .int .i64 (i : Int) ∧ s2 = .int .i64 (j : Int) ∧ a + 1 ≤ i ∧ i ≤ j ∧ j ≤ b ∧ j - i ≤ kx ∧ Aside (∀ p, a + 1 ≤ p → p < i → ltOf cf d[p]! d[a]! = true) ∧ Aside (∀ p, j ≤ p → p < b → ltOf cf d[p]! d[a]! = false) ∧ Aside (SWK enc k w0 blk off d wr))
 case atStart => exact ⟨a + 1, b, by first | rfl | go_num, rfl, Nat.le_refl _, by omega, Nat.le_refl _, Nat.le_refl _, (fun p h1 h2 => by omega), (fun p h1 h2 => by omega), S0⟩
 case round =>
  clear S0
  obtain ⟨i, j, rfl, rfl, hai, hij, hjb, hkx, HL, HR, S1⟩ := hrel
  by_cases hlt : i < j
  · have hltz : (i : Int) < (j : Int) := by omega
    obtain ⟨h, hh⟩ : ∃ h : Nat, h = (i + j) / 2 := ⟨_, rfl⟩
    have w1h : IntKind.i64.wrap ((i : Int) + (j : Int)) = (i : Int) + (j : Int) := by rw [IntKind.wrap_i64] <;> omega
    have w2h : IntKind.u64.wrap ((i : Int) + (j : Int)) = (i : Int) + (j : Int) := by simp [IntKind.wrap, IntKind.bits, IntKind.signed]; omega
    go_upto_region 5 with fail
    have w3h : ((i : Int) + (j : Int)) / 2 = (h : Int) := by omega
    rw [w3h]
    have h1 : i ≤ h := by omega
    have h2 : h < j := by omega
    clear w1h w2h w3h hh
    have eah : ((h : Int)).toNat = h := by omega
    have pah : (0 : Int) ≤ (h : Int) := by omega
    have bah : (h : Int) < (d.size : Int) := by omega
    have eaa : ((a : Int)).toNat = a := by omega
    have paa : (0 : Int) ≤ (a : Int) := by omega
    have baa : (a : Int) < (d.size : Int) := by omega
    by_cases hv : cf d[h]! d[a]! < 0
    · have HV := Lib.hid (find_up HON.out HB.out (by omega) (lt_true hv))
      have la := S1.out.ld R (by omega) Tryz.prog h (by omega)
      have lb := S1.out.ld R (by omega) Tryz.prog a (by omega)
      have hcx := S1.out.cmp HC.out (by omega) d[h]! d[a]!
      generalize d[h]! = x at la hcx hv
      generalize d[a]! = y at lb hcx hv
      have hdv : decide (cf x y < 0) = true := decide_eq_true hv
      go_wp2_with fail
      go_quiet_grown (first | (go_at_fn g; refine Calls.grown_of (hcx _ _)))
      have S2 : Aside (SWK enc k w0 blk off d (grow (wr.drewN nq) osq)) := S1.out.grown nq osq
      clear la lb hcx S1
      generalize grow (wr.drewN nq) osq = w2 at S2 ⊢
      clear nq osq
      go_wp2_with fail
      go_roundg (j - (h + 1))
      case measure => omega
      case rel => exact ⟨h + 1, j, by first | rfl | go_num, rfl, by omega, by omega, hjb, Nat.le_refl _, HV.out, HR, S2⟩
    · have HV := Lib.hid (find_dn HON.out HB.out (show a + 1 ≤ h by omega) (lt_false hv))
      have la := S1.out.ld R (by omega) Tryz.prog h (by omega)
      have lb := S1.out.ld R (by omega) Tryz.prog a (by omega)
      have hcx := S1.out.cmp HC.out (by omega) d[h]! d[a]!
      generalize d[h]! = x at la hcx hv
      generalize d[a]! = y at lb hcx hv
      have hdv : decide (cf x y < 0) = false := decide_eq_false hv
      go_wp2_with fail
      go_quiet_grown (first | (go_at_fn g; refine Calls.grown_of (hcx _ _)))
      have S2 : Aside (SWK enc k w0 blk off d (grow (wr.drewN nq) osq)) := S1.out.grown nq osq
      clear la lb hcx S1
      generalize grow (wr.drewN nq) osq = w2 at S2 ⊢
      clear nq osq
      go_wp2_with fail
      go_roundg (h - i)
      case measure => omega
      case rel => exact ⟨i, h, rfl, by first | rfl | go_num, hai, by omega, by omega, Nat.le_refl _, HL, HV.out, S2⟩
  · obtain rfl : i = j := by omega
    have wi : IntKind.i64.wrap ((i : Int) - 1) = (i : Int) - 1 := by rw [IntKind.wrap_i64] <;> omega
    go_wp2_with fail
    go_loopg [13] (i - 1 - a) (fun kx s1 wx => ∃ (q : Nat) (dk : Array α), s1 = .int .i64 (q : Int) ∧ a ≤ q ∧ q ≤ i - 1 ∧ i - 1 - q ≤ kx ∧ dk.size = d.size ∧ Aside (RotP d dk a (a + 1) (q + 1)) ∧ Aside (SWK enc k w0 blk off dk wx))
    case atStart => exact ⟨a, d, rfl, Nat.le_refl _, by omega, Nat.le_refl _, rfl, RotP.same_r d, S1⟩
    case round =>
      clear S1
      obtain ⟨q, dk, rfl, haq, hqi, hkx2, hds, HP, S1⟩ := hrel
      by_cases hlt2 : q < i - 1
      · have hltz : (q : Int) < (i : Int) - 1 := by omega
        obtain ⟨q1, hq1⟩ : ∃ q1 : Nat, q1 = q + 1 := ⟨_, rfl⟩
        have wq : IntKind.i64.wrap ((q : Int) + 1) = (q1 : Int) := by rw [IntKind.wrap_i64] <;> omega
        have eaq : ((q : Int)).toNat = q := by omega
        have paq : (0 : Int) ≤ (q : Int) := by omega
        have baq : (q : Int) < (d.size : Int) := by omega
        have eaq1 : ((q1 : Int)).toNat = q1 := by omega
        have paq1 : (0 : Int) ≤ (q1 : Int) := by omega
        have baq1 : (q1 : Int) < (d.size : Int) := by omega
        have HP2 : Aside (RotP d (swp dk q q1) a (a + 1) (q + 2)) := by
         show RotP _ _ _ _ _
         rw [hq1]; exact HP.out.up haq (by omega)
        have HQ1 := Lib.hid hq1
        have hq2 : q1 ≤ i - 1 := by omega
        have hq3 : a ≤ q1 := by omega
        have hq4 : q1 < dk.size := by omega
        clear hq1
        have hpd : q < dk.size := by omega
        have hqd : q1 < dk.size := by omega
        have S2 : Aside (SWK enc k w0 blk off (swp dk q q1) ((wr.drew.setCells blk (off + q * k) (enc dk[q1]!)).setCells blk (off + q1 * k) (enc dk[q]!))) := S1.out.swapped R q q1 hpd hqd
        have la := S1.out.ld1 R (by omega) Tryz.prog q hpd
        have lb := S1.out.ld1 R (by omega) Tryz.prog q1 hqd
        have sa := S1.out.st1 R (by omega) Tryz.prog q hpd dk[q1]!
        have sb := S1.out.st2 R (by omega) Tryz.prog q q1 hpd hqd dk[q1]! dk[q]!
        have na : (enc dk[q]!).length = k := R.hk _
        have nb : (enc dk[q1]!).length = k := R.hk _
        generalize enc dk[q]! = cI at S2 la sb na
        generalize enc dk[q1]! = cJ at S2 lb sb sa nb
        clear S1
        go_wp2_with fail
        go_big_region_o
        clear la lb sa sb
        generalize (wr.drew.setCells blk (off + q * k) cJ).setCells blk (off + q1 * k) cI = w2 at S2 ⊢
        go_wp2_with fail
        go_roundg (i - 1 - q1)
        case measure => have := HQ1.out; omega
        case rel =>
         refine ⟨q1, swp dk q q1, by first | rfl | go_num, by omega, by omega, Nat.le_refl _, by rw [size_swp]; exact hds, ?_, S2⟩
         have := HP2.out
         rw [show q + 2 = q1 + 1 by have := HQ1.out; omega] at this
         exact this
      · obtain rfl : q = i - 1 := by omega
        have hltz : ¬ ((i - 1 : Nat) : Int) < (i : Int) - 1 := by omega
        have HM := merge_up HON.out hb HB.out hai hjb HL.out HR.out (by have := HP.out; rwa [show i - 1 + 1 = i by omega] at this)
        obtain ⟨q, hq⟩ : ∃ q, q = i - 1 := ⟨_, rfl⟩
        rw [← hq] at hltz ⊢
        have hq' := Lib.hid hq
        clear hq
        go_wp2_with fail
        (try simp only [Exit.inBlock, Exit.then])
        refine bodyPost_ret (results_none rfl _ _ _) rfl ?_
        exact ⟨rfl, dk, HM, S1.out⟩
set_option maxHeartbeats 8000000 in
set_option maxRecDepth 1000000 in
theorem sym_last (k : Nat) (zE : ∀ w, (Go.sizeOf 145).run Tryz.prog w = .ok k w) (enc : α → List Value) (cf : α → α → Int) (hO : SWO (ltOf cf)) (g : Nat) (cb : Array Value) (blk off cap : Nat) (d0 : Array α) (w0 : World)
  (eg : ∀ args w, (callFunc g args).run Tryz.prog w = .ok (.enter g args) w) (hcmp : CmpLays Tryz.prog g cb enc k cf blk off d0.size w0) (R : RowK enc k w0 blk off d0)
  (a m b : Nat) (hbm : b = m + 1) (d : Array α) (w : World) (hs : d0.size = d.size) (S : SWK enc k w0 blk off d w) (ham : a + 1 < m) (hb : b ≤ d.size) (hsz : d.size < 4611686018427387904) (hsA : SortedIn (ltOf cf) a m d) :
  Calls Tryz.prog 185 #[.slice (some ⟨blk, off, none⟩) d.size cap, .int .i64 (a : Int), .int .i64 (m : Int), .int .i64 (b : Int), .func (.func g) #[] cb] w fun e w' => e = .returned (.tuple #[]) ∧ ∃ d', MergeP (ltOf cf) d d' a b ∧ SWK enc k w0 blk off d' w' := by
 have mixed : Tryz.prog.follows Departure.mixedOrders = true := by kernel_rfl
 have aE := Tryz.isAgg145
 have HC : Aside (CmpLays Tryz.prog g cb enc k cf blk off d0.size w0) := hcmp
 have S0 : Aside (SWK enc k w0 blk off d w) := S
 have HB := Lib.hid hsA
 have HON := Lib.hid hO
 clear hcmp S hsA hO
 have hz : IntKind.i64.wrap ((m : Int) - (a : Int)) = (m : Int) - (a : Int) := by rw [IntKind.wrap_i64] <;> omega
 have hz1 : ¬ (m : Int) - (a : Int) = 1 := by omega
 have hz3 : ((m : Int) - (a : Int) == 1) = false := by simp; omega
 have hz2 : ((b : Int) - (m : Int)) = 1 := by omega
 have hb1 : m < d.size := by omega
 have HBM := Lib.hid hbm
 clear hbm
 go_enter Tryz.func185, Tryz.ntmps185
 go_wp2
 go_loopg [14, 15] (m - a) (fun kx s1 s2 wr => ∃ (i j : Nat), s1 = .int .i64 (i : Int) ∧ s2 = .int .i64 (j : Int) ∧ a ≤ i ∧ i ≤ j ∧ j ≤ m ∧ j - i ≤ kx ∧ Aside (∀ p, a ≤ p → p < i → ltOf cf d[m]! d[p]! = false) ∧ Aside (∀ p, j ≤ p → p < m → ltOf cf d[m]! d[p]! = true) ∧ Aside (SWK enc k w0 blk off d wr))
 case atStart => exact ⟨a, m, rfl, rfl, Nat.le_refl _, by omega, Nat.le_refl _, Nat.le_refl _, (fun p h1 h2 => by omega), (fun p h1 h2 => by omega), S0⟩
 case round =>
  clear S0
  obtain ⟨i, j, rfl, rfl, hai, hij, hjb, hkx, HL, HR, S1⟩ := hrel
  by_cases hlt : i < j
  · have hltz : (i : Int) < (j : Int) := by omega
    obtain ⟨h, hh⟩ : ∃ h : Nat, h = (i + j) / 2 := ⟨_, rfl⟩
    have w1h : IntKind.i64.wrap ((i : Int) + (j : Int)) = (i : Int) + (j : Int) := by rw [IntKind.wrap_i64] <;> omega
    have w2h : IntKind.u64.wrap ((i : Int) + (j : Int)) = (i : Int) + (j : Int) := by simp [IntKind.wrap, IntKind.bits, IntKind.signed]; omega
    go_upto_region 17 with fail
    have w3h : ((i : Int) + (j : Int)) / 2 = (h : Int) := by omega
    rw [w3h]
    have h1 : i ≤ h := by omega
    have h2 : h < j := by omega
    clear w1h w2h w3h hh
    have eah : ((h : Int)).toNat = h := by omega
    have pah : (0 : Int) ≤ (h : Int) := by omega
    have bah : (h : Int) < (d.size : Int) := by omega
    have eam : ((m : Int)).toNat = m := by omega
    have pam : (0 : Int) ≤ (m : Int) := by omega
    have bam : (m : Int) < (d.size : Int) := by omega
    by_cases hv : cf d[m]! d[h]! < 0
    · have HV := Lib.hid (seek_dn HON.out HB.out (show a ≤ h by omega) (lt_true hv))
      have la := S1.out.ld R (by omega) Tryz.prog m (by omega)
      have lb := S1.out.ld R (by omega) Tryz.prog h (by omega)
      have hcx := S1.out.cmp HC.out (by omega) d[m]! d[h]!
      generalize d[m]! = x at la hcx hv
      generalize d[h]! = y at lb hcx hv
      have hdv : decide (cf x y < 0) = true := decide_eq_true hv
      go_wp2_with fail
      go_quiet_grown (first | (go_at_fn g; refine Calls.grown_of (hcx _ _)))
      have S2 : Aside (SWK enc k w0 blk off d (grow (wr.drewN nq) osq)) := S1.out.grown nq osq
      clear la lb hcx S1
      generalize grow (wr.drewN nq) osq = w2 at S2 ⊢
      clear nq osq
      go_wp2_with fail
      go_roundg (h - i)
      case measure => omega
      case rel => exact ⟨i, h, rfl, by first | rfl | go_num, hai, by omega, by omega, Nat.le_refl _, HL, HV.out, S2⟩
    · have HV := Lib.hid (seek_up HON.out HB.out (show h < m by omega) (lt_false hv))
      have la := S1.out.ld R (by omega) Tryz.prog m (by omega)
      have lb := S1.out.ld R (by omega) Tryz.prog h (by omega)
      have hcx := S1.out.cmp HC.out (by omega) d[m]! d[h]!
      generalize d[m]! = x at la hcx hv
      generalize d[h]! = y at lb hcx hv
      have hdv : decide (cf x y < 0) = false := decide_eq_false hv
      go_wp2_with fail
      go_quiet_grown (first | (go_at_fn g; refine Calls.grown_of (hcx _ _)))
      have S2 : Aside (SWK enc k w0 blk off d (grow (wr.drewN nq) osq)) := S1.out.grown nq osq
      clear la lb hcx S1
      generalize grow (wr.drewN nq) osq = w2 at S2 ⊢
      clear nq osq
      go_wp2_with fail
      go_roundg (j - (h + 1))
      case measure => omega
      case rel => exact ⟨h + 1, j, by first | rfl | go_num, rfl, by omega, by omega, hjb, Nat.le_refl _, HV.out, HR, S2⟩
  · obtain rfl : i = j := by omega
    go_wp2_with fail
    go_loopg [17] (m - i) (fun kx s1 wx => ∃ (q : Nat) (dk : Array α), s1 = .int .i64 (q : Int) ∧ i ≤ q ∧ q ≤ m ∧ q - i ≤ kx ∧ dk.size = d.size ∧ Aside (RotP d dk q m (m + 1)) ∧ Aside (SWK enc k w0 blk off dk wx))
    case atStart => exact ⟨m, d, rfl, hjb, Nat.le_refl _, Nat.le_refl _, rfl, RotP.same_l d (by omega), S1⟩
    case round =>
      clear S1
      obtain ⟨q, dk, rfl, haq, hqi, hkx2, hds, HP, S1⟩ := hrel
      by_cases hlt2 : i < q
      · have hltz : (i : Int) < (q : Int) := by omega
        obtain ⟨q1, hq1⟩ : ∃ q1 : Nat, q1 = q - 1 := ⟨_, rfl⟩
        have wq : IntKind.i64.wrap ((q : Int) - 1) = (q1 : Int) := by rw [IntKind.wrap_i64] <;> omega
        have eaq : ((q : Int)).toNat = q := by omega
        have paq : (0 : Int) ≤ (q : Int) := by omega
        have baq : (q : Int) < (d.size : Int) := by omega
        have eaq1 : ((q1 : Int)).toNat = q1 := by omega
        have paq1 : (0 : Int) ≤ (q1 : Int) := by omega
        have baq1 : (q1 : Int) < (d.size : Int) := by omega
        have HP2 : Aside (RotP d (swp dk q q1) q1 m (m + 1)) := by
         show RotP _ _ _ _ _
         have e : q = q1 + 1 := by omega
         have h1 := HP.out
         rw [e] at h1 ⊢
         exact h1.down (by omega) hb1
        have HQ1 := Lib.hid hq1
        have hq2 : i ≤ q1 := by omega
        have hq3 : q1 ≤ m := by omega
        have hq4 : q1 < dk.size := by omega
        clear hq1
        have hpd : q < dk.size := by omega
        have hqd : q1 < dk.size := by omega
        have S2 : Aside (SWK enc k w0 blk off (swp dk q q1) ((wr.drew.setCells blk (off + q * k) (enc dk[q1]!)).setCells blk (off + q1 * k) (enc dk[q]!))) := S1.out.swapped R q q1 hpd hqd
        have la := S1.out.ld1 R (by omega) Tryz.prog q hpd
        have lb := S1.out.ld1 R (by omega) Tryz.prog q1 hqd
        have sa := S1.out.st1 R (by omega) Tryz.prog q hpd dk[q1]!
        have sb := S1.out.st2 R (by omega) Tryz.prog q q1 hpd hqd dk[q1]! dk[q]!
        have na : (enc dk[q]!).length = k := R.hk _
        have nb : (enc dk[q1]!).length = k := R.hk _
        generalize enc dk[q]! = cI at S2 la sb na
        generalize enc dk[q1]! = cJ at S2 lb sb sa nb
        clear S1
        go_wp2_with fail
        go_big_region_o
        clear la lb sa sb
        generalize (wr.drew.setCells blk (off + q * k) cJ).setCells blk (off + q1 * k) cI = w2 at S2 ⊢
        go_wp2_with fail
        go_roundg (q1 - i)
        case measure => have := HQ1.out; omega
        case rel => exact ⟨q1, swp dk q q1, by first | rfl | go_num, hq2, hq3, Nat.le_refl _, by rw [size_swp]; exact hds, HP2, S2⟩
      · obtain rfl : q = i := by omega
        have HM := merge_down HON.out (by omega) HB.out hai hjb HL.out HR.out HP.out
        rw [← HBM.out] at HM
        go_wp2_with fail
        (try simp only [Exit.inBlock, Exit.then])
        refine bodyPost_ret (results_none rfl _ _ _) rfl ?_
        exact ⟨rfl, dk, HM, S1.out⟩
end Go.Proofs.YtkaipknkjocfiaaGreat
