/- pdqsortOrdered at []uint64: whatever row, it ends sorted. Each callee by what it promises (a permutation, and what the step needs); the pivot may be any. -/
import Derived.Test.YthedpjlafapfeaaPins
import Derived.Sort.LotD2
import Derived.Deep.Cut
namespace Go.Proofs.Ythedpjlafapfeaa
open Go.RowKit Go.Shelf Go.Lib Go.Sort Go.Proofs

/-- Whatever sorts [a', b') of dk sorts [a, b) of d. -/
def Ends (a b : Nat) (d : Array Int) (a' b' : Nat) (dk : Array Int) : Prop := ∀ R, PermIn a' b' dk R → SortedIn ltInt a' b' R → PermIn a b d R ∧ SortedIn ltInt a b R
theorem Ends.perm {a b a' b' : Nat} {d dk dl : Array Int} (h : Ends a b d a' b' dk) (hp : PermIn a' b' dk dl) : Ends a b d a' b' dl := fun R h1 h2 => h R (permIn_trans _ _ _ _ _ hp h1) h2
theorem below_perm {a b : Nat} {d d' : Array Int} (h : Sort.Below ltInt a b d) (hb : b ≤ d.size) (hp : PermIn a b d d') : Sort.Below ltInt a b d' := Sort.Below.perm h hb hp
section
variable {a b a' b' mid : Nat} {d dk d4 L : Array Int}
/-- Behind partitionEqual: what is left of mid is done. -/
theorem ends_eq {p : Int} (h : Ends a b d a' b' dk) (hb : b' ≤ dk.size) (hm1 : a' < mid) (hm2 : mid ≤ b') (hp : PermIn a' b' dk d4) (hge : ∀ i, a' ≤ i → i < b' → ltInt dk[i]! p = false) (hle : ∀ i, a' ≤ i → i < mid → ltInt p d4[i]! = false) (hgt : ∀ i, mid ≤ i → i < b' → ltInt p d4[i]! = true) :
    Ends a b d mid b' d4 ∧ Sort.Below ltInt mid b' d4 := by
  have hb4 : b' ≤ d4.size := by rw [hp.1]; exact hb
  have hge4 := permIn_all dk d4 a' b' (fun x => ltInt x p = false) hb hp hge
  refine ⟨fun R h1 h2 => h R (permIn_trans _ _ _ _ _ hp (permIn_mono _ _ mid b' a' b' (by omega) (Nat.le_refl _) hb4 h1)) ?_, Or.inr fun i h1 h2 => ?_⟩
  · refine sorted_glue_eq swo_ltInt p h2 (fun i k1 k2 => ?_) (fun i k1 k2 => ?_) (permIn_all d4 R mid b' (fun x => ltInt p x = true) hb4 h1 hgt)
    · rw [h1.2.1 i (Or.inl k2)]; exact hle i k1 k2
    · rw [h1.2.1 i (Or.inl k2)]; exact hge4 i k1 (by omega)
  · have h3 := hgt i h1 h2
    have h4 := hle (mid - 1) (by omega) (by omega)
    simp [ltInt] at h3 h4 ⊢
    omega
/-- Behind partition and the sort of the left side. -/
theorem ends_left (h : Ends a b d a' b' dk) (hb : b' ≤ dk.size) (hm1 : a' ≤ mid) (hm2 : mid < b') (hp : PermIn a' b' dk d4) (hlo : ∀ i, a' ≤ i → i < mid → ltInt d4[i]! d4[mid]! = true) (hhi : ∀ i, mid < i → i < b' → ltInt d4[i]! d4[mid]! = false)
    (hL : PermIn a' mid d4 L) (hsL : SortedIn ltInt a' mid L) : Ends a b d (mid + 1) b' L ∧ Sort.Below ltInt (mid + 1) b' L := by
  have hb4 : b' ≤ d4.size := by rw [hp.1]; exact hb
  have hbL : b' ≤ L.size := by rw [hL.1]; exact hb4
  have eL : ∀ i, mid ≤ i → L[i]! = d4[i]! := fun i hi => hL.2.1 i (Or.inr hi)
  have hhL : ∀ i, mid < i → i < b' → ltInt L[i]! L[mid]! = false := fun i k1 k2 => by rw [eL i (by omega), eL mid (Nat.le_refl _)]; exact hhi i k1 k2
  refine ⟨fun R h1 h2 => h R (permIn_trans _ _ _ _ _ hp (permIn_trans _ _ _ _ _ (permIn_mono _ _ a' mid a' b' (Nat.le_refl _) (by omega) hb4 hL) (permIn_mono _ _ (mid + 1) b' a' b' (by omega) (Nat.le_refl _) hbL h1))) ?_, Or.inr fun i h1 h2 => by rw [Nat.add_sub_cancel]; exact hhL i (by omega) h2⟩
  have eR : ∀ i, i ≤ mid → R[i]! = L[i]! := fun i hi => h1.2.1 i (Or.inl (by omega))
  refine sorted_glue swo_ltInt (hsL.congr fun i _ k => eR i (by omega)) h2 (fun i k1 k2 => ?_) (fun i k1 k2 => ?_)
  · rw [eR i (by omega), eR mid (Nat.le_refl _), eL mid (Nat.le_refl _)]
    exact permIn_all d4 L a' mid (fun x => ltInt x d4[mid]! = true) (by omega) hL hlo i k1 k2
  · rw [eR mid (Nat.le_refl _)]
    exact permIn_all L R (mid + 1) b' (fun x => ltInt x L[mid]! = false) hbL h1 (fun t t1 t2 => hhL t (by omega) t2) i (by omega) k2
/-- Behind partition and the sort of the right side. -/
theorem ends_right (h : Ends a b d a' b' dk) (hBe : Sort.Below ltInt a' b' dk) (hb : b' ≤ dk.size) (hm1 : a' ≤ mid) (hm2 : mid < b') (hp : PermIn a' b' dk d4) (hlo : ∀ i, a' ≤ i → i < mid → ltInt d4[i]! d4[mid]! = true) (hhi : ∀ i, mid < i → i < b' → ltInt d4[i]! d4[mid]! = false)
    (hL : PermIn (mid + 1) b' d4 L) (hsL : SortedIn ltInt (mid + 1) b' L) : Ends a b d a' mid L ∧ Sort.Below ltInt a' mid L := by
  have hb4 : b' ≤ d4.size := by rw [hp.1]; exact hb
  have hbL : b' ≤ L.size := by rw [hL.1]; exact hb4
  have hPL := permIn_trans _ _ _ _ _ hp (permIn_mono _ _ (mid + 1) b' a' b' (by omega) (Nat.le_refl _) hb4 hL)
  have eL : ∀ i, i ≤ mid → L[i]! = d4[i]! := fun i hi => hL.2.1 i (Or.inl (by omega))
  refine ⟨fun R h1 h2 => h R (permIn_trans _ _ _ _ _ hPL (permIn_mono _ _ a' mid a' b' (Nat.le_refl _) (by omega) hbL h1)) ?_, Sort.Below.mono (below_perm hBe hb hPL) (by omega)⟩
  have eR : ∀ i, mid ≤ i → R[i]! = L[i]! := fun i hi => h1.2.1 i (Or.inr hi)
  refine sorted_glue swo_ltInt h2 (hsL.congr fun i k _ => eR i (by omega)) (fun i k1 k2 => ?_) (fun i k1 k2 => ?_)
  · rw [eR mid (Nat.le_refl _), eL mid (Nat.le_refl _)]
    exact permIn_all L R a' mid (fun x => ltInt x d4[mid]! = true) (by omega) h1 (fun t t1 t2 => by rw [eL t (by omega)]; exact hlo t t1 t2) i k1 k2
  · rw [eR i (by omega), eR mid (Nat.le_refl _), eL mid (Nat.le_refl _)]
    exact permIn_all d4 L (mid + 1) b' (fun x => ltInt x d4[mid]! = false) hb4 hL (fun t t1 t2 => hhi t (by omega) t2) i (by omega) k2
end

/-- What a round has. -/
structure Rd (w0 W : World) (blk off a b : Nat) (dk dl : Array Int) : Prop where
  perm : PermIn a b dk dl
  st : St w0 W blk off dl
theorem Rd.put {w0 W W' : World} {blk off a b n : Nat} {dk dl dm : Array Int} (h : Rd w0 W blk off a b dk dl) (hp : PermIn a b dl dm) (hW : W' = putRow encU (Sort.ahead W n) blk off dm) : Rd w0 W' blk off a b dk dm :=
  ⟨permIn_trans _ _ _ _ _ h.perm hp, h.st.put hp.1 hW⟩
theorem Rd.drew {w0 W : World} {blk off a b : Nat} {dk dl : Array Int} (h : Rd w0 W blk off a b dk dl) (q : Nat) : Rd w0 (W.drewN q) blk off a b dk dl :=
  ⟨h.perm, h.st.below (below_drewN (RowKit.Below.refl _ _) q)⟩

set_option maxHeartbeats 16000000 in
set_option maxRecDepth 1000000 in
theorem pdq_any : ∀ (N blk off cap a b lim : Nat) (d : Array Int) (w0 w : World), b - a < N → St w0 w blk off d → a ≤ b → b ≤ d.size → d.size < 1000000 → lim < 1000000 → Sort.Below ltInt a b d →
    Calls Try.prog 57 #[.slice (some ⟨blk, off, none⟩) d.size cap, .int .i64 a, .int .i64 b, .int .i64 lim] w fun e w' => e = .returned (.tuple #[]) ∧ ∃ d', (PermIn a b d d' ∧ SortedIn ltInt a b d') ∧ St w0 w' blk off d' := by
  intro N
  induction N with
  | zero => intro _ _ _ _ _ _ _ _ _ h; exact absurd h (Nat.not_lt_zero _)
  | succ N ih =>
    intro blk off cap a b lim d w0 w hN hSt hab hb hsz hlim hBe
    have IH := Lib.hid ih
    have H0 := Lib.hid hSt
    have HB0 := Lib.hid hBe
    clear ih hSt hBe
    go_enter Try.func57, Try.ntmps57
    go_wp2
    go_loopg [1, 2, 3, 8, 9] (b - a) (fun k s1 s2 s3 s8 s9 wr => ∃ (a' b' lm : Nat) (wb wp : Bool) (dk : Array Int), s1 = .int .i64 a' ∧ s2 = .int .i64 b' ∧ s3 = .int .i64 lm ∧ s8 = .bool wb ∧ s9 = .bool wp ∧
      a' ≤ b' ∧ b' ≤ d.size ∧ b' - a' ≤ k ∧ k ≤ b - a ∧ lm ≤ lim ∧ dk.size = d.size ∧ Hid (Sort.Below ltInt a' b' dk) ∧ Hid (St w0 wr blk off dk) ∧ Hid (Ends a b d a' b' dk))
    case atStart => exact ⟨a, b, lim, true, true, d, rfl, rfl, rfl, rfl, rfl, hab, hb, Nat.le_refl _, Nat.le_refl _, Nat.le_refl _, rfl, HB0, H0, Lib.hid fun R h1 h2 => ⟨h1, h2⟩⟩
    case round =>
      obtain ⟨a', b', lm, wb, wp, dk, rfl, rfl, rfl, rfl, rfl, hab', hb', hk, hkN, hlm, hds, HBe, HSt, HE⟩ := hrel
      have HDS := Lib.hid hds
      by_cases h12 : b' - a' ≤ 12
      · have h12z : (b' : Int) - (a' : Int) ≤ 12 := by omega
        have hc := insert_any blk off cap a' b' dk wr HSt.out.holds hab' (by omega) (by omega)
        rw [hds] at hc
        have HC := Lib.hid hc
        clear hc hds
        go_wp2_with (go_at_call 61; refine HC.out.mono ?_; rintro e w1 ⟨rfl, n1, hw1⟩; have HW1 := Lib.hid hw1; clear hw1)
        (try simp only [Exit.inBlock, Exit.then]); refine bodyPost_ret (results_none rfl _ _ _) rfl ?_
        have hI := insertionSort_holds swo_ltInt dk a' b' hab' (by have := HDS.out; omega)
        exact ⟨rfl, _, HE.out _ hI.1 hI.2, HSt.out.put hI.1.1 HW1.out⟩
      · have h12z : ¬ ((b' : Int) - (a' : Int) ≤ 12) := by omega
        by_cases hl0 : lm = 0
        · subst hl0
          have hc := heap_any blk off cap a' (b' - a') dk wr HSt.out.holds (by omega) (by omega) (by omega)
          rw [hds, show (a' : Int) + ((b' - a' : Nat) : Int) = (b' : Int) by omega] at hc
          have HC := Lib.hid hc
          clear hc hds
          go_wp2_with (go_at_call 62; refine HC.out.mono ?_; rintro e w1 ⟨rfl, n1, hw1⟩; have HW1 := Lib.hid hw1; clear hw1)
          (try simp only [Exit.inBlock, Exit.then]); refine bodyPost_ret (results_none rfl _ _ _) rfl ?_
          have hI := heapSort_holds swo_ltInt dk a' b' hab' (by have := HDS.out; omega)
          exact ⟨rfl, _, HE.out _ hI.1 hI.2, HSt.out.put hI.1.1 HW1.out⟩
        · have hl0z : ¬ ((lm : Int) = 0) := by omega
          have hl0y : ((lm : Int) == 0) = false := by simp; omega
          have HR0 := Lib.hid (show Rd w0 wr blk off a' b' dk dk from ⟨permIn_refl _ _ _, HSt.out⟩)
          clear HSt hds
          -- breakPatterns, or not
          go_upto_if 35 with fail
          go_cut [3] from 19 to 133 (fun s3 wx => ∃ (lm2 : Nat) (d1 : Array Int), s3 = .int .i64 lm2 ∧ lm2 ≤ lim ∧ Hid (Rd w0 wx blk off a' b' dk d1))
          case first =>
            cases wb
            · have hc := break_any blk off cap a' (b' - a') dk w0 wr HR0.out.st (by omega) (by have := HDS.out; omega) (by have := HDS.out; omega)
              rw [HDS.out, show (a' : Int) + ((b' - a' : Nat) : Int) = (b' : Int) by omega, show a' + (b' - a') = b' by omega] at hc
              have HC := Lib.hid hc
              clear hc
              go_wp2_with (go_at_call 63; refine HC.out.mono ?_; rintro e w1 ⟨rfl, d1, hp1, hs1⟩)
              go_meet
              case rel => exact ⟨lm - 1, d1, by congr 1; omega, by omega, Lib.hid ⟨hp1, hs1⟩⟩
            · go_wp2_with fail
              go_meet
              case rel => exact ⟨lm, dk, rfl, hlm, HR0⟩
          case rest =>
            obtain ⟨lm2, d1, rfl, hlm2, HR1⟩ := hcut
            obtain ⟨wA, rfl⟩ : ∃ wA : World, wA = wc := ⟨_, rfl⟩
            clear HR0 hl0z hl0y
            have hs1 : d1.size = d.size := HR1.out.perm.1.trans HDS.out
            have hc := pivot_any blk off cap d.size a' (b' - a') (fun t => d1[t]!) wA (fun t ht => (HR1.out.st.holds t (by omega)).1) (by omega) (by omega) hsz (by have := HR1.out.st.lt; have := HR1.out.st.grown.size; omega)
            rw [show (a' : Int) + ((b' - a' : Nat) : Int) = (b' : Int) by omega, show a' + (b' - a') = b' by omega] at hc
            have HC := Lib.hid hc
            have HS1 := Lib.hid hs1
            clear hc hs1
            go_upto_if 50 with (go_at_call 64; refine HC.out.mono ?_; rintro e w2 ⟨p, h, rfl, ⟨hp1, hp2⟩, hh, hw2⟩)
            have HR2 := Lib.hid (show Rd w0 w2 blk off a' b' dk d1 from ⟨HR1.out.perm, HR1.out.st.below hw2⟩)
            clear hw2 HC HR1
            -- a falling part is turned round, or not
            go_cut [11, 12] from 19 to 133 (fun s11 s12 wx => ∃ (p2 : Nat) (h2 : Int) (d2 : Array Int), s11 = .int .i64 p2 ∧ s12 = .int .i64 h2 ∧ a' < p2 ∧ p2 < b' ∧ Hid (Rd w0 wx blk off a' b' dk d2))
            case first =>
              rcases hh with rfl | rfl | rfl
              · go_wp2_with fail
                go_meet
                case rel => exact ⟨p, 0, d1, rfl, rfl, by omega, by omega, HR2⟩
              · go_wp2_with fail
                go_meet
                case rel => exact ⟨p, 1, d1, rfl, rfl, by omega, by omega, HR2⟩
              · have hc := rev_any blk off cap a' b' d1 w2 HR2.out.st.holds (by omega) (by have := HS1.out; omega) (by have := HS1.out; omega)
                rw [HS1.out] at hc
                have HC := Lib.hid hc
                clear hc
                go_wp2_with (go_at_call 65; refine HC.out.mono ?_; rintro e w3 ⟨rfl, n3, d2, hp3, hw3⟩; have HW3 := Lib.hid hw3; clear hw3)
                go_meet
                case rel => exact ⟨b' - 1 - (p - a'), 1, d2, by congr 1; omega, rfl, by omega, by omega, Lib.hid (HR2.out.put hp3 HW3.out)⟩
            case rest =>
              obtain ⟨p2, h2, d2, rfl, rfl, hp3, hp4, HR3⟩ := hcut
              obtain ⟨wB, rfl⟩ : ∃ wB : World, wB = wc := ⟨_, rfl⟩
              clear HR2 HS1 hh hp1 hp2
              go_upto_region 15 with fail
              go_cut [68] from 19 to 133 (fun s68 wx => ∃ c : Bool, s68 = .bool c ∧ wx = wB)
              case first =>
                cases wb <;> cases wp <;>
                  (go_wp2_with fail
                   go_meet
                   exact ⟨_, rfl, rfl⟩)
              case rest =>
                obtain ⟨c, rfl, rfl⟩ := hcut
                go_upto_if 68 with fail
                go_cut [] from 19 to 133 (fun wx => ∃ d3, Hid (Rd w0 wx blk off a' b' dk d3))
                case first =>
                  cases c
                  · go_wp2_with fail
                    go_meet
                    case rel => exact ⟨d2, HR3⟩
                  · have hs2 : d2.size = d.size := HR3.out.perm.1.trans HDS.out
                    have hc := pins_any blk off cap a' b' d2 wc HR3.out.st.holds (by omega) (by omega) (by omega)
                    rw [hs2] at hc
                    have HC := Lib.hid hc
                    have HI := Lib.hid (partialInsertionSort_holds swo_ltInt d2 a' b' (by omega) (by omega) (below_perm HBe.out (by have := HDS.out; omega) HR3.out.perm))
                    clear hc hs2
                    generalize Sort.partialInsertionSort ltInt d2 a' b' = PI at HC HI
                    obtain ⟨d3, o⟩ := PI
                    cases o
                    · go_wp2_with (go_at_call 66; refine HC.out.mono ?_; rintro e w4 ⟨rfl, n4, hw4⟩; have HW4 := Lib.hid hw4; clear hw4)
                      go_meet
                      case rel => exact ⟨d3, Lib.hid (HR3.out.put HI.out.1 HW4.out)⟩
                    · go_wp2_with (go_at_call 66; refine HC.out.mono ?_; rintro e w4 ⟨rfl, n4, hw4⟩; have HW4 := Lib.hid hw4; clear hw4)
                      (try simp only [Exit.inBlock, Exit.then]); refine bodyPost_ret (results_none rfl _ _ _) rfl ?_
                      have hR := HR3.out.put HI.out.1 HW4.out
                      exact ⟨rfl, d3, HE.out _ hR.perm (HI.out.2 (by first | trivial | rfl)), hR.st⟩
                case rest =>
                  obtain ⟨d3, HR4⟩ := hcut
                  obtain ⟨wD, rfl⟩ : ∃ wD : World, wD = wc := ⟨_, rfl⟩
                  clear HR3
                  have HS3 := Lib.hid (show d3.size = d.size from HR4.out.perm.1.trans HDS.out)
                  go_upto_region 17 with fail
                  go_cut [87] from 19 to 133 (fun s87 wx => ∃ c : Bool, s87 = .bool c ∧ Hid (c = true → 0 < a' ∧ ltInt d3[a' - 1]! d3[p2]! = false) ∧ Hid (Rd w0 wx blk off a' b' dk d3))
                  case first =>
                    obtain ⟨G, hG, hcw, hfw⟩ := st_view HR4.out.st HS3.out
                    have HG := Lib.hid hG
                    clear hG
                    rcases Nat.eq_zero_or_pos a' with ha0 | ha0
                    · have ha0z : decide ((a' : Int) > 0) = false := decide_eq_false (by omega)
                      have ha0y : decide (0 < (a' : Int)) = false := decide_eq_false (by omega)
                      go_big_quiet (first | (go_at_call 67; refine Calls.quiet_of_same (less_any _ _ _)))
                      go_wp2_with fail
                      go_meet
                      case rel => exact ⟨false, rfl, Lib.hid (fun h => by cases h), Lib.hid (HR4.out.drew nq)⟩
                    · have ha0z : (a' : Int) > 0 := by omega
                      go_big_quiet (first | (go_at_call 67; refine Calls.quiet_of_same (less_any _ _ _)))
                      go_wp2_with fail
                      go_meet
                      case rel => exact ⟨!ltInt (G (a' - 1)) (G p2), rfl, Lib.hid (fun h => ⟨ha0, by rw [HG.out, HG.out] at h; exact not_true h⟩), Lib.hid (HR4.out.drew nq)⟩
                  case rest =>
                    obtain ⟨c, rfl, HQ, HR5⟩ := hcut
                    obtain ⟨wE, rfl⟩ : ∃ wE : World, wE = wc := ⟨_, rfl⟩
                    clear HR4
                    cases c
                    · have hc := part_any blk off cap a' b' p2 d3 wE HR5.out.st.holds hp3 hp4 (by have := HS3.out; omega) (by have := HS3.out; omega)
                      rw [HS3.out] at hc
                      have HC := Lib.hid hc
                      clear hc HQ
                      go_upto_if 113 with (go_at_call 69; refine HC.out.mono ?_; rintro e w7 ⟨mid, ap, n7, d4, rfl, hm1, hm2, hp7, hlo, hhi, hw7⟩; have HW7 := Lib.hid hw7; have HLO := Lib.hid hlo; have HHI := Lib.hid hhi; clear hw7 hlo hhi)
                      have HR6 := Lib.hid (HR5.out.put hp7 HW7.out)
                      have HB4 := Lib.hid (below_perm HBe.out (by have := HDS.out; omega) HR6.out.perm)
                      have HS4 := Lib.hid (show d4.size = d.size from HR6.out.perm.1.trans HDS.out)
                      clear hp7 HW7 HC HR5
                      by_cases h4 : mid - a' < b' - mid
                      · have h4z : (mid : Int) - (a' : Int) < (b' : Int) - (mid : Int) := by omega
                        have hih := IH.out blk off cap a' mid lm2 d4 w0 w7 (by omega) HR6.out.st (by omega) (by have := HS4.out; omega) (by have := HS4.out; omega) (by omega) (HB4.out.mono (by omega))
                        rw [HS4.out] at hih
                        have HI := Lib.hid hih
                        clear hih
                        go_wp2_with (go_at_call 57; refine HI.out.mono ?_; rintro e w8 ⟨rfl, d5, ⟨hp8, hs8⟩, hst8⟩)
                        have HK := Lib.hid (ends_left HE.out (by have := HDS.out; omega) hm1 hm2 HR6.out.perm HLO.out HHI.out hp8 hs8)
                        have HS5 := Lib.hid (hp8.1.trans HS4.out)
                        have H8 := Lib.hid hst8
                        clear hp8 hs8 hst8
                        go_roundg (b' - (mid + 1))
                        case measure => omega
                        case rel => exact ⟨mid + 1, b', lm2, _, ap, d5, by go_num, rfl, rfl, rfl, rfl, hm2, hb', Nat.le_refl _, Nat.le_trans (Nat.le_trans (Nat.sub_le_sub_left (Nat.le_succ_of_le hm1) b') hk) hkN, hlm2, HS5.out, Lib.hid HK.out.2, H8, Lib.hid HK.out.1⟩
                      · have h4z : ¬ ((mid : Int) - (a' : Int) < (b' : Int) - (mid : Int)) := by omega
                        have hih := IH.out blk off cap (mid + 1) b' lm2 d4 w0 w7 (by omega) HR6.out.st (by omega) (by have := HS4.out; omega) (by have := HS4.out; omega) (by omega) (Or.inr fun i h1 h2 => by rw [Nat.add_sub_cancel]; exact HHI.out i (by omega) h2)
                        rw [HS4.out, show ((mid + 1 : Nat) : Int) = (mid : Int) + 1 by omega] at hih
                        have HI := Lib.hid hih
                        clear hih
                        go_wp2_with (go_at_call 57; refine HI.out.mono ?_; rintro e w8 ⟨rfl, d5, ⟨hp8, hs8⟩, hst8⟩)
                        have HK := Lib.hid (ends_right HE.out HBe.out (by have := HDS.out; omega) hm1 hm2 HR6.out.perm HLO.out HHI.out hp8 hs8)
                        have HS5 := Lib.hid (hp8.1.trans HS4.out)
                        have H8 := Lib.hid hst8
                        clear hp8 hs8 hst8
                        go_roundg (mid - a')
                        case measure => omega
                        case rel => exact ⟨a', mid, lm2, _, ap, d5, rfl, rfl, rfl, rfl, rfl, hm1, Nat.le_trans (Nat.le_of_lt hm2) hb', Nat.le_refl _, Nat.le_trans (Nat.le_trans (Nat.sub_le_sub_right (Nat.le_of_lt hm2) a') hk) hkN, hlm2, HS5.out, Lib.hid HK.out.2, H8, Lib.hid HK.out.1⟩
                    · obtain ⟨ha0, hnl⟩ := HQ.out rfl
                      have hB3 := below_perm HBe.out (by have := HDS.out; omega) HR5.out.perm
                      have hge : ∀ i, a' ≤ i → i < b' → ltInt d3[i]! d3[p2]! = false := fun i h1 h2 => by
                        rcases hB3 with h0 | h0
                        · omega
                        · exact swo_ltInt.ntrans _ _ _ (h0 i h1 h2) hnl
                      have hc := parteq_any blk off cap a' b' p2 d3 wE HR5.out.st.holds hp3 hp4 (by have := HS3.out; omega) (by have := HS3.out; omega) hge
                      rw [HS3.out] at hc
                      have HC := Lib.hid hc
                      have HGE := Lib.hid hge
                      clear hc HQ hnl hge hB3
                      go_wp2_with (go_at_call 68; refine HC.out.mono ?_; rintro e w7 ⟨mid, n7, d4, rfl, hm1, hm2, hp7, hle, hgt, hw7⟩; have HW7 := Lib.hid hw7; have HLE := Lib.hid hle; have HGT := Lib.hid hgt; clear hw7 hle hgt)
                      have HR6 := Lib.hid (HR5.out.put hp7 HW7.out)
                      have HK := Lib.hid (ends_eq (HE.out.perm HR5.out.perm) (by have := HS3.out; omega) hm1 hm2 hp7 HGE.out HLE.out HGT.out)
                      clear hp7 HW7 HLE HGT
                      go_roundg (b' - mid)
                      case measure => omega
                      case rel => exact ⟨mid, b', lm2, wb, wp, d4, rfl, rfl, rfl, rfl, rfl, hm2, hb', Nat.le_refl _, Nat.le_trans (Nat.le_trans (Nat.sub_le_sub_left (Nat.le_of_lt hm1) b') hk) hkN, hlm2, HR6.out.perm.1.trans HDS.out, Lib.hid HK.out.2, Lib.hid HR6.out.st, Lib.hid HK.out.1⟩

theorem bitLen_le : ∀ (k x : Nat), k ≤ 64 → x < 2 ^ k → Lib.bitLen x ≤ k
  | 0, x, _, h => by
    obtain rfl : x = 0 := by simpa using h
    exact Nat.le_of_eq (by decide)
  | k + 1, x, hk, h => by
    by_cases h0 : x = 0
    · subst h0; exact Nat.le_trans (Nat.le_of_eq (by decide : Lib.bitLen 0 = 0)) (Nat.zero_le _)
    · rw [Lib.bitLen_half x h0 (Nat.lt_of_lt_of_le h (Nat.pow_le_pow_right (by omega) hk))]
      have := bitLen_le k (x / 2) (by omega) (by rw [Nat.pow_succ] at h; omega)
      omega
theorem len2_any (n : Nat) (hn : n ≤ 1000000) (w : World) : Calls Try.prog 58 #[.int .u64 (n : Int)] w fun e w' => (∃ l : Nat, l < 1000000 ∧ e = .returned (.int .i64 l)) ∧ w' = w :=
  (Any.bits_Len (SlLaysF0.n15.bits (P := Try.prog) (ρ := layF_ren) { layF with }) (n : Int) w (by omega) (by omega)).mono fun _ _ ⟨h1, h2⟩ =>
    ⟨⟨_, Nat.lt_of_le_of_lt (bitLen_le 64 _ (Nat.le_refl _) (by simp; omega)) (by omega), h1⟩, h2⟩
theorem sort_row2 (g cap : Nat) (d : Array Int) (w : World) (hsz : d.size ≤ 1000000) (F : World → Prop)
    (hp : ∀ lim : Nat, lim < 1000000 → Calls Try.prog 57 #[.slice (some ⟨g, 0, none⟩) d.size cap, .int .i64 0, .int .i64 d.size, .int .i64 lim] w fun e w' => e = .returned (.tuple #[]) ∧ F w') :
    Calls Try.prog 51 #[.slice (some ⟨g, 0, none⟩) d.size cap] w fun e w' => e = .returned (.tuple #[]) ∧ F w' := by
  have hl := fun W => len2_any d.size hsz W
  have Hl := Lib.hid hl
  have hw := wrap_conv d.size hsz
  have HP := Lib.hid hp
  clear hl hp
  go_enter Try.func51, Try.ntmps51
  go_wp2_with (first
    | (go_at_call 58; refine (Hl.out _).mono ?_; rintro e w' ⟨⟨n, hn, rfl⟩, rfl⟩)
    | (go_at_call 57; refine (HP.out _ hn).mono ?_; rintro e w' ⟨rfl, hF⟩))
  go_end0
  exact ⟨rfl, hF⟩

/-- slices.Sort sorts. -/
theorem sorts_all : SortsAt 999999 := by
  intro l base v w hlen hbw hv
  rcases hv.2 with ⟨rfl, h0⟩ | ⟨g, cap, cur, rfl, hbase, hh, hle, hcap, hsz, ht⟩
  · obtain rfl : l = [] := List.eq_nil_of_length_eq_zero h0
    refine (sort_nil w).mono ?_
    rintro e w' ⟨rfl, rfl⟩
    exact ⟨rfl, [], List.Perm.refl _, List.Pairwise.nil, hv, World.grownBy.refl _ _⟩
  · have hil : (ints l).length = l.length := by simp [ints]
    have hds : (ints l).toArray.size = l.length := by simp [ints]
    have hH := holds_own (l := ints l) hh (by rw [hil, ← Nat.mul_one l.length, ht, u64s_ints])
    have hg : g < w.heap.size := (Array.getElem?_eq_some_iff.1 hh).1
    have hcon := sort_row2 g cap (ints l).toArray w (by omega) (fun w' => ∃ d', (PermIn 0 (ints l).toArray.size (ints l).toArray d' ∧ SortedIn ltInt 0 (ints l).toArray.size d') ∧ St w w' g 0 d') (fun lim hlim => by
      have := pdq_any ((ints l).toArray.size + 1) g 0 cap 0 (ints l).toArray.size lim (ints l).toArray w w (by omega) (St.refl hH hg) (Nat.zero_le _) (Nat.le_refl _) (by omega) hlim (Or.inl rfl)
      exact this)
    rw [hds] at hcon
    refine hcon.mono ?_
    rintro e w' ⟨rfl, d', ⟨hp, hs⟩, hst⟩
    rw [← hds] at hp hs
    obtain ⟨r, hr, hpr, hpw⟩ := sorted_nat hp hs
    have hl : r.length = l.length := hpr.length_eq
    obtain ⟨cur', hh', hsz'⟩ := hst.shape cur _ _ hh
    refine ⟨rfl, r, hpr, hpw, ⟨by simp [u64s], .inr ⟨g, cap, cur', by rw [hl], hbase, hh', by omega, hcap, by omega, ?_⟩⟩, hst.grown⟩
    have hd : d'.size = r.length := by rw [← Array.length_toList, ← hr]; simp [ints]
    apply List.ext_getElem?
    intro j
    rw [Nat.mul_one]
    by_cases hj : j < r.length
    · have h1 := (hst.holds j (by omega)).1
      simp only [World.cell?, hh', Nat.zero_add, Option.isSome_none, Bool.false_eq_true, if_false] at h1
      have e1 : d'[j]! = ((r[j] : Nat) : Int) := by
        have h2 : d'.toList[j]? = (ints r)[j]? := by rw [hr]
        rw [getElem!_def, ← Array.getElem?_toList, h2]
        simp [ints, hj]
      rw [List.getElem?_take_of_lt hj, Array.getElem?_toList, h1, e1]
      simp [u64s, hj]
    · rw [List.getElem?_take_eq_none (by omega), List.getElem?_eq_none (by simp [u64s]; omega)]
end Go.Proofs.Ythedpjlafapfeaa
