/- Parts and spans as values; the reference's page. -/
import Derived.Laws.StructEq
import Derived.Test.YtgnihceefpijiaaRm
import Derived.Test.YtgnihceefpijiaaOne
import Derived.Test.YtgnihceefpijiaaW2
import Derived.Test.YtgnihceefpijiaaWp
import Derived.Test.YtgnihceefpijiaaSg
namespace Go.Proofs.Ytgnihceefpijiaa
open Go.RowKit

def mpE (x : Mp) : Nat → Value
  | 0 => .int .u64 x.ipa
  | 1 => .int .u64 x.pa
  | 2 => .int .u64 x.size
  | 3 => .int .i64 x.perm
  | _ => .int .i64 x.kind
theorem mpE_one (x : Mp) (n : Nat) : ∀ i, i < n → (mpE x i).oneCell' = true := by
  intro i _
  unfold mpE
  split <;> rfl
def zMp : Mp := ⟨0, 0, 0, 0, 0⟩
def spE (x : Sp) : Nat → Value
  | 0 => .int .u64 (x.1 : Int)
  | _ => .int .u64 (x.2 : Int)
theorem spE_one (x : Sp) (n : Nat) : ∀ i, i < n → (spE x i).oneCell' = true := by
  intro i _
  unfold spE
  split <;> rfl
theorem infoMp : (Try.prog.info? 39).map (·.size) = some 5 := by kernel_rfl
theorem infoSp : (Try.prog.info? 49).map (·.size) = some 2 := by kernel_rfl
theorem zeroMp (w : World) : (zeroValue 39).run Try.prog w = .ok (.agg (vec 5 (mpE zMp))) w :=
  (zero_of_info (P := Try.prog) (t := 39) (v := .agg (vec 5 (mpE zMp))) (n := 5) (by kernel_rfl)).1 w
theorem zeroSp (w : World) : (zeroValue 49).run Try.prog w = .ok (.agg (vec 2 (spE (0, 0)))) w :=
  (zero_of_info (P := Try.prog) (t := 49) (v := .agg (vec 2 (spE (0, 0)))) (n := 2) (by kernel_rfl)).1 w
theorem u64Z_nat {z : Int} (h : u64Z z) : ((z.toNat : Nat) : Int) = z ∧ z.toNat < 18446744073709551616 := by unfold u64Z at h; omega
theorem fit_ipa {x : Mp} (h : MpB x) : fit (ipaS x) := ⟨(u64Z_nat h.ipa).2, (u64Z_nat h.size).2⟩
theorem fit_pa {x : Mp} (h : MpB x) : fit (paS x) := ⟨(u64Z_nat h.pa).2, (u64Z_nat h.size).2⟩
/-! ### The reference's words on spans -/
theorem rgoodE (x : Sp) (hx : fit x) (w : World) : Calls Try.prog 27 #[.agg (vec 2 (spE x))] w (EqV (good x) w) := rgood_bel x.1 x.2 hx w
theorem rlastE (x : Sp) (hx : fit x) (w : World) : Calls Try.prog 40 #[.agg (vec 2 (spE x))] w fun e w' => e = .returned (.int .u64 (last x : Nat)) ∧ Below w.heap.size w w' := rlast_bel x.1 x.2 hx w
theorem rhasE (x : Sp) (hx : fit x) (p : Nat) (hp : p < 18446744073709551616) (w : World) : Calls Try.prog 21 #[.agg (vec 2 (spE x)), .int .u64 (p : Int)] w (EqV (has x p) w) := rhas_any x.1 x.2 p hx hp w
theorem roverlapE (x y : Sp) (hx : fit x) (hy : fit y) (w : World) : Calls Try.prog 28 #[.agg (vec 2 (spE x)), .agg (vec 2 (spE y))] w (EqV (overlap x y) w) := roverlap_any x.1 x.2 y.1 y.2 hx hy w
theorem rpagesE (x : Sp) (hx : fit x) (w : World) : Calls Try.prog 44 #[.agg (vec 2 (spE x))] w (EqV (paged x) w) := rpages_any x.1 x.2 hx w
attribute [local go_sem ↓ high] zeroSp
set_option maxHeartbeats 1000000 in
set_option maxRecDepth 100000 in
theorem rpage_any (b s : Int) (hb : u64Z b) (hs : u64Z s) (w : World) : Calls Try.prog 32 #[.int .u64 b, .int .u64 s] w (EqV (pageB b s) w) := by
  have hfit : fit (b.toNat, s.toNat) := ⟨(u64Z_nat hb).2, (u64Z_nat hs).2⟩
  have HPG := Lib.hid (fun W => rpagesE (b.toNat, s.toNat) hfit W)
  have HLA := Lib.hid (fun W => rlastE (b.toNat, s.toNat) hfit W)
  have hpb : pageB b s = (paged (b.toNat, s.toNat) && decide ((last (b.toNat, s.toNat) : Int) < 1099511627776)) := by
    unfold pageB
    cases hp : paged (b.toNat, s.toNat)
    · rw [Bool.false_and, Bool.false_and]
    · have hg : good (b.toNat, s.toNat) = true := by unfold paged at hp; rw [Bool.and_eq_true] at hp; exact hp.1
      have h1 := last_good hg
      have h2 := (good_iff _).1 hg
      simp only [Bool.true_and]
      apply decide_eq_decide.2
      simp only at h1 h2
      omega
  obtain ⟨x, hx⟩ : ∃ x : Sp, x = (b.toNat, s.toNat) := ⟨_, rfl⟩
  have e1 : b = (x.1 : Int) := by rw [hx]; exact (u64Z_nat hb).1.symm
  have e2 : s = (x.2 : Int) := by rw [hx]; exact (u64Z_nat hs).1.symm
  rw [← hx] at HPG HLA hpb
  rw [hpb]
  obtain ⟨p, hp⟩ : ∃ p, p = paged x := ⟨_, rfl⟩
  obtain ⟨n, hn⟩ : ∃ n, n = last x := ⟨_, rfl⟩
  rw [← hp] at HPG ⊢
  rw [← hn] at HLA ⊢
  clear hpb hp hn hfit hb hs hx
  subst e1 e2
  unfold EqV at HPG ⊢
  go_enter Try.func32, Try.ntmps32
  go_upto_region 2 with (first
    | ((with_reducible show wpList _ _ _ (Oper.mk _ (.build _ _) _ _ _ _ :: _) _ _); refine wl_build rfl 49 _ rfl (vec 2 (spE x)) (by kernel_rfl) ?_)
    | ((with_reducible show wpList _ _ _ (Oper.mk _ (.store _ _ _) _ _ _ _ :: _) _ _); refine wl_store rfl 49 _ _ rfl _ rfl _ rfl (run_store_arr (Arr.new w _ _ _) (spE x) infoSp (spE_one _ _)) ?_))
  obtain ⟨g, hg⟩ : ∃ g, g = w.heap.size := ⟨_, rfl⟩
  obtain ⟨V, hV⟩ : ∃ V, V = (w.alloc (.cells (vec 2 (spE (0, 0))) 49)).setRow w.heap.size (vec 2 (spE x)) := ⟨_, rfl⟩
  have k0 : Arr V g 49 2 (spE x) := by rw [hV, hg]; exact (Arr.new w _ _ _).row _
  have hB : Below w.heap.size w V := by rw [hV]; exact below_row ((Below.refl _ _).alloc (Nat.le_refl _) _) (Nat.le_refl _) _
  rw [← hV, ← hg]
  have HK := Lib.hid (And.intro k0 hB)
  clear hV hg k0 hB
  cases p
  · go_wp2_with (first
      | ((with_reducible show wpList _ _ _ (Oper.mk (some 9) (.load _ _) _ _ _ _ :: _) _ _); refine wl_load rfl 49 _ rfl g rfl _ (run_load_arr HK.out.1 Try.underlying49 rfl infoSp) ?_)
      | (go_at_call 44; refine (HPG.out _).mono ?_; rintro e w1 ⟨rfl, hd⟩; have HD := Lib.hid hd; clear hd))
    go_ret
    exact ⟨rfl, HK.out.2.trans (HD.out.mono HK.out.2.size)⟩
  · go_wp2_with (first
      | ((with_reducible show wpList _ _ _ (Oper.mk (some 9) (.load _ _) _ _ _ _ :: _) _ _); refine wl_load rfl 49 _ rfl g rfl _ (run_load_arr HK.out.1 Try.underlying49 rfl infoSp) ?_)
      | (go_at_call 44; refine (HPG.out _).mono ?_; rintro e w1 ⟨rfl, hd⟩; have HD := Lib.hid hd; clear hd)
      | ((with_reducible show wpList _ _ _ (Oper.mk (some 12) (.load _ _) _ _ _ _ :: _) _ _); refine wl_execG (by kernel_rfl) (exec_load_at 49 _ rfl g 0 rfl _ (run_load_arr (HK.out.1.under HD.out) Try.underlying49 rfl infoSp)) ?_)
      | (go_at_call 40; refine (HLA.out _).mono ?_; rintro e w2 ⟨rfl, hd⟩; have HD := Lib.hid (HD.out.trans (hd.mono HD.out.size)); clear hd))
    go_ret
    exact ⟨by rw [Bool.true_and]; rfl, HK.out.2.trans (HD.out.mono HK.out.2.size)⟩
end Go.Proofs.Ytgnihceefpijiaa
