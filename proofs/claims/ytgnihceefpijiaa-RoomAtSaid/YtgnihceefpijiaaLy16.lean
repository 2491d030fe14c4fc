/- The law RoomAt, over what the code's functions keep. -/
import Derived.Test.YtgnihceefpijiaaLw16
import Derived.Test.YtgnihceefpijiaaRat
import Derived.Test.YtgnihceefpijiaaRgd
namespace Go.Proofs.Ytgnihceefpijiaa
open Go.RowKit
attribute [local go_sem ↓ high] zeroMp

def CodeAt : Prop := ∀ (l : List Mp) (A : Option Addr) (c : Nat), l.length ≤ 1000000 → ∀ (p : Nat), p < 18446744073709551616 → ∀ (w : World), RowE 5 mpE w w.heap.size A l → (∀ x ∈ l, MpB x) → Calls Try.prog 12 #[.slice A l.length c, .int .u64 (p : Int)] w (AtP (atP l p) p w)
def CodeGood : Prop := ∀ (l : List Mp) (A : Option Addr) (c : Nat), l.length ≤ 1000000 → ∀ (w : World), RowE 5 mpE w w.heap.size A l → (∀ x ∈ l, MpB x) → Calls Try.prog 14 #[.slice A l.length c] w (EqV (goodL l) w)
theorem eql_mp (x y : Mp) (w : World) : (binOp .eql 39 (.agg (vec 5 (mpE x))) (.agg (vec 5 (mpE y)))).run Try.prog w = .ok (.bool (mpEq x y)) w := by
  rw [run_eql_struct, equalIn_mp 9998]; rfl
theorem exec_eql_mp {o : Oper} {a : Act} (x y : Operand) (t : TypeId) (ho : o.op = .binOp .eql 39 x y t) (p : Mp) (hx : a.eval x = .agg (vec 5 (mpE p))) (hy : a.eval y = .agg (vec 5 (mpE p))) (w : World) :
    (execOp a.eval o).run Try.prog w = .ok (.value (.bool true)) w := by
  unfold execOp
  simp only [ho, hx, hy, Sem.run_bind, Sem.run_pure, run_eqGuard_agg (P := Try.prog) w .eql 39 x y _ _ (by kernel_rfl), eql_mp, Result.andThen_ok]
  rw [mpEq_self]
theorem atP_tell (o : Option Mp) (p : Nat) : ∃ (M : Mp) (ad : Int) (is : Bool), ∀ w e w', AtP o p w e w' → e = .returned (.tuple #[.agg (vec 5 (mpE M)), .int .u64 ad, .bool is]) ∧ Below w.heap.size w w' := by
  cases o with
  | none => exact ⟨zMp, 0, false, fun w e w' h => h⟩
  | some x => exact ⟨x, adrP x p, true, fun w e w' h => h⟩
set_option maxHeartbeats 8000000 in
set_option maxRecDepth 100000 in
theorem roomAt_walk (HAWK : Awake16) (HCA : CodeAt) (HCG : CodeGood) (l : List Mp) (A : Option Addr) (c : Nat) (hlb : l.length ≤ 9223372036854775807) (p : Nat) (hp : p < 18446744073709551616) (w : World) (hr : RowE 5 mpE w w.heap.size A l) (hb : ∀ x ∈ l, MpB x) :
    Calls Try.prog 4 #[.slice A l.length c, .int .u64 (p : Int)] w fun e w' => e = .returned (.bool true) ∧ Below w.heap.size w w' := by
  have HR := Lib.hid hr
  have HMB := Lib.hid hb
  obtain ⟨n, hn⟩ : ∃ n, n = l.length := ⟨_, rfl⟩
  rw [← hn]
  have HNL := Lib.hid hn
  by_cases hlen : 60 < n
  · have h60 : (60 : Int) < (n : Int) := by omega
    clear hr hb hn HCA HCG hlen
    go_enter Try.func4, Try.ntmps4
    go_upto_region 3 with (go_at_call 7; refine (HAWK _).mono ?_; rintro e V ⟨rfl, hd⟩; have HV := Lib.hid hd; clear hd)
    go_wp2_with fail
    go_ret
    exact ⟨rfl, HV.out⟩
  have h60 : ¬ (60 : Int) < (n : Int) := by omega
  obtain ⟨M, ad, is, hat⟩ := atP_tell (atP l p) p
  have HC1 : Hid (∀ Y, Below w.heap.size w Y → Calls Try.prog 12 #[.slice A n c, .int .u64 (p : Int)] Y fun e w' => e = .returned (.tuple #[.agg (vec 5 (mpE M)), .int .u64 ad, .bool is]) ∧ Below Y.heap.size Y w') := Lib.hid (fun Y hY => by
    rw [hn]; exact (HCA l A c (by omega) p hp Y (hr.up hY) hb).mono (fun e w' h => hat Y e w' h))
  have HC2 : Hid (∀ Y, Below w.heap.size w Y → Calls Try.prog 13 #[.slice A n c, .int .u64 (p : Int)] Y fun e w' => e = .returned (.tuple #[.agg (vec 5 (mpE M)), .int .u64 ad, .bool is]) ∧ Below Y.heap.size Y w') := Lib.hid (fun Y hY => by
    rw [hn]; exact (rat_any l A c (by omega) p hp Y (hr.up hY) hb).mono (fun e w' h => hat Y e w' h))
  obtain ⟨gd, hgd⟩ : ∃ b, b = goodL l := ⟨_, rfl⟩
  have HG1 : Hid (∀ Y, Below w.heap.size w Y → Calls Try.prog 14 #[.slice A n c] Y fun e w' => e = .returned (.bool gd) ∧ Below Y.heap.size Y w') := Lib.hid (fun Y hY => by
    rw [hn, hgd]; exact HCG l A c (by omega) Y (hr.up hY) hb)
  have HG2 : Hid (∀ Y, Below w.heap.size w Y → Calls Try.prog 15 #[.slice A n c] Y fun e w' => e = .returned (.bool gd) ∧ Below Y.heap.size Y w') := Lib.hid (fun Y hY => by
    rw [hn, hgd]; exact rgoodM_any l A c (by omega) Y (hr.up hY) hb)
  clear hr hb hn HCA HCG hlen hat hgd HR HMB HNL
  go_enter Try.func4, Try.ntmps4
  go_upto_region 3 with (go_at_call 7; refine (HAWK _).mono ?_; rintro e V ⟨rfl, hd⟩; have HV := Lib.hid hd; clear hd)
  go_upto_region 5 with fail
  go_upto_region 6 with (first
    | (go_at_call 12; refine (HC1.out _ HV.out).mono ?_; rintro e w2 ⟨rfl, hd⟩; have HD := Lib.hid (HV.out.trans (hd.mono HV.out.size)); clear hd)
    | ((with_reducible show wpList _ _ _ (Oper.mk _ (.store _ _ _) _ _ _ _ :: _) _ _); refine wl_store rfl 39 _ _ rfl _ rfl _ rfl (run_store_arr (Arr.new w2 _ _ _) (mpE M) infoMp (mpE_one _ _)) ?_))
  obtain ⟨X, hX⟩ : ∃ X, X = (w2.alloc (.cells (vec 5 (mpE zMp)) 39)).setRow w2.heap.size (vec 5 (mpE M)) := ⟨_, rfl⟩
  obtain ⟨r, hr⟩ : ∃ r, r = w2.heap.size := ⟨_, rfl⟩
  have b1 : Below w2.heap.size w2 X := by rw [hX]; exact below_row ((Below.refl _ _).alloc (Nat.le_refl _) _) (Nat.le_refl _) _
  have a1 : Arr X r 39 5 (mpE M) := by rw [hX, hr]; exact (Arr.new w2 _ _ _).row _
  have HBX := Lib.hid (HD.out.trans (b1.mono HD.out.size))
  have HA1 := Lib.hid a1
  rw [← hX, ← hr]
  clear hX hr b1 a1
  go_upto_region 7 with (first
    | (go_at_call 13; refine (HC2.out _ HBX.out).mono ?_; rintro e w3 ⟨rfl, hd⟩; have HD3 := Lib.hid (HBX.out.trans (hd.mono HBX.out.size)); have HA2 := Lib.hid (HA1.out.under hd); clear hd)
    | ((with_reducible show wpList _ _ _ (Oper.mk _ (.store _ _ _) _ _ _ _ :: _) _ _); refine wl_store rfl 39 _ _ rfl _ rfl _ rfl (run_store_arr (Arr.new w3 _ _ _) (mpE M) infoMp (mpE_one _ _)) ?_))
  obtain ⟨X3, hX⟩ : ∃ X, X = (w3.alloc (.cells (vec 5 (mpE zMp)) 39)).setRow w3.heap.size (vec 5 (mpE M)) := ⟨_, rfl⟩
  obtain ⟨r3, hr⟩ : ∃ r, r = w3.heap.size := ⟨_, rfl⟩
  have b1 : Below w3.heap.size w3 X3 := by rw [hX]; exact below_row ((Below.refl _ _).alloc (Nat.le_refl _) _) (Nat.le_refl _) _
  have a1 : Arr X3 r3 39 5 (mpE M) := by rw [hX, hr]; exact (Arr.new w3 _ _ _).row _
  have HBY := Lib.hid (HD3.out.trans (b1.mono HD3.out.size))
  have HA3 := Lib.hid (HA2.out.under b1)
  have HA4 := Lib.hid a1
  rw [← hX, ← hr]
  clear hX hr b1 a1
  go_wp2_with (first
    | ((with_reducible show wpList _ _ _ (Oper.mk _ (.load _ (.tmp 5)) _ _ _ _ :: _) _ _); refine wl_load rfl 39 _ rfl _ rfl _ (run_load_arr HA3.out Try.underlying39 rfl infoMp) ?_)
    | ((with_reducible show wpList _ _ _ (Oper.mk _ (.load _ (.tmp 8)) _ _ _ _ :: _) _ _); refine wl_load rfl 39 _ rfl _ rfl _ (run_load_arr HA4.out Try.underlying39 rfl infoMp) ?_)
    | ((with_reducible show wpList _ _ _ (Oper.mk _ (.binOp _ 39 _ _ _) _ _ _ _ :: _) _ _); refine wl_execG (by kernel_rfl) (exec_eql_mp _ _ _ rfl M rfl rfl _) ?_)
    | (go_at_call 14; refine (HG1.out _ HBY.out).mono ?_; rintro e w4 ⟨rfl, hd⟩; have HD4 := Lib.hid (HBY.out.trans (hd.mono HBY.out.size)); clear hd)
    | (go_at_call 15; refine (HG2.out _ HD4.out).mono ?_; rintro e w5 ⟨rfl, hd⟩; have HD5 := Lib.hid (HD4.out.trans (hd.mono HD4.out.size)); clear hd))
  go_ret
  exact ⟨by simp, HD5.out⟩
end Go.Proofs.Ytgnihceefpijiaa
