/- The reference: Format. -/
import Derived.Test.YtpeebdhbcglibaaCf
import Derived.Test.YtpeebdhbcglibaaQr
namespace Go.Proofs.Ytpeebdhbcglibaa
open Go.RowKit

set_option maxRecDepth 100000 in
theorem build_u8 (a b c d e f g h : Int) (w : World) : (Instr.buildSlice 22 8 #[(0, .int .u32 a), (1, .int .u32 b), (2, .int .u32 c), (3, .int .u32 d), (4, .int .u32 e), (5, .int .u32 f), (6, .int .u32 g), (7, .int .u32 h)]).run Try.prog w =
    .ok (.slice (some ⟨w.heap.size, 0, none⟩) 8 8) (w.alloc (.cells #[.int .u32 a, .int .u32 b, .int .u32 c, .int .u32 d, .int .u32 e, .int .u32 f, .int .u32 g, .int .u32 h] 30)) := by
  obtain ⟨i0, hi, hz0, hz1, hz2⟩ := info_parts infoU32
  refine run_buildSlice (P := Try.prog) w 22 30 8 _ _ i0 (.int .u32 0) Try.underlying22 hi hz0 (by rw [hz1]; decide) (by rw [hz1]; decide) ?_
  rw [hz1]
  kernel_rfl
attribute [local go_sem ↓ high] builtin_appS zeroQ
set_option maxRecDepth 100000 in
set_option maxHeartbeats 2000000 in
theorem rformat_any (A : Option Addr) (c : Nat) (vs : List W32) (hl : vs.length ≤ 1000) (w : World) (hA : Lies w w.heap.size 1 A vs.length (u32s vs)) : Calls Try.prog 24 #[.slice A vs.length c] w (FmtP w vs) := by
  have HA := Lib.hid hA
  have HWD := Lib.hid (fun (k : Nat) v W => rwords_any (k : Int) (idW k) (wrap_idW k) 1 v W)
  obtain ⟨n, hn⟩ : ∃ n, n = vs.length := ⟨_, rfl⟩
  have HN := Lib.hid hn
  rw [← hn] at hl ⊢
  clear hA hn
  go_enter Try.func24, Try.ntmps24
  go_wp2
  go_loopw [3, 9] (fun vo vi W => ∃ (k m d : Nat) (B : Option Addr), k ≤ n ∧ m = 8 * k ∧ vi = .int .i64 k ∧ vo = .slice B m d ∧ Hid (FmtAt w W (.slice B m d) (fmtL vs k))) (fun _ i _ => n - (intOf i).toNat)
  case atStart => exact ⟨0, 0, 0, none, Nat.zero_le _, rfl, rfl, rfl, Lib.hid ⟨OwnU.nil _ _, Below.refl _ _⟩⟩
  case round =>
    obtain ⟨k, m, d, B, hk, hm, rfl, rfl, HI⟩ := hrel
    have HM := Lib.hid hm
    clear hm
    by_cases hlt : k < n
    · have hlt2 : k < vs.length := by have := HN.out; omega
      obtain ⟨W, hW⟩ : ∃ W : World, W = wr := ⟨_, rfl⟩
      subst hW
      obtain ⟨a, rfl, hca⟩ := u32_at (HA.out.below HI.out.be) hlt2
      obtain ⟨x, hx⟩ : ∃ x, vs[k] = x := ⟨_, rfl⟩
      have hsu : fmtL vs (k + 1) = fmtL vs k ++ fmt1 k x := by
        rw [fmtL_succ, List.getD_eq_getElem?_getD, List.getElem?_eq_getElem hlt2, ← hx]; rfl
      have HSU := Lib.hid hsu
      rw [hx] at hca
      have HK := Lib.hid hlt
      have hk0 : (k : Int) < (n : Int) := by omega
      have HWX : Hid (∀ W', Calls Try.prog 39 #[.int .i64 (k : Int), .agg #[.int .u32 1, .int .u32 (num x)]] W' fun e w' => e = .returned (.agg (vec 4 (wds (recW (idW k) 1 x)))) ∧ Below W'.heap.size W' w') := Lib.hid fun W' => HWD.out k x W'
      clear hx hsu hlt hlt2
      obtain ⟨qr, hqr⟩ : ∃ qr, qr = vec 4 (wds (recW (idW k) 1 x)) := ⟨_, rfl⟩
      rw [← hqr] at HWX
      have HQR := Lib.hid hqr
      clear hqr
      go_upto_region 6 with (first
        | (go_at_call 39; refine (HWX.out _).mono ?_; rintro e w1 ⟨rfl, hd⟩; have HD := Lib.hid hd; clear hd)
        | ((with_reducible show wpList _ _ _ (Oper.mk _ (.store 73 _ _) _ _ _ _ :: _) _ _); refine wl_store rfl 73 _ _ rfl _ rfl _ rfl (by rw [HQR.out]; exact run_store_arr (Arr.new _ 73 4 (wds zw)) (wds (recW (idW k) 1 x)) infoQ (wds_one _ _)) ?_))
      obtain ⟨g7, hg7⟩ : ∃ g7, g7 = w1.heap.size := ⟨_, rfl⟩
      obtain ⟨W2, hW2⟩ : ∃ W2, W2 = (w1.alloc (.cells (vec 4 (wds zw)) 73)).setRow w1.heap.size (vec 4 (wds (recW (idW k) 1 x))) := ⟨_, rfl⟩
      have hb2 : Below W.heap.size W W2 := by rw [hW2]; exact below_row (HD.out.alloc HD.out.size _) HD.out.size _
      have h7 : Arr W2 g7 73 4 (wds (recW (idW k) 1 x)) := by rw [hW2, hg7]; exact (Arr.new _ _ _ _).row _
      have k0 : W2.cell? ⟨g7, 0, none⟩ = some (.int .u32 (num mark)) := h7.cell (i := 0) (by decide)
      have k1 : W2.cell? ⟨g7, 1, none⟩ = some (.int .u32 (num 1)) := h7.cell (i := 1) (by decide)
      have k2 : W2.cell? ⟨g7, 2, none⟩ = some (.int .u32 (num x)) := h7.cell (i := 2) (by decide)
      have k3 : W2.cell? ⟨g7, 3, none⟩ = some (.int .u32 (num (sumW (idW k) 1 x))) := h7.cell (i := 3) (by decide)
      obtain ⟨W3, hW3⟩ : ∃ W3, W3 = W2.alloc (.cells #[.int .u32 (num mark), .int .u32 (num 1), .int .u32 (num x), .int .u32 (num (sumW (idW k) 1 x)), .int .u32 0, .int .u32 0, .int .u32 0, .int .u32 0] 30) := ⟨_, rfl⟩
      have hb3 : Below W.heap.size W W3 := by rw [hW3]; exact hb2.alloc hb2.size _
      have h63 : Blk W3 W2.heap.size 30 (u32s (fmt1 k x)).toArray := by rw [hW3]; exact Blk.new _ _ _ rfl
      have hi3 : FmtAt w W3 (.slice B m d) (fmtL vs k) := ⟨HI.out.own.under hb3, HI.out.be.trans (hb3.mono HI.out.be.size)⟩
      obtain ⟨v', w', hrun, hown, hgr, _⟩ := app_u W3 w.heap.size (.slice B m d) (fmtL vs k) (fmt1 k x) W2.heap.size 8 hi3.own hi3.be.size (by rw [fmtL_len]; simp [fmt1]; omega) 22 (fun j hj => by
        rw [h63.cell j, List.getElem?_toArray]
        exact u32s_at _ _ hj)
      rw [← HSU.out] at hown
      have HNX := Lib.hid (hi3.app hown hgr)
      obtain ⟨B2, d2, rfl, _⟩ := hown.form
      rw [fmtL_len] at HNX
      rw [show (fmt1 k x).length = 8 from rfl, fmtL_len] at hrun
      obtain ⟨m2, hm2⟩ : ∃ m2, m2 = 8 * (k + 1) := ⟨_, rfl⟩
      rw [← hm2] at hrun HNX
      have HM2 := Lib.hid hm2
      rw [hW3] at hrun
      obtain ⟨mk, hmk⟩ : ∃ mk : Int, mk = num mark := ⟨_, rfl⟩
      obtain ⟨oo, hoo⟩ : ∃ oo : Int, oo = num 1 := ⟨_, rfl⟩
      obtain ⟨su, hsu⟩ : ∃ su : Int, su = num (sumW (idW k) 1 x) := ⟨_, rfl⟩
      rw [← hmk] at k0
      rw [← hoo] at k1
      rw [← hsu] at k3
      rw [← hmk, ← hoo, ← hsu] at hrun
      rw [← hW2, ← hg7]
      clear hg7 hW2 hb2 h7 hW3 hb3 h63 hi3 hown hgr hm2 HD HWX hca hmk hoo hsu
      go_wp2
      go_roundw
      case rel => exact ⟨k + 1, m2, d2, B2, HK.out, HM2.out, by go_num, rfl, HNX⟩
      case measure => have := HK.out; simp [intOf]; omega
    · obtain rfl : k = n := by omega
      clear hlt hk
      go_wp2_with fail
      go_ret
      obtain ⟨_, _, e, hc, hlie, _, _⟩ := HI.out.own.form
      injection e with e1 e2 e3
      subst e1 e3
      rw [fmtL_len] at hlie hc
      have hm := HM.out
      rw [HN.out] at hm hlie hc
      subst hm
      refine ⟨_, _, rfl, hc, hlie, HI.out.be⟩
end Go.Proofs.Ytpeebdhbcglibaa
