/- The reference's SigOf, of a signature's bytes: the walk. -/
import Derived.Test.YtfeiplaiekbdkaaXrsigc
namespace Go.Proofs.Ytfeiplaiekbdkaa
open Go.RowKit
attribute [local go_sem ↓ high] zeroV26 zeroSig

set_option maxHeartbeats 2000000 in
set_option maxRecDepth 100000 in
theorem rsigOf_cd (oid idx : Nat) (r : Nd) (ots auth : List Nd) (hoid : oid < 4294967296) (his : isO oid = true) (hidx : idx < 4294967296) (hot : ots.length = 67) (hau : auth.length = hgtO oid) :
    (¬ idx < 2 ^ hgtO oid → SigAns 16 (sigL idx r ots auth) oid 0 zb [] [] 81) ∧ (idx < 2 ^ hgtO oid → SigAns 16 (sigL idx r ots auth) oid idx r ots auth 0) := by
  have hbl : (sigL idx r ots auth).length = 36 + 32 * (67 + hgtO oid) := by rw [sigL_length, hot, hau]
  have hle := hgtO_le oid
  have HH := Lib.hid (fun W => rheight_any oid hoid W)
  obtain ⟨h, he⟩ : ∃ h, h = hgtO oid := ⟨_, rfl⟩
  obtain ⟨n, hn⟩ : ∃ n, n = 36 + 32 * (67 + h) := ⟨_, rfl⟩
  rw [← he] at HH hbl hau hle ⊢
  rw [his] at HH
  rw [← hn] at hbl
  have hacc : numOf (sigL idx r ots auth) 0 4 false = idx := by
    unfold numOf
    rw [if_pos (by rw [hbl]; omega)]
    exact acc_num idx hidx _
  have t1 : ((n : Int) != 36 + 32 * (67 + (h : Int))) = false := by rw [hn]; simp
  have hwn : IntKind.u32.wrap (idx : Int) = (idx : Int) := by rw [IntKind.wrap_u32]; omega
  obtain ⟨P, hP⟩ : ∃ P, P = 2 ^ h := ⟨_, rfl⟩
  have hP20 : P ≤ 1048576 := by rw [hP]; exact Nat.pow_le_pow_right (by decide) hle
  have hsh : IntKind.u64.wrap (2 ^ h) = (P : Int) := by
    have e : (2 : Int) ^ h = ((2 ^ h : Nat) : Int) := by rw [Int.natCast_pow]; rfl
    rw [e, ← hP, IntKind.wrap_u64]; omega
  have HP2 := Lib.hid hP
  have key : ∀ (q : Bool), decide (idx < P) = q → ∀ (A : Option Addr) (c : Nat) (w : World), n ≤ c → Lies w w.heap.size 1 A n (u8s (sigL idx r ots auth)) →
      Calls Try.prog 16 #[.slice A n c, .int .u32 (oid : Int)] w fun e W' => CdPost q w idx r ots auth h e W' := by
    intro q hq A c w hc hl
    obtain ⟨V, hV⟩ : ∃ V, V = w.alloc (.cells (vec 35 sig0) 44) := ⟨_, rfl⟩
    have h0 : Arr V w.heap.size 44 35 sig0 := by rw [hV]; exact Arr.new w _ _ _
    have hB : Below w.heap.size w V := by rw [hV]; exact (Below.refl _ _).alloc (Nat.le_refl _) _
    have hlV := (hl.below hB).wide hB.size
    have hnum := number_any (sigL idx r ots auth) A c V.heap.size 0 4 false (by decide) V (by rw [hbl]; unfold maxLen; omega) (by rw [hbl]; exact hlV)
    rw [hbl, hacc] at hnum
    have HN := Lib.hid hnum
    have HA := Lib.hid (And.intro h0 hB)
    have HW := Lib.hid hV
    obtain ⟨a, rfl, hab, hcr, hcn⟩ := lies_sig hl hbl.symm
    have HC := Lib.hid (And.intro hab (And.intro (fun i hi => ((Below.cell hB (p := (a.add 4).add i) (by rw [addr_add_block, addr_add_block]; exact hab)).trans (hcr i hi))) hcn))
    have HL := Lib.hid (And.intro hot (And.intro hau (And.intro hc hn)))
    unfold sig0 at HW
    have i36 : (36 : Int) ≤ (c : Int) := by omega
    have i4 : ¬ c = 4 := by omega
    clear hV h0 hB hlV hl hnum hacc hab hcr hcn hbl hot hau hn he his hP hc
    cases q
    · have hi : ¬ idx < P := of_decide_eq_false hq
      have t2 : (P : Int) ≤ (idx : Int) := by omega
      clear hq
      go_enter Try.func16, Try.ntmps16
      go_upto_region 1 with fail
      rw [← HW.out]
      clear HW
      go_wp2_with (first
        | (go_at_call 9; refine (HH.out _).mono ?_; rintro e w1 ⟨rfl, hw1⟩; rw [← hw1]; clear hw1)
        | (go_at_call 23; refine HN.out.mono ?_; rintro e w1 ⟨rfl, hw1⟩; rw [← hw1]; clear hw1)
        | ((with_reducible show wpList _ _ _ (Oper.mk _ (.build _ _) _ _ _ _ :: _) _ _); refine wl_build rfl 44 _ rfl (vec 35 sig0) (by kernel_rfl) ?_)
        | ((with_reducible show wpList _ _ _ (Oper.mk _ (.store _ _ _) _ _ _ _ :: _) _ _); refine wl_store rfl 44 _ _ rfl _ rfl _ rfl (run_store_arr HA.out.1 sig0 infoSig (sig0_one _)) ?_))
      exact bodyPost_ret (results_ct rfl _ _ _ rfl (run_load_arr (HA.out.1.row _) Try.underlying44 rfl infoSig)) rfl (by unfold CdPost; exact ⟨none, 0, none, 0, rfl, fun e => (by cases e), below_row HA.out.2 (Nat.le_refl _) _⟩)
    · have hi : idx < P := of_decide_eq_true hq
      have t2 : ¬ (P : Int) ≤ (idx : Int) := by omega
      clear hq
      have har := fun a c => arr_at_q a c
      go_enter Try.func16, Try.ntmps16
      go_upto_region 1 with fail
      rw [← HW.out]
      clear HW
      go_upto_region 8 with (first
        | (go_at_call 9; refine (HH.out _).mono ?_; rintro e w1 ⟨rfl, hw1⟩; rw [← hw1]; clear hw1)
        | (go_at_call 23; refine HN.out.mono ?_; rintro e w1 ⟨rfl, hw1⟩; rw [← hw1]; clear hw1)
        | ((with_reducible show wpList _ _ _ (Oper.mk _ (.load _ _) _ _ _ _ :: _) _ _); refine wl_load_q rfl 29 _ rfl (a.add 4) rfl _ (load_p HC.out.2.1) ?_)
        | ((with_reducible show wpList _ _ _ (Oper.mk _ (.build _ _) _ _ _ _ :: _) _ _); refine wl_build rfl 44 _ rfl (vec 35 (sigF (idx : Int) r (.slice none 0 0) (.slice none 0 0))) (by kernel_rfl) ?_)
        | ((with_reducible show wpList _ _ _ (Oper.mk _ (.store _ _ _) _ _ _ _ :: _) _ _); refine wl_store rfl 44 _ _ rfl _ rfl _ rfl (run_store_arr (Arr.new V _ _ _) (sigF (idx : Int) r (.slice none 0 0) (.slice none 0 0)) infoSig (sigF_one _ _ _ _ rfl rfl _)) ?_))
      obtain ⟨gs, hgs⟩ : ∃ g, g = V.heap.size := ⟨_, rfl⟩
      obtain ⟨X, hX⟩ : ∃ X, X = (V.alloc (.cells (vec 35 (sigF 0 zb (.slice none 0 0) (.slice none 0 0))) 44)).setRow V.heap.size (vec 35 (sigF (idx : Int) r (.slice none 0 0) (.slice none 0 0))) := ⟨_, rfl⟩
      have hK : Arr X gs 44 35 (sigF (idx : Int) r (.slice none 0 0) (.slice none 0 0)) := by rw [hX, hgs]; exact (Arr.new V _ _ _).row _
      have hb : Below V.heap.size V X := by rw [hX]; exact below_row ((Below.refl _ _).alloc (Nat.le_refl _) _) (Nat.le_refl _) _
      have hwX : Below w.heap.size w X := HA.out.2.trans (hb.mono HA.out.2.size)
      have HX := Lib.hid (And.intro hK.lt (And.intro (HA.out.1.under hb) (And.intro hwX (And.intro (show w.heap.size ≠ gs by rw [hgs]; exact Nat.ne_of_lt HA.out.1.lt) (show gs < X.heap.size ∧ w.heap.size < gs from ⟨hK.lt, by rw [hgs]; exact HA.out.1.lt⟩)))))
      have HI : Hid (RS X gs idx r ots auth 0 (.slice none 0 0) (.slice none 0 0) X.heap.size X) := Lib.hid ⟨hK, by rw [List.take_zero]; exact World.ownsRow_nil _ _ _ _, by rw [Nat.zero_sub, List.take_zero]; exact World.ownsRow_nil _ _ _ _, fun _ => rfl, fun h => by omega, Nat.le_refl _, Nat.le_refl _, Save.refl _ _⟩
      rw [← hX, ← hgs]
      clear hX hgs hK hb hwX HA HN HH t1 t2 hsh hP20 i36 i4
      go_wp2
      go_loopw [11] (fun i W => ∃ k : Nat, k ≤ 67 + h ∧ i = .int .i64 k ∧ Hid (∃ v1 v2 B2, RS X gs idx r ots auth k v1 v2 B2 W)) (fun i _ => 67 + h - (intOf i).toNat)
      case atStart => exact ⟨0, Nat.zero_le _, rfl, Lib.hid ⟨_, _, _, HI.out⟩⟩
      case round =>
        obtain ⟨k, hk, rfl, hQ⟩ := hrel
        obtain ⟨v1, v2, B2, hq⟩ := hQ.out
        have HQ := Lib.hid hq
        clear hq
        by_cases hlt : k < 67 + h
        · have hkI : (k : Int) < 67 + (h : Int) := by omega
          have hl2 := HL.out
          have s1 : 68 + 32 * (k : Int) ≤ (c : Int) := by omega
          have s2 : ¬ c = 36 + 32 * k := by omega
          have s3 : (k : Int) ≤ 86 := by omega
          have s4 : 68 + 32 * k - (36 + 32 * k) = 32 := by omega
          have s5 : (68 + 32 * (k : Int) - (36 + 32 * (k : Int))).toNat = 32 := by omega
          clear hl2
          obtain ⟨f, hf⟩ : ∃ f, f = (ots ++ auth)[k]'(by rw [List.length_append, HL.out.1, HL.out.2.1]; exact hlt) := ⟨_, rfl⟩
          have hcell : ∀ i, i < 32 → wr.cell? ((a.add (36 + 32 * k)).add i) = some (bys f i) := fun i hi => by
            obtain ⟨_, e, hpb, hc⟩ := HC.out.2.2 (fun e => by have := congrArg List.length e; rw [List.length_append, HL.out.1, List.length_nil] at this; omega)
            injection e with e
            subst e
            have h1 := hc k (by rw [List.length_append, HL.out.1, HL.out.2.1]; exact hlt) i hi
            rw [← hf] at h1
            have e2 : (a.add 36).add (k * 32 + i) = (a.add (36 + 32 * k)).add i := by
              rw [addr_add_add, addr_add_add]
              congr 1; omega
            rw [e2] at h1
            have hb2 : ((a.add (36 + 32 * k)).add i).block = a.block := by rw [addr_add_block, addr_add_block]
            rw [← h1]
            have hx := HX.out.2.2.2.2
            rw [HQ.out.sv.cell (by rw [hb2]; have := HC.out.1; omega) (by rw [hb2]; have := HC.out.1; omega)]
            exact HX.out.2.2.1.cell (by rw [hb2]; exact HC.out.1)
          have HCc := Lib.hid hcell
          have HF := Lib.hid hf
          clear hcell hf
          go_upto_region 12 with (first
            | ((with_reducible show wpList _ _ _ (Oper.mk _ (.load _ _) _ _ _ _ :: _) _ _); refine wl_load_q rfl 29 _ rfl (a.add (36 + 32 * k)) rfl _ (load_p HCc.out) ?_)
            | ((with_reducible show wpList _ _ _ (Oper.mk _ (.store _ _ _) _ _ _ _ :: _) _ _); refine wl_store rfl 29 _ _ rfl _ rfl _ rfl (run_store_arr (Arr.new wr _ _ _) (bys f) info26 (bys_one _ _)) ?_))
          obtain ⟨gn, hgn⟩ : ∃ g, g = wr.heap.size := ⟨_, rfl⟩
          obtain ⟨W1, hW1⟩ : ∃ X, X = (wr.alloc (.cells (vec 32 (bys zb)) 29)).setRow wr.heap.size (vec 32 (bys f)) := ⟨_, rfl⟩
          have hN1 : Arr W1 gn 29 32 (bys f) := by rw [hW1, hgn]; exact (Arr.new wr _ _ _).row _
          have hb1 : Below wr.heap.size wr W1 := by rw [hW1]; exact below_row ((Below.refl _ _).alloc (Nat.le_refl _) _) (Nat.le_refl _) _
          have c33 : W1.cell? ⟨gs, 33, none⟩ = some v1 := (HQ.out.arr.under hb1).cell (i := 33) (by decide)
          have c34 : W1.cell? ⟨gs, 34, none⟩ = some v2 := (HQ.out.arr.under hb1).cell (i := 34) (by decide)
          have H1 := Lib.hid (And.intro hN1 hb1)
          rw [← hW1, ← hgn]
          clear hW1 hgn hN1 hb1 HCc
          by_cases h67 : k < 67
          · have h67I : (k : Int) < 67 := by omega
            have hft : ots.take (k + 1) = ots.take k ++ [f] := by
              rw [List.take_succ_eq_append_getElem (by rw [HL.out.1]; exact h67), HF.out, List.getElem_append_left]
            obtain ⟨A9, n9, c9, y9, hr9, hc9, hz9, h9⟩ := HQ.out.put1 HX.out.2.2.2.2.1 h67 HL.out.1 f hft W1 H1.out.2
            have H9 := Lib.hid h9
            clear h9 hft c34
            go_wp2_with (first
              | ((with_reducible show wpList _ _ _ (Oper.mk _ (.load 29 _) _ _ _ _ :: _) _ _); refine wl_load rfl 29 _ rfl gn rfl _ (run_load_arr H1.out.1 Try.underlying29 rfl info26) ?_)
              | ((with_reducible show wpList _ _ _ (Oper.mk _ (.buildSlice _ _ _) _ _ _ _ :: _) _ _); refine wpList_plain rfl fun K hK => ow_build1 _ rfl f rfl (hK _ _ ?_); clear hK K)
              | ((with_reducible show wpList _ _ _ (Oper.mk _ (.call ⟨.builtin .append, _, _⟩) _ _ _ _ :: _) _ _); refine wpList_plain rfl fun K hK => Lib.wp_append_run _ _ _ _ _ rfl _ _ rfl rfl _ _ hr9 (hK _ _ ?_); clear hK K))
            clear hr9 hc9 hz9
            go_roundw
            case rel => exact ⟨k + 1, by omega, by simp, Lib.hid ⟨_, _, _, H9.out⟩⟩
            case measure => simp [intOf]; omega
          · have h67I : ¬ (k : Int) < 67 := by omega
            have hft : auth.take (k - 67 + 1) = auth.take (k - 67) ++ [f] := by
              rw [List.take_succ_eq_append_getElem (by rw [HL.out.2.1]; omega), HF.out, List.getElem_append_right (by rw [HL.out.1]; omega)]
              simp only [HL.out.1]
            obtain ⟨A9, n9, c9, y9, hr9, hc9, hz9, h9⟩ := HQ.out.put2 (Nat.lt_of_lt_of_le HX.out.2.2.2.2.1 (Nat.le_refl _)) (by omega) HL.out.1 (by rw [HL.out.2.1]; omega) (by rw [HL.out.2.1]; exact hle) f hft W1 H1.out.2
            have H9 := Lib.hid h9
            clear h9 hft c33
            go_wp2_with (first
              | ((with_reducible show wpList _ _ _ (Oper.mk _ (.load 29 _) _ _ _ _ :: _) _ _); refine wl_load rfl 29 _ rfl gn rfl _ (run_load_arr H1.out.1 Try.underlying29 rfl info26) ?_)
              | ((with_reducible show wpList _ _ _ (Oper.mk _ (.buildSlice _ _ _) _ _ _ _ :: _) _ _); refine wpList_plain rfl fun K hK => ow_build1 _ rfl f rfl (hK _ _ ?_); clear hK K)
              | ((with_reducible show wpList _ _ _ (Oper.mk _ (.call ⟨.builtin .append, _, _⟩) _ _ _ _ :: _) _ _); refine wpList_plain rfl fun K hK => Lib.wp_append_run _ _ _ _ _ rfl _ _ rfl rfl _ _ hr9 (hK _ _ ?_); clear hK K))
            clear hr9 hc9 hz9
            go_roundw
            case rel => exact ⟨k + 1, by omega, by simp, Lib.hid ⟨_, _, _, H9.out⟩⟩
            case measure => simp [intOf]; omega
        · obtain rfl : k = 67 + h := by omega
          have hR1 := HQ.out.r1
          have hR2 := HQ.out.r2
          rw [List.take_of_length_le (by rw [HL.out.1]; omega)] at hR1
          rw [List.take_of_length_le (by rw [HL.out.2.1]; omega)] at hR2
          obtain ⟨A1, c1, rfl, -, -⟩ := hR1.row
          obtain ⟨A2, c2, rfl, -, -⟩ := hR2.row
          rw [HL.out.1] at hR1 HQ
          rw [HL.out.2.1] at hR2 HQ
          have hgr : w.heap.size < X.heap.size := Nat.lt_trans HX.out.2.2.2.2.2 HX.out.2.2.2.2.1
          have hgB := Nat.lt_of_lt_of_le hgr HQ.out.B
          have HR := Lib.hid (And.intro hR1 (And.intro hR2 (And.intro hgr (And.intro hgB (And.intro (HX.out.2.1.save HQ.out.sv HX.out.2.2.2.1) (HX.out.2.2.1.trans (HQ.out.sv.below (Nat.le_of_lt HX.out.2.2.2.2.2) HX.out.2.2.1.size)))))))
          clear hR1 hR2 hgr hgB
          go_wp2_with (first
            | ((with_reducible show wpList _ _ _ (Oper.mk _ (.load _ _) _ _ _ _ :: _) _ _); refine wl_load rfl 44 _ rfl gs rfl _ (run_load_arr HQ.out.arr Try.underlying44 rfl infoSig) ?_)
            | ((with_reducible show wpList _ _ _ (Oper.mk _ (.store _ _ _) _ _ _ _ :: _) _ _); refine wl_store rfl 44 _ _ rfl _ rfl _ rfl (run_store_arr HR.out.2.2.2.2.1 (sigF (idx : Int) r (.slice A1 67 c1) (.slice A2 h c2)) infoSig (sigF_one _ _ _ _ rfl rfl _)) ?_))
          refine bodyPost_ret (results_ct rfl _ _ _ rfl (run_load_arr (HR.out.2.2.2.2.1.row _) Try.underlying44 rfl infoSig)) rfl (by
            unfold CdPost
            refine ⟨A1, c1, A2, c2, rfl, fun _ => ⟨?_, ?_⟩, below_row HR.out.2.2.2.2.2 (Nat.le_refl _) _⟩
            · exact ownN_at (ownN_save (g := w.heap.size) HR.out.1 ((Save.refl _ _).setRow _) HR.out.2.2.1)
            · exact ownN_at (ownN_save (g := w.heap.size) HR.out.2.1 ((Save.refl _ _).setRow _) HR.out.2.2.2.1))
  refine ⟨fun hn2 => ?_, fun hy => ?_⟩
  · intro A c w hc hl
    rw [hbl] at hc hl ⊢
    refine (key false (decide_eq_false (by rw [HP2.out]; exact hn2)) A c w hc hl).mono ?_
    rintro e w' ⟨A1, c1, A2, c2, rfl, -, hd⟩
    exact ⟨none, 0, none, 0, rfl, NRow.nil _ _ _, NRow.nil _ _ _, hd⟩
  · intro A c w hc hl
    rw [hbl] at hc hl ⊢
    refine (key true (decide_eq_true (by rw [HP2.out]; exact hy)) A c w hc hl).mono ?_
    rintro e w' ⟨A1, c1, A2, c2, rfl, hr, hd⟩
    exact ⟨A1, c1, A2, c2, by rw [hot, hau]; rfl, (hr rfl).1, (hr rfl).2, hd⟩
end Go.Proofs.Ytfeiplaiekbdkaa
