/- The walk of XmssKeys. -/
import Derived.Test.YtfeiplaiekbdkaaXawake
import Derived.Test.YtfeiplaiekbdkaaXrkey
import Derived.Test.YtfeiplaiekbdkaaXpkey
import Derived.Test.YtfeiplaiekbdkaaXeq
import Derived.Test.YtfeiplaiekbdkaaStr
namespace Go.Proofs.Ytfeiplaiekbdkaa
open Go.RowKit
attribute [local go_sem ↓ high] zeroV26 zeroKey

/-- An operation that looks at the world, its guard met or none. -/
theorem wl_execX {P : Program} {ops : Array Oper} {Q : Exit → Act → World → Prop} {a : Act} {w : World} {rest : List Oper} {o : Oper} {v : Value} (hw : Region.wanted o (yielded ops a.tmps) = true)
    (he : (execOp a.eval o).run P w = .ok (.value v) w) (h : wpList P ops Q rest (a.put o.dst v) w) : wpList P ops Q (o :: rest) a w :=
  wpList_step fun K hK => by
    simp only [hw, if_true]
    unfold Oper.wp
    rw [he]
    exact hK _ _ h
theorem exec_eqlKey {o : Oper} {a : Act} (x y : Operand) (t : TypeId) (ho : o.op = .binOp .eql 31 x y t) (oid : Int) (root seed : Nd) (hx : a.eval x = .agg (vec 65 (keyF oid root seed))) (hy : a.eval y = .agg (vec 65 (keyF oid root seed))) (w : World) :
    (execOp a.eval o).run Try.prog w = .ok (.value (.bool true)) w := by
  have hg : (eqGuard .eql 31 x y (.agg (vec 65 (keyF oid root seed))) (.agg (vec 65 (keyF oid root seed)))).run Try.prog w = .ok () w := run_eqGuard_agg w .eql 31 x y _ _ (by kernel_rfl)
  have he : (binOp .eql 31 (.agg (vec 65 (keyF oid root seed))) (.agg (vec 65 (keyF oid root seed)))).run Try.prog w = .ok (.bool true) w := by
    rw [run_eql_struct, eqlKey]; rfl
  unfold execOp
  simp only [ho, hx, hy, Sem.run_bind, Sem.run_pure, hg, he, Result.andThen_ok]
/-- What both KeyOf answer of bytes. -/
def KeyBoth (F : Nat) (b : List UInt8) (o : Nat) (r s : Nd) (k : Nat) : Prop := ∀ (A : Option Addr) (c : Nat) (W : World), b.length ≤ c → Lies W W.heap.size 1 A b.length (u8s b) →
  Calls Try.prog F #[.slice A b.length c] W fun e W' => e = .returned (.tuple #[.agg (vec 65 (keyF (o : Int) r s)), .int .i64 ((k : Nat) : Int)]) ∧ Below W.heap.size W W'
theorem keyR_form (oid : Nat) (hoid : oid < 4294967296) (root seed : Nd) : ∃ o r s, o < 4294967296 ∧ keyR oid root seed = keyF ((o : Nat) : Int) r s := by
  unfold keyR
  split
  · exact ⟨oid, root, seed, hoid, rfl⟩
  · exact ⟨0, zb, zb, by decide, rfl⟩
theorem keyOf_both (b : List UInt8) (hb : b.length ≤ 3000) : ∃ o r s k, KeyBoth 11 b o r s k ∧ KeyBoth 12 b o r s k := by
  by_cases h : b.length = 68
  · obtain ⟨oid, root, seed, hoid, rfl⟩ := key_of b h
    obtain ⟨o, r, s, _, e⟩ := keyR_form oid hoid root seed
    refine ⟨o, r, s, keyE oid, fun A c W hc hl => ?_, fun A c W hc hl => ?_⟩
    · rw [keyL_length] at hc hl ⊢
      rw [← e]; exact keyOf_yes A c oid root seed W hoid hc hl
    · rw [keyL_length] at hc hl ⊢
      rw [← e]; exact rkeyOf_yes A c oid root seed W hoid hc hl
  · exact ⟨0, zb, zb, 80, fun A c W _ hl => keyOf_no A c b W hb h hl, fun A c W _ hl => rkeyOf_no A c b W hb h hl⟩

set_option maxHeartbeats 2000000 in
set_option maxRecDepth 100000 in
theorem xmssKeys_walk (A : Option Addr) (c : Nat) (b : List UInt8) (oid : Nat) (root seed : Nd) (w : World) (hc : b.length ≤ c) (hl : Lies w w.heap.size 1 A b.length (u8s b)) (hoid : oid < 4294967296) :
    Calls Try.prog 4 #[.slice A b.length c, .agg (vec 65 (keyF (oid : Int) root seed))] w fun e w' => e = .returned (.bool true) ∧ Below w.heap.size w w' := by
  obtain ⟨V, hV⟩ : ∃ V, V = w.alloc (.cells (vec 65 (keyF (oid : Int) root seed)) 31) := ⟨_, rfl⟩
  have h0 : Arr V w.heap.size 31 65 (keyF (oid : Int) root seed) := by rw [hV]; exact Arr.new w _ _ _
  have hB : Below w.heap.size w V := by rw [hV]; exact (Below.refl _ _).alloc (Nat.le_refl _) _
  have HA := Lib.hid (And.intro h0 hB)
  have HL := Lib.hid (And.intro hl hc)
  have HW := Lib.hid hV
  clear hV h0 hB hl hc
  by_cases hlen : b.length ≤ 200
  · have t1 : ¬ (200 : Int) < (b.length : Int) := by omega
    obtain ⟨o, r, s, k, hk1, hk2⟩ := keyOf_both b (by omega)
    have HK := Lib.hid (And.intro hk1 hk2)
    have HP := Lib.hid (fun W => And.intro (putKey_any oid root seed W hoid) (rputKey_any oid root seed W hoid))
    obtain ⟨kp, hkp⟩ : ∃ kp, kp = keyE oid := ⟨_, rfl⟩
    obtain ⟨pk, hpk⟩ : ∃ pk, pk = pkL oid root seed := ⟨_, rfl⟩
    rw [← hkp, ← hpk] at HP
    clear hk1 hk2 hkp hpk
    go_enter Try.func4, Try.ntmps4
    go_upto_region 1 with fail
    rw [← HW.out]
    clear HW
    go_upto_region 6 with (first
      | (go_at_call 7; refine (awake8_any _).mono ?_; rintro e w0 ⟨rfl, hd⟩; have HD := Lib.hid (HA.out.2.trans (hd.mono HA.out.2.size)); have HQ := Lib.hid (HA.out.1.under hd); clear hd)
      | (go_at_call 11; refine (HK.out.1 A c _ HL.out.2 ((HL.out.1.below HD.out).wide HD.out.size)).mono ?_; rintro e w1 ⟨rfl, hd⟩; have HD := Lib.hid (HD.out.trans (hd.mono HD.out.size)); have HQ := Lib.hid (HQ.out.under hd); clear hd)
      | ((with_reducible show wpList _ _ _ (Oper.mk _ (.store _ _ _) _ _ _ _ :: _) _ _); refine wl_store rfl 31 _ _ rfl _ rfl _ rfl (run_store_arr (Arr.new w1 _ _ _) (keyF (o : Int) r s) infoKey (keyF_one _ _ _ _)) ?_))
    obtain ⟨g1, hg1⟩ : ∃ g, g = w1.heap.size := ⟨_, rfl⟩
    obtain ⟨V1, hV1⟩ : ∃ X, X = (w1.alloc (.cells (vec 65 (keyF 0 zb zb)) 31)).setRow w1.heap.size (vec 65 (keyF (o : Int) r s)) := ⟨_, rfl⟩
    have hb1 : Below w1.heap.size w1 V1 := by rw [hV1]; exact below_row ((Below.refl _ _).alloc (Nat.le_refl _) _) (Nat.le_refl _) _
    have HX : Hid (Arr V1 g1 31 65 (keyF (o : Int) r s)) := Lib.hid (by rw [hV1, hg1]; exact (Arr.new w1 _ _ _).row _)
    have HD := Lib.hid (HD.out.trans (hb1.mono HD.out.size))
    have HQ := Lib.hid (HQ.out.under hb1)
    rw [← hV1, ← hg1]
    clear hV1 hg1 hb1
    go_upto_region 7 with (first
      | (go_at_call 12; refine (HK.out.2 A c _ HL.out.2 ((HL.out.1.below HD.out).wide HD.out.size)).mono ?_; rintro e w2 ⟨rfl, hd⟩; have HD := Lib.hid (HD.out.trans (hd.mono HD.out.size)); have HQ := Lib.hid (HQ.out.under hd); have HX := Lib.hid (HX.out.under hd); clear hd)
      | ((with_reducible show wpList _ _ _ (Oper.mk _ (.store _ _ _) _ _ _ _ :: _) _ _); refine wl_store rfl 31 _ _ rfl _ rfl _ rfl (run_store_arr (Arr.new w2 _ _ _) (keyF (o : Int) r s) infoKey (keyF_one _ _ _ _)) ?_))
    obtain ⟨g2, hg2⟩ : ∃ g, g = w2.heap.size := ⟨_, rfl⟩
    obtain ⟨V2, hV2⟩ : ∃ X, X = (w2.alloc (.cells (vec 65 (keyF 0 zb zb)) 31)).setRow w2.heap.size (vec 65 (keyF (o : Int) r s)) := ⟨_, rfl⟩
    have hb2 : Below w2.heap.size w2 V2 := by rw [hV2]; exact below_row ((Below.refl _ _).alloc (Nat.le_refl _) _) (Nat.le_refl _) _
    have HY : Hid (Arr V2 g2 31 65 (keyF (o : Int) r s)) := Lib.hid (by rw [hV2, hg2]; exact (Arr.new w2 _ _ _).row _)
    have HD := Lib.hid (HD.out.trans (hb2.mono HD.out.size))
    have HQ := Lib.hid (HQ.out.under hb2)
    have HX := Lib.hid (HX.out.under hb2)
    rw [← hV2, ← hg2]
    clear hV2 hg2 hb2
    go_upto_region 9 with (first
      | ((with_reducible show wpList _ _ _ (Oper.mk _ (.load _ _) _ _ _ _ :: _) _ _); refine wl_load rfl 31 _ rfl _ rfl _ (run_load_arr HQ.out Try.underlying31 rfl infoKey) ?_)
      | (go_at_call 13; refine (HP.out _).1.mono ?_; rintro e w3 ⟨v3, rfl, ho, hd⟩; obtain ⟨E3, c3, rfl, -, hl3⟩ := row_part ho; have HD := Lib.hid (HD.out.trans (hd.mono HD.out.size)); have HQ := Lib.hid (HQ.out.under hd); have HX := Lib.hid (HX.out.under hd); have HY := Lib.hid (HY.out.under hd); have H3 := Lib.hid hl3; clear hd ho hl3)
      | (go_at_call 14; refine (HP.out _).2.mono ?_; rintro e w4 ⟨v4, rfl, ho, hd⟩; obtain ⟨E4, c4, rfl, -, hl4⟩ := row_part ho; have HD := Lib.hid (HD.out.trans (hd.mono HD.out.size)); have HX := Lib.hid (HX.out.under hd); have HY := Lib.hid (HY.out.under hd); have H3 := Lib.hid ((H3.out.below hd).wide hd.size); have H4 := Lib.hid hl4; clear hd ho hl4))
    obtain ⟨st, hst⟩ : ∃ st, st = strOf pk := ⟨_, rfl⟩
    have cv3 := conv_str w4 _ E3 pk.length c3 pk H3.out
    have cv4 := conv_str w4 _ E4 pk.length c4 pk H4.out
    rw [← hst] at cv3 cv4
    obtain ⟨n, hn⟩ : ∃ n, n = pk.length := ⟨_, rfl⟩
    unfold partV
    simp only []
    rw [← hn] at cv3 cv4 ⊢
    clear hst hn H3 H4 HP HK HL HQ
    go_wp2_with (first
      | ((with_reducible show wpList _ _ _ (Oper.mk _ (.load _ (.tmp 5)) _ _ _ _ :: _) _ _); refine wl_load rfl 31 _ rfl _ rfl _ (run_load_arr HX.out Try.underlying31 rfl infoKey) ?_)
      | ((with_reducible show wpList _ _ _ (Oper.mk _ (.load _ (.tmp 7)) _ _ _ _ :: _) _ _); refine wl_load rfl 31 _ rfl _ rfl _ (run_load_arr HY.out Try.underlying31 rfl infoKey) ?_)
      | ((with_reducible show wpList _ _ _ (Oper.mk _ (.binOp _ _ (.tmp 38) (.tmp 39) _) _ _ _ _ :: _) _ _); refine wl_execX (by kernel_rfl) (exec_eqlKey _ _ _ rfl (o : Int) r s rfl rfl _) ?_))
    go_ret
    exact ⟨rfl, HD.out⟩
  · have t1 : (200 : Int) < (b.length : Int) := by omega
    go_enter Try.func4, Try.ntmps4
    go_upto_region 1 with fail
    rw [← HW.out]
    clear HW
    go_wp2_with (go_at_call 7; refine (awake8_any _).mono ?_; rintro e w0 ⟨rfl, hd⟩; have HD := Lib.hid (HA.out.2.trans (hd.mono HA.out.2.size)); clear hd)
    go_ret
    exact ⟨rfl, HD.out⟩
end Go.Proofs.Ytfeiplaiekbdkaa
