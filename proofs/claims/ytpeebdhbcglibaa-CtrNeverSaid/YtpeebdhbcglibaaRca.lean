/- The reference: All; counters alike. -/
import Derived.Test.YtpeebdhbcglibaaCa
import Derived.Test.YtpeebdhbcglibaaRcr
namespace Go.Proofs.Ytpeebdhbcglibaa
open Go.RowKit

theorem partE (xs : Array Value) (k : Nat) (v : Value) (h : xs[k]? = some v) (w : World) : (Go.part 31 xs k).run Try.prog w = .ok v w := by
  simp [Go.part, go_sem, Try.isAgg31, Try.sizeOf31, h]
set_option maxRecDepth 100000 in
theorem equalInK (x : W32) (e : Nat) (x' : W32) (e' : Nat) (w : World) : (Op.equalIn 10000 55 (.agg #[.int .u32 (num x), .int .i64 (e : Int)]) (.agg #[.int .u32 (num x'), .int .i64 (e' : Int)])).run Try.prog w = .ok ((x == x') && (e == e')) w := by
  obtain ⟨f0, f1, hl, n0, n1, t0, t1, o0, o1⟩ := two_fields (P := Try.prog) (t := 55) (t0 := 30) (t1 := 31) (by kernel_rfl)
  rw [run_equalIn_struct w 9999 55 _ _ Try.underlying55 (by kernel_rfl), hl]
  rw [eq_fields2 9998 _ _ w f0 f1 n0 n1 .u32 .i64 (num x) (e : Int) (num x') (e' : Int) (by rw [t0]; exact Try.underlying30) (by rw [t1]; exact Try.underlying31) (by rw [t0, o0]; exact partW _ _ _ rfl w) (by rw [t1, o1]; exact partE _ _ _ rfl w)
    (by rw [t0, o0]; exact partW _ _ _ rfl w) (by rw [t1, o1]; exact partE _ _ _ rfl w), num_beq]
  have : (((e : Int) == (e' : Int)) : Bool) = (e == e') := by
    rw [Bool.eq_iff_iff, beq_iff_eq, beq_iff_eq]
    constructor <;> intro h <;> omega
  rw [this]
theorem eqlK (x : W32) (e : Nat) (x' : W32) (e' : Nat) (w : World) : (binOp .eql 55 (.agg #[.int .u32 (num x), .int .i64 (e : Int)]) (.agg #[.int .u32 (num x'), .int .i64 (e' : Int)])).run Try.prog w = .ok (.bool ((x == x') && (e == e'))) w := by
  rw [run_eql_struct, equalInK]; rfl
theorem neqK (x : W32) (e : Nat) (x' : W32) (e' : Nat) (w : World) : (binOp .neq 55 (.agg #[.int .u32 (num x), .int .i64 (e : Int)]) (.agg #[.int .u32 (num x'), .int .i64 (e' : Int)])).run Try.prog w = .ok (.bool (!((x == x') && (e == e')))) w := by
  rw [run_neq_struct, equalInK]; rfl
theorem eqgK (op : BinOp) (x y : Operand) (a b : Array Value) (w : World) : (eqGuard op 55 x y (.agg a) (.agg b)).run Try.prog w = .ok () w :=
  run_eqGuard_agg w op 55 x y _ _ (by kernel_rfl)
theorem exec_eqlK {o : Oper} {a : Act} (p q : Operand) (t : TypeId) (ho : o.op = .binOp .eql 55 p q t) (x : W32) (e : Nat) (x' : W32) (e' : Nat) (hx : a.eval p = .agg #[.int .u32 (num x), .int .i64 (e : Int)]) (hy : a.eval q = .agg #[.int .u32 (num x'), .int .i64 (e' : Int)]) (w : World) {b : Bool} (hb : ((x == x') && (e == e')) = b) :
    (execOp a.eval o).run Try.prog w = .ok (.value (.bool b)) w := by
  subst hb
  unfold execOp
  simp only [ho, hx, hy, Sem.run_bind, Sem.run_pure, eqgK, eqlK, Result.andThen_ok]
theorem exec_neqK {o : Oper} {a : Act} (p q : Operand) (t : TypeId) (ho : o.op = .binOp .neq 55 p q t) (x : W32) (e : Nat) (x' : W32) (e' : Nat) (hx : a.eval p = .agg #[.int .u32 (num x), .int .i64 (e : Int)]) (hy : a.eval q = .agg #[.int .u32 (num x'), .int .i64 (e' : Int)]) (w : World) {b : Bool} (hb : (!((x == x') && (e == e'))) = b) :
    (execOp a.eval o).run Try.prog w = .ok (.value (.bool b)) w := by
  subst hb
  unfold execOp
  simp only [ho, hx, hy, Sem.run_bind, Sem.run_pure, eqgK, neqK, Result.andThen_ok]
/-- A counter's place in a row. -/
theorem k_at {w : World} {B : Nat} {A : Option Addr} {l : List (W32 × Nat)} (h : Lies w B 2 A l.length (cellsK l)) {k : Nat} (hk : k < l.length) : ∃ a q, A = some a ∧ a.add (k * 2) = q ∧ q.block < B ∧ w.cell? q = some (.int .u32 (num l[k].1)) ∧ w.cell? ⟨q.block, q.off + 1, none⟩ = some (.int .i64 (l[k].2 : Int)) := by
  obtain ⟨a, e, hb, hc⟩ := h.2 (by omega)
  have h1 := cellsK_at l k hk
  have hl := cellsK_length l
  have hk1 := hc (k * 2) (by omega)
  have hk2 := hc (k * 2 + 1) (by omega)
  have e1 := h1.1
  have e2 := h1.2
  rw [List.getElem?_eq_getElem (by omega)] at e1 e2
  refine ⟨a, _, e, rfl, by rw [addr_add_block]; exact hb, ?_, ?_⟩
  · rw [hk1]; exact e1
  · rw [← addr_add_add] at hk2
    have e3 : (a.add (k * 2)).add 1 = ⟨(a.add (k * 2)).block, (a.add (k * 2)).off + 1, none⟩ := rfl
    rw [← e3, hk2]; exact e2
set_option maxRecDepth 100000 in
set_option maxHeartbeats 2000000 in
theorem samec_any (A B : Option Addr) (ca cb : Nat) (l : List (W32 × Nat)) (w : World) (hl : l.length ≤ 1000000) (hA : Lies w w.heap.size 2 A l.length (cellsK l)) (hB : Lies w w.heap.size 2 B l.length (cellsK l)) :
    Calls Try.prog 13 #[.slice A l.length ca, .slice B l.length cb] w fun e w' => e = .returned (.bool true) ∧ Below w.heap.size w w' := by
  have HA := Lib.hid hA
  have HB := Lib.hid hB
  have HL := Lib.hid hl
  clear hA hB
  go_enter Try.func13, Try.ntmps13
  go_wp2
  go_loopw [13] (fun i wr => ∃ k : Nat, k ≤ l.length ∧ i = .int .i64 k ∧ Hid (Below w.heap.size w wr)) (fun i _ => l.length - (intOf i).toNat)
  case atStart => exact ⟨0, Nat.zero_le _, rfl, Lib.hid (Below.refl _ _)⟩
  case round =>
    obtain ⟨k, hk, rfl, hN⟩ := hrel
    by_cases hlt : k < l.length
    · have hla := HA.out.below hN.out
      have hlb := HB.out.below hN.out
      obtain ⟨a, qa, rfl, hqa, hba, ha0, ha1⟩ := k_at hla hlt
      obtain ⟨b, qb, rfl, hqb, hbb, hb0, hb1⟩ := k_at hlb hlt
      obtain ⟨y, hy⟩ : ∃ y, l[k] = y := ⟨_, rfl⟩
      rw [hy] at ha0 ha1 hb0 hb1
      obtain ⟨x, er⟩ := y
      simp only at ha0 ha1 hb0 hb1
      have hsz := hN.out.size
      have HCA : Hid (∀ Y, VS wr Y → Y.cell? qa = some (.int .u32 (num x)) ∧ Y.cell? ⟨qa.block, qa.off + 1, none⟩ = some (.int .i64 (er : Int))) := Lib.hid fun Y hY => ⟨(Below.cell hY (p := qa) (by omega)).trans ha0, (Below.cell hY (p := ⟨qa.block, qa.off + 1, none⟩) (by simp only; omega)).trans ha1⟩
      have HCB : Hid (∀ Y, VS wr Y → Y.cell? qb = some (.int .u32 (num x)) ∧ Y.cell? ⟨qb.block, qb.off + 1, none⟩ = some (.int .i64 (er : Int))) := Lib.hid fun Y hY => ⟨(Below.cell hY (p := qb) (by omega)).trans hb0, (Below.cell hY (p := ⟨qb.block, qb.off + 1, none⟩) (by simp only; omega)).trans hb1⟩
      have HK := Lib.hid hlt
      have h0 : (k : Int) < (l.length : Int) := by omega
      clear hy hk hla hlb hba hbb ha0 ha1 hb0 hb1 hsz
      go_upto_region 6 with fail
      refine wp_region_held_drew (S := fun Y => VS wr Y) (by kernel_rfl) (VS.begin wr) (fun hS => ?_)
      (refine held_take (i := 0) (oi := ?ot1) (v := ?vt1) ?at1 (by kernel_rfl) (by kernel_rfl) (by kernel_rfl) ?bt1 ?ct1 ?dt1 (by assumption) ?rt1; (case at1 => (simp only [List.getElem?_toArray, List.getElem?_cons_zero]; rfl)); (case bt1 => exact fun _ _ _ h => h); (case ct1 => kernel_rfl); (case dt1 => (intro W hW; (try dsimp only at hW); go_split_ands; go_simp; (try with_reducible rfl))); (case' rt1 => simp only [Act.put, List.setIfInBounds_toArray, List.set_cons_zero, List.set_cons_succ]))
      (refine held_take (i := 1) (oi := ?ot2) (v := ?vt2) ?at2 (by kernel_rfl) (by kernel_rfl) (by kernel_rfl) ?bt2 ?ct2 ?dt2 (by assumption) ?rt2; (case at2 => (simp only [List.getElem?_toArray, List.getElem?_cons_zero, List.getElem?_cons_succ]; rfl)); (case bt2 => exact fun _ _ _ h => h); (case ct2 => kernel_rfl); (case dt2 => (intro W hW; (try dsimp only at hW); go_split_ands; go_simp; (try with_reducible rfl))); (case' rt2 => simp only [Act.put, List.setIfInBounds_toArray, List.set_cons_zero, List.set_cons_succ]))
      (refine held_take (i := 2) (oi := ?ot3) (v := .pointer (some qa)) ?at3 (by kernel_rfl) (by kernel_rfl) (by kernel_rfl) ?bt3 ?ct3 ?dt3 (by assumption) ?rt3; (case at3 => (simp only [List.getElem?_toArray, List.getElem?_cons_zero, List.getElem?_cons_succ]; rfl)); (case bt3 => exact fun _ _ _ h => h); (case ct3 => kernel_rfl); (case dt3 => (intro W hW; clear hW; go_simp; (try with_reducible rfl); (try (intro h; omega)))); (case' rt3 => simp only [Act.put, List.setIfInBounds_toArray, List.set_cons_zero, List.set_cons_succ]))
      (refine held_take (i := 3) (oi := ?ot4) (v := .agg #[.int .u32 (num x), .int .i64 (er : Int)]) ?at4 (by kernel_rfl) (by kernel_rfl) (by kernel_rfl) ?bt4 ?ct4 ?dt4 (by assumption) ?rt4; (case at4 => (simp only [List.getElem?_toArray, List.getElem?_cons_zero, List.getElem?_cons_succ]; rfl)); (case bt4 => exact fun _ _ _ h => h); (case ct4 => kernel_rfl); (case dt4 => (intro W9 hW; obtain ⟨c0, c1⟩ := HCA.out W9 hW; clear hW; go_simp; (try with_reducible rfl))); (case' rt4 => simp only [Act.put, List.setIfInBounds_toArray, List.set_cons_zero, List.set_cons_succ]))
      (refine held_take (i := 4) (oi := ?ot5) (v := ?vt5) ?at5 (by kernel_rfl) (by kernel_rfl) (by kernel_rfl) ?bt5 ?ct5 ?dt5 (by assumption) ?rt5; (case at5 => (simp only [List.getElem?_toArray, List.getElem?_cons_zero, List.getElem?_cons_succ]; rfl)); (case bt5 => exact fun _ _ _ h => h); (case ct5 => kernel_rfl); (case dt5 => (intro W hW; (try dsimp only at hW); go_split_ands; go_simp; (try with_reducible rfl))); (case' rt5 => simp only [Act.put, List.setIfInBounds_toArray, List.set_cons_zero, List.set_cons_succ]))
      (refine held_take (i := 5) (oi := ?ot6) (v := ?vt6) ?at6 (by kernel_rfl) (by kernel_rfl) (by kernel_rfl) ?bt6 ?ct6 ?dt6 (by assumption) ?rt6; (case at6 => (simp only [List.getElem?_toArray, List.getElem?_cons_zero, List.getElem?_cons_succ]; rfl)); (case bt6 => exact fun _ _ _ h => h); (case ct6 => kernel_rfl); (case dt6 => (intro W hW; (try dsimp only at hW); go_split_ands; go_simp; (try with_reducible rfl))); (case' rt6 => simp only [Act.put, List.setIfInBounds_toArray, List.set_cons_zero, List.set_cons_succ]))
      (refine held_take (i := 6) (oi := ?ot7) (v := .pointer (some qb)) ?at7 (by kernel_rfl) (by kernel_rfl) (by kernel_rfl) ?bt7 ?ct7 ?dt7 (by assumption) ?rt7; (case at7 => (simp only [List.getElem?_toArray, List.getElem?_cons_zero, List.getElem?_cons_succ]; rfl)); (case bt7 => exact fun _ _ _ h => h); (case ct7 => kernel_rfl); (case dt7 => (intro W hW; clear hW; go_simp; (try with_reducible rfl); (try (intro h; omega)))); (case' rt7 => simp only [Act.put, List.setIfInBounds_toArray, List.set_cons_zero, List.set_cons_succ]))
      (refine held_take (i := 7) (oi := ?ot8) (v := .agg #[.int .u32 (num x), .int .i64 (er : Int)]) ?at8 (by kernel_rfl) (by kernel_rfl) (by kernel_rfl) ?bt8 ?ct8 ?dt8 (by assumption) ?rt8; (case at8 => (simp only [List.getElem?_toArray, List.getElem?_cons_zero, List.getElem?_cons_succ]; rfl)); (case bt8 => exact fun _ _ _ h => h); (case ct8 => kernel_rfl); (case dt8 => (intro W9 hW; obtain ⟨c0, c1⟩ := HCB.out W9 hW; clear hW; go_simp; (try with_reducible rfl))); (case' rt8 => simp only [Act.put, List.setIfInBounds_toArray, List.set_cons_zero, List.set_cons_succ]))
      (refine held_take (i := 8) (oi := ?ot9) (v := .bool false) ?at9 (by kernel_rfl) (by kernel_rfl) (by kernel_rfl) ?bt9 ?ct9 ?dt9 (by assumption) ?rt9; (case at9 => (simp only [List.getElem?_toArray, List.getElem?_cons_zero, List.getElem?_cons_succ]; rfl)); (case bt9 => exact fun _ _ _ h => h); (case ct9 => kernel_rfl); (case dt9 => (intro W9 _; exact exec_neqK _ _ _ rfl x er x er rfl rfl W9 (b := false) (by simp))); (case' rt9 => simp only [Act.put, List.setIfInBounds_toArray, List.set_cons_zero, List.set_cons_succ]))
      refine wpAnyH_done (by kernel_rfl) ?_ _
      have HS := Lib.hid hS
      clear hS
      go_wp2
      go_roundw
      case rel => exact ⟨k + 1, HK.out, by go_num, Lib.hid (hN.out.trans (Below.mono HS.out hN.out.size))⟩
      case measure => have := HK.out; simp [intOf]; omega
    · obtain rfl : k = l.length := by omega
      clear hlt hk
      go_wp2
      go_ret
      exact ⟨rfl, hN.out⟩
attribute [local go_sem ↓ high] builtin_appS
set_option maxRecDepth 100000 in
set_option maxHeartbeats 2000000 in
theorem rall_any {w : World} {r c : Nat} {A : Option Addr} {ws : List W32} (h : RD w r A c ws) (hl : ws.length ≤ 100000) (n : Int) (m : Nat) (hm : m = (min n 1000).toNat) :
    Calls Try.prog 15 #[.pointer (some ⟨r, 0, none⟩), .int .i64 n] w (AllP w ws m) := by
  have hm1 : m ≤ 1000 := by omega
  have HRE : Hid (∀ (k : Nat) W, Below w.heap.size w W → Calls Try.prog 11 #[.pointer (some ⟨r, 0, none⟩), .int .i64 (k : Int)] W fun e w' => e = .returned (rvT (rv ws (k : Int))) ∧ Below W.heap.size W w') := Lib.hid fun k W hW => rrecover_any (h.under hW) hl (k : Int) _ rfl
  have HM := Lib.hid hm
  clear h hm
  go_enter Try.func15, Try.ntmps15
  go_wp2
  go_loopw [5, 6] (fun vo vi W => ∃ (k d : Nat) (B : Option Addr), k ≤ m ∧ vi = .int .i64 k ∧ vo = .slice B k d ∧ Hid (AllAt w W (.slice B k d) (alls ws k))) (fun _ i _ => m - (intOf i).toNat)
  case atStart => exact ⟨0, 0, none, Nat.zero_le _, rfl, rfl, Lib.hid ⟨OwnK.nil _ _, Below.refl _ _⟩⟩
  case round =>
    obtain ⟨k, d, B, hk, rfl, rfl, HI⟩ := hrel
    by_cases hlt : k < m
    · have hkn : (k : Int) < n := by have := HM.out; omega
      have hkd : decide ((k : Int) < n) = true := decide_eq_true hkn
      have hk10 : (k : Int) < 1000 := by omega
      obtain ⟨W, hW⟩ : ∃ W : World, W = wr := ⟨_, rfl⟩
      subst hW
      have hre := HRE.out k W HI.out.be
      unfold rvT at hre
      obtain ⟨x, hx⟩ : ∃ x, x = (rv ws (k : Int)).val := ⟨_, rfl⟩
      obtain ⟨er, her⟩ : ∃ er, er = (rv ws (k : Int)).err := ⟨_, rfl⟩
      obtain ⟨sq, hsq⟩ : ∃ sq, sq = (rv ws (k : Int)).seq := ⟨_, rfl⟩
      obtain ⟨q, hq⟩ : ∃ q : Nat, q = cond (rv ws (k : Int)).snd 1 0 := ⟨_, rfl⟩
      have hsucc := alls_succ ws k
      rw [← hx, ← her, ← hsq, ← hq] at hre
      rw [← hx, ← her] at hsucc
      have HR1 := Lib.hid hre
      have HSU := Lib.hid hsucc
      have HAP : Hid (∀ W1, Below W.heap.size W W1 → ∃ B2 d2 w', (appS #[40, 40] 40 #[.slice B k d, .slice (some ⟨W1.heap.size, 0, none⟩) 1 1]).run Try.prog (W1.alloc (.cells #[.int .u32 (num x), .int .i64 (er : Int)] 55)) = .ok (.slice B2 (k + 1) d2) w' ∧ AllAt w w' (.slice B2 (k + 1) d2) (alls ws (k + 1))) := Lib.hid fun W1 hd => by
        have hi : AllAt w W1 (.slice B k d) (alls ws k) := ⟨HI.out.own.under hd, HI.out.be.trans (hd.mono HI.out.be.size)⟩
        obtain ⟨v', w', hrun, hown, hgr, _⟩ := app_ctr W1 w.heap.size (.slice B k d) (alls ws k) x er hi.own hi.be.size (by rw [alls_len]; omega) 40
        rw [← HSU.out] at hown
        obtain ⟨B2, d2, rfl, _⟩ := hown.form
        rw [alls_len] at hrun hown
        exact ⟨B2, d2, w', hrun, hi.app hown hgr⟩
      have HK := Lib.hid hlt
      have hbs := fun W1 => build_ctr (num x) (er : Int) W1
      have hk9 : k ≤ 1000 := by omega
      clear hx her hsq hq hsucc hlt hk hre
      go_wp2_with (go_at_call 11; refine HR1.out.mono ?_; rintro e w1 ⟨rfl, hd⟩; obtain ⟨B2, d2, w2, hrun, HA2⟩ := HAP.out (w1.alloc (.cells #[.int .u32 (num sq), .int .u32 (num x)] 35)) (hd.alloc hd.size _); have HA3 := Lib.hid HA2; simp only [World.size_alloc] at hrun; clear hd HA2)
      go_roundw
      case rel => exact ⟨k + 1, d2, B2, HK.out, by go_num, rfl, HA3⟩
      case measure => have := HK.out; simp [intOf]; omega
    · obtain rfl : k = m := by omega
      clear hlt hk
      by_cases hkn : (k : Int) < n
      · have hkd : decide ((k : Int) < n) = true := decide_eq_true hkn
        have hk10 : ¬ (k : Int) < 1000 := by have := HM.out; omega
        go_wp2_with fail
        go_ret
        obtain ⟨_, _, e, _, hlie, hob, hko⟩ := HI.out.own.form
        injection e with e1 e2 e3
        rw [alls_len] at hlie
        subst e1
        exact ⟨_, _, rfl, hlie, HI.out.be, fun a ha => (hko a.block (by rw [hob, ha]; rfl)).1⟩
      · have hkd : decide ((k : Int) < n) = false := decide_eq_false hkn
        go_wp2_with fail
        go_ret
        obtain ⟨_, _, e, _, hlie, hob, hko⟩ := HI.out.own.form
        injection e with e1 e2 e3
        rw [alls_len] at hlie
        subst e1
        exact ⟨_, _, rfl, hlie, HI.out.be, fun a ha => (hko a.block (by rw [hob, ha]; rfl)).1⟩
end Go.Proofs.Ytpeebdhbcglibaa
