/- The reference's pool: Run. -/
import Derived.Test.YtmhhckpdhjnmeaaRfr
namespace Go.Proofs.Ytmhhckpdhjnmeaa
open Go.RowKit
attribute [local go_sem ↓ high] builtin_appS

/-! ### the search, plainly -/
structure Srch (b : Sp) (U : List Nat) (m a x : Nat) : Prop where
  mod : x % a = 0
  lo : b.1 ≤ x
  lt : x < 18446744073709551616
  low : ∀ y, Free b U m a y → x ≤ y
section
variable {b : Sp} {U : List Nat} {m a x : Nat}
theorem Srch.start (ha : 0 < a) (h : alu b.1 a < 18446744073709551616) : Srch b U m a (alu b.1 a) :=
  ⟨alu_mod _ _, (alu_bounds _ ha).1, h, fun _ hy => alu_least ha hy.1 hy.2.1⟩
theorem Srch.none_up (hb : BOk b) (hm : 0 < m) (ha : 0 < a) (h : ¬ alu b.1 a < 18446744073709551616) (y : Nat) : ¬ Free b U m a y := fun hy => by
  have h1 := alu_least ha hy.1 hy.2.1
  have h2 := hy.2.2.1
  have h3 := hb.hi
  unfold TT at h3
  omega
theorem Srch.none_many (h : ¬ m ≤ b.2 / 4096) (y : Nat) : ¬ Free b U m a y := fun hy => by
  have h1 := hy.2.1
  have h2 := hy.2.2.1
  omega
theorem Srch.fits (h : Srch b U m a x) (hb : BOk b) (ha4 : a % 4096 = 0) (hm : m ≤ b.2 / 4096) (hc : (x - b.1) / 4096 ≤ b.2 / 4096 - m) : x + m * 4096 ≤ b.1 + b.2 := by
  have h1 := mod_trans ha4 h.mod
  have h2 := hb.lo
  have h3 := hb.sz
  have h4 := h.lo
  omega
theorem Srch.stop (h : Srch b U m a x) (hb : BOk b) (ha4 : a % 4096 = 0) (hm : m ≤ b.2 / 4096) (hc : ¬ (x - b.1) / 4096 ≤ b.2 / 4096 - m) (y : Nat) : ¬ Free b U m a y := fun hy => by
  have h1 := mod_trans ha4 h.mod
  have h2 := hb.lo
  have h3 := hb.sz
  have h4 := h.lo
  have h5 := h.low y hy
  have h6 := hy.2.2.1
  omega
theorem Srch.ne (h : ¬ ∀ j, j < m → x + 4096 * j ∉ U) {y : Nat} (hy : Free b U m a y) : y ≠ x := fun e => h (by rw [← e]; exact hy.2.2.2)
theorem Srch.brk (h : Srch b U m a x) (hb : BOk b) (hm : 0 < m) (hn : ¬ ∀ j, j < m → x + 4096 * j ∉ U) (hx : 18446744073709551615 - a < x) (ha : a < 18446744073709551616) (y : Nat) : ¬ Free b U m a y := fun hy => by
  have h1 := h.low y hy
  have h2 := Srch.ne hn hy
  have h3 := mult_gap h.mod hy.1 (by omega)
  have h4 := hy.2.2.1
  have h5 := hb.hi
  unfold TT at h5
  omega
theorem Srch.next (h : Srch b U m a x) (hn : ¬ ∀ j, j < m → x + 4096 * j ∉ U) (hx : ¬ 18446744073709551615 - a < x) (ha : a < 18446744073709551616) : Srch b U m a (x + a) := by
  refine ⟨by rw [Nat.add_mod_right]; exact h.mod, by have := h.lo; omega, by omega, fun y hy => ?_⟩
  have h1 := h.low y hy
  have h2 := Srch.ne hn hy
  exact mult_gap h.mod hy.1 (by omega)
end
/-- How the answers read, where there is such a place and where there is none. -/
theorem ans_none {b : Sp} {L : List Sp} {U : List Nat} {m a : Nat} (h : Rel b L U) (hk : askOk (m : Int) a = true) (hno : ∀ y, ¬ Free b U m a y) : runV L m a = 0 ∧ runE L m a = 110 ∧ usedN L U m a = U := by
  obtain ⟨h1, h2, h3, h4⟩ := askOk_iff.1 hk
  have hi := h.lost (n := m) (by omega) h4 (by omega) hno
  have ht : (m : Int).toNat = m := rfl
  unfold runV runE usedN takeV takeE
  rw [hk, ht, hi]
  exact ⟨rfl, rfl, rfl⟩
theorem ans_some {b : Sp} {L : List Sp} {U : List Nat} {m a x : Nat} (h : Rel b L U) (hk : askOk (m : Int) a = true) (hx : Free b U m a x) (hl : ∀ y, Free b U m a y → x ≤ y) : runV L m a = x ∧ runE L m a = 0 ∧ usedN L U m a = U ++ frs x m := by
  obtain ⟨h1, h2, h3, h4⟩ := askOk_iff.1 hk
  obtain ⟨i, hi, e⟩ := h.found (n := m) (by omega) h4 (by omega) hx hl
  have ht : (m : Int).toNat = m := rfl
  unfold runV runE usedN takeV takeE
  rw [hk, ht, hi]
  exact ⟨e, rfl, by simp only [if_true]; rw [e]⟩
/-- A frame's address is put behind those that are handed out. -/
theorem rp_app {w : World} {q : Nat} {s : Sp} {u : Value} {U : List Nat} (h : RP w q s u U) (hl : U.length + 1 ≤ 1000000) (y : Nat) :
    ∃ v' w', (∀ ty, (appS #[31, 31] ty #[u, .slice (some ⟨w.heap.size, 0, none⟩) 1 1]).run Try.prog (w.alloc (.cells #[.int .u64 (y : Int)] 22)) = .ok v' w') ∧
      w'.cell? ⟨q, 2, none⟩ = some u ∧ w'.frozen? ⟨q, 2, none⟩ = false ∧ RP (w'.setCell ⟨q, 2, none⟩ v') q s v' (U ++ [y]) ∧ Turn (FpC q u) w (w'.setCell ⟨q, 2, none⟩ v') ∧
      (∀ k, v'.ownBlock = some k → u.ownBlock = some k ∨ w.heap.size ≤ k) ∧ ∃ g c, v' = .slice (some ⟨g, 0, none⟩) (U.length + 1) c := by
  have hb : Below w.heap.size w (w.alloc (.cells #[.int .u64 (y : Int)] 22)) := below_alloc1 _ _
  obtain ⟨i0, hi, hz0, hz1, hz2⟩ := info_parts u64_info
  have hnews : ∀ j v, (u64s [y])[j]? = some v → (w.alloc (.cells #[.int .u64 (y : Int)] 22)).cell? ((⟨w.heap.size, 0, none⟩ : Addr).add j) = some v := by
    intro j v hv
    have e : ((⟨w.heap.size, 0, none⟩ : Addr).add j) = ⟨w.heap.size, j, none⟩ := by unfold Addr.add; by_cases h0 : j = 0 <;> simp [h0]
    rw [e, cell_of_row _ w.heap.size j _ 22 (0, 0) (heap_alloc_new w _)]
    simpa [u64s] using hv
  obtain ⟨v', w', q1, q2, q3, _, q5⟩ := run_append_own_at (P := Try.prog) (w.alloc (.cells #[.int .u64 (y : Int)] 22)) 0 31 31 22 i0 (.int .u64 0) 1 8 Try.underlying31 hi hz0 hz1 hz2 rfl (by decide) u U.length (u64s U) (h.own.alloc _)
    ⟨w.heap.size, 0, none⟩ 1 1 (u64s [y]) rfl hnews (u64s_one _) (by unfold maxLen; omega) (by omega) (Nat.zero_le _)
  obtain ⟨g, c, hv'⟩ := ownsRow_succ q2
  have h1' := h.under hb
  have hB : Blk w' q 33 #[.int .u64 (s.1 : Int), .int .u64 (s.2 : Int), u] := h1'.blk.grown q3 fun e => h.ne e.symm
  have hql := h.blk.lt
  have hv'q : v'.ownBlock ≠ some q := by
    rcases q5 with e | e
    · rw [e]; exact h.ne
    · rw [e]; intro e2
      have e3 := Option.some.inj e2
      simp only [World.size_alloc] at e3
      omega
  have ht : Turn (FpC q u) w w' := (Turn.of_below hb).andThen (Turn.of_grown q3 fun g e => .inr e)
  refine ⟨v', w', fun _ => q1, hB.cellAt 2 rfl, hB.froz 2, ⟨hB.set 2 v', ?_, hv'q⟩, ht.setCell (p := ⟨q, 2, none⟩) (.inl (.inl rfl)) _, fun k hk => ?_, g, c, hv'⟩
  · have e : u64s (U ++ [y]) = u64s U ++ u64s [y] := by simp [u64s]
    rw [e, List.length_append]
    exact owns_same q2 fun k hk => Below.heap_setCell w' ⟨q, 2, none⟩ v' k fun e => hv'q (by rw [hk]; exact congrArg some e)
  · rcases q5 with e | e
    · exact .inl (e.symm.trans hk)
    · rw [hk] at e
      have e3 := Option.some.inj e
      simp only [World.size_alloc] at e3
      exact .inr (by omega)
/-- How the reference's Run ends. -/
def RrPost (w : World) (q : Nat) (s : Sp) (u : Value) (U : List Nat) (L : List Sp) (n : Int) (a : Nat) (e : Ending) (w' : World) : Prop :=
  ∃ u', e = .returned (.tuple #[.int .u64 (runV L n a : Nat), .int .i64 (runE L n a : Nat)]) ∧ RP w' q s u' (usedN L U n a) ∧ Turn (FpC q u) w w' ∧ ∀ k, u'.ownBlock = some k → u.ownBlock = some k ∨ w.heap.size ≤ k
theorem rr_bad {w : World} {q : Nat} {s : Sp} {u : Value} {U : List Nat} {L : List Sp} {n : Int} {a : Nat} (h : RP w q s u U) (hk : askOk n a = false) : RrPost w q s u U L n a (.returned (.tuple #[.int .u64 0, .int .i64 1])) w := by
  unfold RrPost runV runE usedN
  rw [hk]
  exact ⟨u, rfl, h, Turn.refl _ _, fun k hk => .inl hk⟩
set_option maxRecDepth 100000 in
set_option maxHeartbeats 1000000 in
theorem rrun_bad {w : World} {q : Nat} {s : Sp} {u : Value} {U : List Nat} {L : List Sp} (h : RP w q s u U) (n : Int) (a : Nat) (hk : askOk n a = false) :
    Calls Try.prog 12 #[.pointer (some ⟨q, 0, none⟩), .int .i64 n, .int .u64 (a : Int)] w (RrPost w q s u U L n a) := by
  have HQ := Lib.hid (rr_bad (L := L) h hk)
  obtain ⟨Q, hQ⟩ : ∃ Q, Q = RrPost w q s u U L n a := ⟨_, rfl⟩
  rw [← hQ] at HQ ⊢
  by_cases h1 : n < 1
  · clear h hk hQ
    go_enter Try.func12, Try.ntmps12
    go_wp2
    exact HQ.out
  by_cases h2 : 4096 < n
  · clear h hk hQ
    go_enter Try.func12, Try.ntmps12
    go_wp2
    exact HQ.out
  by_cases h3 : a = 0
  · have k3 : ((a : Int) == 0) = true := by simp; omega
    clear h hk hQ h3
    go_enter Try.func12, Try.ntmps12
    go_wp2
    exact HQ.out
  · have h4 : ¬ a % 4096 = 0 := fun h4 => by
      rw [← Bool.not_eq_true, askOk_iff] at hk
      exact hk ⟨by omega, by omega, h3, h4⟩
    have k3 : ((a : Int) == 0) = false := by simp; omega
    have k4 : ((a : Int) % 4096 != 0) = true := by simp; omega
    clear h hk hQ h3 h4
    go_enter Try.func12, Try.ntmps12
    go_wp2
    exact HQ.out
set_option maxRecDepth 100000 in
set_option maxHeartbeats 2000000 in
theorem rrun_ok {w : World} {q : Nat} {s : Sp} {u : Value} {U : List Nat} {L : List Sp} (h : RP w q s u U) (hs : fit s) (hR : Rel (fB s) L U) (m a : Nat) (hk : askOk (m : Int) a = true) (ha : a < 18446744073709551616) (hl : U.length + m ≤ 1000) :
    Calls Try.prog 12 #[.pointer (some ⟨q, 0, none⟩), .int .i64 (m : Int), .int .u64 (a : Int)] w (RrPost w q s u U L m a) := by
  obtain ⟨h1, h2, h3, h4⟩ := askOk_iff.1 hk
  have hb := fB_ok hs
  obtain ⟨b, hbb⟩ : ∃ b, b = fB s := ⟨_, rfl⟩
  have HFA := Lib.hid (rframes_any h hs)
  rw [← hbb] at hb hR HFA
  have HNO : Hid ((∀ y, ¬ Free b U m a y) → ∀ w', Below w.heap.size w w' → RrPost w q s u U L m a (.returned (.tuple #[.int .u64 0, .int .i64 110])) w') := Lib.hid fun hno w' hw' => by
    obtain ⟨e1, e2, e3⟩ := ans_none hR hk hno
    unfold RrPost
    rw [e1, e2, e3]
    exact ⟨u, rfl, h.under hw', Turn.of_below hw', fun k hk => .inl hk⟩
  have HYES : Hid (∀ x, Free b U m a x → (∀ y, Free b U m a y → x ≤ y) → ∀ w' u', RP w' q s u' (U ++ frs x m) → Turn (FpC q u) w w' → (∀ k, u'.ownBlock = some k → u.ownBlock = some k ∨ w.heap.size ≤ k) → RrPost w q s u U L m a (.returned (.tuple #[.int .u64 (x : Int), .int .i64 0])) w') := Lib.hid fun x hx hlow w' u' k1 k2 k3 => by
    obtain ⟨e1, e2, e3⟩ := ans_some hR hk hx hlow
    unfold RrPost
    rw [e1, e2, e3]
    exact ⟨u', rfl, k1, k2, k3⟩
  obtain ⟨Q, hQ⟩ : ∃ Q, Q = RrPost w q s u U L m a := ⟨_, rfl⟩
  rw [← hQ] at HNO HYES ⊢
  obtain ⟨F, hF⟩ : ∃ F, F = b.1 := ⟨_, rfl⟩
  obtain ⟨C, hC⟩ : ∃ C, C = b.2 / 4096 := ⟨_, rfl⟩
  rw [← hF, ← hC] at HFA
  have hFl : F < 18446744073709551616 := by rw [hF]; exact hb.bl
  have HUP := Lib.hid (fun X => rup_any F a hFl ha X)
  have hu := up_alu (n := F) (a := a) hFl (by omega)
  obtain ⟨t, ht⟩ : ∃ t, t = upN F a := ⟨_, rfl⟩
  obtain ⟨z, hz⟩ : ∃ z, z = upIs F a := ⟨_, rfl⟩
  rw [← ht, ← hz] at HUP hu
  have m1 : 1 ≤ m := by omega
  have m2 : m ≤ 4096 := by omega
  have k3 : ((a : Int) == 0) = false := by simp; omega
  have k4 : ((a : Int) % 4096 != 0) = false := by simp; omega
  have k1 : ¬ ((m : Int) < 1) := by omega
  have k2 : ¬ ((4096 : Int) < (m : Int)) := by omega
  have kw : IntKind.u64.wrap (m : Int) = (m : Int) := by simp [IntKind.wrap, IntKind.bits, IntKind.signed]; omega
  have hCl : C < 18446744073709551616 := by have := hb.lt; unfold TT at this; omega
  have HP := Lib.hid h
  have HB := Lib.hid hb
  have HN := Lib.hid (And.intro (show 0 < a by omega) (And.intro h4 (And.intro ha hl)))
  by_cases hmc : m ≤ C
  case neg =>
    have hno : ∀ y, ¬ Free b U m a y := Srch.none_many (by rw [← hC]; exact hmc)
    have HZ := Lib.hid (HNO.out hno)
    have hgt : (C : Int) < (m : Int) := by omega
    clear h hs hR hk hb hbb hQ hF hC hu ht hz hno hmc h1 h2 h3 h4 ha
    go_enter Try.func12, Try.ntmps12
    go_wp2_with (go_at_call 10; refine HFA.out.mono ?_; rintro e w1 ⟨rfl, hd⟩; have D1 := Lib.hid hd; clear hd)
    exact HZ.out w1 D1.out
  have hgt : ¬ ((C : Int) < (m : Int)) := by omega
  cases z with
  | false =>
    have hno : ∀ y, ¬ Free b U m a y := Srch.none_up hb (by omega) (by omega) (by have := of_decide_eq_false hu.1.symm; rw [← hF]; exact this)
    have HZ := Lib.hid (HNO.out hno)
    clear h hs hR hk hb hbb hQ hF hC hu ht hz hno h1 h2 h3 h4 ha
    go_enter Try.func12, Try.ntmps12
    go_wp2_with (first
      | (go_at_call 10; refine HFA.out.mono ?_; rintro e w1 ⟨rfl, hd⟩; have D1 := Lib.hid hd; clear hd)
      | (go_at_call 23; refine (HUP.out _).mono ?_; rintro e w2 ⟨rfl, rfl⟩))
    go_loopw [10] (fun i wr => i = .int .u64 (t : Int) ∧ Hid (wr = w1)) (fun _ _ => 0)
    case atStart => exact ⟨rfl, Lib.hid rfl⟩
    case round =>
      obtain ⟨rfl, hw⟩ := hrel
      obtain rfl := hw.out
      go_wp2
      exact HZ.out _ D1.out
  | true =>
    have hlt := of_decide_eq_true hu.1.symm
    have hta := hu.2 hlt
    have hsr : Srch b U m a t := by rw [hta, hF]; exact Srch.start (by omega) (by rw [← hF]; exact hlt)
    have HSR := Lib.hid hsr
    have HF := Lib.hid (And.intro hF (And.intro hC hmc))
    have ka : IntKind.u64.wrap ((18446744073709551615 : Int) - (a : Int)) = (18446744073709551615 : Int) - (a : Int) := by simp [IntKind.wrap, IntKind.bits, IntKind.signed]; omega
    have kcm : IntKind.u64.wrap ((C : Int) - (m : Int)) = ((C - m : Nat) : Int) := by simp [IntKind.wrap, IntKind.bits, IntKind.signed]; omega
    obtain ⟨cm, hcm⟩ : ∃ cm, cm = C - m := ⟨_, rfl⟩
    rw [← hcm] at kcm
    have HCM := Lib.hid hcm
    clear h hs hR hk hb hbb hQ hF hC hu ht hz h1 h2 h3 h4 hlt hta hsr hcm
    go_enter Try.func12, Try.ntmps12
    go_wp2_with (first
      | (go_at_call 10; refine HFA.out.mono ?_; rintro e w1 ⟨rfl, hd⟩; have D1 := Lib.hid hd; clear hd)
      | (go_at_call 23; refine (HUP.out _).mono ?_; rintro e w2 ⟨rfl, rfl⟩))
    have HP1 := Lib.hid (HP.out.under D1.out)
    go_loopw [10] (fun i wr => ∃ x : Nat, i = .int .u64 (x : Int) ∧ Hid (Srch b U m a x ∧ wr = w1)) (fun i _ => 18446744073709551616 - (intOf i).toNat)
    case atStart => exact ⟨t, rfl, Lib.hid ⟨HSR.out, rfl⟩⟩
    case round =>
      obtain ⟨x, rfl, hM⟩ := hrel
      have ew := hM.out.2.symm
      subst ew
      have hxl := hM.out.1.lt
      have hxf := hM.out.1.lo
      rw [← HF.out.1] at hxf
      have kx : IntKind.u64.wrap ((x : Int) - (F : Int)) = ((x - F : Nat) : Int) := by simp [IntKind.wrap, IntKind.bits, IntKind.signed]; omega
      obtain ⟨d, hd⟩ : ∃ d, d = x - F := ⟨_, rfl⟩
      rw [← hd] at kx
      have hdl : d < 18446744073709551616 := by omega
      by_cases hc : d / 4096 ≤ cm
      case neg =>
        have hno := hM.out.1.stop HB.out HN.out.2.1 (by rw [← HF.out.2.1]; exact HF.out.2.2) (by rw [← HF.out.1, ← HF.out.2.1, ← hd, ← HCM.out]; exact hc)
        have HZ := Lib.hid (HNO.out hno)
        have hc2 : ¬ ((d : Int) / 4096 ≤ (cm : Int)) := by omega
        clear hno hc hd hM
        go_wp2
        exact HZ.out _ D1.out
      have hfit := hM.out.1.fits HB.out HN.out.2.1 (by rw [← HF.out.2.1]; exact HF.out.2.2) (by rw [← HF.out.1, ← HF.out.2.1, ← hd, ← HCM.out]; exact hc)
      have hbh := HB.out.hi
      unfold TT at hbh
      have hxm : x + m * 4096 ≤ 18446744073709551616 := by omega
      have hxb : x + m * 4096 ≤ b.1 + b.2 := hfit
      have HXB := Lib.hid hxb
      have hc2 : (d : Int) / 4096 ≤ (cm : Int) := by omega
      clear hc hd hfit hbh hxb
      go_wp2
      go_loopw [12, 13] (fun f i wr => ∃ k : Nat, k ≤ m ∧ i = .int .i64 k ∧ ∃ fb : Bool, f = .bool fb ∧ Hid ((fb = true ↔ ∀ j, j < k → x + 4096 * j ∉ U) ∧ wr = w1)) (fun _ i _ => m - (intOf i).toNat)
      case atStart => exact ⟨0, Nat.zero_le _, rfl, true, rfl, Lib.hid ⟨by simp, rfl⟩⟩
      case round =>
        obtain ⟨k, hk, rfl, fb, rfl, hN⟩ := hrel
        have ew := hN.out.2.symm
        subst ew
        by_cases hkm : k < m
        · cases fb with
          | false =>
            have HNX : Hid (((false : Bool) = true ↔ ∀ j, j < k + 1 → x + 4096 * j ∉ U)) := Lib.hid ⟨fun e => (by cases e), fun hh => hN.out.1.2 fun j hj => hh j (by omega)⟩
            go_wp2
            go_roundw
            case rel => exact ⟨k + 1, by omega, by simp, false, rfl, Lib.hid ⟨HNX.out, by first | rfl | trivial⟩⟩
            case measure => simp [intOf]; omega
          | true =>
            obtain ⟨y, hy⟩ : ∃ y, y = x + 4096 * k := ⟨_, rfl⟩
            have kk : IntKind.u64.wrap (k : Int) = (k : Int) := by simp [IntKind.wrap, IntKind.bits, IntKind.signed]; omega
            have k5 : IntKind.u64.wrap ((4096 : Int) * (k : Int)) = (4096 : Int) * (k : Int) := by simp [IntKind.wrap, IntKind.bits, IntKind.signed]; omega
            have k6 : IntKind.u64.wrap ((x : Int) + (4096 : Int) * (k : Int)) = (y : Int) := by simp [IntKind.wrap, IntKind.bits, IntKind.signed]; omega
            have HHA := Lib.hid (rhas_any HP1.out (by have := HN.out.2.2.2; omega) y)
            obtain ⟨hb, hhb⟩ : ∃ hb, hb = decide (y ∈ U) := ⟨_, rfl⟩
            rw [← hhb] at HHA
            have HNX : Hid (((!hb) = true ↔ ∀ j, j < k + 1 → x + 4096 * j ∉ U)) := Lib.hid (by
              rw [hhb, hy]
              constructor
              · intro e j hj
                rcases Nat.lt_or_ge j k with h | h
                · exact hN.out.1.1 rfl j h
                · have : j = k := by omega
                  subst this
                  simpa using e
              · intro hh
                simpa using hh k (by omega))
            clear hy hhb
            go_wp2_with (go_at_call 28; refine HHA.out.mono ?_; rintro e w3 ⟨rfl, hw3⟩; have ew := hw3.symm; subst ew)
            go_roundw
            case rel => exact ⟨k + 1, by omega, by simp, !hb, rfl, Lib.hid ⟨HNX.out, by first | rfl | trivial⟩⟩
            case measure => simp [intOf]; omega
        · obtain rfl : k = m := by omega
          cases fb with
          | false =>
            have hn : ¬ ∀ j, j < k → x + 4096 * j ∉ U := fun hh => by have := hN.out.1.2 hh; cases this
            by_cases hbk : 18446744073709551615 - a < x
            · have hno := hM.out.1.brk HB.out (by omega) hn hbk HN.out.2.2.1
              have HZ := Lib.hid (HNO.out hno)
              have hal := HN.out.2.2.1
              have hb2 : (18446744073709551615 : Int) - (a : Int) < (x : Int) := by omega
              clear hn hbk hno hN hM hal
              go_wp2
              exact HZ.out _ D1.out
            · have hnx := hM.out.1.next hn hbk HN.out.2.2.1
              have hal := HN.out.2.2.1
              have ha0 := HN.out.1
              have hb2 : ¬ ((18446744073709551615 : Int) - (a : Int) < (x : Int)) := by omega
              have hxa : IntKind.u64.wrap ((x : Int) + (a : Int)) = (x : Int) + (a : Int) := by simp [IntKind.wrap, IntKind.bits, IntKind.signed]; omega
              have HNX := Lib.hid hnx
              clear hn hbk hnx hN hM
              go_wp2
              go_roundw
              case rel => exact ⟨x + a, by simp, Lib.hid ⟨HNX.out, by first | rfl | trivial⟩⟩
              case measure => simp [intOf]; omega
          | true =>
            have hall := hN.out.1.1 rfl
            have hfree : Free b U k a x := ⟨hM.out.1.mod, hM.out.1.lo, HXB.out, hall⟩
            have HY2 := Lib.hid (HYES.out x hfree hM.out.1.low)
            have H20 : Hid (RP w1 q s u (U ++ frs x 0) ∧ Turn (FpC q u) w w1 ∧ ∀ j, u.ownBlock = some j → u.ownBlock = some j ∨ w.heap.size ≤ j) := Lib.hid ⟨by have : frs x 0 = [] := rfl; rw [this, List.append_nil]; exact HP1.out, Turn.of_below D1.out, fun j hj => .inl hj⟩
            clear hall hfree hN hM
            go_wp2
            go_loopw [14] (fun i wr => ∃ j : Nat, j ≤ k ∧ i = .int .i64 j ∧ ∃ u' : Value, Hid (RP wr q s u' (U ++ frs x j) ∧ Turn (FpC q u) w wr ∧ ∀ g, u'.ownBlock = some g → u.ownBlock = some g ∨ w.heap.size ≤ g)) (fun i _ => k - (intOf i).toNat)
            case atStart => exact ⟨0, Nat.zero_le _, rfl, u, H20⟩
            case round =>
              obtain ⟨j, hj, rfl, u', hJ⟩ := hrel
              by_cases hjk : j < k
              · obtain ⟨A, c, rfl, -⟩ := hJ.out.1.form
                have c2 := hJ.out.1.c2
                have hlen : (U ++ frs x j).length = U.length + j := by rw [List.length_append, frs_len]
                have hul := HN.out.2.2.2
                obtain ⟨y, hy⟩ : ∃ y, y = x + 4096 * j := ⟨_, rfl⟩
                obtain ⟨v7, w7, e7, f7, g7, r7, t7, o7, gg, cc, hv7⟩ := rp_app hJ.out.1 (by omega) y
                subst hv7
                have kk : IntKind.u64.wrap (j : Int) = (j : Int) := by simp [IntKind.wrap, IntKind.bits, IntKind.signed]; omega
                have k5 : IntKind.u64.wrap ((4096 : Int) * (j : Int)) = (4096 : Int) * (j : Int) := by simp [IntKind.wrap, IntKind.bits, IntKind.signed]; omega
                have k6 : IntKind.u64.wrap ((x : Int) + (4096 : Int) * (j : Int)) = (y : Int) := by simp [IntKind.wrap, IntKind.bits, IntKind.signed]; omega
                rw [hlen] at c2 e7 f7 r7 t7 o7
                obtain ⟨N, hNN⟩ : ∃ N, N = U.length + j := ⟨_, rfl⟩
                rw [← hNN] at c2 e7 f7 r7 t7 o7
                have HNX : Hid (RP (w7.setCell ⟨q, 2, none⟩ (.slice (some ⟨gg, 0, none⟩) (N + 1) cc)) q s (.slice (some ⟨gg, 0, none⟩) (N + 1) cc) (U ++ frs x (j + 1)) ∧ Turn (FpC q u) w (w7.setCell ⟨q, 2, none⟩ (.slice (some ⟨gg, 0, none⟩) (N + 1) cc)) ∧ ∀ g, Value.ownBlock (.slice (some ⟨gg, 0, none⟩) (N + 1) cc) = some g → u.ownBlock = some g ∨ w.heap.size ≤ g) := Lib.hid (by
                  refine ⟨?_, hJ.out.2.1.trans t7 fun i hi => ?_, fun g hg => ?_⟩
                  · rw [frs_succ, ← List.append_assoc, ← hy]; exact r7
                  · rcases hi with rfl | hi
                    · exact .inl (.inl rfl)
                    · rw [hNN, ← hlen] at hi
                      exact (hJ.out.2.2 i hi).imp .inr id
                  · rcases o7 g hg with h | h
                    · rw [hNN, ← hlen] at h
                      exact hJ.out.2.2 g h
                    · exact .inr (Nat.le_trans hJ.out.2.1.size h))
                clear hlen hul hy hNN r7 t7 o7 hJ
                go_wp2
                go_roundw
                case rel => exact ⟨j + 1, by omega, by simp, _, HNX⟩
                case measure => simp [intOf]; omega
              · obtain rfl : j = k := by omega
                go_wp2
                exact HY2.out _ _ hJ.out.1 hJ.out.2.1 hJ.out.2.2
theorem rrun_any {w : World} {q : Nat} {s : Sp} {u : Value} {U : List Nat} {L : List Sp} (h : RP w q s u U) (hs : fit s) (hR : Rel (fB s) L U) (n : Int) (a : Nat) (ha : a < 18446744073709551616) (hl : U.length + cnt n ≤ 1000) :
    Calls Try.prog 12 #[.pointer (some ⟨q, 0, none⟩), .int .i64 n, .int .u64 (a : Int)] w (RrPost w q s u U L n a) := by
  cases hk : askOk n a with
  | false => exact rrun_bad h n a hk
  | true =>
    obtain ⟨h1, h2, _, _⟩ := askOk_iff.1 hk
    obtain ⟨m, rfl⟩ := Int.eq_ofNat_of_zero_le (show 0 ≤ n by omega)
    refine rrun_ok h hs hR m a hk ha ?_
    unfold cnt at hl
    rw [if_pos ⟨by omega, by omega⟩] at hl
    exact hl
end Go.Proofs.Ytmhhckpdhjnmeaa
