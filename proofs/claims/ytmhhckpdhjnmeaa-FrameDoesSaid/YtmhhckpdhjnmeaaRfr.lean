/- The reference's pool: has, Has, Frames, Run. -/
import Derived.Test.YtmhhckpdhjnmeaaAk
import Derived.Test.YtmhhckpdhjnmeaaTwoB
namespace Go.Proofs.Ytmhhckpdhjnmeaa
open Go.RowKit
attribute [local go_sem ↓ high] builtin_appS

structure RP (w : World) (q : Nat) (s : Sp) (u : Value) (U : List Nat) : Prop where
  blk : Blk w q 33 #[.int .u64 (s.1 : Int), .int .u64 (s.2 : Int), u]
  own : w.ownsRow 0 22 1 u U.length (u64s U)
  ne : u.ownBlock ≠ some q
section
variable {w w' : World} {q : Nat} {u : Value} {s : Sp} {U : List Nat}
theorem RP.same (h : RP w q s u U) (hs : ∀ k, FpC q u k → w'.heap[k]? = w.heap[k]?) : RP w' q s u U :=
  ⟨(hs q (.inl rfl)).trans h.blk, owns_same h.own fun k hk => hs k (.inr hk), h.ne⟩
theorem RP.lt (h : RP w q s u U) {k : Nat} (hk : FpC q u k) : k < w.heap.size := by
  rcases hk with rfl | hk
  · exact h.blk.lt
  · exact (World.ownsRow.lt h.own k hk).2
theorem RP.turn {G : Nat → Prop} (h : RP w q s u U) (k : Turn G w w') (hd : ∀ i, FpC q u i → ¬ G i) : RP w' q s u U := h.same fun i hi => k.block i (h.lt hi) (hd i hi)
theorem RP.under (h : RP w q s u U) (k : Below w.heap.size w w') : RP w' q s u U := h.same fun i hi => k.block i (h.lt hi)
theorem RP.c0 (h : RP w q s u U) : w.cell? ⟨q, 0, none⟩ = some (.int .u64 (s.1 : Int)) := h.blk.cellAt 0 rfl
theorem RP.c1 (h : RP w q s u U) : w.cell? ⟨q, 1, none⟩ = some (.int .u64 (s.2 : Int)) := h.blk.cellAt 1 rfl
theorem RP.c2 (h : RP w q s u U) : w.cell? ⟨q, 2, none⟩ = some u := h.blk.cellAt 2 rfl
theorem RP.form (h : RP w q s u U) : ∃ A c, u = .slice A U.length c ∧ Lies w w.heap.size 1 A U.length (u64s U) := by
  rcases h.own.2 with ⟨rfl, h0⟩ | ⟨g, cap, cur, rfl, _, hg, _⟩
  · have : U = [] := List.eq_nil_of_length_eq_zero h0
    subst this
    exact ⟨none, 0, rfl, Lies.nil _ _ _ _⟩
  · refine ⟨_, cap, rfl, by simp [u64s], fun _ => ⟨_, rfl, (Array.getElem?_eq_some_iff.1 hg).1, fun j hj => ?_⟩⟩
    exact h.own.cells (g := g) rfl j _ (List.getElem?_eq_getElem hj)
set_option maxRecDepth 100000 in
set_option maxHeartbeats 1000000 in
theorem rhas_any (h : RP w q s u U) (hl : U.length ≤ 1000000) (x : Nat) :
    Calls Try.prog 28 #[.pointer (some ⟨q, 0, none⟩), .int .u64 (x : Int)] w fun e w' => e = .returned (.bool (decide (x ∈ U))) ∧ w' = w := by
  obtain ⟨A, c, rfl, hL⟩ := h.form
  have c2 := h.c2
  have HL := Lib.hid hL
  obtain ⟨Q, hQ⟩ : ∃ Q, Q = fun (e : Ending) (w' : World) => e = .returned (.bool (decide (x ∈ U))) ∧ w' = w := ⟨_, rfl⟩
  rw [← hQ]
  have HQ := Lib.hid hQ
  clear h hL hQ
  go_enter Try.func28, Try.ntmps28
  go_wp2
  go_loopw [12] (fun i wr => ∃ k : Nat, k ≤ U.length ∧ i = .int .i64 k ∧ Hid (x ∉ U.take k ∧ wr = w)) (fun i _ => U.length - (intOf i).toNat)
  case atStart => exact ⟨0, Nat.zero_le _, rfl, Lib.hid ⟨by simp, rfl⟩⟩
  case round =>
    obtain ⟨k, hk, rfl, hN⟩ := hrel
    by_cases hlt : k < U.length
    · obtain ⟨a, hx, rfl, hab, hc⟩ := (show Lies wr w.heap.size 1 A U.length (u64s U) by rw [hN.out.2]; exact HL.out).at1 hlt
      have hy : (u64s U)[k] = .int .u64 (U[k] : Int) := by simp [u64s]
      obtain ⟨y, hyy⟩ : ∃ y, y = U[k] := ⟨_, rfl⟩
      rw [hy, ← hyy] at hc
      have HY := Lib.hid hyy
      have hts : U.take (k + 1) = U.take k ++ [y] := by rw [hyy]; exact List.take_succ_eq_append_getElem hlt
      by_cases hxy : y = x
      · have hin : x ∈ U := by rw [← hxy, hyy]; exact List.getElem_mem hlt
        have hE := Lib.hid (decide_eq_true hin)
        subst hxy
        clear hx hab hy hyy hin hts
        go_wp2
        rw [HQ.out]
        exact ⟨by rw [hE.out]; rfl, hN.out.2⟩
      · have hne : ((y : Int) == (x : Int)) = false := by simp; omega
        have HN2 : Hid (x ∉ U.take (k + 1) ∧ wr = w) := Lib.hid ⟨by rw [hts]; simp only [List.mem_append, List.mem_singleton, not_or]; exact ⟨hN.out.1, fun e => hxy e.symm⟩, hN.out.2⟩
        clear hx hab hy hyy hts hxy
        go_wp2
        go_roundw
        case rel => exact ⟨k + 1, by omega, by simp, HN2⟩
        case measure => simp [intOf]; omega
    · obtain rfl : k = U.length := by omega
      have hE := Lib.hid (decide_eq_false (p := x ∈ U) (by have := hN.out.1; rwa [List.take_length] at this))
      go_wp2
      rw [HQ.out]
      exact ⟨by rw [hE.out]; rfl, hN.out.2⟩
theorem rHas_any (h : RP w q s u U) (hl : U.length ≤ 1000000) (x : Nat) (hx : x < TT) :
    Calls Try.prog 14 #[.pointer (some ⟨q, 0, none⟩), .int .u64 (x : Int)] w fun e w' => e = .returned (.bool (decide (x / 4096 * 4096 ∈ U))) ∧ w' = w := by
  obtain ⟨y, hy⟩ : ∃ y, y = x / 4096 * 4096 := ⟨_, rfl⟩
  have hw : IntKind.u64.wrap ((x : Int) / 4096 * 4096) = (y : Int) := by unfold TT at hx; simp [IntKind.wrap, IntKind.bits, IntKind.signed]; omega
  have hw0 : IntKind.u64.wrap ((x : Int) / 4096) = (x : Int) / 4096 := by unfold TT at hx; simp [IntKind.wrap, IntKind.bits, IntKind.signed]; omega
  have HH := Lib.hid (rhas_any h hl y)
  rw [← hy]
  clear h hy hx
  go_enter Try.func14, Try.ntmps14
  go_wp2_with (go_at_call 28; refine HH.out.mono ?_; rintro e w1 ⟨rfl, hw1⟩; have H1 := Lib.hid hw1; clear hw1)
  go_ret
  exact ⟨rfl, H1.out⟩
set_option maxRecDepth 100000 in
set_option maxHeartbeats 1000000 in
theorem rframes_any (h : RP w q s u U) (hs : fit s) :
    Calls Try.prog 10 #[.pointer (some ⟨q, 0, none⟩)] w fun e w' => e = .returned (.tuple #[.int .u64 ((fB s).1 : Int), .int .u64 (((fB s).2 / 4096 : Nat) : Int)]) ∧ Below w.heap.size w w' := by
  obtain ⟨s1, s2⟩ := s
  have HC : Hid (∀ X, Below w.heap.size w X → X.cell? ⟨q, 0, none⟩ = some (.int .u64 (s1 : Int)) ∧ X.cell? ⟨q, 1, none⟩ = some (.int .u64 (s2 : Int))) := Lib.hid fun X hX => ⟨(h.under hX).c0, (h.under hX).c1⟩
  have c0 := h.c0
  have c1 := h.c1
  have HG := Lib.hid (fun X => rgood_bel s1 s2 hs X)
  have HLA := Lib.hid (fun X => rlast_bel s1 s2 hs X)
  obtain ⟨F, hF⟩ : ∃ F, F = (fB (s1, s2)).1 := ⟨_, rfl⟩
  obtain ⟨C, hC⟩ : ∃ C, C = (fB (s1, s2)).2 / 4096 := ⟨_, rfl⟩
  rw [← hF, ← hC]
  have HUP := Lib.hid (fun X => rup_any s1 4096 hs.1 (by decide) X)
  have hu := up_alu (n := s1) (a := 4096) hs.1 (by decide)
  have hb := alu_bounds s1 (a := 4096) (by decide)
  have HX : Hid (Below w.heap.size w w) := Lib.hid (Below.refl _ _)
  cases hg : good (s1, s2) with
  | false =>
    rw [hg] at HG
    have hfb : fB (s1, s2) = (0, 0) := by unfold fB; rw [if_neg (by rw [hg]; simp)]
    obtain rfl : F = 0 := by rw [hF, hfb]
    obtain rfl : C = 0 := by rw [hC, hfb]; rfl
    clear h hs hF hC hu hb hg hfb
    go_enter Try.func10, Try.ntmps10
    go_wp2_with (go_at_call 22; refine (HG.out _).mono ?_; rintro e w1 ⟨rfl, hd⟩; have H1 := Lib.hid hd; clear hd)
    go_ret2
    exact ⟨rfl, H1.out⟩
  | true =>
    rw [hg] at HG
    have hgi := (good_iff _).1 hg
    have hlg := last_good hg
    simp only at hgi hlg
    obtain ⟨la, hla⟩ : ∃ la, la = last (s1, s2) := ⟨_, rfl⟩
    rw [← hla] at HLA hlg
    obtain ⟨t, ht⟩ : ∃ t, t = upN s1 4096 := ⟨_, rfl⟩
    obtain ⟨z, hz⟩ : ∃ z, z = upIs s1 4096 := ⟨_, rfl⟩
    rw [← ht, ← hz] at HUP hu
    cases z with
    | false =>
      have hfb : fB (s1, s2) = (0, 0) := by
        have := of_decide_eq_false hu.1.symm
        unfold TT at this
        unfold fB
        rw [if_neg (by simp only; omega)]
      obtain rfl : F = 0 := by rw [hF, hfb]
      obtain rfl : C = 0 := by rw [hC, hfb]; rfl
      clear h hs hF hC hu hb hg hfb hgi hlg hla ht hz
      go_enter Try.func10, Try.ntmps10
      go_wp2_with (first
        | (go_at_call 22; refine (HG.out _).mono ?_; rintro e w1 ⟨rfl, hd⟩; have H1 := Lib.hid hd; have d0 := (HC.out w1 hd).1; have d1 := (HC.out w1 hd).2; clear hd)
        | (go_at_call 23; refine (HUP.out _).mono ?_; rintro e w2 ⟨rfl, rfl⟩))
      go_ret2
      exact ⟨rfl, H1.out⟩
    | true =>
      have hlt := of_decide_eq_true hu.1.symm
      have hta := hu.2 hlt
      by_cases hgt : la < t
      · have hfb : fB (s1, s2) = (0, 0) := by
          unfold fB
          rw [if_neg (by simp only; omega)]
        obtain rfl : F = 0 := by rw [hF, hfb]
        obtain rfl : C = 0 := by rw [hC, hfb]; rfl
        have hgt' : (la : Int) < (t : Int) := by omega
        clear h hs hF hC hu hb hg hfb hgi hlg hla ht hz hlt hta hgt
        go_enter Try.func10, Try.ntmps10
        go_wp2_with (first
          | (go_at_call 22; refine (HG.out _).mono ?_; rintro e w1 ⟨rfl, hd⟩; have H1 := Lib.hid hd; have d0 := (HC.out w1 hd).1; have d1 := (HC.out w1 hd).2; clear hd)
          | (go_at_call 23; refine (HUP.out _).mono ?_; rintro e w2 ⟨rfl, rfl⟩)
          | (go_at_call 24; refine (HLA.out _).mono ?_; rintro e w3 ⟨rfl, hd⟩; have H3 := Lib.hid (H1.out.trans (hd.mono H1.out.size)); clear hd))
        go_ret2
        exact ⟨rfl, H3.out⟩
      · have hfb : fB (s1, s2) = (t, (s1 + s2 - t) / 4096 * 4096) := by
          unfold fB
          rw [if_pos ⟨hg, by simp only; omega⟩]
          simp only
          rw [hta]
        have hF2 : F = t := by rw [hF, hfb]
        have hC2 : C = (s1 + s2 - t) / 4096 := by rw [hC, hfb]; simp only; omega
        subst hF2
        have hgt' : ¬ ((la : Int) < (F : Int)) := by omega
        have hw1 : IntKind.u64.wrap ((la : Int) - (F : Int)) = (la : Int) - (F : Int) := by simp [IntKind.wrap, IntKind.bits, IntKind.signed]; omega
        have hlm : la + 1 - F < 18446744073709551616 := by have := hs.2; simp only at this; omega
        obtain ⟨D, hD⟩ : ∃ D, D = la + 1 - F := ⟨_, rfl⟩
        have hw2 : IntKind.u64.wrap ((la : Int) - (F : Int) + 1) = (D : Int) := by simp [IntKind.wrap, IntKind.bits, IntKind.signed]; omega
        have hDl : D < 18446744073709551616 := by omega
        have hw3 : IntKind.u64.wrap ((D : Int) / 4096) = (C : Int) := by simp [IntKind.wrap, IntKind.bits, IntKind.signed]; omega
        clear h hs hF hC hu hb hg hfb hgi hlg hla ht hz hlt hta hgt hC2 hlm hD
        go_enter Try.func10, Try.ntmps10
        go_wp2_with (first
          | (go_at_call 22; refine (HG.out _).mono ?_; rintro e w1 ⟨rfl, hd⟩; have H1 := Lib.hid hd; have d0 := (HC.out w1 hd).1; have d1 := (HC.out w1 hd).2; clear hd)
          | (go_at_call 23; refine (HUP.out _).mono ?_; rintro e w2 ⟨rfl, rfl⟩)
          | (go_at_call 24; refine (HLA.out _).mono ?_; rintro e w5 ⟨rfl, hd⟩; have H5 := Lib.hid (H3.out.trans (hd.mono H3.out.size)); clear hd)
          | (go_at_call 24; refine (HLA.out _).mono ?_; rintro e w3 ⟨rfl, hd⟩; have H3 := Lib.hid (H1.out.trans (hd.mono H1.out.size)); have d0 := (HC.out w3 H3.out).1; have d1 := (HC.out w3 H3.out).2; clear hd))
        go_ret2
        exact ⟨rfl, H5.out⟩
end
end Go.Proofs.Ytmhhckpdhjnmeaa
