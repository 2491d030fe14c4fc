/- frame: the bounds of a span; held, inside, total; New. -/
import Derived.Test.YtmhhckpdhjnmeaaFa
import Derived.Test.YtmhhckpdhjnmeaaVs9
namespace Go.Proofs.Ytmhhckpdhjnmeaa
open Go.RowKit

theorem below_alloc1 (Y : World) (o : Obj) : Below Y.heap.size Y (Y.alloc o) := (Below.refl _ _).alloc (Nat.le_refl _) _
theorem row_lit (w : World) (a b : Nat) : Row (w.alloc (spo a b)) (w.heap.size + 1) (some ⟨w.heap.size, 0, none⟩) [(a, b)] := fun _ =>
  ⟨_, rfl, Nat.lt_succ_self _, fun j hj => by
    have : j = 0 := by simpa using hj
    subst this
    constructor <;> simp [Addr.add]⟩
theorem PC.new {w : World} {v : Value} {b : Sp} {L : List Sp} (h : OwnS w 0 v L) : PC (w.alloc (.cells #[.int .u64 (b.1 : Int), .int .u64 (b.2 : Int), v] 58)) w.heap.size v b L := by
  refine ⟨Blk.new _ _ _ rfl, h.below (below_alloc1 _ _), fun e => ?_⟩
  have := (World.ownsRow.lt h _ e).2
  omega
/-- What boundsOf answers, by its ways. -/
theorem bounds_no {s1 s2 : Nat} (hs : fit (s1, s2)) (h : upIs s1 4096 = false ∨ has (s1, s2) (upN s1 4096) = false) : fB (s1, s2) = (0, 0) := by
  have hu := up_alu (n := s1) (a := 4096) hs.1 (by decide)
  have hb := alu_bounds s1 (a := 4096) (by decide)
  unfold fB
  apply if_neg
  rintro ⟨k1, k2⟩
  have hg := (good_iff _).1 k1
  simp only at k2 hg
  have hlt : alu s1 4096 < TT := by unfold TT; omega
  rcases h with h | h
  · rw [hu.1] at h; exact absurd hlt (of_decide_eq_false h)
  · rw [hu.2 hlt, ← Bool.not_eq_true, has_iff] at h
    exact h ⟨k1, by simp only; omega, by simp only; omega⟩
theorem bounds_yes {s1 s2 : Nat} (hs : fit (s1, s2)) (h1 : upIs s1 4096 = true) (h2 : has (s1, s2) (upN s1 4096) = true) :
    good (s1, s2) = true ∧ s1 ≤ upN s1 4096 ∧ upN s1 4096 < s1 + s2 ∧ fB (s1, s2) = (upN s1 4096, downN (s2 - (upN s1 4096 - s1)) 4096) := by
  have hu := up_alu (n := s1) (a := 4096) hs.1 (by decide)
  have hlt : alu s1 4096 < TT := of_decide_eq_true (hu.1.symm.trans h1)
  rw [hu.2 hlt] at h2 ⊢
  obtain ⟨k1, k2, k3⟩ := (has_iff _ _).1 h2
  refine ⟨k1, k2, k3, ?_⟩
  unfold fB
  rw [if_pos ⟨k1, k3⟩]
  refine Prod.ext rfl ?_
  simp only at k2 k3 ⊢
  unfold downN
  rw [if_neg (by decide)]
  omega
theorem infoBd : (Try.prog.info? 54).map (·.size) = some 2 := by kernel_rfl
set_option maxRecDepth 100000 in
set_option maxHeartbeats 4000000 in
theorem bounds_any (s1 s2 : Nat) (hs : fit (s1, s2)) (w : World) :
    Calls Try.prog 20 #[.agg #[.int .u64 (s1 : Int), .int .u64 (s2 : Int)]] w fun e w' => e = .returned (.agg #[.int .u64 ((fB (s1, s2)).1 : Int), .int .u64 ((fB (s1, s2)).2 : Int)]) ∧ Below w.heap.size w w' := by
  obtain ⟨V, hV⟩ : ∃ V, V = (w.alloc (spo s1 s2)).alloc (.cells #[.int .u64 0, .int .u64 0] 54) := ⟨_, rfl⟩
  have HV := Lib.hid hV
  have hB0 : Blk V w.heap.size 24 #[.int .u64 (s1 : Int), .int .u64 (s2 : Int)] := by rw [hV]; exact (Blk.new _ _ _ rfl).alloc _
  have hR0 : Blk V (w.heap.size + 1) 54 #[.int .u64 0, .int .u64 0] := by rw [hV]; exact Blk.new _ _ _ (by simp)
  have hBV : Below w.heap.size w V := by rw [hV]; exact Laid.below ⟨[_, _], rfl⟩
  have HAt : Hid (∀ X, Below V.heap.size V X → X.cell? ⟨w.heap.size, 0, none⟩ = some (.int .u64 (s1 : Int)) ∧ X.cell? ⟨w.heap.size, 1, none⟩ = some (.int .u64 (s2 : Int)) ∧ Blk X (w.heap.size + 1) 54 #[.int .u64 0, .int .u64 0] ∧ Below w.heap.size w X) := Lib.hid fun X hX =>
    ⟨(hB0.under hX).cellAt 0 rfl, (hB0.under hX).cellAt 1 rfl, hR0.under hX, hBV.trans (hX.mono hBV.size)⟩
  obtain ⟨t, ht⟩ : ∃ t, t = upN s1 4096 := ⟨_, rfl⟩
  obtain ⟨z, hz⟩ : ∃ z, z = upIs s1 4096 := ⟨_, rfl⟩
  have htl : t < TT := by rw [ht]; exact up_lt s1 4096 hs.1
  have HU := Lib.hid (fun X => up_any s1 4096 hs.1 (by decide) X)
  have HH := Lib.hid (fun X => has_bel s1 s2 t hs X)
  obtain ⟨q, hq⟩ : ∃ q, q = has (s1, s2) t := ⟨_, rfl⟩
  rw [← hq] at HH
  rw [← ht, ← hz] at HU
  have hno := bounds_no hs
  have hyes := bounds_yes hs
  rw [← ht, ← hz, ← hq] at hno hyes
  obtain ⟨B, hB⟩ : ∃ B, B = fB (s1, s2) := ⟨_, rfl⟩
  rw [← hB] at hno hyes ⊢
  have hD := fun X => fun n (hn : n < two64) => down_any n 4096 hn (by decide) X
  have HD := Lib.hid hD
  have hs1 := hs.1
  have hs2 := hs.2
  simp only at hs1 hs2
  clear hs hB0 hR0 hBV ht hz hq hB hV hD
  obtain ⟨c0, c1, -, -⟩ := HAt.out V (Below.refl _ _)
  rw [HV.out] at c0 c1
  cases z with
  | false =>
    obtain rfl := hno (.inl rfl)
    clear hno hyes
    go_enter Try.func20, Try.ntmps20
    go_wp2_with (first
      | (go_at_call 34; refine (HU.out _).mono ?_; rintro e w1 ⟨rfl, hd⟩; rw [← HV.out] at hd; obtain ⟨-, -, hr1, hb1⟩ := HAt.out w1 hd; have HR1 := Lib.hid hr1; have HB1 := Lib.hid hb1; clear hd hr1 hb1)
      | ((with_reducible show wpList _ _ _ (Oper.mk _ (.store _ _ _) _ _ _ _ :: _) _ _); refine wl_store rfl 54 _ _ rfl _ rfl _ rfl (Blk.store HR1.out #[.int .u64 0, .int .u64 0] rfl infoBd rfl) ?_))
    exact bodyPost_ret (results_cell1 rfl _ _ _ rfl (Blk.load (Blk.row HR1.out _) Try.underlying54 rfl infoBd)) rfl ⟨rfl, below_row HB1.out (by omega) _⟩
  | true =>
    cases q with
    | false =>
      obtain rfl := hno (.inr rfl)
      clear hno hyes
      go_enter Try.func20, Try.ntmps20
      go_wp2_with (first
        | (go_at_call 34; refine (HU.out _).mono ?_; rintro e w1 ⟨rfl, hd⟩; rw [← HV.out] at hd; have HD1 := Lib.hid hd; obtain ⟨c0, c1, -, -⟩ := HAt.out w1 hd; clear hd)
        | (go_at_call 31; refine (HH.out _).mono ?_; rintro e w2 ⟨rfl, hd⟩; obtain ⟨-, -, hr1, hb1⟩ := HAt.out w2 (HD1.out.trans (hd.mono HD1.out.size)); have HR1 := Lib.hid hr1; have HB1 := Lib.hid hb1; clear hd hr1 hb1)
        | ((with_reducible show wpList _ _ _ (Oper.mk _ (.store _ _ _) _ _ _ _ :: _) _ _); refine wl_store rfl 54 _ _ rfl _ rfl _ rfl (Blk.store HR1.out #[.int .u64 0, .int .u64 0] rfl infoBd rfl) ?_))
      exact bodyPost_ret (results_cell1 rfl _ _ _ rfl (Blk.load (Blk.row HR1.out _) Try.underlying54 rfl infoBd)) rfl ⟨rfl, below_row HB1.out (by omega) _⟩
    | true =>
      obtain ⟨k1, k2, k3, rfl⟩ := hyes rfl rfl
      clear hno hyes
      obtain ⟨left, hleft⟩ : ∃ left, left = s2 - (t - s1) := ⟨_, rfl⟩
      have hw1 : IntKind.u64.wrap ((t : Int) - (s1 : Int)) = (t : Int) - (s1 : Int) := by simp [IntKind.wrap, IntKind.bits, IntKind.signed]; unfold TT at htl; omega
      have hw2 : IntKind.u64.wrap ((s2 : Int) - ((t : Int) - (s1 : Int))) = (left : Int) := by simp [IntKind.wrap, IntKind.bits, IntKind.signed]; omega
      have hll : left < two64 := by unfold two64; omega
      have HDD : Hid (∀ X, Calls Try.prog 35 #[.int .u64 (left : Int), .int .u64 4096] X fun e w' => e = .returned (.int .u64 (downN left 4096 : Nat)) ∧ X = w') := Lib.hid fun X => HD.out X left hll
      rw [← hleft]
      obtain ⟨d, hd0⟩ : ∃ d, d = downN left 4096 := ⟨_, rfl⟩
      rw [← hd0] at HDD ⊢
      clear hd0 hleft k1 k2 k3 hll
      go_enter Try.func20, Try.ntmps20
      go_wp2_with (first
        | (go_at_call 34; refine (HU.out _).mono ?_; rintro e w1 ⟨rfl, hd⟩; rw [← HV.out] at hd; have HD1 := Lib.hid hd; obtain ⟨c0, c1, -, -⟩ := HAt.out w1 hd; clear hd)
        | (go_at_call 31; refine (HH.out _).mono ?_; rintro e w2 ⟨rfl, hd⟩; obtain ⟨c0, c1, hr1, hb1⟩ := HAt.out w2 (HD1.out.trans (hd.mono HD1.out.size)); have HR1 := Lib.hid hr1; have HB1 := Lib.hid hb1; clear hd hr1 hb1)
        | (go_at_call 35; refine (HDD.out _).mono ?_; rintro e w3 ⟨rfl, rfl⟩)
        | ((with_reducible show wpList _ _ _ (Oper.mk _ (.store _ _ _) _ _ _ _ :: _) _ _); refine wl_store rfl 54 _ _ rfl _ rfl _ rfl (Blk.store HR1.out #[.int .u64 (t : Int), .int .u64 (d : Int)] rfl infoBd rfl) ?_))
      exact bodyPost_ret (results_cell1 rfl _ _ _ rfl (Blk.load (Blk.row HR1.out _) Try.underlying54 rfl infoBd)) rfl ⟨rfl, below_row HB1.out (by omega) _⟩
theorem held_any (p : Nat) (w : World) : Calls Try.prog 26 #[.pointer (some ⟨p, 0, none⟩)] w fun e w' => e = .returned (.pointer (some ⟨p, 0, none⟩)) ∧ w = w' := by
  go_enter Try.func26, Try.ntmps26
  go_wp2
  go_ret
  exact ⟨rfl, rfl⟩
theorem held_nil (w : World) : Calls Try.prog 26 #[.pointer none] w fun e w' => e = .returned (.pointer (some ⟨w.heap.size, 0, none⟩)) ∧ PC w' w.heap.size (.slice none 0 0) (0, 0) [] ∧ Below w.heap.size w w' := by
  have hp : PC (w.alloc (.cells #[.int .u64 0, .int .u64 0, .slice none 0 0] 58)) w.heap.size (.slice none 0 0) (0, 0) [] := PC.new (b := (0, 0)) ⟨rfl, .inl ⟨rfl, rfl⟩⟩
  have HP := Lib.hid hp
  clear hp
  go_enter Try.func26, Try.ntmps26
  go_wp2
  go_ret
  exact ⟨rfl, HP.out, below_alloc1 _ _⟩
set_option maxRecDepth 100000 in
theorem inside_any {w : World} {p : Nat} {v : Value} {b : Sp} {L : List Sp} (h : PC w p v b L) (hb : fit b) (x : Nat) : Calls Try.prog 29 #[.pointer (some ⟨p, 0, none⟩), .int .u64 (x : Int)] w fun e w' => e = .returned (.bool (has b x)) ∧ Below w.heap.size w w' := by
  have c0 := h.c0
  have c1 := h.c1
  have HH := Lib.hid (has_bel b.1 b.2 x hb w)
  obtain ⟨b1, b2⟩ := b
  clear h hb
  go_enter Try.func29, Try.ntmps29
  go_wp2_with (go_at_call 31; refine HH.out.mono ?_; rintro e w2 ⟨rfl, hd⟩; have HD := Lib.hid hd; clear hd)
  go_ret
  exact ⟨rfl, HD.out⟩
theorem total_any {w : World} {p : Nat} {v : Value} {b : Sp} {L : List Sp} (h : PC w p v b L) (hb : fit b) : Calls Try.prog 32 #[.pointer (some ⟨p, 0, none⟩)] w fun e w' => e = .returned (.int .u64 ((b.2 / 4096 : Nat) : Int)) ∧ w = w' := by
  have c1 := h.c1
  have hb2 := hb.2
  have hw : IntKind.u64.wrap ((b.2 : Int) / 4096) = ((b.2 / 4096 : Nat) : Int) := by simp [IntKind.wrap, IntKind.bits, IntKind.signed]; omega
  have HW := Lib.hid hw
  clear h hb
  go_enter Try.func32, Try.ntmps32
  go_wp2
  go_ret
  exact ⟨by congr 1, rfl⟩
set_option maxRecDepth 100000 in
set_option maxHeartbeats 4000000 in
theorem new_any (s1 s2 : Nat) (hs : fit (s1, s2)) (w : World) :
    Calls Try.prog 9 #[.agg #[.int .u64 (s1 : Int), .int .u64 (s2 : Int)]] w fun e w' =>
      ∃ p v, e = .returned (.pointer (some ⟨p, 0, none⟩)) ∧ PC w' p v (fB (s1, s2)) (startL (fB (s1, s2))) ∧ (∀ k, FpC p v k → w.heap.size ≤ k) ∧ Below w.heap.size w w' := by
  have hok := fB_ok hs
  have HBO := Lib.hid (bounds_any s1 s2 hs)
  have HM : Hid ((∀ x ∈ [fB (s1, s2)], fit x) ∧ (allB [fB (s1, s2)]).length ≤ 12 ∧ mergeS [fB (s1, s2)] = startL (fB (s1, s2))) := Lib.hid ⟨fun x hx => by
    simp at hx
    subst hx
    exact ⟨hok.bl, hok.lt⟩, by
    have := ends_len [fB (s1, s2)]
    simp at this
    unfold allB
    simp
    omega, merge_start hok⟩
  obtain ⟨B, hB⟩ : ∃ B, B = fB (s1, s2) := ⟨_, rfl⟩
  rw [← hB] at HBO HM ⊢
  obtain ⟨b1, b2⟩ := B
  obtain ⟨S, hS0⟩ : ∃ S, S = startL (b1, b2) := ⟨_, rfl⟩
  rw [← hS0] at HM ⊢
  have HN := HM
  clear hok hs hB hS0 HM
  go_enter Try.func9, Try.ntmps9
  go_upto_region 2 with (go_at_call 20; refine (HBO.out _).mono ?_; rintro e w1 ⟨rfl, hd⟩; have H1 := Lib.hid hd; clear hd)
  obtain ⟨V, hV⟩ : ∃ V, V = w1.alloc (.cells #[.int .u64 (b1 : Int), .int .u64 (b2 : Int)] 54) := ⟨_, rfl⟩
  have HB : Hid (Blk V w1.heap.size 54 #[.int .u64 (b1 : Int), .int .u64 (b2 : Int)]) := Lib.hid (by rw [hV]; exact Blk.new _ _ _ rfl)
  have HBV : Hid (Below w.heap.size w V) := Lib.hid (by
    have h1 : Below w.heap.size w w1 := (below_alloc1 w (spo s1 s2)).trans (H1.out.mono (by simp))
    rw [hV]; exact h1.alloc h1.size _)
  rw [← hV]
  obtain ⟨Y0, hY0⟩ : ∃ Y0, Y0 = V.drew := ⟨_, rfl⟩
  clear hV H1
  refine wp_region_held_drew (S := fun Y => VS V Y) (by kernel_rfl) (VS.begin V) (fun hS => ?_)
  rw [← hY0] at hS ⊢
  clear hY0
  (refine held_take (i := 0) (oi := ?ot1) (v := ?vt1) ?at1 (by kernel_rfl) (by kernel_rfl) (by kernel_rfl) ?bt1 ?ct1 ?dt1 (by assumption) ?rt1; (case at1 => (simp only [List.getElem?_toArray, List.getElem?_cons_zero]; rfl)); (case bt1 => exact fun _ _ _ h => h); (case ct1 => kernel_rfl); (case dt1 => (intro W hW; have b0 := HB.out.under hW; have c0 := b0.cellAt 0 rfl; have c1 := b0.cellAt 1 rfl; clear b0 hW; go_simp; (try with_reducible rfl))); (case' rt1 => simp only [Act.put, List.setIfInBounds_toArray, List.set_cons_zero, List.set_cons_succ]))
  (refine held_take (i := 1) (oi := ?ot2) (v := ?vt2) ?at2 (by kernel_rfl) (by kernel_rfl) (by kernel_rfl) ?bt2 ?ct2 ?dt2 (by assumption) ?rt2; (case at2 => (simp only [List.getElem?_toArray, List.getElem?_cons_zero, List.getElem?_cons_succ]; rfl)); (case bt2 => exact fun _ _ _ h => h); (case ct2 => kernel_rfl); (case dt2 => (intro W hW; (try dsimp only at hW); go_split_ands; go_simp; (try with_reducible rfl))); (case' rt2 => simp only [Act.put, List.setIfInBounds_toArray, List.set_cons_zero, List.set_cons_succ]))
  (refine held_take (i := 2) (oi := ?ot3) (v := ?vt3) ?at3 (by kernel_rfl) (by kernel_rfl) (by kernel_rfl) ?bt3 ?ct3 ?dt3 (by assumption) ?rt3; (case at3 => (simp only [List.getElem?_toArray, List.getElem?_cons_zero, List.getElem?_cons_succ]; rfl)); (case bt3 => exact fun _ _ _ h => h); (case ct3 => kernel_rfl); (case dt3 => (intro W hW; have b0 := HB.out.under hW; have c0 := b0.cellAt 0 rfl; have c1 := b0.cellAt 1 rfl; clear b0 hW; go_simp; (try with_reducible rfl))); (case' rt3 => simp only [Act.put, List.setIfInBounds_toArray, List.set_cons_zero, List.set_cons_succ]))
  refine held_one (i := 3) (oi := ?ot4) (by kernel_rfl) ?at4 ?ct4 (fun K3 hK3 => ?_)
  (case at4 => (simp only [List.getElem?_toArray, List.getElem?_cons_zero, List.getElem?_cons_succ]; rfl))
  (case ct4 => kernel_rfl)
  have hSb := hS
  go_simp
  have hd : Below Y0.heap.size Y0 (Y0.alloc (spo b1 b2)) := below_alloc1 _ _
  have hrow := row_lit Y0 b1 b2
  rw [← show (Y0.alloc (spo b1 b2)).heap.size = Y0.heap.size + 1 by simp] at hrow
  obtain ⟨y3, hy3⟩ : ∃ y, y = Y0.alloc (spo b1 b2) := ⟨_, rfl⟩
  rw [← hy3] at hd hrow ⊢
  have HR3 := Lib.hid hrow
  refine hK3 _ _ (VS.keep hSb hd) (fun hS3 => ?_)
  clear hS hSb hd hrow hy3 hK3 K3
  refine held_one (i := 4) (oi := ?ot5) (by kernel_rfl) ?at5 ?ct5 (fun K4 hK4 => ?_)
  (case at5 => (simp only [List.getElem?_toArray, List.getElem?_cons_zero, List.getElem?_cons_succ]; rfl))
  (case ct5 => kernel_rfl)
  have hSb := hS3
  go_simp
  refine (merge_any 12 sorts12 _ 1 [(b1, b2)] HN.out.1 (by simp) HN.out.2.1 y3 HR3.out).mono ?_
  rintro e y4 ⟨v, rfl, ho, hd⟩
  rw [HN.out.2.2] at ho
  obtain ⟨A, cc, rfl, -⟩ := ho.row
  have HO := Lib.hid (ho.low (Nat.le_trans HBV.out.size (show Below V.heap.size V y3 from hSb).size))
  refine hK4 _ _ (VS.keep hSb hd) (fun hS4 => ?_)
  clear hS3 hSb hd ho hK4 K4
  (refine held_take (i := 5) (oi := ?ot6) (v := ?vt6) ?at6 (by kernel_rfl) (by kernel_rfl) (by kernel_rfl) ?bt6 ?ct6 ?dt6 (by assumption) ?rt6; (case at6 => (simp only [List.getElem?_toArray, List.getElem?_cons_zero, List.getElem?_cons_succ]; rfl)); (case bt6 => exact fun _ _ _ h => h); (case ct6 => kernel_rfl); (case dt6 => (intro W hW; (try dsimp only at hW); go_split_ands; go_simp; (try with_reducible rfl))); (case' rt6 => simp only [Act.put, List.setIfInBounds_toArray, List.set_cons_zero, List.set_cons_succ]))
  refine held_one (i := 6) (oi := ?ot7) (by kernel_rfl) ?at7 ?ct7 (fun K6 hK6 => ?_)
  (case at7 => (simp only [List.getElem?_toArray, List.getElem?_cons_zero, List.getElem?_cons_succ]; rfl))
  (case ct7 => kernel_rfl)
  have hSb := hS4
  go_simp
  have hd : Below y4.heap.size y4 (y4.alloc (.cells #[.int .u64 (b1 : Int), .int .u64 (b2 : Int), .slice A S.length cc] 58)) := below_alloc1 _ _
  have hpc := PC.new (HO.out.low (Nat.zero_le _)) (b := (b1, b2))
  obtain ⟨y6, hy6⟩ : ∃ y, y = y4.alloc (.cells #[.int .u64 (b1 : Int), .int .u64 (b2 : Int), .slice A S.length cc] 58) := ⟨_, rfl⟩
  rw [← hy6] at hd hpc ⊢
  have HPC := Lib.hid hpc
  have HY := Lib.hid (show w.heap.size ≤ y4.heap.size from Nat.le_trans HBV.out.size (show Below V.heap.size V y4 from hSb).size)
  refine hK6 _ _ (VS.keep hSb hd) (fun hS6 => ?_)
  clear hS4 hSb hd hpc hy6 hK6 K6
  (refine held_take (i := 7) (oi := ?ot8) (v := ?vt8) ?at8 (by kernel_rfl) (by kernel_rfl) (by kernel_rfl) ?bt8 ?ct8 ?dt8 (by assumption) ?rt8; (case at8 => (simp only [List.getElem?_toArray, List.getElem?_cons_zero, List.getElem?_cons_succ]; rfl)); (case bt8 => exact fun _ _ _ h => h); (case ct8 => kernel_rfl); (case dt8 => (intro W hW; (try dsimp only at hW); go_split_ands; go_simp; (try with_reducible rfl))); (case' rt8 => simp only [Act.put, List.setIfInBounds_toArray, List.set_cons_zero, List.set_cons_succ]))
  refine wpAnyH_done (by kernel_rfl) ?_ _
  go_wp2_with fail
  go_ret
  refine ⟨_, _, rfl, HPC.out, fun k hk => ?_, HBV.out.trans (Below.mono hS6 HBV.out.size)⟩
  rcases hk with rfl | hk
  · exact HY.out
  · exact (World.ownsRow.lt HO.out k hk).1
end Go.Proofs.Ytmhhckpdhjnmeaa
