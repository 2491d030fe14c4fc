/- The walk of SlotWhole. -/
import Derived.Test.YtdkjigdihfidgaaLaw12A
namespace Go.Proofs.Ytdkjigdihfidgaa
open Go.RowKit

attribute [local go_sem ↓ high] zeroQ
theorem rec_eq (a b c d : W32) : ((a == c) && (b == d)) = true ↔ a = c ∧ b = d := by simp
set_option maxRecDepth 100000 in
set_option maxHeartbeats 8000000 in
theorem slotWhole_walk (id : Int) (f : Nat → W32) (s v : W32) (k : Int) (mn : Nat) (w : World) (_h1 : -9223372036854775808 ≤ id) (_h2 : id ≤ 9223372036854775807) (_h3 : -9223372036854775808 ≤ k) (_h4 : k ≤ 9223372036854775807) (hmn : mn < 4294967296) :
    Calls Try.prog 5 #[.int .i64 id, .agg (vec 4 (wds f)), .agg #[.int .u32 (num s), .int .u32 (num v)], .int .i64 k, .int .u32 (mn : Int)] w fun e w' => e = .returned (.bool true) ∧ Below w.heap.size w w' := by
  obtain ⟨m, hm⟩ := num_ex (z := (mn : Int)) (by omega) (by omega)
  rw [hm]
  clear hm hmn _h3 _h4
  obtain ⟨x, hx⟩ : ∃ x, IntKind.u32.wrap id = num x := ⟨_, (num_ofInt id).symm⟩
  have HA := Lib.hid (fun W => awake_any W)
  obtain ⟨l, hl⟩ : ∃ l, l = stepsL x f s v := ⟨_, rfl⟩
  obtain ⟨n, hn⟩ : ∃ n, n = l.length := ⟨_, rfl⟩
  have hn5 : n ≤ 5 := by
    rw [hn, hl]; unfold stepsL
    split <;> simp [body4]
  have HS : Hid (∀ W, Calls Try.prog 14 #[.int .i64 id, .agg (vec 4 (wds f)), .agg #[.int .u32 (num s), .int .u32 (num v)]] W fun e w' => ∃ A c, e = .returned (.slice A n c) ∧ Hid (n ≤ c ∧ Lies w' w'.heap.size 2 A l.length (cellsC l) ∧ Below W.heap.size W w')) := Lib.hid fun W => by
    rw [hn, hl]
    refine (steps_any id x hx f s v W).mono ?_
    rintro e w' ⟨A, c, rfl, h1, h2, h3⟩
    exact ⟨A, c, rfl, Lib.hid ⟨h1, h2, h3⟩⟩
  obtain ⟨T, hT⟩ : ∃ T, T = torn f l (cutN l k) m := ⟨_, rfl⟩
  have HT : Hid (∀ (Y : World) (A : Option Addr) (c : Nat), n ≤ c → Lies Y Y.heap.size 2 A l.length (cellsC l) → Calls Try.prog 17 #[.agg (vec 4 (wds f)), .slice A n c, .int .i64 k, .int .u32 (num m)] Y fun e w' => e = .returned (.agg (vec 4 (wds T))) ∧ Below Y.heap.size Y w') := Lib.hid fun Y A c hc h => by
    rw [hT, hn]
    exact torn_any f A c l (by omega) (by omega) k m Y h
  have hwh := whole x f s v (cutN l k) m
  rw [← hl, ← hT] at hwh
  obtain ⟨b, hb⟩ : ∃ b, b = isRec x T := ⟨_, rfl⟩
  obtain ⟨was, hwas⟩ : ∃ b, b = isRec x f := ⟨_, rfl⟩
  obtain ⟨a1, ha1⟩ : ∃ a, a = ofS x T := ⟨_, rfl⟩
  obtain ⟨a2, ha2⟩ : ∃ a, a = ofV x T := ⟨_, rfl⟩
  obtain ⟨o1, ho1⟩ : ∃ a, a = ofS x f := ⟨_, rfl⟩
  obtain ⟨o2, ho2⟩ : ∃ a, a = ofV x f := ⟨_, rfl⟩
  obtain ⟨e1, he1⟩ : ∃ e, e = ((a1 == s) && (a2 == v)) := ⟨_, rfl⟩
  obtain ⟨e2, he2⟩ : ∃ e, e = ((a1 == o1) && (a2 == o2)) := ⟨_, rfl⟩
  have hcase : b = false ∨ (b = true ∧ e1 = true) ∨ (b = true ∧ e1 = false ∧ was = true ∧ e2 = true) := by
    cases hbb : b with
    | false => exact Or.inl rfl
    | true =>
      rw [hbb] at hb
      have h1 : a1 = T 1 := by rw [ha1]; unfold ofS; rw [if_pos hb.symm]
      have h2 : a2 = T 2 := by rw [ha2]; unfold ofV; rw [if_pos hb.symm]
      rcases hwh hb.symm with ⟨g1, g2⟩ | ⟨g0, g1, g2⟩
      · refine Or.inr (Or.inl ⟨rfl, ?_⟩)
        rw [he1, rec_eq]
        exact ⟨h1.trans g1, h2.trans g2⟩
      · have h3 : o1 = f 1 := by rw [ho1]; unfold ofS; rw [if_pos g0]
        have h4 : o2 = f 2 := by rw [ho2]; unfold ofV; rw [if_pos g0]
        cases hee : e1 with
        | true => exact Or.inr (Or.inl ⟨rfl, rfl⟩)
        | false =>
          refine Or.inr (Or.inr ⟨rfl, rfl, by rw [hwas, g0], ?_⟩)
          rw [he2, rec_eq]
          exact ⟨by rw [h1, h3]; exact g1, by rw [h2, h4]; exact g2⟩
  have HW := Lib.hid hcase
  have HO : Hid (∀ W, Calls Try.prog 9 #[.int .i64 id, .agg (vec 4 (wds f))] W fun e w' => e = .returned (.tuple #[.agg #[.int .u32 (num o1), .int .u32 (num o2)], .bool was]) ∧ Below W.heap.size W w') := Lib.hid fun W => by
    rw [ho1, ho2, hwas]; exact rof_any id x hx f W
  have HOT : Hid (∀ W, Calls Try.prog 8 #[.int .i64 id, .agg (vec 4 (wds T))] W fun e w' => e = .returned (.tuple #[.agg #[.int .u32 (num a1), .int .u32 (num a2)], .bool b]) ∧ Below W.heap.size W w') := Lib.hid fun W => by
    rw [ha1, ha2, hb]; exact of_any id x hx T W
  have Q1 : Hid (∀ W, (binOp .eql 24 (.agg #[.int .u32 (num a1), .int .u32 (num a2)]) (.agg #[.int .u32 (num s), .int .u32 (num v)])).run Try.prog W = .ok (.bool e1) W) := Lib.hid fun W => by rw [he1]; exact eqlR a1 a2 s v W
  have Q2 : Hid (∀ W, (binOp .eql 24 (.agg #[.int .u32 (num a1), .int .u32 (num a2)]) (.agg #[.int .u32 (num o1), .int .u32 (num o2)])).run Try.prog W = .ok (.bool e2) W) := Lib.hid fun W => by rw [he2]; exact eqlR a1 a2 o1 o2 W
  have Q3 : Hid (∀ x y a b W, (eqGuard .eql 24 x y (.agg a) (.agg b)).run Try.prog W = .ok () W) := Lib.hid fun x y a b W => eqgR .eql x y a b W
  clear hx _h1 _h2 hl hn hT hwh hb hwas ha1 ha2 ho1 ho2 he1 he2 hcase hn5
  obtain ⟨V0, hV0⟩ : ∃ V0, V0 = (w.alloc (.cells (vec 4 (wds f)) 25)).alloc (.cells #[.int .u32 (num s), .int .u32 (num v)] 24) := ⟨_, rfl⟩
  have K0 : Hid (Two w V0 (w.heap.size + 1) w.heap.size s v f) := Lib.hid (by
    rw [hV0]
    exact ⟨Blk.new _ _ _ (by simp), (Arr.new _ _ _ _).alloc _, ((Below.refl _ _).alloc (Nat.le_refl _) _).alloc (by simp) _⟩)
  have HV0 := Lib.hid hV0
  clear hV0
  go_enter Try.func5, Try.ntmps5
  go_upto_region 1 with fail
  rw [← HV0.out]
  clear HV0
  go_upto_region 4 with (first
    | (go_at_call 7; refine (HA.out _).mono ?_; rintro e w1 ⟨rfl, hd⟩; have K1 := Lib.hid (K0.out.under hd); clear hd)
    | ((with_reducible show wpList _ _ _ (Oper.mk _ (.load 25 _) _ _ _ _ :: _) _ _); refine wl_load rfl 25 _ rfl _ rfl _ (K1.out.loadQ) ?_)
    | (go_at_call 9; refine (HO.out _).mono ?_; rintro e w2 ⟨rfl, hd⟩; have K2' := Lib.hid (K1.out.under hd); clear hd))
  obtain ⟨V, hV⟩ : ∃ V, V = w2.alloc (.cells #[.int .u32 (num o1), .int .u32 (num o2)] 24) := ⟨_, rfl⟩
  have K2 : Hid (Two w V (w.heap.size + 1) w.heap.size s v f) := Lib.hid (by rw [hV]; exact K2'.out.alloc _)
  have B2 : Hid (Blk V w2.heap.size 24 #[.int .u32 (num o1), .int .u32 (num o2)]) := Lib.hid (by rw [hV]; exact Blk.new _ _ _ rfl)
  rw [← hV]
  clear hV K0 K1 K2' HA HO
  have HQ : Hid (∀ W, VS V W → (loadVar 25 ⟨w.heap.size, 0, none⟩).run Try.prog W = .ok (.agg (vec 4 (wds f))) W) := Lib.hid fun W hW => (K2.out.under hW).loadQ
  have HR : Hid (∀ W, VS V W → (loadVar 24 ⟨w.heap.size + 1, 0, none⟩).run Try.prog W = .ok (.agg #[.int .u32 (num s), .int .u32 (num v)]) W) := Lib.hid fun W hW => (K2.out.under hW).loadR
  refine wp_region_held_drew (S := fun Y => VS V Y) (by kernel_rfl) (VS.begin V) (fun hS => ?_)
  (refine held_take (i := 0) (oi := ?ot1) (v := ?vt1) ?at1 (by kernel_rfl) (by kernel_rfl) (by kernel_rfl) ?bt1 ?ct1 ?dt1 (by assumption) ?rt1; (case at1 => (simp only [List.getElem?_toArray, List.getElem?_cons_zero]; rfl)); (case bt1 => exact fun _ _ _ h => h); (case ct1 => kernel_rfl); (case dt1 => (intro W hW; (try dsimp only at hW); go_split_ands; go_simp; (try with_reducible rfl))); (case' rt1 => simp only [Act.put, List.setIfInBounds_toArray, List.set_cons_zero, List.set_cons_succ]))
  (refine held_take (i := 1) (oi := ?ot2) (v := .agg (vec 4 (wds f))) ?at2 (by kernel_rfl) (by kernel_rfl) (by kernel_rfl) ?bt2 ?ct2 ?dt2 (by assumption) ?rt2; (case at2 => (simp only [List.getElem?_toArray, List.getElem?_cons_zero, List.getElem?_cons_succ]; rfl)); (case bt2 => exact fun _ _ _ h => h); (case ct2 => kernel_rfl); (case dt2 => (intro W hW; exact exec_load _ _ rfl _ rfl _ (HQ.out W hW))); (case' rt2 => simp only [Act.put, List.setIfInBounds_toArray, List.set_cons_zero, List.set_cons_succ]))
  (refine held_take (i := 2) (oi := ?ot3) (v := ?vt3) ?at3 (by kernel_rfl) (by kernel_rfl) (by kernel_rfl) ?bt3 ?ct3 ?dt3 (by assumption) ?rt3; (case at3 => (simp only [List.getElem?_toArray, List.getElem?_cons_zero, List.getElem?_cons_succ]; rfl)); (case bt3 => exact fun _ _ _ h => h); (case ct3 => kernel_rfl); (case dt3 => (intro W hW; (try dsimp only at hW); go_split_ands; go_simp; (try with_reducible rfl))); (case' rt3 => simp only [Act.put, List.setIfInBounds_toArray, List.set_cons_zero, List.set_cons_succ]))
  (refine held_take (i := 3) (oi := ?ot4) (v := .agg (vec 4 (wds f))) ?at4 (by kernel_rfl) (by kernel_rfl) (by kernel_rfl) ?bt4 ?ct4 ?dt4 (by assumption) ?rt4; (case at4 => (simp only [List.getElem?_toArray, List.getElem?_cons_zero, List.getElem?_cons_succ]; rfl)); (case bt4 => exact fun _ _ _ h => h); (case ct4 => kernel_rfl); (case dt4 => (intro W hW; exact exec_load _ _ rfl _ rfl _ (HQ.out W hW))); (case' rt4 => simp only [Act.put, List.setIfInBounds_toArray, List.set_cons_zero, List.set_cons_succ]))
  (refine held_take (i := 4) (oi := ?ot5) (v := .agg #[.int .u32 (num s), .int .u32 (num v)]) ?at5 (by kernel_rfl) (by kernel_rfl) (by kernel_rfl) ?bt5 ?ct5 ?dt5 (by assumption) ?rt5; (case at5 => (simp only [List.getElem?_toArray, List.getElem?_cons_zero, List.getElem?_cons_succ]; rfl)); (case bt5 => exact fun _ _ _ h => h); (case ct5 => kernel_rfl); (case dt5 => (intro W hW; exact exec_load _ _ rfl _ rfl _ (HR.out W hW))); (case' rt5 => simp only [Act.put, List.setIfInBounds_toArray, List.set_cons_zero, List.set_cons_succ]))
  (refine held_take (i := 6) (oi := ?ot6) (v := ?vt6) ?at6 (by kernel_rfl) (by kernel_rfl) (by kernel_rfl) ?bt6 ?ct6 ?dt6 (by assumption) ?rt6; (case at6 => (simp only [List.getElem?_toArray, List.getElem?_cons_zero, List.getElem?_cons_succ]; rfl)); (case bt6 => exact fun _ _ _ h => h); (case ct6 => kernel_rfl); (case dt6 => (intro W hW; (try dsimp only at hW); go_split_ands; go_simp; (try with_reducible rfl))); (case' rt6 => simp only [Act.put, List.setIfInBounds_toArray, List.set_cons_zero, List.set_cons_succ]))
  (refine held_take (i := 7) (oi := ?ot7) (v := ?vt7) ?at7 (by kernel_rfl) (by kernel_rfl) (by kernel_rfl) ?bt7 ?ct7 ?dt7 (by assumption) ?rt7; (case at7 => (simp only [List.getElem?_toArray, List.getElem?_cons_zero, List.getElem?_cons_succ]; rfl)); (case bt7 => exact fun _ _ _ h => h); (case ct7 => kernel_rfl); (case dt7 => (intro W hW; (try dsimp only at hW); go_split_ands; go_simp; (try with_reducible rfl))); (case' rt7 => simp only [Act.put, List.setIfInBounds_toArray, List.set_cons_zero, List.set_cons_succ]))
  refine held_two (i := 5) (j := 13) (oi := ?oit37) (oj := ?ojt37) (by kernel_rfl) ?ait37 ?ajt37 ?cit37 ?cjt37 (fun K5 hK5 => ?hit37) (fun K13 hK13 => ?hjt37)
  (case ait37 => (simp only [List.getElem?_toArray, List.getElem?_cons_zero, List.getElem?_cons_succ]; rfl))
  (case ajt37 => (simp only [List.getElem?_toArray, List.getElem?_cons_zero, List.getElem?_cons_succ]; rfl))
  (case cit37 => kernel_rfl)
  (case cjt37 => kernel_rfl)
  case hit37 =>
    have hSb := hS
    go_simp
    refine (HS.out _).mono ?_
    rintro e y5 ⟨A1, c1, rfl, HY⟩
    have hd := HY.out.2.2
    (try have HG := Lib.hid (And.intro (HG.out.1.under hd) HG.out.2))
    have HL := Lib.hid (And.intro HY.out.1 HY.out.2.1)
    refine hK5 _ _ (hSb.keep hd) (fun hS5 => ?_)
    clear hS hSb hd HY hK5 K5
    refine held_two (i := 8) (j := 13) (oi := ?oit28) (oj := ?ojt28) (by kernel_rfl) ?ait28 ?ajt28 ?cit28 ?cjt28 (fun K8 hK8 => ?hit28) (fun K13 hK13 => ?hjt28)
    (case ait28 => (simp only [List.getElem?_toArray, List.getElem?_cons_zero, List.getElem?_cons_succ]; rfl))
    (case ajt28 => (simp only [List.getElem?_toArray, List.getElem?_cons_zero, List.getElem?_cons_succ]; rfl))
    (case cit28 => kernel_rfl)
    (case cjt28 => kernel_rfl)
    case hit28 =>
      have hSb := hS5
      have hcall := HT.out _ _ _ HL.out.1 HL.out.2
      go_simp
      refine hcall.mono ?_
      rintro e y8 ⟨rfl, hd⟩
      (try have HG := Lib.hid (And.intro (HG.out.1.under hd) HG.out.2))
      refine hK8 _ _ (hSb.keep hd) (fun hS8 => ?_)
      clear hS5 hSb hd hcall HL hK8 K8
      refine held_two (i := 9) (j := 13) (oi := ?oit20) (oj := ?ojt20) (by kernel_rfl) ?ait20 ?ajt20 ?cit20 ?cjt20 (fun K9 hK9 => ?hit20) (fun K13 hK13 => ?hjt20)
      (case ait20 => (simp only [List.getElem?_toArray, List.getElem?_cons_zero, List.getElem?_cons_succ]; rfl))
      (case ajt20 => (simp only [List.getElem?_toArray, List.getElem?_cons_zero, List.getElem?_cons_succ]; rfl))
      (case cit20 => kernel_rfl)
      (case cjt20 => kernel_rfl)
      case hit20 =>
        have hSb := hS8
        go_simp
        refine (HOT.out _).mono ?_
        rintro e y9 ⟨rfl, hd⟩
        (try have HG := Lib.hid (And.intro (HG.out.1.under hd) HG.out.2))
        refine hK9 _ _ (hSb.keep hd) (fun hS9 => ?_)
        clear hS8 hSb hd hK9 K9
        (refine held_take (i := 10) (oi := ?ot8) (v := ?vt8) ?at8 (by kernel_rfl) (by kernel_rfl) (by kernel_rfl) ?bt8 ?ct8 ?dt8 (by assumption) ?rt8; (case at8 => (simp only [List.getElem?_toArray, List.getElem?_cons_zero, List.getElem?_cons_succ]; rfl)); (case bt8 => exact fun _ _ _ h => h); (case ct8 => kernel_rfl); (case dt8 => (intro W hW; (try dsimp only at hW); go_split_ands; go_simp; (try with_reducible rfl))); (case' rt8 => simp only [Act.put, List.setIfInBounds_toArray, List.set_cons_zero, List.set_cons_succ]))
        (refine held_take (i := 11) (oi := ?ot9) (v := ?vt9) ?at9 (by kernel_rfl) (by kernel_rfl) (by kernel_rfl) ?bt9 ?ct9 ?dt9 (by assumption) ?rt9; (case at9 => (simp only [List.getElem?_toArray, List.getElem?_cons_zero, List.getElem?_cons_succ]; rfl)); (case bt9 => exact fun _ _ _ h => h); (case ct9 => kernel_rfl); (case dt9 => (intro W hW; (try dsimp only at hW); go_split_ands; go_simp; (try with_reducible rfl))); (case' rt9 => simp only [Act.put, List.setIfInBounds_toArray, List.set_cons_zero, List.set_cons_succ]))
        (refine held_take (i := 12) (oi := ?ot10) (v := ?vt10) ?at10 (by kernel_rfl) (by kernel_rfl) (by kernel_rfl) ?bt10 ?ct10 ?dt10 (by assumption) ?rt10; (case at10 => (simp only [List.getElem?_toArray, List.getElem?_cons_zero, List.getElem?_cons_succ]; rfl)); (case bt10 => exact fun _ _ _ h => h); (case ct10 => kernel_rfl); (case dt10 => (intro W hW; (try dsimp only at hW); go_split_ands; go_simp; (try with_reducible rfl))); (case' rt10 => simp only [Act.put, List.setIfInBounds_toArray, List.set_cons_zero, List.set_cons_succ]))
        refine held_one (i := 13) (oi := ?ot11) (by kernel_rfl) ?at11 ?ct11 (fun K13 hK13 => ?_)
        (case at11 => (simp only [List.getElem?_toArray, List.getElem?_cons_zero, List.getElem?_cons_succ]; rfl))
        (case ct11 => kernel_rfl)
        go_simp
        obtain ⟨y13, hy⟩ : ∃ y, y = (y9.alloc (.cells #[.int .u32 0, .int .u32 0] 24)) := ⟨_, rfl⟩
        have hd : Below y9.heap.size y9 y13 := by rw [hy]; exact (show Below y9.heap.size y9 (y9.alloc (.cells #[.int .u32 0, .int .u32 0] 24)) from (Below.refl _ _).alloc (Nat.le_refl _) _)
        have hgl : V.heap.size ≤ y9.heap.size := (show Below V.heap.size V _ from hS9).size
        obtain ⟨g, hg⟩ : ∃ g, g = y9.heap.size := ⟨_, rfl⟩
        have hga : Blk y13 g 24 #[.int .u32 0, .int .u32 0] := by rw [hy, hg]; exact Blk.new y9 _ _ rfl
        have HG := Lib.hid (And.intro hga (by rw [hg]; exact hgl : V.heap.size ≤ g))
        (try have HL := Lib.hid (And.intro HL.out.1 ((HL.out.2.below hd).wide hd.size)))
        have hSb := VS.keep hS9 hd
        clear hd hgl hga
        rw [← hy, ← hg]
        clear hy hg
        refine hK13 _ _ hSb (fun hS13 => ?_)
        clear hSb hK13 K13
        refine held_one (i := 14) (oi := ?ot12) (by kernel_rfl) ?at12 ?ct12 (fun K14 hK14 => ?_)
        (case at12 => (simp only [List.getElem?_toArray, List.getElem?_cons_zero, List.getElem?_cons_succ]; rfl))
        (case ct12 => kernel_rfl)
        refine ow_store 24 _ _ rfl _ rfl _ rfl (HG.out.1.store #[.int .u32 (num a1), .int .u32 (num a2)] rfl infoR rfl) ?_
        have hga := HG.out.1.row #[.int .u32 (num a1), .int .u32 (num a2)]
        have hSb := below_row (show Below V.heap.size V _ from hS13) HG.out.2 #[.int .u32 (num a1), .int .u32 (num a2)]
        obtain ⟨X14, hX14⟩ : ∃ Z, Z = World.setRow y13 g #[.int .u32 (num a1), .int .u32 (num a2)] := ⟨_, rfl⟩
        rw [← hX14] at hga hSb
        have HG := Lib.hid hga
        rw [← hX14]
        clear hX14 hga
        refine hK14 _ _ hSb (fun hS14 => ?_)
        clear hSb hK14 K14
        (refine held_take (i := 15) (oi := ?ot13) (v := ?vt13) ?at13 (by kernel_rfl) (by kernel_rfl) (by kernel_rfl) ?bt13 ?ct13 ?dt13 (by assumption) ?rt13; (case at13 => (simp only [List.getElem?_toArray, List.getElem?_cons_zero, List.getElem?_cons_succ]; rfl)); (case bt13 => exact fun _ _ _ h => h); (case ct13 => kernel_rfl); (case dt13 => (intro W hW; (try dsimp only at hW); go_split_ands; go_simp; (try with_reducible rfl))); (case' rt13 => simp only [Act.put, List.setIfInBounds_toArray, List.set_cons_zero, List.set_cons_succ]))
        refine wpAnyH_done (by kernel_rfl) ?_ _
        have hX := hS14
        have K3 := Lib.hid (K2.out.under hX)
        have hO := B2.out.under hX
        have p0 : X14.cell? ⟨g, 0, none⟩ = some (.int .u32 (num a1)) := HG.out.cellAt 0 rfl
        have p1 : X14.cell? ⟨g, 1, none⟩ = some (.int .u32 (num a2)) := HG.out.cellAt 1 rfl
        have r0 : X14.cell? ⟨w.heap.size + 1, 0, none⟩ = some (.int .u32 (num s)) := K3.out.bx.cellAt 0 rfl
        have r1 : X14.cell? ⟨w.heap.size + 1, 1, none⟩ = some (.int .u32 (num v)) := K3.out.bx.cellAt 1 rfl
        have o0 : X14.cell? ⟨w2.heap.size, 0, none⟩ = some (.int .u32 (num o1)) := hO.cellAt 0 rfl
        have o1' : X14.cell? ⟨w2.heap.size, 1, none⟩ = some (.int .u32 (num o2)) := hO.cellAt 1 rfl
        clear hX hO hS14
        rcases HW.out with h | ⟨h, h1⟩ | ⟨h, h1, h2, h3⟩
        · subst h
          have q1 := Q1.out
          have q2 := Q2.out
          have q3 := Q3.out
          go_wp2_with fail
          go_ret
          exact ⟨rfl, K3.out.be⟩
        · subst h h1
          have q1 := Q1.out
          have q2 := Q2.out
          have q3 := Q3.out
          go_wp2_with fail
          go_ret
          exact ⟨rfl, K3.out.be⟩
        · subst h h1 h2 h3
          have q1 := Q1.out
          have q2 := Q2.out
          have q3 := Q3.out
          go_wp2_with fail
          go_ret
          exact ⟨rfl, K3.out.be⟩
      case hjt20 =>
        go_simp
        obtain ⟨y13, hy⟩ : ∃ y, y = (y8.alloc (.cells #[.int .u32 0, .int .u32 0] 24)) := ⟨_, rfl⟩
        have hd : Below y8.heap.size y8 y13 := by rw [hy]; exact (show Below y8.heap.size y8 (y8.alloc (.cells #[.int .u32 0, .int .u32 0] 24)) from (Below.refl _ _).alloc (Nat.le_refl _) _)
        have hgl : V.heap.size ≤ y8.heap.size := (show Below V.heap.size V _ from hS8).size
        obtain ⟨g, hg⟩ : ∃ g, g = y8.heap.size := ⟨_, rfl⟩
        have hga : Blk y13 g 24 #[.int .u32 0, .int .u32 0] := by rw [hy, hg]; exact Blk.new y8 _ _ rfl
        have HG := Lib.hid (And.intro hga (by rw [hg]; exact hgl : V.heap.size ≤ g))
        (try have HL := Lib.hid (And.intro HL.out.1 ((HL.out.2.below hd).wide hd.size)))
        have hSb := VS.keep hS8 hd
        clear hd hgl hga
        rw [← hy, ← hg]
        clear hy hg
        refine hK13 _ _ hSb (fun hS13 => ?_)
        clear hSb hK13 K13
        refine held_one (i := 9) (oi := ?ot14) (by kernel_rfl) ?at14 ?ct14 (fun K9 hK9 => ?_)
        (case at14 => (simp only [List.getElem?_toArray, List.getElem?_cons_zero, List.getElem?_cons_succ]; rfl))
        (case ct14 => kernel_rfl)
        have hSb := hS13
        go_simp
        refine (HOT.out _).mono ?_
        rintro e y9 ⟨rfl, hd⟩
        (try have HG := Lib.hid (And.intro (HG.out.1.under hd) HG.out.2))
        refine hK9 _ _ (hSb.keep hd) (fun hS9 => ?_)
        clear hS13 hSb hd hK9 K9
        (refine held_take (i := 10) (oi := ?ot15) (v := ?vt15) ?at15 (by kernel_rfl) (by kernel_rfl) (by kernel_rfl) ?bt15 ?ct15 ?dt15 (by assumption) ?rt15; (case at15 => (simp only [List.getElem?_toArray, List.getElem?_cons_zero, List.getElem?_cons_succ]; rfl)); (case bt15 => exact fun _ _ _ h => h); (case ct15 => kernel_rfl); (case dt15 => (intro W hW; (try dsimp only at hW); go_split_ands; go_simp; (try with_reducible rfl))); (case' rt15 => simp only [Act.put, List.setIfInBounds_toArray, List.set_cons_zero, List.set_cons_succ]))
        (refine held_take (i := 11) (oi := ?ot16) (v := ?vt16) ?at16 (by kernel_rfl) (by kernel_rfl) (by kernel_rfl) ?bt16 ?ct16 ?dt16 (by assumption) ?rt16; (case at16 => (simp only [List.getElem?_toArray, List.getElem?_cons_zero, List.getElem?_cons_succ]; rfl)); (case bt16 => exact fun _ _ _ h => h); (case ct16 => kernel_rfl); (case dt16 => (intro W hW; (try dsimp only at hW); go_split_ands; go_simp; (try with_reducible rfl))); (case' rt16 => simp only [Act.put, List.setIfInBounds_toArray, List.set_cons_zero, List.set_cons_succ]))
        (refine held_take (i := 12) (oi := ?ot17) (v := ?vt17) ?at17 (by kernel_rfl) (by kernel_rfl) (by kernel_rfl) ?bt17 ?ct17 ?dt17 (by assumption) ?rt17; (case at17 => (simp only [List.getElem?_toArray, List.getElem?_cons_zero, List.getElem?_cons_succ]; rfl)); (case bt17 => exact fun _ _ _ h => h); (case ct17 => kernel_rfl); (case dt17 => (intro W hW; (try dsimp only at hW); go_split_ands; go_simp; (try with_reducible rfl))); (case' rt17 => simp only [Act.put, List.setIfInBounds_toArray, List.set_cons_zero, List.set_cons_succ]))
        refine held_one (i := 14) (oi := ?ot18) (by kernel_rfl) ?at18 ?ct18 (fun K14 hK14 => ?_)
        (case at18 => (simp only [List.getElem?_toArray, List.getElem?_cons_zero, List.getElem?_cons_succ]; rfl))
        (case ct18 => kernel_rfl)
        refine ow_store 24 _ _ rfl _ rfl _ rfl (HG.out.1.store #[.int .u32 (num a1), .int .u32 (num a2)] rfl infoR rfl) ?_
        have hga := HG.out.1.row #[.int .u32 (num a1), .int .u32 (num a2)]
        have hSb := below_row (show Below V.heap.size V _ from hS9) HG.out.2 #[.int .u32 (num a1), .int .u32 (num a2)]
        obtain ⟨X14, hX14⟩ : ∃ Z, Z = World.setRow y9 g #[.int .u32 (num a1), .int .u32 (num a2)] := ⟨_, rfl⟩
        rw [← hX14] at hga hSb
        have HG := Lib.hid hga
        rw [← hX14]
        clear hX14 hga
        refine hK14 _ _ hSb (fun hS14 => ?_)
        clear hSb hK14 K14
        (refine held_take (i := 15) (oi := ?ot19) (v := ?vt19) ?at19 (by kernel_rfl) (by kernel_rfl) (by kernel_rfl) ?bt19 ?ct19 ?dt19 (by assumption) ?rt19; (case at19 => (simp only [List.getElem?_toArray, List.getElem?_cons_zero, List.getElem?_cons_succ]; rfl)); (case bt19 => exact fun _ _ _ h => h); (case ct19 => kernel_rfl); (case dt19 => (intro W hW; (try dsimp only at hW); go_split_ands; go_simp; (try with_reducible rfl))); (case' rt19 => simp only [Act.put, List.setIfInBounds_toArray, List.set_cons_zero, List.set_cons_succ]))
        refine wpAnyH_done (by kernel_rfl) ?_ _
        have hX := hS14
        have K3 := Lib.hid (K2.out.under hX)
        have hO := B2.out.under hX
        have p0 : X14.cell? ⟨g, 0, none⟩ = some (.int .u32 (num a1)) := HG.out.cellAt 0 rfl
        have p1 : X14.cell? ⟨g, 1, none⟩ = some (.int .u32 (num a2)) := HG.out.cellAt 1 rfl
        have r0 : X14.cell? ⟨w.heap.size + 1, 0, none⟩ = some (.int .u32 (num s)) := K3.out.bx.cellAt 0 rfl
        have r1 : X14.cell? ⟨w.heap.size + 1, 1, none⟩ = some (.int .u32 (num v)) := K3.out.bx.cellAt 1 rfl
        have o0 : X14.cell? ⟨w2.heap.size, 0, none⟩ = some (.int .u32 (num o1)) := hO.cellAt 0 rfl
        have o1' : X14.cell? ⟨w2.heap.size, 1, none⟩ = some (.int .u32 (num o2)) := hO.cellAt 1 rfl
        clear hX hO hS14
        rcases HW.out with h | ⟨h, h1⟩ | ⟨h, h1, h2, h3⟩
        · subst h
          have q1 := Q1.out
          have q2 := Q2.out
          have q3 := Q3.out
          go_wp2_with fail
          go_ret
          exact ⟨rfl, K3.out.be⟩
        · subst h h1
          have q1 := Q1.out
          have q2 := Q2.out
          have q3 := Q3.out
          go_wp2_with fail
          go_ret
          exact ⟨rfl, K3.out.be⟩
        · subst h h1 h2 h3
          have q1 := Q1.out
          have q2 := Q2.out
          have q3 := Q3.out
          go_wp2_with fail
          go_ret
          exact ⟨rfl, K3.out.be⟩
    case hjt28 =>
      go_simp
      obtain ⟨y13, hy⟩ : ∃ y, y = (y5.alloc (.cells #[.int .u32 0, .int .u32 0] 24)) := ⟨_, rfl⟩
      have hd : Below y5.heap.size y5 y13 := by rw [hy]; exact (show Below y5.heap.size y5 (y5.alloc (.cells #[.int .u32 0, .int .u32 0] 24)) from (Below.refl _ _).alloc (Nat.le_refl _) _)
      have hgl : V.heap.size ≤ y5.heap.size := (show Below V.heap.size V _ from hS5).size
      obtain ⟨g, hg⟩ : ∃ g, g = y5.heap.size := ⟨_, rfl⟩
      have hga : Blk y13 g 24 #[.int .u32 0, .int .u32 0] := by rw [hy, hg]; exact Blk.new y5 _ _ rfl
      have HG := Lib.hid (And.intro hga (by rw [hg]; exact hgl : V.heap.size ≤ g))
      (try have HL := Lib.hid (And.intro HL.out.1 ((HL.out.2.below hd).wide hd.size)))
      have hSb := VS.keep hS5 hd
      clear hd hgl hga
      rw [← hy, ← hg]
      clear hy hg
      refine hK13 _ _ hSb (fun hS13 => ?_)
      clear hSb hK13 K13
      refine held_one (i := 8) (oi := ?ot21) (by kernel_rfl) ?at21 ?ct21 (fun K8 hK8 => ?_)
      (case at21 => (simp only [List.getElem?_toArray, List.getElem?_cons_zero, List.getElem?_cons_succ]; rfl))
      (case ct21 => kernel_rfl)
      have hSb := hS13
      have hcall := HT.out _ _ _ HL.out.1 HL.out.2
      go_simp
      refine hcall.mono ?_
      rintro e y8 ⟨rfl, hd⟩
      (try have HG := Lib.hid (And.intro (HG.out.1.under hd) HG.out.2))
      refine hK8 _ _ (hSb.keep hd) (fun hS8 => ?_)
      clear hS13 hSb hd hcall HL hK8 K8
      refine held_one (i := 9) (oi := ?ot22) (by kernel_rfl) ?at22 ?ct22 (fun K9 hK9 => ?_)
      (case at22 => (simp only [List.getElem?_toArray, List.getElem?_cons_zero, List.getElem?_cons_succ]; rfl))
      (case ct22 => kernel_rfl)
      have hSb := hS8
      go_simp
      refine (HOT.out _).mono ?_
      rintro e y9 ⟨rfl, hd⟩
      (try have HG := Lib.hid (And.intro (HG.out.1.under hd) HG.out.2))
      refine hK9 _ _ (hSb.keep hd) (fun hS9 => ?_)
      clear hS8 hSb hd hK9 K9
      (refine held_take (i := 10) (oi := ?ot23) (v := ?vt23) ?at23 (by kernel_rfl) (by kernel_rfl) (by kernel_rfl) ?bt23 ?ct23 ?dt23 (by assumption) ?rt23; (case at23 => (simp only [List.getElem?_toArray, List.getElem?_cons_zero, List.getElem?_cons_succ]; rfl)); (case bt23 => exact fun _ _ _ h => h); (case ct23 => kernel_rfl); (case dt23 => (intro W hW; (try dsimp only at hW); go_split_ands; go_simp; (try with_reducible rfl))); (case' rt23 => simp only [Act.put, List.setIfInBounds_toArray, List.set_cons_zero, List.set_cons_succ]))
      (refine held_take (i := 11) (oi := ?ot24) (v := ?vt24) ?at24 (by kernel_rfl) (by kernel_rfl) (by kernel_rfl) ?bt24 ?ct24 ?dt24 (by assumption) ?rt24; (case at24 => (simp only [List.getElem?_toArray, List.getElem?_cons_zero, List.getElem?_cons_succ]; rfl)); (case bt24 => exact fun _ _ _ h => h); (case ct24 => kernel_rfl); (case dt24 => (intro W hW; (try dsimp only at hW); go_split_ands; go_simp; (try with_reducible rfl))); (case' rt24 => simp only [Act.put, List.setIfInBounds_toArray, List.set_cons_zero, List.set_cons_succ]))
      (refine held_take (i := 12) (oi := ?ot25) (v := ?vt25) ?at25 (by kernel_rfl) (by kernel_rfl) (by kernel_rfl) ?bt25 ?ct25 ?dt25 (by assumption) ?rt25; (case at25 => (simp only [List.getElem?_toArray, List.getElem?_cons_zero, List.getElem?_cons_succ]; rfl)); (case bt25 => exact fun _ _ _ h => h); (case ct25 => kernel_rfl); (case dt25 => (intro W hW; (try dsimp only at hW); go_split_ands; go_simp; (try with_reducible rfl))); (case' rt25 => simp only [Act.put, List.setIfInBounds_toArray, List.set_cons_zero, List.set_cons_succ]))
      refine held_one (i := 14) (oi := ?ot26) (by kernel_rfl) ?at26 ?ct26 (fun K14 hK14 => ?_)
      (case at26 => (simp only [List.getElem?_toArray, List.getElem?_cons_zero, List.getElem?_cons_succ]; rfl))
      (case ct26 => kernel_rfl)
      refine ow_store 24 _ _ rfl _ rfl _ rfl (HG.out.1.store #[.int .u32 (num a1), .int .u32 (num a2)] rfl infoR rfl) ?_
      have hga := HG.out.1.row #[.int .u32 (num a1), .int .u32 (num a2)]
      have hSb := below_row (show Below V.heap.size V _ from hS9) HG.out.2 #[.int .u32 (num a1), .int .u32 (num a2)]
      obtain ⟨X14, hX14⟩ : ∃ Z, Z = World.setRow y9 g #[.int .u32 (num a1), .int .u32 (num a2)] := ⟨_, rfl⟩
      rw [← hX14] at hga hSb
      have HG := Lib.hid hga
      rw [← hX14]
      clear hX14 hga
      refine hK14 _ _ hSb (fun hS14 => ?_)
      clear hSb hK14 K14
      (refine held_take (i := 15) (oi := ?ot27) (v := ?vt27) ?at27 (by kernel_rfl) (by kernel_rfl) (by kernel_rfl) ?bt27 ?ct27 ?dt27 (by assumption) ?rt27; (case at27 => (simp only [List.getElem?_toArray, List.getElem?_cons_zero, List.getElem?_cons_succ]; rfl)); (case bt27 => exact fun _ _ _ h => h); (case ct27 => kernel_rfl); (case dt27 => (intro W hW; (try dsimp only at hW); go_split_ands; go_simp; (try with_reducible rfl))); (case' rt27 => simp only [Act.put, List.setIfInBounds_toArray, List.set_cons_zero, List.set_cons_succ]))
      refine wpAnyH_done (by kernel_rfl) ?_ _
      have hX := hS14
      have K3 := Lib.hid (K2.out.under hX)
      have hO := B2.out.under hX
      have p0 : X14.cell? ⟨g, 0, none⟩ = some (.int .u32 (num a1)) := HG.out.cellAt 0 rfl
      have p1 : X14.cell? ⟨g, 1, none⟩ = some (.int .u32 (num a2)) := HG.out.cellAt 1 rfl
      have r0 : X14.cell? ⟨w.heap.size + 1, 0, none⟩ = some (.int .u32 (num s)) := K3.out.bx.cellAt 0 rfl
      have r1 : X14.cell? ⟨w.heap.size + 1, 1, none⟩ = some (.int .u32 (num v)) := K3.out.bx.cellAt 1 rfl
      have o0 : X14.cell? ⟨w2.heap.size, 0, none⟩ = some (.int .u32 (num o1)) := hO.cellAt 0 rfl
      have o1' : X14.cell? ⟨w2.heap.size, 1, none⟩ = some (.int .u32 (num o2)) := hO.cellAt 1 rfl
      clear hX hO hS14
      rcases HW.out with h | ⟨h, h1⟩ | ⟨h, h1, h2, h3⟩
      · subst h
        have q1 := Q1.out
        have q2 := Q2.out
        have q3 := Q3.out
        go_wp2_with fail
        go_ret
        exact ⟨rfl, K3.out.be⟩
      · subst h h1
        have q1 := Q1.out
        have q2 := Q2.out
        have q3 := Q3.out
        go_wp2_with fail
        go_ret
        exact ⟨rfl, K3.out.be⟩
      · subst h h1 h2 h3
        have q1 := Q1.out
        have q2 := Q2.out
        have q3 := Q3.out
        go_wp2_with fail
        go_ret
        exact ⟨rfl, K3.out.be⟩
  case hjt37 =>
    go_simp
    obtain ⟨y13, hy⟩ : ∃ y, y = (V.alloc (.cells #[.int .u32 0, .int .u32 0] 24)).drew := ⟨_, rfl⟩
    have hd : Below V.heap.size V.drew y13 := by rw [hy]; exact (show Below V.drew.heap.size V.drew (V.drew.alloc (.cells #[.int .u32 0, .int .u32 0] 24)) from (Below.refl _ _).alloc (Nat.le_refl _) _)
    have hgl : V.heap.size ≤ V.heap.size := (show Below V.heap.size V _ from hS).size
    obtain ⟨g, hg⟩ : ∃ g, g = V.heap.size := ⟨_, rfl⟩
    have hga : Blk y13 g 24 #[.int .u32 0, .int .u32 0] := by rw [hy, hg]; exact Blk.new V _ _ rfl
    have HG := Lib.hid (And.intro hga (by rw [hg]; exact hgl : V.heap.size ≤ g))
    (try have HL := Lib.hid (And.intro HL.out.1 ((HL.out.2.below hd).wide hd.size)))
    have hSb := VS.keep hS hd
    clear hd hgl hga
    rw [← hy, ← hg]
    clear hy hg
    refine hK13 _ _ hSb (fun hS13 => ?_)
    clear hSb hK13 K13
    refine held_one (i := 5) (oi := ?ot29) (by kernel_rfl) ?at29 ?ct29 (fun K5 hK5 => ?_)
    (case at29 => (simp only [List.getElem?_toArray, List.getElem?_cons_zero, List.getElem?_cons_succ]; rfl))
    (case ct29 => kernel_rfl)
    have hSb := hS13
    go_simp
    refine (HS.out _).mono ?_
    rintro e y5 ⟨A1, c1, rfl, HY⟩
    have hd := HY.out.2.2
    (try have HG := Lib.hid (And.intro (HG.out.1.under hd) HG.out.2))
    have HL := Lib.hid (And.intro HY.out.1 HY.out.2.1)
    refine hK5 _ _ (hSb.keep hd) (fun hS5 => ?_)
    clear hS13 hSb hd HY hK5 K5
    refine held_one (i := 8) (oi := ?ot30) (by kernel_rfl) ?at30 ?ct30 (fun K8 hK8 => ?_)
    (case at30 => (simp only [List.getElem?_toArray, List.getElem?_cons_zero, List.getElem?_cons_succ]; rfl))
    (case ct30 => kernel_rfl)
    have hSb := hS5
    have hcall := HT.out _ _ _ HL.out.1 HL.out.2
    go_simp
    refine hcall.mono ?_
    rintro e y8 ⟨rfl, hd⟩
    (try have HG := Lib.hid (And.intro (HG.out.1.under hd) HG.out.2))
    refine hK8 _ _ (hSb.keep hd) (fun hS8 => ?_)
    clear hS5 hSb hd hcall HL hK8 K8
    refine held_one (i := 9) (oi := ?ot31) (by kernel_rfl) ?at31 ?ct31 (fun K9 hK9 => ?_)
    (case at31 => (simp only [List.getElem?_toArray, List.getElem?_cons_zero, List.getElem?_cons_succ]; rfl))
    (case ct31 => kernel_rfl)
    have hSb := hS8
    go_simp
    refine (HOT.out _).mono ?_
    rintro e y9 ⟨rfl, hd⟩
    (try have HG := Lib.hid (And.intro (HG.out.1.under hd) HG.out.2))
    refine hK9 _ _ (hSb.keep hd) (fun hS9 => ?_)
    clear hS8 hSb hd hK9 K9
    (refine held_take (i := 10) (oi := ?ot32) (v := ?vt32) ?at32 (by kernel_rfl) (by kernel_rfl) (by kernel_rfl) ?bt32 ?ct32 ?dt32 (by assumption) ?rt32; (case at32 => (simp only [List.getElem?_toArray, List.getElem?_cons_zero, List.getElem?_cons_succ]; rfl)); (case bt32 => exact fun _ _ _ h => h); (case ct32 => kernel_rfl); (case dt32 => (intro W hW; (try dsimp only at hW); go_split_ands; go_simp; (try with_reducible rfl))); (case' rt32 => simp only [Act.put, List.setIfInBounds_toArray, List.set_cons_zero, List.set_cons_succ]))
    (refine held_take (i := 11) (oi := ?ot33) (v := ?vt33) ?at33 (by kernel_rfl) (by kernel_rfl) (by kernel_rfl) ?bt33 ?ct33 ?dt33 (by assumption) ?rt33; (case at33 => (simp only [List.getElem?_toArray, List.getElem?_cons_zero, List.getElem?_cons_succ]; rfl)); (case bt33 => exact fun _ _ _ h => h); (case ct33 => kernel_rfl); (case dt33 => (intro W hW; (try dsimp only at hW); go_split_ands; go_simp; (try with_reducible rfl))); (case' rt33 => simp only [Act.put, List.setIfInBounds_toArray, List.set_cons_zero, List.set_cons_succ]))
    (refine held_take (i := 12) (oi := ?ot34) (v := ?vt34) ?at34 (by kernel_rfl) (by kernel_rfl) (by kernel_rfl) ?bt34 ?ct34 ?dt34 (by assumption) ?rt34; (case at34 => (simp only [List.getElem?_toArray, List.getElem?_cons_zero, List.getElem?_cons_succ]; rfl)); (case bt34 => exact fun _ _ _ h => h); (case ct34 => kernel_rfl); (case dt34 => (intro W hW; (try dsimp only at hW); go_split_ands; go_simp; (try with_reducible rfl))); (case' rt34 => simp only [Act.put, List.setIfInBounds_toArray, List.set_cons_zero, List.set_cons_succ]))
    refine held_one (i := 14) (oi := ?ot35) (by kernel_rfl) ?at35 ?ct35 (fun K14 hK14 => ?_)
    (case at35 => (simp only [List.getElem?_toArray, List.getElem?_cons_zero, List.getElem?_cons_succ]; rfl))
    (case ct35 => kernel_rfl)
    refine ow_store 24 _ _ rfl _ rfl _ rfl (HG.out.1.store #[.int .u32 (num a1), .int .u32 (num a2)] rfl infoR rfl) ?_
    have hga := HG.out.1.row #[.int .u32 (num a1), .int .u32 (num a2)]
    have hSb := below_row (show Below V.heap.size V _ from hS9) HG.out.2 #[.int .u32 (num a1), .int .u32 (num a2)]
    obtain ⟨X14, hX14⟩ : ∃ Z, Z = World.setRow y9 g #[.int .u32 (num a1), .int .u32 (num a2)] := ⟨_, rfl⟩
    rw [← hX14] at hga hSb
    have HG := Lib.hid hga
    rw [← hX14]
    clear hX14 hga
    refine hK14 _ _ hSb (fun hS14 => ?_)
    clear hSb hK14 K14
    (refine held_take (i := 15) (oi := ?ot36) (v := ?vt36) ?at36 (by kernel_rfl) (by kernel_rfl) (by kernel_rfl) ?bt36 ?ct36 ?dt36 (by assumption) ?rt36; (case at36 => (simp only [List.getElem?_toArray, List.getElem?_cons_zero, List.getElem?_cons_succ]; rfl)); (case bt36 => exact fun _ _ _ h => h); (case ct36 => kernel_rfl); (case dt36 => (intro W hW; (try dsimp only at hW); go_split_ands; go_simp; (try with_reducible rfl))); (case' rt36 => simp only [Act.put, List.setIfInBounds_toArray, List.set_cons_zero, List.set_cons_succ]))
    refine wpAnyH_done (by kernel_rfl) ?_ _
    have hX := hS14
    have K3 := Lib.hid (K2.out.under hX)
    have hO := B2.out.under hX
    have p0 : X14.cell? ⟨g, 0, none⟩ = some (.int .u32 (num a1)) := HG.out.cellAt 0 rfl
    have p1 : X14.cell? ⟨g, 1, none⟩ = some (.int .u32 (num a2)) := HG.out.cellAt 1 rfl
    have r0 : X14.cell? ⟨w.heap.size + 1, 0, none⟩ = some (.int .u32 (num s)) := K3.out.bx.cellAt 0 rfl
    have r1 : X14.cell? ⟨w.heap.size + 1, 1, none⟩ = some (.int .u32 (num v)) := K3.out.bx.cellAt 1 rfl
    have o0 : X14.cell? ⟨w2.heap.size, 0, none⟩ = some (.int .u32 (num o1)) := hO.cellAt 0 rfl
    have o1' : X14.cell? ⟨w2.heap.size, 1, none⟩ = some (.int .u32 (num o2)) := hO.cellAt 1 rfl
    clear hX hO hS14
    rcases HW.out with h | ⟨h, h1⟩ | ⟨h, h1, h2, h3⟩
    · subst h
      have q1 := Q1.out
      have q2 := Q2.out
      have q3 := Q3.out
      go_wp2_with fail
      go_ret
      exact ⟨rfl, K3.out.be⟩
    · subst h h1
      have q1 := Q1.out
      have q2 := Q2.out
      have q3 := Q3.out
      go_wp2_with fail
      go_ret
      exact ⟨rfl, K3.out.be⟩
    · subst h h1 h2 h3
      have q1 := Q1.out
      have q2 := Q2.out
      have q3 := Q3.out
      go_wp2_with fail
      go_ret
      exact ⟨rfl, K3.out.be⟩
end Go.Proofs.Ytdkjigdihfidgaa
