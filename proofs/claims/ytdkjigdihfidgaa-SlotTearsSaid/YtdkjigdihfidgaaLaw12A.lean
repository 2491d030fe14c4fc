/- The walk of SlotTells. -/
import Derived.Test.YtdkjigdihfidgaaAwake12
namespace Go.Proofs.Ytdkjigdihfidgaa
open Go.RowKit

/-- A record's box and four words' box. -/
structure Two (w W : World) (gr gq : Nat) (s v : W32) (f : Nat → W32) : Prop where
  bx : Blk W gr 24 #[.int .u32 (num s), .int .u32 (num v)]
  quad : Arr W gq 25 4 (wds f)
  be : Below w.heap.size w W
section
variable {w W W' : World} {gr gq : Nat} {s v : W32} {f : Nat → W32}
theorem Two.under (h : Two w W gr gq s v f) (hd : Below W.heap.size W W') : Two w W' gr gq s v f := ⟨h.bx.under hd, h.quad.under hd, h.be.trans (hd.mono h.be.size)⟩
theorem Two.alloc (h : Two w W gr gq s v f) (o : Obj) : Two w (W.alloc o) gr gq s v f := ⟨h.bx.alloc _, h.quad.alloc _, h.be.alloc h.be.size _⟩
theorem Two.loadR (h : Two w W gr gq s v f) : (loadVar 24 ⟨gr, 0, none⟩).run Try.prog W = .ok (.agg #[.int .u32 (num s), .int .u32 (num v)]) W := h.bx.load Try.underlying24 rfl infoR
theorem Two.loadQ (h : Two w W gr gq s v f) : (loadVar 25 ⟨gq, 0, none⟩).run Try.prog W = .ok (.agg (vec 4 (wds f))) W := run_load_arr h.quad Try.underlying25 rfl infoQ
end
attribute [local go_sem ↓ high] zeroQ
set_option maxRecDepth 100000 in
set_option maxHeartbeats 4000000 in
theorem slotTells_walk (id : Int) (s v : W32) (f : Nat → W32) (w : World) (_h1 : -9223372036854775808 ≤ id) (_h2 : id ≤ 9223372036854775807) :
    Calls Try.prog 3 #[.int .i64 id, .agg #[.int .u32 (num s), .int .u32 (num v)], .agg (vec 4 (wds f))] w fun e w' => e = .returned (.bool true) ∧ Below w.heap.size w w' := by
  obtain ⟨x, hx⟩ : ∃ x, IntKind.u32.wrap id = num x := ⟨_, (num_ofInt id).symm⟩
  have HA := Lib.hid (fun W => awake_any W)
  have HO := Lib.hid (fun W => of_any id x hx f W)
  have HRO := Lib.hid (fun W => rof_any id x hx f W)
  have HW := Lib.hid (fun W => words_any id x hx s v W)
  have HRW := Lib.hid (fun W => rwords_any id x hx s v W)
  have HC := Lib.hid (fun W => check_any id x hx s v W)
  have HRC := Lib.hid (fun W => rcheck_any id x hx s v W)
  have HOW : Hid (∀ W, Calls Try.prog 8 #[.int .i64 id, .agg (vec 4 (wds (recW x s v)))] W fun e w' => e = .returned (.tuple #[.agg #[.int .u32 (num s), .int .u32 (num v)], .bool true]) ∧ Below W.heap.size W w') := Lib.hid fun W => by
    have := of_any id x hx (recW x s v) W
    have h1 := isRec_rec x s v
    have h2 : ofS x (recW x s v) = s := by unfold ofS; rw [if_pos h1]; rfl
    have h3 : ofV x (recW x s v) = v := by unfold ofV; rw [if_pos h1]; rfl
    rw [h1, h2, h3] at this
    exact this
  clear hx _h1 _h2
  obtain ⟨V0, hV0⟩ : ∃ V0, V0 = (w.alloc (.cells #[.int .u32 (num s), .int .u32 (num v)] 24)).alloc (.cells (vec 4 (wds f)) 25) := ⟨_, rfl⟩
  have K0 : Hid (Two w V0 w.heap.size (w.heap.size + 1) s v f) := Lib.hid (by
    rw [hV0]
    exact ⟨(Blk.new _ _ _ rfl).alloc _, Arr.newAt _ _ _ _ (by simp), ((Below.refl _ _).alloc (Nat.le_refl _) _).alloc (by simp) _⟩)
  have HV0 := Lib.hid hV0
  clear hV0
  go_enter Try.func3, Try.ntmps3
  go_upto_region 1 with fail
  rw [← HV0.out]
  clear HV0
  go_upto_region 6 with (first
    | (go_at_call 7; refine (HA.out _).mono ?_; rintro e w1 ⟨rfl, hd⟩; have K1 := Lib.hid (K0.out.under hd); clear hd)
    | ((with_reducible show wpList _ _ _ (Oper.mk _ (.load 25 _) _ _ _ _ :: _) _ _); refine wl_load rfl 25 _ rfl _ rfl _ (K1.out.loadQ) ?_)
    | ((with_reducible show wpList _ _ _ (Oper.mk _ (.load 25 _) _ _ _ _ :: _) _ _); refine wl_load rfl 25 _ rfl _ rfl _ ((K2.out.alloc _).loadQ) ?_)
    | ((with_reducible show wpList _ _ _ (Oper.mk _ (.load 24 _) _ _ _ _ :: _) _ _); refine wl_load rfl 24 _ rfl _ rfl _ ((K3.out.alloc _).loadR) ?_)
    | (go_at_call 8; (with_reducible show Calls _ _ #[_, .agg (vec 4 (wds f))] _ _); refine (HO.out _).mono ?_; rintro e w2 ⟨rfl, hd⟩; have K2 := Lib.hid (K1.out.under hd); clear hd)
    | (go_at_call 9; refine (HRO.out _).mono ?_; rintro e w3 ⟨rfl, hd⟩; have K3 := Lib.hid ((K2.out.alloc _).under hd); have B3 := Lib.hid ((Blk.new w2 _ _ rfl).under hd); clear hd)
    | (go_at_call 10; refine (HW.out _).mono ?_; rintro e w4 ⟨rfl, hd⟩; have K4 := Lib.hid ((K3.out.alloc _).under hd); have B4 := Lib.hid (And.intro ((B3.out.alloc _).under hd) ((Blk.new w3 _ _ rfl).under hd)); clear hd)
    | (go_at_call 8; refine (HOW.out _).mono ?_; rintro e w5 ⟨rfl, hd⟩; have K5 := Lib.hid (K4.out.under hd); have B5 := Lib.hid (And.intro (B4.out.1.under hd) (B4.out.2.under hd)); clear hd))
  obtain ⟨V, hV⟩ : ∃ V, V = w5.alloc (.cells #[.int .u32 (num s), .int .u32 (num v)] 24) := ⟨_, rfl⟩
  have K6 : Hid (Two w V w.heap.size (w.heap.size + 1) s v f) := Lib.hid (by rw [hV]; exact K5.out.alloc _)
  have B6 : Hid (Blk V w2.heap.size 24 #[.int .u32 (num (ofS x f)), .int .u32 (num (ofV x f))] ∧ Blk V w3.heap.size 24 #[.int .u32 (num (ofS x f)), .int .u32 (num (ofV x f))] ∧ Blk V w5.heap.size 24 #[.int .u32 (num s), .int .u32 (num v)]) := Lib.hid (by
    rw [hV]; exact ⟨B5.out.1.alloc _, B5.out.2.alloc _, Blk.new _ _ _ rfl⟩)
  rw [← hV]
  clear hV K0 K1 K2 K3 K4 K5 B3 B4 B5
  have HR : Hid (∀ W, VS V W → (loadVar 24 ⟨w.heap.size, 0, none⟩).run Try.prog W = .ok (.agg #[.int .u32 (num s), .int .u32 (num v)]) W) := Lib.hid fun W hW => (K6.out.under hW).loadR
  have H7 : Hid (∀ W, VS V W → (loadVar 24 ⟨w2.heap.size, 0, none⟩).run Try.prog W = .ok (.agg #[.int .u32 (num (ofS x f)), .int .u32 (num (ofV x f))]) W) := Lib.hid fun W hW => (B6.out.1.under hW).load Try.underlying24 rfl infoR
  have H9 : Hid (∀ W, VS V W → (loadVar 24 ⟨w3.heap.size, 0, none⟩).run Try.prog W = .ok (.agg #[.int .u32 (num (ofS x f)), .int .u32 (num (ofV x f))]) W) := Lib.hid fun W hW => (B6.out.2.1.under hW).load Try.underlying24 rfl infoR
  have HZ : Hid (∀ W, VS V W → (loadVar 24 ⟨w5.heap.size, 0, none⟩).run Try.prog W = .ok (.agg #[.int .u32 (num s), .int .u32 (num v)]) W) := Lib.hid fun W hW => (B6.out.2.2.under hW).load Try.underlying24 rfl infoR
  refine wp_region_held_drew (S := fun Y => VS V Y) (by kernel_rfl) (VS.begin V) (fun hS => ?_)
  (refine held_take (i := 0) (oi := ?ot1) (v := ?vt1) ?at1 (by kernel_rfl) (by kernel_rfl) (by kernel_rfl) ?bt1 ?ct1 ?dt1 (by assumption) ?rt1; (case at1 => (simp only [List.getElem?_toArray, List.getElem?_cons_zero]; rfl)); (case bt1 => exact fun _ _ _ h => h); (case ct1 => kernel_rfl); (case dt1 => (intro W hW; (try dsimp only at hW); go_split_ands; go_simp; (try with_reducible rfl))); (case' rt1 => simp only [Act.put, List.setIfInBounds_toArray, List.set_cons_zero, List.set_cons_succ]))
  (refine held_take (i := 1) (oi := ?ot2) (v := .agg #[.int .u32 (num s), .int .u32 (num v)]) ?at2 (by kernel_rfl) (by kernel_rfl) (by kernel_rfl) ?bt2 ?ct2 ?dt2 (by assumption) ?rt2; (case at2 => (simp only [List.getElem?_toArray, List.getElem?_cons_zero, List.getElem?_cons_succ]; rfl)); (case bt2 => exact fun _ _ _ h => h); (case ct2 => kernel_rfl); (case dt2 => (intro W hW; exact exec_load _ _ rfl _ rfl _ (HR.out W hW))); (case' rt2 => simp only [Act.put, List.setIfInBounds_toArray, List.set_cons_zero, List.set_cons_succ]))
  (refine held_take (i := 3) (oi := ?ot3) (v := ?vt3) ?at3 (by kernel_rfl) (by kernel_rfl) (by kernel_rfl) ?bt3 ?ct3 ?dt3 (by assumption) ?rt3; (case at3 => (simp only [List.getElem?_toArray, List.getElem?_cons_zero, List.getElem?_cons_succ]; rfl)); (case bt3 => exact fun _ _ _ h => h); (case ct3 => kernel_rfl); (case dt3 => (intro W hW; (try dsimp only at hW); go_split_ands; go_simp; (try with_reducible rfl))); (case' rt3 => simp only [Act.put, List.setIfInBounds_toArray, List.set_cons_zero, List.set_cons_succ]))
  (refine held_take (i := 4) (oi := ?ot4) (v := .agg #[.int .u32 (num s), .int .u32 (num v)]) ?at4 (by kernel_rfl) (by kernel_rfl) (by kernel_rfl) ?bt4 ?ct4 ?dt4 (by assumption) ?rt4; (case at4 => (simp only [List.getElem?_toArray, List.getElem?_cons_zero, List.getElem?_cons_succ]; rfl)); (case bt4 => exact fun _ _ _ h => h); (case ct4 => kernel_rfl); (case dt4 => (intro W hW; exact exec_load _ _ rfl _ rfl _ (HR.out W hW))); (case' rt4 => simp only [Act.put, List.setIfInBounds_toArray, List.set_cons_zero, List.set_cons_succ]))
  refine held_one (i := 2) (oi := ?ot5) (by kernel_rfl) ?at5 ?ct5 (fun K2 hK2 => ?_)
  (case at5 => (simp only [List.getElem?_toArray, List.getElem?_cons_zero, List.getElem?_cons_succ]; rfl))
  (case ct5 => kernel_rfl)
  have hSb := hS
  go_simp
  refine (HC.out _).mono ?_
  rintro e y2 ⟨rfl, hd⟩
  refine hK2 _ _ (hSb.keep hd) (fun hS2 => ?_)
  clear hS hSb hd hK2 K2
  refine held_one (i := 5) (oi := ?ot6) (by kernel_rfl) ?at6 ?ct6 (fun K5 hK5 => ?_)
  (case at6 => (simp only [List.getElem?_toArray, List.getElem?_cons_zero, List.getElem?_cons_succ]; rfl))
  (case ct6 => kernel_rfl)
  have hSb := hS2
  go_simp
  refine (HRC.out _).mono ?_
  rintro e y5 ⟨rfl, hd⟩
  refine hK5 _ _ (hSb.keep hd) (fun hS5 => ?_)
  clear hS2 hSb hd hK5 K5
  (refine held_take (i := 6) (oi := ?ot7) (v := .bool true) ?at7 (by kernel_rfl) (by kernel_rfl) (by kernel_rfl) ?bt7 ?ct7 ?dt7 (by assumption) ?rt7; (case at7 => (simp only [List.getElem?_toArray, List.getElem?_cons_zero, List.getElem?_cons_succ]; rfl)); (case bt7 => exact fun _ _ _ h => h); (case ct7 => kernel_rfl); (case dt7 => (intro W hW; clear hW; go_simp; (try with_reducible rfl))); (case' rt7 => simp only [Act.put, List.setIfInBounds_toArray, List.set_cons_zero, List.set_cons_succ]))
  (refine held_take (i := 7) (oi := ?ot8) (v := ?vt8) ?at8 (by kernel_rfl) (by kernel_rfl) (by kernel_rfl) ?bt8 ?ct8 ?dt8 (by assumption) ?rt8; (case at8 => (simp only [List.getElem?_toArray, List.getElem?_cons_zero, List.getElem?_cons_succ]; rfl)); (case bt8 => exact fun _ _ _ h => h); (case ct8 => kernel_rfl); (case dt8 => (intro W hW; (try dsimp only at hW); go_split_ands; go_simp; (try with_reducible rfl))); (case' rt8 => simp only [Act.put, List.setIfInBounds_toArray, List.set_cons_zero, List.set_cons_succ]))
  (refine held_take (i := 8) (oi := ?ot9) (v := ?vt9) ?at9 (by kernel_rfl) (by kernel_rfl) (by kernel_rfl) ?bt9 ?ct9 ?dt9 (by assumption) ?rt9; (case at9 => (simp only [List.getElem?_toArray, List.getElem?_cons_zero, List.getElem?_cons_succ]; rfl)); (case bt9 => exact fun _ _ _ h => h); (case ct9 => kernel_rfl); (case dt9 => (intro W hW; (try dsimp only at hW); go_split_ands; go_simp; (try with_reducible rfl))); (case' rt9 => simp only [Act.put, List.setIfInBounds_toArray, List.set_cons_zero, List.set_cons_succ]))
  (refine held_take (i := 9) (oi := ?ot10) (v := .agg #[.int .u32 (num s), .int .u32 (num v)]) ?at10 (by kernel_rfl) (by kernel_rfl) (by kernel_rfl) ?bt10 ?ct10 ?dt10 (by assumption) ?rt10; (case at10 => (simp only [List.getElem?_toArray, List.getElem?_cons_zero, List.getElem?_cons_succ]; rfl)); (case bt10 => exact fun _ _ _ h => h); (case ct10 => kernel_rfl); (case dt10 => (intro W hW; exact exec_load _ _ rfl _ rfl _ (HR.out W hW))); (case' rt10 => simp only [Act.put, List.setIfInBounds_toArray, List.set_cons_zero, List.set_cons_succ]))
  (refine held_take (i := 11) (oi := ?ot11) (v := ?vt11) ?at11 (by kernel_rfl) (by kernel_rfl) (by kernel_rfl) ?bt11 ?ct11 ?dt11 (by assumption) ?rt11; (case at11 => (simp only [List.getElem?_toArray, List.getElem?_cons_zero, List.getElem?_cons_succ]; rfl)); (case bt11 => exact fun _ _ _ h => h); (case ct11 => kernel_rfl); (case dt11 => (intro W hW; (try dsimp only at hW); go_split_ands; go_simp; (try with_reducible rfl))); (case' rt11 => simp only [Act.put, List.setIfInBounds_toArray, List.set_cons_zero, List.set_cons_succ]))
  (refine held_take (i := 12) (oi := ?ot12) (v := .agg #[.int .u32 (num s), .int .u32 (num v)]) ?at12 (by kernel_rfl) (by kernel_rfl) (by kernel_rfl) ?bt12 ?ct12 ?dt12 (by assumption) ?rt12; (case at12 => (simp only [List.getElem?_toArray, List.getElem?_cons_zero, List.getElem?_cons_succ]; rfl)); (case bt12 => exact fun _ _ _ h => h); (case ct12 => kernel_rfl); (case dt12 => (intro W hW; exact exec_load _ _ rfl _ rfl _ (HR.out W hW))); (case' rt12 => simp only [Act.put, List.setIfInBounds_toArray, List.set_cons_zero, List.set_cons_succ]))
  refine held_one (i := 10) (oi := ?ot13) (by kernel_rfl) ?at13 ?ct13 (fun K10 hK10 => ?_)
  (case at13 => (simp only [List.getElem?_toArray, List.getElem?_cons_zero, List.getElem?_cons_succ]; rfl))
  (case ct13 => kernel_rfl)
  have hSb := hS5
  go_simp
  refine (HW.out _).mono ?_
  rintro e y10 ⟨rfl, hd⟩
  refine hK10 _ _ (hSb.keep hd) (fun hS10 => ?_)
  clear hS5 hSb hd hK10 K10
  refine held_one (i := 13) (oi := ?ot14) (by kernel_rfl) ?at14 ?ct14 (fun K13 hK13 => ?_)
  (case at14 => (simp only [List.getElem?_toArray, List.getElem?_cons_zero, List.getElem?_cons_succ]; rfl))
  (case ct14 => kernel_rfl)
  have hSb := hS10
  go_simp
  refine (HRW.out _).mono ?_
  rintro e y13 ⟨rfl, hd⟩
  refine hK13 _ _ (hSb.keep hd) (fun hS13 => ?_)
  clear hS10 hSb hd hK13 K13
  (refine held_take (i := 14) (oi := ?ot15) (v := .bool true) ?at15 (by kernel_rfl) (by kernel_rfl) (by kernel_rfl) ?bt15 ?ct15 ?dt15 (by assumption) ?rt15; (case at15 => (simp only [List.getElem?_toArray, List.getElem?_cons_zero, List.getElem?_cons_succ]; rfl)); (case bt15 => exact fun _ _ _ h => h); (case ct15 => kernel_rfl); (case dt15 => (intro W _; exact exec_eql4 _ _ _ rfl _ _ rfl rfl W (quadEq_self _))); (case' rt15 => simp only [Act.put, List.setIfInBounds_toArray, List.set_cons_zero, List.set_cons_succ]))
  (refine held_take (i := 15) (oi := ?ot16) (v := ?vt16) ?at16 (by kernel_rfl) (by kernel_rfl) (by kernel_rfl) ?bt16 ?ct16 ?dt16 (by assumption) ?rt16; (case at16 => (simp only [List.getElem?_toArray, List.getElem?_cons_zero, List.getElem?_cons_succ]; rfl)); (case bt16 => exact fun _ _ _ h => h); (case ct16 => kernel_rfl); (case dt16 => (intro W hW; (try dsimp only at hW); go_split_ands; go_simp; (try with_reducible rfl))); (case' rt16 => simp only [Act.put, List.setIfInBounds_toArray, List.set_cons_zero, List.set_cons_succ]))
  (refine held_take (i := 16) (oi := ?ot17) (v := ?vt17) ?at17 (by kernel_rfl) (by kernel_rfl) (by kernel_rfl) ?bt17 ?ct17 ?dt17 (by assumption) ?rt17; (case at17 => (simp only [List.getElem?_toArray, List.getElem?_cons_zero, List.getElem?_cons_succ]; rfl)); (case bt17 => exact fun _ _ _ h => h); (case ct17 => kernel_rfl); (case dt17 => (intro W hW; (try dsimp only at hW); go_split_ands; go_simp; (try with_reducible rfl))); (case' rt17 => simp only [Act.put, List.setIfInBounds_toArray, List.set_cons_zero, List.set_cons_succ]))
  (refine held_take (i := 17) (oi := ?ot18) (v := .agg #[.int .u32 (num (ofS x f)), .int .u32 (num (ofV x f))]) ?at18 (by kernel_rfl) (by kernel_rfl) (by kernel_rfl) ?bt18 ?ct18 ?dt18 (by assumption) ?rt18; (case at18 => (simp only [List.getElem?_toArray, List.getElem?_cons_zero, List.getElem?_cons_succ]; rfl)); (case bt18 => exact fun _ _ _ h => h); (case ct18 => kernel_rfl); (case dt18 => (intro W hW; exact exec_load _ _ rfl _ rfl _ (H7.out W hW))); (case' rt18 => simp only [Act.put, List.setIfInBounds_toArray, List.set_cons_zero, List.set_cons_succ]))
  (refine held_take (i := 18) (oi := ?ot19) (v := .agg #[.int .u32 (num (ofS x f)), .int .u32 (num (ofV x f))]) ?at19 (by kernel_rfl) (by kernel_rfl) (by kernel_rfl) ?bt19 ?ct19 ?dt19 (by assumption) ?rt19; (case at19 => (simp only [List.getElem?_toArray, List.getElem?_cons_zero, List.getElem?_cons_succ]; rfl)); (case bt19 => exact fun _ _ _ h => h); (case ct19 => kernel_rfl); (case dt19 => (intro W hW; exact exec_load _ _ rfl _ rfl _ (H9.out W hW))); (case' rt19 => simp only [Act.put, List.setIfInBounds_toArray, List.set_cons_zero, List.set_cons_succ]))
  (refine held_take (i := 19) (oi := ?ot20) (v := .bool true) ?at20 (by kernel_rfl) (by kernel_rfl) (by kernel_rfl) ?bt20 ?ct20 ?dt20 (by assumption) ?rt20; (case at20 => (simp only [List.getElem?_toArray, List.getElem?_cons_zero, List.getElem?_cons_succ]; rfl)); (case bt20 => exact fun _ _ _ h => h); (case ct20 => kernel_rfl); (case dt20 => (intro W _; exact exec_eqlR _ _ _ rfl _ _ _ _ rfl rfl W (by simp))); (case' rt20 => simp only [Act.put, List.setIfInBounds_toArray, List.set_cons_zero, List.set_cons_succ]))
  (refine held_take (i := 20) (oi := ?ot21) (v := ?vt21) ?at21 (by kernel_rfl) (by kernel_rfl) (by kernel_rfl) ?bt21 ?ct21 ?dt21 (by assumption) ?rt21; (case at21 => (simp only [List.getElem?_toArray, List.getElem?_cons_zero, List.getElem?_cons_succ]; rfl)); (case bt21 => exact fun _ _ _ h => h); (case ct21 => kernel_rfl); (case dt21 => (intro W hW; (try dsimp only at hW); go_split_ands; go_simp; (try with_reducible rfl))); (case' rt21 => simp only [Act.put, List.setIfInBounds_toArray, List.set_cons_zero, List.set_cons_succ]))
  (refine held_take (i := 21) (oi := ?ot22) (v := ?vt22) ?at22 (by kernel_rfl) (by kernel_rfl) (by kernel_rfl) ?bt22 ?ct22 ?dt22 (by assumption) ?rt22; (case at22 => (simp only [List.getElem?_toArray, List.getElem?_cons_zero, List.getElem?_cons_succ]; rfl)); (case bt22 => exact fun _ _ _ h => h); (case ct22 => kernel_rfl); (case dt22 => (intro W hW; (try dsimp only at hW); go_split_ands; go_simp; (try with_reducible rfl))); (case' rt22 => simp only [Act.put, List.setIfInBounds_toArray, List.set_cons_zero, List.set_cons_succ]))
  (refine held_take (i := 22) (oi := ?ot23) (v := ?vt23) ?at23 (by kernel_rfl) (by kernel_rfl) (by kernel_rfl) ?bt23 ?ct23 ?dt23 (by assumption) ?rt23; (case at23 => (simp only [List.getElem?_toArray, List.getElem?_cons_zero, List.getElem?_cons_succ]; rfl)); (case bt23 => exact fun _ _ _ h => h); (case ct23 => kernel_rfl); (case dt23 => (intro W hW; (try dsimp only at hW); go_split_ands; go_simp; (try with_reducible rfl))); (case' rt23 => simp only [Act.put, List.setIfInBounds_toArray, List.set_cons_zero, List.set_cons_succ]))
  (refine held_take (i := 23) (oi := ?ot24) (v := ?vt24) ?at24 (by kernel_rfl) (by kernel_rfl) (by kernel_rfl) ?bt24 ?ct24 ?dt24 (by assumption) ?rt24; (case at24 => (simp only [List.getElem?_toArray, List.getElem?_cons_zero, List.getElem?_cons_succ]; rfl)); (case bt24 => exact fun _ _ _ h => h); (case ct24 => kernel_rfl); (case dt24 => (intro W hW; (try dsimp only at hW); go_split_ands; go_simp; (try with_reducible rfl))); (case' rt24 => simp only [Act.put, List.setIfInBounds_toArray, List.set_cons_zero, List.set_cons_succ]))
  (refine held_take (i := 24) (oi := ?ot25) (v := .bool true) ?at25 (by kernel_rfl) (by kernel_rfl) (by kernel_rfl) ?bt25 ?ct25 ?dt25 (by assumption) ?rt25; (case at25 => (simp only [List.getElem?_toArray, List.getElem?_cons_zero, List.getElem?_cons_succ]; rfl)); (case bt25 => exact fun _ _ _ h => h); (case ct25 => kernel_rfl); (case dt25 => (intro W hW; clear hW; go_simp; (try with_reducible rfl))); (case' rt25 => simp only [Act.put, List.setIfInBounds_toArray, List.set_cons_zero, List.set_cons_succ]))
  (refine held_take (i := 25) (oi := ?ot26) (v := ?vt26) ?at26 (by kernel_rfl) (by kernel_rfl) (by kernel_rfl) ?bt26 ?ct26 ?dt26 (by assumption) ?rt26; (case at26 => (simp only [List.getElem?_toArray, List.getElem?_cons_zero, List.getElem?_cons_succ]; rfl)); (case bt26 => exact fun _ _ _ h => h); (case ct26 => kernel_rfl); (case dt26 => (intro W hW; (try dsimp only at hW); go_split_ands; go_simp; (try with_reducible rfl))); (case' rt26 => simp only [Act.put, List.setIfInBounds_toArray, List.set_cons_zero, List.set_cons_succ]))
  (refine held_take (i := 26) (oi := ?ot27) (v := ?vt27) ?at27 (by kernel_rfl) (by kernel_rfl) (by kernel_rfl) ?bt27 ?ct27 ?dt27 (by assumption) ?rt27; (case at27 => (simp only [List.getElem?_toArray, List.getElem?_cons_zero, List.getElem?_cons_succ]; rfl)); (case bt27 => exact fun _ _ _ h => h); (case ct27 => kernel_rfl); (case dt27 => (intro W hW; (try dsimp only at hW); go_split_ands; go_simp; (try with_reducible rfl))); (case' rt27 => simp only [Act.put, List.setIfInBounds_toArray, List.set_cons_zero, List.set_cons_succ]))
  (refine held_take (i := 27) (oi := ?ot28) (v := ?vt28) ?at28 (by kernel_rfl) (by kernel_rfl) (by kernel_rfl) ?bt28 ?ct28 ?dt28 (by assumption) ?rt28; (case at28 => (simp only [List.getElem?_toArray, List.getElem?_cons_zero, List.getElem?_cons_succ]; rfl)); (case bt28 => exact fun _ _ _ h => h); (case ct28 => kernel_rfl); (case dt28 => (intro W hW; (try dsimp only at hW); go_split_ands; go_simp; (try with_reducible rfl))); (case' rt28 => simp only [Act.put, List.setIfInBounds_toArray, List.set_cons_zero, List.set_cons_succ]))
  (refine held_take (i := 28) (oi := ?ot29) (v := ?vt29) ?at29 (by kernel_rfl) (by kernel_rfl) (by kernel_rfl) ?bt29 ?ct29 ?dt29 (by assumption) ?rt29; (case at29 => (simp only [List.getElem?_toArray, List.getElem?_cons_zero, List.getElem?_cons_succ]; rfl)); (case bt29 => exact fun _ _ _ h => h); (case ct29 => kernel_rfl); (case dt29 => (intro W hW; (try dsimp only at hW); go_split_ands; go_simp; (try with_reducible rfl))); (case' rt29 => simp only [Act.put, List.setIfInBounds_toArray, List.set_cons_zero, List.set_cons_succ]))
  (refine held_take (i := 29) (oi := ?ot30) (v := ?vt30) ?at30 (by kernel_rfl) (by kernel_rfl) (by kernel_rfl) ?bt30 ?ct30 ?dt30 (by assumption) ?rt30; (case at30 => (simp only [List.getElem?_toArray, List.getElem?_cons_zero, List.getElem?_cons_succ]; rfl)); (case bt30 => exact fun _ _ _ h => h); (case ct30 => kernel_rfl); (case dt30 => (intro W hW; (try dsimp only at hW); go_split_ands; go_simp; (try with_reducible rfl))); (case' rt30 => simp only [Act.put, List.setIfInBounds_toArray, List.set_cons_zero, List.set_cons_succ]))
  (refine held_take (i := 30) (oi := ?ot31) (v := .agg #[.int .u32 (num s), .int .u32 (num v)]) ?at31 (by kernel_rfl) (by kernel_rfl) (by kernel_rfl) ?bt31 ?ct31 ?dt31 (by assumption) ?rt31; (case at31 => (simp only [List.getElem?_toArray, List.getElem?_cons_zero, List.getElem?_cons_succ]; rfl)); (case bt31 => exact fun _ _ _ h => h); (case ct31 => kernel_rfl); (case dt31 => (intro W hW; exact exec_load _ _ rfl _ rfl _ (HZ.out W hW))); (case' rt31 => simp only [Act.put, List.setIfInBounds_toArray, List.set_cons_zero, List.set_cons_succ]))
  (refine held_take (i := 31) (oi := ?ot32) (v := .agg #[.int .u32 (num s), .int .u32 (num v)]) ?at32 (by kernel_rfl) (by kernel_rfl) (by kernel_rfl) ?bt32 ?ct32 ?dt32 (by assumption) ?rt32; (case at32 => (simp only [List.getElem?_toArray, List.getElem?_cons_zero, List.getElem?_cons_succ]; rfl)); (case bt32 => exact fun _ _ _ h => h); (case ct32 => kernel_rfl); (case dt32 => (intro W hW; exact exec_load _ _ rfl _ rfl _ (HR.out W hW))); (case' rt32 => simp only [Act.put, List.setIfInBounds_toArray, List.set_cons_zero, List.set_cons_succ]))
  (refine held_take (i := 32) (oi := ?ot33) (v := .bool true) ?at33 (by kernel_rfl) (by kernel_rfl) (by kernel_rfl) ?bt33 ?ct33 ?dt33 (by assumption) ?rt33; (case at33 => (simp only [List.getElem?_toArray, List.getElem?_cons_zero, List.getElem?_cons_succ]; rfl)); (case bt33 => exact fun _ _ _ h => h); (case ct33 => kernel_rfl); (case dt33 => (intro W _; exact exec_eqlR _ _ _ rfl _ _ _ _ rfl rfl W (by simp))); (case' rt33 => simp only [Act.put, List.setIfInBounds_toArray, List.set_cons_zero, List.set_cons_succ]))
  (refine held_take (i := 33) (oi := ?ot34) (v := ?vt34) ?at34 (by kernel_rfl) (by kernel_rfl) (by kernel_rfl) ?bt34 ?ct34 ?dt34 (by assumption) ?rt34; (case at34 => (simp only [List.getElem?_toArray, List.getElem?_cons_zero, List.getElem?_cons_succ]; rfl)); (case bt34 => exact fun _ _ _ h => h); (case ct34 => kernel_rfl); (case dt34 => (intro W hW; (try dsimp only at hW); go_split_ands; go_simp; (try with_reducible rfl))); (case' rt34 => simp only [Act.put, List.setIfInBounds_toArray, List.set_cons_zero, List.set_cons_succ]))
  (refine held_take (i := 34) (oi := ?ot35) (v := ?vt35) ?at35 (by kernel_rfl) (by kernel_rfl) (by kernel_rfl) ?bt35 ?ct35 ?dt35 (by assumption) ?rt35; (case at35 => (simp only [List.getElem?_toArray, List.getElem?_cons_zero, List.getElem?_cons_succ]; rfl)); (case bt35 => exact fun _ _ _ h => h); (case ct35 => kernel_rfl); (case dt35 => (intro W hW; (try dsimp only at hW); go_split_ands; go_simp; (try with_reducible rfl))); (case' rt35 => simp only [Act.put, List.setIfInBounds_toArray, List.set_cons_zero, List.set_cons_succ]))
  refine wpAnyH_done (by kernel_rfl) ?_ _
  have HS := Lib.hid hS13
  clear hS13
  go_wp2
  go_ret
  exact ⟨rfl, HS.out.below0 K6.out.be⟩
end Go.Proofs.Ytdkjigdihfidgaa
