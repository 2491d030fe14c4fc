/- The code: mixed, Check, Words, Of. -/
import Derived.Test.YtpeebdhbcglibaaQe
import Derived.Great.BuildSlice
namespace Go.Proofs.Ytpeebdhbcglibaa
open Go.RowKit

attribute [local go_sem ↓ high] zeroQ
attribute [local go_sem] num_xor num_add num_mul num_or num_and num_andn
set_option maxRecDepth 100000 in
theorem results_ct {fn : Func} {p q : Tmp} {ty : TypeId} {P : Program} {w : World} (h : fn.results = #[.cell p ty, .tmp q]) (tmps : Array Value) (g : Nat) (v : Value)
    (ha : tmps.getD p undef = .pointer (some ⟨g, 0, none⟩)) (hl : (loadVar ty ⟨g, 0, none⟩).run P w = .ok v w) : (results fn tmps).run P w = .ok (.tuple #[v, tmps.getD q undef]) w := by
  have hp' : tmps[p]?.getD undef = .pointer (some ⟨g, 0, none⟩) := by simpa using ha
  simp [results, h, hp', asAddr, hl]
set_option maxRecDepth 100000 in
theorem rot15 (y : W32) (w : World) : Calls Try.prog 61 #[.int .u32 (num y), .int .i64 15] w fun e w' => e = .returned (.int .u32 (num (rotW y))) ∧ w = w' := by
  have e : bits BinOp.and .u64 15 31 = 15 := by decide
  have e2 : IntKind.u32.wrap (num y * 32768) = num (y <<< 15) := num_shl y 15
  have e3 : num y / (131072 : Int) = num (y >>> 17) := num_shr y 17
  go_enter Try.func61, Try.ntmps61
  go_wp2
  go_ret
  exact ⟨rfl, rfl⟩
set_option maxRecDepth 100000 in
theorem u32_at {w : World} {B : Nat} {A : Option Addr} {l : List W32} (h : Lies w B 1 A l.length (u32s l)) {k : Nat} (hk : k < l.length) : ∃ a, A = some a ∧ w.cell? (a.add k) = some (.int .u32 (num l[k])) := by
  obtain ⟨a, e, _, hc⟩ := h.2 (by omega)
  refine ⟨a, e, ?_⟩
  rw [hc k (by rw [u32s_length]; exact hk)]
  simp [u32s]
set_option maxRecDepth 100000 in
theorem blk_lies32 {w : World} {g : Nat} {l : List W32} (h : Blk w g 30 (u32s l).toArray) : Lies w w.heap.size 1 (some ⟨g, 0, none⟩) l.length (u32s l) := by
  refine ⟨by rw [u32s_length]; omega, fun _ => ⟨_, rfl, h.lt, fun j hj => ?_⟩⟩
  have e : ((⟨g, 0, none⟩ : Addr).add j) = ⟨g, j, none⟩ := by unfold Addr.add; by_cases h0 : j = 0 <;> simp [h0]
  rw [e, h.cell j]
  simp
set_option maxRecDepth 100000 in
theorem fold_take (l : List W32) (k : Nat) (h : k < l.length) (x : W32) : (l.take (k + 1)).foldl mixW x = mixW ((l.take k).foldl mixW x) l[k] := by
  rw [List.take_succ_eq_append_getElem h, List.foldl_append]
  rfl
set_option maxRecDepth 100000 in
theorem fac_eq : (2654435761 : Int) = num fac := rfl
set_option maxRecDepth 100000 in
set_option maxHeartbeats 1000000 in
theorem mixed_any (A : Option Addr) (c : Nat) (l : List W32) (hl : l.length ≤ 1000) (w : World) (hA : Lies w w.heap.size 1 A l.length (u32s l)) :
    Calls Try.prog 57 #[.slice A l.length c] w fun e w' => e = .returned (.int .u32 (num (l.foldl mixW base0))) ∧ w = w' := by
  have HA := Lib.hid hA
  have HL := Lib.hid hl
  clear hA
  go_enter Try.func57, Try.ntmps57
  go_wp2
  go_loopw [3, 8] (fun xi i wr => ∃ k : Nat, k ≤ l.length ∧ i = .int .i64 k ∧ xi = .int .u32 (num ((l.take k).foldl mixW base0)) ∧ Hid (w = wr)) (fun _ i _ => l.length - (intOf i).toNat)
  case atStart => exact ⟨0, Nat.zero_le _, rfl, rfl, Lib.hid rfl⟩
  case round =>
    obtain ⟨k, hk, rfl, rfl, hN⟩ := hrel
    obtain rfl := hN.out
    clear hN
    by_cases hlt : k < l.length
    · obtain ⟨a, ha, hca⟩ := u32_at HA.out hlt
      subst ha
      have HT := Lib.hid (fold_take l k hlt base0)
      obtain ⟨x, hx⟩ : ∃ x, l[k] = x := ⟨_, rfl⟩
      rw [hx] at hca HT
      obtain ⟨y, hy⟩ : ∃ y, (l.take k).foldl mixW base0 = y := ⟨_, rfl⟩
      rw [hy] at HT ⊢
      have HK := Lib.hid hlt
      have h0 : (k : Int) < (l.length : Int) := by omega
      have e4 : IntKind.u32.wrap (num (y ^^^ x) * 2654435761) = num ((y ^^^ x) * fac) := by rw [fac_eq]; exact num_mul _ _
      clear hx hy hk
      go_wp2_with (go_at_call 61; refine (rot15 _ _).mono ?_; rintro e w1 ⟨rfl, rfl⟩)
      go_roundw
      case rel => exact ⟨k + 1, HK.out, by go_num, by rw [HT.out]; rfl, Lib.hid (by first | trivial | rfl)⟩
      case measure => have := HK.out; simp [intOf]; omega
    · obtain rfl : k = l.length := by omega
      rw [List.take_length]
      clear hlt hk
      go_wp2
      go_ret
      exact ⟨rfl, rfl⟩
set_option maxRecDepth 100000 in
set_option maxHeartbeats 1000000 in
theorem check_any (id : Int) (x : W32) (hx : IntKind.u32.wrap id = num x) (s v : W32) (w : World) :
    Calls Try.prog 46 #[.int .i64 id, .agg #[.int .u32 (num s), .int .u32 (num v)]] w fun e w' => e = .returned (.int .u32 (num (sumW x s v))) ∧ Below w.heap.size w w' := by
  obtain ⟨V, hV⟩ : ∃ V, V = (w.alloc (.cells #[.int .u32 (num s), .int .u32 (num v)] 35)).alloc (.cells #[.int .u32 (num x), .int .u32 (num s), .int .u32 (num v)] 30) := ⟨_, rfl⟩
  have hb : Blk V (w.heap.size + 1) 30 (u32s [x, s, v]).toArray := by rw [hV]; exact Blk.new _ _ _ (by simp)
  have HB : Hid (Below w.heap.size w V) := Lib.hid (by rw [hV]; exact ((Below.refl _ _).alloc (Nat.le_refl _) _).alloc (by simp) _)
  have HM : Hid (Calls Try.prog 57 #[.slice (some ⟨w.heap.size + 1, 0, none⟩) 3 3] V fun e w' => e = .returned (.int .u32 (num (sumW x s v))) ∧ V = w') := Lib.hid (mixed_any (some ⟨w.heap.size + 1, 0, none⟩) 3 [x, s, v] (by simp) V (blk_lies32 hb))
  have HV := Lib.hid hV
  clear hV hb
  go_enter Try.func46, Try.ntmps46
  go_wp2_with (go_at_call 57; rw [← HV.out]; refine HM.out.mono ?_; rintro e w1 ⟨rfl, rfl⟩)
  go_ret
  exact ⟨rfl, HB.out⟩
set_option maxRecDepth 100000 in
set_option maxHeartbeats 1000000 in
theorem words_any (id : Int) (x : W32) (hx : IntKind.u32.wrap id = num x) (s v : W32) (w : World) :
    Calls Try.prog 38 #[.int .i64 id, .agg #[.int .u32 (num s), .int .u32 (num v)]] w fun e w' => e = .returned (.agg (vec 4 (wds (recW x s v)))) ∧ Below w.heap.size w w' := by
  have HC := Lib.hid (fun W => check_any id x hx s v W)
  clear hx
  go_enter Try.func38, Try.ntmps38
  go_upto_region 1 with fail
  obtain ⟨V, hV⟩ : ∃ V, V = (w.alloc (.cells #[.int .u32 (num s), .int .u32 (num v)] 35)).alloc (.cells (vec 4 (wds zw)) 73) := ⟨_, rfl⟩
  have hR : Blk V w.heap.size 35 #[.int .u32 (num s), .int .u32 (num v)] := by rw [hV]; exact (Blk.new _ _ _ rfl).alloc _
  have hQ : Arr V (w.heap.size + 1) 73 4 (wds zw) := by rw [hV]; exact Arr.newAt _ _ _ _ (by simp)
  have HB : Hid (Below w.heap.size w V) := Lib.hid (by rw [hV]; exact ((Below.refl _ _).alloc (Nat.le_refl _) _).alloc (by simp) _)
  have HF : Hid (∀ W, SQ V (w.heap.size + 1) W → W.cell? ⟨w.heap.size, 0, none⟩ = some (.int .u32 (num s)) ∧ W.cell? ⟨w.heap.size, 1, none⟩ = some (.int .u32 (num v))) := Lib.hid fun W hW => by
    have := hW.blk hR (by omega)
    exact ⟨this.cellAt 0 rfl, this.cellAt 1 rfl⟩
  rw [← hV]
  clear hV hR
  refine wp_region_held_drew (S := fun Y => SQ V (w.heap.size + 1) Y) (by kernel_rfl) (SQ.begin hQ) (fun hS => ?_)
  (refine held_take (i := 0) (oi := ?ot1) (v := ?vt1) ?at1 (by kernel_rfl) (by kernel_rfl) (by kernel_rfl) ?bt1 ?ct1 ?dt1 (by assumption) ?rt1; (case at1 => (simp only [List.getElem?_toArray, List.getElem?_cons_zero]; rfl)); (case bt1 => exact fun _ _ _ h => h); (case ct1 => kernel_rfl); (case dt1 => (intro W hW; (try dsimp only at hW); go_split_ands; go_simp; (try with_reducible rfl))); (case' rt1 => simp only [Act.put, List.setIfInBounds_toArray, List.set_cons_zero, List.set_cons_succ]))
  (refine held_take (i := 1) (oi := ?ot2) (v := .int .u32 (num s)) ?at2 (by kernel_rfl) (by kernel_rfl) (by kernel_rfl) ?bt2 ?ct2 ?dt2 (by assumption) ?rt2; (case at2 => (simp only [List.getElem?_toArray, List.getElem?_cons_zero, List.getElem?_cons_succ]; rfl)); (case bt2 => exact fun _ _ _ h => h); (case ct2 => kernel_rfl); (case dt2 => (intro W hW; obtain ⟨c0, c1⟩ := HF.out W hW; clear hW; go_simp; (try with_reducible rfl))); (case' rt2 => simp only [Act.put, List.setIfInBounds_toArray, List.set_cons_zero, List.set_cons_succ]))
  (refine held_take (i := 2) (oi := ?ot3) (v := ?vt3) ?at3 (by kernel_rfl) (by kernel_rfl) (by kernel_rfl) ?bt3 ?ct3 ?dt3 (by assumption) ?rt3; (case at3 => (simp only [List.getElem?_toArray, List.getElem?_cons_zero, List.getElem?_cons_succ]; rfl)); (case bt3 => exact fun _ _ _ h => h); (case ct3 => kernel_rfl); (case dt3 => (intro W hW; (try dsimp only at hW); go_split_ands; go_simp; (try with_reducible rfl))); (case' rt3 => simp only [Act.put, List.setIfInBounds_toArray, List.set_cons_zero, List.set_cons_succ]))
  (refine held_take (i := 3) (oi := ?ot4) (v := .int .u32 (num v)) ?at4 (by kernel_rfl) (by kernel_rfl) (by kernel_rfl) ?bt4 ?ct4 ?dt4 (by assumption) ?rt4; (case at4 => (simp only [List.getElem?_toArray, List.getElem?_cons_zero, List.getElem?_cons_succ]; rfl)); (case bt4 => exact fun _ _ _ h => h); (case ct4 => kernel_rfl); (case dt4 => (intro W hW; obtain ⟨c0, c1⟩ := HF.out W hW; clear hW; go_simp; (try with_reducible rfl))); (case' rt4 => simp only [Act.put, List.setIfInBounds_toArray, List.set_cons_zero, List.set_cons_succ]))
  (refine held_take (i := 4) (oi := ?ot5) (v := ?vt5) ?at5 (by kernel_rfl) (by kernel_rfl) (by kernel_rfl) ?bt5 ?ct5 ?dt5 (by assumption) ?rt5; (case at5 => (simp only [List.getElem?_toArray, List.getElem?_cons_zero, List.getElem?_cons_succ]; rfl)); (case bt5 => exact fun _ _ _ h => h); (case ct5 => kernel_rfl); (case dt5 => (intro W hW; (try dsimp only at hW); go_split_ands; go_simp; (try with_reducible rfl))); (case' rt5 => simp only [Act.put, List.setIfInBounds_toArray, List.set_cons_zero, List.set_cons_succ]))
  (refine held_take (i := 5) (oi := ?ot6) (v := .agg #[.int .u32 (num s), .int .u32 (num v)]) ?at6 (by kernel_rfl) (by kernel_rfl) (by kernel_rfl) ?bt6 ?ct6 ?dt6 (by assumption) ?rt6; (case at6 => (simp only [List.getElem?_toArray, List.getElem?_cons_zero, List.getElem?_cons_succ]; rfl)); (case bt6 => exact fun _ _ _ h => h); (case ct6 => kernel_rfl); (case dt6 => (intro W hW; obtain ⟨c0, c1⟩ := HF.out W hW; clear hW; go_simp; (try with_reducible rfl))); (case' rt6 => simp only [Act.put, List.setIfInBounds_toArray, List.set_cons_zero, List.set_cons_succ]))
  refine held_one (i := 6) (oi := ?ot7) (by kernel_rfl) ?at7 ?ct7 (fun K6 hK6 => ?_)
  (case at7 => (simp only [List.getElem?_toArray, List.getElem?_cons_zero, List.getElem?_cons_succ]; rfl))
  (case ct7 => kernel_rfl)
  have hSb := hS
  go_simp
  refine (HC.out _).mono ?_
  rintro e y6 ⟨rfl, hd⟩
  refine hK6 _ _ (hSb.keep hd) (fun hS6 => ?_)
  clear hS hSb hd hK6 K6
  (refine held_take (i := 7) (oi := ?ot8) (v := .agg (vec 4 (wds (recW x s v)))) ?at8 (by kernel_rfl) (by kernel_rfl) (by kernel_rfl) ?bt8 ?ct8 ?dt8 (by assumption) ?rt8; (case at8 => (simp only [List.getElem?_toArray, List.getElem?_cons_zero, List.getElem?_cons_succ]; rfl)); (case bt8 => exact fun _ _ _ h => h); (case ct8 => kernel_rfl); (case dt8 => (intro W _; exact exec_build 73 _ rfl (vec 4 (wds (recW x s v))) (by kernel_rfl) W)); (case' rt8 => simp only [Act.put, List.setIfInBounds_toArray, List.set_cons_zero, List.set_cons_succ]))
  refine held_one (i := 8) (oi := ?ot9) (by kernel_rfl) ?at9 ?ct9 (fun K8 hK8 => ?_)
  (case at9 => (simp only [List.getElem?_toArray, List.getElem?_cons_zero, List.getElem?_cons_succ]; rfl))
  (case ct9 => kernel_rfl)
  obtain ⟨f0, hf0⟩ := hS6.res
  refine ow_store 73 _ _ rfl _ rfl _ rfl (run_store_arr hf0 (wds (recW x s v)) infoQ (wds_one _ _)) ?_
  refine hK8 _ _ (hS6.put _) (fun hS8 => ?_)
  clear hK8 K8
  refine wpAnyH_done (by kernel_rfl) ?_ _
  go_wp2
  refine bodyPost_ret (results_cell1 rfl _ _ _ rfl (run_load_arr (hf0.row _) Try.underlying73 rfl infoQ)) rfl ⟨rfl, hS8.below HB.out (by omega)⟩
set_option maxRecDepth 100000 in
set_option maxHeartbeats 1000000 in
theorem of_any (id : Int) (x : W32) (hx : IntKind.u32.wrap id = num x) (f : Nat → W32) (w : World) :
    Calls Try.prog 49 #[.int .i64 id, .agg (vec 4 (wds f))] w fun e w' => e = .returned (.tuple #[.agg #[.int .u32 (num (ofS x f)), .int .u32 (num (ofV x f))], .bool (isRec x f)]) ∧ Below w.heap.size w w' := by
  have HC := Lib.hid (fun W => words_any id x hx (f 1) (f 2) W)
  clear hx
  go_enter Try.func49, Try.ntmps49
  go_upto_region 1 with fail
  obtain ⟨V0, hV0⟩ : ∃ V0, V0 = (w.alloc (.cells (vec 4 (wds f)) 73)).alloc (.cells #[.int .u32 0, .int .u32 0] 35) := ⟨_, rfl⟩
  have hQ : Arr V0 w.heap.size 73 4 (wds f) := by rw [hV0]; exact (Arr.new _ _ _ _).alloc _
  have hR : Blk V0 (w.heap.size + 1) 35 #[.int .u32 0, .int .u32 0] := by rw [hV0]; exact Blk.new _ _ _ (by simp)
  have hB : Below w.heap.size w V0 := by rw [hV0]; exact ((Below.refl _ _).alloc (Nat.le_refl _) _).alloc (by simp) _
  have hs : V0.heap.size = w.heap.size + 2 := by rw [hV0]; simp
  have c1 : V0.cell? ⟨w.heap.size, 1, none⟩ = some (.int .u32 (num (f 1))) := hQ.cell (i := 1) (by decide)
  have c2 : V0.cell? ⟨w.heap.size, 2, none⟩ = some (.int .u32 (num (f 2))) := hQ.cell (i := 2) (by decide)
  rw [← hV0]
  clear hV0
  have HX := Lib.hid (And.intro hQ (And.intro hR (And.intro hB hs)))
  clear hQ hR hB hs
  go_upto_region 2 with fail
  rw [HX.out.2.2.2]
  obtain ⟨V, hV⟩ : ∃ V, V = V0.alloc (.cells #[.int .u32 (num (f 1)), .int .u32 (num (f 2))] 35) := ⟨_, rfl⟩
  have hQ : Arr V w.heap.size 73 4 (wds f) := by rw [hV]; exact HX.out.1.alloc _
  have hR : Blk V (w.heap.size + 1) 35 #[.int .u32 0, .int .u32 0] := by rw [hV]; exact HX.out.2.1.alloc _
  have hM : Blk V (w.heap.size + 2) 35 #[.int .u32 (num (f 1)), .int .u32 (num (f 2))] := by rw [hV]; exact Blk.new _ _ _ HX.out.2.2.2.symm
  have hB : Below w.heap.size w V := by rw [hV]; exact HX.out.2.2.1.alloc (by have := HX.out.2.2.2; omega) _
  rw [← hV]
  clear hV c1 c2 HX
  have HL : Hid (∀ W, VS V W → (loadVar 73 ⟨w.heap.size, 0, none⟩).run Try.prog W = .ok (.agg (vec 4 (wds f))) W) := Lib.hid fun W hW => run_load_arr (hQ.under hW) Try.underlying73 rfl infoQ
  have HM : Hid (∀ W, VS V W → (loadVar 35 ⟨w.heap.size + 2, 0, none⟩).run Try.prog W = .ok (.agg #[.int .u32 (num (f 1)), .int .u32 (num (f 2))]) W) := Lib.hid fun W hW => (hM.under hW).load Try.underlying35 rfl infoR
  have HB := Lib.hid hB
  have HR := Lib.hid hR
  clear hQ hM hB hR
  have H1 : Hid ((w.heap.size + 1 : Nat) ≥ w.heap.size) := Lib.hid (by omega)
  cases hr : isRec x f with
  | true =>
    have HE : Hid ((!quadEq f (recW x (f 1) (f 2))) = false) := Lib.hid (by unfold isRec at hr; rw [hr]; rfl)
    have e1 : ofS x f = f 1 := by unfold ofS; rw [if_pos hr]
    have e2 : ofV x f = f 2 := by unfold ofV; rw [if_pos hr]
    have HV := Lib.hid (And.intro e1 (And.intro e2 hr))
    clear e1 e2 hr
    refine wp_region_held_drew (S := fun Y => VS V Y) (by kernel_rfl) (VS.begin V) (fun hS => ?_)
    (refine held_take (i := 0) (oi := ?ot10) (v := .agg (vec 4 (wds f))) ?at10 (by kernel_rfl) (by kernel_rfl) (by kernel_rfl) ?bt10 ?ct10 ?dt10 (by assumption) ?rt10; (case at10 => (simp only [List.getElem?_toArray, List.getElem?_cons_zero]; rfl)); (case bt10 => exact fun _ _ _ h => h); (case ct10 => kernel_rfl); (case dt10 => (intro W hW; exact exec_load _ _ rfl _ rfl _ (HL.out W hW))); (case' rt10 => simp only [Act.put, List.setIfInBounds_toArray, List.set_cons_zero, List.set_cons_succ]))
    (refine held_take (i := 1) (oi := ?ot11) (v := ?vt11) ?at11 (by kernel_rfl) (by kernel_rfl) (by kernel_rfl) ?bt11 ?ct11 ?dt11 (by assumption) ?rt11; (case at11 => (simp only [List.getElem?_toArray, List.getElem?_cons_zero, List.getElem?_cons_succ]; rfl)); (case bt11 => exact fun _ _ _ h => h); (case ct11 => kernel_rfl); (case dt11 => (intro W hW; (try dsimp only at hW); go_split_ands; go_simp; (try with_reducible rfl))); (case' rt11 => simp only [Act.put, List.setIfInBounds_toArray, List.set_cons_zero, List.set_cons_succ]))
    (refine held_take (i := 2) (oi := ?ot12) (v := .agg #[.int .u32 (num (f 1)), .int .u32 (num (f 2))]) ?at12 (by kernel_rfl) (by kernel_rfl) (by kernel_rfl) ?bt12 ?ct12 ?dt12 (by assumption) ?rt12; (case at12 => (simp only [List.getElem?_toArray, List.getElem?_cons_zero, List.getElem?_cons_succ]; rfl)); (case bt12 => exact fun _ _ _ h => h); (case ct12 => kernel_rfl); (case dt12 => (intro W hW; exact exec_load _ _ rfl _ rfl _ (HM.out W hW))); (case' rt12 => simp only [Act.put, List.setIfInBounds_toArray, List.set_cons_zero, List.set_cons_succ]))
    refine held_one (i := 3) (oi := ?ot13) (by kernel_rfl) ?at13 ?ct13 (fun K3 hK3 => ?_)
    (case at13 => (simp only [List.getElem?_toArray, List.getElem?_cons_zero, List.getElem?_cons_succ]; rfl))
    (case ct13 => kernel_rfl)
    have hSb := hS
    go_simp
    refine (HC.out _).mono ?_
    rintro e y3 ⟨rfl, hd⟩
    refine hK3 _ _ (hSb.keep hd) (fun hS3 => ?_)
    clear hS hSb hd hK3 K3
    (refine held_take (i := 4) (oi := ?ot14) (v := .bool false) ?at14 (by kernel_rfl) (by kernel_rfl) (by kernel_rfl) ?bt14 ?ct14 ?dt14 (by assumption) ?rt14; (case at14 => (simp only [List.getElem?_toArray, List.getElem?_cons_zero, List.getElem?_cons_succ]; rfl)); (case bt14 => exact fun _ _ _ h => h); (case ct14 => kernel_rfl); (case dt14 => (intro W _; exact exec_neq4 _ _ _ rfl f (recW x (f 1) (f 2)) rfl rfl W (b := false) HE.out)); (case' rt14 => simp only [Act.put, List.setIfInBounds_toArray, List.set_cons_zero, List.set_cons_succ]))
    refine wpAnyH_done (by kernel_rfl) ?_ _
    have HS := Lib.hid hS3
    clear hS3
    go_wp2_with (first
      | ((with_reducible show wpList _ _ _ (Oper.mk _ (.load 35 _) _ _ _ _ :: _) _ _); refine wl_load rfl 35 _ rfl _ rfl _ (HM.out _ HS.out) ?_)
      | ((with_reducible show wpList _ _ _ (Oper.mk _ (.store 35 _ _) _ _ _ _ :: _) _ _); refine wl_store rfl 35 _ _ rfl _ rfl _ rfl ((HR.out.under HS.out).store #[.int .u32 (num (f 1)), .int .u32 (num (f 2))] rfl infoR rfl) ?_))
    exact bodyPost_ret (results_ct rfl _ _ _ rfl (((HR.out.under HS.out).row _).load Try.underlying35 rfl infoR)) rfl ⟨by rw [HV.out.1, HV.out.2.1, HV.out.2.2]; rfl, below_row (HS.out.below0 HB.out) (by omega) _⟩
  | false =>
    have HE : Hid ((!quadEq f (recW x (f 1) (f 2))) = true) := Lib.hid (by unfold isRec at hr; rw [hr]; rfl)
    have e1 : ofS x f = 0 := by unfold ofS; rw [hr]; rfl
    have e2 : ofV x f = 0 := by unfold ofV; rw [hr]; rfl
    have HV := Lib.hid (And.intro e1 (And.intro e2 hr))
    clear e1 e2 hr
    refine wp_region_held_drew (S := fun Y => VS V Y) (by kernel_rfl) (VS.begin V) (fun hS => ?_)
    (refine held_take (i := 0) (oi := ?ot15) (v := .agg (vec 4 (wds f))) ?at15 (by kernel_rfl) (by kernel_rfl) (by kernel_rfl) ?bt15 ?ct15 ?dt15 (by assumption) ?rt15; (case at15 => (simp only [List.getElem?_toArray, List.getElem?_cons_zero]; rfl)); (case bt15 => exact fun _ _ _ h => h); (case ct15 => kernel_rfl); (case dt15 => (intro W hW; exact exec_load _ _ rfl _ rfl _ (HL.out W hW))); (case' rt15 => simp only [Act.put, List.setIfInBounds_toArray, List.set_cons_zero, List.set_cons_succ]))
    (refine held_take (i := 1) (oi := ?ot16) (v := ?vt16) ?at16 (by kernel_rfl) (by kernel_rfl) (by kernel_rfl) ?bt16 ?ct16 ?dt16 (by assumption) ?rt16; (case at16 => (simp only [List.getElem?_toArray, List.getElem?_cons_zero, List.getElem?_cons_succ]; rfl)); (case bt16 => exact fun _ _ _ h => h); (case ct16 => kernel_rfl); (case dt16 => (intro W hW; (try dsimp only at hW); go_split_ands; go_simp; (try with_reducible rfl))); (case' rt16 => simp only [Act.put, List.setIfInBounds_toArray, List.set_cons_zero, List.set_cons_succ]))
    (refine held_take (i := 2) (oi := ?ot17) (v := .agg #[.int .u32 (num (f 1)), .int .u32 (num (f 2))]) ?at17 (by kernel_rfl) (by kernel_rfl) (by kernel_rfl) ?bt17 ?ct17 ?dt17 (by assumption) ?rt17; (case at17 => (simp only [List.getElem?_toArray, List.getElem?_cons_zero, List.getElem?_cons_succ]; rfl)); (case bt17 => exact fun _ _ _ h => h); (case ct17 => kernel_rfl); (case dt17 => (intro W hW; exact exec_load _ _ rfl _ rfl _ (HM.out W hW))); (case' rt17 => simp only [Act.put, List.setIfInBounds_toArray, List.set_cons_zero, List.set_cons_succ]))
    refine held_one (i := 3) (oi := ?ot18) (by kernel_rfl) ?at18 ?ct18 (fun K3 hK3 => ?_)
    (case at18 => (simp only [List.getElem?_toArray, List.getElem?_cons_zero, List.getElem?_cons_succ]; rfl))
    (case ct18 => kernel_rfl)
    have hSb := hS
    go_simp
    refine (HC.out _).mono ?_
    rintro e y3 ⟨rfl, hd⟩
    refine hK3 _ _ (hSb.keep hd) (fun hS3 => ?_)
    clear hS hSb hd hK3 K3
    (refine held_take (i := 4) (oi := ?ot19) (v := .bool true) ?at19 (by kernel_rfl) (by kernel_rfl) (by kernel_rfl) ?bt19 ?ct19 ?dt19 (by assumption) ?rt19; (case at19 => (simp only [List.getElem?_toArray, List.getElem?_cons_zero, List.getElem?_cons_succ]; rfl)); (case bt19 => exact fun _ _ _ h => h); (case ct19 => kernel_rfl); (case dt19 => (intro W _; exact exec_neq4 _ _ _ rfl f (recW x (f 1) (f 2)) rfl rfl W (b := true) HE.out)); (case' rt19 => simp only [Act.put, List.setIfInBounds_toArray, List.set_cons_zero, List.set_cons_succ]))
    refine wpAnyH_done (by kernel_rfl) ?_ _
    have HS := Lib.hid hS3
    clear hS3
    go_wp2_with (first
      | ((with_reducible show wpList _ _ _ (Oper.mk _ (.store 35 _ _) _ _ _ _ :: _) _ _); refine wl_store rfl 35 _ _ rfl _ rfl _ rfl ((HR.out.under HS.out).store #[.int .u32 0, .int .u32 0] rfl infoR rfl) ?_))
    exact bodyPost_ret (results_ct rfl _ _ _ rfl (((HR.out.under HS.out).row _).load Try.underlying35 rfl infoR)) rfl ⟨by rw [HV.out.1, HV.out.2.1, HV.out.2.2]; rfl, below_row (HS.out.below0 HB.out) (by omega) _⟩
end Go.Proofs.Ytpeebdhbcglibaa
