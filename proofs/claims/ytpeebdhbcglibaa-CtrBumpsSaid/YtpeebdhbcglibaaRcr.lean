/- The reference: Recover. -/
import Derived.Test.YtpeebdhbcglibaaRcs
import Derived.Test.YtpeebdhbcglibaaQr
import Derived.Test.YtpeebdhbcglibaaCr
namespace Go.Proofs.Ytpeebdhbcglibaa
open Go.RowKit

theorem results_ttct {fn : Func} {p q r s : Tmp} {ty : TypeId} {P : Program} {w : World} (h : fn.results = #[.tmp p, .tmp q, .cell r ty, .tmp s]) (tmps : Array Value) (g : Nat) (v : Value)
    (ha : tmps.getD r undef = .pointer (some ⟨g, 0, none⟩)) (hl : (loadVar ty ⟨g, 0, none⟩).run P w = .ok v w) : (results fn tmps).run P w = .ok (.tuple #[tmps.getD p undef, tmps.getD q undef, v, tmps.getD s undef]) w := by
  have hp' : tmps[r]?.getD undef = .pointer (some ⟨g, 0, none⟩) := by simpa using ha
  simp [results, h, hp', asAddr, hl]
/-- What the reference's Recover tells. -/
def rvT (r : Rv) : Value := .tuple #[.int .u32 (num r.val), .int .i64 ((cond r.snd 1 0 : Nat) : Int), .agg #[.int .u32 (num r.seq), .int .u32 (num r.val)], .int .i64 (r.err : Int)]
theorem rvOf_of (x : W32) (f g : Nat → W32) (a1 a2 b1 b2 : W32) (ha1 : a1 = ofS x f) (ha2 : a2 = ofV x f) (hb1 : b1 = ofS x g) (hb2 : b2 = ofV x g) :
    (isRec x f = false → isRec x g = false → rvOf x f g = ⟨130, false, 0, 0⟩) ∧
    (isRec x f = true → isRec x g = true → a1 = b1 → a2 ≠ b2 → rvOf x f g = ⟨130, false, 0, 0⟩) ∧
    (isRec x f = true → (isRec x g = true → ¬ a1.toNat < b1.toNat ∧ ¬ (a1 = b1 ∧ a2 ≠ b2)) → rvOf x f g = if a1 = ones ∨ a2 = ones then ⟨131, false, 0, 0⟩ else ⟨0, false, a1, a2⟩) ∧
    (isRec x g = true → (isRec x f = true → a1.toNat < b1.toNat) → rvOf x f g = if b1 = ones ∨ b2 = ones then ⟨131, false, 0, 0⟩ else ⟨0, true, b1, b2⟩) := by
  have ea : isRec x f = true → a1 = f 1 ∧ a2 = f 2 := fun h => ⟨by rw [ha1]; unfold ofS; rw [if_pos h], by rw [ha2]; unfold ofV; rw [if_pos h]⟩
  have eb : isRec x g = true → b1 = g 1 ∧ b2 = g 2 := fun h => ⟨by rw [hb1]; unfold ofS; rw [if_pos h], by rw [hb2]; unfold ofV; rw [if_pos h]⟩
  clear ha1 ha2 hb1 hb2
  unfold rvOf top2
  by_cases hf : isRec x f = true
  · obtain ⟨e1, e2⟩ := ea hf
    by_cases hg : isRec x g = true
    · obtain ⟨e3, e4⟩ := eb hg
      subst e1 e2 e3 e4
      simp only [if_pos hf, if_pos hg]
      refine ⟨fun h => (by rw [hf] at h; cases h), fun _ _ h1 h2 => ?_, fun _ h => ?_, fun _ h => ?_⟩
      · rw [if_neg (by rw [h1]; omega), if_pos ⟨h1, h2⟩]
      · rw [if_neg (h hg).1, if_neg (h hg).2]
        rfl
      · rw [if_pos (h hf)]
        rfl
    · simp only [if_pos hf, if_neg hg]
      obtain ⟨rfl, rfl⟩ : a1 = f 1 ∧ a2 = f 2 := ⟨e1, e2⟩
      exact ⟨fun h => (by rw [hf] at h; cases h), fun _ h => absurd h hg, fun _ _ => rfl, fun h => absurd h hg⟩
  · by_cases hg : isRec x g = true
    · obtain ⟨e3, e4⟩ := eb hg
      subst e3 e4
      simp only [if_neg hf, if_pos hg]
      exact ⟨fun _ h => (by rw [hg] at h; cases h), fun h => absurd h hf, fun h => absurd h hf, fun _ _ => rfl⟩
    · simp only [if_neg hf, if_neg hg]
      exact ⟨fun _ _ => (by first | rfl | trivial), fun h => absurd h hf, fun h => absurd h hf, fun h => absurd h hg⟩
attribute [local go_sem ↓ high] zeroQ2 zeroQ
set_option maxRecDepth 100000 in
set_option maxHeartbeats 4000000 in
theorem rrecover_any {w : World} {r c : Nat} {A : Option Addr} {ws : List W32} (h : RD w r A c ws) (hl : ws.length ≤ 100000) (id : Int) (R : Rv) (hR : R = rv ws id) :
    Calls Try.prog 11 #[.pointer (some ⟨r, 0, none⟩), .int .i64 id] w fun e w' => e = .returned (rvT R) ∧ Below w.heap.size w w' := by
  obtain ⟨n, hn⟩ : ∃ n, n = ws.length := ⟨_, rfl⟩
  obtain ⟨m, hm⟩ : ∃ m, m = n / 8 := ⟨_, rfl⟩
  have hm8 : (n : Int) / 8 = (m : Int) := by omega
  have wm : IntKind.i64.wrap (m : Int) = (m : Int) := by rw [IntKind.wrap_i64]; omega
  have hrl : r < w.heap.size := World.block_lt_of_cell? w _ h.c0
  obtain ⟨V1, hV1⟩ : ∃ V1, V1 = w.alloc (.cells #[.int .u32 0, .int .u32 0] 35) := ⟨_, rfl⟩
  have hB1 : Below w.heap.size w V1 := by rw [hV1]; exact (Below.refl _ _).alloc (Nat.le_refl _) _
  have hZ1 : Blk V1 w.heap.size 35 #[.int .u32 0, .int .u32 0] := by rw [hV1]; exact Blk.new _ _ _ rfl
  have c0 := (h.under hB1).c0
  rw [← hn] at c0
  have HSL : Hid (∀ k : Nat, id = (k : Int) → k < m → Calls Try.prog 29 #[.pointer (some ⟨r, 0, none⟩), .int .i64 id] V1 fun e w' => e = .returned (.agg (vec 8 (wds (fromA ws (8 * k))))) ∧ Below V1.heap.size V1 w') := Lib.hid fun k e hk => by
    rw [e]
    exact rslots_any (h.under hB1) hl k (by omega)
  have HV1 := Lib.hid hV1
  have HB1 := Lib.hid (And.intro hB1 hZ1)
  by_cases hin : 0 ≤ id ∧ id < (m : Int)
  case neg =>
    rw [rv_out _ _ (by rw [← hn, ← hm]; exact hin)] at hR
    subst hR
    by_cases h0 : id < 0
    · have d0 : decide (id < 0) = true := decide_eq_true h0
      clear hin h hl hn hm hrl hV1 hB1 hZ1 HSL
      go_enter Try.func11, Try.ntmps11
      go_upto_region 1 with fail
      rw [← HV1.out]
      go_wp2_with ((with_reducible show wpList _ _ _ (Oper.mk _ (.store 35 _ _) _ _ _ _ :: _) _ _); refine wl_store rfl 35 _ _ rfl _ rfl _ rfl (HB1.out.2.store #[.int .u32 0, .int .u32 0] rfl infoR rfl) ?_)
      exact bodyPost_ret (results_ttct rfl _ _ _ rfl ((HB1.out.2.row _).load Try.underlying35 rfl infoR)) rfl ⟨rfl, below_row HB1.out.1 (Nat.le_refl _) _⟩
    · have d0 : decide (id < 0) = false := decide_eq_false h0
      have h1 : (m : Int) ≤ id := by omega
      have d1 : decide ((m : Int) ≤ id) = true := decide_eq_true h1
      clear hin h hl hn hm hrl hV1 hB1 hZ1 HSL
      go_enter Try.func11, Try.ntmps11
      go_upto_region 1 with fail
      rw [← HV1.out]
      go_wp2_with ((with_reducible show wpList _ _ _ (Oper.mk _ (.store 35 _ _) _ _ _ _ :: _) _ _); refine wl_store rfl 35 _ _ rfl _ rfl _ rfl (HB1.out.2.store #[.int .u32 0, .int .u32 0] rfl infoR rfl) ?_)
      exact bodyPost_ret (results_ttct rfl _ _ _ rfl ((HB1.out.2.row _).load Try.underlying35 rfl infoR)) rfl ⟨rfl, below_row HB1.out.1 (Nat.le_refl _) _⟩
  obtain ⟨k, rfl⟩ := Int.eq_ofNat_of_zero_le hin.1
  have hk : k < m := by omega
  rw [rv_at _ _ (by omega)] at hR
  have HSL := Lib.hid (HSL.out k rfl hk)
  obtain ⟨x, hx⟩ : ∃ x, x = idW k := ⟨_, rfl⟩
  have hwx : IntKind.u32.wrap (k : Int) = num x := by rw [hx]; exact wrap_idW k
  rw [← hx] at hR
  obtain ⟨f, hf⟩ : ∃ f, f = slotF ws k 0 := ⟨_, rfl⟩
  obtain ⟨g, hg⟩ : ∃ g, g = slotF ws k 1 := ⟨_, rfl⟩
  obtain ⟨e8, he8⟩ : ∃ e8, e8 = fromA ws (8 * k) := ⟨_, rfl⟩
  have hfe : ∀ i, i < 4 → wds e8 i = wds f i := fun i _ => by rw [he8, hf]; rfl
  have hge : ∀ i, i < 4 → wds e8 (4 + i) = wds g i := fun i _ => by
    rw [he8, hg]
    show Value.int .u32 (num (ws.getD (8 * k + (4 + i)) 0)) = Value.int .u32 (num (ws.getD (8 * k + 4 * 1 + i) 0))
    rw [show 8 * k + (4 + i) = 8 * k + 4 * 1 + i by omega]
  rw [← hf, ← hg] at hR
  rw [← he8] at HSL
  obtain ⟨a1, ha1⟩ : ∃ a1, a1 = ofS x f := ⟨_, rfl⟩
  obtain ⟨a2, ha2⟩ : ∃ a2, a2 = ofV x f := ⟨_, rfl⟩
  obtain ⟨b1, hb1⟩ : ∃ b1, b1 = ofS x g := ⟨_, rfl⟩
  obtain ⟨b2, hb2⟩ : ∃ b2, b2 = ofV x g := ⟨_, rfl⟩
  obtain ⟨fi, hfi⟩ : ∃ fi, fi = isRec x f := ⟨_, rfl⟩
  obtain ⟨gi, hgi⟩ : ∃ gi, gi = isRec x g := ⟨_, rfl⟩
  have HOA := Lib.hid (fun W => rof_any (k : Int) x hwx f W)
  have HOB := Lib.hid (fun W => rof_any (k : Int) x hwx g W)
  rw [← ha1, ← ha2, ← hfi] at HOA
  rw [← hb1, ← hb2, ← hgi] at HOB
  have hall := rvOf_of x f g a1 a2 b1 b2 ha1 ha2 hb1 hb2
  rw [← hR, ← hfi, ← hgi] at hall
  have HALL := Lib.hid hall
  have HFE := Lib.hid (And.intro hfe hge)
  have d0 : decide ((k : Int) < 0) = false := decide_eq_false (by omega)
  have h1 : ¬ (m : Int) ≤ (k : Int) := by omega
  have d1 : decide ((m : Int) ≤ (k : Int)) = false := decide_eq_false h1
  clear hin h hl hn hm hrl hV1 hB1 hZ1 hk hx hwx hf hg he8 ha1 ha2 hb1 hb2 hfi hgi hall hR hfe hge
  go_enter Try.func11, Try.ntmps11
  go_upto_region 1 with fail
  rw [← HV1.out]
  go_upto_region 4 with (first
    | (go_at_call 29; refine HSL.out.mono ?_; rintro e w1 ⟨rfl, hd⟩; have HD1 := Lib.hid hd; clear hd)
    | ((with_reducible show wpList _ _ _ (Oper.mk _ (.store 74 _ _) _ _ _ _ :: _) _ _); refine wl_store rfl 74 _ _ rfl _ rfl _ rfl (run_store_arr (Arr.new _ 74 8 (wds zw)) (wds e8) infoQ2 (wds_one _ _)) ?_))
  obtain ⟨W8, hW8⟩ : ∃ W8, W8 = (w1.alloc (.cells (vec 8 (wds zw)) 74)).setRow w1.heap.size (vec 8 (wds e8)) := ⟨_, rfl⟩
  have hA8 : Arr W8 w1.heap.size 74 8 (wds e8) := by rw [hW8]; exact (Arr.new _ _ _ _).row _
  have hB8 : Below w1.heap.size w1 W8 := by rw [hW8]; exact below_row ((Below.refl _ _).alloc (Nat.le_refl _) _) (Nat.le_refl _) _
  have H8 := Lib.hid (And.intro hA8 (HD1.out.trans (hB8.mono HD1.out.size)))
  rw [← hW8]
  clear hW8 hA8 hB8 HSL c0
  have HLA : Hid (∀ W, Below W8.heap.size W8 W → (loadVar 73 ⟨w1.heap.size, 0, none⟩).run Try.prog W = .ok (.agg (vec 4 (wds f))) W) := Lib.hid fun W hW => by
    have := run_load_cells (P := Try.prog) (ty := 73) (n := 4) (f := wds e8) (fun i hi => (H8.out.1.under hW).cell (i := i) (by omega)) Try.underlying73 rfl infoQ
    rw [vec_congr HFE.out.1] at this
    exact this
  have HLB : Hid (∀ W, Below W8.heap.size W8 W → (loadVar 73 ⟨w1.heap.size, 4, none⟩).run Try.prog W = .ok (.agg (vec 4 (wds g))) W) := Lib.hid fun W hW => by
    have := run_load_spl (P := Try.prog) (ty := 73) (o := 4) (n := 4) (f := fun i => wds e8 (4 + i)) (fun i hi => (H8.out.1.under hW).cell (i := 4 + i) (by omega)) Try.underlying73 rfl infoQ
    rw [vec_congr HFE.out.2] at this
    exact this
  go_upto_region 5 with (first
    | ((with_reducible show wpList _ _ _ (Oper.mk _ (.load 73 _) _ _ _ _ :: _) _ _); refine wl_load rfl 73 _ rfl _ rfl _ (HLA.out _ (Below.refl _ _)) ?_)
    | (go_at_call 30; refine (HOA.out _).mono ?_; rintro e w2 ⟨rfl, hd⟩; have HD2 := Lib.hid hd; clear hd))
  obtain ⟨W9, hW9⟩ : ∃ W9, W9 = w2.alloc (.cells #[.int .u32 (num a1), .int .u32 (num a2)] 35) := ⟨_, rfl⟩
  have hB9 : Below W8.heap.size W8 W9 := by rw [hW9]; exact HD2.out.alloc HD2.out.size _
  have hX9 : Blk W9 w2.heap.size 35 #[.int .u32 (num a1), .int .u32 (num a2)] := by rw [hW9]; exact Blk.new _ _ _ rfl
  have H9 := Lib.hid (And.intro hB9 hX9)
  rw [← hW9]
  clear hW9 hB9 hX9
  go_upto_region 6 with (first
    | ((with_reducible show wpList _ _ _ (Oper.mk _ (.load 73 _) _ _ _ _ :: _) _ _); refine wl_load_at rfl 73 _ rfl _ _ rfl _ (HLB.out _ H9.out.1) ?_)
    | (go_at_call 30; refine (HOB.out _).mono ?_; rintro e w3 ⟨rfl, hd⟩; have HD3 := Lib.hid hd; clear hd))
  obtain ⟨g9, hg9⟩ : ∃ g9, g9 = w2.heap.size := ⟨_, rfl⟩
  obtain ⟨g11, hg11⟩ : ∃ g11, g11 = w3.heap.size := ⟨_, rfl⟩
  obtain ⟨V, hV⟩ : ∃ V, V = w3.alloc (.cells #[.int .u32 (num b1), .int .u32 (num b2)] 35) := ⟨_, rfl⟩
  have hB8 : Below V1.heap.size V1 W8 := H8.out.2
  have hB9 : Below V1.heap.size V1 W9 := hB8.trans (H9.out.1.mono hB8.size)
  have hB10 : Below V1.heap.size V1 w3 := hB9.trans (HD3.out.mono hB9.size)
  have hBV : Below V1.heap.size V1 V := by rw [hV]; exact hB10.alloc hB10.size _
  have hZ : Blk V w.heap.size 35 #[.int .u32 0, .int .u32 0] := HB1.out.2.under hBV
  have h9 : Blk V g9 35 #[.int .u32 (num a1), .int .u32 (num a2)] := by rw [hV, hg9]; exact (H9.out.2.under HD3.out).alloc _
  have h11 : Blk V g11 35 #[.int .u32 (num b1), .int .u32 (num b2)] := by rw [hV, hg11]; exact Blk.new _ _ _ rfl
  have HX9 := Lib.hid (And.intro h9 (And.intro hZ (And.intro h11 (HB1.out.1.trans (hBV.mono HB1.out.1.size)))))
  rw [← hV, ← hg9, ← hg11]
  clear hV hg9 hg11 hB8 hB9 hB10 hBV hZ h9 h11
  refine wp_region_held_drew (S := fun Y => VS V Y) (by kernel_rfl) (VS.begin V) (fun hS => ?_)
  (refine held_take (i := 0) (oi := ?ot1) (v := .agg #[.int .u32 (num a1), .int .u32 (num a2)]) ?at1 (by kernel_rfl) (by kernel_rfl) (by kernel_rfl) ?bt1 ?ct1 ?dt1 (by assumption) ?rt1; (case at1 => (simp only [List.getElem?_toArray, List.getElem?_cons_zero]; rfl)); (case bt1 => exact fun _ _ _ h => h); (case ct1 => kernel_rfl); (case dt1 => (intro W hW; exact exec_load _ _ rfl _ rfl _ ((HX9.out.1.under hW).load Try.underlying35 rfl infoR))); (case' rt1 => simp only [Act.put, List.setIfInBounds_toArray, List.set_cons_zero, List.set_cons_succ]))
  refine held_one (i := 1) (oi := ?ot2) (by kernel_rfl) ?at2 ?ct2 (fun K1 hK1 => ?_)
  (case at2 => (simp only [List.getElem?_toArray, List.getElem?_cons_zero, List.getElem?_cons_succ]; rfl))
  (case ct2 => kernel_rfl)
  go_simp
  obtain ⟨y1, hy⟩ : ∃ y, y = (V.alloc (.cells #[.int .u32 0, .int .u32 0] 35)).drew := ⟨_, rfl⟩
  have hd : Below V.heap.size V y1 := by rw [hy]; exact (show Below V.heap.size V (V.drew.alloc (.cells #[.int .u32 0, .int .u32 0] 35)) from (VS.begin V).alloc (Nat.le_refl _) _)
  obtain ⟨g14, hg⟩ : ∃ g, g = V.heap.size := ⟨_, rfl⟩
  have hga : Blk y1 g14 35 #[.int .u32 0, .int .u32 0] := by rw [hy, hg]; exact (show Blk (V.alloc (.cells #[.int .u32 0, .int .u32 0] 35)) V.heap.size 35 #[.int .u32 0, .int .u32 0] from Blk.new _ _ _ rfl)
  have HG := Lib.hid (And.intro hga hg)
  rw [← hy, ← hg]
  clear hga hy hg
  refine hK1 _ _ hd (fun hS1 => ?_)
  clear hS hd hK1 K1
  (refine held_take (i := 2) (oi := ?ot3) (v := ?vt3) ?at3 (by kernel_rfl) (by kernel_rfl) (by kernel_rfl) ?bt3 ?ct3 ?dt3 (by assumption) ?rt3; (case at3 => (simp only [List.getElem?_toArray, List.getElem?_cons_zero, List.getElem?_cons_succ]; rfl)); (case bt3 => exact fun _ _ _ h => h); (case ct3 => kernel_rfl); (case dt3 => (intro W hW; (try dsimp only at hW); go_split_ands; go_simp; (try with_reducible rfl))); (case' rt3 => simp only [Act.put, List.setIfInBounds_toArray, List.set_cons_zero, List.set_cons_succ]))
  refine held_one (i := 3) (oi := ?ot4) (by kernel_rfl) ?at4 ?ct4 (fun K3 hK3 => ?_)
  (case at4 => (simp only [List.getElem?_toArray, List.getElem?_cons_zero, List.getElem?_cons_succ]; rfl))
  (case ct4 => kernel_rfl)
  refine ow_store 35 _ _ rfl _ rfl _ rfl (HG.out.1.store #[.int .u32 (num a1), .int .u32 (num a2)] rfl infoR rfl) ?_
  refine hK3 _ _ (below_row hS1 (by rw [HG.out.2]; exact Nat.le_refl _) _) (fun hS3 => ?_)
  clear hK3 K3
  refine wpAnyH_done (by kernel_rfl) ?_ _
  obtain ⟨X, hX⟩ : ∃ X, X = y1.setRow g14 #[.int .u32 (num a1), .int .u32 (num a2)] := ⟨_, rfl⟩
  have hS : Below V.heap.size V X := by rw [hX]; exact hS3
  have HXB : Hid (Blk X w.heap.size 35 #[.int .u32 0, .int .u32 0] ∧ Blk X g9 35 #[.int .u32 (num a1), .int .u32 (num a2)] ∧ Blk X g11 35 #[.int .u32 (num b1), .int .u32 (num b2)] ∧ Blk X g14 35 #[.int .u32 (num a1), .int .u32 (num a2)] ∧ Below w.heap.size w X) := Lib.hid ⟨HX9.out.2.1.under hS, HX9.out.1.under hS, HX9.out.2.2.1.under hS, by rw [hX]; exact HG.out.1.row _, HX9.out.2.2.2.trans (hS.mono HX9.out.2.2.2.size)⟩
  have HNE : Hid (w.heap.size ≠ g14 ∧ g9 ≠ g14 ∧ g11 ≠ g14 ∧ w.heap.size ≤ g14) := Lib.hid (by
    have h1 := HX9.out.1.lt
    have h2 := HX9.out.2.1.lt
    have h3 := HX9.out.2.2.1.lt
    have h4 := HG.out.2
    omega)
  rw [← hX]
  clear hX hS hS3 HX9 HLA HLB H8 H9 HD1 HD2 HD3
  have k9 := HXB.out.2.1.cellAt 0 rfl
  have l9 := HXB.out.2.1.cellAt 1 rfl
  have k11 := HXB.out.2.2.1.cellAt 0 rfl
  have l11 := HXB.out.2.2.1.cellAt 1 rfl
  have k14 := HXB.out.2.2.2.1.cellAt 0 rfl
  have l14 := HXB.out.2.2.2.1.cellAt 1 rfl
  cases fi with
  | false =>
    cases gi with
    | false =>
      have hR := HALL.out.1 rfl rfl
      subst hR
      go_wp2_with ((with_reducible show wpList _ _ _ (Oper.mk _ (.store 35 _ _) _ _ _ _ :: _) _ _); refine wl_store rfl 35 _ _ rfl _ rfl _ rfl (HXB.out.1.store #[.int .u32 0, .int .u32 0] rfl infoR rfl) ?_)
      exact bodyPost_ret (results_ttct rfl _ _ _ rfl ((HXB.out.1.row _).load Try.underlying35 rfl infoR)) rfl ⟨rfl, below_row HXB.out.2.2.2.2 (Nat.le_refl _) _⟩
    | true =>
      have hR := HALL.out.2.2.2 rfl (fun h => by cases h)
      by_cases hs : b1 = ones
      · have v1 := ones_num hs
        have v2 : (num b1 == 4294967295) = true := by simp [v1]
        rw [if_pos (.inl hs)] at hR
        subst hR
        clear hs v1
        go_upto_region 11 with fail
        clear k9 l9 k11 l11 k14 l14
        refine wp_region_held_drew (S := fun Y => Save g14 X Y) (by kernel_rfl) (show Save g14 X X.drew from ⟨rfl, rfl, rfl, Nat.le_refl _, fun _ _ _ => rfl⟩) (fun hS => ?_)
        (refine held_take (i := 0) (oi := ?ot5) (v := .agg #[.int .u32 (num b1), .int .u32 (num b2)]) ?at5 (by kernel_rfl) (by kernel_rfl) (by kernel_rfl) ?bt5 ?ct5 ?dt5 (by assumption) ?rt5; (case at5 => (simp only [List.getElem?_toArray, List.getElem?_cons_zero]; rfl)); (case bt5 => exact fun _ _ _ h => h); (case ct5 => kernel_rfl); (case dt5 => (intro W hW; exact exec_load _ _ rfl _ rfl _ ((HXB.out.2.2.1.save hW HNE.out.2.2.1).load Try.underlying35 rfl infoR))); (case' rt5 => simp only [Act.put, List.setIfInBounds_toArray, List.set_cons_zero, List.set_cons_succ]))
        (refine held_take (i := 1) (oi := ?ot6) (v := ?vt6) ?at6 (by kernel_rfl) (by kernel_rfl) (by kernel_rfl) ?bt6 ?ct6 ?dt6 (by assumption) ?rt6; (case at6 => (simp only [List.getElem?_toArray, List.getElem?_cons_zero, List.getElem?_cons_succ]; rfl)); (case bt6 => exact fun _ _ _ h => h); (case ct6 => kernel_rfl); (case dt6 => (intro W hW; (try dsimp only at hW); go_split_ands; go_simp; (try with_reducible rfl))); (case' rt6 => simp only [Act.put, List.setIfInBounds_toArray, List.set_cons_zero, List.set_cons_succ]))
        refine held_one (i := 2) (oi := ?ot7) (by kernel_rfl) ?at7 ?ct7 (fun K2 hK2 => ?_)
        (case at7 => (simp only [List.getElem?_toArray, List.getElem?_cons_zero, List.getElem?_cons_succ]; rfl))
        (case ct7 => kernel_rfl)
        have hSb := hS
        refine ow_store 35 _ _ rfl _ rfl _ rfl ((show Blk X.drew g14 35 #[.int .u32 (num a1), .int .u32 (num a2)] from HXB.out.2.2.2.1).store #[.int .u32 (num b1), .int .u32 (num b2)] rfl infoR rfl) ?_
        refine hK2 _ _ (hSb.setRow _) (fun hS2 => ?_)
        clear hK2 K2 hSb
        refine wpAnyH_done (by kernel_rfl) ?_ _
        have HS11 := Lib.hid hS2
        obtain ⟨Z, hZ⟩ : ∃ Z, Z = X.drew.setRow g14 #[.int .u32 (num b1), .int .u32 (num b2)] := ⟨_, rfl⟩
        have HZB : Hid (Blk Z w.heap.size 35 #[.int .u32 0, .int .u32 0] ∧ Blk Z g14 35 #[.int .u32 (num b1), .int .u32 (num b2)] ∧ Below w.heap.size w Z) := Lib.hid (by
          rw [hZ]
          exact ⟨HXB.out.1.save HS11.out HNE.out.1, (show Blk X.drew g14 35 #[.int .u32 (num a1), .int .u32 (num a2)] from HXB.out.2.2.2.1).row _, HXB.out.2.2.2.2.trans (HS11.out.below (HNE.out.2.2.2) HXB.out.2.2.2.2.size)⟩)
        rw [← hZ]
        clear hZ HS11 hS2
        have m14 := HZB.out.2.1.cellAt 0 rfl
        have n14 := HZB.out.2.1.cellAt 1 rfl
        go_wp2_with ((with_reducible show wpList _ _ _ (Oper.mk _ (.store 35 _ _) _ _ _ _ :: _) _ _); refine wl_store rfl 35 _ _ rfl _ rfl _ rfl (HZB.out.1.store #[.int .u32 0, .int .u32 0] rfl infoR rfl) ?_)
        exact bodyPost_ret (results_ttct rfl _ _ _ rfl ((HZB.out.1.row _).load Try.underlying35 rfl infoR)) rfl ⟨rfl, below_row HZB.out.2.2 (Nat.le_refl _) _⟩
      have v1 := ones_ne hs
      have v2 : (num b1 == 4294967295) = false := by simp [v1]
      by_cases hv : b2 = ones
      · have v3 := ones_num hv
        have v4 : (num b2 == 4294967295) = true := by simp [v3]
        rw [if_pos (.inr hv)] at hR
        subst hR
        clear hs hv v3
        go_upto_region 11 with fail
        clear k9 l9 k11 l11 k14 l14
        refine wp_region_held_drew (S := fun Y => Save g14 X Y) (by kernel_rfl) (show Save g14 X X.drew from ⟨rfl, rfl, rfl, Nat.le_refl _, fun _ _ _ => rfl⟩) (fun hS => ?_)
        (refine held_take (i := 0) (oi := ?ot8) (v := .agg #[.int .u32 (num b1), .int .u32 (num b2)]) ?at8 (by kernel_rfl) (by kernel_rfl) (by kernel_rfl) ?bt8 ?ct8 ?dt8 (by assumption) ?rt8; (case at8 => (simp only [List.getElem?_toArray, List.getElem?_cons_zero]; rfl)); (case bt8 => exact fun _ _ _ h => h); (case ct8 => kernel_rfl); (case dt8 => (intro W hW; exact exec_load _ _ rfl _ rfl _ ((HXB.out.2.2.1.save hW HNE.out.2.2.1).load Try.underlying35 rfl infoR))); (case' rt8 => simp only [Act.put, List.setIfInBounds_toArray, List.set_cons_zero, List.set_cons_succ]))
        (refine held_take (i := 1) (oi := ?ot9) (v := ?vt9) ?at9 (by kernel_rfl) (by kernel_rfl) (by kernel_rfl) ?bt9 ?ct9 ?dt9 (by assumption) ?rt9; (case at9 => (simp only [List.getElem?_toArray, List.getElem?_cons_zero, List.getElem?_cons_succ]; rfl)); (case bt9 => exact fun _ _ _ h => h); (case ct9 => kernel_rfl); (case dt9 => (intro W hW; (try dsimp only at hW); go_split_ands; go_simp; (try with_reducible rfl))); (case' rt9 => simp only [Act.put, List.setIfInBounds_toArray, List.set_cons_zero, List.set_cons_succ]))
        refine held_one (i := 2) (oi := ?ot10) (by kernel_rfl) ?at10 ?ct10 (fun K2 hK2 => ?_)
        (case at10 => (simp only [List.getElem?_toArray, List.getElem?_cons_zero, List.getElem?_cons_succ]; rfl))
        (case ct10 => kernel_rfl)
        have hSb := hS
        refine ow_store 35 _ _ rfl _ rfl _ rfl ((show Blk X.drew g14 35 #[.int .u32 (num a1), .int .u32 (num a2)] from HXB.out.2.2.2.1).store #[.int .u32 (num b1), .int .u32 (num b2)] rfl infoR rfl) ?_
        refine hK2 _ _ (hSb.setRow _) (fun hS2 => ?_)
        clear hK2 K2 hSb
        refine wpAnyH_done (by kernel_rfl) ?_ _
        have HS11 := Lib.hid hS2
        obtain ⟨Z, hZ⟩ : ∃ Z, Z = X.drew.setRow g14 #[.int .u32 (num b1), .int .u32 (num b2)] := ⟨_, rfl⟩
        have HZB : Hid (Blk Z w.heap.size 35 #[.int .u32 0, .int .u32 0] ∧ Blk Z g14 35 #[.int .u32 (num b1), .int .u32 (num b2)] ∧ Below w.heap.size w Z) := Lib.hid (by
          rw [hZ]
          exact ⟨HXB.out.1.save HS11.out HNE.out.1, (show Blk X.drew g14 35 #[.int .u32 (num a1), .int .u32 (num a2)] from HXB.out.2.2.2.1).row _, HXB.out.2.2.2.2.trans (HS11.out.below (HNE.out.2.2.2) HXB.out.2.2.2.2.size)⟩)
        rw [← hZ]
        clear hZ HS11 hS2
        have m14 := HZB.out.2.1.cellAt 0 rfl
        have n14 := HZB.out.2.1.cellAt 1 rfl
        go_wp2_with ((with_reducible show wpList _ _ _ (Oper.mk _ (.store 35 _ _) _ _ _ _ :: _) _ _); refine wl_store rfl 35 _ _ rfl _ rfl _ rfl (HZB.out.1.store #[.int .u32 0, .int .u32 0] rfl infoR rfl) ?_)
        exact bodyPost_ret (results_ttct rfl _ _ _ rfl ((HZB.out.1.row _).load Try.underlying35 rfl infoR)) rfl ⟨rfl, below_row HZB.out.2.2 (Nat.le_refl _) _⟩
      have v3 := ones_ne hv
      have v4 : (num b2 == 4294967295) = false := by simp [v3]
      rw [if_neg (by rintro (h | h); exact hs h; exact hv h)] at hR
      subst hR
      clear hs hv
      go_upto_region 11 with fail
      clear k9 l9 k11 l11 k14 l14
      refine wp_region_held_drew (S := fun Y => Save g14 X Y) (by kernel_rfl) (show Save g14 X X.drew from ⟨rfl, rfl, rfl, Nat.le_refl _, fun _ _ _ => rfl⟩) (fun hS => ?_)
      (refine held_take (i := 0) (oi := ?ot11) (v := .agg #[.int .u32 (num b1), .int .u32 (num b2)]) ?at11 (by kernel_rfl) (by kernel_rfl) (by kernel_rfl) ?bt11 ?ct11 ?dt11 (by assumption) ?rt11; (case at11 => (simp only [List.getElem?_toArray, List.getElem?_cons_zero]; rfl)); (case bt11 => exact fun _ _ _ h => h); (case ct11 => kernel_rfl); (case dt11 => (intro W hW; exact exec_load _ _ rfl _ rfl _ ((HXB.out.2.2.1.save hW HNE.out.2.2.1).load Try.underlying35 rfl infoR))); (case' rt11 => simp only [Act.put, List.setIfInBounds_toArray, List.set_cons_zero, List.set_cons_succ]))
      (refine held_take (i := 1) (oi := ?ot12) (v := ?vt12) ?at12 (by kernel_rfl) (by kernel_rfl) (by kernel_rfl) ?bt12 ?ct12 ?dt12 (by assumption) ?rt12; (case at12 => (simp only [List.getElem?_toArray, List.getElem?_cons_zero, List.getElem?_cons_succ]; rfl)); (case bt12 => exact fun _ _ _ h => h); (case ct12 => kernel_rfl); (case dt12 => (intro W hW; (try dsimp only at hW); go_split_ands; go_simp; (try with_reducible rfl))); (case' rt12 => simp only [Act.put, List.setIfInBounds_toArray, List.set_cons_zero, List.set_cons_succ]))
      refine held_one (i := 2) (oi := ?ot13) (by kernel_rfl) ?at13 ?ct13 (fun K2 hK2 => ?_)
      (case at13 => (simp only [List.getElem?_toArray, List.getElem?_cons_zero, List.getElem?_cons_succ]; rfl))
      (case ct13 => kernel_rfl)
      have hSb := hS
      refine ow_store 35 _ _ rfl _ rfl _ rfl ((show Blk X.drew g14 35 #[.int .u32 (num a1), .int .u32 (num a2)] from HXB.out.2.2.2.1).store #[.int .u32 (num b1), .int .u32 (num b2)] rfl infoR rfl) ?_
      refine hK2 _ _ (hSb.setRow _) (fun hS2 => ?_)
      clear hK2 K2 hSb
      refine wpAnyH_done (by kernel_rfl) ?_ _
      have HS11 := Lib.hid hS2
      obtain ⟨Z, hZ⟩ : ∃ Z, Z = X.drew.setRow g14 #[.int .u32 (num b1), .int .u32 (num b2)] := ⟨_, rfl⟩
      have HZB : Hid (Blk Z w.heap.size 35 #[.int .u32 0, .int .u32 0] ∧ Blk Z g14 35 #[.int .u32 (num b1), .int .u32 (num b2)] ∧ Below w.heap.size w Z) := Lib.hid (by
        rw [hZ]
        exact ⟨HXB.out.1.save HS11.out HNE.out.1, (show Blk X.drew g14 35 #[.int .u32 (num a1), .int .u32 (num a2)] from HXB.out.2.2.2.1).row _, HXB.out.2.2.2.2.trans (HS11.out.below (HNE.out.2.2.2) HXB.out.2.2.2.2.size)⟩)
      rw [← hZ]
      clear hZ HS11 hS2
      have m14 := HZB.out.2.1.cellAt 0 rfl
      have n14 := HZB.out.2.1.cellAt 1 rfl
      go_upto_region 14 with fail
      clear m14 n14
      refine wp_region_held_drew (S := fun Y => Save w.heap.size Z Y) (by kernel_rfl) (show Save w.heap.size Z Z.drew from ⟨rfl, rfl, rfl, Nat.le_refl _, fun _ _ _ => rfl⟩) (fun hS => ?_)
      (refine held_take (i := 0) (oi := ?ot14) (v := ?vt14) ?at14 (by kernel_rfl) (by kernel_rfl) (by kernel_rfl) ?bt14 ?ct14 ?dt14 (by assumption) ?rt14; (case at14 => (simp only [List.getElem?_toArray, List.getElem?_cons_zero]; rfl)); (case bt14 => exact fun _ _ _ h => h); (case ct14 => kernel_rfl); (case dt14 => (intro W hW; (try dsimp only at hW); go_split_ands; go_simp; (try with_reducible rfl))); (case' rt14 => simp only [Act.put, List.setIfInBounds_toArray, List.set_cons_zero, List.set_cons_succ]))
      (refine held_take (i := 1) (oi := ?ot15) (v := .int .u32 (num b2)) ?at15 (by kernel_rfl) (by kernel_rfl) (by kernel_rfl) ?bt15 ?ct15 ?dt15 (by assumption) ?rt15; (case at15 => (simp only [List.getElem?_toArray, List.getElem?_cons_zero, List.getElem?_cons_succ]; rfl)); (case bt15 => exact fun _ _ _ h => h); (case ct15 => kernel_rfl); (case dt15 => (intro W9 hW; have q0 := ((HZB.out.2.1).save hW (Ne.symm HNE.out.1)).cellAt 1 rfl; clear hW; go_simp; (try with_reducible rfl))); (case' rt15 => simp only [Act.put, List.setIfInBounds_toArray, List.set_cons_zero, List.set_cons_succ]))
      (refine held_take (i := 2) (oi := ?ot16) (v := ?vt16) ?at16 (by kernel_rfl) (by kernel_rfl) (by kernel_rfl) ?bt16 ?ct16 ?dt16 (by assumption) ?rt16; (case at16 => (simp only [List.getElem?_toArray, List.getElem?_cons_zero, List.getElem?_cons_succ]; rfl)); (case bt16 => exact fun _ _ _ h => h); (case ct16 => kernel_rfl); (case dt16 => (intro W hW; (try dsimp only at hW); go_split_ands; go_simp; (try with_reducible rfl))); (case' rt16 => simp only [Act.put, List.setIfInBounds_toArray, List.set_cons_zero, List.set_cons_succ]))
      (refine held_take (i := 3) (oi := ?ot17) (v := .agg #[.int .u32 (num b1), .int .u32 (num b2)]) ?at17 (by kernel_rfl) (by kernel_rfl) (by kernel_rfl) ?bt17 ?ct17 ?dt17 (by assumption) ?rt17; (case at17 => (simp only [List.getElem?_toArray, List.getElem?_cons_zero, List.getElem?_cons_succ]; rfl)); (case bt17 => exact fun _ _ _ h => h); (case ct17 => kernel_rfl); (case dt17 => (intro W9 hW; exact exec_load _ _ rfl _ rfl _ (((HZB.out.2.1).save hW (Ne.symm HNE.out.1)).load Try.underlying35 rfl infoR))); (case' rt17 => simp only [Act.put, List.setIfInBounds_toArray, List.set_cons_zero, List.set_cons_succ]))
      (refine held_take (i := 4) (oi := ?ot18) (v := ?vt18) ?at18 (by kernel_rfl) (by kernel_rfl) (by kernel_rfl) ?bt18 ?ct18 ?dt18 (by assumption) ?rt18; (case at18 => (simp only [List.getElem?_toArray, List.getElem?_cons_zero, List.getElem?_cons_succ]; rfl)); (case bt18 => exact fun _ _ _ h => h); (case ct18 => kernel_rfl); (case dt18 => (intro W hW; (try dsimp only at hW); go_split_ands; go_simp; (try with_reducible rfl))); (case' rt18 => simp only [Act.put, List.setIfInBounds_toArray, List.set_cons_zero, List.set_cons_succ]))
      (refine held_take (i := 5) (oi := ?ot19) (v := ?vt19) ?at19 (by kernel_rfl) (by kernel_rfl) (by kernel_rfl) ?bt19 ?ct19 ?dt19 (by assumption) ?rt19; (case at19 => (simp only [List.getElem?_toArray, List.getElem?_cons_zero, List.getElem?_cons_succ]; rfl)); (case bt19 => exact fun _ _ _ h => h); (case ct19 => kernel_rfl); (case dt19 => (intro W hW; (try dsimp only at hW); go_split_ands; go_simp; (try with_reducible rfl))); (case' rt19 => simp only [Act.put, List.setIfInBounds_toArray, List.set_cons_zero, List.set_cons_succ]))
      refine held_one (i := 6) (oi := ?ot20) (by kernel_rfl) ?at20 ?ct20 (fun K6 hK6 => ?_)
      (case at20 => (simp only [List.getElem?_toArray, List.getElem?_cons_zero, List.getElem?_cons_succ]; rfl))
      (case ct20 => kernel_rfl)
      refine ow_store 35 _ _ rfl _ rfl _ rfl ((show Blk Z.drew w.heap.size 35 #[.int .u32 0, .int .u32 0] from HZB.out.1).store #[.int .u32 (num b1), .int .u32 (num b2)] rfl infoR rfl) ?_
      refine hK6 _ _ (hS.setRow _) (fun hS6 => ?_)
      clear hK6 K6
      (refine held_take (i := 7) (oi := ?ot21) (v := ?vt21) ?at21 (by kernel_rfl) (by kernel_rfl) (by kernel_rfl) ?bt21 ?ct21 ?dt21 (by assumption) ?rt21; (case at21 => (simp only [List.getElem?_toArray, List.getElem?_cons_zero, List.getElem?_cons_succ]; rfl)); (case bt21 => exact fun _ _ _ h => h); (case ct21 => kernel_rfl); (case dt21 => (intro W hW; (try dsimp only at hW); go_split_ands; go_simp; (try with_reducible rfl))); (case' rt21 => simp only [Act.put, List.setIfInBounds_toArray, List.set_cons_zero, List.set_cons_succ]))
      refine wpAnyH_done (by kernel_rfl) ?_ _
      go_wp2
      refine bodyPost_ret (results_ttct rfl _ _ _ rfl (((show Blk Z.drew w.heap.size 35 #[.int .u32 0, .int .u32 0] from HZB.out.1).row _).load Try.underlying35 rfl infoR)) rfl ⟨?_, (HZB.out.2.2).trans (hS6.below (Nat.le_refl _) (HZB.out.2.2).size)⟩
      rfl
  | true =>
    cases gi with
    | false =>
      have hR := HALL.out.2.2.1 rfl (fun h => by cases h)
      by_cases hs : a1 = ones
      · have v1 := ones_num hs
        have v2 : (num a1 == 4294967295) = true := by simp [v1]
        rw [if_pos (.inl hs)] at hR
        subst hR
        clear hs v1
        go_wp2_with ((with_reducible show wpList _ _ _ (Oper.mk _ (.store 35 _ _) _ _ _ _ :: _) _ _); refine wl_store rfl 35 _ _ rfl _ rfl _ rfl (HXB.out.1.store #[.int .u32 0, .int .u32 0] rfl infoR rfl) ?_)
        exact bodyPost_ret (results_ttct rfl _ _ _ rfl ((HXB.out.1.row _).load Try.underlying35 rfl infoR)) rfl ⟨rfl, below_row HXB.out.2.2.2.2 (Nat.le_refl _) _⟩
      have v1 := ones_ne hs
      have v2 : (num a1 == 4294967295) = false := by simp [v1]
      by_cases hv : a2 = ones
      · have v3 := ones_num hv
        have v4 : (num a2 == 4294967295) = true := by simp [v3]
        rw [if_pos (.inr hv)] at hR
        subst hR
        clear hs hv v3
        go_wp2_with ((with_reducible show wpList _ _ _ (Oper.mk _ (.store 35 _ _) _ _ _ _ :: _) _ _); refine wl_store rfl 35 _ _ rfl _ rfl _ rfl (HXB.out.1.store #[.int .u32 0, .int .u32 0] rfl infoR rfl) ?_)
        exact bodyPost_ret (results_ttct rfl _ _ _ rfl ((HXB.out.1.row _).load Try.underlying35 rfl infoR)) rfl ⟨rfl, below_row HXB.out.2.2.2.2 (Nat.le_refl _) _⟩
      have v3 := ones_ne hv
      have v4 : (num a2 == 4294967295) = false := by simp [v3]
      rw [if_neg (by rintro (h | h); exact hs h; exact hv h)] at hR
      subst hR
      clear hs hv
      go_upto_region 14 with fail
      clear k9 l9 k11 l11 k14 l14
      refine wp_region_held_drew (S := fun Y => Save w.heap.size X Y) (by kernel_rfl) (show Save w.heap.size X X.drew from ⟨rfl, rfl, rfl, Nat.le_refl _, fun _ _ _ => rfl⟩) (fun hS => ?_)
      (refine held_take (i := 0) (oi := ?ot22) (v := ?vt22) ?at22 (by kernel_rfl) (by kernel_rfl) (by kernel_rfl) ?bt22 ?ct22 ?dt22 (by assumption) ?rt22; (case at22 => (simp only [List.getElem?_toArray, List.getElem?_cons_zero]; rfl)); (case bt22 => exact fun _ _ _ h => h); (case ct22 => kernel_rfl); (case dt22 => (intro W hW; (try dsimp only at hW); go_split_ands; go_simp; (try with_reducible rfl))); (case' rt22 => simp only [Act.put, List.setIfInBounds_toArray, List.set_cons_zero, List.set_cons_succ]))
      (refine held_take (i := 1) (oi := ?ot23) (v := .int .u32 (num a2)) ?at23 (by kernel_rfl) (by kernel_rfl) (by kernel_rfl) ?bt23 ?ct23 ?dt23 (by assumption) ?rt23; (case at23 => (simp only [List.getElem?_toArray, List.getElem?_cons_zero, List.getElem?_cons_succ]; rfl)); (case bt23 => exact fun _ _ _ h => h); (case ct23 => kernel_rfl); (case dt23 => (intro W9 hW; have q0 := ((HXB.out.2.2.2.1).save hW (Ne.symm HNE.out.1)).cellAt 1 rfl; clear hW; go_simp; (try with_reducible rfl))); (case' rt23 => simp only [Act.put, List.setIfInBounds_toArray, List.set_cons_zero, List.set_cons_succ]))
      (refine held_take (i := 2) (oi := ?ot24) (v := ?vt24) ?at24 (by kernel_rfl) (by kernel_rfl) (by kernel_rfl) ?bt24 ?ct24 ?dt24 (by assumption) ?rt24; (case at24 => (simp only [List.getElem?_toArray, List.getElem?_cons_zero, List.getElem?_cons_succ]; rfl)); (case bt24 => exact fun _ _ _ h => h); (case ct24 => kernel_rfl); (case dt24 => (intro W hW; (try dsimp only at hW); go_split_ands; go_simp; (try with_reducible rfl))); (case' rt24 => simp only [Act.put, List.setIfInBounds_toArray, List.set_cons_zero, List.set_cons_succ]))
      (refine held_take (i := 3) (oi := ?ot25) (v := .agg #[.int .u32 (num a1), .int .u32 (num a2)]) ?at25 (by kernel_rfl) (by kernel_rfl) (by kernel_rfl) ?bt25 ?ct25 ?dt25 (by assumption) ?rt25; (case at25 => (simp only [List.getElem?_toArray, List.getElem?_cons_zero, List.getElem?_cons_succ]; rfl)); (case bt25 => exact fun _ _ _ h => h); (case ct25 => kernel_rfl); (case dt25 => (intro W9 hW; exact exec_load _ _ rfl _ rfl _ (((HXB.out.2.2.2.1).save hW (Ne.symm HNE.out.1)).load Try.underlying35 rfl infoR))); (case' rt25 => simp only [Act.put, List.setIfInBounds_toArray, List.set_cons_zero, List.set_cons_succ]))
      (refine held_take (i := 4) (oi := ?ot26) (v := ?vt26) ?at26 (by kernel_rfl) (by kernel_rfl) (by kernel_rfl) ?bt26 ?ct26 ?dt26 (by assumption) ?rt26; (case at26 => (simp only [List.getElem?_toArray, List.getElem?_cons_zero, List.getElem?_cons_succ]; rfl)); (case bt26 => exact fun _ _ _ h => h); (case ct26 => kernel_rfl); (case dt26 => (intro W hW; (try dsimp only at hW); go_split_ands; go_simp; (try with_reducible rfl))); (case' rt26 => simp only [Act.put, List.setIfInBounds_toArray, List.set_cons_zero, List.set_cons_succ]))
      (refine held_take (i := 5) (oi := ?ot27) (v := ?vt27) ?at27 (by kernel_rfl) (by kernel_rfl) (by kernel_rfl) ?bt27 ?ct27 ?dt27 (by assumption) ?rt27; (case at27 => (simp only [List.getElem?_toArray, List.getElem?_cons_zero, List.getElem?_cons_succ]; rfl)); (case bt27 => exact fun _ _ _ h => h); (case ct27 => kernel_rfl); (case dt27 => (intro W hW; (try dsimp only at hW); go_split_ands; go_simp; (try with_reducible rfl))); (case' rt27 => simp only [Act.put, List.setIfInBounds_toArray, List.set_cons_zero, List.set_cons_succ]))
      refine held_one (i := 6) (oi := ?ot28) (by kernel_rfl) ?at28 ?ct28 (fun K6 hK6 => ?_)
      (case at28 => (simp only [List.getElem?_toArray, List.getElem?_cons_zero, List.getElem?_cons_succ]; rfl))
      (case ct28 => kernel_rfl)
      refine ow_store 35 _ _ rfl _ rfl _ rfl ((show Blk X.drew w.heap.size 35 #[.int .u32 0, .int .u32 0] from HXB.out.1).store #[.int .u32 (num a1), .int .u32 (num a2)] rfl infoR rfl) ?_
      refine hK6 _ _ (hS.setRow _) (fun hS6 => ?_)
      clear hK6 K6
      (refine held_take (i := 7) (oi := ?ot29) (v := ?vt29) ?at29 (by kernel_rfl) (by kernel_rfl) (by kernel_rfl) ?bt29 ?ct29 ?dt29 (by assumption) ?rt29; (case at29 => (simp only [List.getElem?_toArray, List.getElem?_cons_zero, List.getElem?_cons_succ]; rfl)); (case bt29 => exact fun _ _ _ h => h); (case ct29 => kernel_rfl); (case dt29 => (intro W hW; (try dsimp only at hW); go_split_ands; go_simp; (try with_reducible rfl))); (case' rt29 => simp only [Act.put, List.setIfInBounds_toArray, List.set_cons_zero, List.set_cons_succ]))
      refine wpAnyH_done (by kernel_rfl) ?_ _
      go_wp2
      refine bodyPost_ret (results_ttct rfl _ _ _ rfl (((show Blk X.drew w.heap.size 35 #[.int .u32 0, .int .u32 0] from HXB.out.1).row _).load Try.underlying35 rfl infoR)) rfl ⟨?_, (HXB.out.2.2.2.2).trans (hS6.below (Nat.le_refl _) (HXB.out.2.2.2.2).size)⟩
      rfl
    | true =>
    by_cases hlt : a1.toNat < b1.toNat
    · have hR := HALL.out.2.2.2 rfl (fun _ => hlt)
      have q1 : num a1 < num b1 := by unfold num; omega
      have q2 : decide (num a1 < num b1) = true := decide_eq_true q1
      have q3 : ¬ num a1 = num b1 := by omega
      have q4 : (num a1 == num b1) = false := by simp [q3]
      by_cases hs : b1 = ones
      · have v1 := ones_num hs
        have v2 : (num b1 == 4294967295) = true := by simp [v1]
        rw [if_pos (.inl hs)] at hR
        subst hR
        clear hs v1
        go_upto_region 11 with fail
        clear k9 l9 k11 l11 k14 l14
        refine wp_region_held_drew (S := fun Y => Save g14 X Y) (by kernel_rfl) (show Save g14 X X.drew from ⟨rfl, rfl, rfl, Nat.le_refl _, fun _ _ _ => rfl⟩) (fun hS => ?_)
        (refine held_take (i := 0) (oi := ?ot30) (v := .agg #[.int .u32 (num b1), .int .u32 (num b2)]) ?at30 (by kernel_rfl) (by kernel_rfl) (by kernel_rfl) ?bt30 ?ct30 ?dt30 (by assumption) ?rt30; (case at30 => (simp only [List.getElem?_toArray, List.getElem?_cons_zero]; rfl)); (case bt30 => exact fun _ _ _ h => h); (case ct30 => kernel_rfl); (case dt30 => (intro W hW; exact exec_load _ _ rfl _ rfl _ ((HXB.out.2.2.1.save hW HNE.out.2.2.1).load Try.underlying35 rfl infoR))); (case' rt30 => simp only [Act.put, List.setIfInBounds_toArray, List.set_cons_zero, List.set_cons_succ]))
        (refine held_take (i := 1) (oi := ?ot31) (v := ?vt31) ?at31 (by kernel_rfl) (by kernel_rfl) (by kernel_rfl) ?bt31 ?ct31 ?dt31 (by assumption) ?rt31; (case at31 => (simp only [List.getElem?_toArray, List.getElem?_cons_zero, List.getElem?_cons_succ]; rfl)); (case bt31 => exact fun _ _ _ h => h); (case ct31 => kernel_rfl); (case dt31 => (intro W hW; (try dsimp only at hW); go_split_ands; go_simp; (try with_reducible rfl))); (case' rt31 => simp only [Act.put, List.setIfInBounds_toArray, List.set_cons_zero, List.set_cons_succ]))
        refine held_one (i := 2) (oi := ?ot32) (by kernel_rfl) ?at32 ?ct32 (fun K2 hK2 => ?_)
        (case at32 => (simp only [List.getElem?_toArray, List.getElem?_cons_zero, List.getElem?_cons_succ]; rfl))
        (case ct32 => kernel_rfl)
        have hSb := hS
        refine ow_store 35 _ _ rfl _ rfl _ rfl ((show Blk X.drew g14 35 #[.int .u32 (num a1), .int .u32 (num a2)] from HXB.out.2.2.2.1).store #[.int .u32 (num b1), .int .u32 (num b2)] rfl infoR rfl) ?_
        refine hK2 _ _ (hSb.setRow _) (fun hS2 => ?_)
        clear hK2 K2 hSb
        refine wpAnyH_done (by kernel_rfl) ?_ _
        have HS11 := Lib.hid hS2
        obtain ⟨Z, hZ⟩ : ∃ Z, Z = X.drew.setRow g14 #[.int .u32 (num b1), .int .u32 (num b2)] := ⟨_, rfl⟩
        have HZB : Hid (Blk Z w.heap.size 35 #[.int .u32 0, .int .u32 0] ∧ Blk Z g14 35 #[.int .u32 (num b1), .int .u32 (num b2)] ∧ Below w.heap.size w Z) := Lib.hid (by
          rw [hZ]
          exact ⟨HXB.out.1.save HS11.out HNE.out.1, (show Blk X.drew g14 35 #[.int .u32 (num a1), .int .u32 (num a2)] from HXB.out.2.2.2.1).row _, HXB.out.2.2.2.2.trans (HS11.out.below (HNE.out.2.2.2) HXB.out.2.2.2.2.size)⟩)
        rw [← hZ]
        clear hZ HS11 hS2
        have m14 := HZB.out.2.1.cellAt 0 rfl
        have n14 := HZB.out.2.1.cellAt 1 rfl
        go_wp2_with ((with_reducible show wpList _ _ _ (Oper.mk _ (.store 35 _ _) _ _ _ _ :: _) _ _); refine wl_store rfl 35 _ _ rfl _ rfl _ rfl (HZB.out.1.store #[.int .u32 0, .int .u32 0] rfl infoR rfl) ?_)
        exact bodyPost_ret (results_ttct rfl _ _ _ rfl ((HZB.out.1.row _).load Try.underlying35 rfl infoR)) rfl ⟨rfl, below_row HZB.out.2.2 (Nat.le_refl _) _⟩
      have v1 := ones_ne hs
      have v2 : (num b1 == 4294967295) = false := by simp [v1]
      by_cases hv : b2 = ones
      · have v3 := ones_num hv
        have v4 : (num b2 == 4294967295) = true := by simp [v3]
        rw [if_pos (.inr hv)] at hR
        subst hR
        clear hs hv v3
        go_upto_region 11 with fail
        clear k9 l9 k11 l11 k14 l14
        refine wp_region_held_drew (S := fun Y => Save g14 X Y) (by kernel_rfl) (show Save g14 X X.drew from ⟨rfl, rfl, rfl, Nat.le_refl _, fun _ _ _ => rfl⟩) (fun hS => ?_)
        (refine held_take (i := 0) (oi := ?ot33) (v := .agg #[.int .u32 (num b1), .int .u32 (num b2)]) ?at33 (by kernel_rfl) (by kernel_rfl) (by kernel_rfl) ?bt33 ?ct33 ?dt33 (by assumption) ?rt33; (case at33 => (simp only [List.getElem?_toArray, List.getElem?_cons_zero]; rfl)); (case bt33 => exact fun _ _ _ h => h); (case ct33 => kernel_rfl); (case dt33 => (intro W hW; exact exec_load _ _ rfl _ rfl _ ((HXB.out.2.2.1.save hW HNE.out.2.2.1).load Try.underlying35 rfl infoR))); (case' rt33 => simp only [Act.put, List.setIfInBounds_toArray, List.set_cons_zero, List.set_cons_succ]))
        (refine held_take (i := 1) (oi := ?ot34) (v := ?vt34) ?at34 (by kernel_rfl) (by kernel_rfl) (by kernel_rfl) ?bt34 ?ct34 ?dt34 (by assumption) ?rt34; (case at34 => (simp only [List.getElem?_toArray, List.getElem?_cons_zero, List.getElem?_cons_succ]; rfl)); (case bt34 => exact fun _ _ _ h => h); (case ct34 => kernel_rfl); (case dt34 => (intro W hW; (try dsimp only at hW); go_split_ands; go_simp; (try with_reducible rfl))); (case' rt34 => simp only [Act.put, List.setIfInBounds_toArray, List.set_cons_zero, List.set_cons_succ]))
        refine held_one (i := 2) (oi := ?ot35) (by kernel_rfl) ?at35 ?ct35 (fun K2 hK2 => ?_)
        (case at35 => (simp only [List.getElem?_toArray, List.getElem?_cons_zero, List.getElem?_cons_succ]; rfl))
        (case ct35 => kernel_rfl)
        have hSb := hS
        refine ow_store 35 _ _ rfl _ rfl _ rfl ((show Blk X.drew g14 35 #[.int .u32 (num a1), .int .u32 (num a2)] from HXB.out.2.2.2.1).store #[.int .u32 (num b1), .int .u32 (num b2)] rfl infoR rfl) ?_
        refine hK2 _ _ (hSb.setRow _) (fun hS2 => ?_)
        clear hK2 K2 hSb
        refine wpAnyH_done (by kernel_rfl) ?_ _
        have HS11 := Lib.hid hS2
        obtain ⟨Z, hZ⟩ : ∃ Z, Z = X.drew.setRow g14 #[.int .u32 (num b1), .int .u32 (num b2)] := ⟨_, rfl⟩
        have HZB : Hid (Blk Z w.heap.size 35 #[.int .u32 0, .int .u32 0] ∧ Blk Z g14 35 #[.int .u32 (num b1), .int .u32 (num b2)] ∧ Below w.heap.size w Z) := Lib.hid (by
          rw [hZ]
          exact ⟨HXB.out.1.save HS11.out HNE.out.1, (show Blk X.drew g14 35 #[.int .u32 (num a1), .int .u32 (num a2)] from HXB.out.2.2.2.1).row _, HXB.out.2.2.2.2.trans (HS11.out.below (HNE.out.2.2.2) HXB.out.2.2.2.2.size)⟩)
        rw [← hZ]
        clear hZ HS11 hS2
        have m14 := HZB.out.2.1.cellAt 0 rfl
        have n14 := HZB.out.2.1.cellAt 1 rfl
        go_wp2_with ((with_reducible show wpList _ _ _ (Oper.mk _ (.store 35 _ _) _ _ _ _ :: _) _ _); refine wl_store rfl 35 _ _ rfl _ rfl _ rfl (HZB.out.1.store #[.int .u32 0, .int .u32 0] rfl infoR rfl) ?_)
        exact bodyPost_ret (results_ttct rfl _ _ _ rfl ((HZB.out.1.row _).load Try.underlying35 rfl infoR)) rfl ⟨rfl, below_row HZB.out.2.2 (Nat.le_refl _) _⟩
      have v3 := ones_ne hv
      have v4 : (num b2 == 4294967295) = false := by simp [v3]
      rw [if_neg (by rintro (h | h); exact hs h; exact hv h)] at hR
      subst hR
      clear hs hv
      go_upto_region 11 with fail
      clear k9 l9 k11 l11 k14 l14
      refine wp_region_held_drew (S := fun Y => Save g14 X Y) (by kernel_rfl) (show Save g14 X X.drew from ⟨rfl, rfl, rfl, Nat.le_refl _, fun _ _ _ => rfl⟩) (fun hS => ?_)
      (refine held_take (i := 0) (oi := ?ot36) (v := .agg #[.int .u32 (num b1), .int .u32 (num b2)]) ?at36 (by kernel_rfl) (by kernel_rfl) (by kernel_rfl) ?bt36 ?ct36 ?dt36 (by assumption) ?rt36; (case at36 => (simp only [List.getElem?_toArray, List.getElem?_cons_zero]; rfl)); (case bt36 => exact fun _ _ _ h => h); (case ct36 => kernel_rfl); (case dt36 => (intro W hW; exact exec_load _ _ rfl _ rfl _ ((HXB.out.2.2.1.save hW HNE.out.2.2.1).load Try.underlying35 rfl infoR))); (case' rt36 => simp only [Act.put, List.setIfInBounds_toArray, List.set_cons_zero, List.set_cons_succ]))
      (refine held_take (i := 1) (oi := ?ot37) (v := ?vt37) ?at37 (by kernel_rfl) (by kernel_rfl) (by kernel_rfl) ?bt37 ?ct37 ?dt37 (by assumption) ?rt37; (case at37 => (simp only [List.getElem?_toArray, List.getElem?_cons_zero, List.getElem?_cons_succ]; rfl)); (case bt37 => exact fun _ _ _ h => h); (case ct37 => kernel_rfl); (case dt37 => (intro W hW; (try dsimp only at hW); go_split_ands; go_simp; (try with_reducible rfl))); (case' rt37 => simp only [Act.put, List.setIfInBounds_toArray, List.set_cons_zero, List.set_cons_succ]))
      refine held_one (i := 2) (oi := ?ot38) (by kernel_rfl) ?at38 ?ct38 (fun K2 hK2 => ?_)
      (case at38 => (simp only [List.getElem?_toArray, List.getElem?_cons_zero, List.getElem?_cons_succ]; rfl))
      (case ct38 => kernel_rfl)
      have hSb := hS
      refine ow_store 35 _ _ rfl _ rfl _ rfl ((show Blk X.drew g14 35 #[.int .u32 (num a1), .int .u32 (num a2)] from HXB.out.2.2.2.1).store #[.int .u32 (num b1), .int .u32 (num b2)] rfl infoR rfl) ?_
      refine hK2 _ _ (hSb.setRow _) (fun hS2 => ?_)
      clear hK2 K2 hSb
      refine wpAnyH_done (by kernel_rfl) ?_ _
      have HS11 := Lib.hid hS2
      obtain ⟨Z, hZ⟩ : ∃ Z, Z = X.drew.setRow g14 #[.int .u32 (num b1), .int .u32 (num b2)] := ⟨_, rfl⟩
      have HZB : Hid (Blk Z w.heap.size 35 #[.int .u32 0, .int .u32 0] ∧ Blk Z g14 35 #[.int .u32 (num b1), .int .u32 (num b2)] ∧ Below w.heap.size w Z) := Lib.hid (by
        rw [hZ]
        exact ⟨HXB.out.1.save HS11.out HNE.out.1, (show Blk X.drew g14 35 #[.int .u32 (num a1), .int .u32 (num a2)] from HXB.out.2.2.2.1).row _, HXB.out.2.2.2.2.trans (HS11.out.below (HNE.out.2.2.2) HXB.out.2.2.2.2.size)⟩)
      rw [← hZ]
      clear hZ HS11 hS2
      have m14 := HZB.out.2.1.cellAt 0 rfl
      have n14 := HZB.out.2.1.cellAt 1 rfl
      go_upto_region 14 with fail
      clear m14 n14
      refine wp_region_held_drew (S := fun Y => Save w.heap.size Z Y) (by kernel_rfl) (show Save w.heap.size Z Z.drew from ⟨rfl, rfl, rfl, Nat.le_refl _, fun _ _ _ => rfl⟩) (fun hS => ?_)
      (refine held_take (i := 0) (oi := ?ot39) (v := ?vt39) ?at39 (by kernel_rfl) (by kernel_rfl) (by kernel_rfl) ?bt39 ?ct39 ?dt39 (by assumption) ?rt39; (case at39 => (simp only [List.getElem?_toArray, List.getElem?_cons_zero]; rfl)); (case bt39 => exact fun _ _ _ h => h); (case ct39 => kernel_rfl); (case dt39 => (intro W hW; (try dsimp only at hW); go_split_ands; go_simp; (try with_reducible rfl))); (case' rt39 => simp only [Act.put, List.setIfInBounds_toArray, List.set_cons_zero, List.set_cons_succ]))
      (refine held_take (i := 1) (oi := ?ot40) (v := .int .u32 (num b2)) ?at40 (by kernel_rfl) (by kernel_rfl) (by kernel_rfl) ?bt40 ?ct40 ?dt40 (by assumption) ?rt40; (case at40 => (simp only [List.getElem?_toArray, List.getElem?_cons_zero, List.getElem?_cons_succ]; rfl)); (case bt40 => exact fun _ _ _ h => h); (case ct40 => kernel_rfl); (case dt40 => (intro W9 hW; have q0 := ((HZB.out.2.1).save hW (Ne.symm HNE.out.1)).cellAt 1 rfl; clear hW; go_simp; (try with_reducible rfl))); (case' rt40 => simp only [Act.put, List.setIfInBounds_toArray, List.set_cons_zero, List.set_cons_succ]))
      (refine held_take (i := 2) (oi := ?ot41) (v := ?vt41) ?at41 (by kernel_rfl) (by kernel_rfl) (by kernel_rfl) ?bt41 ?ct41 ?dt41 (by assumption) ?rt41; (case at41 => (simp only [List.getElem?_toArray, List.getElem?_cons_zero, List.getElem?_cons_succ]; rfl)); (case bt41 => exact fun _ _ _ h => h); (case ct41 => kernel_rfl); (case dt41 => (intro W hW; (try dsimp only at hW); go_split_ands; go_simp; (try with_reducible rfl))); (case' rt41 => simp only [Act.put, List.setIfInBounds_toArray, List.set_cons_zero, List.set_cons_succ]))
      (refine held_take (i := 3) (oi := ?ot42) (v := .agg #[.int .u32 (num b1), .int .u32 (num b2)]) ?at42 (by kernel_rfl) (by kernel_rfl) (by kernel_rfl) ?bt42 ?ct42 ?dt42 (by assumption) ?rt42; (case at42 => (simp only [List.getElem?_toArray, List.getElem?_cons_zero, List.getElem?_cons_succ]; rfl)); (case bt42 => exact fun _ _ _ h => h); (case ct42 => kernel_rfl); (case dt42 => (intro W9 hW; exact exec_load _ _ rfl _ rfl _ (((HZB.out.2.1).save hW (Ne.symm HNE.out.1)).load Try.underlying35 rfl infoR))); (case' rt42 => simp only [Act.put, List.setIfInBounds_toArray, List.set_cons_zero, List.set_cons_succ]))
      (refine held_take (i := 4) (oi := ?ot43) (v := ?vt43) ?at43 (by kernel_rfl) (by kernel_rfl) (by kernel_rfl) ?bt43 ?ct43 ?dt43 (by assumption) ?rt43; (case at43 => (simp only [List.getElem?_toArray, List.getElem?_cons_zero, List.getElem?_cons_succ]; rfl)); (case bt43 => exact fun _ _ _ h => h); (case ct43 => kernel_rfl); (case dt43 => (intro W hW; (try dsimp only at hW); go_split_ands; go_simp; (try with_reducible rfl))); (case' rt43 => simp only [Act.put, List.setIfInBounds_toArray, List.set_cons_zero, List.set_cons_succ]))
      (refine held_take (i := 5) (oi := ?ot44) (v := ?vt44) ?at44 (by kernel_rfl) (by kernel_rfl) (by kernel_rfl) ?bt44 ?ct44 ?dt44 (by assumption) ?rt44; (case at44 => (simp only [List.getElem?_toArray, List.getElem?_cons_zero, List.getElem?_cons_succ]; rfl)); (case bt44 => exact fun _ _ _ h => h); (case ct44 => kernel_rfl); (case dt44 => (intro W hW; (try dsimp only at hW); go_split_ands; go_simp; (try with_reducible rfl))); (case' rt44 => simp only [Act.put, List.setIfInBounds_toArray, List.set_cons_zero, List.set_cons_succ]))
      refine held_one (i := 6) (oi := ?ot45) (by kernel_rfl) ?at45 ?ct45 (fun K6 hK6 => ?_)
      (case at45 => (simp only [List.getElem?_toArray, List.getElem?_cons_zero, List.getElem?_cons_succ]; rfl))
      (case ct45 => kernel_rfl)
      refine ow_store 35 _ _ rfl _ rfl _ rfl ((show Blk Z.drew w.heap.size 35 #[.int .u32 0, .int .u32 0] from HZB.out.1).store #[.int .u32 (num b1), .int .u32 (num b2)] rfl infoR rfl) ?_
      refine hK6 _ _ (hS.setRow _) (fun hS6 => ?_)
      clear hK6 K6
      (refine held_take (i := 7) (oi := ?ot46) (v := ?vt46) ?at46 (by kernel_rfl) (by kernel_rfl) (by kernel_rfl) ?bt46 ?ct46 ?dt46 (by assumption) ?rt46; (case at46 => (simp only [List.getElem?_toArray, List.getElem?_cons_zero, List.getElem?_cons_succ]; rfl)); (case bt46 => exact fun _ _ _ h => h); (case ct46 => kernel_rfl); (case dt46 => (intro W hW; (try dsimp only at hW); go_split_ands; go_simp; (try with_reducible rfl))); (case' rt46 => simp only [Act.put, List.setIfInBounds_toArray, List.set_cons_zero, List.set_cons_succ]))
      refine wpAnyH_done (by kernel_rfl) ?_ _
      go_wp2
      refine bodyPost_ret (results_ttct rfl _ _ _ rfl (((show Blk Z.drew w.heap.size 35 #[.int .u32 0, .int .u32 0] from HZB.out.1).row _).load Try.underlying35 rfl infoR)) rfl ⟨?_, (HZB.out.2.2).trans (hS6.below (Nat.le_refl _) (HZB.out.2.2).size)⟩
      rfl
    have q1 : ¬ num a1 < num b1 := by unfold num; omega
    have q2 : decide (num a1 < num b1) = false := decide_eq_false q1
    by_cases heq : a1 = b1
    · by_cases hv2 : a2 = b2
      · have hR := HALL.out.2.2.1 rfl (fun _ => ⟨hlt, fun h => h.2 hv2⟩)
        have q3 : (num a1 == num b1) = true := by rw [heq]; simp
        have q4 : (num a2 != num b2) = false := by rw [hv2]; simp
        clear heq hv2 hlt
        by_cases hs : a1 = ones
        · have v1 := ones_num hs
          have v2 : (num a1 == 4294967295) = true := by simp [v1]
          rw [if_pos (.inl hs)] at hR
          subst hR
          clear hs v1
          go_wp2_with ((with_reducible show wpList _ _ _ (Oper.mk _ (.store 35 _ _) _ _ _ _ :: _) _ _); refine wl_store rfl 35 _ _ rfl _ rfl _ rfl (HXB.out.1.store #[.int .u32 0, .int .u32 0] rfl infoR rfl) ?_)
          exact bodyPost_ret (results_ttct rfl _ _ _ rfl ((HXB.out.1.row _).load Try.underlying35 rfl infoR)) rfl ⟨rfl, below_row HXB.out.2.2.2.2 (Nat.le_refl _) _⟩
        have v1 := ones_ne hs
        have v2 : (num a1 == 4294967295) = false := by simp [v1]
        by_cases hv : a2 = ones
        · have v3 := ones_num hv
          have v4 : (num a2 == 4294967295) = true := by simp [v3]
          rw [if_pos (.inr hv)] at hR
          subst hR
          clear hs hv v3
          go_wp2_with ((with_reducible show wpList _ _ _ (Oper.mk _ (.store 35 _ _) _ _ _ _ :: _) _ _); refine wl_store rfl 35 _ _ rfl _ rfl _ rfl (HXB.out.1.store #[.int .u32 0, .int .u32 0] rfl infoR rfl) ?_)
          exact bodyPost_ret (results_ttct rfl _ _ _ rfl ((HXB.out.1.row _).load Try.underlying35 rfl infoR)) rfl ⟨rfl, below_row HXB.out.2.2.2.2 (Nat.le_refl _) _⟩
        have v3 := ones_ne hv
        have v4 : (num a2 == 4294967295) = false := by simp [v3]
        rw [if_neg (by rintro (h | h); exact hs h; exact hv h)] at hR
        subst hR
        clear hs hv
        go_upto_region 14 with fail
        clear k9 l9 k11 l11 k14 l14
        refine wp_region_held_drew (S := fun Y => Save w.heap.size X Y) (by kernel_rfl) (show Save w.heap.size X X.drew from ⟨rfl, rfl, rfl, Nat.le_refl _, fun _ _ _ => rfl⟩) (fun hS => ?_)
        (refine held_take (i := 0) (oi := ?ot47) (v := ?vt47) ?at47 (by kernel_rfl) (by kernel_rfl) (by kernel_rfl) ?bt47 ?ct47 ?dt47 (by assumption) ?rt47; (case at47 => (simp only [List.getElem?_toArray, List.getElem?_cons_zero]; rfl)); (case bt47 => exact fun _ _ _ h => h); (case ct47 => kernel_rfl); (case dt47 => (intro W hW; (try dsimp only at hW); go_split_ands; go_simp; (try with_reducible rfl))); (case' rt47 => simp only [Act.put, List.setIfInBounds_toArray, List.set_cons_zero, List.set_cons_succ]))
        (refine held_take (i := 1) (oi := ?ot48) (v := .int .u32 (num a2)) ?at48 (by kernel_rfl) (by kernel_rfl) (by kernel_rfl) ?bt48 ?ct48 ?dt48 (by assumption) ?rt48; (case at48 => (simp only [List.getElem?_toArray, List.getElem?_cons_zero, List.getElem?_cons_succ]; rfl)); (case bt48 => exact fun _ _ _ h => h); (case ct48 => kernel_rfl); (case dt48 => (intro W9 hW; have q0 := ((HXB.out.2.2.2.1).save hW (Ne.symm HNE.out.1)).cellAt 1 rfl; clear hW; go_simp; (try with_reducible rfl))); (case' rt48 => simp only [Act.put, List.setIfInBounds_toArray, List.set_cons_zero, List.set_cons_succ]))
        (refine held_take (i := 2) (oi := ?ot49) (v := ?vt49) ?at49 (by kernel_rfl) (by kernel_rfl) (by kernel_rfl) ?bt49 ?ct49 ?dt49 (by assumption) ?rt49; (case at49 => (simp only [List.getElem?_toArray, List.getElem?_cons_zero, List.getElem?_cons_succ]; rfl)); (case bt49 => exact fun _ _ _ h => h); (case ct49 => kernel_rfl); (case dt49 => (intro W hW; (try dsimp only at hW); go_split_ands; go_simp; (try with_reducible rfl))); (case' rt49 => simp only [Act.put, List.setIfInBounds_toArray, List.set_cons_zero, List.set_cons_succ]))
        (refine held_take (i := 3) (oi := ?ot50) (v := .agg #[.int .u32 (num a1), .int .u32 (num a2)]) ?at50 (by kernel_rfl) (by kernel_rfl) (by kernel_rfl) ?bt50 ?ct50 ?dt50 (by assumption) ?rt50; (case at50 => (simp only [List.getElem?_toArray, List.getElem?_cons_zero, List.getElem?_cons_succ]; rfl)); (case bt50 => exact fun _ _ _ h => h); (case ct50 => kernel_rfl); (case dt50 => (intro W9 hW; exact exec_load _ _ rfl _ rfl _ (((HXB.out.2.2.2.1).save hW (Ne.symm HNE.out.1)).load Try.underlying35 rfl infoR))); (case' rt50 => simp only [Act.put, List.setIfInBounds_toArray, List.set_cons_zero, List.set_cons_succ]))
        (refine held_take (i := 4) (oi := ?ot51) (v := ?vt51) ?at51 (by kernel_rfl) (by kernel_rfl) (by kernel_rfl) ?bt51 ?ct51 ?dt51 (by assumption) ?rt51; (case at51 => (simp only [List.getElem?_toArray, List.getElem?_cons_zero, List.getElem?_cons_succ]; rfl)); (case bt51 => exact fun _ _ _ h => h); (case ct51 => kernel_rfl); (case dt51 => (intro W hW; (try dsimp only at hW); go_split_ands; go_simp; (try with_reducible rfl))); (case' rt51 => simp only [Act.put, List.setIfInBounds_toArray, List.set_cons_zero, List.set_cons_succ]))
        (refine held_take (i := 5) (oi := ?ot52) (v := ?vt52) ?at52 (by kernel_rfl) (by kernel_rfl) (by kernel_rfl) ?bt52 ?ct52 ?dt52 (by assumption) ?rt52; (case at52 => (simp only [List.getElem?_toArray, List.getElem?_cons_zero, List.getElem?_cons_succ]; rfl)); (case bt52 => exact fun _ _ _ h => h); (case ct52 => kernel_rfl); (case dt52 => (intro W hW; (try dsimp only at hW); go_split_ands; go_simp; (try with_reducible rfl))); (case' rt52 => simp only [Act.put, List.setIfInBounds_toArray, List.set_cons_zero, List.set_cons_succ]))
        refine held_one (i := 6) (oi := ?ot53) (by kernel_rfl) ?at53 ?ct53 (fun K6 hK6 => ?_)
        (case at53 => (simp only [List.getElem?_toArray, List.getElem?_cons_zero, List.getElem?_cons_succ]; rfl))
        (case ct53 => kernel_rfl)
        refine ow_store 35 _ _ rfl _ rfl _ rfl ((show Blk X.drew w.heap.size 35 #[.int .u32 0, .int .u32 0] from HXB.out.1).store #[.int .u32 (num a1), .int .u32 (num a2)] rfl infoR rfl) ?_
        refine hK6 _ _ (hS.setRow _) (fun hS6 => ?_)
        clear hK6 K6
        (refine held_take (i := 7) (oi := ?ot54) (v := ?vt54) ?at54 (by kernel_rfl) (by kernel_rfl) (by kernel_rfl) ?bt54 ?ct54 ?dt54 (by assumption) ?rt54; (case at54 => (simp only [List.getElem?_toArray, List.getElem?_cons_zero, List.getElem?_cons_succ]; rfl)); (case bt54 => exact fun _ _ _ h => h); (case ct54 => kernel_rfl); (case dt54 => (intro W hW; (try dsimp only at hW); go_split_ands; go_simp; (try with_reducible rfl))); (case' rt54 => simp only [Act.put, List.setIfInBounds_toArray, List.set_cons_zero, List.set_cons_succ]))
        refine wpAnyH_done (by kernel_rfl) ?_ _
        go_wp2
        refine bodyPost_ret (results_ttct rfl _ _ _ rfl (((show Blk X.drew w.heap.size 35 #[.int .u32 0, .int .u32 0] from HXB.out.1).row _).load Try.underlying35 rfl infoR)) rfl ⟨?_, (HXB.out.2.2.2.2).trans (hS6.below (Nat.le_refl _) (HXB.out.2.2.2.2).size)⟩
        rfl
      · have hR := HALL.out.2.1 rfl rfl heq hv2
        have q3 : (num a1 == num b1) = true := by rw [heq]; simp
        have q5 : ¬ num a2 = num b2 := fun e => hv2 (num_inj e)
        have q4 : (num a2 != num b2) = true := by simp [q5]
        subst hR
        clear heq hv2 hlt
        go_wp2_with ((with_reducible show wpList _ _ _ (Oper.mk _ (.store 35 _ _) _ _ _ _ :: _) _ _); refine wl_store rfl 35 _ _ rfl _ rfl _ rfl (HXB.out.1.store #[.int .u32 0, .int .u32 0] rfl infoR rfl) ?_)
        exact bodyPost_ret (results_ttct rfl _ _ _ rfl ((HXB.out.1.row _).load Try.underlying35 rfl infoR)) rfl ⟨rfl, below_row HXB.out.2.2.2.2 (Nat.le_refl _) _⟩
    · have hR := HALL.out.2.2.1 rfl (fun _ => ⟨hlt, fun h => heq h.1⟩)
      have q5 : ¬ num a1 = num b1 := fun e => heq (num_inj e)
      have q3 : (num a1 == num b1) = false := by simp [q5]
      clear heq hlt
      by_cases hs : a1 = ones
      · have v1 := ones_num hs
        have v2 : (num a1 == 4294967295) = true := by simp [v1]
        rw [if_pos (.inl hs)] at hR
        subst hR
        clear hs v1
        go_wp2_with ((with_reducible show wpList _ _ _ (Oper.mk _ (.store 35 _ _) _ _ _ _ :: _) _ _); refine wl_store rfl 35 _ _ rfl _ rfl _ rfl (HXB.out.1.store #[.int .u32 0, .int .u32 0] rfl infoR rfl) ?_)
        exact bodyPost_ret (results_ttct rfl _ _ _ rfl ((HXB.out.1.row _).load Try.underlying35 rfl infoR)) rfl ⟨rfl, below_row HXB.out.2.2.2.2 (Nat.le_refl _) _⟩
      have v1 := ones_ne hs
      have v2 : (num a1 == 4294967295) = false := by simp [v1]
      by_cases hv : a2 = ones
      · have v3 := ones_num hv
        have v4 : (num a2 == 4294967295) = true := by simp [v3]
        rw [if_pos (.inr hv)] at hR
        subst hR
        clear hs hv v3
        go_wp2_with ((with_reducible show wpList _ _ _ (Oper.mk _ (.store 35 _ _) _ _ _ _ :: _) _ _); refine wl_store rfl 35 _ _ rfl _ rfl _ rfl (HXB.out.1.store #[.int .u32 0, .int .u32 0] rfl infoR rfl) ?_)
        exact bodyPost_ret (results_ttct rfl _ _ _ rfl ((HXB.out.1.row _).load Try.underlying35 rfl infoR)) rfl ⟨rfl, below_row HXB.out.2.2.2.2 (Nat.le_refl _) _⟩
      have v3 := ones_ne hv
      have v4 : (num a2 == 4294967295) = false := by simp [v3]
      rw [if_neg (by rintro (h | h); exact hs h; exact hv h)] at hR
      subst hR
      clear hs hv
      go_upto_region 14 with fail
      clear k9 l9 k11 l11 k14 l14
      refine wp_region_held_drew (S := fun Y => Save w.heap.size X Y) (by kernel_rfl) (show Save w.heap.size X X.drew from ⟨rfl, rfl, rfl, Nat.le_refl _, fun _ _ _ => rfl⟩) (fun hS => ?_)
      (refine held_take (i := 0) (oi := ?ot55) (v := ?vt55) ?at55 (by kernel_rfl) (by kernel_rfl) (by kernel_rfl) ?bt55 ?ct55 ?dt55 (by assumption) ?rt55; (case at55 => (simp only [List.getElem?_toArray, List.getElem?_cons_zero]; rfl)); (case bt55 => exact fun _ _ _ h => h); (case ct55 => kernel_rfl); (case dt55 => (intro W hW; (try dsimp only at hW); go_split_ands; go_simp; (try with_reducible rfl))); (case' rt55 => simp only [Act.put, List.setIfInBounds_toArray, List.set_cons_zero, List.set_cons_succ]))
      (refine held_take (i := 1) (oi := ?ot56) (v := .int .u32 (num a2)) ?at56 (by kernel_rfl) (by kernel_rfl) (by kernel_rfl) ?bt56 ?ct56 ?dt56 (by assumption) ?rt56; (case at56 => (simp only [List.getElem?_toArray, List.getElem?_cons_zero, List.getElem?_cons_succ]; rfl)); (case bt56 => exact fun _ _ _ h => h); (case ct56 => kernel_rfl); (case dt56 => (intro W9 hW; have q0 := ((HXB.out.2.2.2.1).save hW (Ne.symm HNE.out.1)).cellAt 1 rfl; clear hW; go_simp; (try with_reducible rfl))); (case' rt56 => simp only [Act.put, List.setIfInBounds_toArray, List.set_cons_zero, List.set_cons_succ]))
      (refine held_take (i := 2) (oi := ?ot57) (v := ?vt57) ?at57 (by kernel_rfl) (by kernel_rfl) (by kernel_rfl) ?bt57 ?ct57 ?dt57 (by assumption) ?rt57; (case at57 => (simp only [List.getElem?_toArray, List.getElem?_cons_zero, List.getElem?_cons_succ]; rfl)); (case bt57 => exact fun _ _ _ h => h); (case ct57 => kernel_rfl); (case dt57 => (intro W hW; (try dsimp only at hW); go_split_ands; go_simp; (try with_reducible rfl))); (case' rt57 => simp only [Act.put, List.setIfInBounds_toArray, List.set_cons_zero, List.set_cons_succ]))
      (refine held_take (i := 3) (oi := ?ot58) (v := .agg #[.int .u32 (num a1), .int .u32 (num a2)]) ?at58 (by kernel_rfl) (by kernel_rfl) (by kernel_rfl) ?bt58 ?ct58 ?dt58 (by assumption) ?rt58; (case at58 => (simp only [List.getElem?_toArray, List.getElem?_cons_zero, List.getElem?_cons_succ]; rfl)); (case bt58 => exact fun _ _ _ h => h); (case ct58 => kernel_rfl); (case dt58 => (intro W9 hW; exact exec_load _ _ rfl _ rfl _ (((HXB.out.2.2.2.1).save hW (Ne.symm HNE.out.1)).load Try.underlying35 rfl infoR))); (case' rt58 => simp only [Act.put, List.setIfInBounds_toArray, List.set_cons_zero, List.set_cons_succ]))
      (refine held_take (i := 4) (oi := ?ot59) (v := ?vt59) ?at59 (by kernel_rfl) (by kernel_rfl) (by kernel_rfl) ?bt59 ?ct59 ?dt59 (by assumption) ?rt59; (case at59 => (simp only [List.getElem?_toArray, List.getElem?_cons_zero, List.getElem?_cons_succ]; rfl)); (case bt59 => exact fun _ _ _ h => h); (case ct59 => kernel_rfl); (case dt59 => (intro W hW; (try dsimp only at hW); go_split_ands; go_simp; (try with_reducible rfl))); (case' rt59 => simp only [Act.put, List.setIfInBounds_toArray, List.set_cons_zero, List.set_cons_succ]))
      (refine held_take (i := 5) (oi := ?ot60) (v := ?vt60) ?at60 (by kernel_rfl) (by kernel_rfl) (by kernel_rfl) ?bt60 ?ct60 ?dt60 (by assumption) ?rt60; (case at60 => (simp only [List.getElem?_toArray, List.getElem?_cons_zero, List.getElem?_cons_succ]; rfl)); (case bt60 => exact fun _ _ _ h => h); (case ct60 => kernel_rfl); (case dt60 => (intro W hW; (try dsimp only at hW); go_split_ands; go_simp; (try with_reducible rfl))); (case' rt60 => simp only [Act.put, List.setIfInBounds_toArray, List.set_cons_zero, List.set_cons_succ]))
      refine held_one (i := 6) (oi := ?ot61) (by kernel_rfl) ?at61 ?ct61 (fun K6 hK6 => ?_)
      (case at61 => (simp only [List.getElem?_toArray, List.getElem?_cons_zero, List.getElem?_cons_succ]; rfl))
      (case ct61 => kernel_rfl)
      refine ow_store 35 _ _ rfl _ rfl _ rfl ((show Blk X.drew w.heap.size 35 #[.int .u32 0, .int .u32 0] from HXB.out.1).store #[.int .u32 (num a1), .int .u32 (num a2)] rfl infoR rfl) ?_
      refine hK6 _ _ (hS.setRow _) (fun hS6 => ?_)
      clear hK6 K6
      (refine held_take (i := 7) (oi := ?ot62) (v := ?vt62) ?at62 (by kernel_rfl) (by kernel_rfl) (by kernel_rfl) ?bt62 ?ct62 ?dt62 (by assumption) ?rt62; (case at62 => (simp only [List.getElem?_toArray, List.getElem?_cons_zero, List.getElem?_cons_succ]; rfl)); (case bt62 => exact fun _ _ _ h => h); (case ct62 => kernel_rfl); (case dt62 => (intro W hW; (try dsimp only at hW); go_split_ands; go_simp; (try with_reducible rfl))); (case' rt62 => simp only [Act.put, List.setIfInBounds_toArray, List.set_cons_zero, List.set_cons_succ]))
      refine wpAnyH_done (by kernel_rfl) ?_ _
      go_wp2
      refine bodyPost_ret (results_ttct rfl _ _ _ rfl (((show Blk X.drew w.heap.size 35 #[.int .u32 0, .int .u32 0] from HXB.out.1).row _).load Try.underlying35 rfl infoR)) rfl ⟨?_, (HXB.out.2.2.2.2).trans (hS6.below (Nat.le_refl _) (HXB.out.2.2.2.2).size)⟩
      rfl
end Go.Proofs.Ytpeebdhbcglibaa
