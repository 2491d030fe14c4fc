/- The reference's HeaderOf. -/
import Derived.Test.YtgoblolbkchggaaDoorXr2
import Derived.Test.YtgoblolbkchggaaDoorRh
import Derived.Test.YtgoblolbkchggaaDoorHx
namespace Go.Proofs.YtgoblolbkchggaaDoor
open Go.RowKit
attribute [local go_sem ↓ high] zeroHd

theorem wl_store_q {P : Program} {w w' : World} {ops : Array Oper} {rest : List Oper} {o : Oper} {a : Act} {Q : Exit → Act → World → Prop} (hgd : o.guard = none) (ty : TypeId) (x y : Operand) (ho : o.op = .store ty x y) (p : Addr) (hx : a.eval x = .pointer (some p)) (v : Value) (hy : a.eval y = v)
    (hs : (storeVar ty p v).run P w = .ok () w') (h : wpList P ops Q rest (a.put o.dst undef) w') : wpList P ops Q (o :: rest) a w :=
  wpList_plain hgd fun K hK => by
    unfold Oper.wp execOp
    simp only [ho, hx, hy, Instr.storeAt, Instr.sureAddr, Sem.run_bind, Sem.run_pure, Result.andThen_ok, hs]
    exact hK _ _ h
/-- A number of four bytes never fails where there is room for it. -/
theorem num_step {b : By} {p : Nat} (hp : p + 4 ≤ b.length) {n : Nat} {st' : Rs} (h : StepP (fld 4 0 4294967295 144) b ⟨p, none⟩ (n : Int) st') : n = val (cutB b p 4) ∧ st' = ⟨p + 4, none⟩ := by
  have hg := fld_getX 4 0 4294967295 144 b p
  have hv := bound4 b p
  unfold cutB at hv
  rw [if_pos hp, if_pos (by omega)] at hg
  unfold StepP at h
  simp only at h
  rw [hg] at h
  obtain ⟨h1, h2⟩ := h
  exact ⟨by unfold cutB; omega, h2⟩
/-- What a name that was read makes of 64 bytes: the header, if they are one. -/
theorem name_read {b : By} (hb : b.length = 64) {s : By} {st' : Rs} (hs : StepP nameC b ⟨16, none⟩ s st') {h : Hd} (hh : h = ⟨(val (cutB b 4 4) : Nat), (val (cutB b 8 4) : Nat), s, b.drop 32⟩) :
    HdB h ∧ (nameOk h.name && decide (layH h = b)) = isH b ∧ (isH b = true → h = readH b) := by
  have hB : HdB h := by
    have h1 := bound4 b 4
    have h2 := bound4 b 8
    rw [hh]
    refine ⟨⟨by simp, ?_⟩, ⟨by simp, ?_⟩, by simp [hb]⟩
    · show ((val (cutB b 4 4) : Nat) : Int) < 4294967296; omega
    · show ((val (cutB b 8 4) : Nat) : Int) < 4294967296; omega
  have key : isH b = true → h = readH b := by
    intro hi
    obtain ⟨-, -, k3, k4⟩ := (isH_iff hb).1 hi
    have hg := raw_getX (m := 16) (enc := fun s => if nameOk s = true then .ok (nameE s) else .error 143) (dec := fun l => if nameOk (nameD l) = true ∧ (l.drop (nameD l).length).all (fun c => c == 0) = true then .ok (nameD l) else .error 143) b 16
    rw [if_pos (by omega)] at hg
    have hc : (b.drop 16).take 16 = cutB b 16 16 := rfl
    rw [hc, if_pos ⟨k3, k4⟩] at hg
    unfold StepP at hs
    simp only at hs
    have hg2 : nameC.get b 16 = .ok (nameD (cutB b 16 16), 16 + 16) := hg
    rw [hg2] at hs
    rw [hh, hs.1]; rfl
  refine ⟨hB, ?_, key⟩
  cases hi : isH b
  · cases hx : (nameOk h.name && decide (layH h = b))
    · rfl
    · exfalso
      simp only [Bool.and_eq_true, decide_eq_true_eq] at hx
      have ho := of_is (b := b) hB hx.1 hx.2
      unfold ofH at ho
      rw [hi] at ho
      cases ho
  · have e := key hi
    obtain ⟨-, h2, h3⟩ := isH_len hi
    rw [← e] at h2 h3
    simp only [Bool.and_eq_true, decide_eq_true_eq]
    exact ⟨h2, h3⟩
theorem upd_name (h : Hd) (s : By) : ∀ i, i < 35 → upd (hdF h) 2 (.string (strOf s)) i = hdF { h with name := s } i := by
  intro i _
  unfold upd
  match i with
  | 0 => rfl
  | 1 => rfl
  | 2 => rfl
  | i + 3 => rfl
theorem spl_dig (h : Hd) (d : By) : ∀ i, i < 35 → spl 3 32 (bys (kF d)) (hdF h) i = hdF { h with dig := d } i := by
  intro i hi
  unfold spl
  match i, hi with
  | 0, _ => rfl
  | 1, _ => rfl
  | 2, _ => rfl
  | i + 3, hi =>
    rw [if_pos (by omega), Nat.add_sub_cancel]
    rfl
theorem strOf_ne {a b : By} (h : a ≠ b) : ((strOf a).toList == (strOf b).toList) = false := by
  rw [beq_eq_false_iff_ne]
  intro e
  apply h
  have h1 : ∀ l : By, (strOf l).toList = l := fun l => by
    rw [ByteArray.toList_eq]
    simp [strOf]
  rw [h1, h1] at e
  exact e
set_option maxHeartbeats 2000000 in
set_option maxRecDepth 100000 in
theorem rof_any (b : By) (A : Option Addr) (c : Nat) (hc : b.length ≤ c) (w : World) (hl : Lies w w.heap.size 1 A b.length (u8s b)) : Calls Tryd.prog 11 #[.slice A b.length c] w (OfP (ofH b) w) := by
  obtain ⟨q0, hq0⟩ : ∃ g, g = w.heap.size := ⟨_, rfl⟩
  obtain ⟨V, hV⟩ : ∃ V, V = w.alloc (.cells (vec 35 (hdF zHd)) 26) := ⟨_, rfl⟩
  have k0 : Arr V q0 26 35 (hdF zHd) := by rw [hV, hq0]; exact Arr.new w _ _ _
  have hB : Below w.heap.size w V := by rw [hV]; exact (Below.refl _ _).alloc (Nat.le_refl _) _
  have HQ := Lib.hid hq0
  have HW := Lib.hid hV
  obtain ⟨N, hN⟩ : ∃ n, n = b.length := ⟨_, rfl⟩
  by_cases h64 : b.length = 64
  · have e64 : N = 64 := by rw [hN]; exact h64
    rw [← hN, e64]
    obtain ⟨g, hg⟩ : ∃ g, g = V.heap.size := ⟨_, rfl⟩
    obtain ⟨V2, hV2⟩ : ∃ V2, V2 = V.alloc (.cells #[.slice A 64 c, .int .i64 4, .int .i64 0, .int .i64 0] 60) := ⟨_, rfl⟩
    have hB2 : Below V.heap.size V V2 := by rw [hV2]; exact (Below.refl _ _).alloc (Nat.le_refl _) _
    have hrq : RQ V2 g A c b ⟨4, none⟩ := by
      refine ⟨?_, ?_, hc, by omega, by show 4 ≤ b.length; omega, fun x hx => by cases hx⟩
      · rw [hV2, hg]
        exact Arr.new' V 60 4 _ #[.slice A 64 c, .int .i64 4, .int .i64 0, .int .i64 0] (by rw [h64]; rfl)
      · have h1 := (hl.below (hB.trans (hB2.mono hB.size))).wide (show w.heap.size ≤ g by rw [hg]; exact hB.size)
        exact h1
    obtain ⟨a, rfl, hab, hcl⟩ := lies_cells (by rw [h64] at hl; exact hl) h64 (Nat.le_refl 64) (by decide)
    have hwB : Below w.heap.size w V2 := hB.trans (hB2.mono hB.size)
    have hq0g : q0 < g := by rw [hg]; exact k0.lt
    have kq : Arr V2 q0 26 35 (hdF zHd) := k0.under hB2
    have hc64 : 64 ≤ c := by omega
    have hNUM : ∀ st W, RQ W g (some a) c b st → Calls Tryd.prog 22 #[.pointer (some ⟨g, 0, none⟩), .int .i64 4, .int .u64 4294967295, .int .i64 144] W (NumA g (some a) c b 4 4294967295 144 st W) := fun st W hr => rnum_any 4 4294967295 144 (by decide) (by decide) (by decide) hr
    obtain ⟨vn, hvn⟩ : ∃ n, n = val (cutB b 4 4) := ⟨_, rfl⟩
    obtain ⟨sn, hsn⟩ : ∃ n, n = val (cutB b 8 4) := ⟨_, rfl⟩
    obtain ⟨D, hD⟩ : ∃ d, d = b.drop 32 := ⟨_, rfl⟩
    have HN4 : Hid (∀ (n : Nat) st', StepP (fld 4 0 4294967295 144) b ⟨4, none⟩ (n : Int) st' → vn = n ∧ st' = ⟨8, none⟩) := Lib.hid (fun n st' h => by rw [hvn]; exact ⟨(num_step (by omega) h).1.symm, (num_step (by omega) h).2⟩)
    have HN8 : Hid (∀ (n : Nat) st', StepP (fld 4 0 4294967295 144) b ⟨8, none⟩ (n : Int) st' → sn = n ∧ st' = ⟨12, none⟩) := Lib.hid (fun n st' h => by rw [hsn]; exact ⟨(num_step (by omega) h).1.symm, (num_step (by omega) h).2⟩)
    have HNR : Hid (∀ s st', StepP nameC b ⟨16, none⟩ s st' → HdB ⟨(vn : Int), (sn : Int), s, D⟩ ∧ (nameOk s && decide (layH ⟨(vn : Int), (sn : Int), s, D⟩ = b)) = isH b ∧ (isH b = true → (⟨(vn : Int), (sn : Int), s, D⟩ : Hd) = readH b)) := Lib.hid (fun s st' h => by rw [hvn, hsn, hD]; exact name_read h64 h rfl)
    have hv4 := bound4 b 4
    have hv8 := bound4 b 8
    rw [← hvn] at hv4
    rw [← hsn] at hv8
    have wv : IntKind.u32.wrap (vn : Int) = (vn : Int) := by rw [IntKind.wrap_u32]; omega
    have ws : IntKind.u32.wrap (sn : Int) = (sn : Int) := by rw [IntKind.wrap_u32]; omega
    obtain ⟨p32, hp32⟩ : ∃ p, p = cutA a c 32 := ⟨_, rfl⟩
    have hp32b : p32.block < w.heap.size := by rw [hp32, cutA_of (by omega), addr_add_block]; exact hab
    have hd32 : ∀ i, i < 32 → w.cell? (p32.add i) = some (bys (kF D) i) := fun i hi => by
      rw [hp32, cutA_of (by omega), addr_add_add, hcl (32 + i) (by omega), hD]
      simp [bys, kF, List.getD_eq_getElem?_getD]
    obtain ⟨c32, hc32⟩ : ∃ n, n = c - 32 := ⟨_, rfl⟩
    have HSL := Lib.hid (fun W => slice_lo a 64 c 32 (by decide) W)
    rw [← hp32, ← hc32] at HSL
    have hpt := fun W => arr_at32 p32 32 c32 (by decide) W
    have HLB : Hid (∀ Y, Below w.heap.size w Y → Lies Y Y.heap.size 1 (some a) 64 (u8s b)) := Lib.hid (fun Y hY => by rw [h64] at hl; exact (hl.below hY).wide hY.size)
    have HNUM := Lib.hid hNUM
    have HR := Lib.hid hrq
    have HD := Lib.hid (And.intro hp32b hd32)
    have HK := Lib.hid (And.intro kq (And.intro hwB hq0g))
    have HG := Lib.hid hg
    have HW2 := Lib.hid hV2
    have HGV2 : Hid (g < V2.heap.size) := Lib.hid hrq.lt
    have HGV : Hid (g ≤ V2.heap.size) := Lib.hid (Nat.le_of_lt hrq.lt)
    have HLE : Hid (w.heap.size ≤ q0) := Lib.hid (by rw [hq0]; exact Nat.le_refl _)
    obtain ⟨q, hq⟩ : ∃ q, q = isH b := ⟨_, rfl⟩
    obtain ⟨O, hO⟩ : ∃ O, O = ofH b := ⟨_, rfl⟩
    have HF : Hid (O = if isH b = true then some (readH b) else none) := Lib.hid (by rw [hO]; rfl)
    rw [← hq] at HNR HF
    rw [← hO]
    obtain ⟨R, hR⟩ : ∃ R, R = readH b := ⟨_, rfl⟩
    rw [← hR] at HNR HF
    have hH64 := Lib.hid h64
    clear hV k0 hB hq0 hN e64 hl hcl hab h64 hq hO hR hc hB2 hrq hwB hq0g kq hNUM hvn hsn hD hp32 hp32b hd32 hc32 hg hV2
    unfold NumA at HNUM
    obtain ⟨Q, hQ⟩ : ∃ Q, Q = OfP O w := ⟨_, rfl⟩
    have HNO : Hid (∀ W, O = none → Below w.heap.size w W → Q (.returned (.tuple #[.agg (vec 35 (hdF zHd)), .int .i64 150])) W) := Lib.hid (fun W h1 h2 => by rw [hQ, h1]; exact ⟨rfl, h2⟩)
    have HYES : Hid (∀ h W, O = some h → Below w.heap.size w W → Q (.returned (.tuple #[.agg (vec 35 (hdF h)), .int .i64 0])) W) := Lib.hid (fun h W h1 h2 => by rw [hQ, h1]; exact ⟨rfl, h2⟩)
    rw [← hQ]
    clear hQ
    go_enter Tryd.func11, Tryd.ntmps11
    go_upto_region 1 with fail
    rw [← HW.out, ← HQ.out]
    clear HW
    go_upto_region 4 with fail
    rw [← HW2.out, ← HG.out]
    clear HW2
    go_upto_region 5 with (first
      | (go_at_call 22; refine (HNUM.out ⟨4, none⟩ _ HR.out).mono ?_; rintro x w1 ⟨n, st', rfl, -, hst, hr, hs⟩; obtain ⟨rfl, rfl⟩ := HN4.out n st' hst; have HR := Lib.hid hr; have HS := Lib.hid hs; clear hst hr hs)
      | (go_at_call 22; refine (HNUM.out ⟨8, none⟩ _ HR.out).mono ?_; rintro x w2 ⟨n, st', rfl, -, hst, hr, hs⟩; obtain ⟨rfl, rfl⟩ := HN8.out n st' hst; have HR := Lib.hid hr; have HS := Lib.hid (HS.out.trans hs); clear hst hr hs)
      | ((with_reducible show wpList _ _ _ (Oper.mk _ (.build _ _) _ _ _ _ :: _) _ _); refine wl_build rfl 26 _ rfl (vec 35 (hdF ⟨(vn : Int), (sn : Int), [], zs 32⟩)) (by kernel_rfl) ?_)
      | ((with_reducible show wpList _ _ _ (Oper.mk _ (.store 26 _ _) _ _ _ _ :: _) _ _); refine wl_store rfl 26 _ _ rfl _ rfl _ rfl (run_store_arr (Arr.new w2 _ _ _) (hdF ⟨(vn : Int), (sn : Int), [], zs 32⟩) infoHd (hdF_one _ _)) ?_))
    obtain ⟨k, hk⟩ : ∃ k, k = w2.heap.size := ⟨_, rfl⟩
    obtain ⟨X, hX⟩ : ∃ X, X = (w2.alloc (.cells (vec 35 (hdF zHd)) 26)).setRow w2.heap.size (vec 35 (hdF ⟨(vn : Int), (sn : Int), [], zs 32⟩)) := ⟨_, rfl⟩
    have hb2 : Below w2.heap.size w2 X := by rw [hX]; exact below_row ((Below.refl _ _).alloc (Nat.le_refl _) _) (Nat.le_refl _) _
    have x1 : Arr X k 26 35 (hdF ⟨(vn : Int), (sn : Int), [], zs 32⟩) := by rw [hX, hk]; exact (Arr.new w2 _ _ _).row _
    have x2 : RQ X g (some a) c b ⟨12, none⟩ := HR.out.under hb2
    have x3 : Save g V2 X := HS.out.trans (Save.of_below hb2)
    have hgk : g < k := by rw [hk]; exact HR.out.lt
    rw [← hX, ← hk]
    have HX := Lib.hid (And.intro x1 (And.intro x2 x3))
    have HGK := Lib.hid hgk
    have c1 := x2.at1
    have f1 := x2.free 1
    clear hX hk hb2 x1 x2 x3 HR HS hgk HN4 HN8 HNUM
    go_upto_region 6 with fail
    obtain ⟨X2, hX2⟩ : ∃ Y, Y = X.setCell ⟨g, 1, none⟩ (.int .i64 16) := ⟨_, rfl⟩
    have y2 : RQ X2 g (some a) c b ⟨16, none⟩ := by rw [hX2]; exact HX.out.2.1.setAt 16 (by have := hH64.out; omega)
    have y3 : Save g X X2 := by rw [hX2]; exact (Save.refl _ _).setCell 1 _
    have y1 : Arr X2 k 26 35 (hdF ⟨(vn : Int), (sn : Int), [], zs 32⟩) := HX.out.1.save y3 (by have := HGK.out; omega)
    have HNA := Lib.hid (rdname_any y2)
    unfold NameA at HNA
    have HY := Lib.hid (And.intro y1 (And.intro y2 (HX.out.2.2.trans y3)))
    rw [← hX2]
    clear hX2 y1 y2 y3 HX c1 f1
    go_upto_region 7 with (go_at_call 23; refine HNA.out.mono ?_; rintro x w3 ⟨s, st', rfl, hsl, hst, hr, hs⟩; have HSL2 := Lib.hid hsl; have HRN := Lib.hid (HNR.out s st' hst); have z1 := HY.out.1.save hs (by have := HGK.out; omega); have HZ := Lib.hid (And.intro z1 (HY.out.2.2.trans hs)); have cz := z1.cell (i := 2) (by decide); have fz := z1.frozen 2; clear z1 hsl hst hr hs)
    obtain ⟨X3, hX3⟩ : ∃ Y, Y = w3.setCell ⟨k, 2, none⟩ (.string (strOf s)) := ⟨_, rfl⟩
    have u1 : Arr X3 k 26 35 (hdF ⟨(vn : Int), (sn : Int), s, zs 32⟩) := by rw [hX3]; exact (HZ.out.1.set 2 (.string (strOf s))).congr (upd_name _ s)
    have u2 : Save k w3 X3 := by rw [hX3]; exact (Save.refl _ _).setCell 2 _
    rw [← hX3]
    clear hX3 cz fz HY HNA HNR
    have hbg : Below g V2 w3 := HZ.out.2.below (Nat.le_refl g) HGV.out
    have hsz3 : g < w3.heap.size ∧ k < w3.heap.size := ⟨Nat.lt_of_lt_of_le HGV2.out hbg.size, HZ.out.1.lt⟩
    have hb3 : Below g V2 X3 := hbg.trans (u2.below (Nat.le_of_lt HGK.out) (Nat.le_of_lt hsz3.1))
    have hwX : Below w.heap.size w X3 := HK.out.2.1.trans (hb3.mono (Nat.le_trans HLE.out (Nat.le_of_lt HK.out.2.2)))
    have hq3 : Arr X3 q0 26 35 (hdF zHd) := HK.out.1.below hb3 HK.out.2.2
    have HC3 : Hid (∀ i, i < 32 → X3.cell? (p32.add i) = some (bys (kF D) i)) := Lib.hid (fun i hi => (hwX.cell (by rw [addr_add_block]; exact HD.out.1)).trans (HD.out.2 i hi))
    have HU := Lib.hid (And.intro u1 (And.intro hq3 hwX))
    clear u1 u2 hbg hsz3 hb3 hwX hq3 HZ HD
    go_upto_region 8 with (first
      | ((with_reducible show wpList _ _ _ (Oper.mk _ (.slice _ _ _ _ _) _ _ _ _ :: _) _ _); refine wl_slice_lo rfl 27 _ _ rfl (.slice (some a) 64 c) (.int .i64 ((32 : Nat) : Int)) rfl rfl (HSL.out _) ?_)
      | ((with_reducible show wpList _ _ _ (Oper.mk _ (.load _ _) _ _ _ _ :: _) _ _); refine wl_load_q rfl 24 _ rfl p32 rfl _ (run_load_q HC3.out Tryd.underlying24 rfl info32) ?_)
      | ((with_reducible show wpList _ _ _ (Oper.mk _ (.store 24 _ _) _ _ _ _ :: _) _ _); refine wl_store_q rfl 24 _ _ rfl ⟨k, 3, none⟩ rfl _ rfl (run_store_spl HU.out.1 (bys (kF D)) (by decide) info32 (bys_one _ _)) ?_))
    have v1 : Arr (X3.setRow k (vec 35 (spl 3 32 (bys (kF D)) (hdF ⟨(vn : Int), (sn : Int), s, zs 32⟩)))) k 26 35 (hdF ⟨(vn : Int), (sn : Int), s, D⟩) := (HU.out.1.row _).congr (spl_dig _ D)
    obtain ⟨X4, hX4⟩ : ∃ Y, Y = X3.setRow k (vec 35 (spl 3 32 (bys (kF D)) (hdF ⟨(vn : Int), (sn : Int), s, zs 32⟩))) := ⟨_, rfl⟩
    rw [← hX4] at v1 ⊢
    have v2 : Arr X4 q0 26 35 (hdF zHd) := by rw [hX4]; exact HU.out.2.1.rowFar (by have := HK.out.2.2; have := HGK.out; omega) _
    have v3 : Below w.heap.size w X4 := by rw [hX4]; exact below_row HU.out.2.2 (by have := HLE.out; have := HK.out.2.2; have := HGK.out; omega) _
    have HV := Lib.hid (And.intro v1 (And.intro v2 v3))
    obtain ⟨H, hH⟩ : ∃ H : Hd, H = ⟨(vn : Int), (sn : Int), s, D⟩ := ⟨_, rfl⟩
    rw [← hH] at HV HRN v1
    have hHn : H.name = s := by rw [hH]
    have HPUT := Lib.hid (rput_h H HRN.out.1 (by rw [hHn]; have := HSL2.out; omega) X4)
    unfold putP at HPUT
    rw [hHn] at HPUT
    obtain ⟨L, hL⟩ : ∃ l, l = layH H := ⟨_, rfl⟩
    rw [← hL] at HPUT HRN
    have HQ2 := Lib.hid (And.intro HRN.out.2.1 HRN.out.2.2)
    clear v1 v2 v3 hX4 HU hH hHn hL HRN
    obtain ⟨r, hr⟩ : ∃ r, r = nameOk s := ⟨_, rfl⟩
    rw [← hr] at HPUT HQ2
    clear hr
    cases r
    · have hqf : q = false := by have := HQ2.out.1; simpa using this.symm
      have hON : O = none := by rw [HF.out, hqf]; rfl
      rw [if_neg (by decide)] at HPUT
      unfold OptP at HPUT
      simp only at HPUT
      have HON := Lib.hid hON
      clear hqf hON HF HQ2
      go_wp2_with (first
        | ((with_reducible show wpList _ _ _ (Oper.mk (some 34) (.load _ _) _ _ _ _ :: _) _ _); refine wl_load rfl 26 _ rfl k rfl _ (run_load_arr HV.out.1 Tryd.underlying26 rfl infoHd) ?_)
        | (go_at_call 9; refine HPUT.out.mono ?_; rintro x w4 ⟨rfl, hd⟩; have HD4 := Lib.hid hd; clear hd)
        | ((with_reducible show wpList _ _ _ (Oper.mk _ (.build _ _) _ _ _ _ :: _) _ _); refine wl_build rfl 26 _ rfl (vec 35 (hdF zHd)) (by kernel_rfl) ?_)
        | ((with_reducible show wpList _ _ _ (Oper.mk _ (.store 26 _ _) _ _ _ _ :: _) _ _); refine wl_store rfl 26 _ _ rfl q0 rfl _ rfl (run_store_arr (HV.out.2.1.under HD4.out) (hdF zHd) infoHd (hdF_one _ _)) ?_))
      refine bodyPost_ret (results_ct rfl _ _ _ rfl (run_load_arr ((HV.out.2.1.under HD4.out).row _) Tryd.underlying26 rfl infoHd)) rfl ?_
      exact HNO.out _ HON.out (below_row (HV.out.2.2.trans (HD4.out.mono HV.out.2.2.size)) HLE.out _)
    · rw [if_pos rfl] at HPUT
      unfold OptP at HPUT
      simp only at HPUT
      by_cases hLb : L = b
      · have hqt : q = true := by have h1 := HQ2.out.1; rw [hLb] at h1; simpa using h1.symm
        have hRH : H = R := HQ2.out.2 hqt
        have hOY : O = some H := by rw [HF.out, hqt, hRH]; rfl
        have HOY := Lib.hid hOY
        rw [hLb] at HPUT
        obtain ⟨SS, hSS⟩ : ∃ S, S = strOf b := ⟨_, rfl⟩
        have HSS := Lib.hid hSS
        clear hqt hRH hOY HF HQ2 hLb hSS
        go_upto_region 9 with (first
          | ((with_reducible show wpList _ _ _ (Oper.mk (some 34) (.load _ _) _ _ _ _ :: _) _ _); refine wl_load rfl 26 _ rfl k rfl _ (run_load_arr HV.out.1 Tryd.underlying26 rfl infoHd) ?_)
          | (go_at_call 9; refine HPUT.out.mono ?_; rintro x w4 ⟨v, rfl, hv, hd⟩; obtain ⟨Av, dv, rfl, -, hlv⟩ := (own_of hv).lies; have HD4 := Lib.hid hd; have HLV := Lib.hid hlv; clear hd hv hlv))
        obtain ⟨NL, hNL⟩ : ∃ n, n = b.length := ⟨_, rfl⟩
        have hw4 := HV.out.2.2.trans (HD4.out.mono HV.out.2.2.size)
        have cv1 := conv_str w4 w4.heap.size Av NL dv b (by rw [hNL]; exact HLV.out)
        have cv2 := conv_str w4 w4.heap.size (some a) 64 c b (HLB.out _ hw4)
        rw [← HSS.out] at cv1 cv2
        rw [← hNL]
        have HW4 := Lib.hid hw4
        clear hw4 hNL HLV HSS
        go_wp2_with (first
          | ((with_reducible show wpList _ _ _ (Oper.mk _ (.load 26 _) _ _ _ _ :: _) _ _); refine wl_load rfl 26 _ rfl k rfl _ (run_load_arr (HV.out.1.under HD4.out) Tryd.underlying26 rfl infoHd) ?_)
          | ((with_reducible show wpList _ _ _ (Oper.mk _ (.store 26 _ _) _ _ _ _ :: _) _ _); refine wl_store rfl 26 _ _ rfl q0 rfl _ rfl (run_store_arr (HV.out.2.1.under HD4.out) (hdF H) infoHd (hdF_one _ _)) ?_))
        refine bodyPost_ret (results_ct rfl _ _ _ rfl (run_load_arr ((HV.out.2.1.under HD4.out).row _) Tryd.underlying26 rfl infoHd)) rfl ?_
        exact HYES.out H _ HOY.out (below_row HW4.out HLE.out _)
      · have hqf : q = false := by have h1 := HQ2.out.1; rw [decide_eq_false hLb] at h1; simpa using h1.symm
        have hON : O = none := by rw [HF.out, hqf]; rfl
        have HON := Lib.hid hON
        have hne := strOf_ne hLb
        obtain ⟨S1, hS1⟩ : ∃ S, S = strOf L := ⟨_, rfl⟩
        obtain ⟨S2, hS2⟩ : ∃ S, S = strOf b := ⟨_, rfl⟩
        rw [← hS1, ← hS2] at hne
        have HSS := Lib.hid (And.intro hS1 hS2)
        clear hqf hON HF HQ2 hLb hS1 hS2
        go_upto_region 9 with (first
          | ((with_reducible show wpList _ _ _ (Oper.mk (some 34) (.load _ _) _ _ _ _ :: _) _ _); refine wl_load rfl 26 _ rfl k rfl _ (run_load_arr HV.out.1 Tryd.underlying26 rfl infoHd) ?_)
          | (go_at_call 9; refine HPUT.out.mono ?_; rintro x w4 ⟨v, rfl, hv, hd⟩; obtain ⟨Av, dv, rfl, -, hlv⟩ := (own_of hv).lies; have HD4 := Lib.hid hd; have HLV := Lib.hid hlv; clear hd hv hlv))
        obtain ⟨NL, hNL⟩ : ∃ n, n = L.length := ⟨_, rfl⟩
        have hw4 := HV.out.2.2.trans (HD4.out.mono HV.out.2.2.size)
        have cv1 := conv_str w4 w4.heap.size Av NL dv L (by rw [hNL]; exact HLV.out)
        have cv2 := conv_str w4 w4.heap.size (some a) 64 c b (HLB.out _ hw4)
        rw [← HSS.out.1] at cv1
        rw [← HSS.out.2] at cv2
        rw [← hNL]
        have HW4 := Lib.hid hw4
        clear hw4 hNL HLV HSS
        go_wp2_with (first
          | ((with_reducible show wpList _ _ _ (Oper.mk _ (.build _ _) _ _ _ _ :: _) _ _); refine wl_build rfl 26 _ rfl (vec 35 (hdF zHd)) (by kernel_rfl) ?_)
          | ((with_reducible show wpList _ _ _ (Oper.mk _ (.store 26 _ _) _ _ _ _ :: _) _ _); refine wl_store rfl 26 _ _ rfl q0 rfl _ rfl (run_store_arr (HV.out.2.1.under HD4.out) (hdF zHd) infoHd (hdF_one _ _)) ?_))
        refine bodyPost_ret (results_ct rfl _ _ _ rfl (run_load_arr ((HV.out.2.1.under HD4.out).row _) Tryd.underlying26 rfl infoHd)) rfl ?_
        exact HNO.out _ HON.out (below_row HW4.out HLE.out _)
    go_upto_region 8 with (first
      | ((with_reducible show wpList _ _ _ (Oper.mk _ (.slice _ _ _ _ _) _ _ _ _ :: _) _ _); refine wl_slice_lo rfl 27 _ _ rfl (.slice (some a) 64 c) (.int .i64 ((32 : Nat) : Int)) rfl rfl (HSL.out _) ?_)
      | ((with_reducible show wpList _ _ _ (Oper.mk _ (.load _ _) _ _ _ _ :: _) _ _); refine wl_load_q rfl 24 _ rfl p32 rfl _ (run_load_q HC3.out Tryd.underlying24 rfl info32) ?_)
      | ((with_reducible show wpList _ _ _ (Oper.mk _ (.store 24 _ _) _ _ _ _ :: _) _ _); refine wl_store_q rfl 24 _ _ rfl ⟨k, 3, none⟩ rfl _ rfl (run_store_spl HU.out.1 (bys (kF D)) (by decide) info32 (bys_one _ _)) ?_))
  · rw [ofH_no (isH_off h64), ← hN]
    have hn : ¬ (N : Int) = 64 := by omega
    have hn2 : ((N : Int) == 64) = false := by simp; omega
    have HK := Lib.hid (And.intro k0 hB)
    clear hV k0 hB hq0 hN hl h64 hc
    unfold OfP
    go_enter Tryd.func11, Tryd.ntmps11
    go_upto_region 1 with fail
    rw [← HW.out, ← HQ.out]
    clear HW
    go_wp2_with (first
      | ((with_reducible show wpList _ _ _ (Oper.mk _ (.build _ _) _ _ _ _ :: _) _ _); refine wl_build rfl 26 _ rfl (vec 35 (hdF zHd)) (by kernel_rfl) ?_)
      | ((with_reducible show wpList _ _ _ (Oper.mk _ (.store 26 _ _) _ _ _ _ :: _) _ _); refine wl_store rfl 26 _ _ rfl q0 rfl _ rfl (run_store_arr HK.out.1 (hdF zHd) infoHd (hdF_one _ _)) ?_))
    exact bodyPost_ret (results_ct rfl _ _ _ rfl (run_load_arr (HK.out.1.row _) Tryd.underlying26 rfl infoHd)) rfl ⟨rfl, below_row HK.out.2 (by have := HQ.out; omega) _⟩
end Go.Proofs.YtgoblolbkchggaaDoor
