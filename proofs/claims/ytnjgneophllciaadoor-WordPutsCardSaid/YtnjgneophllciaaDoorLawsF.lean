/- The walk of WordPuts. -/
import Derived.Test.YtnjgneophllciaaDoorAwake
import Derived.Test.YtnjgneophllciaaDoorHeld
namespace Go.Proofs.YtnjgneophllciaaDoor
open Go.RowKit

/-- A new row with the bytes L; all that was there is as it was. -/
def Fresh (w : World) (L : List UInt8) (e : Ending) (w' : World) : Prop :=
  ∃ (E : Option Addr) (ce : Nat), e = .returned (.slice E L.length ce) ∧ Lies w' w'.heap.size 1 E L.length (u8s L) ∧ Below w.heap.size w w'
theorem fresh_of {w : World} {L L' : List UInt8} (hL : Hid (L = L')) {e : Ending} {w' : World} (h : Bytes w L' e w') : Fresh w L e w' := by
  obtain rfl := hL.out
  obtain ⟨v, rfl, ho, hb⟩ := h
  obtain ⟨E, ce, rfl, hq⟩ := owns_form ho
  exact ⟨E, ce, rfl, hq, hb⟩
theorem put_pair (n : Nat) : putAll 0 4 [n, n] = numBytes 0 4 n ++ numBytes 0 4 n := by simp [putAll]
theorem put_1 (o : Int) (m n : Nat) : putAll o m [n] = numBytes o m n := by simp [putAll]

theorem rp4h (b L : List UInt8) (n : Nat) (hL : Hid (L = b ++ numBytes 0 4 n)) (A : Option Addr) (c : Nat) (w : World) (hb : Lies w w.heap.size 1 A b.length (u8s b)) (hlen : b.length ≤ 600) :
    Calls Tryd.prog 16 #[.slice A b.length c, .int .u64 (n : Int), .int .i64 4, .bool false] w (Fresh w L) :=
  (rput_any b n 4 (by decide) A c w.heap.size false w (Nat.le_refl _) hb (by omega)).mono fun _ _ h => fresh_of hL h
theorem rp8h (b L : List UInt8) (n : Nat) (hL : Hid (L = b ++ numBytes 0 8 n)) (A : Option Addr) (c : Nat) (w : World) (hb : Lies w w.heap.size 1 A b.length (u8s b)) (hlen : b.length ≤ 600) :
    Calls Tryd.prog 16 #[.slice A b.length c, .int .u64 (n : Int), .int .i64 8, .bool false] w (Fresh w L) :=
  (rput_any b n 8 (by decide) A c w.heap.size false w (Nat.le_refl _) hb (by omega)).mono fun _ _ h => fresh_of hL h
theorem rp4l (b L : List UInt8) (n : Nat) (hL : Hid (L = b ++ numBytes 1 4 n)) (A : Option Addr) (c : Nat) (w : World) (hb : Lies w w.heap.size 1 A b.length (u8s b)) (hlen : b.length ≤ 600) :
    Calls Tryd.prog 16 #[.slice A b.length c, .int .u64 (n : Int), .int .i64 4, .bool true] w (Fresh w L) :=
  (rput_any b n 4 (by decide) A c w.heap.size true w (Nat.le_refl _) hb (by omega)).mono fun _ _ h => fresh_of hL h
theorem rp8l (b L : List UInt8) (n : Nat) (hL : Hid (L = b ++ numBytes 1 8 n)) (A : Option Addr) (c : Nat) (w : World) (hb : Lies w w.heap.size 1 A b.length (u8s b)) (hlen : b.length ≤ 600) :
    Calls Tryd.prog 16 #[.slice A b.length c, .int .u64 (n : Int), .int .i64 8, .bool true] w (Fresh w L) :=
  (rput_any b n 8 (by decide) A c w.heap.size true w (Nat.le_refl _) hb (by omega)).mono fun _ _ h => fresh_of hL h
theorem pb32 (b L : List UInt8) (n : Nat) (hn : n < 4294967296) (hL : Hid (L = b ++ numBytes 0 4 n ++ numBytes 0 4 n)) (A D : Option Addr) (c d : Nat) (w : World) (hb : Lies w w.heap.size 1 A b.length (u8s b)) (hl : Lies w w.heap.size 1 D 2 (u32s [n, n])) (hlen : b.length ≤ 600) :
    Calls Tryd.prog 17 #[.slice A b.length c, .slice D 2 d] w (Fresh w L) :=
  (putBe32_any b [n, n] (by intro x hx; simp at hx; omega) A D c d w.heap.size w (Nat.le_refl _) hb hl (by simp; omega)).mono fun _ _ h => fresh_of (by rw [put_pair, ← List.append_assoc]; exact hL) h
theorem pbe64 (b L : List UInt8) (n : Nat) (hn : n < 18446744073709551616) (hL : Hid (L = b ++ numBytes 0 8 n)) (A D : Option Addr) (c d : Nat) (w : World) (hb : Lies w w.heap.size 1 A b.length (u8s b)) (hl : Lies w w.heap.size 1 D 1 (u64s [n])) (hlen : b.length ≤ 600) :
    Calls Tryd.prog 18 #[.slice A b.length c, .slice D 1 d] w (Fresh w L) :=
  (putBe64_any b [n] (by intro x hx; simp at hx; omega) A D c d w.heap.size w (Nat.le_refl _) hb hl (by simp; omega)).mono fun _ _ h => fresh_of (by rw [put_1]; exact hL) h
theorem pl32 (b L : List UInt8) (n : Nat) (hn : n < 4294967296) (hL : Hid (L = b ++ numBytes 1 4 n)) (A D : Option Addr) (c d : Nat) (w : World) (hb : Lies w w.heap.size 1 A b.length (u8s b)) (hl : Lies w w.heap.size 1 D 1 (u32s [n])) (hlen : b.length ≤ 600) :
    Calls Tryd.prog 19 #[.slice A b.length c, .slice D 1 d] w (Fresh w L) :=
  (putLe32_any b [n] (by intro x hx; simp at hx; omega) A D c d w.heap.size w (Nat.le_refl _) hb hl (by simp; omega)).mono fun _ _ h => fresh_of (by rw [put_1]; exact hL) h
theorem pl64 (b L : List UInt8) (n : Nat) (hn : n < 18446744073709551616) (hL : Hid (L = b ++ numBytes 1 8 n)) (A D : Option Addr) (c d : Nat) (w : World) (hb : Lies w w.heap.size 1 A b.length (u8s b)) (hl : Lies w w.heap.size 1 D 1 (u64s [n])) (hlen : b.length ≤ 600) :
    Calls Tryd.prog 20 #[.slice A b.length c, .slice D 1 d] w (Fresh w L) :=
  (putLe64_any b [n] (by intro x hx; simp at hx; omega) A D c d w.heap.size w (Nat.le_refl _) hb hl (by simp; omega)).mono fun _ _ h => fresh_of (by rw [put_1]; exact hL) h
theorem pnone (b : List UInt8) (A : Option Addr) (c : Nat) (w : World) (hb : Lies w w.heap.size 1 A b.length (u8s b)) (hlen : b.length ≤ 600) :
    Calls Tryd.prog 18 #[.slice A b.length c, .slice none 0 0] w (Fresh w b) :=
  (putBe64_any b [] (by simp) A none c 0 w.heap.size w (Nat.le_refl _) hb (Lies.nil _ _ _ _) (by simp; omega)).mono fun _ _ h => fresh_of (show Hid (b = b ++ putAll 0 8 []) from (by simp [putAll] : b = b ++ putAll 0 8 [])) h
theorem lies_two32 (w : World) (n : Nat) (t : TypeId) : Lies (w.alloc (.cells #[.int .u32 (n : Int), .int .u32 (n : Int)] t)) (w.alloc (.cells #[.int .u32 (n : Int), .int .u32 (n : Int)] t)).heap.size 1 (some ⟨w.heap.size, 0, none⟩) 2 (u32s [n, n]) := by
  have := lies_new w #[.int .u32 (n : Int), .int .u32 (n : Int)] t 2 _ rfl rfl
  simpa [u32s] using this
theorem lies_one32 (w : World) (n : Nat) (t : TypeId) : Lies (w.alloc (.cells #[.int .u32 (n : Int)] t)) (w.alloc (.cells #[.int .u32 (n : Int)] t)).heap.size 1 (some ⟨w.heap.size, 0, none⟩) 1 (u32s [n]) := lies_one _ _ _
theorem lies_one64 (w : World) (n : Nat) (t : TypeId) : Lies (w.alloc (.cells #[.int .u64 (n : Int)] t)) (w.alloc (.cells #[.int .u64 (n : Int)] t)).heap.size 1 (some ⟨w.heap.size, 0, none⟩) 1 (u64s [n]) := lies_one _ _ _
theorem lies_at {w w1 : World} {A : Option Addr} {n : Nat} {xs : List Value} (h : Lies w w.heap.size 1 A n xs) (hb : Below w.heap.size w w1) : Lies w1 w1.heap.size 1 A n xs := (h.below hb).wide hb.size

set_option maxHeartbeats 2000000 in
theorem puts_small (A : Option Addr) (c : Nat) (b : List UInt8) (n m : Nat) (w : World) (hlen : b.length ≤ 500) (h : Lies w w.heap.size 1 A b.length (u8s b)) (hn : n < 4294967296) (hm : m < 18446744073709551616) (hT : Tab16 w) :
    Calls Tryd.prog 4 #[.slice A b.length c, .int .u32 (n : Int), .int .u64 (m : Int)] w fun e w' => e = .returned (.bool true) ∧ Below w.heap.size w w' := by
  have HT := Lib.hid hT
  have Hb := Lib.hid h
  have HL := Lib.hid hlen
  have Hn := Lib.hid hn
  have Hm := Lib.hid hm
  have hn2 : (n : Int) ≤ 4294967295 := by omega
  obtain ⟨L0, h0⟩ : ∃ L, L = b ++ numBytes 0 4 n := ⟨_, rfl⟩
  obtain ⟨L1, h1⟩ : ∃ L, L = L0 ++ numBytes 0 4 n := ⟨_, rfl⟩
  obtain ⟨L2, h2⟩ : ∃ L, L = b ++ numBytes 0 8 m := ⟨_, rfl⟩
  obtain ⟨L3, h3⟩ : ∃ L, L = b ++ numBytes 1 4 n := ⟨_, rfl⟩
  obtain ⟨L4, h4⟩ : ∃ L, L = b ++ numBytes 1 8 m := ⟨_, rfl⟩
  have hlen0 := Lib.hid (show L0.length ≤ 600 by rw [h0, List.length_append, numBytes_length]; omega)
  have hs : (500 : Int) < b.length ∨ (b.length : Int) ≤ 500 := by omega
  have hs2 : (b.length : Int) ≤ 500 := by omega
  have h1' := Lib.hid (show L1 = b ++ numBytes 0 4 n ++ numBytes 0 4 n by rw [h1, h0])
  have G0 := Lib.hid h0
  have G1 := Lib.hid h1
  have G2 := Lib.hid h2
  have G3 := Lib.hid h3
  have G4 := Lib.hid h4
  have cv : ∀ (L : List UInt8) (W : World) (E : Option Addr) (ce : Nat) (s : ByteArray), s = strOf L → Lies W W.heap.size 1 E L.length (u8s L) → (convert 22 9 (.slice E L.length ce)).run Tryd.prog W = .ok (.string s) W := fun L W E ce s hs h => by
    rw [hs]; exact conv_str W _ E L.length ce L h
  have CV := Lib.hid cv
  obtain ⟨sb, hsb⟩ : ∃ s, s = strOf b := ⟨_, rfl⟩
  obtain ⟨s1, hs1⟩ : ∃ s, s = strOf L1 := ⟨_, rfl⟩
  obtain ⟨s2, hs2'⟩ : ∃ s, s = strOf L2 := ⟨_, rfl⟩
  obtain ⟨s3, hs3⟩ : ∃ s, s = strOf L3 := ⟨_, rfl⟩
  obtain ⟨s4, hs4⟩ : ∃ s, s = strOf L4 := ⟨_, rfl⟩
  have Fb := Lib.hid hsb
  have F1 := Lib.hid hs1
  have F2 := Lib.hid hs2'
  have F3 := Lib.hid hs3
  have F4 := Lib.hid hs4
  clear hT h hlen hn hm h0 h1 h2 h3 h4 cv hsb hs1 hs2' hs3 hs4 hs
  go_enter Tryd.func4, Tryd.ntmps4
  go_wp2_with (first
    | (go_at_call 10; refine (awake_any _ HT.out).mono ?_; rintro e w1 ⟨rfl, hd⟩; have B1 := Lib.hid hd; clear hd)
    | ((with_reducible refine (rp4h b L0 n G0 A c _ (lies_at Hb.out B1.out) (by have := HL.out; omega)).mono ?_); rintro e w2 ⟨E0, ce0, rfl, hq, hd⟩; have Q0 := Lib.hid hq; have B2 := Lib.hid (B1.out.trans (hd.mono B1.out.size)); clear hq hd)
    | ((with_reducible refine (rp4h L0 L1 n G1 E0 ce0 _ Q0.out hlen0.out).mono ?_); rintro e w3 ⟨E1, ce1, rfl, hq, hd⟩; have Q1 := Lib.hid hq; have B3 := Lib.hid (B2.out.trans (hd.mono B2.out.size)); clear hq hd)
    | ((with_reducible refine (rp8h b L2 m G2 A c _ (lies_at Hb.out B3.out) (by have := HL.out; omega)).mono ?_); rintro e w4 ⟨E2, ce2, rfl, hq, hd⟩; have Q2 := Lib.hid hq; have R1 := Lib.hid (lies_at Q1.out hd); have B4 := Lib.hid (B3.out.trans (hd.mono B3.out.size)); clear hq hd Q1 Q0))
  have keep : ∀ W, Below w4.heap.size w4 W → (convert 22 9 (.slice E1 L1.length ce1)).run Tryd.prog W = .ok (.string s1) W ∧ (convert 22 9 (.slice E2 L2.length ce2)).run Tryd.prog W = .ok (.string s2) W ∧ (convert 22 9 (.slice A b.length c)).run Tryd.prog W = .ok (.string sb) W := fun W hW =>
    ⟨CV.out _ _ _ _ _ F1.out (lies_at R1.out hW), CV.out _ _ _ _ _ F2.out (lies_at Q2.out hW), CV.out _ _ _ _ _ Fb.out (lies_at Hb.out (B4.out.trans (hW.mono B4.out.size)))⟩
  have Keep := Lib.hid keep
  have hwn : IntKind.u64.wrap (n : Int) = n := IntWalk.u64_in _ (by omega)
  clear keep
  refine wp_region_held_drew (S := fun W => (convert 22 9 (.slice E1 L1.length ce1)).run Tryd.prog W = .ok (.string s1) W ∧ (convert 22 9 (.slice E2 L2.length ce2)).run Tryd.prog W = .ok (.string s2) W ∧ (convert 22 9 (.slice A b.length c)).run Tryd.prog W = .ok (.string sb) W) (by kernel_rfl) (Keep.out _ (Below.refl _ _).drew) (fun hS => ?_)
  (refine held_take (i := 0) (oi := ?ot1) (v := ?vt1) ?at1 (by kernel_rfl) (by kernel_rfl) (by kernel_rfl) ?bt1 ?ct1 ?dt1 (by assumption) ?rt1; (case at1 => (simp only [List.getElem?_toArray, List.getElem?_cons_zero]; rfl)); (case bt1 => exact fun _ _ _ h => h); (case ct1 => kernel_rfl); (case dt1 => (intro W hW; (try dsimp only at hW); go_split_ands; go_simp; (try with_reducible rfl))); (case' rt1 => simp only [Act.put, List.setIfInBounds_toArray, List.set_cons_zero, List.set_cons_succ]))
  (refine held_take (i := 1) (oi := ?ot2) (v := ?vt2) ?at2 (by kernel_rfl) (by kernel_rfl) (by kernel_rfl) ?bt2 ?ct2 ?dt2 (by assumption) ?rt2; (case at2 => (simp only [List.getElem?_toArray, List.getElem?_cons_zero, List.getElem?_cons_succ]; rfl)); (case bt2 => exact fun _ _ _ h => h); (case ct2 => kernel_rfl); (case dt2 => (intro W hW; (try dsimp only at hW); go_split_ands; go_simp; (try with_reducible rfl))); (case' rt2 => simp only [Act.put, List.setIfInBounds_toArray, List.set_cons_zero, List.set_cons_succ]))
  (refine held_take (i := 2) (oi := ?ot3) (v := ?vt3) ?at3 (by kernel_rfl) (by kernel_rfl) (by kernel_rfl) ?bt3 ?ct3 ?dt3 (by assumption) ?rt3; (case at3 => (simp only [List.getElem?_toArray, List.getElem?_cons_zero, List.getElem?_cons_succ]; rfl)); (case bt3 => exact fun _ _ _ h => h); (case ct3 => kernel_rfl); (case dt3 => (intro W hW; (try dsimp only at hW); go_split_ands; go_simp; (try with_reducible rfl))); (case' rt3 => simp only [Act.put, List.setIfInBounds_toArray, List.set_cons_zero, List.set_cons_succ]))
  (refine held_take (i := 6) (oi := ?ot4) (v := ?vt4) ?at4 (by kernel_rfl) (by kernel_rfl) (by kernel_rfl) ?bt4 ?ct4 ?dt4 (by assumption) ?rt4; (case at4 => (simp only [List.getElem?_toArray, List.getElem?_cons_zero, List.getElem?_cons_succ]; rfl)); (case bt4 => exact fun _ _ _ h => h); (case ct4 => kernel_rfl); (case dt4 => (intro W hW; (try dsimp only at hW); go_split_ands; go_simp; (try with_reducible rfl))); (case' rt4 => simp only [Act.put, List.setIfInBounds_toArray, List.set_cons_zero, List.set_cons_succ]))
  (refine held_take (i := 7) (oi := ?ot5) (v := ?vt5) ?at5 (by kernel_rfl) (by kernel_rfl) (by kernel_rfl) ?bt5 ?ct5 ?dt5 (by assumption) ?rt5; (case at5 => (simp only [List.getElem?_toArray, List.getElem?_cons_zero, List.getElem?_cons_succ]; rfl)); (case bt5 => exact fun _ _ _ h => h); (case ct5 => kernel_rfl); (case dt5 => (intro W hW; (try dsimp only at hW); go_split_ands; go_simp; (try with_reducible rfl))); (case' rt5 => simp only [Act.put, List.setIfInBounds_toArray, List.set_cons_zero, List.set_cons_succ]))
  refine held_one (i := 3) (oi := ?ot6) (by kernel_rfl) ?at6 ?ct6 (fun K3 hK3 => ?_)
  (case at6 => (simp only [List.getElem?_toArray, List.getElem?_cons_zero, List.getElem?_cons_succ]; rfl))
  (case ct6 => kernel_rfl)
  go_simp
  refine hK3 _ _ (Keep.out _ (((Below.refl _ _).alloc (Nat.le_refl _) _).drew)) (fun hS' => ?_)
  clear hK3 K3 hS
  have hS := hS'
  clear hS'
  refine held_one (i := 4) (oi := ?ot7) (by kernel_rfl) ?at7 ?ct7 (fun K4 hK4 => ?_)
  (case at7 => (simp only [List.getElem?_toArray, List.getElem?_cons_zero, List.getElem?_cons_succ]; rfl))
  (case ct7 => kernel_rfl)
  go_simp
  refine (pb32 b L1 n Hn.out h1' A _ c _ _ (lies_up Hb.out B4.out _).drew (lies_two32 _ _ _).drew (by have := HL.out; omega)).mono ?_
  rintro e w5 ⟨E_5, ce_5, rfl, hq, hd⟩
  have hD : Below w4.heap.size w4 w5 := (((Below.refl _ _).alloc (Nat.le_refl _) _).drew).trans (hd.mono (by simp))
  have hC : Below w4.heap.size w4 w5 := hD
  refine hK4 _ _ (Keep.out _ (hC)) (fun hS' => ?_)
  refine held_and (T := fun W => (convert 22 9 (.slice E_5 L1.length ce_5)).run Tryd.prog W = .ok (.string s1) W) hS' (CV.out _ _ _ _ _ F1.out hq) (fun hS'' => ?_)
  have P_5 := Lib.hid hq
  have C := Lib.hid hC
  clear hK4 K4 hS hS' hq hd hD hC
  have hS := hS''
  clear hS''
  (refine held_take (i := 5) (oi := ?ot8) (v := ?vt8) ?at8 (by kernel_rfl) (by kernel_rfl) (by kernel_rfl) ?bt8 ?ct8 ?dt8 (by assumption) ?rt8; (case at8 => (simp only [List.getElem?_toArray, List.getElem?_cons_zero, List.getElem?_cons_succ]; rfl)); (case bt8 => exact fun _ _ _ h => h); (case ct8 => kernel_rfl); (case dt8 => (intro W hW; (try dsimp only at hW); go_split_ands; go_simp; (try with_reducible rfl))); (case' rt8 => simp only [Act.put, List.setIfInBounds_toArray, List.set_cons_zero, List.set_cons_succ]))
  (refine held_take (i := 8) (oi := ?ot9) (v := ?vt9) ?at9 (by kernel_rfl) (by kernel_rfl) (by kernel_rfl) ?bt9 ?ct9 ?dt9 (by assumption) ?rt9; (case at9 => (simp only [List.getElem?_toArray, List.getElem?_cons_zero, List.getElem?_cons_succ]; rfl)); (case bt9 => exact fun _ _ _ h => h); (case ct9 => kernel_rfl); (case dt9 => (intro W hW; (try dsimp only at hW); go_split_ands; go_simp; (try with_reducible rfl))); (case' rt9 => simp only [Act.put, List.setIfInBounds_toArray, List.set_cons_zero, List.set_cons_succ]))
  (refine held_take (i := 9) (oi := ?ot10) (v := ?vt10) ?at10 (by kernel_rfl) (by kernel_rfl) (by kernel_rfl) ?bt10 ?ct10 ?dt10 (by assumption) ?rt10; (case at10 => (simp only [List.getElem?_toArray, List.getElem?_cons_zero, List.getElem?_cons_succ]; rfl)); (case bt10 => exact fun _ _ _ h => h); (case ct10 => kernel_rfl); (case dt10 => (intro W hW; (try dsimp only at hW); go_split_ands; go_simp; (try with_reducible rfl))); (case' rt10 => simp only [Act.put, List.setIfInBounds_toArray, List.set_cons_zero, List.set_cons_succ]))
  (refine held_take (i := 10) (oi := ?ot11) (v := ?vt11) ?at11 (by kernel_rfl) (by kernel_rfl) (by kernel_rfl) ?bt11 ?ct11 ?dt11 (by assumption) ?rt11; (case at11 => (simp only [List.getElem?_toArray, List.getElem?_cons_zero, List.getElem?_cons_succ]; rfl)); (case bt11 => exact fun _ _ _ h => h); (case ct11 => kernel_rfl); (case dt11 => (intro W hW; (try dsimp only at hW); go_split_ands; go_simp; (try with_reducible rfl))); (case' rt11 => simp only [Act.put, List.setIfInBounds_toArray, List.set_cons_zero, List.set_cons_succ]))
  (refine held_take (i := 11) (oi := ?ot12) (v := ?vt12) ?at12 (by kernel_rfl) (by kernel_rfl) (by kernel_rfl) ?bt12 ?ct12 ?dt12 (by assumption) ?rt12; (case at12 => (simp only [List.getElem?_toArray, List.getElem?_cons_zero, List.getElem?_cons_succ]; rfl)); (case bt12 => exact fun _ _ _ h => h); (case ct12 => kernel_rfl); (case dt12 => (intro W hW; (try dsimp only at hW); go_split_ands; go_simp; (try with_reducible rfl))); (case' rt12 => simp only [Act.put, List.setIfInBounds_toArray, List.set_cons_zero, List.set_cons_succ]))
  (refine held_take (i := 15) (oi := ?ot13) (v := ?vt13) ?at13 (by kernel_rfl) (by kernel_rfl) (by kernel_rfl) ?bt13 ?ct13 ?dt13 (by assumption) ?rt13; (case at13 => (simp only [List.getElem?_toArray, List.getElem?_cons_zero, List.getElem?_cons_succ]; rfl)); (case bt13 => exact fun _ _ _ h => h); (case ct13 => kernel_rfl); (case dt13 => (intro W hW; (try dsimp only at hW); go_split_ands; go_simp; (try with_reducible rfl))); (case' rt13 => simp only [Act.put, List.setIfInBounds_toArray, List.set_cons_zero, List.set_cons_succ]))
  (refine held_take (i := 16) (oi := ?ot14) (v := ?vt14) ?at14 (by kernel_rfl) (by kernel_rfl) (by kernel_rfl) ?bt14 ?ct14 ?dt14 (by assumption) ?rt14; (case at14 => (simp only [List.getElem?_toArray, List.getElem?_cons_zero, List.getElem?_cons_succ]; rfl)); (case bt14 => exact fun _ _ _ h => h); (case ct14 => kernel_rfl); (case dt14 => (intro W hW; (try dsimp only at hW); go_split_ands; go_simp; (try with_reducible rfl))); (case' rt14 => simp only [Act.put, List.setIfInBounds_toArray, List.set_cons_zero, List.set_cons_succ]))
  refine held_one (i := 12) (oi := ?ot15) (by kernel_rfl) ?at15 ?ct15 (fun K12 hK12 => ?_)
  (case at15 => (simp only [List.getElem?_toArray, List.getElem?_cons_zero, List.getElem?_cons_succ]; rfl))
  (case ct15 => kernel_rfl)
  go_simp
  refine hK12 _ _ (And.intro (Keep.out _ (C.out.alloc C.out.size _)) (CV.out _ _ _ _ _ F1.out (lies_at P_5.out ((Below.refl _ _).alloc (Nat.le_refl _) _)))) (fun hS' => ?_)
  clear hK12 K12 hS
  have hS := hS'
  clear hS'
  refine held_one (i := 13) (oi := ?ot16) (by kernel_rfl) ?at16 ?ct16 (fun K13 hK13 => ?_)
  (case at16 => (simp only [List.getElem?_toArray, List.getElem?_cons_zero, List.getElem?_cons_succ]; rfl))
  (case ct16 => kernel_rfl)
  go_simp
  refine (pbe64 b L2 m Hm.out G2 A _ c _ _ (lies_up Hb.out (B4.out.trans (C.out.mono B4.out.size)) _) (lies_one64 _ _ _) (by have := HL.out; omega)).mono ?_
  rintro e w6 ⟨E_6, ce_6, rfl, hq, hd⟩
  have hD : Below w5.heap.size w5 w6 := ((Below.refl _ _).alloc (Nat.le_refl _) _).trans (hd.mono (by simp))
  have hC : Below w4.heap.size w4 w6 := C.out.trans (hD.mono C.out.size)
  refine hK13 _ _ (And.intro (Keep.out _ (hC)) (CV.out _ _ _ _ _ F1.out (lies_at P_5.out (hD)))) (fun hS' => ?_)
  refine held_and (T := fun W => (convert 22 9 (.slice E_6 L2.length ce_6)).run Tryd.prog W = .ok (.string s2) W) hS' (CV.out _ _ _ _ _ F2.out hq) (fun hS'' => ?_)
  have P_5' := Lib.hid (lies_at P_5.out hD)
  clear P_5
  have P_5 := P_5'
  clear P_5'
  have P_6 := Lib.hid hq
  clear C
  have C := Lib.hid hC
  clear hK13 K13 hS hS' hq hd hD hC
  have hS := hS''
  clear hS''
  (refine held_take (i := 14) (oi := ?ot17) (v := ?vt17) ?at17 (by kernel_rfl) (by kernel_rfl) (by kernel_rfl) ?bt17 ?ct17 ?dt17 (by assumption) ?rt17; (case at17 => (simp only [List.getElem?_toArray, List.getElem?_cons_zero, List.getElem?_cons_succ]; rfl)); (case bt17 => exact fun _ _ _ h => h); (case ct17 => kernel_rfl); (case dt17 => (intro W hW; (try dsimp only at hW); go_split_ands; go_simp; (try with_reducible rfl))); (case' rt17 => simp only [Act.put, List.setIfInBounds_toArray, List.set_cons_zero, List.set_cons_succ]))
  (refine held_take (i := 17) (oi := ?ot18) (v := ?vt18) ?at18 (by kernel_rfl) (by kernel_rfl) (by kernel_rfl) ?bt18 ?ct18 ?dt18 (by assumption) ?rt18; (case at18 => (simp only [List.getElem?_toArray, List.getElem?_cons_zero, List.getElem?_cons_succ]; rfl)); (case bt18 => exact fun _ _ _ h => h); (case ct18 => kernel_rfl); (case dt18 => (intro W hW; (try dsimp only at hW); go_split_ands; go_simp; (try with_reducible rfl))); (case' rt18 => simp only [Act.put, List.setIfInBounds_toArray, List.set_cons_zero, List.set_cons_succ]))
  (refine held_take (i := 18) (oi := ?ot19) (v := ?vt19) ?at19 (by kernel_rfl) (by kernel_rfl) (by kernel_rfl) ?bt19 ?ct19 ?dt19 (by assumption) ?rt19; (case at19 => (simp only [List.getElem?_toArray, List.getElem?_cons_zero, List.getElem?_cons_succ]; rfl)); (case bt19 => exact fun _ _ _ h => h); (case ct19 => kernel_rfl); (case dt19 => (intro W hW; (try dsimp only at hW); go_split_ands; go_simp; (try with_reducible rfl))); (case' rt19 => simp only [Act.put, List.setIfInBounds_toArray, List.set_cons_zero, List.set_cons_succ]))
  (refine held_take (i := 19) (oi := ?ot20) (v := ?vt20) ?at20 (by kernel_rfl) (by kernel_rfl) (by kernel_rfl) ?bt20 ?ct20 ?dt20 (by assumption) ?rt20; (case at20 => (simp only [List.getElem?_toArray, List.getElem?_cons_zero, List.getElem?_cons_succ]; rfl)); (case bt20 => exact fun _ _ _ h => h); (case ct20 => kernel_rfl); (case dt20 => (intro W hW; (try dsimp only at hW); go_split_ands; go_simp; (try with_reducible rfl))); (case' rt20 => simp only [Act.put, List.setIfInBounds_toArray, List.set_cons_zero, List.set_cons_succ]))
  (refine held_take (i := 20) (oi := ?ot21) (v := ?vt21) ?at21 (by kernel_rfl) (by kernel_rfl) (by kernel_rfl) ?bt21 ?ct21 ?dt21 (by assumption) ?rt21; (case at21 => (simp only [List.getElem?_toArray, List.getElem?_cons_zero, List.getElem?_cons_succ]; rfl)); (case bt21 => exact fun _ _ _ h => h); (case ct21 => kernel_rfl); (case dt21 => (intro W hW; (try dsimp only at hW); go_split_ands; go_simp; (try with_reducible rfl))); (case' rt21 => simp only [Act.put, List.setIfInBounds_toArray, List.set_cons_zero, List.set_cons_succ]))
  (refine held_take (i := 21) (oi := ?ot22) (v := ?vt22) ?at22 (by kernel_rfl) (by kernel_rfl) (by kernel_rfl) ?bt22 ?ct22 ?dt22 (by assumption) ?rt22; (case at22 => (simp only [List.getElem?_toArray, List.getElem?_cons_zero, List.getElem?_cons_succ]; rfl)); (case bt22 => exact fun _ _ _ h => h); (case ct22 => kernel_rfl); (case dt22 => (intro W hW; (try dsimp only at hW); go_split_ands; go_simp; (try with_reducible rfl))); (case' rt22 => simp only [Act.put, List.setIfInBounds_toArray, List.set_cons_zero, List.set_cons_succ]))
  (refine held_take (i := 25) (oi := ?ot23) (v := ?vt23) ?at23 (by kernel_rfl) (by kernel_rfl) (by kernel_rfl) ?bt23 ?ct23 ?dt23 (by assumption) ?rt23; (case at23 => (simp only [List.getElem?_toArray, List.getElem?_cons_zero, List.getElem?_cons_succ]; rfl)); (case bt23 => exact fun _ _ _ h => h); (case ct23 => kernel_rfl); (case dt23 => (intro W hW; (try dsimp only at hW); go_split_ands; go_simp; (try with_reducible rfl))); (case' rt23 => simp only [Act.put, List.setIfInBounds_toArray, List.set_cons_zero, List.set_cons_succ]))
  (refine held_take (i := 26) (oi := ?ot24) (v := ?vt24) ?at24 (by kernel_rfl) (by kernel_rfl) (by kernel_rfl) ?bt24 ?ct24 ?dt24 (by assumption) ?rt24; (case at24 => (simp only [List.getElem?_toArray, List.getElem?_cons_zero, List.getElem?_cons_succ]; rfl)); (case bt24 => exact fun _ _ _ h => h); (case ct24 => kernel_rfl); (case dt24 => (intro W hW; (try dsimp only at hW); go_split_ands; go_simp; (try with_reducible rfl))); (case' rt24 => simp only [Act.put, List.setIfInBounds_toArray, List.set_cons_zero, List.set_cons_succ]))
  (refine held_take (i := 27) (oi := ?ot25) (v := ?vt25) ?at25 (by kernel_rfl) (by kernel_rfl) (by kernel_rfl) ?bt25 ?ct25 ?dt25 (by assumption) ?rt25; (case at25 => (simp only [List.getElem?_toArray, List.getElem?_cons_zero, List.getElem?_cons_succ]; rfl)); (case bt25 => exact fun _ _ _ h => h); (case ct25 => kernel_rfl); (case dt25 => (intro W hW; (try dsimp only at hW); go_split_ands; go_simp; (try with_reducible rfl))); (case' rt25 => simp only [Act.put, List.setIfInBounds_toArray, List.set_cons_zero, List.set_cons_succ]))
  refine held_one (i := 22) (oi := ?ot26) (by kernel_rfl) ?at26 ?ct26 (fun K22 hK22 => ?_)
  (case at26 => (simp only [List.getElem?_toArray, List.getElem?_cons_zero, List.getElem?_cons_succ]; rfl))
  (case ct26 => kernel_rfl)
  go_simp
  refine hK22 _ _ (And.intro (And.intro (Keep.out _ (C.out.alloc C.out.size _)) (CV.out _ _ _ _ _ F1.out (lies_at P_5.out ((Below.refl _ _).alloc (Nat.le_refl _) _)))) (CV.out _ _ _ _ _ F2.out (lies_at P_6.out ((Below.refl _ _).alloc (Nat.le_refl _) _)))) (fun hS' => ?_)
  clear hK22 K22 hS
  have hS := hS'
  clear hS'
  refine held_one (i := 23) (oi := ?ot27) (by kernel_rfl) ?at27 ?ct27 (fun K23 hK23 => ?_)
  (case at27 => (simp only [List.getElem?_toArray, List.getElem?_cons_zero, List.getElem?_cons_succ]; rfl))
  (case ct27 => kernel_rfl)
  go_simp
  refine (pl32 b L3 n Hn.out G3 A _ c _ _ (lies_up Hb.out (B4.out.trans (C.out.mono B4.out.size)) _) (lies_one32 _ _ _) (by have := HL.out; omega)).mono ?_
  rintro e w7 ⟨E_7, ce_7, rfl, hq, hd⟩
  have hD : Below w6.heap.size w6 w7 := ((Below.refl _ _).alloc (Nat.le_refl _) _).trans (hd.mono (by simp))
  have hC : Below w4.heap.size w4 w7 := C.out.trans (hD.mono C.out.size)
  refine hK23 _ _ (And.intro (And.intro (Keep.out _ (hC)) (CV.out _ _ _ _ _ F1.out (lies_at P_5.out (hD)))) (CV.out _ _ _ _ _ F2.out (lies_at P_6.out (hD)))) (fun hS' => ?_)
  refine held_and (T := fun W => (convert 22 9 (.slice E_7 L3.length ce_7)).run Tryd.prog W = .ok (.string s3) W) hS' (CV.out _ _ _ _ _ F3.out hq) (fun hS'' => ?_)
  have P_5' := Lib.hid (lies_at P_5.out hD)
  clear P_5
  have P_5 := P_5'
  clear P_5'
  have P_6' := Lib.hid (lies_at P_6.out hD)
  clear P_6
  have P_6 := P_6'
  clear P_6'
  have P_7 := Lib.hid hq
  clear C
  have C := Lib.hid hC
  clear hK23 K23 hS hS' hq hd hD hC
  have hS := hS''
  clear hS''
  (refine held_take (i := 24) (oi := ?ot28) (v := ?vt28) ?at28 (by kernel_rfl) (by kernel_rfl) (by kernel_rfl) ?bt28 ?ct28 ?dt28 (by assumption) ?rt28; (case at28 => (simp only [List.getElem?_toArray, List.getElem?_cons_zero, List.getElem?_cons_succ]; rfl)); (case bt28 => exact fun _ _ _ h => h); (case ct28 => kernel_rfl); (case dt28 => (intro W hW; (try dsimp only at hW); go_split_ands; go_simp; (try with_reducible rfl))); (case' rt28 => simp only [Act.put, List.setIfInBounds_toArray, List.set_cons_zero, List.set_cons_succ]))
  refine held_one (i := 28) (oi := ?ot29) (by kernel_rfl) ?at29 ?ct29 (fun K28 hK28 => ?_)
  (case at29 => (simp only [List.getElem?_toArray, List.getElem?_cons_zero, List.getElem?_cons_succ]; rfl))
  (case ct29 => kernel_rfl)
  go_simp
  refine (rp4l b L3 n G3 A c _ (lies_at Hb.out (B4.out.trans (C.out.mono B4.out.size))) (by have := HL.out; omega)).mono ?_
  rintro e w8 ⟨E_8, ce_8, rfl, hq, hd⟩
  have hD : Below w7.heap.size w7 w8 := hd
  have hC : Below w4.heap.size w4 w8 := C.out.trans (hD.mono C.out.size)
  refine hK28 _ _ (And.intro (And.intro (And.intro (Keep.out _ (hC)) (CV.out _ _ _ _ _ F1.out (lies_at P_5.out (hD)))) (CV.out _ _ _ _ _ F2.out (lies_at P_6.out (hD)))) (CV.out _ _ _ _ _ F3.out (lies_at P_7.out (hD)))) (fun hS' => ?_)
  refine held_and (T := fun W => (convert 22 9 (.slice E_8 L3.length ce_8)).run Tryd.prog W = .ok (.string s3) W) hS' (CV.out _ _ _ _ _ F3.out hq) (fun hS'' => ?_)
  have P_5' := Lib.hid (lies_at P_5.out hD)
  clear P_5
  have P_5 := P_5'
  clear P_5'
  have P_6' := Lib.hid (lies_at P_6.out hD)
  clear P_6
  have P_6 := P_6'
  clear P_6'
  have P_7' := Lib.hid (lies_at P_7.out hD)
  clear P_7
  have P_7 := P_7'
  clear P_7'
  have P_8 := Lib.hid hq
  clear C
  have C := Lib.hid hC
  clear hK28 K28 hS hS' hq hd hD hC
  have hS := hS''
  clear hS''
  (refine held_take (i := 29) (oi := ?ot30) (v := ?vt30) ?at30 (by kernel_rfl) (by kernel_rfl) (by kernel_rfl) ?bt30 ?ct30 ?dt30 (by assumption) ?rt30; (case at30 => (simp only [List.getElem?_toArray, List.getElem?_cons_zero, List.getElem?_cons_succ]; rfl)); (case bt30 => exact fun _ _ _ h => h); (case ct30 => kernel_rfl); (case dt30 => (intro W hW; (try dsimp only at hW); go_split_ands; go_simp; (try with_reducible rfl))); (case' rt30 => simp only [Act.put, List.setIfInBounds_toArray, List.set_cons_zero, List.set_cons_succ]))
  (refine held_take (i := 30) (oi := ?ot31) (v := ?vt31) ?at31 (by kernel_rfl) (by kernel_rfl) (by kernel_rfl) ?bt31 ?ct31 ?dt31 (by assumption) ?rt31; (case at31 => (simp only [List.getElem?_toArray, List.getElem?_cons_zero, List.getElem?_cons_succ]; rfl)); (case bt31 => exact fun _ _ _ h => h); (case ct31 => kernel_rfl); (case dt31 => (intro W hW; (try dsimp only at hW); go_split_ands; go_simp; (try with_reducible rfl))); (case' rt31 => simp only [Act.put, List.setIfInBounds_toArray, List.set_cons_zero, List.set_cons_succ]))
  (refine held_take (i := 31) (oi := ?ot32) (v := ?vt32) ?at32 (by kernel_rfl) (by kernel_rfl) (by kernel_rfl) ?bt32 ?ct32 ?dt32 (by assumption) ?rt32; (case at32 => (simp only [List.getElem?_toArray, List.getElem?_cons_zero, List.getElem?_cons_succ]; rfl)); (case bt32 => exact fun _ _ _ h => h); (case ct32 => kernel_rfl); (case dt32 => (intro W hW; (try dsimp only at hW); go_split_ands; go_simp; (try with_reducible rfl))); (case' rt32 => simp only [Act.put, List.setIfInBounds_toArray, List.set_cons_zero, List.set_cons_succ]))
  (refine held_take (i := 32) (oi := ?ot33) (v := ?vt33) ?at33 (by kernel_rfl) (by kernel_rfl) (by kernel_rfl) ?bt33 ?ct33 ?dt33 (by assumption) ?rt33; (case at33 => (simp only [List.getElem?_toArray, List.getElem?_cons_zero, List.getElem?_cons_succ]; rfl)); (case bt33 => exact fun _ _ _ h => h); (case ct33 => kernel_rfl); (case dt33 => (intro W hW; (try dsimp only at hW); go_split_ands; go_simp; (try with_reducible rfl))); (case' rt33 => simp only [Act.put, List.setIfInBounds_toArray, List.set_cons_zero, List.set_cons_succ]))
  (refine held_take (i := 33) (oi := ?ot34) (v := ?vt34) ?at34 (by kernel_rfl) (by kernel_rfl) (by kernel_rfl) ?bt34 ?ct34 ?dt34 (by assumption) ?rt34; (case at34 => (simp only [List.getElem?_toArray, List.getElem?_cons_zero, List.getElem?_cons_succ]; rfl)); (case bt34 => exact fun _ _ _ h => h); (case ct34 => kernel_rfl); (case dt34 => (intro W hW; (try dsimp only at hW); go_split_ands; go_simp; (try with_reducible rfl))); (case' rt34 => simp only [Act.put, List.setIfInBounds_toArray, List.set_cons_zero, List.set_cons_succ]))
  (refine held_take (i := 34) (oi := ?ot35) (v := ?vt35) ?at35 (by kernel_rfl) (by kernel_rfl) (by kernel_rfl) ?bt35 ?ct35 ?dt35 (by assumption) ?rt35; (case at35 => (simp only [List.getElem?_toArray, List.getElem?_cons_zero, List.getElem?_cons_succ]; rfl)); (case bt35 => exact fun _ _ _ h => h); (case ct35 => kernel_rfl); (case dt35 => (intro W hW; (try dsimp only at hW); go_split_ands; go_simp; (try with_reducible rfl))); (case' rt35 => simp only [Act.put, List.setIfInBounds_toArray, List.set_cons_zero, List.set_cons_succ]))
  (refine held_take (i := 38) (oi := ?ot36) (v := ?vt36) ?at36 (by kernel_rfl) (by kernel_rfl) (by kernel_rfl) ?bt36 ?ct36 ?dt36 (by assumption) ?rt36; (case at36 => (simp only [List.getElem?_toArray, List.getElem?_cons_zero, List.getElem?_cons_succ]; rfl)); (case bt36 => exact fun _ _ _ h => h); (case ct36 => kernel_rfl); (case dt36 => (intro W hW; (try dsimp only at hW); go_split_ands; go_simp; (try with_reducible rfl))); (case' rt36 => simp only [Act.put, List.setIfInBounds_toArray, List.set_cons_zero, List.set_cons_succ]))
  (refine held_take (i := 39) (oi := ?ot37) (v := ?vt37) ?at37 (by kernel_rfl) (by kernel_rfl) (by kernel_rfl) ?bt37 ?ct37 ?dt37 (by assumption) ?rt37; (case at37 => (simp only [List.getElem?_toArray, List.getElem?_cons_zero, List.getElem?_cons_succ]; rfl)); (case bt37 => exact fun _ _ _ h => h); (case ct37 => kernel_rfl); (case dt37 => (intro W hW; (try dsimp only at hW); go_split_ands; go_simp; (try with_reducible rfl))); (case' rt37 => simp only [Act.put, List.setIfInBounds_toArray, List.set_cons_zero, List.set_cons_succ]))
  refine held_one (i := 35) (oi := ?ot38) (by kernel_rfl) ?at38 ?ct38 (fun K35 hK35 => ?_)
  (case at38 => (simp only [List.getElem?_toArray, List.getElem?_cons_zero, List.getElem?_cons_succ]; rfl))
  (case ct38 => kernel_rfl)
  go_simp
  refine hK35 _ _ (And.intro (And.intro (And.intro (And.intro (Keep.out _ (C.out.alloc C.out.size _)) (CV.out _ _ _ _ _ F1.out (lies_at P_5.out ((Below.refl _ _).alloc (Nat.le_refl _) _)))) (CV.out _ _ _ _ _ F2.out (lies_at P_6.out ((Below.refl _ _).alloc (Nat.le_refl _) _)))) (CV.out _ _ _ _ _ F3.out (lies_at P_7.out ((Below.refl _ _).alloc (Nat.le_refl _) _)))) (CV.out _ _ _ _ _ F3.out (lies_at P_8.out ((Below.refl _ _).alloc (Nat.le_refl _) _)))) (fun hS' => ?_)
  clear hK35 K35 hS
  have hS := hS'
  clear hS'
  refine held_one (i := 36) (oi := ?ot39) (by kernel_rfl) ?at39 ?ct39 (fun K36 hK36 => ?_)
  (case at39 => (simp only [List.getElem?_toArray, List.getElem?_cons_zero, List.getElem?_cons_succ]; rfl))
  (case ct39 => kernel_rfl)
  go_simp
  refine (pl64 b L4 m Hm.out G4 A _ c _ _ (lies_up Hb.out (B4.out.trans (C.out.mono B4.out.size)) _) (lies_one64 _ _ _) (by have := HL.out; omega)).mono ?_
  rintro e w9 ⟨E_9, ce_9, rfl, hq, hd⟩
  have hD : Below w8.heap.size w8 w9 := ((Below.refl _ _).alloc (Nat.le_refl _) _).trans (hd.mono (by simp))
  have hC : Below w4.heap.size w4 w9 := C.out.trans (hD.mono C.out.size)
  refine hK36 _ _ (And.intro (And.intro (And.intro (And.intro (Keep.out _ (hC)) (CV.out _ _ _ _ _ F1.out (lies_at P_5.out (hD)))) (CV.out _ _ _ _ _ F2.out (lies_at P_6.out (hD)))) (CV.out _ _ _ _ _ F3.out (lies_at P_7.out (hD)))) (CV.out _ _ _ _ _ F3.out (lies_at P_8.out (hD)))) (fun hS' => ?_)
  refine held_and (T := fun W => (convert 22 9 (.slice E_9 L4.length ce_9)).run Tryd.prog W = .ok (.string s4) W) hS' (CV.out _ _ _ _ _ F4.out hq) (fun hS'' => ?_)
  have P_5' := Lib.hid (lies_at P_5.out hD)
  clear P_5
  have P_5 := P_5'
  clear P_5'
  have P_6' := Lib.hid (lies_at P_6.out hD)
  clear P_6
  have P_6 := P_6'
  clear P_6'
  have P_7' := Lib.hid (lies_at P_7.out hD)
  clear P_7
  have P_7 := P_7'
  clear P_7'
  have P_8' := Lib.hid (lies_at P_8.out hD)
  clear P_8
  have P_8 := P_8'
  clear P_8'
  have P_9 := Lib.hid hq
  clear C
  have C := Lib.hid hC
  clear hK36 K36 hS hS' hq hd hD hC
  have hS := hS''
  clear hS''
  (refine held_take (i := 37) (oi := ?ot40) (v := ?vt40) ?at40 (by kernel_rfl) (by kernel_rfl) (by kernel_rfl) ?bt40 ?ct40 ?dt40 (by assumption) ?rt40; (case at40 => (simp only [List.getElem?_toArray, List.getElem?_cons_zero, List.getElem?_cons_succ]; rfl)); (case bt40 => exact fun _ _ _ h => h); (case ct40 => kernel_rfl); (case dt40 => (intro W hW; (try dsimp only at hW); go_split_ands; go_simp; (try with_reducible rfl))); (case' rt40 => simp only [Act.put, List.setIfInBounds_toArray, List.set_cons_zero, List.set_cons_succ]))
  refine held_one (i := 40) (oi := ?ot41) (by kernel_rfl) ?at41 ?ct41 (fun K40 hK40 => ?_)
  (case at41 => (simp only [List.getElem?_toArray, List.getElem?_cons_zero, List.getElem?_cons_succ]; rfl))
  (case ct41 => kernel_rfl)
  go_simp
  refine (rp8l b L4 m G4 A c _ (lies_at Hb.out (B4.out.trans (C.out.mono B4.out.size))) (by have := HL.out; omega)).mono ?_
  rintro e w10 ⟨E_10, ce_10, rfl, hq, hd⟩
  have hD : Below w9.heap.size w9 w10 := hd
  have hC : Below w4.heap.size w4 w10 := C.out.trans (hD.mono C.out.size)
  refine hK40 _ _ (And.intro (And.intro (And.intro (And.intro (And.intro (Keep.out _ (hC)) (CV.out _ _ _ _ _ F1.out (lies_at P_5.out (hD)))) (CV.out _ _ _ _ _ F2.out (lies_at P_6.out (hD)))) (CV.out _ _ _ _ _ F3.out (lies_at P_7.out (hD)))) (CV.out _ _ _ _ _ F3.out (lies_at P_8.out (hD)))) (CV.out _ _ _ _ _ F4.out (lies_at P_9.out (hD)))) (fun hS' => ?_)
  refine held_and (T := fun W => (convert 22 9 (.slice E_10 L4.length ce_10)).run Tryd.prog W = .ok (.string s4) W) hS' (CV.out _ _ _ _ _ F4.out hq) (fun hS'' => ?_)
  have P_5' := Lib.hid (lies_at P_5.out hD)
  clear P_5
  have P_5 := P_5'
  clear P_5'
  have P_6' := Lib.hid (lies_at P_6.out hD)
  clear P_6
  have P_6 := P_6'
  clear P_6'
  have P_7' := Lib.hid (lies_at P_7.out hD)
  clear P_7
  have P_7 := P_7'
  clear P_7'
  have P_8' := Lib.hid (lies_at P_8.out hD)
  clear P_8
  have P_8 := P_8'
  clear P_8'
  have P_9' := Lib.hid (lies_at P_9.out hD)
  clear P_9
  have P_9 := P_9'
  clear P_9'
  have P_10 := Lib.hid hq
  clear C
  have C := Lib.hid hC
  clear hK40 K40 hS hS' hq hd hD hC
  have hS := hS''
  clear hS''
  (refine held_take (i := 41) (oi := ?ot42) (v := ?vt42) ?at42 (by kernel_rfl) (by kernel_rfl) (by kernel_rfl) ?bt42 ?ct42 ?dt42 (by assumption) ?rt42; (case at42 => (simp only [List.getElem?_toArray, List.getElem?_cons_zero, List.getElem?_cons_succ]; rfl)); (case bt42 => exact fun _ _ _ h => h); (case ct42 => kernel_rfl); (case dt42 => (intro W hW; (try dsimp only at hW); go_split_ands; go_simp; (try with_reducible rfl))); (case' rt42 => simp only [Act.put, List.setIfInBounds_toArray, List.set_cons_zero, List.set_cons_succ]))
  (refine held_take (i := 42) (oi := ?ot43) (v := ?vt43) ?at43 (by kernel_rfl) (by kernel_rfl) (by kernel_rfl) ?bt43 ?ct43 ?dt43 (by assumption) ?rt43; (case at43 => (simp only [List.getElem?_toArray, List.getElem?_cons_zero, List.getElem?_cons_succ]; rfl)); (case bt43 => exact fun _ _ _ h => h); (case ct43 => kernel_rfl); (case dt43 => (intro W hW; (try dsimp only at hW); go_split_ands; go_simp; (try with_reducible rfl))); (case' rt43 => simp only [Act.put, List.setIfInBounds_toArray, List.set_cons_zero, List.set_cons_succ]))
  (refine held_take (i := 43) (oi := ?ot44) (v := ?vt44) ?at44 (by kernel_rfl) (by kernel_rfl) (by kernel_rfl) ?bt44 ?ct44 ?dt44 (by assumption) ?rt44; (case at44 => (simp only [List.getElem?_toArray, List.getElem?_cons_zero, List.getElem?_cons_succ]; rfl)); (case bt44 => exact fun _ _ _ h => h); (case ct44 => kernel_rfl); (case dt44 => (intro W hW; (try dsimp only at hW); go_split_ands; go_simp; (try with_reducible rfl))); (case' rt44 => simp only [Act.put, List.setIfInBounds_toArray, List.set_cons_zero, List.set_cons_succ]))
  (refine held_take (i := 44) (oi := ?ot45) (v := ?vt45) ?at45 (by kernel_rfl) (by kernel_rfl) (by kernel_rfl) ?bt45 ?ct45 ?dt45 (by assumption) ?rt45; (case at45 => (simp only [List.getElem?_toArray, List.getElem?_cons_zero, List.getElem?_cons_succ]; rfl)); (case bt45 => exact fun _ _ _ h => h); (case ct45 => kernel_rfl); (case dt45 => (intro W hW; (try dsimp only at hW); go_split_ands; go_simp; (try with_reducible rfl))); (case' rt45 => simp only [Act.put, List.setIfInBounds_toArray, List.set_cons_zero, List.set_cons_succ]))
  (refine held_take (i := 45) (oi := ?ot46) (v := ?vt46) ?at46 (by kernel_rfl) (by kernel_rfl) (by kernel_rfl) ?bt46 ?ct46 ?dt46 (by assumption) ?rt46; (case at46 => (simp only [List.getElem?_toArray, List.getElem?_cons_zero, List.getElem?_cons_succ]; rfl)); (case bt46 => exact fun _ _ _ h => h); (case ct46 => kernel_rfl); (case dt46 => (intro W hW; (try dsimp only at hW); go_split_ands; go_simp; (try with_reducible rfl))); (case' rt46 => simp only [Act.put, List.setIfInBounds_toArray, List.set_cons_zero, List.set_cons_succ]))
  (refine held_take (i := 48) (oi := ?ot47) (v := ?vt47) ?at47 (by kernel_rfl) (by kernel_rfl) (by kernel_rfl) ?bt47 ?ct47 ?dt47 (by assumption) ?rt47; (case at47 => (simp only [List.getElem?_toArray, List.getElem?_cons_zero, List.getElem?_cons_succ]; rfl)); (case bt47 => exact fun _ _ _ h => h); (case ct47 => kernel_rfl); (case dt47 => (intro W hW; (try dsimp only at hW); go_split_ands; go_simp; (try with_reducible rfl))); (case' rt47 => simp only [Act.put, List.setIfInBounds_toArray, List.set_cons_zero, List.set_cons_succ]))
  (refine held_take (i := 49) (oi := ?ot48) (v := ?vt48) ?at48 (by kernel_rfl) (by kernel_rfl) (by kernel_rfl) ?bt48 ?ct48 ?dt48 (by assumption) ?rt48; (case at48 => (simp only [List.getElem?_toArray, List.getElem?_cons_zero, List.getElem?_cons_succ]; rfl)); (case bt48 => exact fun _ _ _ h => h); (case ct48 => kernel_rfl); (case dt48 => (intro W hW; (try dsimp only at hW); go_split_ands; go_simp; (try with_reducible rfl))); (case' rt48 => simp only [Act.put, List.setIfInBounds_toArray, List.set_cons_zero, List.set_cons_succ]))
  refine held_one (i := 46) (oi := ?ot49) (by kernel_rfl) ?at49 ?ct49 (fun K46 hK46 => ?_)
  (case at49 => (simp only [List.getElem?_toArray, List.getElem?_cons_zero, List.getElem?_cons_succ]; rfl))
  (case ct49 => kernel_rfl)
  go_simp
  refine (pnone b A c _ (lies_at Hb.out (B4.out.trans (C.out.mono B4.out.size))) (by have := HL.out; omega)).mono ?_
  rintro e w11 ⟨E_11, ce_11, rfl, hq, hd⟩
  have hD : Below w10.heap.size w10 w11 := hd
  have hC : Below w4.heap.size w4 w11 := C.out.trans (hD.mono C.out.size)
  refine hK46 _ _ (And.intro (And.intro (And.intro (And.intro (And.intro (And.intro (Keep.out _ (hC)) (CV.out _ _ _ _ _ F1.out (lies_at P_5.out (hD)))) (CV.out _ _ _ _ _ F2.out (lies_at P_6.out (hD)))) (CV.out _ _ _ _ _ F3.out (lies_at P_7.out (hD)))) (CV.out _ _ _ _ _ F3.out (lies_at P_8.out (hD)))) (CV.out _ _ _ _ _ F4.out (lies_at P_9.out (hD)))) (CV.out _ _ _ _ _ F4.out (lies_at P_10.out (hD)))) (fun hS' => ?_)
  refine held_and (T := fun W => (convert 22 9 (.slice E_11 b.length ce_11)).run Tryd.prog W = .ok (.string sb) W) hS' (CV.out _ _ _ _ _ Fb.out hq) (fun hS'' => ?_)
  have P_5' := Lib.hid (lies_at P_5.out hD)
  clear P_5
  have P_5 := P_5'
  clear P_5'
  have P_6' := Lib.hid (lies_at P_6.out hD)
  clear P_6
  have P_6 := P_6'
  clear P_6'
  have P_7' := Lib.hid (lies_at P_7.out hD)
  clear P_7
  have P_7 := P_7'
  clear P_7'
  have P_8' := Lib.hid (lies_at P_8.out hD)
  clear P_8
  have P_8 := P_8'
  clear P_8'
  have P_9' := Lib.hid (lies_at P_9.out hD)
  clear P_9
  have P_9 := P_9'
  clear P_9'
  have P_10' := Lib.hid (lies_at P_10.out hD)
  clear P_10
  have P_10 := P_10'
  clear P_10'
  have P_11 := Lib.hid hq
  clear C
  have C := Lib.hid hC
  clear hK46 K46 hS hS' hq hd hD hC
  have hS := hS''
  clear hS''
  (refine held_take (i := 47) (oi := ?ot50) (v := ?vt50) ?at50 (by kernel_rfl) (by kernel_rfl) (by kernel_rfl) ?bt50 ?ct50 ?dt50 (by assumption) ?rt50; (case at50 => (simp only [List.getElem?_toArray, List.getElem?_cons_zero, List.getElem?_cons_succ]; rfl)); (case bt50 => exact fun _ _ _ h => h); (case ct50 => kernel_rfl); (case dt50 => (intro W hW; (try dsimp only at hW); go_split_ands; go_simp; (try with_reducible rfl))); (case' rt50 => simp only [Act.put, List.setIfInBounds_toArray, List.set_cons_zero, List.set_cons_succ]))
  (refine held_take (i := 50) (oi := ?ot51) (v := ?vt51) ?at51 (by kernel_rfl) (by kernel_rfl) (by kernel_rfl) ?bt51 ?ct51 ?dt51 (by assumption) ?rt51; (case at51 => (simp only [List.getElem?_toArray, List.getElem?_cons_zero, List.getElem?_cons_succ]; rfl)); (case bt51 => exact fun _ _ _ h => h); (case ct51 => kernel_rfl); (case dt51 => (intro W hW; (try dsimp only at hW); go_split_ands; go_simp; (try with_reducible rfl))); (case' rt51 => simp only [Act.put, List.setIfInBounds_toArray, List.set_cons_zero, List.set_cons_succ]))
  (refine held_take (i := 51) (oi := ?ot52) (v := ?vt52) ?at52 (by kernel_rfl) (by kernel_rfl) (by kernel_rfl) ?bt52 ?ct52 ?dt52 (by assumption) ?rt52; (case at52 => (simp only [List.getElem?_toArray, List.getElem?_cons_zero, List.getElem?_cons_succ]; rfl)); (case bt52 => exact fun _ _ _ h => h); (case ct52 => kernel_rfl); (case dt52 => (intro W hW; (try dsimp only at hW); go_split_ands; go_simp; (try with_reducible rfl))); (case' rt52 => simp only [Act.put, List.setIfInBounds_toArray, List.set_cons_zero, List.set_cons_succ]))
  (refine held_take (i := 52) (oi := ?ot53) (v := ?vt53) ?at53 (by kernel_rfl) (by kernel_rfl) (by kernel_rfl) ?bt53 ?ct53 ?dt53 (by assumption) ?rt53; (case at53 => (simp only [List.getElem?_toArray, List.getElem?_cons_zero, List.getElem?_cons_succ]; rfl)); (case bt53 => exact fun _ _ _ h => h); (case ct53 => kernel_rfl); (case dt53 => (intro W hW; (try dsimp only at hW); go_split_ands; go_simp; (try with_reducible rfl))); (case' rt53 => simp only [Act.put, List.setIfInBounds_toArray, List.set_cons_zero, List.set_cons_succ]))
  refine wpAnyH_done (by kernel_rfl) ?_ _
  go_wp2
  go_ret
  exact ⟨rfl, B4.out.trans (C.out.mono B4.out.size)⟩

theorem puts_walk (A : Option Addr) (c : Nat) (b : List UInt8) (n m : Nat) (w : World) (_hl : b.length ≤ maxLen) (h : Lies w w.heap.size 1 A b.length (u8s b)) (hn : n < 4294967296) (hm : m < 18446744073709551616) (hT : Tab16 w) :
    Calls Tryd.prog 4 #[.slice A b.length c, .int .u32 (n : Int), .int .u64 (m : Int)] w fun e w' => e = .returned (.bool true) ∧ Below w.heap.size w w' := by
  by_cases hlong : b.length ≤ 500
  · exact puts_small A c b n m w hlong h hn hm hT
  · have HT := Lib.hid hT
    have h5 : (500 : Int) < b.length := by omega
    clear hT h hn hm hlong
    go_enter Tryd.func4, Tryd.ntmps4
    go_wp2_with (go_at_call 10; refine (awake_any _ HT.out).mono ?_; rintro e w1 ⟨rfl, hd⟩; have H1 := Lib.hid hd; clear hd)
    go_ret
    exact ⟨rfl, H1.out⟩
end Go.Proofs.YtnjgneophllciaaDoor
