/- The walk of WordBack: a number that was put is read. -/
import Derived.Test.YtnjgneophllciaaDoorAwake
namespace Go.Proofs.YtnjgneophllciaaDoor
open Go.RowKit

theorem acc_back (m n : Nat) (c : Nat → UInt8) (h : ∀ j, j < m → (c j).toNat = n / 256 ^ (m - 1 - j) % 256) (hn : n < 256 ^ m) : accB c m = n := by
  have key : ∀ k, k ≤ m → accB c k = n / 256 ^ (m - k) := by
    intro k
    induction k with
    | zero => intro _; rw [Nat.sub_zero, Nat.div_eq_of_lt hn]; rfl
    | succ k ih =>
      intro hk
      rw [accB, ih (by omega), h k (by omega)]
      have e : m - k = (m - (k + 1)) + 1 := by omega
      have e2 : m - 1 - k = m - (k + 1) := by omega
      rw [e, e2, Nat.pow_succ, ← Nat.div_div_eq_div_mul]
      omega
  have := key m (Nat.le_refl _)
  rw [Nat.sub_self, Nat.pow_zero, Nat.div_one] at this
  exact this
theorem putByte_nat (o : Int) (m n i e : Nat) (h : (shAt o i m).toNat = 8 * e) : (putByte o m n i).toNat = n / 256 ^ e % 256 := by
  have h1 := toNat_ofNat_mod (n / 2 ^ (8 * e))
  unfold putByte
  rw [h, pow256]
  omega
theorem put_one (o : Int) (m n : Nat) : putAll o m [n] = numBytes o m n := by simp [putAll]
theorem back_high (b : List UInt8) (m n : Nat) (hn : n < 256 ^ m) : numOf (b ++ putAll 0 m [n]) b.length m false = n := by
  rw [put_one, numOf, if_pos (by rw [List.length_append, numBytes_length]; omega), if_neg (by decide)]
  refine acc_back m n _ (fun j hj => ?_) hn
  rw [Int.toNat_natCast]
  have e : bAt (b ++ numBytes 0 m n) b.length j = putByte 0 m n j := by
    unfold bAt numBytes
    rw [List.getD_eq_getElem?_getD, List.getElem?_append_right (by omega)]
    simp [hj]
  rw [e]
  exact putByte_nat _ _ _ _ _ (by rw [shAt_high]; omega)
theorem back_low (b : List UInt8) (m n : Nat) (hn : n < 256 ^ m) : numOf (b ++ putAll 1 m [n]) b.length m true = n := by
  rw [put_one, numOf, if_pos (by rw [List.length_append, numBytes_length]; omega), if_pos rfl]
  refine acc_back m n _ (fun j hj => ?_) hn
  rw [Int.toNat_natCast]
  have e : dnAt (b ++ numBytes 1 m n) b.length m j = putByte 1 m n (m - 1 - j) := by
    unfold dnAt numBytes
    rw [List.getD_eq_getElem?_getD, List.getElem?_append_right (by omega), show b.length + m - 1 - j - b.length = m - 1 - j by omega]
    simp [show m - 1 - j < m by omega]
  rw [e]
  exact putByte_nat _ _ _ _ _ (by rw [shAt_low]; omega)
theorem back_has (b : List UInt8) (o : Int) (m n : Nat) : numHas (b ++ putAll o m [n]).length b.length m = true := by
  simp only [numHas, decide_eq_true_eq, List.length_append, putAll_length, List.length_cons, List.length_nil]
  omega

/-- PutBe32 of one number, and Be32 of what it made. -/
theorem oneBe32 (b : List UInt8) (n : Nat) (hn : n < 4294967296) (A D : Option Addr) (c d : Nat) (w : World) (hb : Lies w w.heap.size 1 A b.length (u8s b)) (hl : Lies w w.heap.size 1 D 1 (u32s [n])) (htot : b.length ≤ 500) :
    Calls Tryd.prog 17 #[.slice A b.length c, .slice D 1 d] w fun e w' => ∃ L, Hid (L = b ++ putAll 0 4 [n]) ∧ Bytes w L e w' :=
  (putBe32_any b [n] (by intro x hx; simp at hx; omega) A D c d w.heap.size w (Nat.le_refl _) hb hl (by simp; omega)).mono fun _ _ h => ⟨_, rfl, h⟩
theorem backBe32 (b L : List UInt8) (n : Nat) (hn : n < 4294967296) (hL : Hid (L = b ++ putAll 0 4 [n])) (A : Option Addr) (c : Nat) (w : World) (htot : b.length ≤ 500) (h : Lies w w.heap.size 1 A L.length (u8s L)) :
    Calls Tryd.prog 11 #[.slice A L.length c, .int .i64 (b.length : Int)] w fun e w' => e = .returned (.tuple #[.int .u32 (n : Int), .bool true]) ∧ ∃ k, w' = w.drewN k := by
  obtain rfl := hL.out
  have := be32_any (b ++ putAll 0 4 [n]) A c w.heap.size (b.length : Int) w (by rw [List.length_append, putAll_length]; simp [maxLen]; omega) h
  rw [back_high b 4 n hn, back_has] at this
  exact this
/-- PutLe32 of one number, and Le32 of what it made. -/
theorem oneLe32 (b : List UInt8) (n : Nat) (hn : n < 4294967296) (A D : Option Addr) (c d : Nat) (w : World) (hb : Lies w w.heap.size 1 A b.length (u8s b)) (hl : Lies w w.heap.size 1 D 1 (u32s [n])) (htot : b.length ≤ 500) :
    Calls Tryd.prog 19 #[.slice A b.length c, .slice D 1 d] w fun e w' => ∃ L, Hid (L = b ++ putAll 1 4 [n]) ∧ Bytes w L e w' :=
  (putLe32_any b [n] (by intro x hx; simp at hx; omega) A D c d w.heap.size w (Nat.le_refl _) hb hl (by simp; omega)).mono fun _ _ h => ⟨_, rfl, h⟩
theorem backLe32 (b L : List UInt8) (n : Nat) (hn : n < 4294967296) (hL : Hid (L = b ++ putAll 1 4 [n])) (A : Option Addr) (c : Nat) (w : World) (htot : b.length ≤ 500) (h : Lies w w.heap.size 1 A L.length (u8s L)) :
    Calls Tryd.prog 13 #[.slice A L.length c, .int .i64 (b.length : Int)] w fun e w' => e = .returned (.tuple #[.int .u32 (n : Int), .bool true]) ∧ ∃ k, w' = w.drewN k := by
  obtain rfl := hL.out
  have := le32_any (b ++ putAll 1 4 [n]) A c w.heap.size (b.length : Int) w (by rw [List.length_append, putAll_length]; simp [maxLen]; omega) h
  rw [back_low b 4 n hn, back_has] at this
  exact this
/-- PutBe64 of one number, and Be64 of what it made. -/
theorem oneBe64 (b : List UInt8) (n : Nat) (hn : n < 18446744073709551616) (A D : Option Addr) (c d : Nat) (w : World) (hb : Lies w w.heap.size 1 A b.length (u8s b)) (hl : Lies w w.heap.size 1 D 1 (u64s [n])) (htot : b.length ≤ 500) :
    Calls Tryd.prog 18 #[.slice A b.length c, .slice D 1 d] w fun e w' => ∃ L, Hid (L = b ++ putAll 0 8 [n]) ∧ Bytes w L e w' :=
  (putBe64_any b [n] (by intro x hx; simp at hx; omega) A D c d w.heap.size w (Nat.le_refl _) hb hl (by simp; omega)).mono fun _ _ h => ⟨_, rfl, h⟩
theorem backBe64 (b L : List UInt8) (n : Nat) (hn : n < 18446744073709551616) (hL : Hid (L = b ++ putAll 0 8 [n])) (A : Option Addr) (c : Nat) (w : World) (htot : b.length ≤ 500) (h : Lies w w.heap.size 1 A L.length (u8s L)) :
    Calls Tryd.prog 12 #[.slice A L.length c, .int .i64 (b.length : Int)] w fun e w' => e = .returned (.tuple #[.int .u64 (n : Int), .bool true]) ∧ ∃ k, w' = w.drewN k := by
  obtain rfl := hL.out
  have := be64_any (b ++ putAll 0 8 [n]) A c w.heap.size (b.length : Int) w (by rw [List.length_append, putAll_length]; simp [maxLen]; omega) h
  rw [back_high b 8 n hn, back_has] at this
  exact this
/-- PutLe64 of one number, and Le64 of what it made. -/
theorem oneLe64 (b : List UInt8) (n : Nat) (hn : n < 18446744073709551616) (A D : Option Addr) (c d : Nat) (w : World) (hb : Lies w w.heap.size 1 A b.length (u8s b)) (hl : Lies w w.heap.size 1 D 1 (u64s [n])) (htot : b.length ≤ 500) :
    Calls Tryd.prog 20 #[.slice A b.length c, .slice D 1 d] w fun e w' => ∃ L, Hid (L = b ++ putAll 1 8 [n]) ∧ Bytes w L e w' :=
  (putLe64_any b [n] (by intro x hx; simp at hx; omega) A D c d w.heap.size w (Nat.le_refl _) hb hl (by simp; omega)).mono fun _ _ h => ⟨_, rfl, h⟩
theorem backLe64 (b L : List UInt8) (n : Nat) (hn : n < 18446744073709551616) (hL : Hid (L = b ++ putAll 1 8 [n])) (A : Option Addr) (c : Nat) (w : World) (htot : b.length ≤ 500) (h : Lies w w.heap.size 1 A L.length (u8s L)) :
    Calls Tryd.prog 14 #[.slice A L.length c, .int .i64 (b.length : Int)] w fun e w' => e = .returned (.tuple #[.int .u64 (n : Int), .bool true]) ∧ ∃ k, w' = w.drewN k := by
  obtain rfl := hL.out
  have := le64_any (b ++ putAll 1 8 [n]) A c w.heap.size (b.length : Int) w (by rw [List.length_append, putAll_length]; simp [maxLen]; omega) h
  rw [back_low b 8 n hn, back_has] at this
  exact this
theorem lies_u32 (w : World) (n : Nat) (t : TypeId) : Lies (w.alloc (.cells #[.int .u32 (n : Int)] t)) (w.alloc (.cells #[.int .u32 (n : Int)] t)).heap.size 1 (some ⟨w.heap.size, 0, none⟩) 1 (u32s [n]) := lies_one _ _ _
theorem lies_u64 (w : World) (n : Nat) (t : TypeId) : Lies (w.alloc (.cells #[.int .u64 (n : Int)] t)) (w.alloc (.cells #[.int .u64 (n : Int)] t)).heap.size 1 (some ⟨w.heap.size, 0, none⟩) 1 (u64s [n]) := lies_one _ _ _
set_option maxHeartbeats 400000 in
theorem back_walk (A : Option Addr) (c : Nat) (b : List UInt8) (n m : Nat) (w : World) (_hl : b.length ≤ maxLen) (h : Lies w w.heap.size 1 A b.length (u8s b)) (hn : n < 4294967296) (hm : m < 18446744073709551616) (hT : Tab16 w) :
    Calls Tryd.prog 5 #[.slice A b.length c, .int .u32 (n : Int), .int .u64 (m : Int)] w fun e w' => e = .returned (.bool true) ∧ Below w.heap.size w w' := by
  have HT := Lib.hid hT
  have H0 := Lib.hid (And.intro h (And.intro hn hm))
  clear hT h hn hm
  by_cases hlong : (500 : Int) < b.length
  · go_enter Tryd.func5, Tryd.ntmps5
    go_wp2_with (go_at_call 10; refine (awake_any _ HT.out).mono ?_; rintro e w1 ⟨rfl, hd⟩; have H1 := Lib.hid hd; clear hd)
    go_ret
    exact ⟨rfl, H1.out⟩
  have hb := Lib.hid (show b.length ≤ 500 by omega)
  have hshort : ¬ (500 : Int) < b.length := hlong
  clear hlong
  go_enter Tryd.func5, Tryd.ntmps5
  go_wp2_with (first
    | (go_at_call 10; refine (awake_any _ HT.out).mono ?_; rintro e w1 ⟨rfl, hd⟩; have H1 := Lib.hid hd; clear hd)
    | (go_at_call 17; (with_reducible refine (oneBe32 b _ H0.out.2.1 A _ c _ _ (lies_up H0.out.1 H1.out _) (lies_u32 _ _ _) hb.out).mono ?_); rintro e w4 ⟨L_v2, HLv2, v2, rfl, ho2, hd⟩; obtain ⟨B2, e2, rfl, hq⟩ := owns_form ho2; have Q2 := Lib.hid hq; have G2 := Lib.hid ((H1.out.alloc H1.out.size _).trans (hd.mono (below_up H1.out _))); clear ho2 hd hq)
    | (go_at_call 11; (with_reducible refine (backBe32 b _ _ H0.out.2.1 HLv2 _ _ _ hb.out Q2.out).mono ?_); rintro e w5 ⟨rfl, hd⟩; have H2 := Lib.hid (G2.out.trans (below_drawn (B := w.heap.size) hd)); clear hd)
    | (go_at_call 18; (with_reducible refine (oneBe64 b _ H0.out.2.2 A _ c _ _ (lies_up H0.out.1 H2.out _) (lies_u64 _ _ _) hb.out).mono ?_); rintro e w6 ⟨L_v3, HLv3, v3, rfl, ho3, hd⟩; obtain ⟨B3, e3, rfl, hq⟩ := owns_form ho3; have Q3 := Lib.hid hq; have G3 := Lib.hid ((H2.out.alloc H2.out.size _).trans (hd.mono (below_up H2.out _))); clear ho3 hd hq)
    | (go_at_call 12; (with_reducible refine (backBe64 b _ _ H0.out.2.2 HLv3 _ _ _ hb.out Q3.out).mono ?_); rintro e w7 ⟨rfl, hd⟩; have H3 := Lib.hid (G3.out.trans (below_drawn (B := w.heap.size) hd)); clear hd)
    | (go_at_call 19; (with_reducible refine (oneLe32 b _ H0.out.2.1 A _ c _ _ (lies_up H0.out.1 H3.out _) (lies_u32 _ _ _) hb.out).mono ?_); rintro e w8 ⟨L_v4, HLv4, v4, rfl, ho4, hd⟩; obtain ⟨B4, e4, rfl, hq⟩ := owns_form ho4; have Q4 := Lib.hid hq; have G4 := Lib.hid ((H3.out.alloc H3.out.size _).trans (hd.mono (below_up H3.out _))); clear ho4 hd hq)
    | (go_at_call 13; (with_reducible refine (backLe32 b _ _ H0.out.2.1 HLv4 _ _ _ hb.out Q4.out).mono ?_); rintro e w9 ⟨rfl, hd⟩; have H4 := Lib.hid (G4.out.trans (below_drawn (B := w.heap.size) hd)); clear hd)
    | (go_at_call 20; (with_reducible refine (oneLe64 b _ H0.out.2.2 A _ c _ _ (lies_up H0.out.1 H4.out _) (lies_u64 _ _ _) hb.out).mono ?_); rintro e w10 ⟨L_v5, HLv5, v5, rfl, ho5, hd⟩; obtain ⟨B5, e5, rfl, hq⟩ := owns_form ho5; have Q5 := Lib.hid hq; have G5 := Lib.hid ((H4.out.alloc H4.out.size _).trans (hd.mono (below_up H4.out _))); clear ho5 hd hq)
    | (go_at_call 14; (with_reducible refine (backLe64 b _ _ H0.out.2.2 HLv5 _ _ _ hb.out Q5.out).mono ?_); rintro e w11 ⟨rfl, hd⟩; have H5 := Lib.hid (G5.out.trans (below_drawn (B := w.heap.size) hd)); clear hd))
  go_ret
  exact ⟨rfl, H5.out⟩
end Go.Proofs.YtnjgneophllciaaDoor
