/- Numbers that the cursor reads: long, wide, short. -/
import Derived.Test.YtmcpmcicolpoeaaDoorCv
import Derived.Laws.BitsAllLaws
namespace Go.Proofs.YtmcpmcicolpoeaaDoor
open Go.RowKit
/-- The number of m bytes from place q on. -/
def numAt (b : By) (q m : Nat) : Nat := val ((b.drop q).take m)
theorem numAt_lt (b : By) (q m : Nat) : numAt b q m < 256 ^ m := by
  have h := val_lt ((b.drop q).take m)
  have h2 : ((b.drop q).take m).length ≤ m := by simp; omega
  exact Nat.lt_of_lt_of_le h (Nat.pow_le_pow_right (by decide) h2)
theorem val_fold (l : By) (b : Nat → UInt8) (h : ∀ i (hi : i < l.length), b i = l[i]) : val l = accB b l.length := by
  have e : l = (List.range l.length).map b := List.ext_getElem (by simp) fun i h1 h2 => by simp [h i h1]
  have : ∀ k, val ((List.range k).map b) = accB b k := by
    intro k
    induction k with
    | zero => rfl
    | succ k ih =>
      rw [List.range_succ, List.map_append, List.map_cons, List.map_nil, val_snoc, ih]; rfl
  rw [← this, ← e]
theorem numOf_val (l : By) (m : Nat) (h : l.length = m) : numOf l 0 m false = val l := by
  unfold numOf
  rw [if_pos (by omega), if_neg (by decide), ← h]
  refine (val_fold l _ fun i hi => ?_).symm
  unfold bAt
  simp [hi]
theorem numHas_m (m : Nat) : numHas m 0 m = true := by simp [numHas]
/-- A number was read, or the bytes ended ahead of it. -/
def NumP (b : By) (q m : Nat) (k : IntKind) (g : Nat) (A : Option Addr) (c : Nat) (w : World) (e : Ending) (w' : World) : Prop :=
  (q + m ≤ b.length ∧ e = .returned (.int k (numAt b q m : Nat)) ∧ Cur w' g A c b q (q + m) ∧ Save g w w') ∨ (¬ q + m ≤ b.length ∧ e = .panicked (faultC q 141) ∧ Save g w w')
section
variable {w : World} {g c at_ q : Nat} {A : Option Addr} {b : By}
theorem cut_len (b : By) (q m : Nat) (h : q + m ≤ b.length) : ((b.drop q).take m).length = m := by simp; omega
theorem Save.drew_of {g : Nat} {w w1 w2 : World} (h : Save g w w1) (k : ∃ n, w2 = w1.drewN n) : Save g w w2 := by obtain ⟨n, rfl⟩ := k; exact h.drewN n
theorem Cur.drew_of {w1 w2 : World} (h : Cur w1 g A c b at_ q) (k : ∃ n, w2 = w1.drewN n) : Cur w2 g A c b at_ q := by obtain ⟨n, rfl⟩ := k; exact h.drewN n
set_option maxHeartbeats 1000000 in
set_option maxRecDepth 100000 in
theorem long_any (h : Cur w g A c b at_ q) : Calls Tryd.prog 38 #[.pointer (some ⟨g, 0, none⟩)] w (NumP b q 4 .u32 g A c w) := by
  by_cases hm : q + 4 ≤ b.length
  · have HF := Lib.hid (field_yes h 4 hm (by decide) (by decide))
    have HB : Hid (∀ A' c' W, Lies W g 1 A' 4 (u8s ((b.drop q).take 4)) → Calls Tryd.prog 68 #[.slice A' 4 c', .int .i64 0] W fun e w' => e = .returned (.tuple #[.int .u32 (numAt b q 4 : Nat), .bool true]) ∧ ∃ n, w' = W.drewN n) := Lib.hid fun A' c' W hl => by
      have hn := cut_len b q 4 hm
      obtain ⟨l, hl0⟩ : ∃ l, l = (b.drop q).take 4 := ⟨_, rfl⟩
      unfold numAt
      rw [← hl0] at hn hl ⊢
      have := be32_any l A' c' g 0 W (by rw [hn]; decide) (by rw [hn]; exact hl)
      rw [hn, numOf_val l 4 hn, numHas_m] at this
      exact this
    have HM := Lib.hid hm
    clear h hm
    go_enter Tryd.func38, Tryd.ntmps38
    go_wp2_with (first
      | (go_at_call 69; refine HF.out.mono ?_; rintro e w1 ⟨A', c', rfl, hc', hl, hk, hs⟩; have H1 := Lib.hid (And.intro hl (And.intro hk hs)); clear hl hk hs)
      | (go_at_call 68; refine (HB.out _ _ _ H1.out.1).mono ?_; rintro e w2 ⟨rfl, hw⟩; have H2 := Lib.hid hw; clear hw))
    go_ret
    exact .inl ⟨HM.out, rfl, H1.out.2.1.drew_of H2.out, H1.out.2.2.drew_of H2.out⟩
  · have HF := Lib.hid (field_no h 4 hm (by decide))
    have HM := Lib.hid hm
    clear h hm
    go_enter Tryd.func38, Tryd.ntmps38
    go_wp2_with (go_at_call 69; refine HF.out.mono ?_; rintro e w1 ⟨rfl, hs⟩)
    exact ⟨rfl, .inr ⟨HM.out, rfl, hs⟩⟩
set_option maxHeartbeats 1000000 in
set_option maxRecDepth 100000 in
theorem wide_any (h : Cur w g A c b at_ q) : Calls Tryd.prog 72 #[.pointer (some ⟨g, 0, none⟩)] w (NumP b q 8 .u64 g A c w) := by
  by_cases hm : q + 8 ≤ b.length
  · have HF := Lib.hid (field_yes h 8 hm (by decide) (by decide))
    have HB : Hid (∀ A' c' W, Lies W g 1 A' 8 (u8s ((b.drop q).take 8)) → Calls Tryd.prog 109 #[.slice A' 8 c', .int .i64 0] W fun e w' => e = .returned (.tuple #[.int .u64 (numAt b q 8 : Nat), .bool true]) ∧ ∃ n, w' = W.drewN n) := Lib.hid fun A' c' W hl => by
      have hn := cut_len b q 8 hm
      obtain ⟨l, hl0⟩ : ∃ l, l = (b.drop q).take 8 := ⟨_, rfl⟩
      unfold numAt
      rw [← hl0] at hn hl ⊢
      have := be64_any l A' c' g 0 W (by rw [hn]; decide) (by rw [hn]; exact hl)
      rw [hn, numOf_val l 8 hn, numHas_m] at this
      exact this
    have HM := Lib.hid hm
    clear h hm
    go_enter Tryd.func72, Tryd.ntmps72
    go_wp2_with (first
      | (go_at_call 69; refine HF.out.mono ?_; rintro e w1 ⟨A', c', rfl, hc', hl, hk, hs⟩; have H1 := Lib.hid (And.intro hl (And.intro hk hs)); clear hl hk hs)
      | (go_at_call 109; refine (HB.out _ _ _ H1.out.1).mono ?_; rintro e w2 ⟨rfl, hw⟩; have H2 := Lib.hid hw; clear hw))
    go_ret
    exact .inl ⟨HM.out, rfl, H1.out.2.1.drew_of H2.out, H1.out.2.2.drew_of H2.out⟩
  · have HF := Lib.hid (field_no h 8 hm (by decide))
    have HM := Lib.hid hm
    clear h hm
    go_enter Tryd.func72, Tryd.ntmps72
    go_wp2_with (go_at_call 69; refine HF.out.mono ?_; rintro e w1 ⟨rfl, hs⟩)
    exact ⟨rfl, .inr ⟨HM.out, rfl, hs⟩⟩
theorem i64_or_nat (a b : Nat) (ha : a < 65536) (hb : b < 65536) : bits .or .i64 (a : Int) (b : Int) = ((a ||| b : Nat) : Int) := by
  have hx : a ||| b < 2 ^ 16 := Nat.or_lt_two_pow (by omega) (by omega)
  show IntKind.i64.wrap ((BitVec.ofInt 64 (a : Int) ||| BitVec.ofInt 64 (b : Int)).toNat : Int) = _
  rw [BitVec.toNat_or, ofInt_u64 a (by omega), ofInt_u64 b (by omega), IntKind.wrap_i64]
  omega
theorem shl_or (x y : UInt8) : bits .or .i64 ((x.toNat : Int) * 256) (y.toNat : Int) = ((x.toNat * 256 + y.toNat : Nat) : Int) := by
  have h1 := x.toNat_lt
  have h2 := y.toNat_lt
  have := i64_or_nat (x.toNat * 256) y.toNat (by omega) (by omega)
  rw [show ((x.toNat * 256 : Nat) : Int) = (x.toNat : Int) * 256 by simp] at this
  rw [this]
  congr 1
  rw [Nat.mul_comm, ← Nat.two_pow_add_eq_or_of_lt (i := 8) (by omega)]
theorem num2 (l : By) (h : l.length = 2) : val l = (l[0]'(by omega)).toNat * 256 + (l[1]'(by omega)).toNat := by
  match l, h with
  | [x, y], _ => simp [val]
set_option maxHeartbeats 1000000 in
set_option maxRecDepth 100000 in
theorem short_any (h : Cur w g A c b at_ q) : Calls Tryd.prog 39 #[.pointer (some ⟨g, 0, none⟩)] w (NumP b q 2 .i64 g A c w) := by
  by_cases hm : q + 2 ≤ b.length
  · have HF := Lib.hid (field_yes h 2 hm (by decide) (by decide))
    have HM := Lib.hid hm
    have hn := cut_len b q 2 hm
    unfold NumP numAt
    obtain ⟨l, hl0⟩ : ∃ l, l = (b.drop q).take 2 := ⟨_, rfl⟩
    rw [← hl0] at hn HF ⊢
    have hv := num2 l hn
    rw [hv]
    have hs := shl_or l[0] l[1]
    have b0 := u8_lt l[0]
    have b1 := u8_lt l[1]
    have HN := Lib.hid hn
    obtain ⟨x, hx⟩ : ∃ x, x = l[0] := ⟨_, rfl⟩
    obtain ⟨y, hy⟩ : ∃ y, y = l[1] := ⟨_, rfl⟩
    rw [← hx] at hs b0 ⊢
    rw [← hy] at hs b1 ⊢
    have HX := Lib.hid (And.intro hx hy)
    clear h hm hv hl0 hx hy
    go_enter Tryd.func39, Tryd.ntmps39
    go_upto_region 2 with (go_at_call 69; refine HF.out.mono ?_; rintro e w1 ⟨A', c', rfl, hc', hl, hk, hs⟩; have H1 := Lib.hid (And.intro hl (And.intro hk hs)); clear hl hk hs)
    obtain ⟨a, rfl, -, hc⟩ := H1.out.1.2 (by decide)
    have c0 := hc 0 (by rw [u8s_length, HN.out]; decide)
    have c1 := hc 1 (by rw [u8s_length, HN.out]; decide)
    have c0 : w1.cell? a = some (.int .u8 (x.toNat : Int)) := by rw [HX.out.1]; simpa [u8s, Addr.add] using c0
    have c1 : w1.cell? ⟨a.block, a.off + 1, none⟩ = some (.int .u8 (y.toNat : Int)) := by rw [HX.out.2]; simpa [u8s, Addr.add] using c1
    clear hc
    go_quiet (fail)
    go_wp2
    go_ret
    exact .inl ⟨HM.out, rfl, H1.out.2.1.drewN _, H1.out.2.2.drewN _⟩
  · have HF := Lib.hid (field_no h 2 hm (by decide))
    have HM := Lib.hid hm
    clear h hm
    go_enter Tryd.func39, Tryd.ntmps39
    go_upto_region 2 with (go_at_call 69; refine HF.out.mono ?_; rintro e w1 ⟨rfl, hs⟩; exact ⟨rfl, .inr ⟨HM.out, rfl, hs⟩⟩)
end
end Go.Proofs.YtmcpmcicolpoeaaDoor
