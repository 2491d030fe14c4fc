/- Kinds of keys; Height, of the code and of the reference; a key's bytes. -/
import Derived.Test.YtmcpmcicolpoeaaDoorCn1
namespace Go.Proofs.YtmcpmcicolpoeaaDoor
open Go.RowKit

/-- The height that a kind has; 0 for none. -/
def hgtO (oid : Nat) : Nat := if oid = 1 then 10 else if oid = 2 then 16 else if oid = 3 then 20 else 0
def isO (oid : Nat) : Bool := decide (1 ≤ oid ∧ oid ≤ 3)
theorem isO_off {oid : Nat} (h : isO oid = false) : oid ≠ 1 ∧ oid ≠ 2 ∧ oid ≠ 3 := by
  unfold isO at h
  have h := of_decide_eq_false h
  omega
theorem hgtO_off {oid : Nat} (h : isO oid = false) : hgtO oid = 0 := by
  obtain ⟨h1, h2, h3⟩ := isO_off h
  simp [hgtO, h1, h2, h3]
set_option maxRecDepth 100000 in
theorem height_any (oid : Nat) (_hoid : oid < 4294967296) (w : World) :
    Calls Tryd.prog 111 #[.int .u32 (oid : Int)] w fun e w' => e = .returned (.tuple #[.int .i64 ((hgtO oid : Nat) : Int), .bool (isO oid)]) ∧ w = w' := by
  by_cases h1 : oid = 1
  · subst h1
    go_enter Tryd.func111, Tryd.ntmps111
    go_wp2
    go_ret2
    exact ⟨rfl, rfl⟩
  by_cases h2 : oid = 2
  · subst h2
    go_enter Tryd.func111, Tryd.ntmps111
    go_wp2
    go_ret2
    exact ⟨rfl, rfl⟩
  by_cases h3 : oid = 3
  · subst h3
    go_enter Tryd.func111, Tryd.ntmps111
    go_wp2
    go_ret2
    exact ⟨rfl, rfl⟩
  have e1 : ((oid : Int) == 1) = false := by simp; omega
  have e2 : ((oid : Int) == 2) = false := by simp; omega
  have e3 : ((oid : Int) == 3) = false := by simp; omega
  have e0 : isO oid = false := by unfold isO; exact decide_eq_false (by omega)
  rw [hgtO_off e0, e0]
  go_enter Tryd.func111, Tryd.ntmps111
  go_wp2
  go_ret2
  exact ⟨rfl, rfl⟩
set_option maxRecDepth 100000 in
theorem rheight_any (oid : Nat) (_hoid : oid < 4294967296) (w : World) :
    Calls Tryd.prog 86 #[.int .u32 (oid : Int)] w fun e w' => e = .returned (.tuple #[.int .i64 ((hgtO oid : Nat) : Int), .bool (isO oid)]) ∧ w = w' := by
  by_cases h1 : oid = 1
  · subst h1
    go_enter Tryd.func86, Tryd.ntmps86
    go_wp2
    go_ret2
    exact ⟨rfl, rfl⟩
  by_cases h2 : oid = 2
  · subst h2
    go_enter Tryd.func86, Tryd.ntmps86
    go_wp2
    go_ret2
    exact ⟨rfl, rfl⟩
  by_cases h3 : oid = 3
  · subst h3
    go_enter Tryd.func86, Tryd.ntmps86
    go_wp2
    go_ret2
    exact ⟨rfl, rfl⟩
  have e1 : ((oid : Int) == 1) = false := by simp; omega
  have e2 : ((oid : Int) == 2) = false := by simp; omega
  have e3 : ((oid : Int) == 3) = false := by simp; omega
  have e0 : isO oid = false := by unfold isO; exact decide_eq_false (by omega)
  rw [hgtO_off e0, e0]
  go_enter Tryd.func86, Tryd.ntmps86
  go_wp2
  go_ret2
  exact ⟨rfl, rfl⟩
/-- Whether 68 bytes are a key; its cells. -/
def kOk (k : By) : Bool := isO (val (k.take 4))
def kF (k : By) : Nat → UInt8 := fun i => k.getD i 0
def zb : Nat → UInt8 := fun _ => 0
theorem info_key : (Tryd.prog.info? 58).map (·.size) = some 68 := by kernel_rfl
theorem zeroKeyB (w : World) : (zeroValue 58).run Tryd.prog w = .ok (.agg (vec 68 (bys zb))) w :=
  (zero_of_info (P := Tryd.prog) (t := 58) (v := .agg (vec 68 (bys zb))) (n := 68) (by kernel_rfl)).1 w
theorem key_lies {w : World} {g : Nat} {t : TypeId} {k : By} (h : Arr w g t 68 (bys (kF k))) (hk : k.length = 68) : Lies w w.heap.size 1 (some ⟨g, 0, none⟩) 68 (u8s k) := by
  have hl := h.lies h.lt 0 68 (by decide)
  have e : ((List.range 68).map fun i => bys (kF k) (0 + i)) = u8s k := by
    refine List.ext_getElem (by simp [u8s, hk]) fun i h1 h2 => ?_
    have hi : i < k.length := by simp at h1; omega
    simp [bys, kF, u8s, hi]
  rw [e] at hl
  exact hl
theorem accB_congr (a b : Nat → UInt8) : ∀ k, (∀ i, i < k → a i = b i) → accB a k = accB b k
  | 0, _ => rfl
  | k + 1, h => by rw [accB, accB, accB_congr a b k (fun i hi => h i (by omega)), h k (by omega)]
theorem numHas_m68 : numHas 68 0 4 = true := by decide
theorem numOf_key (k : By) (hk : k.length = 68) : numOf k 0 4 false = val (k.take 4) := by
  have h4 : (k.take 4).length = 4 := by simp; omega
  rw [← numOf_val (k.take 4) 4 h4]
  unfold numOf
  rw [if_pos (by omega), if_neg (by decide), if_pos (by omega), if_neg (by decide)]
  refine accB_congr _ _ 4 fun i hi => ?_
  unfold bAt
  rw [show (0 : Int).toNat + i = i by simp, List.getD_eq_getElem?_getD, List.getD_eq_getElem?_getD, List.getElem?_take, if_pos hi]
set_option maxRecDepth 100000 in
set_option maxHeartbeats 1000000 in
theorem keyed_any (k : By) (hk : k.length = 68) (w : World) : Calls Tryd.prog 87 #[.agg (vec 68 (bys (kF k)))] w fun e w' => e = .returned (.bool (kOk k)) ∧ Below w.heap.size w w' := by
  obtain ⟨V, hV⟩ : ∃ V, V = w.alloc (.cells (vec 68 (bys (kF k))) 58) := ⟨_, rfl⟩
  have h0 : Arr V w.heap.size 58 68 (bys (kF k)) := by rw [hV]; exact Arr.new w _ _ _
  have hB : Below w.heap.size w V := by rw [hV]; exact (Below.refl _ _).alloc (Nat.le_refl _) _
  have hb := be32_any k (some ⟨w.heap.size, 0, none⟩) 68 V.heap.size 0 V (by rw [hk]; decide) (by rw [hk]; exact key_lies h0 hk)
  rw [hk, numOf_key k hk, numHas_m68] at hb
  obtain ⟨n, hn⟩ : ∃ n, n = val (k.take 4) := ⟨_, rfl⟩
  have hn4 : n < 4294967296 := by
    have := val_lt (k.take 4)
    rw [← hn] at this
    refine Nat.lt_of_lt_of_le this ?_
    have : (k.take 4).length = 4 := by simp; omega
    rw [this]; decide
  have hko : kOk k = isO n := by rw [hn]; rfl
  rw [hko]
  rw [← hn] at hb
  have HK := Lib.hid hb
  have HH := Lib.hid (height_any n hn4)
  have HW := Lib.hid hV
  have HB := Lib.hid hB
  obtain ⟨ht, hht⟩ : ∃ ht, ht = hgtO n := ⟨_, rfl⟩
  obtain ⟨is, his⟩ : ∃ is, is = isO n := ⟨_, rfl⟩
  rw [← hht, ← his] at HH
  rw [← his]
  clear hV h0 hB hb hn hko hht his hk
  go_enter Tryd.func87, Tryd.ntmps87
  go_upto_region 1 with fail
  rw [← HW.out]
  clear HW
  go_wp2_with (first
    | (go_at_call 68; refine HK.out.mono ?_; rintro e w1 ⟨rfl, hw⟩; have H1 := Lib.hid hw; clear hw)
    | (go_at_call 111; refine (HH.out _).mono ?_; rintro e w2 ⟨rfl, rfl⟩))
  go_ret
  obtain ⟨j, rfl⟩ := H1.out
  exact ⟨rfl, below_drewN HB.out j⟩
end Go.Proofs.YtmcpmcicolpoeaaDoor
