import Derived.WalkLawsBesides
import Derived.Laws.BitsAllLaws
import Derived.Laws.StructEq
import Derived.Laws.Small
import Derived.ChangeKeysEq
import Derived.Test.YtkaipknkjocfiaaGreatZa1
import Derived.Test.YtkaipknkjocfiaaGreatZa2
namespace Go.Proofs.YtkaipknkjocfiaaGreat
open Go.RowKit
theorem Blk.setAt {w : World} {g : Nat} {t : TypeId} {cs : Array Value} (h : Blk w g t cs) (i : Nat) (u : Value) : Blk (w.setCell ⟨g, i, none⟩ u) g t (cs.setIfInBounds i u) := by
 unfold Blk at h ⊢
 simp [World.setCell, Array.getElem?_modify, h]
theorem Blk.free {w : World} {g : Nat} {t : TypeId} {cs : Array Value} (h : Blk w g t cs) (i : Nat) : w.frozen? ⟨g, i, none⟩ = false := by
 unfold Blk at h; simp [World.frozen?, h]
section
variable {w w' : World} {g c at_ q : Nat} {A : Option Addr} {b : By}
end
section
variable {w : World} {g at_ : Nat}
end
end Go.Proofs.YtkaipknkjocfiaaGreat
namespace Go.Proofs.YtkaipknkjocfiaaGreat
open Go.RowKit
section
variable {w : World} {g c at_ q : Nat} {A : Option Addr} {b : By}
end
end Go.Proofs.YtkaipknkjocfiaaGreat
namespace Go.Proofs.YtkaipknkjocfiaaGreat
open Go.RowKit
theorem val_fold (l : By) (b : Nat → UInt8) (h : ∀ i (hi : i < l.length), b i = l[i]) : val l = accB b l.length := by
 have e : l = (List.range l.length).map b := List.ext_getElem (by simp) fun i h1 h2 => by simp [h i h1]
 have : ∀ k, val ((List.range k).map b) = accB b k := by
  intro k
  induction k with
  | zero => rfl
  | succ k ih =>
   rw [List.range_succ, List.map_append, List.map_cons, List.map_nil, val_snoc, ih]; rfl
 rw [← this, ← e]
theorem numOf_val (l : By) (m : Nat) (h : l.length = m) : numOf l 0 m false = val l := by
 unfold numOf
 rw [if_pos (by omega), if_neg (by decide), ← h]
 refine (val_fold l _ fun i hi => ?_).symm
 unfold bAt
 simp [hi]
section
variable {w : World} {g c at_ q : Nat} {A : Option Addr} {b : By}
end
end Go.Proofs.YtkaipknkjocfiaaGreat
namespace Go.Proofs.YtkaipknkjocfiaaGreat
open Go.RowKit
def hgtO (oid : Nat) : Nat := if oid = 1 then 10 else if oid = 2 then 16 else if oid = 3 then 20 else 0
def isO (oid : Nat) : Bool := decide (1 ≤ oid ∧ oid ≤ 3)
theorem isO_off {oid : Nat} (h : isO oid = false) : oid ≠ 1 ∧ oid ≠ 2 ∧ oid ≠ 3 := by
 unfold isO at h
 have h := of_decide_eq_false h
 omega
theorem hgtO_off {oid : Nat} (h : isO oid = false) : hgtO oid = 0 := by
 obtain ⟨h1, h2, h3⟩ := isO_off h
 simp [hgtO, h1, h2, h3]
set_option maxRecDepth 100000 in
theorem height_any (oid : Nat) (_hoid : oid < 4294967296) (w : World) :
   Calls Tryz.prog 171 #[.int .u32 (oid : Int)] w fun e w' => e = .returned (.tuple #[.int .i64 ((hgtO oid : Nat) : Int), .bool (isO oid)]) ∧ w = w' := by
 by_cases h1 : oid = 1
 · subst h1
   go_enter Tryz.func171, Tryz.ntmps171
   go_wp2
   go_ret2
   exact ⟨rfl, rfl⟩
 by_cases h2 : oid = 2
 · subst h2
   go_enter Tryz.func171, Tryz.ntmps171
   go_wp2
   go_ret2
   exact ⟨rfl, rfl⟩
 by_cases h3 : oid = 3
 · subst h3
   go_enter Tryz.func171, Tryz.ntmps171
   go_wp2
   go_ret2
   exact ⟨rfl, rfl⟩
 have e1 : ((oid : Int) == 1) = false := by simp; omega
 have e2 : ((oid : Int) == 2) = false := by simp; omega
 have e3 : ((oid : Int) == 3) = false := by simp; omega
 have e0 : isO oid = false := by unfold isO; exact decide_eq_false (by omega)
 rw [hgtO_off e0, e0]
 go_enter Tryz.func171, Tryz.ntmps171
 go_wp2
 go_ret2
 exact ⟨rfl, rfl⟩
def kOk (k : By) : Bool := isO (val (k.take 4))
def kF (k : By) : Nat → UInt8 := fun i => k.getD i 0
def zb : Nat → UInt8 := fun _ => 0
theorem info_key : (Tryz.prog.info? 52).map (·.size) = some 68 := by kernel_rfl
theorem zeroKeyB (w : World) : (zeroValue 52).run Tryz.prog w = .ok (.agg (vec 68 (bys zb))) w :=
 (zero_of_info (P := Tryz.prog) (t := 52) (v := .agg (vec 68 (bys zb))) (n := 68) (by kernel_rfl)).1 w
theorem key_lies {w : World} {g : Nat} {t : TypeId} {k : By} (h : Arr w g t 68 (bys (kF k))) (hk : k.length = 68) : Lies w w.heap.size 1 (some ⟨g, 0, none⟩) 68 (u8s k) := by
 have hl := h.lies h.lt 0 68 (by decide)
 have e : ((List.range 68).map fun i => bys (kF k) (0 + i)) = u8s k := by
  refine List.ext_getElem (by simp [u8s, hk]) fun i h1 h2 => ?_
  have hi : i < k.length := by simp at h1; omega
  simp [bys, kF, u8s, hi]
 rw [e] at hl
 exact hl
theorem accB_congr (a b : Nat → UInt8) : ∀ k, (∀ i, i < k → a i = b i) → accB a k = accB b k
 | 0, _ => rfl
 | k + 1, h => by rw [accB, accB, accB_congr a b k (fun i hi => h i (by omega)), h k (by omega)]
theorem numHas_m68 : numHas 68 0 4 = true := by decide
theorem numOf_key (k : By) (hk : k.length = 68) : numOf k 0 4 false = val (k.take 4) := by
 have h4 : (k.take 4).length = 4 := by simp; omega
 rw [← numOf_val (k.take 4) 4 h4]
 unfold numOf
 rw [if_pos (by omega), if_neg (by decide), if_pos (by omega), if_neg (by decide)]
 refine accB_congr _ _ 4 fun i hi => ?_
 unfold bAt
 rw [show (0 : Int).toNat + i = i by simp, List.getD_eq_getElem?_getD, List.getD_eq_getElem?_getD, List.getElem?_take, if_pos hi]
set_option maxRecDepth 100000 in
set_option maxHeartbeats 1000000 in
theorem keyed_any (k : By) (hk : k.length = 68) (w : World) : Calls Tryz.prog 143 #[.agg (vec 68 (bys (kF k)))] w fun e w' => e = .returned (.bool (kOk k)) ∧ Below w.heap.size w w' := by
 obtain ⟨V, hV⟩ : ∃ V, V = w.alloc (.cells (vec 68 (bys (kF k))) 52) := ⟨_, rfl⟩
 have h0 : Arr V w.heap.size 52 68 (bys (kF k)) := by rw [hV]; exact Arr.new w _ _ _
 have hB : Below w.heap.size w V := by rw [hV]; exact (Below.refl _ _).alloc (Nat.le_refl _) _
 have hb := be32_any k (some ⟨w.heap.size, 0, none⟩) 68 V.heap.size 0 V (by rw [hk]; decide) (by rw [hk]; exact key_lies h0 hk)
 rw [hk, numOf_key k hk, numHas_m68] at hb
 obtain ⟨n, hn⟩ : ∃ n, n = val (k.take 4) := ⟨_, rfl⟩
 have hn4 : n < 4294967296 := by
  have := val_lt (k.take 4)
  rw [← hn] at this
  refine Nat.lt_of_lt_of_le this ?_
  have : (k.take 4).length = 4 := by simp; omega
  rw [this]; decide
 have hko : kOk k = isO n := by rw [hn]; rfl
 rw [hko]
 rw [← hn] at hb
 have HK := Lib.hid hb
 have HH := Lib.hid (height_any n hn4)
 have HW := Lib.hid hV
 have HB := Lib.hid hB
 obtain ⟨ht, hht⟩ : ∃ ht, ht = hgtO n := ⟨_, rfl⟩
 obtain ⟨is, his⟩ : ∃ is, is = isO n := ⟨_, rfl⟩
 rw [← hht, ← his] at HH
 rw [← his]
 clear hV h0 hB hb hn hko hht his hk
 go_enter Tryz.func143, Tryz.ntmps143
 go_upto_region 1 with fail
 rw [← HW.out]
 clear HW
 go_wp2_with (first
  | (go_at_call 170; refine HK.out.mono ?_; rintro e w1 ⟨rfl, hw⟩; have H1 := Lib.hid hw; clear hw)
  | (go_at_call 171; refine (HH.out _).mono ?_; rintro e w2 ⟨rfl, rfl⟩))
 go_ret
 obtain ⟨j, rfl⟩ := H1.out
 exact ⟨rfl, below_drewN HB.out j⟩
end Go.Proofs.YtkaipknkjocfiaaGreat
namespace Go.Proofs.YtkaipknkjocfiaaGreat
open Go.RowKit
def inB (n lo hi : Int) : Bool := decide (lo ≤ n ∧ n ≤ hi)
set_option maxRecDepth 100000 in
theorem among_any (n lo hi : Int) (w : World) : Calls Tryz.prog 141 #[.int .i64 n, .int .i64 lo, .int .i64 hi] w fun e w' => e = .returned (.bool (inB n lo hi)) ∧ w = w' := by
 unfold inB
 by_cases h1 : lo ≤ n
 · by_cases h2 : n ≤ hi
   · rw [decide_eq_true (show lo ≤ n ∧ n ≤ hi from ⟨h1, h2⟩)]
     have d1 := decide_eq_true h1
     have d2 := decide_eq_true h2
     clear h1 h2
     go_enter Tryz.func141, Tryz.ntmps141
     go_wp2
     go_ret
     exact ⟨rfl, rfl⟩
   · rw [decide_eq_false (show ¬ (lo ≤ n ∧ n ≤ hi) from fun h => h2 h.2)]
     have d1 := decide_eq_true h1
     have d2 := decide_eq_false h2
     clear h1 h2
     go_enter Tryz.func141, Tryz.ntmps141
     go_wp2
     go_ret
     exact ⟨rfl, rfl⟩
 · rw [decide_eq_false (show ¬ (lo ≤ n ∧ n ≤ hi) from fun h => h1 h.1)]
   have d1 := decide_eq_false h1
   clear h1
   go_enter Tryz.func141, Tryz.ntmps141
   go_wp2
   go_ret
   exact ⟨rfl, rfl⟩
set_option maxRecDepth 100000 in
theorem guestsFit_any (n : Int) (w : World) : Calls Tryz.prog 107 #[.int .i64 n] w fun e w' => e = .returned (.bool (inB n 1 16)) ∧ w = w' := by
 have HA := Lib.hid (among_any n 1 16)
 obtain ⟨r, hr⟩ : ∃ r, r = inB n 1 16 := ⟨_, rfl⟩
 rw [← hr] at HA ⊢
 clear hr
 go_enter Tryz.func107, Tryz.ntmps107
 go_wp2_with (go_at_call 141; refine (HA.out _).mono ?_; rintro e w1 ⟨rfl, rfl⟩)
 go_ret
 exact ⟨rfl, rfl⟩
set_option maxRecDepth 100000 in
theorem channelsFit_any (n : Int) (w : World) : Calls Tryz.prog 108 #[.int .i64 n] w fun e w' => e = .returned (.bool (inB n 0 32)) ∧ w = w' := by
 have HA := Lib.hid (among_any n 0 32)
 obtain ⟨r, hr⟩ : ∃ r, r = inB n 0 32 := ⟨_, rfl⟩
 rw [← hr] at HA ⊢
 clear hr
 go_enter Tryz.func108, Tryz.ntmps108
 go_wp2_with (go_at_call 141; refine (HA.out _).mono ?_; rintro e w1 ⟨rfl, rfl⟩)
 go_ret
 exact ⟨rfl, rfl⟩
set_option maxRecDepth 100000 in
theorem windowsFit_any (n : Int) (w : World) : Calls Tryz.prog 172 #[.int .i64 n] w fun e w' => e = .returned (.bool (inB n 1 16)) ∧ w = w' := by
 have HA := Lib.hid (among_any n 1 16)
 obtain ⟨r, hr⟩ : ∃ r, r = inB n 1 16 := ⟨_, rfl⟩
 rw [← hr] at HA ⊢
 clear hr
 go_enter Tryz.func172, Tryz.ntmps172
 go_wp2_with (go_at_call 141; refine (HA.out _).mono ?_; rintro e w1 ⟨rfl, rfl⟩)
 go_ret
 exact ⟨rfl, rfl⟩
set_option maxRecDepth 100000 in
theorem devicesFit_any (n : Int) (w : World) : Calls Tryz.prog 173 #[.int .i64 n] w fun e w' => e = .returned (.bool (inB n 0 16)) ∧ w = w' := by
 have HA := Lib.hid (among_any n 0 16)
 obtain ⟨r, hr⟩ : ∃ r, r = inB n 0 16 := ⟨_, rfl⟩
 rw [← hr] at HA ⊢
 clear hr
 go_enter Tryz.func173, Tryz.ntmps173
 go_wp2_with (go_at_call 141; refine (HA.out _).mono ?_; rintro e w1 ⟨rfl, rfl⟩)
 go_ret
 exact ⟨rfl, rfl⟩
set_option maxRecDepth 100000 in
theorem irqsFit_any (n : Int) (w : World) : Calls Tryz.prog 174 #[.int .i64 n] w fun e w' => e = .returned (.bool (inB n 0 64)) ∧ w = w' := by
 have HA := Lib.hid (among_any n 0 64)
 obtain ⟨r, hr⟩ : ∃ r, r = inB n 0 64 := ⟨_, rfl⟩
 rw [← hr] at HA ⊢
 clear hr
 go_enter Tryz.func174, Tryz.ntmps174
 go_wp2_with (go_at_call 141; refine (HA.out _).mono ?_; rintro e w1 ⟨rfl, rfl⟩)
 go_ret
 exact ⟨rfl, rfl⟩
set_option maxRecDepth 100000 in
theorem streamsFit_any (n : Int) (w : World) : Calls Tryz.prog 175 #[.int .i64 n] w fun e w' => e = .returned (.bool (inB n 0 32)) ∧ w = w' := by
 have HA := Lib.hid (among_any n 0 32)
 obtain ⟨r, hr⟩ : ∃ r, r = inB n 0 32 := ⟨_, rfl⟩
 rw [← hr] at HA ⊢
 clear hr
 go_enter Tryz.func175, Tryz.ntmps175
 go_wp2_with (go_at_call 141; refine (HA.out _).mono ?_; rintro e w1 ⟨rfl, rfl⟩)
 go_ret
 exact ⟨rfl, rfl⟩
set_option maxRecDepth 100000 in
theorem permFits_any (n : Int) (w : World) : Calls Tryz.prog 176 #[.int .i64 n] w fun e w' => e = .returned (.bool (inB n 0 7)) ∧ w = w' := by
 have HA := Lib.hid (among_any n 0 7)
 obtain ⟨r, hr⟩ : ∃ r, r = inB n 0 7 := ⟨_, rfl⟩
 rw [← hr] at HA ⊢
 clear hr
 go_enter Tryz.func176, Tryz.ntmps176
 go_wp2_with (go_at_call 141; refine (HA.out _).mono ?_; rintro e w1 ⟨rfl, rfl⟩)
 go_ret
 exact ⟨rfl, rfl⟩
set_option maxRecDepth 100000 in
theorem shortFits_any (n : Int) (w : World) : Calls Tryz.prog 177 #[.int .i64 n] w fun e w' => e = .returned (.bool (inB n 0 65535)) ∧ w = w' := by
 have HA := Lib.hid (among_any n 0 65535)
 obtain ⟨r, hr⟩ : ∃ r, r = inB n 0 65535 := ⟨_, rfl⟩
 rw [← hr] at HA ⊢
 clear hr
 go_enter Tryz.func177, Tryz.ntmps177
 go_wp2_with (go_at_call 141; refine (HA.out _).mono ?_; rintro e w1 ⟨rfl, rfl⟩)
 go_ret
 exact ⟨rfl, rfl⟩
theorem sign_of (n : Nat) (h : n < 256) : sign (UInt8.ofNat n) = (decide (97 ≤ n) && decide (n ≤ 122) || decide (48 ≤ n) && decide (n ≤ 57) || decide (n = 45)) := by
 revert n; decide +kernel
theorem sign_eq (c : UInt8) : sign c = (decide (97 ≤ c.toNat) && decide (c.toNat ≤ 122) || decide (48 ≤ c.toNat) && decide (c.toNat ≤ 57) || decide (c.toNat = 45)) := by
 have := sign_of c.toNat c.toNat_lt
 rwa [UInt8.ofNat_toNat] at this
theorem sign_cases (c : UInt8) : (97 ≤ c.toNat ∧ c.toNat ≤ 122 ∧ sign c = true) ∨ (48 ≤ c.toNat ∧ c.toNat ≤ 57 ∧ sign c = true) ∨ (c.toNat = 45 ∧ sign c = true) ∨ (122 < c.toNat ∧ sign c = false) ∨ (57 < c.toNat ∧ c.toNat < 97 ∧ sign c = false) ∨ (c.toNat < 48 ∧ c.toNat ≠ 45 ∧ sign c = false) := by
 have h := sign_eq c
 have := c.toNat_lt
 by_cases h1 : 97 ≤ c.toNat
 · by_cases h2 : c.toNat ≤ 122
   · exact .inl ⟨h1, h2, by rw [h]; simp [h1, h2]⟩
   · refine .inr (.inr (.inr (.inl ⟨by omega, ?_⟩)))
     rw [h]; simp; omega
 · by_cases h3 : 48 ≤ c.toNat
   · by_cases h4 : c.toNat ≤ 57
     · exact .inr (.inl ⟨h3, h4, by rw [h]; simp [h3, h4]⟩)
     · refine .inr (.inr (.inr (.inr (.inl ⟨by omega, by omega, ?_⟩))))
       rw [h]; simp; omega
   · by_cases h5 : c.toNat = 45
     · exact .inr (.inr (.inl ⟨h5, by rw [h]; simp [h5]⟩))
     · refine .inr (.inr (.inr (.inr (.inr ⟨by omega, h5, ?_⟩))))
       rw [h]; simp; omega
set_option maxRecDepth 100000 in
theorem sign_any (c : UInt8) (w : World) : Calls Tryz.prog 169 #[.int .u8 (c.toNat : Int)] w fun e w' => e = .returned (.bool (sign c)) ∧ w = w' := by
 obtain ⟨n, hn⟩ : ∃ n, n = c.toNat := ⟨_, rfl⟩
 have hc := sign_cases c
 rw [← hn] at hc ⊢
 clear hn
 rcases hc with ⟨h1, h2, h⟩ | ⟨h1, h2, h⟩ | ⟨h1, h⟩ | ⟨h1, h⟩ | ⟨h1, h2, h⟩ | ⟨h1, h2, h⟩
 all_goals
   rw [h]
   clear h
   try subst h1
 · have d1 : decide ((97 : Int) ≤ n) = true := by simp; omega
   have d2 : decide ((n : Int) ≤ 122) = true := by simp; omega
   clear h1 h2
   go_enter Tryz.func169, Tryz.ntmps169
   go_wp2
   go_ret
   exact ⟨rfl, rfl⟩
 · have d1 : decide ((97 : Int) ≤ n) = false := by simp; omega
   have d2 : decide ((48 : Int) ≤ n) = true := by simp; omega
   have d3 : decide ((n : Int) ≤ 57) = true := by simp; omega
   clear h1 h2
   go_enter Tryz.func169, Tryz.ntmps169
   go_wp2
   go_ret
   exact ⟨rfl, rfl⟩
 · go_enter Tryz.func169, Tryz.ntmps169
   go_wp2
   go_ret
   exact ⟨rfl, rfl⟩
 · have d1 : decide ((97 : Int) ≤ n) = true := by simp; omega
   have d2 : decide ((n : Int) ≤ 122) = false := by simp; omega
   have d3 : decide ((48 : Int) ≤ n) = true := by simp; omega
   have d4 : decide ((n : Int) ≤ 57) = false := by simp; omega
   have d5 : ((n : Int) == 45) = false := by simp; omega
   clear h1
   go_enter Tryz.func169, Tryz.ntmps169
   go_wp2
   go_ret
   exact ⟨rfl, rfl⟩
 · have d1 : decide ((97 : Int) ≤ n) = false := by simp; omega
   have d3 : decide ((48 : Int) ≤ n) = true := by simp; omega
   have d4 : decide ((n : Int) ≤ 57) = false := by simp; omega
   have d5 : ((n : Int) == 45) = false := by simp; omega
   clear h1 h2
   go_enter Tryz.func169, Tryz.ntmps169
   go_wp2
   go_ret
   exact ⟨rfl, rfl⟩
 · have d1 : decide ((97 : Int) ≤ n) = false := by simp; omega
   have d3 : decide ((48 : Int) ≤ n) = false := by simp; omega
   have d5 : ((n : Int) == 45) = false := by simp; omega
   clear h1 h2
   go_enter Tryz.func169, Tryz.ntmps169
   go_wp2
   go_ret
   exact ⟨rfl, rfl⟩
end Go.Proofs.YtkaipknkjocfiaaGreat
namespace Go.Proofs.YtkaipknkjocfiaaGreat
open Go.RowKit
theorem strOf_size (s : By) : (strOf s).size = s.length := by simp [strOf, ByteArray.size]
theorem all_take_succ (s : By) (k : Nat) (hk : k < s.length) : (s.take (k + 1)).all sign = ((s.take k).all sign && sign s[k]) := by
 rw [List.take_succ_eq_append_getElem hk, List.all_append]; simp
theorem all_take_no (s : By) (k : Nat) (h : (s.take k).all sign = false) : nameOk s = false := by
 unfold nameOk
 have : s.all sign = false := by
  rw [← List.take_append_drop k s, List.all_append, h]; rfl
 rw [this]; rfl
theorem nameOk_all (s : By) (h : s.all sign = true) : nameOk s = inB (s.length : Int) 1 16 := by
 unfold nameOk inB
 rw [h, Bool.true_and, ← Bool.decide_and]
 congr 1
 simp only [eq_iff_iff]
 omega
set_option maxRecDepth 100000 in
set_option maxHeartbeats 1000000 in
theorem name_any (s : By) (hl : s.length ≤ 1000000) (w : World) : Calls Tryz.prog 142 #[.string (strOf s)] w fun e w' => e = .returned (.bool (nameOk s)) ∧ w = w' := by
 obtain ⟨S, hS⟩ : ∃ S, S = strOf s := ⟨_, rfl⟩
 rw [← hS]
 have hsz : S.size = s.length := by rw [hS, strOf_size]
 have HS := Lib.hid hS
 have HZ := Lib.hid hsz
 clear hS
 go_enter Tryz.func142, Tryz.ntmps142
 go_wp2
 go_loopw [3, 6] (fun _ j W => ∃ k : Nat, k ≤ s.length ∧ j = .int .i64 k ∧ Hid ((s.take k).all sign = true) ∧ w = W) (fun _ i _ => s.length - (intOf i).toNat)
 case atStart => exact ⟨0, Nat.zero_le _, rfl, Lib.hid (by simp), rfl⟩
 case round =>
  obtain ⟨k, hk, rfl, HA, rfl⟩ := hrel
  by_cases hlt : k < s.length
  · have hkI : (k : Int) < (s.length : Int) := by omega
    have hkS : k < S.size := by omega
    have hc : S[k] = s[k] := by
      have h0 := HS.out
      subst h0
      rfl
    have HG := Lib.hid (sign_any (S[k]'hkS))
    have hall := all_take_succ s k hlt
    rw [HA.out, Bool.true_and] at hall
    rw [hc] at HG
    rw [← hc] at HG
    obtain ⟨r, hr⟩ : ∃ r, r = sign (S[k]'hkS) := ⟨_, rfl⟩
    rw [← hc, ← hr] at hall
    rw [← hr] at HG
    clear hr hc
    cases r
    · have HNO := Lib.hid (all_take_no s (k + 1) hall)
      clear hall
      go_wp2_with (go_at_call 169; refine (HG.out _).mono ?_; rintro e w1 ⟨rfl, rfl⟩)
      go_ret
      exact ⟨by rw [HNO.out]; rfl, rfl⟩
    · have HYE := Lib.hid hall
      clear hall
      go_wp2_with (go_at_call 169; refine (HG.out _).mono ?_; rintro e w1 ⟨rfl, rfl⟩)
      go_roundw
      case rel => exact ⟨k + 1, by omega, by go_num, HYE, trivial⟩
      case measure => simp [intOf]; omega
  · obtain rfl : k = s.length := by omega
    have hall := HA.out
    rw [List.take_length] at hall
    have HN := Lib.hid (nameOk_all s hall)
    have HAM := Lib.hid (among_any (s.length : Int) 1 16)
    obtain ⟨r, hr⟩ : ∃ r, r = nameOk s := ⟨_, rfl⟩
    rw [← hr] at HN
    rw [← HN.out] at HAM
    have HR := Lib.hid hr
    clear hall hr hlt HN
    go_wp2_with (go_at_call 141; refine (HAM.out _).mono ?_; rintro e w1 ⟨rfl, rfl⟩)
    go_ret
    exact ⟨by rw [← HR.out]; rfl, rfl⟩
end Go.Proofs.YtkaipknkjocfiaaGreat
namespace Go.Proofs.YtkaipknkjocfiaaGreat
open Go.RowKit
structure Trim (l : By) (m : Nat) : Prop where
 le : m ≤ l.length
 zeros : ∀ j (h : j < l.length), m ≤ j → l[j] = 0
 last : ∀ (h : 0 < m), l[m - 1]'(by omega) ≠ 0
theorem Trim.drop {l : By} {m : Nat} (h : Trim l m) : (l.drop m).all (fun c => c == 0) = true := by
 rw [List.all_eq_true]
 intro x hx
 obtain ⟨j, hj, rfl⟩ := List.getElem_of_mem hx
 have hj2 : m + j < l.length := by simp at hj; omega
 have := h.zeros (m + j) hj2 (by omega)
 simp [this]
end Go.Proofs.YtkaipknkjocfiaaGreat
namespace Go.Proofs.YtkaipknkjocfiaaGreat
theorem be_map : ∀ m n, be m n = (List.range m).map fun i => UInt8.ofNat (n / 2 ^ (8 * (m - 1 - i)) % 256)
 | 0, _ => rfl
 | m + 1, n => by
  rw [be, be_map m (n / 256), List.range_succ, List.map_append, List.map_cons, List.map_nil]
  have e0 : n / 2 ^ (8 * (m + 1 - 1 - m)) % 256 = n % 256 := by
   rw [show 8 * (m + 1 - 1 - m) = 0 by omega, Nat.pow_zero, Nat.div_one]
  rw [e0]
  congr 1
  refine List.map_congr_left fun i hi => ?_
  have hi : i < m := List.mem_range.1 hi
  rw [show 8 * (m + 1 - 1 - i) = 8 + 8 * (m - 1 - i) by omega, Nat.pow_add, ← Nat.div_div_eq_div_mul]
end Go.Proofs.YtkaipknkjocfiaaGreat
namespace Go.Proofs.YtkaipknkjocfiaaGreat
open Go.RowKit
section
variable {w : World} {g c at_ q : Nat} {A : Option Addr} {b : By}
end
end Go.Proofs.YtkaipknkjocfiaaGreat
namespace Go.Proofs.YtkaipknkjocfiaaGreat
open Go.RowKit
attribute [local go_sem ↓ high] zeroKeyB
section
variable {P : Program} {w : World} {ops : Array Oper} {rest : List Oper} {o : Oper} {a : Act} {Q : Exit → Act → World → Prop}
theorem run_load_q {n : Nat} {f : Nat → Value} {p : Addr} {ty : TypeId} {d : TypeDesc} (h : ∀ i, i < n → w.cell? (p.add i) = some (f i)) (hu : P.underlying ty = some d)
  (hd : (match d with | .struct _ | .array _ _ => true | _ => false) = true) (hi : (P.info? ty).map (·.size) = some n) :
  (loadVar ty p).run P w = .ok (.agg (vec n f)) w := by
 have hl : (loadCells p (vec n f).toList.length).run P w = .ok (vec n f).toList.toArray w :=
  run_loadCells_list (P := P) w p (vec n f).toList (fun j v hv => by
   have hj : j < n := by
    have := (List.getElem?_eq_some_iff.1 hv).1
    simpa [vec] using this
   have hv2 : (vec n f)[j]? = some v := by simpa using hv
   rw [vec_at n f j hj] at hv2
   rw [h j hj, hv2])
 cases hq : P.info? ty with
 | none => simp [hq] at hi
 | some i =>
  have hs : i.size = n := by simpa [hq] using hi
  have hagg : (isAgg ty).run P w = .ok true w := by
   unfold isAgg
   rw [Sem.run_bind, run_underlying hu w]
   cases d <;> simp_all
  have hz : (vec n f).size = n := vec_size n f
  simp only [Array.length_toList, Array.toArray_toList] at hl
  rw [hz] at hl
  simp [loadVar, Sem.run_bind, hagg, sizeOf, typeInfo, hq, hs, hl]
theorem exec_load_q (ty : TypeId) (x : Operand) (ho : o.op = .load ty x) (p : Addr) (hx : a.eval x = .pointer (some p)) (v : Value)
  (hl : (loadVar ty p).run P w = .ok v w) : (execOp a.eval o).run P w = .ok (.value v) w := by
 unfold execOp
 simp only [ho, hx, Instr.loadAt, Instr.sureAddr, Sem.run_bind, Sem.run_pure, Result.andThen_ok, hl]
theorem wl_load_q (hgd : o.guard = none) (ty : TypeId) (x : Operand) (ho : o.op = .load ty x) (p : Addr) (hx : a.eval x = .pointer (some p)) (v : Value)
  (hl : (loadVar ty p).run P w = .ok v w) (h : wpList P ops Q rest (a.put o.dst v) w) : wpList P ops Q (o :: rest) a w :=
 wpList_plain hgd fun _ hK => by
  unfold Oper.wp
  rw [exec_load_q ty x ho p hx v hl]
  exact hK _ _ h
end
theorem Save.on {g n : Nat} {V Y Z : World} (h : Save g V Y) (hd : Below n Y Z) (hn : V.heap.size ≤ n) : Save g V Z :=
 ⟨hd.os.trans h.os, hd.tape.trans h.tape, hd.output.trans h.output, Nat.le_trans h.size hd.size, fun k hk hkr => (hd.block k (by omega)).trans (h.block k hk hkr)⟩
theorem Save.left {g : Nat} {w V W : World} (h1 : Below w.heap.size w V) (h2 : Save g V W) : Save g w W := ⟨h2.os.trans h1.os, h2.tape.trans h1.tape, h2.output.trans h1.output, Nat.le_trans h1.size h2.size, fun k hk hg => (h2.block k (Nat.lt_of_lt_of_le hk h1.size) hg).trans (h1.block k hk)⟩
end Go.Proofs.YtkaipknkjocfiaaGreat
namespace Go.Proofs.YtkaipknkjocfiaaGreat
open Go.RowKit
def winE (x : Wi) : Nat → Value
 | 0 => .int .u64 x.ipa
 | 1 => .int .u64 x.pa
 | 2 => .int .u64 x.size
 | _ => .int .i64 x.perm
def devE (x : De) : Nat → Value
 | 0 => .int .u64 x.ipa
 | 1 => .int .u64 x.pa
 | _ => .int .u64 x.size
def irqE (x : Ir) : Nat → Value
 | 0 => .int .i64 x.number
 | 1 => .int .i64 x.cpu
 | _ => .bool x.edge
def endE (x : En) : Nat → Value
 | 0 => .int .i64 x.guest
 | 1 => .int .i64 x.perm
 | _ => .int .u64 x.ipa
def chE (x : Ch) : Nat → Value
 | 0 => .int .u64 x.pa
 | 1 => .int .u64 x.size
 | i + 2 => if i < 3 then endE x.a i else endE x.b (i - 3)
def twoE (a b : En) : Nat → Value := fun i => if i < 3 then endE a i else endE b (i - 3)
def numE (x : Int) : Nat → Value := fun _ => .int .u32 x
theorem winE_one (x : Wi) (n : Nat) : ∀ i, i < n → (winE x i).oneCell' = true := by
 intro i _; match i with | 0 => rfl | 1 => rfl | 2 => rfl | _ + 3 => rfl
theorem devE_one (x : De) (n : Nat) : ∀ i, i < n → (devE x i).oneCell' = true := by
 intro i _; match i with | 0 => rfl | 1 => rfl | _ + 2 => rfl
theorem irqE_one (x : Ir) (n : Nat) : ∀ i, i < n → (irqE x i).oneCell' = true := by
 intro i _; match i with | 0 => rfl | 1 => rfl | _ + 2 => rfl
theorem endE_one (x : En) (n : Nat) : ∀ i, i < n → (endE x i).oneCell' = true := by
 intro i _; match i with | 0 => rfl | 1 => rfl | _ + 2 => rfl
theorem chE_one (x : Ch) (n : Nat) : ∀ i, i < n → (chE x i).oneCell' = true := by
 intro i _
 match i with
 | 0 => rfl
 | 1 => rfl
 | i + 2 =>
  show (if i < 3 then endE x.a i else endE x.b (i - 3)).oneCell' = true
  split
  · exact endE_one x.a (i + 1) i (Nat.lt_succ_self _)
  · exact endE_one x.b (i - 3 + 1) (i - 3) (Nat.lt_succ_self _)
def zWi : Wi := ⟨0, 0, 0, 0⟩
def zDe : De := ⟨0, 0, 0⟩
def zIr : Ir := ⟨0, 0, false⟩
def zEn : En := ⟨0, 0, 0⟩
def zCh : Ch := ⟨0, 0, zEn, zEn⟩
theorem infoWi : (Tryz.prog.info? 67).map (·.size) = some 4 := by kernel_rfl
theorem infoDe : (Tryz.prog.info? 83).map (·.size) = some 3 := by kernel_rfl
theorem infoIr : (Tryz.prog.info? 65).map (·.size) = some 3 := by kernel_rfl
theorem infoEn : (Tryz.prog.info? 44).map (·.size) = some 3 := by kernel_rfl
theorem infoCh : (Tryz.prog.info? 47).map (·.size) = some 8 := by kernel_rfl
theorem zeroWi (w : World) : (zeroValue 67).run Tryz.prog w = .ok (.agg (vec 4 (winE zWi))) w :=
 (zero_of_info (P := Tryz.prog) (t := 67) (v := .agg (vec 4 (winE zWi))) (n := 4) (by kernel_rfl)).1 w
theorem zeroDe (w : World) : (zeroValue 83).run Tryz.prog w = .ok (.agg (vec 3 (devE zDe))) w :=
 (zero_of_info (P := Tryz.prog) (t := 83) (v := .agg (vec 3 (devE zDe))) (n := 3) (by kernel_rfl)).1 w
theorem zeroIr (w : World) : (zeroValue 65).run Tryz.prog w = .ok (.agg (vec 3 (irqE zIr))) w :=
 (zero_of_info (P := Tryz.prog) (t := 65) (v := .agg (vec 3 (irqE zIr))) (n := 3) (by kernel_rfl)).1 w
theorem zeroEn (w : World) : (zeroValue 44).run Tryz.prog w = .ok (.agg (vec 3 (endE zEn))) w :=
 (zero_of_info (P := Tryz.prog) (t := 44) (v := .agg (vec 3 (endE zEn))) (n := 3) (by kernel_rfl)).1 w
theorem zeroCh (w : World) : (zeroValue 47).run Tryz.prog w = .ok (.agg (vec 8 (chE zCh))) w :=
 (zero_of_info (P := Tryz.prog) (t := 47) (v := .agg (vec 8 (chE zCh))) (n := 8) (by kernel_rfl)).1 w
section
variable {α β : Type} {b : By} {p q r : Nat} {e : Nat × Nat}
end
end Go.Proofs.YtkaipknkjocfiaaGreat
namespace Go.Proofs.YtkaipknkjocfiaaGreat
open Go.RowKit
end Go.Proofs.YtkaipknkjocfiaaGreat
namespace Go.Proofs.YtkaipknkjocfiaaGreat
open Go.RowKit
end Go.Proofs.YtkaipknkjocfiaaGreat
namespace Go.Proofs.YtkaipknkjocfiaaGreat
open Go.RowKit
attribute [local go_sem ↓ high] zeroWi zeroDe zeroIr zeroEn zeroCh
end Go.Proofs.YtkaipknkjocfiaaGreat
