/- Merged: Ones, Pow, Path, RPath. -/
import Derived.Test.YtmhdhhdhnkoocaaDoorWk
/- math/bits.OnesCount of a small number; ltree.full. -/
namespace Go.Proofs.YtmhdhhdhnkoocaaDoor
open Go.RowKit

def o1 (n : Int) : Int := IntKind.u64.wrap (bits .and .u64 (n / 2) 6148914691236517205 + bits .and .u64 n 6148914691236517205)
def o2 (a : Int) : Int := IntKind.u64.wrap (bits .and .u64 (a / 4) 3689348814741910323 + bits .and .u64 a 3689348814741910323)
def o3 (b : Int) : Int := bits .and .u64 (IntKind.u64.wrap (b / 16 + b)) 1085102592571150095
def o4 (c : Int) : Int := IntKind.u64.wrap (c + c / 256)
def o5 (d : Int) : Int := IntKind.u64.wrap (d + d / 65536)
def o6 (e : Int) : Int := IntKind.u64.wrap (e + e / 4294967296)
/-- What OnesCount64 answers. -/
def onesE (n : Nat) : Int := bits .and .i64 (wrap64 (o6 (o5 (o4 (o3 (o2 (o1 (n : Int)))))))) 127
def pow2 (n : Nat) : Bool := n == 1 || n == 2 || n == 4 || n == 8 || n == 16 || n == 32
theorem ones_small (n : Nat) (hn : n ≤ 40) : (onesE n == 1) = pow2 n := by
  have hall : ∀ m : Fin 41, (onesE m.val == 1) = pow2 m.val := by decide +kernel
  exact hall ⟨n, by omega⟩
set_option maxHeartbeats 1000000 in
set_option maxRecDepth 100000 in
theorem ones64_any (n : Nat) (_hn : n ≤ 40) (w : World) :
    Calls Tryd.prog 41 #[.int .u64 (n : Int)] w fun e w' => e = .returned (.int .i64 (onesE n)) ∧ w' = w := by
  go_enter Tryd.func41, Tryd.ntmps41
  go_upto_region 2 with fail
  obtain ⟨a, ha⟩ : ∃ a, a = o1 (n : Int) := ⟨_, rfl⟩
  rw [show IntKind.u64.wrap (bits .and .u64 ((n : Int) / 2) 6148914691236517205 + bits .and .u64 (n : Int) 6148914691236517205) = a from ha.symm]
  have Ha := Lib.hid ha
  clear ha
  go_upto_region 3 with fail
  obtain ⟨b, hb⟩ : ∃ b, b = o2 a := ⟨_, rfl⟩
  rw [show IntKind.u64.wrap (bits .and .u64 (a / 4) 3689348814741910323 + bits .and .u64 a 3689348814741910323) = b from hb.symm]
  have Hb := Lib.hid hb
  clear hb
  go_upto_region 4 with fail
  obtain ⟨c, hc⟩ : ∃ c, c = o3 b := ⟨_, rfl⟩
  rw [show bits .and .u64 (IntKind.u64.wrap (b / 16 + b)) 1085102592571150095 = c from hc.symm]
  have Hc := Lib.hid hc
  clear hc
  go_upto_region 5 with fail
  obtain ⟨d, hd⟩ : ∃ d, d = o4 c := ⟨_, rfl⟩
  rw [show IntKind.u64.wrap (c + c / 256) = d from hd.symm]
  have Hd := Lib.hid hd
  clear hd
  go_upto_region 6 with fail
  obtain ⟨f, hf⟩ : ∃ f, f = o5 d := ⟨_, rfl⟩
  rw [show IntKind.u64.wrap (d + d / 65536) = f from hf.symm]
  have Hf := Lib.hid hf
  clear hf
  go_upto_region 7 with fail
  obtain ⟨g, hg⟩ : ∃ g, g = o6 f := ⟨_, rfl⟩
  rw [show IntKind.u64.wrap (f + f / 4294967296) = g from hg.symm]
  have Hg := Lib.hid hg
  clear hg
  go_wp2
  go_ret
  refine ⟨?_, rfl⟩
  unfold onesE
  rw [← Ha.out, ← Hb.out, ← Hc.out, ← Hd.out, ← Hf.out, ← Hg.out]
  rfl
set_option maxHeartbeats 1000000 in
theorem ones_any (n : Nat) (hn : n ≤ 40) (w : World) :
    Calls Tryd.prog 32 #[.int .u64 (n : Int)] w fun e w' => e = .returned (.int .i64 (onesE n)) ∧ w' = w := by
  obtain ⟨x, hx⟩ : ∃ x, x = onesE n := ⟨_, rfl⟩
  have HO : Hid (∀ W, Calls Tryd.prog 41 #[.int .u64 (n : Int)] W fun e w' => e = .returned (.int .i64 x) ∧ w' = W) := Lib.hid fun W => by rw [hx]; exact ones64_any n hn W
  rw [← hx]
  clear hx
  go_enter Tryd.func32, Tryd.ntmps32
  go_wp2_with (go_at_call 41; refine (HO.out _).mono ?_; rintro e w1 ⟨rfl, rfl⟩)
  go_ret
  exact ⟨rfl, rfl⟩
set_option maxHeartbeats 1000000 in
set_option maxRecDepth 100000 in
theorem full_any (n : Nat) (hn : n ≤ 40) (w : World) :
    Calls Tryd.prog 22 #[.int .i64 (n : Int)] w fun e w' => e = .returned (.bool (pow2 n)) ∧ w' = w := by
  have hE := ones_small n hn
  obtain ⟨b, hb⟩ : ∃ b, b = pow2 n := ⟨_, rfl⟩
  obtain ⟨x, hx⟩ : ∃ x, x = onesE n := ⟨_, rfl⟩
  have HO : Hid (∀ W, Calls Tryd.prog 32 #[.int .u64 (n : Int)] W fun e w' => e = .returned (.int .i64 x) ∧ w' = W) := Lib.hid fun W => by rw [hx]; exact ones_any n hn W
  rw [← hb, ← hx] at hE
  rw [← hb]
  have h1 : (n : Int) ≤ 1024 := by omega
  clear hb hx
  go_enter Tryd.func22, Tryd.ntmps22
  go_wp2_with (go_at_call 32; refine (HO.out _).mono ?_; rintro e w1 ⟨rfl, rfl⟩)
  go_ret
  exact ⟨rfl, rfl⟩
end Go.Proofs.YtmhdhhdhnkoocaaDoor
/- Trees of 2^h leaves: plain mathematics. -/
namespace Go.Proofs.YtmhdhhdhnkoocaaDoor
open Go.RowKit

theorem raise_get (R : Nat → Nd → Nd → Nd) (l : List Nd) (q : Nat) (hq : q < l.length / 2) (hl : l.length ≤ 1000000) : (raise R l).getD q zb = R q (l.getD (2 * q) zb) (l.getD (2 * q + 1) zb) := by
  unfold raise
  rw [List.getD_eq_getElem?_getD, List.getElem?_append_left (by rw [madeP_length, prs_length]; exact hq)]
  unfold madeP prs
  rw [List.map_map, List.getElem?_map, List.getElem?_range hq]
  simp only [Option.map_some, Option.getD_some, Function.comp]
  rw [prOf_val (by omega)]
theorem levs_pow (R : Nat → Nat → Nd → Nd → Nd) (l : List Nd) (H : Nat) (h : l.length = 2 ^ H) : ∀ k, k ≤ H → (levs R l k).length = 2 ^ (H - k)
  | 0, _ => by simpa [levs] using h
  | k + 1, hk => by
    rw [levs_succ, raise_length, levs_pow R l H h k (by omega), show H - k = (H - (k + 1)) + 1 by omega, Nat.pow_succ]
    omega
theorem pow2_exp (n : Nat) (h : pow2 n = true) : ∃ H, H ≤ 5 ∧ n = 2 ^ H := by
  simp only [pow2, Bool.or_eq_true, beq_iff_eq] at h
  rcases h with ((((h | h) | h) | h) | h) | h
  · exact ⟨0, by omega, h⟩
  · exact ⟨1, by omega, h⟩
  · exact ⟨2, by omega, h⟩
  · exact ⟨3, by omega, h⟩
  · exact ⟨4, by omega, h⟩
  · exact ⟨5, by omega, h⟩
theorem xor1 (i : Nat) (h : i < 64) : i ^^^ 1 = if i % 2 = 0 then i + 1 else i - 1 := by
  have hall : ∀ m : Fin 64, m.val ^^^ 1 = if m.val % 2 = 0 then m.val + 1 else m.val - 1 := by decide
  exact hall ⟨i, h⟩
theorem xor1_u32 (i : Nat) (h : i < 64) : bits .xor .u32 (i : Int) 1 = ((i ^^^ 1 : Nat) : Int) := by
  have hall : ∀ m : Fin 64, bits .xor .u32 ((m.val : Nat) : Int) 1 = ((m.val ^^^ 1 : Nat) : Int) := by decide +kernel
  exact hall ⟨i, h⟩
/-- The neighbours on the way of leaf idx, of the first k heights. -/
def authF (R : Nat → Nat → Nd → Nd → Nd) (l : List Nd) (idx k : Nat) : List Nd := (List.range k).map fun j => (levs R l j).getD (idx / 2 ^ j ^^^ 1) zb
theorem authF_succ (R : Nat → Nat → Nd → Nd → Nd) (l : List Nd) (idx k : Nat) : authF R l idx (k + 1) = authF R l idx k ++ [(levs R l k).getD (idx / 2 ^ k ^^^ 1) zb] := by simp [authF, List.range_succ]
theorem authF_length (R : Nat → Nat → Nd → Nd → Nd) (l : List Nd) (idx k : Nat) : (authF R l idx k).length = k := by simp [authF]
/-- What a Path tells: the height of n leaves. -/
def hgt (n : Nat) : Nat := if n ≤ 1 then 0 else if n ≤ 2 then 1 else if n ≤ 4 then 2 else if n ≤ 8 then 3 else if n ≤ 16 then 4 else 5
theorem hgt_pow (H : Nat) (h : H ≤ 5) : hgt (2 ^ H) = H := by
  have hall : ∀ m : Fin 6, hgt (2 ^ m.val) = m.val := by decide
  exact hall ⟨H, by omega⟩
/-- Is there such a leaf in such a tree? (of 40 leaves at most) -/
def isPath (n idx : Nat) : Bool := pow2 n && decide (idx < n)
def pathA (l : List Nd) (idx : Nat) (seed : Nat → UInt8) : List Nd := if isPath l.length idx = true then authF (joinR seed 2 0) l idx (hgt l.length) else []
def pathR (l : List Nd) (idx : Nat) (seed : Nat → UInt8) : Nd := if isPath l.length idx = true then topF (joinR seed 2 0) l else zb
theorem idx_lt {idx H k : Nat} (h : idx < 2 ^ H) (hk : k ≤ H) : idx / 2 ^ k < 2 ^ (H - k) := by
  rw [Nat.div_lt_iff_lt_mul (Nat.pow_pos (by decide)), ← Nat.pow_add, show H - k + k = H by omega]
  exact h
theorem xor_lt {i H : Nat} (h : i < 2 ^ H) (hH : 1 ≤ H) (hi : i < 64) : i ^^^ 1 < 2 ^ H := by
  have he : 2 ^ H % 2 = 0 := by rw [show H = (H - 1) + 1 by omega, Nat.pow_succ]; omega
  rw [xor1 i hi]
  split <;> omega
/-- Root on the way is the node of each height. -/
theorem root_level (R : Nat → Nat → Nd → Nd → Nd) (l : List Nd) (H idx : Nat) (h : l.length = 2 ^ H) (hH : H ≤ 5) (hi : idx < l.length) : ∀ k, k ≤ H → rootK R idx (authF R l idx H) (l.getD idx zb) k = (levs R l k).getD (idx / 2 ^ k) zb
  | 0, _ => by simp [rootK, levs]
  | k + 1, hk => by
    have ih := root_level R l H idx h hH hi k (by omega)
    have hlen := levs_pow R l H h k (by omega)
    have hlk : idx / 2 ^ k < 2 ^ (H - k) := idx_lt (by omega) (by omega)
    have hp5 : 2 ^ (H - k) ≤ 2 ^ 5 := Nat.pow_le_pow_right (by decide) (by omega)
    have hp1 : 2 ^ (H - k) = 2 * 2 ^ (H - (k + 1)) := by rw [show H - k = (H - (k + 1)) + 1 by omega, Nat.pow_succ]; omega
    have hd : idx / 2 ^ (k + 1) = idx / 2 ^ k / 2 := by rw [Nat.pow_succ, Nat.div_div_eq_div_mul]
    have ha : (authF R l idx H).getD k zb = (levs R l k).getD (idx / 2 ^ k ^^^ 1) zb := by
      unfold authF
      rw [List.getD_eq_getElem?_getD, List.getElem?_map, List.getElem?_range (by omega)]
      rfl
    rw [rootK_succ, ih, ha, hd, levs_succ]
    obtain ⟨i, hi'⟩ : ∃ i, i = idx / 2 ^ k := ⟨_, rfl⟩
    rw [← hi'] at hlk ⊢
    rw [raise_get _ _ _ (by rw [hlen, hp1]; omega) (by rw [hlen]; omega), xor1 i (by omega)]
    by_cases hb : i % 2 = 1
    · rw [if_pos hb, if_neg (by omega), show 2 * (i / 2) = i - 1 by omega, show i - 1 + 1 = i by omega]
    · rw [if_neg hb, if_pos (by omega), show 2 * (i / 2) = i by omega]
theorem root_path (l : List Nd) (idx : Nat) (seed : Nat → UInt8) (h : isPath l.length idx = true) : rootD (l.getD idx zb) idx (pathA l idx seed) seed = pathR l idx seed := by
  have h' := h
  unfold isPath at h'
  simp only [Bool.and_eq_true, decide_eq_true_eq] at h'
  obtain ⟨H, hH, e⟩ := pow2_exp _ h'.1
  have hh : hgt l.length = H := by rw [e]; exact hgt_pow H hH
  unfold pathA pathR rootD
  rw [if_pos h, if_pos h, hh, authF_length, if_pos (by omega), root_level (joinR seed 2 0) l H idx e hH h'.2 H (Nat.le_refl _)]
  have h1 : (levs (joinR seed 2 0) l H).length = 1 := by rw [levs_pow _ l H e H (Nat.le_refl _)]; simp
  rw [topF_at (joinR seed 2 0) l H h1 (fun j hj => by rw [levs_pow _ l H e j (by omega)]; exact Nat.one_lt_two_pow (by omega)), Nat.div_eq_of_lt (by omega)]
end Go.Proofs.YtmhdhhdhnkoocaaDoor
/- ltree.Path. -/
namespace Go.Proofs.YtmhdhhdhnkoocaaDoor
open Go.RowKit Go.Shelf
attribute [local go_sem] Oper.semAt_some
attribute [local go_sem ↓ high] zeroV26

theorem results_tct {fn : Func} {p q r : Tmp} {ty : TypeId} {P : Program} {w : World} (h : fn.results = #[.tmp p, .cell q ty, .tmp r]) (tmps : Array Value) (g : Nat) (v : Value)
    (ha : tmps.getD q undef = .pointer (some ⟨g, 0, none⟩)) (hl : (loadVar ty ⟨g, 0, none⟩).run P w = .ok v w) : (results fn tmps).run P w = .ok (.tuple #[tmps.getD p undef, v, tmps.getD r undef]) w := by
  have hp' : tmps[q]?.getD undef = .pointer (some ⟨g, 0, none⟩) := by simpa using ha
  simp [results, h, hp', asAddr, hl]
theorem owns_low {w : World} {base base' size n : Nat} {e : TypeId} {v : Value} {xs : List Value} (h : w.ownsRow base e size v n xs) (hb : base' ≤ base) : w.ownsRow base' e size v n xs := by
  refine ⟨h.1, ?_⟩
  rcases h.2 with h2 | ⟨g, cap, cur, hv, hg, r⟩
  · exact Or.inl h2
  · exact Or.inr ⟨g, cap, cur, hv, Nat.le_trans hb hg, r⟩
theorem owns_block {w w' : World} {base size n : Nat} {e : TypeId} {v : Value} {xs : List Value} (h : w.ownsRow base e size v n xs) (hk : ∀ g, base ≤ g → g < w.heap.size → w'.heap[g]? = w.heap[g]?) : w'.ownsRow base e size v n xs := by
  refine ⟨h.1, ?_⟩
  rcases h.2 with h2 | ⟨g, cap, cur, hv, hg, hh, r⟩
  · exact Or.inl h2
  · exact Or.inr ⟨g, cap, cur, hv, hg, (hk g hg (Array.getElem?_eq_some_iff.1 hh).1).trans hh, r⟩
theorem wpIn_region_held_in {n lq : Nat} {P : Program} {ops : Array Oper} {Q : Exit → Act → World → Prop} {S : World → Prop} {id : Nat} {a : Act} {w : World} (hm : P.follows .mixedOrders = true) (hd : noDefer ops = true) (hq : ¬ LetsOut Q) (hS : S w.drew)
    (h : ∀ Y, Y = w.drew → S Y → wpAnyH P .any ops Q S ops.size (Array.replicate ops.size false) a Y) : (Code.region id ops true).wpIn (Fence.wide.inRound lq) n P Q a w :=
  wpIn_region_any hm (any_round hd hq _ _ _ _ (wpAny_of_held _ _ _ _ (h _ rfl hS)))

def authS (idx : Nat) (a : List Nd) (x : Nat × List Nd) : List Nd := if x.2.length = 1 then a else a ++ [x.2.getD (idx / 2 ^ x.1 ^^^ 1) zb]
def rootS (r : Nd) (x : Nat × List Nd) : Nd := if x.2.length = 1 then x.2.getD 0 zb else r
def authOf (idx : Nat) (pre : List HX) : List Nd := (pre.map HX.key).foldl (authS idx) []
def rootOf (pre : List HX) : Nd := (pre.map HX.key).foldl rootS zb
theorem authOf_snoc (idx : Nat) (pre : List HX) (x : HX) : authOf idx (pre ++ [x]) = authS idx (authOf idx pre) x.key := by simp [authOf]
theorem rootOf_snoc (pre : List HX) (x : HX) : rootOf (pre ++ [x]) = rootS (rootOf pre) x.key := by simp [rootOf]
theorem authOf_le (idx : Nat) (pre : List HX) : (authOf idx pre).length ≤ pre.length := by
  unfold authOf
  have : ∀ (ks : List (Nat × List Nd)) (a : List Nd), (ks.foldl (authS idx) a).length ≤ a.length + ks.length := by
    intro ks
    induction ks with
    | nil => intro a; simp
    | cons x r ih =>
      intro a
      have h1 := ih (authS idx a x)
      have h2 : (authS idx a x).length ≤ a.length + 1 := by unfold authS; split <;> simp
      simp only [List.foldl_cons, List.length_cons]
      omega
  have h := this (pre.map HX.key) []
  simpa using h
theorem fold_keys (R : Nat → Nat → Nd → Nd → Nd) (l : List Nd) (idx : Nat) : ∀ k, (∀ j, j < k → 1 < (levs R l j).length) → (keysTo R l k).foldl (authS idx) [] = authF R l idx k ∧ (keysTo R l k).foldl rootS zb = zb
  | 0, _ => ⟨rfl, rfl⟩
  | k + 1, h => by
    have ih := fold_keys R l idx k (fun j hj => h j (by omega))
    have hk := h k (by omega)
    rw [keysTo_succ, List.foldl_append, List.foldl_append, ih.1, ih.2, authF_succ]
    simp only [List.foldl_cons, List.foldl_nil, authS, rootS]
    rw [if_neg (by omega), if_neg (by omega)]
    exact ⟨rfl, rfl⟩
theorem lev_lt {R : Nat → Nat → Nd → Nd → Nd} {l : List Nd} {H k : Nat} (e : l.length = 2 ^ H) (h1 : (levs R l k).length ≠ 1) (up : ∀ j, j < k → 1 < (levs R l j).length) : k < H := by
  have hH : (levs R l H).length = 1 := by rw [levs_pow R l H e H (Nat.le_refl _)]; simp
  rcases Nat.lt_trichotomy k H with h | h | h
  · exact h
  · subst h; exact absurd hH h1
  · have := up H h; omega
theorem all_path {R : Nat → Nat → Nd → Nd → Nd} {l : List Nd} {H idx : Nat} (e : l.length = 2 ^ H) {xs : List HX} (h : AllH R l xs) : authOf idx xs = authF R l idx H ∧ rootOf xs = topF R l := by
  have hpos : 0 < 2 ^ H := Nat.pow_pos (by decide)
  rcases h with ⟨rfl, _⟩ | ⟨k, hk, h1, h2⟩
  · simp at e; omega
  · have hkH : k = H := by
      have hH : (levs R l H).length = 1 := by rw [levs_pow R l H e H (Nat.le_refl _)]; simp
      rcases Nat.lt_trichotomy k H with h | h | h
      · have := levs_pow R l H e k (by omega)
        have h3 : 1 < 2 ^ (H - k) := Nat.one_lt_two_pow (by omega)
        omega
      · exact h
      · have := h2 H h; omega
    subst hkH
    have hf := fold_keys R l idx k h2
    unfold authOf rootOf
    rw [hk, keysTo_succ, List.foldl_append, List.foldl_append, hf.1, hf.2, topF_at R l k h1 h2]
    simp only [List.foldl_cons, List.foldl_nil, authS, rootS]
    rw [if_pos h1, if_pos h1]
    exact ⟨rfl, rfl⟩

/-- What Path keeps from round to round. -/
structure PI (w V U : World) (idx : Nat) (pre : List HX) (W : World) : Prop where
  root : Arr W (V.heap.size + 1) 24 32 (bys (rootOf pre))
  auth : ∃ v, Boxed W V.heap.size 22 v ∧ W.ownsRow U.heap.size 24 32 v (authOf idx pre).length (cellsN (authOf idx pre)) ∧ True
  res : Arr W (w.heap.size + 2) 24 32 (bys zb)
  ix : Boxed W w.heap.size 25 (.int .u32 (idx : Int))
  b : Below w.heap.size w W
theorem PI.own (w V U : World) (idx B : Nat) (hB : w.heap.size ≤ B) : OwnFrom B (PI w V U idx) := fun s X Y row hs hg hr =>
  ⟨arr_keep hs.root hg (fun r e => (hr r e).2), holdsRow_own U.heap.size V.heap.size 22 24 32 (fun pre : List HX => (authOf idx pre).length) (fun pre => cellsN (authOf idx pre)) (fun _ _ => True) s X Y row hs.auth hg (fun r e => (hr r e).2), arr_keep hs.res hg (fun r e => (hr r e).2), boxed_own w.heap.size 25 (fun _ : List HX => (.int .u32 (idx : Int))) s X Y row hs.ix hg (fun r e => (hr r e).2), hs.b.grown hg hs.b.size (fun k e => Nat.le_trans hB (hr k e).1)⟩
theorem PI.under {w V U W W' : World} {idx : Nat} {pre : List HX} (h : PI w V U idx pre W) (hd : Below W.heap.size W W') : PI w V U idx pre W' := by
  obtain ⟨v, h1, h2, h3⟩ := h.auth
  exact ⟨h.root.under hd, ⟨v, boxed_under h1 hd, ownsN_below h2 hd, h3⟩, h.res.under hd, boxed_under h.ix hd, h.b.trans (hd.mono h.b.size)⟩

set_option maxRecDepth 100000 in
set_option maxHeartbeats 2000000 in
theorem path_any (A : Option Addr) (cap : Nat) (l : List Nd) (hl : l.length ≤ 40) (idx : Nat) (hidx : idx < 4294967296) (seed : Nat → UInt8) (w : World) (hr : NRow w w.heap.size A l) (hT : Tabs w) :
    Calls Tryd.prog 13 #[.slice A l.length cap, (.int .u32 (idx : Int)), .agg (vec 32 (bys seed))] w fun e W' => ∃ v, e = .returned (.tuple #[v, .agg (vec 32 (bys (pathR l idx seed))), .bool (isPath l.length idx)]) ∧ OwnN W' w.heap.size v (pathA l idx seed) ∧ Below w.heap.size w W' := by
  obtain ⟨V, hV⟩ : ∃ V, V = ((w.alloc (.cells #[(.int .u32 (idx : Int))] 25)).alloc (.cells (vec 32 (bys seed)) 24)).alloc (.cells (vec 32 (bys zb)) 24) := ⟨_, rfl⟩
  have h0 : Blk V w.heap.size 25 #[(.int .u32 (idx : Int))] := by rw [hV]; exact ((Blk.new _ _ _ (by simp)).alloc _).alloc _
  have h1 : Arr V (w.heap.size + 1) 24 32 (bys seed) := by rw [hV]; exact (Arr.newAt _ _ _ _ (by simp)).alloc _
  have h2 : Arr V (w.heap.size + 2) 24 32 (bys zb) := by rw [hV]; exact Arr.newAt _ _ _ _ (by simp)
  have hB : Below w.heap.size w V := by rw [hV]; exact (((Below.refl _ _).alloc (by simp <;> omega) _).alloc (by simp <;> omega) _).alloc (by simp <;> omega) _
  have hsz : V.heap.size = w.heap.size + 3 := by rw [hV]; simp
  have HA := Lib.hid (And.intro h0 (And.intro h1 (And.intro h2 (And.intro hB hsz))))
  have HT := Lib.hid hT
  have HR := Lib.hid hr
  have HW := Lib.hid hV
  have hmf := make_func
  have hc : V.cell? ⟨w.heap.size, 0, none⟩ = some (.int .u32 (idx : Int)) := h0.cellAt 0 rfl
  have hwu : IntKind.u64.wrap (idx : Int) = (idx : Int) := by rw [IntKind.wrap_u64]; omega
  have hwl : IntKind.u64.wrap (l.length : Int) = (l.length : Int) := by rw [IntKind.wrap_u64]; omega
  have HL := Lib.hid hl
  clear hV h0 h1 h2 hB hsz hT hr
  have hfull : Hid (∀ b, pow2 l.length = b → ∀ W, Calls Tryd.prog 22 #[.int .i64 (l.length : Int)] W fun e w' => e = .returned (.bool b) ∧ w' = W) := Lib.hid fun b hb W => hb ▸ full_any l.length hl W
  refine (callsIn_wide (n := 30)).1 ?_
  refine callsIn_of_wp_marks Tryd.func13 rfl trivial ?_ rfl
  simp only [Tryd.ntmps13, List.size_toArray, List.length_cons, List.length_nil, Nat.reduceAdd, Nat.reduceSub, Array.replicate_succ, Array.replicate_zero, List.push_toArray, List.append_toArray, List.nil_append, List.cons_append]
  gi_upto_region 1 with fail
  rw [← HW.out]
  clear HW
  cases hp2 : pow2 l.length with
  | false =>
    have HF := Lib.hid (hfull.out false hp2)
    have HP : Hid (isPath l.length idx = false) := Lib.hid (by unfold isPath; rw [hp2]; rfl)
    clear hp2
    gi_wp2_with (first
      | ((with_reducible show wpListIn _ _ _ _ _ (Oper.mk _ (.store _ _ _) _ _ _ _ :: _) _ _); refine wli_store rfl 24 _ _ rfl _ rfl _ rfl (run_store_arr HA.out.2.2.1 (bys zb) info26 (bys_one _ _)) ?_)
      | (refine ⟨trivial, ?_⟩; gi_at_call 22; refine (callsIn_wide.2 (HF.out _)).mono ?_; rintro e w1 ⟨rfl, rfl⟩))
    exact ⟨_, results_tct rfl _ _ _ rfl (run_load_arr (HA.out.2.2.1.row _) Tryd.underlying24 rfl info26), _, by unfold pathR; rw [HP.out, if_neg (by decide)]; rfl, by unfold pathA; rw [HP.out, if_neg (by decide)]; exact World.ownsRow_nil _ _ _ _, below_row HA.out.2.2.2.1 (by omega) _⟩
  | true =>
    have HF := Lib.hid (hfull.out true hp2)
    by_cases hlt : idx < l.length
    · have hltI : ¬ ((l.length : Int) ≤ (idx : Int)) := by omega
      have HP : Hid (isPath l.length idx = true) := Lib.hid (by unfold isPath; rw [hp2]; simpa using hlt)
      obtain ⟨H, hH5, heq⟩ := pow2_exp _ hp2
      have HH := Lib.hid (And.intro hH5 (And.intro heq hlt))
      clear hp2 hH5 heq
      gi_wp2_with (first
        | ((with_reducible show wpListIn _ _ _ _ _ (Oper.mk _ (.load 24 _) _ _ _ _ :: _) _ _); refine wli_load rfl 24 _ rfl _ rfl _ (run_load_arr ((HA.out.2.1.alloc _).alloc _) Tryd.underlying24 rfl info26) ?_)
        | (refine ⟨trivial, ?_⟩; gi_at_call 22; refine (callsIn_wide.2 (HF.out _)).mono ?_; rintro e w1 ⟨rfl, hw1⟩; rw [hw1]; clear hw1)
        | (refine ⟨trivial, ?_⟩; gi_at_call 20; refine (callsIn_wide.2 (joiner_any seed _ _ _)).mono ?_; rintro e w1 ⟨rfl, rfl⟩)
        | (refine ⟨trivial, ?_⟩; gi_at_call 19; refine (callsIn_wide.2 (heights_any A l.length cap _ _ _)).mono ?_; rintro e w1 ⟨rfl, rfl⟩))
      obtain ⟨U, hU⟩ : ∃ U, U = (((((V.alloc (.cells #[.slice none 0 0] 22)).alloc (.cells (vec 32 (bys zb)) 24)).alloc (.cells (vec 32 (bys seed)) 24)).alloc (.cells #[(.func (.func 21) #[] #[])] 42)).alloc (.cells #[(.slice A l.length cap)] 22)).alloc (.cells #[(.func (.func 29) #[] #[.pointer (some ⟨V.heap.size + 1 + 1, 0, none⟩), .pointer (some ⟨V.heap.size + 1 + 1 + 1, 0, none⟩)])] 47) := ⟨_, rfl⟩
      have ha0 : Boxed U V.heap.size 22 (.slice none 0 0) := by rw [hU]; exact (((((Boxed.new V _ _).alloc _).alloc _).alloc _).alloc _).alloc _
      have ha1 : Arr U (V.heap.size + 1) 24 32 (bys zb) := by rw [hU]; exact ((((Arr.newAt _ _ _ _ (by simp)).alloc _).alloc _).alloc _).alloc _
      have hs0 : Arr U (V.heap.size + 1 + 1) 24 32 (bys seed) := by rw [hU]; exact (((Arr.newAt _ _ _ _ (by simp)).alloc _).alloc _).alloc _
      have hs1 : Blk U (V.heap.size + 1 + 1 + 1) 42 #[(.func (.func 21) #[] #[])] := by rw [hU]; exact ((Blk.new _ _ _ (by simp)).alloc _).alloc _
      have hs2 : Blk U (V.heap.size + 1 + 1 + 1 + 1) 22 #[(.slice A l.length cap)] := by rw [hU]; exact (Blk.new _ _ _ (by simp)).alloc _
      have hs3 : Blk U (V.heap.size + 1 + 1 + 1 + 1 + 1) 47 #[(.func (.func 29) #[] #[.pointer (some ⟨V.heap.size + 1 + 1, 0, none⟩), .pointer (some ⟨V.heap.size + 1 + 1 + 1, 0, none⟩)])] := by rw [hU]; exact Blk.new _ _ _ (by simp)
      have hbU : Below V.heap.size V U := by rw [hU]; exact ((((((Below.refl _ _).alloc (by simp <;> omega) _).alloc (by simp <;> omega) _).alloc (by simp <;> omega) _).alloc (by simp <;> omega) _).alloc (by simp <;> omega) _).alloc (by simp <;> omega) _
      have hszU : U.heap.size = V.heap.size + 6 := by rw [hU]; simp
      rw [← hU]
      clear hU
      have hsV := HA.out.2.2.2.2
      have hBw := HA.out.2.2.2.1
      have hBU : Below w.heap.size w U := hBw.trans (hbU.mono hBw.size)
      obtain ⟨D, hD⟩ : ∃ D : Nat → Prop, D = fun k => k = V.heap.size ∨ k = V.heap.size + 1 := ⟨_, rfl⟩
      have hDk : ∀ k, D k → k = V.heap.size ∨ k = V.heap.size + 1 := fun k hk => by rw [hD] at hk; exact hk
      have hD0 : D V.heap.size := by rw [hD]; exact .inl rfl
      have hD1 : D (V.heap.size + 1) := by rw [hD]; exact .inr rfl
      clear hD
      have hjoin := join_all seed 2 0 (by decide) (by decide) (V.heap.size + 1 + 1) (V.heap.size + 1 + 1 + 1) 21 #[] (fun _ _ => rfl) w U D hBU (fun k hk => by have := hDk k hk; omega) hs0 hs1
        (fun hk => by have := hDk _ hk; omega) (fun hk => by have := hDk _ hk; omega) HT.out (fun h i Y _ _ _ => tree_any h i Y)
      have hrow : l ≠ [] → ∃ a, A = some a ∧ At U a l ∧ a.block < U.heap.size ∧ ¬ D a.block := fun hn => by
        obtain ⟨a, e, hb, hc⟩ := HR.out hn
        exact ⟨a, e, At.same (w := w) hc (hBU.block _ hb), by omega, fun hk => by have := hDk _ hk; omega⟩
      have hseq := heights_rows 29 (by decide) (V.heap.size + 1 + 1 + 1 + 1) (V.heap.size + 1 + 1 + 1 + 1 + 1) A cap l (by omega) 29 #[.pointer (some ⟨V.heap.size + 1 + 1, 0, none⟩), .pointer (some ⟨V.heap.size + 1 + 1 + 1, 0, none⟩)] (fun _ _ => rfl) (joinR seed 2 0) D U hs2 hs3
        (fun hk => by have := hDk _ hk; omega) (fun hk => by have := hDk _ hk; omega) hrow hjoin
      have hPI : PI w V U idx [] U := ⟨ha1, ⟨_, ha0, World.ownsRow_nil _ _ _ _, trivial⟩, HA.out.2.2.1.under hbU, HA.out.1.under hbU, hBU⟩
      have HZ := Lib.hid (And.intro hszU hsV)
      have HD := Lib.hid (And.intro hDk (And.intro hD0 hD1))
      clear ha0 ha1 hs0 hs1 hs2 hs3 hbU hszU hsV hBw hDk hD0 hD1 hjoin hrow HA HR HT hc hwu hwl hltI
      refine wpIn_range_rows rfl (by decide) (gf := 27) (lb := #[.pointer (some ⟨V.heap.size + 1 + 1 + 1 + 1, 0, none⟩), .pointer (some ⟨V.heap.size + 1 + 1 + 1 + 1 + 1, 0, none⟩)]) rfl trivial (fun _ _ => rfl) hseq (Below.refl _ _) (Nat.le_refl _) (fun _ => rfl)
        (fun _ _ h => h.cell) (fun _ _ _ h hs e => h.keep hs e) (PI w V U idx) (PI.own w V U idx U.heap.size hBU.size) hPI
        (fun x => { tmps := #[.slice A l.length cap, .int .u32 (idx : Int), .agg (vec 32 (bys seed)), undef, .pointer (some ⟨w.heap.size, 0, none⟩), .pointer (some ⟨w.heap.size + 1, 0, none⟩), .slice none 0 0, .pointer (some ⟨w.heap.size + 1 + 1, 0, none⟩), .bool false, .pointer (some ⟨V.heap.size, 0, none⟩), .pointer (some ⟨V.heap.size + 1, 0, none⟩), .int .u32 (x.h : Int), .slice (some x.a) x.ns.length x.cap, .slice A l.length cap, .int .i64 (l.length : Int), .bool true, .bool false, .bool false, .int .u32 (idx : Int), .int .u64 (idx : Int), .slice A l.length cap, .int .i64 (l.length : Int), .int .u64 (l.length : Int), .bool false, .bool false, undef, .slice A l.length cap, .agg (vec 32 (bys seed)), (.func (.func 29) #[] #[.pointer (some ⟨V.heap.size + 1 + 1, 0, none⟩), .pointer (some ⟨V.heap.size + 1 + 1 + 1, 0, none⟩)]), .func (.func 27) #[] #[.pointer (some ⟨V.heap.size + 1 + 1 + 1 + 1, 0, none⟩), .pointer (some ⟨V.heap.size + 1 + 1 + 1 + 1 + 1, 0, none⟩)], .int .u32 (x.h : Int), .slice (some x.a) x.ns.length x.cap, undef, undef, undef, undef, undef, undef, undef, undef, undef, undef, undef, undef, undef, undef, undef, undef, undef, undef], defers := [] }) ?assign ?body ?done
      case assign =>
        intro lq x W K hK
        unfold encH
        gi_wp2
        exact hK
      case body =>
        intro lq pre x Wm W hI hle hN hT
        obtain ⟨v, hv, hrow, -⟩ := hI.auth
        have hIW := hI.under hT.grown
        have hxV : x.a.block ≠ V.heap.size ∧ x.a.block ≠ V.heap.size + 1 := by
          have hz := HZ.out.1
          rcases hT.blk with h | h
          · exact ⟨fun e => h.2 (by show D x.a.block; rw [e]; exact HD.out.2.1), fun e => h.2 (by show D x.a.block; rw [e]; exact HD.out.2.2)⟩
          · have h' : Wm.heap.size ≤ x.a.block := h
            omega
        have hlow : V.heap.size + 1 < Wm.heap.size := hI.root.lt
        by_cases h1 : x.ns.length = 1
        · have h1I : ((x.ns.length : Int) == 1) = true := by rw [h1]; rfl
          obtain ⟨p, hp, hpc⟩ := hT.row.cells.get (k := 0) (by omega)
          have hp0 : x.a.add 0 = p := by simpa using hp
          have hpos : (0 : Int) < (x.ns.length : Int) := by omega
          have HPC := Lib.hid hpc
          have HI := Lib.hid hIW
          have HT2 := Lib.hid hT
          have HX1 := Lib.hid h1
          have hrow2 := ownsN_below hrow hT.grown
          have HRW := Lib.hid (And.intro (boxed_under hv hT.grown) hrow2)
          clear hpc hIW hT hI hp hv hrow hrow2 h1
          gi_wp2_with (first
            | ((with_reducible show wpListIn _ _ _ _ _ (Oper.mk _ (.load _ _) _ _ _ _ :: _) _ _); refine wli_load_p rfl 24 _ rfl p rfl _ (load_p HPC.out) ?_)
            | ((with_reducible show wpListIn _ _ _ _ _ (Oper.mk _ (.store _ _ _) _ _ _ _ :: _) _ _); refine wli_store rfl 24 _ _ rfl _ rfl _ rfl (run_store_arr HI.out.root (bys (x.ns.getD 0 zb)) info26 (bys_one _ _)) ?_))
          have hsv : Save (V.heap.size + 1) W (W.setRow (V.heap.size + 1) (vec 32 (bys (x.ns.getD 0 zb)))) := (Save.refl _ _).setRow _
          have hUW : U.heap.size ≤ W.heap.size := Nat.le_trans hle HT2.out.grown.size
          refine ⟨save_keeps hsv (by have := HZ.out; omega), save_kx hsv hUW HD.out.2.2 hxV.2 HT2.out.row.lt, ?_⟩
          have ha : authOf idx (pre ++ [x]) = authOf idx pre := by rw [authOf_snoc]; unfold authS HX.key; rw [if_pos HX1.out]
          have hro : rootOf (pre ++ [x]) = x.ns.getD 0 zb := by rw [rootOf_snoc]; unfold rootS HX.key; rw [if_pos HX1.out]
          refine ⟨by rw [hro]; exact HI.out.root.row _, ⟨v, ?_, ?_, trivial⟩, HI.out.res.rowFar (by have := HZ.out; omega) _, (hsv.block _ HI.out.ix.lt (by have := HZ.out; omega)).trans HI.out.ix, below_row HI.out.b (by have := HZ.out; omega) _⟩
          · exact (hsv.block _ HRW.out.1.lt (by omega)).trans HRW.out.1
          · rw [ha]
            exact owns_block HRW.out.2 (fun g hg hlt => hsv.block g hlt (by have := HZ.out; omega))
        · have h1I : ((x.ns.length : Int) == 1) = false := beq_eq_false_iff_ne.2 (by omega)
          obtain ⟨i, hi⟩ : ∃ i, i = idx / 2 ^ x.h := ⟨_, rfl⟩
          have hxH : x.h < H := lev_lt (R := joinR seed 2 0) HH.out.2.1 (by rw [← hT.row.lev]; exact h1) hT.row.up
          have hH5 := HH.out.1
          have hnl : x.ns.length = 2 ^ (H - x.h) := by rw [hT.row.lev]; exact levs_pow _ l H HH.out.2.1 x.h (by omega)
          have hil : i < 2 ^ (H - x.h) := by rw [hi]; exact idx_lt (by rw [← HH.out.2.1]; exact HH.out.2.2) (by omega)
          have hp5 : 2 ^ (H - x.h) ≤ 2 ^ 5 := Nat.pow_le_pow_right (by decide) (by omega)
          have hi64 : i < 64 := by omega
          obtain ⟨j0, hj0⟩ : ∃ j0, j0 = i ^^^ 1 := ⟨_, rfl⟩
          have hj : j0 < x.ns.length := by rw [hj0, hnl]; exact xor_lt hil (by omega) hi64
          have hkm : min x.h 32 = x.h := by omega
          have hsh : (idx : Int) / 2 ^ x.h = (i : Int) := by rw [hi, Int.natCast_ediv, Int.natCast_pow]; rfl
          have hxr : bits .xor .u32 (i : Int) 1 = (j0 : Int) := by rw [hj0]; exact xor1_u32 i hi64
          have hjI : (j0 : Int) < (x.ns.length : Int) := by omega
          obtain ⟨p, hp, hpc⟩ := hT.row.cells.get hj
          obtain ⟨nd, hnd⟩ : ∃ nd, nd = x.ns.getD j0 zb := ⟨_, rfl⟩
          rw [← hnd] at hpc
          have hpb : p.block = x.a.block := by rw [← hp, addr_add_block]
          have ha : authOf idx (pre ++ [x]) = authOf idx pre ++ [nd] := by rw [authOf_snoc]; unfold authS HX.key; rw [if_neg h1, hnd, hj0, hi]
          have hro : rootOf (pre ++ [x]) = rootOf pre := by rw [rootOf_snoc]; unfold rootS HX.key; rw [if_neg h1]
          have hUW : U.heap.size ≤ W.heap.size := Nat.le_trans hle hT.grown.size
          have hob : ∀ q, v.ownBlock = some q → q ≠ x.a.block := by
            intro q hq
            have hq1 := hrow.lt q hq
            rcases hT.blk with h | h
            · have h' : x.a.block < U.heap.size := h.1
              omega
            · have h' : Wm.heap.size ≤ x.a.block := h
              omega
          have HG := Lib.hid (And.intro ha (And.intro hro (And.intro hob (And.intro hpb (And.intro hUW (hT.row.lt))))))
          have HW0 : Hid (PI w V U idx pre W ∧ Boxed W V.heap.size 22 v ∧ W.ownsRow U.heap.size 24 32 v (authOf idx pre).length (cellsN (authOf idx pre)) ∧ (∀ i, i < 32 → W.cell? (p.add i) = some (bys nd i))) := Lib.hid ⟨hIW, boxed_under hv hT.grown, ownsN_below hrow hT.grown, hpc⟩
          have HLE : Hid ((authOf idx pre).length ≤ 1000000) := Lib.hid (Nat.le_trans (authOf_le idx pre) (by have := HL.out; omega))
          have hne : (22 : TypeId) ≠ 24 := by decide
          have hxl : x.h < 4294967296 := hT.row.h
          clear hpc hIW hT hI hv hrow ha hro hob hpb hUW hnd hj0 hi hnl hil hp5 h1 hxH hH5 hle hlow
          gi_upto_region 10 with fail
          have HXV := Lib.hid hxV
          have HSZ2 : Hid (w.heap.size < U.heap.size ∧ w.heap.size ≠ V.heap.size) := Lib.hid ⟨by have := HZ.out; omega, by have := HZ.out; omega⟩
          refine wpIn_region_held_in (S := fun Y => KX U.heap.size (fun k => k = V.heap.size) x.a.block W Y ∧ Below w.heap.size w Y) (by kernel_rfl) (by kernel_rfl) (by rintro ⟨_, _, h⟩; exact h) ⟨⟨Nat.le_refl _, fun _ _ _ => rfl, rfl⟩, ⟨HW0.out.1.b.os, HW0.out.1.b.tape, HW0.out.1.b.output, HW0.out.1.b.size, HW0.out.1.b.block⟩⟩ (fun Wd hWd hS => ?_)
          have HV : Hid (Boxed Wd V.heap.size 22 v) := Lib.hid (by rw [hWd]; exact HW0.out.2.1)
          have HRW : Hid (Wd.ownsRow U.heap.size 24 32 v (authOf idx pre).length (cellsN (authOf idx pre))) := Lib.hid (by rw [hWd]; exact HW0.out.2.2.1)
          have HSZ : Hid (U.heap.size ≤ Wd.heap.size ∧ x.a.block < Wd.heap.size) := Lib.hid (by rw [hWd]; exact ⟨HG.out.2.2.2.2.1, HG.out.2.2.2.2.2⟩)
          have HB : Hid (w.heap.size ≤ U.heap.size ∧ w.heap.size ≤ Wd.heap.size ∧ w.heap.size ≤ V.heap.size) := Lib.hid ⟨by have := HZ.out; omega, hS.2.size, by have := HZ.out; omega⟩
          have HWD := Lib.hid hWd
          clear hWd hxV
          (refine held_take (i := 1) (oi := ?ot1) (v := ?vt1) ?at1 (by kernel_rfl) (by kernel_rfl) (by kernel_rfl) ?bt1 ?ct1 ?dt1 (by assumption) ?rt1; (case at1 => (simp only [List.getElem?_toArray, List.getElem?_cons_zero, List.getElem?_cons_succ]; rfl)); (case bt1 => exact fun _ _ _ h => h); (case ct1 => kernel_rfl); (case dt1 => (intro W hW; (try dsimp only at hW); go_split_ands; go_simp; (try with_reducible rfl))); (case' rt1 => simp only [Act.put, List.setIfInBounds_toArray, List.set_cons_zero, List.set_cons_succ]))
          (refine held_take (i := 2) (oi := ?ot2) (v := (.int .u32 (idx : Int))) ?at2 (by kernel_rfl) (by kernel_rfl) (by kernel_rfl) ?bt2 ?ct2 ?dt2 (by assumption) ?rt2; (case at2 => (simp only [List.getElem?_toArray, List.getElem?_cons_zero, List.getElem?_cons_succ]; rfl)); (case bt2 => exact fun _ _ _ h => h); (case ct2 => kernel_rfl); (case dt2 => (intro W2 hW; have hc : W2.cell? ⟨w.heap.size, 0, none⟩ = some (.int .u32 (idx : Int)) := Boxed.cell ((hW.1.low _ HSZ2.out.1 HSZ2.out.2).trans HW0.out.1.ix : Boxed W2 w.heap.size 25 (.int .u32 (idx : Int))); clear hW; go_simp; (try with_reducible rfl))); (case' rt2 => simp only [Act.put, List.setIfInBounds_toArray, List.set_cons_zero, List.set_cons_succ]))
          (refine held_take (i := 3) (oi := ?ot3) (v := ?vt3) ?at3 (by kernel_rfl) (by kernel_rfl) (by kernel_rfl) ?bt3 ?ct3 ?dt3 (by assumption) ?rt3; (case at3 => (simp only [List.getElem?_toArray, List.getElem?_cons_zero, List.getElem?_cons_succ]; rfl)); (case bt3 => exact fun _ _ _ h => h); (case ct3 => kernel_rfl); (case dt3 => (intro W hW; (try dsimp only at hW); go_split_ands; go_simp; (try with_reducible rfl))); (case' rt3 => simp only [Act.put, List.setIfInBounds_toArray, List.set_cons_zero, List.set_cons_succ]))
          (refine held_take (i := 4) (oi := ?ot4) (v := ?vt4) ?at4 (by kernel_rfl) (by kernel_rfl) (by kernel_rfl) ?bt4 ?ct4 ?dt4 (by assumption) ?rt4; (case at4 => (simp only [List.getElem?_toArray, List.getElem?_cons_zero, List.getElem?_cons_succ]; rfl)); (case bt4 => exact fun _ _ _ h => h); (case ct4 => kernel_rfl); (case dt4 => (intro W hW; (try dsimp only at hW); go_split_ands; go_simp; (try with_reducible rfl))); (case' rt4 => simp only [Act.put, List.setIfInBounds_toArray, List.set_cons_zero, List.set_cons_succ]))
          (refine held_take (i := 5) (oi := ?ot5) (v := ?vt5) ?at5 (by kernel_rfl) (by kernel_rfl) (by kernel_rfl) ?bt5 ?ct5 ?dt5 (by assumption) ?rt5; (case at5 => (simp only [List.getElem?_toArray, List.getElem?_cons_zero, List.getElem?_cons_succ]; rfl)); (case bt5 => exact fun _ _ _ h => h); (case ct5 => kernel_rfl); (case dt5 => (intro W hW; (try dsimp only at hW); go_split_ands; go_simp; (try with_reducible rfl))); (case' rt5 => simp only [Act.put, List.setIfInBounds_toArray, List.set_cons_zero, List.set_cons_succ]))
          (refine held_take (i := 6) (oi := ?ot6) (v := .pointer (some p)) ?at6 (by kernel_rfl) (by kernel_rfl) (by kernel_rfl) ?bt6 ?ct6 ?dt6 (by assumption) ?rt6; (case at6 => (simp only [List.getElem?_toArray, List.getElem?_cons_zero, List.getElem?_cons_succ]; rfl)); (case bt6 => exact fun _ _ _ h => h); (case ct6 => kernel_rfl); (case dt6 => (intro W2 hW; clear hW; go_simp; (try with_reducible rfl); (try (intro h; omega)))); (case' rt6 => simp only [Act.put, List.setIfInBounds_toArray, List.set_cons_zero, List.set_cons_succ]))
          (refine held_take (i := 7) (oi := ?ot7) (v := .agg (vec 32 (bys nd))) ?at7 (by kernel_rfl) (by kernel_rfl) (by kernel_rfl) ?bt7 ?ct7 ?dt7 (by assumption) ?rt7; (case at7 => (simp only [List.getElem?_toArray, List.getElem?_cons_zero, List.getElem?_cons_succ]; rfl)); (case bt7 => exact fun _ _ _ h => h); (case ct7 => kernel_rfl); (case dt7 => (intro W2 hW; exact exec_load_p 24 _ rfl p rfl _ (load_p fun i hi => (World.cell?_of_block (a := p.add i) (by rw [addr_add_block, HG.out.2.2.2.1]; exact hW.1.own)).trans (HW0.out.2.2.2 i hi)))); (case' rt7 => simp only [Act.put, List.setIfInBounds_toArray, List.set_cons_zero, List.set_cons_succ]))
          refine held_two (i := 0) (j := 8) (oi := ?oit14) (oj := ?ojt14) (by kernel_rfl) ?ait14 ?ajt14 ?cit14 ?cjt14 (fun K0 hK0 => ?hit14) (fun K8 hK8 => ?hjt14)
          (case ait14 => (simp only [List.getElem?_toArray, List.getElem?_cons_zero]; rfl))
          (case ajt14 => (simp only [List.getElem?_toArray, List.getElem?_cons_zero, List.getElem?_cons_succ]; rfl))
          (case cit14 => kernel_rfl)
          (case cjt14 => kernel_rfl)
          case hit14 =>
            have hc := HV.out.cell
            go_simp
            refine hK0 _ _ hS (fun hS0 => ?_)
            clear hc hK0 K0
            refine held_one (i := 8) (oi := ?ot8) (by kernel_rfl) ?at8 ?ct8 (fun K8 hK8 => ?_)
            (case at8 => (simp only [List.getElem?_toArray, List.getElem?_cons_zero, List.getElem?_cons_succ]; rfl))
            (case ct8 => kernel_rfl)
            refine ow_build1 _ rfl nd rfl ?_
            have hcur : U.heap.size ≤ Wd.heap.size ∧ x.a.block < Wd.heap.size := HSZ.out
            refine hK8 _ _ ⟨hS0.1.trans (KX.of_below ((Below.refl Wd.heap.size Wd).alloc (Nat.le_refl _) _) hcur.1 hcur.2), hS0.2.alloc hS0.2.size _⟩ (fun hS8 => ?_)
            clear hK8 K8
            have HV4 := HV
            have HV := Lib.hid (HV4.out.alloc (.cells (vec 32 (bys nd)) 24))
            refine held_one (i := 9) (oi := ?ot9) (by kernel_rfl) ?at9 ?ct9 (fun K9 hK9 => ?_)
            (case at9 => (simp only [List.getElem?_toArray, List.getElem?_cons_zero, List.getElem?_cons_succ]; rfl))
            (case ct9 => kernel_rfl)
            obtain ⟨v6, y6, hr6, hown6, hg6⟩ := app_own (HRW.out.alloc (.cells (vec 32 (bys nd)) 24)) (Arr.new Wd 24 32 (bys nd)) HLE.out (by have := HSZ.out.1; simp; omega) 22
            have hap := Boxed.appended HV4.out hne (owns_low HRW.out HB.out.1) HB.out.2.1 HB.out.2.2 (owns_low hown6 HB.out.1) hg6
            refine Lib.wp_append_run _ _ _ _ _ rfl _ _ rfl rfl _ _ hr6 ?_
            have hkx : KX U.heap.size (fun k => k = V.heap.size) x.a.block (Wd.alloc (.cells (vec 32 (bys nd)) 24)) y6 := ⟨hg6.size, fun k hk _ => hg6.block k (by have := HSZ.out.1; simp; omega) (fun e => by have := ((HRW.out.alloc (.cells (vec 32 (bys nd)) 24)).lt k e.symm).1; omega), hg6.block _ (by have := HSZ.out.2; simp; omega) (fun e => HG.out.2.2.1 _ e.symm rfl)⟩
            refine hK9 _ _ ⟨hS8.1.trans hkx, Below.grown hS8.2 hg6 hS8.2.size (fun q hq => Nat.le_trans HB.out.1 ((HRW.out.alloc (.cells (vec 32 (bys nd)) 24)).lt q hq).1)⟩ (fun hS9 => ?_)
            have HAPP := Lib.hid (And.intro hap hown6)
            clear hK9 K9 hr6 hap hg6 hkx
            refine held_one (i := 10) (oi := ?ot10) (by kernel_rfl) ?at10 ?ct10 (fun K10 hK10 => ?_)
            (case at10 => (simp only [List.getElem?_toArray, List.getElem?_cons_zero, List.getElem?_cons_succ]; rfl))
            (case ct10 => kernel_rfl)
            obtain ⟨g7, c7, rfl⟩ := ownsRow_succ hown6
            have hc := HAPP.out.1.1.cell
            have hf := HAPP.out.1.1.frozen
            have hSb := hS9
            go_simp
            refine hK10 _ _ ⟨hSb.1.trans ⟨(KeepsWalks.setCell _ _ _).size, fun k _ hd => Below.heap_setCell _ _ _ k hd, Below.heap_setCell _ _ _ _ HXV.out.1⟩, hSb.2.setCell (p := ⟨V.heap.size, 0, none⟩) HB.out.2.2 _⟩ (fun hS10 => ?_)
            clear hK10 K10 hc hf
            refine wpAnyH_done (by kernel_rfl) ?_ _
            have hko := HAPP.out.1.2.2.2.1
            rw [HWD.out] at hko
            refine ⟨((KeepsOthers.drew W).trans hko).from _, ⟨hS10.1.size, fun k hk hd => hS10.1.low k hk (fun e => hd (by show D k; rw [show k = V.heap.size from e]; exact HD.out.2.1)), hS10.1.own⟩, ?_⟩
            refine ⟨?_, ⟨_, HAPP.out.1.2.1, ?_, trivial⟩, ?_, ?_, hS10.2⟩
            · rw [HG.out.2.1]; exact arr_same HW0.out.1.root (hS10.1.low _ (by have := HZ.out; omega) (show V.heap.size + 1 ≠ V.heap.size by omega))
            · rw [HG.out.1, cellsN_snoc, List.length_append]
              exact HAPP.out.2.kept (grownBy_setCell' _ V.heap.size _) (.inr (HAPP.out.1.1.not_row hne HAPP.out.2).symm)
            · exact arr_same HW0.out.1.res (hS10.1.low _ (by have := HZ.out; omega) (show w.heap.size + 2 ≠ V.heap.size by have := HZ.out; omega))
            · exact (hS10.1.low _ HSZ2.out.1 (show w.heap.size ≠ V.heap.size by have := HZ.out; omega)).trans HW0.out.1.ix
          case hjt14 =>
            refine ow_build1 _ rfl nd rfl ?_
            have hcur : U.heap.size ≤ Wd.heap.size ∧ x.a.block < Wd.heap.size := HSZ.out
            refine hK8 _ _ ⟨hS.1.trans (KX.of_below ((Below.refl Wd.heap.size Wd).alloc (Nat.le_refl _) _) hcur.1 hcur.2), hS.2.alloc hS.2.size _⟩ (fun hS8 => ?_)
            clear hK8 K8
            have HV4 := HV
            have HV := Lib.hid (HV4.out.alloc (.cells (vec 32 (bys nd)) 24))
            refine held_one (i := 0) (oi := ?ot11) (by kernel_rfl) ?at11 ?ct11 (fun K0 hK0 => ?_)
            (case at11 => (simp only [List.getElem?_toArray, List.getElem?_cons_zero]; rfl))
            (case ct11 => kernel_rfl)
            have hc := HV.out.cell
            go_simp
            refine hK0 _ _ hS8 (fun hS0 => ?_)
            clear hc hK0 K0
            refine held_one (i := 9) (oi := ?ot12) (by kernel_rfl) ?at12 ?ct12 (fun K9 hK9 => ?_)
            (case at12 => (simp only [List.getElem?_toArray, List.getElem?_cons_zero, List.getElem?_cons_succ]; rfl))
            (case ct12 => kernel_rfl)
            obtain ⟨v6, y6, hr6, hown6, hg6⟩ := app_own (HRW.out.alloc (.cells (vec 32 (bys nd)) 24)) (Arr.new Wd 24 32 (bys nd)) HLE.out (by have := HSZ.out.1; simp; omega) 22
            have hap := Boxed.appended HV4.out hne (owns_low HRW.out HB.out.1) HB.out.2.1 HB.out.2.2 (owns_low hown6 HB.out.1) hg6
            refine Lib.wp_append_run _ _ _ _ _ rfl _ _ rfl rfl _ _ hr6 ?_
            have hkx : KX U.heap.size (fun k => k = V.heap.size) x.a.block (Wd.alloc (.cells (vec 32 (bys nd)) 24)) y6 := ⟨hg6.size, fun k hk _ => hg6.block k (by have := HSZ.out.1; simp; omega) (fun e => by have := ((HRW.out.alloc (.cells (vec 32 (bys nd)) 24)).lt k e.symm).1; omega), hg6.block _ (by have := HSZ.out.2; simp; omega) (fun e => HG.out.2.2.1 _ e.symm rfl)⟩
            refine hK9 _ _ ⟨hS0.1.trans hkx, Below.grown hS0.2 hg6 hS0.2.size (fun q hq => Nat.le_trans HB.out.1 ((HRW.out.alloc (.cells (vec 32 (bys nd)) 24)).lt q hq).1)⟩ (fun hS9 => ?_)
            have HAPP := Lib.hid (And.intro hap hown6)
            clear hK9 K9 hr6 hap hg6 hkx
            refine held_one (i := 10) (oi := ?ot13) (by kernel_rfl) ?at13 ?ct13 (fun K10 hK10 => ?_)
            (case at13 => (simp only [List.getElem?_toArray, List.getElem?_cons_zero, List.getElem?_cons_succ]; rfl))
            (case ct13 => kernel_rfl)
            obtain ⟨g7, c7, rfl⟩ := ownsRow_succ hown6
            have hc := HAPP.out.1.1.cell
            have hf := HAPP.out.1.1.frozen
            have hSb := hS9
            go_simp
            refine hK10 _ _ ⟨hSb.1.trans ⟨(KeepsWalks.setCell _ _ _).size, fun k _ hd => Below.heap_setCell _ _ _ k hd, Below.heap_setCell _ _ _ _ HXV.out.1⟩, hSb.2.setCell (p := ⟨V.heap.size, 0, none⟩) HB.out.2.2 _⟩ (fun hS10 => ?_)
            clear hK10 K10 hc hf
            refine wpAnyH_done (by kernel_rfl) ?_ _
            have hko := HAPP.out.1.2.2.2.1
            rw [HWD.out] at hko
            refine ⟨((KeepsOthers.drew W).trans hko).from _, ⟨hS10.1.size, fun k hk hd => hS10.1.low k hk (fun e => hd (by show D k; rw [show k = V.heap.size from e]; exact HD.out.2.1)), hS10.1.own⟩, ?_⟩
            refine ⟨?_, ⟨_, HAPP.out.1.2.1, ?_, trivial⟩, ?_, ?_, hS10.2⟩
            · rw [HG.out.2.1]; exact arr_same HW0.out.1.root (hS10.1.low _ (by have := HZ.out; omega) (show V.heap.size + 1 ≠ V.heap.size by omega))
            · rw [HG.out.1, cellsN_snoc, List.length_append]
              exact HAPP.out.2.kept (grownBy_setCell' _ V.heap.size _) (.inr (HAPP.out.1.1.not_row hne HAPP.out.2).symm)
            · exact arr_same HW0.out.1.res (hS10.1.low _ (by have := HZ.out; omega) (show w.heap.size + 2 ≠ V.heap.size by have := HZ.out; omega))
            · exact (hS10.1.low _ HSZ2.out.1 (show w.heap.size ≠ V.heap.size by have := HZ.out; omega)).trans HW0.out.1.ix
      case done =>
        intro dd xs W hd hS hI hK
        obtain ⟨v, hv, hrow, -⟩ := hI.auth
        have HI := Lib.hid hI
        have HK := Lib.hid (And.intro hK (And.intro hd hS))
        have HO := Lib.hid (And.intro hv hrow)
        have HAP := Lib.hid (all_path HH.out.2.1 hS (idx := idx))
        clear hI hK hd hS hv hrow
        gi_upto_region 11 with fail
        refine wpIn_then_false ?_
        refine wpIn_region_held_wide (S := fun Y => Boxed Y V.heap.size 22 v ∧ Arr Y (V.heap.size + 1) 24 32 (bys (rootOf xs))) (by kernel_rfl) (by rintro ⟨_, _, h⟩; exact h) ⟨HO.out.1, HI.out.root⟩ (fun Wd hWd hS => ?_)
        have HRES : Hid (Arr Wd (w.heap.size + 2) 24 32 (bys zb)) := Lib.hid (by rw [hWd]; exact HI.out.res)
        have HOW : Hid (Wd.ownsRow U.heap.size 24 32 v (authOf idx xs).length (cellsN (authOf idx xs))) := Lib.hid (by rw [hWd]; exact HO.out.2)
        have HKD : Hid (Wd.heap[dd]? = some (.deferred (some []))) := Lib.hid (by rw [hWd]; exact HK.out.1)
        have HBB : Hid (Below w.heap.size w Wd) := Lib.hid (by rw [hWd]; exact ⟨HI.out.b.os, HI.out.b.tape, HI.out.b.output, HI.out.b.size, HI.out.b.block⟩)
        clear hWd
        (refine held_take (i := 0) (oi := ?ot15) (v := v) ?at15 (by kernel_rfl) (by kernel_rfl) (by kernel_rfl) ?bt15 ?ct15 ?dt15 (by assumption) ?rt15; (case at15 => (simp only [List.getElem?_toArray, List.getElem?_cons_zero]; rfl)); (case bt15 => exact fun _ _ _ h => h); (case ct15 => kernel_rfl); (case dt15 => (intro W2 hW; have hc := hW.1.cell; clear hW; go_simp; (try with_reducible rfl))); (case' rt15 => simp only [Act.put, List.setIfInBounds_toArray, List.set_cons_zero, List.set_cons_succ]))
        (refine held_take (i := 1) (oi := ?ot16) (v := .agg (vec 32 (bys (rootOf xs)))) ?at16 (by kernel_rfl) (by kernel_rfl) (by kernel_rfl) ?bt16 ?ct16 ?dt16 (by assumption) ?rt16; (case at16 => (simp only [List.getElem?_toArray, List.getElem?_cons_zero, List.getElem?_cons_succ]; rfl)); (case bt16 => exact fun _ _ _ h => h); (case ct16 => kernel_rfl); (case dt16 => (intro W2 hW; exact exec_load 24 _ rfl _ rfl _ (run_load_arr hW.2 Tryd.underlying24 rfl info26))); (case' rt16 => simp only [Act.put, List.setIfInBounds_toArray, List.set_cons_zero, List.set_cons_succ]))
        (refine held_take (i := 2) (oi := ?ot17) (v := ?vt17) ?at17 (by kernel_rfl) (by kernel_rfl) (by kernel_rfl) ?bt17 ?ct17 ?dt17 (by assumption) ?rt17; (case at17 => (simp only [List.getElem?_toArray, List.getElem?_cons_zero, List.getElem?_cons_succ]; rfl)); (case bt17 => exact fun _ _ _ h => h); (case ct17 => kernel_rfl); (case dt17 => (intro W hW; (try dsimp only at hW); go_split_ands; go_simp; (try with_reducible rfl))); (case' rt17 => simp only [Act.put, List.setIfInBounds_toArray, List.set_cons_zero, List.set_cons_succ]))
        refine held_one (i := 3) (oi := ?ot18) (by kernel_rfl) ?at18 ?ct18 (fun K3 hK3 => ?_)
        (case at18 => (simp only [List.getElem?_toArray, List.getElem?_cons_zero, List.getElem?_cons_succ]; rfl))
        (case ct18 => kernel_rfl)
        refine ow_store 24 _ _ rfl _ rfl _ rfl (run_store_arr HRES.out (bys (rootOf xs)) info26 (bys_one _ _)) ?_
        have hsv : Save (w.heap.size + 2) Wd (Wd.setRow (w.heap.size + 2) (vec 32 (bys (rootOf xs)))) := (Save.refl _ _).setRow _
        refine hK3 _ _ ⟨(hsv.block _ hS.1.lt (by have := HZ.out; omega)).trans hS.1, hS.2.rowFar (by have := HZ.out; omega) _⟩ (fun hS3 => ?_)
        clear hK3 K3
        (refine held_take (i := 4) (oi := ?ot19) (v := ?vt19) ?at19 (by kernel_rfl) (by kernel_rfl) (by kernel_rfl) ?bt19 ?ct19 ?dt19 (by assumption) ?rt19; (case at19 => (simp only [List.getElem?_toArray, List.getElem?_cons_zero, List.getElem?_cons_succ]; rfl)); (case bt19 => exact fun _ _ _ h => h); (case ct19 => kernel_rfl); (case dt19 => (intro W hW; (try dsimp only at hW); go_split_ands; go_simp; (try with_reducible rfl))); (case' rt19 => simp only [Act.put, List.setIfInBounds_toArray, List.set_cons_zero, List.set_cons_succ]))
        refine wpAnyH_done (by kernel_rfl) ?_ _
        gi_wp2
        have hK : (Wd.setRow (w.heap.size + 2) (vec 32 (bys (rootOf xs)))).heap[dd]? = some (.deferred (some [])) := (hsv.block dd (Array.getElem?_eq_some_iff.1 HKD.out).1 (by have := HK.out.2.1; have := HZ.out; omega)).trans HKD.out
        refine ⟨by simp, .inl ⟨_, _, rfl, run_takeDeferred hK, ?_⟩⟩
        refine ⟨_, results_tct rfl _ _ _ rfl (run_load_arr (arr_putObj (HRES.out.row _) _ hK rfl) Tryd.underlying24 rfl info26), v, ?_, ?_, ?_⟩
        · unfold pathR; rw [HP.out, if_pos rfl, HAP.out.2]; rfl
        · have h1 := owns_block HOW.out (fun g hg hlt => hsv.block g hlt (by have := HZ.out; omega))
          have h2 := ownsRow_putObj h1 (.deferred none) hK rfl
          unfold pathA; rw [HP.out, if_pos rfl, HH.out.2.1, hgt_pow H HH.out.1, ← HAP.out.1]
          exact owns_low h2 (by have := HZ.out; omega)
        · exact (below_row HBB.out (by omega) _).trans (belowK_b (w := w) (Nat.le_refl _) _ dd _ _ (by have := HK.out.2.1; have := HZ.out; omega) hK rfl rfl)
    · have hltI : (l.length : Int) ≤ (idx : Int) := by omega
      have HP : Hid (isPath l.length idx = false) := Lib.hid (by unfold isPath; rw [hp2]; simpa using hlt)
      clear hp2
      gi_wp2_with (first
        | ((with_reducible show wpListIn _ _ _ _ _ (Oper.mk _ (.store _ _ _) _ _ _ _ :: _) _ _); refine wli_store rfl 24 _ _ rfl _ rfl _ rfl (run_store_arr HA.out.2.2.1 (bys zb) info26 (bys_one _ _)) ?_)
        | (refine ⟨trivial, ?_⟩; gi_at_call 22; refine (callsIn_wide.2 (HF.out _)).mono ?_; rintro e w1 ⟨rfl, rfl⟩))
      exact ⟨_, results_tct rfl _ _ _ rfl (run_load_arr (HA.out.2.2.1.row _) Tryd.underlying24 rfl info26), _, by unfold pathR; rw [HP.out, if_neg (by decide)]; rfl, by unfold pathA; rw [HP.out, if_neg (by decide)]; exact World.ownsRow_nil _ _ _ _, below_row HA.out.2.2.2.1 (by omega) _⟩
end Go.Proofs.YtmhdhhdhnkoocaaDoor
/- The reference's Path. -/
namespace Go.Proofs.YtmhdhhdhnkoocaaDoor
open Go.RowKit
attribute [local go_sem ↓ high] zeroV26

set_option maxHeartbeats 2000000 in
set_option maxRecDepth 100000 in
theorem rpath_any (A : Option Addr) (cap : Nat) (l : List Nd) (hl : l.length ≤ 40) (idx : Nat) (hidx : idx < 4294967296) (seed : Nat → UInt8) (w : World) (hr : NRow w w.heap.size A l) (hT : Tabs w) :
    Calls Tryd.prog 14 #[.slice A l.length cap, .int .u32 (idx : Int), .agg (vec 32 (bys seed))] w fun e W' => ∃ v, e = .returned (.tuple #[v, .agg (vec 32 (bys (pathR l idx seed))), .bool (isPath l.length idx)]) ∧ OwnN W' w.heap.size v (pathA l idx seed) ∧ Below w.heap.size w W' := by
  obtain ⟨V, hV⟩ : ∃ V, V = (w.alloc (.cells (vec 32 (bys seed)) 24)).alloc (.cells (vec 32 (bys zb)) 24) := ⟨_, rfl⟩
  have h0 : Arr V w.heap.size 24 32 (bys seed) := by rw [hV]; exact (Arr.newAt _ _ _ _ (by simp)).alloc _
  have h1 : Arr V (w.heap.size + 1) 24 32 (bys zb) := by rw [hV]; exact Arr.newAt _ _ _ _ (by simp)
  have hB : Below w.heap.size w V := by rw [hV]; exact ((Below.refl _ _).alloc (by simp <;> omega) _).alloc (by simp <;> omega) _
  have HSV : Hid (V.heap.size = w.heap.size + 2) := Lib.hid (by rw [hV]; simp)
  have HA := Lib.hid (And.intro h0 (And.intro h1 hB))
  have HT := Lib.hid hT
  have HR0 := Lib.hid hr
  have HW := Lib.hid hV
  clear hV h0 h1 hB hT hr
  have hwu : IntKind.u64.wrap (idx : Int) = (idx : Int) := by rw [IntKind.wrap_u64]; omega
  have hwl : IntKind.u64.wrap (l.length : Int) = (l.length : Int) := by rw [IntKind.wrap_u64]; omega
  go_enter Tryd.func14, Tryd.ntmps14
  go_upto_region 1 with fail
  rw [← HW.out]
  clear HW
  go_wp2
  go_loopw [9] (fun i W => ∃ H : Nat, H ≤ 6 ∧ i = .int .i64 H ∧ W = V ∧ Hid (H = 0 ∨ 2 ^ (H - 1) < l.length)) (fun i _ => 7 - (intOf i).toNat)
  case atStart => exact ⟨0, by omega, rfl, rfl, Lib.hid (.inl rfl)⟩
  case round =>
    obtain ⟨H, hH6, rfl, hwv, hQ0⟩ := hrel
    rw [hwv]
    clear hwv
    have hH10 : (H : Int) ≤ 10 := by omega
    have n10 : ¬ (10 : Int) < (H : Int) := by omega
    obtain ⟨P, hP⟩ : ∃ P, P = 2 ^ H := ⟨_, rfl⟩
    have hP64 : P ≤ 64 := by rw [hP]; exact Nat.pow_le_pow_right (by decide) hH6
    have hsh0 : wrap64 (2 ^ H) = (P : Int) := by
      have e : (2 : Int) ^ H = ((2 ^ H : Nat) : Int) := by rw [Int.natCast_pow]; rfl
      rw [e, ← hP]; unfold wrap64; omega
    have HPQ := Lib.hid (And.intro hP hQ0.out)
    clear hP hQ0
    by_cases ha : P < l.length
    · have haI : (P : Int) < (l.length : Int) := by omega
      go_wp2
      go_roundw
      case rel =>
        have hP := HPQ.out.1
        refine ⟨H + 1, ?_, by simp, by first | rfl | trivial, Lib.hid (.inr (by rw [Nat.add_sub_cancel, ← hP]; exact ha))⟩
        have : 2 ^ H < 2 ^ 6 := by omega
        have := (Nat.pow_lt_pow_iff_right (by decide : 1 < 2)).1 this
        omega
      case measure => have hP := HPQ.out.1; have h2 : 2 ^ H < 2 ^ 6 := by omega
                      have := (Nat.pow_lt_pow_iff_right (by decide : 1 < 2)).1 h2
                      simp [intOf]; omega
    · have haI : ¬ (P : Int) < (l.length : Int) := by omega
      by_cases hb : P = l.length
      · have hbI : ((P : Int) != (l.length : Int)) = false := by rw [hb]; simp
        have hP := HPQ.out.1
        have hH5 : H ≤ 5 := by
          rcases Nat.lt_or_ge 5 H with h | h
          · have : H = 6 := by omega
            rw [this] at hP; omega
          · exact h
        have hpow : pow2 l.length = true := by
          rw [← hb, hP]
          have hall : ∀ m : Fin 6, pow2 (2 ^ m.val) = true := by decide
          exact hall ⟨H, by omega⟩
        by_cases hc : idx < l.length
        · have hcI : ¬ (l.length : Int) ≤ (idx : Int) := by omega
          have hcN : ¬ l.length ≤ idx := by omega
          have HPT : Hid (isPath l.length idx = true) := Lib.hid (by unfold isPath; rw [hpow]; simpa using hc)
          have HL := Lib.hid (And.intro hH5 (And.intro (show l.length = 2 ^ H by rw [← hb, hP]) hc))
          clear hP hpow
          have hR0 := HR0.out
          obtain ⟨a0, rfl, hat0, hab0⟩ := hR0.atA (by omega)
          have HAT0 : Hid (At V a0 l ∧ a0.block < V.heap.size ∧ a0.block < w.heap.size) := Lib.hid ⟨hat0.same (HA.out.2.2.block _ hab0), Nat.lt_of_lt_of_le hab0 HA.out.2.2.size, hab0⟩
          clear hR0 HR0 hat0 hab0 HPQ hH6 hP64 ha haI hH10
          go_wp2
          go_loopw [10, 11, 12] (fun s t u W => ∃ (k : Nat) (a : Addr) (c n : Nat), k ≤ H ∧ t = .slice (some a) n c ∧ u = .int .i64 k ∧ Hid (n = (levs (joinR seed 2 0) l k).length ∧ At W a (levs (joinR seed 2 0) l k) ∧ a.block < W.heap.size ∧ VS V W ∧ W.ownsRow V.heap.size 24 32 s k (cellsN (authF (joinR seed 2 0) l idx k)) ∧ (∀ g, s.ownBlock = some g → g ≠ a.block) ∧ a.block ≠ w.heap.size + 1)) (fun _ _ u _ => H - (intOf u).toNat)
          case atStart => exact ⟨0, a0, cap, l.length, Nat.zero_le _, rfl, rfl, Lib.hid ⟨rfl, HAT0.out.1, HAT0.out.2.1, Below.refl _ _, World.ownsRow_nil _ _ _ _, fun g hg => by simp [Value.ownBlock] at hg, by have := HAT0.out.2.2; omega⟩⟩
          case round =>
            obtain ⟨k, a, c, n, hk, rfl, rfl, hL⟩ := hrel
            have hn1 : n = 2 ^ (H - k) := by rw [hL.out.1]; exact levs_pow _ l H HL.out.2.1 k hk
            by_cases hkH : k < H
            · have hkI : (k : Int) < (H : Int) := by omega
              obtain ⟨lk, hlk⟩ : ∃ lk, lk = levs (joinR seed 2 0) l k := ⟨_, rfl⟩
              rw [← hlk] at hL
              have hnl : n = lk.length := hL.out.1
              have heven : n % 2 = 0 := by rw [hn1, show H - k = (H - k - 1) + 1 by omega, Nat.pow_succ]; omega
              have hn40 : n ≤ 40 := by rw [hn1]; have := Nat.pow_le_pow_right (show 0 < 2 by decide) (show H - k ≤ 5 by omega); omega
              obtain ⟨i, hi⟩ : ∃ i, i = idx / 2 ^ k := ⟨_, rfl⟩
              have hil : i < 2 ^ (H - k) := by rw [hi]; exact idx_lt (by rw [← HL.out.2.1]; exact HL.out.2.2) hk
              obtain ⟨j0, hj0⟩ : ∃ j0, j0 = i ^^^ 1 := ⟨_, rfl⟩
              have hj : j0 < lk.length := by rw [hj0, ← hnl, hn1]; exact xor_lt hil (by omega) (by omega)
              have hkm : min k 32 = k := by omega
              have hsh : (idx : Int) / 2 ^ k = (i : Int) := by rw [hi, Int.natCast_ediv, Int.natCast_pow]; rfl
              have hxr : bits .xor .u32 (i : Int) 1 = (j0 : Int) := by rw [hj0]; exact xor1_u32 i (by omega)
              have hjI : (j0 : Int) < (lk.length : Int) := by omega
              have hwk : IntKind.u32.wrap (k : Int) = (k : Int) := by rw [IntKind.wrap_u32']; omega
              obtain ⟨p, hp, hpc⟩ := hL.out.2.1.get hj
              obtain ⟨nd, hnd⟩ : ∃ nd, nd = lk.getD j0 zb := ⟨_, rfl⟩
              rw [← hnd] at hpc
              have HC0 := Lib.hid hpc
              obtain ⟨v6, y6, hr6, hown6, hg6⟩ := app_own (hL.out.2.2.2.2.1.alloc (.cells (vec 32 (bys nd)) 24)) (Arr.new wr 24 32 (bys nd)) (by omega) (by have := (show Below _ _ _ from hL.out.2.2.2.1).size; simp; omega) 22
              have hbl6 : VS V y6 := Below.grown ((show Below _ _ _ from hL.out.2.2.2.1).alloc (show Below _ _ _ from hL.out.2.2.2.1).size _) hg6 (by have := (show Below _ _ _ from hL.out.2.2.2.1).size; simp; omega) (fun q hq => ((hL.out.2.2.2.2.1.alloc (.cells (vec 32 (bys nd)) 24)).lt q hq).1)
              have hat6 : At y6 a lk := hL.out.2.1.same ((hg6.block _ (by have := hL.out.2.2.1; simp; omega) (fun e => hL.out.2.2.2.2.2.1 _ e.symm rfl)).trans (Below.heap_alloc _ _ _ hL.out.2.2.1))
              have hab6 : a.block < y6.heap.size := by have := hg6.size; have := hL.out.2.2.1; simp at *; omega
              have HAT : Hid (At y6 a lk ∧ a.block < y6.heap.size) := Lib.hid ⟨hat6, hab6⟩
              have HSD : Hid (Arr y6 w.heap.size 24 32 (bys seed)) := Lib.hid (HA.out.1.under hbl6)
              have HTW : Hid (Tabs y6) := Lib.hid (tabs_below HT.out (HA.out.2.2.trans ((show Below V.heap.size V y6 from hbl6).mono HA.out.2.2.size)))
              have HOK : Hid ((0 : Nat) < 4294967296 ∧ k < 4294967296) := Lib.hid ⟨by decide, by omega⟩
              have HVW : Hid (VS V y6) := Lib.hid hbl6
              have HAU : Hid (y6.ownsRow V.heap.size 24 32 v6 (k + 1) (cellsN (authF (joinR seed 2 0) l idx (k + 1)))) := Lib.hid (by rw [authF_succ, cellsN_snoc, ← hlk, ← hi, ← hj0, ← hnd]; exact hown6)
              have HLK := Lib.hid hlk
              have hl1000 : lk.length ≤ 1000 := by omega
              have hlev : lk.length % 2 = 0 := by omega
              have hl2 : 2 ≤ lk.length := by rw [← hnl, hn1]; have := Nat.pow_le_pow_right (show 0 < 2 by decide) (show 1 ≤ H - k by omega); omega
              clear hL hown6 hg6 hbl6 hat6 hab6 hpc hnd hj0 hi hil hlk hn1 heven hn40
              subst hnl
              obtain ⟨gq, cq, rfl⟩ := ownsRow_succ HAU.out
              go_wp2_with (first
                | ((with_reducible show wpList _ _ _ (Oper.mk _ (.load _ _) _ _ _ _ :: _) _ _); refine wl_load_p rfl 24 _ rfl p rfl _ (load_p HC0.out) ?_)
                | ((with_reducible show wpList _ _ _ (Oper.mk _ (.buildSlice _ _ _) _ _ _ _ :: _) _ _); refine wpList_plain rfl fun K hK => ow_build1 _ rfl nd rfl (hK _ _ ?_); clear hK K)
                | ((with_reducible show wpList _ _ _ (Oper.mk _ (.call ⟨.builtin .append, _, _⟩) _ _ _ _ :: _) _ _); refine wpList_plain rfl fun K hK => Lib.wp_append_run _ _ _ _ _ rfl _ _ rfl rfl _ _ hr6 (hK _ _ ?_); clear hK K))
              clear hr6 HC0 hp hxr hsh hkm hjI hj
              obtain ⟨W0, hW0⟩ : ∃ W0, W0 = y6 := ⟨_, rfl⟩
              rw [← hW0] at HAT HSD HTW HVW HAU
              rw [← hW0]
              clear hW0
              go_loopw [13, 14] (fun s i W => ∃ (q m : Nat), q ≤ lk.length / 2 ∧ i = .int .i64 (m : Int) ∧ Hid (RQ W0 (joinR seed 2 0 k) lk q m s W)) (fun _ i _ => lk.length - (intOf i).toNat)
              case atStart => exact ⟨0, 0, Nat.zero_le _, rfl, Lib.hid ⟨World.ownsRow_nil _ _ _ _, Below.refl _ _, rfl⟩⟩
              case round =>
                obtain ⟨q, m, hq, rfl, hQ⟩ := hrel
                have hmq := hQ.out.m
                by_cases hlt : q < lk.length / 2
                · have hltI : (m : Int) < (lk.length : Int) := by omega
                  obtain ⟨m1, hm1⟩ : ∃ m1, m1 = m + 1 := ⟨_, rfl⟩
                  obtain ⟨m2, hm2⟩ : ∃ m2, m2 = m + 2 := ⟨_, rfl⟩
                  have hlm : m < lk.length := by omega
                  have hlm1 : m1 < lk.length := by omega
                  obtain ⟨p, hp, hpc⟩ := (HAT.out.1.same (Below.block hQ.out.b _ HAT.out.2)).get hlm
                  obtain ⟨p2, hp2, hpc2⟩ := (HAT.out.1.same (Below.block hQ.out.b _ HAT.out.2)).get hlm1
                  obtain ⟨x, hx⟩ : ∃ x, x = lk.getD m zb := ⟨_, rfl⟩
                  obtain ⟨y, hy⟩ : ∃ y, y = lk.getD m1 zb := ⟨_, rfl⟩
                  rw [← hx] at hpc
                  rw [← hy] at hpc2
                  have hpb : p.block < W0.heap.size := by rw [← hp, addr_add_block]; exact HAT.out.2
                  have hpb2 : p2.block < W0.heap.size := by rw [← hp2, addr_add_block]; exact HAT.out.2
                  have HXY : Hid ((∀ i, i < 32 → W0.cell? (p.add i) = some (bys x i)) ∧ (∀ i, i < 32 → W0.cell? (p2.add i) = some (bys y i)) ∧ p.block < W0.heap.size ∧ p2.block < W0.heap.size) :=
                    Lib.hid ⟨fun i hi => (Below.cell hQ.out.b (by rw [addr_add_block]; exact hpb)).symm.trans (hpc i hi), fun i hi => (Below.cell hQ.out.b (by rw [addr_add_block]; exact hpb2)).symm.trans (hpc2 i hi), hpb, hpb2⟩
                  have HMQ : Hid (m = 2 * q ∧ x = lk.getD (2 * q) zb ∧ y = lk.getD (2 * q + 1) zb ∧ m2 = 2 * (q + 1) ∧ True) := Lib.hid ⟨hmq, by rw [hx, hmq], by rw [hy, hm1, hmq], by omega, trivial⟩
                  have hwm1 : IntKind.i64.wrap ((m : Int) + 1) = (m1 : Int) := by rw [IntKind.wrap_i64]; omega
                  have hwm2 : IntKind.i64.wrap ((m : Int) + 2) = (m2 : Int) := by rw [IntKind.wrap_i64]; omega
                  have hdv : (m : Int) / 2 = (q : Int) := by omega
                  have hwq : IntKind.u32.wrap (q : Int) = (q : Int) := by rw [IntKind.wrap_u32']; omega
                  have hwq0 : IntKind.i64.wrap (q : Int) = (q : Int) := by rw [IntKind.wrap_i64]; omega
                  have HR : Hid (wr.drew.ownsRow W0.heap.size 24 32 _ q (cellsN (madeP (joinR seed 2 0 k) (prs lk q)))) := Lib.hid hQ.out.row
                  have HS := Lib.hid (vs_drew hQ.out.b)
                  clear hpc hpc2 hx hy hpb hpb2 hQ hmq hm1 hm2
                  go_upto_region 16 with fail
                  refine wp_region_held_drew (S := fun Y => VS W0 Y) (by kernel_rfl) HS.out (fun hS => ?_)
                  (refine held_take (i := 0) (oi := ?ot1) (v := ?vt1) ?at1 (by kernel_rfl) (by kernel_rfl) (by kernel_rfl) ?bt1 ?ct1 ?dt1 (by assumption) ?rt1; (case at1 => (simp only [List.getElem?_toArray, List.getElem?_cons_zero]; rfl)); (case bt1 => exact fun _ _ _ h => h); (case ct1 => kernel_rfl); (case dt1 => (intro W hW; (try dsimp only at hW); go_split_ands; go_simp; (try with_reducible rfl))); (case' rt1 => simp only [Act.put, List.setIfInBounds_toArray, List.set_cons_zero, List.set_cons_succ]))
                  (refine held_take (i := 1) (oi := ?ot2) (v := ?vt2) ?at2 (by kernel_rfl) (by kernel_rfl) (by kernel_rfl) ?bt2 ?ct2 ?dt2 (by assumption) ?rt2; (case at2 => (simp only [List.getElem?_toArray, List.getElem?_cons_zero, List.getElem?_cons_succ]; rfl)); (case bt2 => exact fun _ _ _ h => h); (case ct2 => kernel_rfl); (case dt2 => (intro W hW; (try dsimp only at hW); go_split_ands; go_simp; (try with_reducible rfl))); (case' rt2 => simp only [Act.put, List.setIfInBounds_toArray, List.set_cons_zero, List.set_cons_succ]))
                  (refine held_take (i := 2) (oi := ?ot3) (v := ?vt3) ?at3 (by kernel_rfl) (by kernel_rfl) (by kernel_rfl) ?bt3 ?ct3 ?dt3 (by assumption) ?rt3; (case at3 => (simp only [List.getElem?_toArray, List.getElem?_cons_zero, List.getElem?_cons_succ]; rfl)); (case bt3 => exact fun _ _ _ h => h); (case ct3 => kernel_rfl); (case dt3 => (intro W hW; (try dsimp only at hW); go_split_ands; go_simp; (try with_reducible rfl))); (case' rt3 => simp only [Act.put, List.setIfInBounds_toArray, List.set_cons_zero, List.set_cons_succ]))
                  (refine held_take (i := 3) (oi := ?ot4) (v := .pointer (some p)) ?at4 (by kernel_rfl) (by kernel_rfl) (by kernel_rfl) ?bt4 ?ct4 ?dt4 (by assumption) ?rt4; (case at4 => (simp only [List.getElem?_toArray, List.getElem?_cons_zero, List.getElem?_cons_succ]; rfl)); (case bt4 => exact fun _ _ _ h => h); (case ct4 => kernel_rfl); (case dt4 => (intro W hW; clear hW; go_simp; (try with_reducible rfl); (try (intro h; omega)))); (case' rt4 => simp only [Act.put, List.setIfInBounds_toArray, List.set_cons_zero, List.set_cons_succ]))
                  (refine held_take (i := 4) (oi := ?ot5) (v := .agg (vec 32 (bys x))) ?at5 (by kernel_rfl) (by kernel_rfl) (by kernel_rfl) ?bt5 ?ct5 ?dt5 (by assumption) ?rt5; (case at5 => (simp only [List.getElem?_toArray, List.getElem?_cons_zero, List.getElem?_cons_succ]; rfl)); (case bt5 => exact fun _ _ _ h => h); (case ct5 => kernel_rfl); (case dt5 => (intro W hW; exact exec_load_p 24 _ rfl p rfl _ (load_p fun i hi => (World.cell?_of_block (a := p.add i) (by rw [addr_add_block]; exact Below.block hW _ HXY.out.2.2.1)).trans (HXY.out.1 i hi)))); (case' rt5 => simp only [Act.put, List.setIfInBounds_toArray, List.set_cons_zero, List.set_cons_succ]))
                  (refine held_take (i := 5) (oi := ?ot6) (v := ?vt6) ?at6 (by kernel_rfl) (by kernel_rfl) (by kernel_rfl) ?bt6 ?ct6 ?dt6 (by assumption) ?rt6; (case at6 => (simp only [List.getElem?_toArray, List.getElem?_cons_zero, List.getElem?_cons_succ]; rfl)); (case bt6 => exact fun _ _ _ h => h); (case ct6 => kernel_rfl); (case dt6 => (intro W hW; (try dsimp only at hW); go_split_ands; go_simp; (try with_reducible rfl))); (case' rt6 => simp only [Act.put, List.setIfInBounds_toArray, List.set_cons_zero, List.set_cons_succ]))
                  (refine held_take (i := 6) (oi := ?ot7) (v := ?vt7) ?at7 (by kernel_rfl) (by kernel_rfl) (by kernel_rfl) ?bt7 ?ct7 ?dt7 (by assumption) ?rt7; (case at7 => (simp only [List.getElem?_toArray, List.getElem?_cons_zero, List.getElem?_cons_succ]; rfl)); (case bt7 => exact fun _ _ _ h => h); (case ct7 => kernel_rfl); (case dt7 => (intro W hW; (try dsimp only at hW); go_split_ands; go_simp; (try with_reducible rfl))); (case' rt7 => simp only [Act.put, List.setIfInBounds_toArray, List.set_cons_zero, List.set_cons_succ]))
                  (refine held_take (i := 7) (oi := ?ot8) (v := ?vt8) ?at8 (by kernel_rfl) (by kernel_rfl) (by kernel_rfl) ?bt8 ?ct8 ?dt8 (by assumption) ?rt8; (case at8 => (simp only [List.getElem?_toArray, List.getElem?_cons_zero, List.getElem?_cons_succ]; rfl)); (case bt8 => exact fun _ _ _ h => h); (case ct8 => kernel_rfl); (case dt8 => (intro W hW; (try dsimp only at hW); go_split_ands; go_simp; (try with_reducible rfl))); (case' rt8 => simp only [Act.put, List.setIfInBounds_toArray, List.set_cons_zero, List.set_cons_succ]))
                  (refine held_take (i := 8) (oi := ?ot9) (v := .pointer (some p2)) ?at9 (by kernel_rfl) (by kernel_rfl) (by kernel_rfl) ?bt9 ?ct9 ?dt9 (by assumption) ?rt9; (case at9 => (simp only [List.getElem?_toArray, List.getElem?_cons_zero, List.getElem?_cons_succ]; rfl)); (case bt9 => exact fun _ _ _ h => h); (case ct9 => kernel_rfl); (case dt9 => (intro W hW; clear hW; go_simp; (try with_reducible rfl); (try (intro h; omega)))); (case' rt9 => simp only [Act.put, List.setIfInBounds_toArray, List.set_cons_zero, List.set_cons_succ]))
                  (refine held_take (i := 9) (oi := ?ot10) (v := .agg (vec 32 (bys y))) ?at10 (by kernel_rfl) (by kernel_rfl) (by kernel_rfl) ?bt10 ?ct10 ?dt10 (by assumption) ?rt10; (case at10 => (simp only [List.getElem?_toArray, List.getElem?_cons_zero, List.getElem?_cons_succ]; rfl)); (case bt10 => exact fun _ _ _ h => h); (case ct10 => kernel_rfl); (case dt10 => (intro W hW; exact exec_load_p 24 _ rfl p2 rfl _ (load_p fun i hi => (World.cell?_of_block (a := p2.add i) (by rw [addr_add_block]; exact Below.block hW _ HXY.out.2.2.2)).trans (HXY.out.2.1 i hi)))); (case' rt10 => simp only [Act.put, List.setIfInBounds_toArray, List.set_cons_zero, List.set_cons_succ]))
                  (refine held_take (i := 10) (oi := ?ot11) (v := .agg (vec 32 (bys seed))) ?at11 (by kernel_rfl) (by kernel_rfl) (by kernel_rfl) ?bt11 ?ct11 ?dt11 (by assumption) ?rt11; (case at11 => (simp only [List.getElem?_toArray, List.getElem?_cons_zero, List.getElem?_cons_succ]; rfl)); (case bt11 => exact fun _ _ _ h => h); (case ct11 => kernel_rfl); (case dt11 => (intro W hW; exact exec_load 24 _ rfl _ rfl _ (run_load_arr (HSD.out.under hW) Tryd.underlying24 rfl info26))); (case' rt11 => simp only [Act.put, List.setIfInBounds_toArray, List.set_cons_zero, List.set_cons_succ]))
                  (refine held_take (i := 11) (oi := ?ot12) (v := ?vt12) ?at12 (by kernel_rfl) (by kernel_rfl) (by kernel_rfl) ?bt12 ?ct12 ?dt12 (by assumption) ?rt12; (case at12 => (simp only [List.getElem?_toArray, List.getElem?_cons_zero, List.getElem?_cons_succ]; rfl)); (case bt12 => exact fun _ _ _ h => h); (case ct12 => kernel_rfl); (case dt12 => (intro W hW; (try dsimp only at hW); go_split_ands; go_simp; (try with_reducible rfl))); (case' rt12 => simp only [Act.put, List.setIfInBounds_toArray, List.set_cons_zero, List.set_cons_succ]))
                  (refine held_take (i := 12) (oi := ?ot13) (v := ?vt13) ?at13 (by kernel_rfl) (by kernel_rfl) (by kernel_rfl) ?bt13 ?ct13 ?dt13 (by assumption) ?rt13; (case at13 => (simp only [List.getElem?_toArray, List.getElem?_cons_zero, List.getElem?_cons_succ]; rfl)); (case bt13 => exact fun _ _ _ h => h); (case ct13 => kernel_rfl); (case dt13 => (intro W hW; (try dsimp only at hW); go_split_ands; go_simp; (try with_reducible rfl))); (case' rt13 => simp only [Act.put, List.setIfInBounds_toArray, List.set_cons_zero, List.set_cons_succ]))
                  (refine held_take (i := 13) (oi := ?ot14) (v := ?vt14) ?at14 (by kernel_rfl) (by kernel_rfl) (by kernel_rfl) ?bt14 ?ct14 ?dt14 (by assumption) ?rt14; (case at14 => (simp only [List.getElem?_toArray, List.getElem?_cons_zero, List.getElem?_cons_succ]; rfl)); (case bt14 => exact fun _ _ _ h => h); (case ct14 => kernel_rfl); (case dt14 => (intro W hW; (try dsimp only at hW); go_split_ands; go_simp; (try with_reducible rfl))); (case' rt14 => simp only [Act.put, List.setIfInBounds_toArray, List.set_cons_zero, List.set_cons_succ]))
                  (refine held_take (i := 14) (oi := ?ot15) (v := ?vt15) ?at15 (by kernel_rfl) (by kernel_rfl) (by kernel_rfl) ?bt15 ?ct15 ?dt15 (by assumption) ?rt15; (case at15 => (simp only [List.getElem?_toArray, List.getElem?_cons_zero, List.getElem?_cons_succ]; rfl)); (case bt15 => exact fun _ _ _ h => h); (case ct15 => kernel_rfl); (case dt15 => (intro W hW; (try dsimp only at hW); go_split_ands; go_simp; (try with_reducible rfl))); (case' rt15 => simp only [Act.put, List.setIfInBounds_toArray, List.set_cons_zero, List.set_cons_succ]))
                  (refine held_take (i := 15) (oi := ?ot16) (v := ?vt16) ?at16 (by kernel_rfl) (by kernel_rfl) (by kernel_rfl) ?bt16 ?ct16 ?dt16 (by assumption) ?rt16; (case at16 => (simp only [List.getElem?_toArray, List.getElem?_cons_zero, List.getElem?_cons_succ]; rfl)); (case bt16 => exact fun _ _ _ h => h); (case ct16 => kernel_rfl); (case dt16 => (intro W hW; (try dsimp only at hW); go_split_ands; go_simp; (try with_reducible rfl))); (case' rt16 => simp only [Act.put, List.setIfInBounds_toArray, List.set_cons_zero, List.set_cons_succ]))
                  (refine held_take (i := 16) (oi := ?ot17) (v := ?vt17) ?at17 (by kernel_rfl) (by kernel_rfl) (by kernel_rfl) ?bt17 ?ct17 ?dt17 (by assumption) ?rt17; (case at17 => (simp only [List.getElem?_toArray, List.getElem?_cons_zero, List.getElem?_cons_succ]; rfl)); (case bt17 => exact fun _ _ _ h => h); (case ct17 => kernel_rfl); (case dt17 => (intro W hW; (try dsimp only at hW); go_split_ands; go_simp; (try with_reducible rfl))); (case' rt17 => simp only [Act.put, List.setIfInBounds_toArray, List.set_cons_zero, List.set_cons_succ]))
                  refine held_one (i := 17) (oi := ?ot18) (by kernel_rfl) ?at18 ?ct18 (fun K17 hK17 => ?_)
                  (case at18 => (simp only [List.getElem?_toArray, List.getElem?_cons_zero, List.getElem?_cons_succ]; rfl))
                  (case ct18 => kernel_rfl)
                  go_simp
                  refine (rrand_any x y seed 0 0 2 0 k q 0 ⟨by decide, by decide, by decide, HOK.out.1, HOK.out.2, by omega, by decide⟩ _ (tabs_below HTW.out hS)).mono ?_
                  rintro e y17 ⟨rfl, hd⟩
                  have HR := Lib.hid (ownsN_below (w := wr.drew) HR.out hd)
                  refine hK17 _ _ (hS.keep hd) (fun hS17 => ?_)
                  clear hS hd hK17 K17
                  refine held_one (i := 18) (oi := ?ot19) (by kernel_rfl) ?at19 ?ct19 (fun K18 hK18 => ?_)
                  (case at19 => (simp only [List.getElem?_toArray, List.getElem?_cons_zero, List.getElem?_cons_succ]; rfl))
                  (case ct19 => kernel_rfl)
                  refine ow_build1 _ rfl (joinR seed 2 0 k q x y) rfl ?_
                  refine hK18 _ _ (hS17.keep ((Below.refl _ _).alloc (Nat.le_refl _) _)) (fun hS18 => ?_)
                  clear hK18 K18
                  refine held_one (i := 19) (oi := ?ot20) (by kernel_rfl) ?at20 ?ct20 (fun K19 hK19 => ?_)
                  (case at20 => (simp only [List.getElem?_toArray, List.getElem?_cons_zero, List.getElem?_cons_succ]; rfl))
                  (case ct20 => kernel_rfl)
                  obtain ⟨v9, y9, hr9, hown9, hg9⟩ := app_own (HR.out.alloc (.cells (vec 32 (bys (joinR seed 2 0 k q x y))) 24)) (Arr.new y17 24 32 (bys (joinR seed 2 0 k q x y))) (by omega) (show Below _ _ _ from hS18).size 22
                  have hbl9 : VS W0 y9 := Below.grown hS18 hg9 (show Below _ _ _ from hS18).size (fun q hq => ((HR.out.alloc (.cells (vec 32 (bys (joinR seed 2 0 k q x y))) 24)).lt q hq).1)
                  refine Lib.wp_append_run _ _ _ _ _ rfl _ _ rfl rfl _ _ hr9 ?_
                  refine hK19 _ _ hbl9 (fun hS19 => ?_)
                  have HN := Lib.hid (And.intro hown9 hbl9)
                  clear hK19 K19 hr9 hown9 hg9 hbl9
                  (refine held_take (i := 20) (oi := ?ot21) (v := ?vt21) ?at21 (by kernel_rfl) (by kernel_rfl) (by kernel_rfl) ?bt21 ?ct21 ?dt21 (by assumption) ?rt21; (case at21 => (simp only [List.getElem?_toArray, List.getElem?_cons_zero, List.getElem?_cons_succ]; rfl)); (case bt21 => exact fun _ _ _ h => h); (case ct21 => kernel_rfl); (case dt21 => (intro W hW; (try dsimp only at hW); go_split_ands; go_simp; (try with_reducible rfl))); (case' rt21 => simp only [Act.put, List.setIfInBounds_toArray, List.set_cons_zero, List.set_cons_succ]))
                  refine wpAnyH_done (by kernel_rfl) ?_ _
                  go_wp2
                  go_roundw
                  case rel => exact ⟨q + 1, m2, by omega, rfl, Lib.hid ⟨by rw [prsP_succ _ _ _ (by omega), ← HMQ.out.2.1, ← HMQ.out.2.2.1, cellsN_snoc]; exact HN.out.1, HN.out.2, HMQ.out.2.2.2.1⟩⟩
                  case measure => have := HMQ.out.2.2.2.1; have := HMQ.out.1; simp [intOf]; omega
                · have hltI : ¬ ((m : Int) < (lk.length : Int)) := by have := hQ.out.m; omega
                  have hmm := hQ.out.m
                  obtain rfl : q = lk.length / 2 := by omega
                  have hO := own_even hQ.out.row (by omega)
                  obtain ⟨a9, c9, rfl, hat9, hb9, hl9⟩ := hO.at (List.length_pos_iff.1 (by rw [raise_length]; omega))
                  have HO := Lib.hid (And.intro hat9 (And.intro hb9 (And.intro hl9 hQ.out.b)))
                  clear hO hat9 hb9 hl9 hmm hQ
                  go_wp2
                  go_roundw
                  case rel => exact ⟨k + 1, a9, c9, _, by omega, rfl, by simp, Lib.hid ⟨by rw [levs_succ, ← HLK.out], by rw [levs_succ, ← HLK.out]; exact HO.out.1, HO.out.2.2.1, Below.trans HVW.out ((show Below _ _ _ from HO.out.2.2.2).mono (show Below _ _ _ from HVW.out).size), ownsN_below HAU.out HO.out.2.2.2, fun g hg => by have h1 := (HAU.out.lt g hg).2; have h2 := HO.out.2.1; omega, by have h2 := HO.out.2.1; have h3 := (show Below _ _ _ from HVW.out).size; have h4 := HSV.out; omega⟩⟩
                  case measure => simp [intOf]; omega
            · obtain rfl : k = H := by omega
              have hkI : ¬ (k : Int) < (k : Int) := by omega
              have hn : n = 1 := by rw [hn1]; simp
              have hnI : (0 : Int) < (n : Int) := by omega
              obtain ⟨p, hp, hpc⟩ := hL.out.2.1.get (k := 0) (by have := hL.out.1; omega)
              have hp0 : a.add 0 = p := by simpa using hp
              obtain ⟨nd, hnd⟩ : ∃ nd, nd = (levs (joinR seed 2 0) l k).getD 0 zb := ⟨_, rfl⟩
              rw [← hnd] at hpc
              have hR2 : Arr wr (w.heap.size + 1) 24 32 (bys zb) := HA.out.2.1.under hL.out.2.2.2.1
              have HE : Hid (pathR l idx seed = nd ∧ pathA l idx seed = authF (joinR seed 2 0) l idx k) := Lib.hid (by
                have h1 : (levs (joinR seed 2 0) l k).length = 1 := by rw [← hL.out.1]; exact hn
                unfold pathR pathA
                rw [HPT.out, if_pos rfl, if_pos rfl, HL.out.2.1, hgt_pow k HL.out.1, hnd]
                exact ⟨topF_at _ l k h1 (fun j hj => by rw [levs_pow _ l k HL.out.2.1 j (by omega)]; exact Nat.one_lt_two_pow (by omega)), rfl⟩)
              have hpb : p.block = a.block := by rw [← hp, addr_add_block]
              have HPB : Hid (p.block < wr.heap.size ∧ p.block ≠ w.heap.size + 1) := Lib.hid ⟨by rw [hpb]; exact hL.out.2.2.1, by rw [hpb]; exact hL.out.2.2.2.2.2.2⟩
              have HF := Lib.hid (And.intro hpc (And.intro hR2 (And.intro hL.out.2.2.2.2.1 (HA.out.2.2.trans ((show Below V.heap.size V wr from hL.out.2.2.2.1).mono HA.out.2.2.size)))))
              clear hpc hp hR2 hL hn1 hnd hpb
              go_upto_region 18 with fail
              refine wp_region_held_drew (S := fun Y => SR wr (w.heap.size + 1) Y) (by kernel_rfl) (SR.begin HF.out.2.1) (fun hS => ?_)
              (refine held_take (i := 0) (oi := ?ot22) (v := ?vt22) ?at22 (by kernel_rfl) (by kernel_rfl) (by kernel_rfl) ?bt22 ?ct22 ?dt22 (by assumption) ?rt22; (case at22 => (simp only [List.getElem?_toArray, List.getElem?_cons_zero]; rfl)); (case bt22 => exact fun _ _ _ h => h); (case ct22 => kernel_rfl); (case dt22 => (intro W hW; (try dsimp only at hW); go_split_ands; go_simp; (try with_reducible rfl))); (case' rt22 => simp only [Act.put, List.setIfInBounds_toArray, List.set_cons_zero, List.set_cons_succ]))
              (refine held_take (i := 1) (oi := ?ot23) (v := ?vt23) ?at23 (by kernel_rfl) (by kernel_rfl) (by kernel_rfl) ?bt23 ?ct23 ?dt23 (by assumption) ?rt23; (case at23 => (simp only [List.getElem?_toArray, List.getElem?_cons_zero, List.getElem?_cons_succ]; rfl)); (case bt23 => exact fun _ _ _ h => h); (case ct23 => kernel_rfl); (case dt23 => (intro W hW; (try dsimp only at hW); go_split_ands; go_simp; (try with_reducible rfl))); (case' rt23 => simp only [Act.put, List.setIfInBounds_toArray, List.set_cons_zero, List.set_cons_succ]))
              (refine held_take (i := 2) (oi := ?ot24) (v := .pointer (some p)) ?at24 (by kernel_rfl) (by kernel_rfl) (by kernel_rfl) ?bt24 ?ct24 ?dt24 (by assumption) ?rt24; (case at24 => (simp only [List.getElem?_toArray, List.getElem?_cons_zero, List.getElem?_cons_succ]; rfl)); (case bt24 => exact fun _ _ _ h => h); (case ct24 => kernel_rfl); (case dt24 => (intro W hW; clear hW; go_simp; (try with_reducible rfl); (try (intro h; omega)))); (case' rt24 => simp only [Act.put, List.setIfInBounds_toArray, List.set_cons_zero, List.set_cons_succ]))
              (refine held_take (i := 3) (oi := ?ot25) (v := .agg (vec 32 (bys nd))) ?at25 (by kernel_rfl) (by kernel_rfl) (by kernel_rfl) ?bt25 ?ct25 ?dt25 (by assumption) ?rt25; (case at25 => (simp only [List.getElem?_toArray, List.getElem?_cons_zero, List.getElem?_cons_succ]; rfl)); (case bt25 => exact fun _ _ _ h => h); (case ct25 => kernel_rfl); (case dt25 => (intro W hW; exact exec_load_p 24 _ rfl p rfl _ (load_p fun i hi => (hW.save.cell (p := p.add i) (by rw [addr_add_block]; exact HPB.out.1) (by rw [addr_add_block]; exact HPB.out.2)).trans (HF.out.1 i hi)))); (case' rt25 => simp only [Act.put, List.setIfInBounds_toArray, List.set_cons_zero, List.set_cons_succ]))
              (refine held_take (i := 4) (oi := ?ot26) (v := ?vt26) ?at26 (by kernel_rfl) (by kernel_rfl) (by kernel_rfl) ?bt26 ?ct26 ?dt26 (by assumption) ?rt26; (case at26 => (simp only [List.getElem?_toArray, List.getElem?_cons_zero, List.getElem?_cons_succ]; rfl)); (case bt26 => exact fun _ _ _ h => h); (case ct26 => kernel_rfl); (case dt26 => (intro W hW; (try dsimp only at hW); go_split_ands; go_simp; (try with_reducible rfl))); (case' rt26 => simp only [Act.put, List.setIfInBounds_toArray, List.set_cons_zero, List.set_cons_succ]))
              refine held_one (i := 5) (oi := ?ot27) (by kernel_rfl) ?at27 ?ct27 (fun K5 hK5 => ?_)
              (case at27 => (simp only [List.getElem?_toArray, List.getElem?_cons_zero, List.getElem?_cons_succ]; rfl))
              (case ct27 => kernel_rfl)
              obtain ⟨f0, hf0⟩ := hS.res
              refine ow_store 24 _ _ rfl _ rfl _ rfl (run_store_arr hf0 (bys (nd)) info26 (bys_one _ _)) ?_
              refine hK5 _ _ (hS.put _) (fun hS5 => ?_)
              clear hK5 K5
              (refine held_take (i := 6) (oi := ?ot28) (v := ?vt28) ?at28 (by kernel_rfl) (by kernel_rfl) (by kernel_rfl) ?bt28 ?ct28 ?dt28 (by assumption) ?rt28; (case at28 => (simp only [List.getElem?_toArray, List.getElem?_cons_zero, List.getElem?_cons_succ]; rfl)); (case bt28 => exact fun _ _ _ h => h); (case ct28 => kernel_rfl); (case dt28 => (intro W hW; (try dsimp only at hW); go_split_ands; go_simp; (try with_reducible rfl))); (case' rt28 => simp only [Act.put, List.setIfInBounds_toArray, List.set_cons_zero, List.set_cons_succ]))
              refine wpAnyH_done (by kernel_rfl) ?_ _
              go_wp2
              refine bodyPost_ret (results_tct rfl _ _ _ rfl (run_load_arr (hf0.row _) Tryd.underlying24 rfl info26)) rfl ⟨_, by rw [HE.out.1, HPT.out]; rfl, ?_, hS5.below HF.out.2.2.2 (by omega)⟩
              rw [HE.out.2]
              unfold OwnN
              rw [authF_length]
              have hsv := HSV.out
              exact owns_low (base := V.heap.size) (owns_block HF.out.2.2.1 (fun g hg hlt => hS5.save.block g hlt (by omega))) (by omega)
        · have hcI : (l.length : Int) ≤ (idx : Int) := by omega
          have hcN : l.length ≤ idx := by omega
          have HPT : Hid (isPath l.length idx = false) := Lib.hid (by unfold isPath; rw [hpow]; simpa using hc)
          clear hP hpow
          go_wp2_with (first
            | ((with_reducible show wpList _ _ _ (Oper.mk _ (.build _ _) _ _ _ _ :: _) _ _); refine wl_build rfl 24 _ rfl (vec 32 (bys zb)) (by kernel_rfl) ?_)
            | ((with_reducible show wpList _ _ _ (Oper.mk _ (.store _ _ _) _ _ _ _ :: _) _ _); refine wl_store rfl 24 _ _ rfl _ rfl _ rfl (run_store_arr HA.out.2.1 (bys zb) info26 (bys_one _ _)) ?_))
          exact bodyPost_ret (results_tct rfl _ _ _ rfl (run_load_arr (HA.out.2.1.row _) Tryd.underlying24 rfl info26)) rfl ⟨_, by unfold pathR; rw [HPT.out, if_neg (by decide)]; rfl, by unfold pathA; rw [HPT.out, if_neg (by decide)]; exact World.ownsRow_nil _ _ _ _, below_row HA.out.2.2 (by omega) _⟩
      · have hbI : ((P : Int) != (l.length : Int)) = true := bne_iff_ne.2 (by omega)
        have HPT : Hid (isPath l.length idx = false) := Lib.hid (by
          have hP := HPQ.out.1
          have hQ := HPQ.out.2
          cases hpw : pow2 l.length with
          | false => unfold isPath; rw [hpw]; rfl
          | true =>
            exfalso
            obtain ⟨G, hG, e⟩ := pow2_exp _ hpw
            rw [e] at hQ ha hb
            rw [hP] at ha hb
            have h1 : G ≤ H := by
              rcases Nat.lt_or_ge H G with h | h
              · exact absurd ((Nat.pow_lt_pow_iff_right (by decide : 1 < 2)).2 h) ha
              · exact h
            rcases hQ with h | h
            · have : G = H := by omega
              rw [this] at hb; exact hb rfl
            · have h2 := (Nat.pow_lt_pow_iff_right (by decide : 1 < 2)).1 h
              have : G = H := by omega
              rw [this] at hb; exact hb rfl)
        go_wp2_with (first
          | ((with_reducible show wpList _ _ _ (Oper.mk _ (.build _ _) _ _ _ _ :: _) _ _); refine wl_build rfl 24 _ rfl (vec 32 (bys zb)) (by kernel_rfl) ?_)
          | ((with_reducible show wpList _ _ _ (Oper.mk _ (.store _ _ _) _ _ _ _ :: _) _ _); refine wl_store rfl 24 _ _ rfl _ rfl _ rfl (run_store_arr HA.out.2.1 (bys zb) info26 (bys_one _ _)) ?_))
        exact bodyPost_ret (results_tct rfl _ _ _ rfl (run_load_arr (HA.out.2.1.row _) Tryd.underlying24 rfl info26)) rfl ⟨_, by unfold pathR; rw [HPT.out, if_neg (by decide)]; rfl, by unfold pathA; rw [HPT.out, if_neg (by decide)]; exact World.ownsRow_nil _ _ _ _, below_row HA.out.2.2 (by omega) _⟩
end Go.Proofs.YtmhdhhdhnkoocaaDoor
