/- span.borders: its iterator tells the borders of a row, strictly rising. -/
import Derived.Test.YtmhhckpdhjnmeaaComp
import Derived.Test.YtmhhckpdhjnmeaaRange
namespace Go.Proofs.Ytmhhckpdhjnmeaa
open Go.RowKit Go.Shelf
attribute [local go_sem] Oper.semAt_some

/-- An append, kept closed: an equation says what it makes. -/
def appS (ts : Array TypeId) (ty : TypeId) (vs : Array Value) : Sem Value := Builtin.append_ ts ty vs
theorem builtin_appS (ats : Array TypeId) (ty : TypeId) (cs : Array Bool) (args : Array Value) : builtin .append ats ty cs args = (do pure (.value (← appS ats ty args))) := rfl
attribute [local go_sem ↓ high] builtin_appS
theorem ends1_good {x : Sp} (h : good x = true) : ends1 x = x.1 :: (if last x < 18446744073709551615 then [last x + 1] else []) := by unfold ends1; rw [if_pos h]
theorem ends1_len (x : Sp) : (ends1 x).length ≤ 2 := by
  unfold ends1
  split
  · split <;> simp
  · simp
theorem ends_len : ∀ (l : List Sp), (l.flatMap ends1).length ≤ 2 * l.length
  | [] => by simp
  | x :: r => by
    have := ends_len r
    have := ends1_len x
    rw [List.flatMap_cons, List.length_append, List.length_cons]; omega
theorem ends_goods {l : List Sp} (hl : ∀ x ∈ l, fit x) : (vals (goods l)).flatMap ends1 = allB l := by
  unfold vals allB
  rw [goods_val hl]
  clear hl
  induction l with
  | nil => rfl
  | cons x r ih =>
    rw [List.flatMap_cons, ← ih]
    by_cases h : good x = true
    · rw [List.filter_cons_of_pos h, List.flatMap_cons]
    · rw [List.filter_cons_of_neg h]
      have : ends1 x = [] := by unfold ends1; rw [if_neg h]
      rw [this, List.nil_append]
theorem Boxed2.grown {W w1 : World} {Bx n₀ k : Nat} {x : Sp} {v : Value} {xs : List Value} {tmp : Obj} (bX : Boxed2 W Bx x) (hrow : W.ownsRow n₀ 22 1 v k xs) (hgrow : (W.alloc tmp).grownBy w1 v.ownBlock) : Boxed2 w1 Bx x := by
  have hlt : Bx < W.heap.size := (Array.getElem?_eq_some_iff.1 bX).1
  have hno : some Bx ≠ v.ownBlock := by
    rcases hrow.2 with ⟨rfl, _⟩ | ⟨g, cap, cur, rfl, _, hgb, _⟩
    · simp [Value.ownBlock]
    · intro e
      obtain rfl : Bx = g := by simpa [Value.ownBlock] using e
      have := (show W.heap[Bx]? = _ from bX).symm.trans hgb
      simp [spo] at this
  show w1.heap[Bx]? = _
  rw [hgrow.block Bx (by simp; omega) hno, Below.heap_alloc _ _ _ hlt]
  exact bX
/-- An append of one number onto a row of the call's own, as an equation. -/
theorem app_run (w : World) (base : Nat) (v : Value) (k : Nat) (xs : List Value) (x : Nat) (hown : w.ownsRow base 22 1 v k xs) (hb : base ≤ w.heap.size) (hk : k + 1 ≤ 1000000) (ty : TypeId) :
    ∃ v' w', (appS #[31, 31] ty #[v, .slice (some ⟨w.heap.size, 0, none⟩) 1 1]).run Try.prog (w.alloc (.cells #[.int .u64 (x : Int)] 22)) = .ok v' w' ∧ w'.ownsRow base 22 1 v' (k + 1) (xs ++ u64s [x]) ∧ (w.alloc (.cells #[.int .u64 (x : Int)] 22)).grownBy w' v.ownBlock := by
  obtain ⟨i0, hi, hz0, hz1, hz2⟩ := info_parts u64_info
  obtain ⟨v', w', h1, h2, h3, _⟩ := run_app (P := Try.prog) base 31 ty 22 i0 (.int .u64 0) 8 Try.underlying31 hi hz0 hz1 hz2 rfl v k xs (hown.alloc _) (w.heap.size + 1) (some ⟨w.heap.size, 0, none⟩) 1 1 (u64s [x]) (lies_new w #[.int .u64 (x : Int)] 22 1 (u64s [x]) rfl rfl) (u64s_one _) (by unfold maxLen; omega) (by omega) (by simp; omega)
  exact ⟨v', w', h1, h2, h3⟩

/-- A border, within 64 bits. -/
abbrev N64 := { b : Nat // b < TT }
def numsOf (l : List Nat) : List N64 := l.filterMap fun b => if h : b < TT then some ⟨b, h⟩ else none
theorem numsOf_append (a b : List Nat) : numsOf (a ++ b) = numsOf a ++ numsOf b := by simp [numsOf]
theorem numsOf_one {b : Nat} (h : b < TT) : numsOf [b] = [⟨b, h⟩] := by simp [numsOf, h]
theorem numsOf_len (l : List Nat) : (numsOf l).length ≤ l.length := List.length_filterMap_le _ _
def nums (l : List N64) : List Nat := l.map (·.1)
theorem nums_of {l : List Nat} (hl : ∀ b ∈ l, b < TT) : nums (numsOf l) = l := by
  induction l with
  | nil => rfl
  | cons x r ih =>
    have e : x :: r = [x] ++ r := rfl
    have ih' := ih (fun y hy => hl y (by simp [hy]))
    unfold nums at ih' ⊢
    rw [e, numsOf_append, numsOf_one (hl x (by simp)), List.map_append, ih']
    rfl
/-- What a round of a caller of borders keeps: rows of numbers, and what is put off till a return, laid since N0. -/
def keptObj : Obj → Prop
  | .cells _ e _ => e = 22
  | .deferred _ => True
  | _ => False
def Keeps (N0 : Nat) (W W' : World) : Prop := W.heap.size ≤ W'.heap.size ∧ ∀ k o, N0 ≤ k → W.heap[k]? = some o → keptObj o → W'.heap[k]? = some o
theorem Keeps.trans {N0 : Nat} {A B C : World} (h : Keeps N0 A B) (k : Keeps N0 B C) : Keeps N0 A C := ⟨Nat.le_trans h.1 k.1, fun i o hi ho hk => k.2 i o hi (h.2 i o hi ho hk) hk⟩

set_option maxRecDepth 100000 in
set_option maxHeartbeats 2000000 in
theorem borders1_in (M : Nat) (hsort : SortsAt M) (lp Bs N0 cap : Nat) (A : Option Addr) (l : List Sp) (hl : ∀ x ∈ l, fit x) (hlen : l.length ≤ 100000) (hM : (allB l).length ≤ M) (J : List N64 → World → Prop)
    (hY : ∀ pre (x : N64) W, J pre W → pre.length < 2 * l.length → YieldAt Fence.wide 8 Try.prog lp #[.int .u64 (x.1 : Int)] W fun e W' => e = .returned (.bool true) ∧ J (pre ++ [x]) W' ∧ Keeps N0 W W')
    (W : World) (hJ : OwnFrom W.heap.size J) (hN0 : N0 ≤ W.heap.size) (hBs : W.cell? ⟨Bs, 0, none⟩ = some (.slice A l.length cap)) (hc : Row W W.heap.size A l) (h0 : J [] W) :
    CallsIn Fence.wide 9 Try.prog 58 #[.func (.yield lp) #[] #[], .pointer (some ⟨Bs, 0, none⟩)] W fun e W' => (∃ v, e = .returned v) ∧ ∃ ys, Borders l (nums ys) ∧ J ys W' := by
  have hmx : Try.prog.follows .mixedOrders = true := by kernel_rfl
  obtain ⟨i0, hi, hz0, hz1, hz2⟩ := info_parts u64_info
  refine callsIn_of_wp_marks Try.func58 rfl trivial ?_ rfl
  simp only [Try.ntmps58, List.size_toArray, List.length_cons, List.length_nil, Nat.reduceAdd, Nat.reduceSub, Array.replicate_succ, Array.replicate_zero, List.push_toArray, List.append_toArray, List.nil_append, List.cons_append]
  have hBlt : Bs < W.heap.size := World.block_lt_of_cell? W _ hBs
  gi_wp2_with (refine ⟨trivial, ?_⟩; gi_at_call 59; refine (callsIn_wide.2 (good_in _ _ _ _)).mono ?_; rintro e w' ⟨rfl, rfl⟩)
  have egood : ∀ args w, (callFunc 66 args).run Try.prog w = .ok (.enter 66 args) w := enters_of Try.func66 (by kernel_rfl) rfl
  have bO := (Boxed.new W 31 (.slice none 0 0)).alloc (.cells #[.slice A l.length cap] 46)
  have hB0 : Below W.heap.size W ((W.alloc (.cells #[.slice none 0 0] 31)).alloc (.cells #[.slice A l.length cap] 46)) := ((Below.refl _ W).alloc (Nat.le_refl _) _).alloc (by simp) _
  have hcB : ((W.alloc (.cells #[.slice none 0 0] 31)).alloc (.cells #[.slice A l.length cap] 46)).cell? ⟨W.heap.size + 1, 0, none⟩ = some (.slice A l.length cap) := by
    have := (Boxed.new (W.alloc (.cells #[.slice none 0 0] 31)) 46 (.slice A l.length cap)).cell
    rw [World.size_alloc] at this
    exact this
  have hsz0 : ((W.alloc (.cells #[.slice none 0 0] 31)).alloc (.cells #[.slice A l.length cap] 46)).heap.size = W.heap.size + 2 := by simp
  obtain ⟨W0, hW0⟩ : ∃ W0, (W.alloc (.cells #[.slice none 0 0] 31)).alloc (.cells #[.slice A l.length cap] 46) = W0 := ⟨_, rfl⟩
  rw [hW0] at bO hB0 hcB hsz0 ⊢
  clear hW0
  have hstops := good_stops 8 (by decide) (W.heap.size + 1) W.heap.size cap A l hl (by omega) W0 (by omega) (by omega) hcB (hc.below hB0)
  refine wpIn_rangeFunc_ownH rfl (by omega) (gf := 66) (lb := #[.pointer (some ⟨W.heap.size + 1, 0, none⟩)]) rfl trivial egood hstops belowK_t (belowK_b (by omega)) (Below.refl _ _) (fun _ => rfl)
    (fun pre W' => (∃ v, Boxed W' W.heap.size 31 v ∧ W'.ownsRow W.heap.size 22 1 v ((vals pre).flatMap ends1).length (u64s ((vals pre).flatMap ends1)) ∧ True) ∧ Below W.heap.size W W')
    (fun _ _ _ => False)
    (OwnFrom.and (Own.from (holdsRow_own W.heap.size W.heap.size 31 22 1 (fun pre => ((vals pre).flatMap ends1).length) (fun pre => u64s ((vals pre).flatMap ends1)) (fun _ _ => True)) _) (ownFrom_below (Nat.le_refl _) (by omega)))
    (fun _ _ _ _ _ hs _ _ => hs)
    ⟨⟨_, bO, World.ownsRow_nil _ _ _ _, trivial⟩, hB0⟩
    (fun x a' W' => ∃ Bx, W.heap.size < Bx ∧ Boxed2 W' Bx x.1 ∧ a' = { tmps := #[.func (.yield lp) #[] #[], .pointer (some ⟨Bs, 0, none⟩), undef, .pointer (some ⟨W.heap.size, 0, none⟩), .pointer (some ⟨Bx, 0, none⟩), undef, undef, .slice A l.length cap, .func (.func 66) #[] #[.pointer (some ⟨W.heap.size + 1, 0, none⟩)], spv x.1, undef, undef, undef, undef, undef, undef, undef, undef, undef, undef, undef, undef, undef, undef, undef, undef, undef, undef, undef, undef, undef, undef, undef, undef, undef, undef, undef, undef], defers := [] })
    (fun x a' _ X Y row hs hg hr => by obtain ⟨Bx, h1, h2, h3⟩ := hs; exact ⟨Bx, h1, Boxed2.own Bx x.1 () X Y row h2 hg (fun r e => (hr r e).2), h3⟩)
    ?assign ?body ?done ?stop
  case assign =>
    rintro lq pre ⟨⟨b, s⟩, hx⟩ W1 K ⟨⟨v, bO1, hrow, _⟩, hB1⟩ hK
    gi_wp2
    exact hK _ _ ((KeepsOthers.alloc _ _).from _) ((Below.refl W.heap.size W1).alloc hB1.size _) ⟨⟨v, bO1.alloc _, hrow.alloc _, trivial⟩, hB1.alloc hB1.size _⟩ ⟨W1.heap.size, bO1.lt, World.alloc_heap_new W1 _, rfl⟩
  case body =>
    rintro lq pre ⟨⟨b, s⟩, hx⟩ a' W1 hl1 hrec ⟨⟨v, hv, hrow, _⟩, hB⟩ ⟨Bx, hBx, bX, rfl⟩ hlt
    have hsnoc : (vals (pre ++ [⟨(b, s), hx⟩])).flatMap ends1 = (vals pre).flatMap ends1 ++ ends1 (b, s) := by rw [vals_snoc, List.flatMap_append]; simp
    have hends := ends1_good hx.2
    have hlenk : ((vals pre).flatMap ends1).length + 2 ≤ 1000000 := by
      have := ends_len (vals pre)
      have e : (vals pre).length = pre.length := by simp [vals]
      omega
    obtain ⟨L, hL⟩ : ∃ L, (vals pre).flatMap ends1 = L := ⟨_, rfl⟩
    rw [hL] at hrow hlenk hsnoc
    have hcv := hv.cell
    have c0 := bX.cell0
    obtain ⟨v1, w1, hrun1, hown1, hgr1⟩ := app_run W1 W.heap.size v _ _ b hrow hB.size (by omega) 31
    obtain ⟨g1, cap1, rfl⟩ := ownsRow_succ hown1
    obtain ⟨hv1, hv2, hr2, hk2, hb2⟩ := hv.appended (by decide) hrow hB.size (Nat.le_refl _) hown1 hgr1
    have bX2 := bX.grown hrow hgr1
    have hc1 := hv1.cell
    have hf1 := hv1.frozen
    have d0 := bX2.cell0
    have d1 := bX2.cell1
    have hcv2 := hv2.cell
    obtain ⟨W2, hW2⟩ : ∃ W2, W2 = w1.setCell ⟨W.heap.size, 0, none⟩ (.slice (some ⟨g1, 0, none⟩) (L.length + 1) cap1) := ⟨_, rfl⟩
    have hs2 : W2.heap.size = w1.heap.size := by rw [hW2]; simp
    rw [← hW2] at hv2 hr2 hk2 hb2
    have hB2 : Below W.heap.size W W2 := hB.trans hb2
    have K1 : ∀ W3 : World, Below W2.heap.size W2 W3 → (∃ v, Boxed W3 W.heap.size 31 v ∧ W3.ownsRow W.heap.size 22 1 v (L.length + 1) (u64s (L ++ [b]))) := by
      intro W3 hb3
      refine ⟨_, (hb3.block _ hv2.lt).trans hv2, ?_⟩
      have e : u64s (L ++ [b]) = u64s L ++ u64s [b] := by simp [u64s]
      rw [e]
      exact OwnN.below (l := L ++ [b]) (by unfold OwnN; rw [e, List.length_append]; exact hr2) hb3 |> fun h => by unfold OwnN at h; rw [e, List.length_append] at h; exact h
    have Hx := Lib.hid hx.1
    by_cases hm : last (b, s) < 18446744073709551615
    · obtain ⟨y, hy⟩ : ∃ y : Int, y = (last (b, s) : Nat) := ⟨_, rfl⟩
      have hlast : ∀ W3, Calls Try.prog 43 #[.agg #[.int .u64 (b : Int), .int .u64 (s : Int)]] W3 fun e w' => e = .returned (.int .u64 y) ∧ w' = (W3.alloc (spo b s)).alloc (spo b s) := fun W3 => by
        rw [hy]; exact last_any b s hx.1 W3
      have Hlast := Lib.hid hlast
      have hyl : y < 18446744073709551615 := by omega
      obtain ⟨z, hz⟩ : ∃ z, z = last (b, s) + 1 := ⟨_, rfl⟩
      have hzw : IntKind.u64.wrap (y + 1) = (z : Int) := by simp [IntKind.wrap, IntKind.bits, IntKind.signed]; omega
      obtain ⟨W5, hW5⟩ : ∃ W5, W5 = ((((W2.alloc (spo b s)).alloc (spo b s)).alloc (spo b s)).alloc (spo b s)).drew := ⟨_, rfl⟩
      have hb5 : Below W2.heap.size W2 W5 := by rw [hW5]; exact (((((Below.refl _ W2).alloc (Nat.le_refl _) _).alloc (by simp) _).alloc (by simp; omega) _).alloc (by simp; omega) _).drew
      have hk5 : KeepsOthers W2 W5 := by rw [hW5]; exact ((KeepsOthers.alloc _ _).trans (KeepsOthers.alloc _ _)).trans (((KeepsOthers.alloc _ _).trans (KeepsOthers.alloc _ _)).trans (KeepsOthers.drew _))
      have hs5 : W5.heap.size = w1.heap.size + 1 + 1 + 1 + 1 := by rw [hW5]; simp; omega
      have hv5 : Boxed W5 W.heap.size 31 (.slice (some ⟨g1, 0, none⟩) (L.length + 1) cap1) := (hb5.block _ hv2.lt).trans hv2
      have hr5 : W5.ownsRow W.heap.size 22 1 (.slice (some ⟨g1, 0, none⟩) (L.length + 1) cap1) (L.length + 1) (u64s L ++ u64s [b]) := by
        have e : u64s (L ++ [b]) = u64s L ++ u64s [b] := by simp [u64s]
        have h1 : OwnN W2 W.heap.size (.slice (some ⟨g1, 0, none⟩) (L.length + 1) cap1) (L ++ [b]) := by unfold OwnN; rw [e, List.length_append]; exact hr2
        have h2 := h1.below hb5
        unfold OwnN at h2
        rw [e, List.length_append] at h2
        exact h2
      obtain ⟨v2, w2, hrun2, hown2, hgr2⟩ := app_run W5 W.heap.size _ _ _ z hr5 (Nat.le_trans hB2.size hb5.size) (by omega) 31
      obtain ⟨g2, cap2, rfl⟩ := ownsRow_succ hown2
      obtain ⟨ha1, ha2, ha3, ha4, ha5⟩ := hv5.appended (by decide) hr5 (Nat.le_trans hB2.size hb5.size) (Nat.le_refl _) hown2 hgr2
      have hc6 := ha1.cell
      have hf6 := ha1.frozen
      have Hfin := Lib.hid (show ∀ W3, W3 = w2.setCell ⟨W.heap.size, 0, none⟩ (.slice (some ⟨g2, 0, none⟩) (L.length + 1 + 1) cap2) → KeepsFrom W0.heap.size W1 W3 ∧ Below W.heap.size W1 W3 ∧ (∃ v, Boxed W3 W.heap.size 31 v ∧ W3.ownsRow W.heap.size 22 1 v ((vals (pre ++ [⟨(b, s), hx⟩])).flatMap ends1).length (u64s ((vals (pre ++ [⟨(b, s), hx⟩])).flatMap ends1)) ∧ True) ∧ Below W.heap.size W W3 from fun W3 e3 => by
        rw [← e3] at ha2 ha3 ha4 ha5
        have e4 : (vals (pre ++ [⟨(b, s), hx⟩])).flatMap ends1 = L ++ [b] ++ [z] := by rw [hsnoc, hends, if_pos hm, hz]; simp
        rw [e4]
        have e5 : u64s (L ++ [b] ++ [z]) = u64s L ++ u64s [b] ++ u64s [z] := by simp [u64s]
        have e6 : (L ++ [b] ++ [z]).length = L.length + 1 + 1 := by simp
        rw [e5, e6]
        have hb6 : Below W.heap.size W2 W3 := (hb5.mono hB2.size).trans ha5
        exact ⟨((hk2.trans hk5).trans ha4).from _, hb2.trans hb6, ⟨_, ha2, ha3, trivial⟩, hB2.trans hb6⟩)
      have bX3 : Boxed2 W2 Bx (b, s) := by
        rw [hW2]
        show (w1.setCell ⟨W.heap.size, 0, none⟩ _).heap[Bx]? = _
        rw [Below.heap_setCell _ _ _ _ (by show Bx ≠ W.heap.size; omega)]
        exact bX2
      have q1 : ((W2.alloc (spo b s)).alloc (spo b s)).cell? ⟨W.heap.size, 0, none⟩ = some (.slice (some ⟨g1, 0, none⟩) (L.length + 1) cap1) := ((hv2.alloc _).alloc _).cell
      have q2 : ((((W2.alloc (spo b s)).alloc (spo b s)).alloc (spo b s)).alloc (spo b s)).cell? ⟨W.heap.size, 0, none⟩ = some (.slice (some ⟨g1, 0, none⟩) (L.length + 1) cap1) := by
        have := hv5.cell
        rw [hW5] at this
        exact this
      have q3 : (((((W2.alloc (spo b s)).alloc (spo b s)).alloc (spo b s)).alloc (spo b s)).alloc (.cells #[.int .u64 (z : Int)] 22)).cell? ⟨W.heap.size, 0, none⟩ = some (.slice (some ⟨g1, 0, none⟩) (L.length + 1) cap1) := by
        have := (hv5.alloc (.cells #[.int .u64 (z : Int)] 22)).cell
        rw [hW5] at this
        exact this
      have q4 : ((W2.alloc (spo b s)).alloc (spo b s)).cell? ⟨Bx, 0, none⟩ = some (.int .u64 (b : Int)) := by
        have : Boxed2 ((W2.alloc (spo b s)).alloc (spo b s)) Bx (b, s) := (((Below.refl _ W2).alloc (Nat.le_refl _) (spo b s)).alloc (by simp) (spo b s)).block Bx (Array.getElem?_eq_some_iff.1 bX3).1 |>.trans bX3
        exact this.cell0
      have q5 : ((W2.alloc (spo b s)).alloc (spo b s)).cell? ⟨Bx, 1, none⟩ = some (.int .u64 (s : Int)) := by
        have : Boxed2 ((W2.alloc (spo b s)).alloc (spo b s)) Bx (b, s) := (((Below.refl _ W2).alloc (Nat.le_refl _) (spo b s)).alloc (by simp) (spo b s)).block Bx (Array.getElem?_eq_some_iff.1 bX3).1 |>.trans bX3
        exact this.cell1
      rw [hW2] at q1 q2 q3 q4 q5
      rw [hs5, hW5] at hrun2
      change (appS _ _ _).run Try.prog (((((W2.alloc (spo b s)).alloc (spo b s)).alloc (spo b s)).alloc (spo b s)).alloc (.cells #[.int .u64 (z : Int)] 22)).drew = _ at hrun2
      rw [hW2] at hrun2
      clear bX3
      clear hlast hm hy hz hW5 hb5 hk5 hs5 hv5 hr5 hown2 hgr2 ha1 ha2 ha3 ha4 ha5
      clear hsnoc hends hv hrow hv1 hv2 hr2 hk2 hb2 bX bX2 hB2 K1 hW2 hs2 hB hown1 hgr1 hJ hY hsort hl hlen hM h0 hc hstops hcB bO hB0 hL hlenk hlt
      gi_wp2_with (refine ⟨trivial, ?_⟩; gi_at_call 43; refine (CallsIn.inRound lq (callsIn_wide.2 (Hlast.out _))).mono ?_; rintro e w' ⟨rfl, rfl⟩)
      gi_region_with_o (refine ⟨trivial, ?_⟩; gi_at_call 43; refine (CallsIn.inRound lq (callsIn_wide.2 (Hlast.out _))).mono ?_; rintro e w' ⟨rfl, rfl⟩)
      all_goals gi_wp2
      all_goals exact Hfin.out _ rfl
    · have hmax : ∀ W3, Calls Try.prog 43 #[.agg #[.int .u64 (b : Int), .int .u64 (s : Int)]] W3 fun e w' => e = .returned (.int .u64 18446744073709551615) ∧ w' = (W3.alloc (spo b s)).alloc (spo b s) := fun W3 => by
        have h := last_any b s hx.1 W3
        have e : last (b, s) = 18446744073709551615 := by have := last_lt (b, s); omega
        rw [e] at h
        exact h
      have Hmax := Lib.hid hmax
      clear hmax
      have Hfin := Lib.hid (show ∀ W3, W3 = (W2.alloc (spo b s)).alloc (spo b s) → KeepsFrom W0.heap.size W1 W3 ∧ Below W.heap.size W1 W3 ∧ (∃ v, Boxed W3 W.heap.size 31 v ∧ W3.ownsRow W.heap.size 22 1 v ((vals (pre ++ [⟨(b, s), hx⟩])).flatMap ends1).length (u64s ((vals (pre ++ [⟨(b, s), hx⟩])).flatMap ends1)) ∧ True) ∧ Below W.heap.size W W3 from fun W3 e3 => by
        have k3 : KeepsOthers W2 W3 := by rw [e3]; exact (KeepsOthers.alloc _ _).trans (KeepsOthers.alloc _ _)
        have b3 : Below W2.heap.size W2 W3 := by rw [e3]; exact ((Below.refl _ W2).alloc (Nat.le_refl _) _).alloc (by simp) _
        have e4 : (vals (pre ++ [⟨(b, s), hx⟩])).flatMap ends1 = L ++ [b] := by rw [hsnoc, hends, if_neg hm]
        rw [e4]
        have e5 : (L ++ [b]).length = L.length + 1 := by simp
        rw [e5]
        exact ⟨(hk2.trans k3).from _, hb2.trans (b3.mono hB2.size), (let ⟨v, ha, hb⟩ := K1 W3 b3; ⟨v, ha, hb, trivial⟩), hB2.trans (b3.mono hB2.size)⟩)
      have HW2 := Lib.hid hW2
      clear hm hsnoc hends hv hrow hv1 hv2 hr2 hk2 hb2 bX bX2 hB2 K1 hW2 hs2 hB hown1 hgr1 hJ hY hsort hl hlen hM h0 hc hstops hcB bO hB0 hL hlenk hlt
      gi_wp2_with (refine ⟨trivial, ?_⟩; gi_at_call 43; refine (CallsIn.inRound lq (callsIn_wide.2 (Hmax.out _))).mono ?_; rintro e w' ⟨rfl, rfl⟩)
      have := Hfin.out _ (by rw [HW2.out])
      exact this
  case done =>
    rintro D ys W1 hD rfl ⟨⟨v, hv, hrow, _⟩, hB⟩ hK
    rw [ends_goods hl] at hrow
    have hS := hsort (allB l) W.heap.size v W1 hM hB.size hrow
    have hlenB : (allB l).length ≤ 2 * l.length := ends_len l
    have hcv := hv.cell
    have hnb : some W.heap.size ≠ v.ownBlock := hv.not_row (by decide) hrow
    have hnD : some D ≠ v.ownBlock := by
      rcases hrow.2 with ⟨rfl, _⟩ | ⟨g, cap, cur, rfl, _, hgb, _⟩
      · simp [Value.ownBlock]
      · intro e
        obtain rfl : D = g := by simpa [Value.ownBlock] using e
        rw [hgb] at hK; cases hK
    have hown0 : ∀ k, v.ownBlock = some k → W.heap.size ≤ k := fun k hk => (hrow.lt k hk).1
    -- behind the sort, and behind the compacting
    have hcomp : ∀ (w2 : World) (r : List Nat), r.Perm (allB l) → r.Pairwise (· ≤ ·) → OwnN w2 W.heap.size v r → W1.grownBy w2 v.ownBlock →
        w2.cell? ⟨W.heap.size, 0, none⟩ = some v ∧ Calls Try.prog 61 #[v] w2 fun e w3 => ∃ (g : Option Addr) (c : Nat) (bs : List Nat), e = .returned (.slice g bs.length c) ∧ Borders l bs ∧ bs.length ≤ 2 * l.length ∧
          (bs ≠ [] → ∃ k cur, g = some ⟨k, 0, none⟩ ∧ W.heap.size ≤ k ∧ w3.heap[k]? = some (.cells cur 22 (0, 0)) ∧ ∀ j (h : j < bs.length), cur[j]? = some (.int .u64 (bs[j] : Int))) ∧ w3.heap[D]? = some (.deferred (some [])) ∧ J [] w3 := by
      intro w2 r hp hpw ho hg
      have hv2 : Boxed w2 W.heap.size 31 v := hv.kept hg hnb
      have hrl : r.length = (allB l).length := hp.length_eq
      refine ⟨hv2.cell, (compact_any r hpw (by omega) W.heap.size v w2 ho).mono ?_⟩
      rintro e w3 ⟨g, c, bs, rfl, h1, h2, h3, h4, h5⟩
      have hD2 : w2.heap[D]? = some (.deferred (some [])) := (hg.block D (Array.getElem?_eq_some_iff.1 hK).1 hnD).trans hK
      have hD3 : w3.heap[D]? = some (.deferred (some [])) := (h5.block D (Array.getElem?_eq_some_iff.1 hD2).1 hnD).trans hD2
      have hb3 : Below W.heap.size W w3 := ((hB.grown hg hB.size hown0).grown h5 (Nat.le_trans hB.size hg.size) hown0)
      exact ⟨g, c, bs, rfl, ⟨h1, fun b => (h2 b).trans hp.mem_iff⟩, by omega, h4, hD3, hJ _ _ _ none h0 ⟨hb3.os, hb3.tape, hb3.output, hb3.size, fun k hk _ => hb3.block k hk⟩ (fun r e => by cases e)⟩
    have HS := Lib.hid hS
    have HC := Lib.hid hcomp
    have HD : N0 ≤ D := by omega
    have HN := Lib.hid HD
    have Hlt := Lib.hid (show ∀ bs, Borders l bs → ∀ b ∈ bs, b < TT from fun bs hb b h => allB_lt hl ((hb.2 b).1 h))
    have HY := Lib.hid hY
    have HN0 := Lib.hid hN0
    have HD2 := Lib.hid (show W.heap.size ≤ D by omega)
    have HJJ := Lib.hid hJ
    clear hS hcomp hown0 hnD hnb hK hB hv hrow hsort hM hlenB HD hc h0 hJ hY hB0 hcB bO hN0 hD hsz0
    gi_wp2_with (first
      | (refine ⟨trivial, ?_⟩; gi_at_call 60; refine (callsIn_wide.2 HS.out).mono ?_; rintro e w2 ⟨rfl, r, hr1, hr2, hr3, hr4⟩; obtain ⟨hcv2, hcc⟩ := HC.out w2 r hr1 hr2 hr3 hr4; have HCC := Lib.hid hcc; clear hr1 hr2 hr3 hr4 hcc)
      | (refine ⟨trivial, ?_⟩; gi_at_call 61; refine (callsIn_wide.2 HCC.out).mono ?_; rintro e w3 ⟨g, c, bs, rfl, hbo, hbl, hrow, hDd, hJ0⟩))
    have HBO := Lib.hid hbo
    have HLT := Lib.hid (Hlt.out bs hbo)
    have HBL := Lib.hid hbl
    clear HS HC HCC hcv hcv2 Hlt hbo
    gi_loopw [6, 29] (fun _ i wr => ∃ k : Nat, k ≤ bs.length ∧ i = .int .i64 k ∧ J (numsOf (bs.take k)) wr ∧ wr.heap[D]? = some (.deferred (some [])) ∧
      Hid (bs ≠ [] → ∃ kb cur, g = some ⟨kb, 0, none⟩ ∧ W.heap.size ≤ kb ∧ wr.heap[kb]? = some (.cells cur 22 (0, 0)) ∧ ∀ j (h : j < bs.length), cur[j]? = some (.int .u64 (bs[j] : Int)))) (fun _ i _ => bs.length - (intOf i).toNat)
    case atStart => exact ⟨0, Nat.zero_le _, rfl, by simpa [numsOf] using hJ0, hDd, Lib.hid hrow⟩
    case round =>
      obtain ⟨k, hk, rfl, hJs, hDw, HR⟩ := hrel
      clear hJ0 hDd hrow
      by_cases hlt : k < bs.length
      · obtain ⟨kb, cur, rfl, hkb, hh, hcur⟩ := HR.out (fun e => by rw [e] at hlt; cases hlt)
        have hcell : wr.cell? ⟨kb, k, none⟩ = some (.int .u64 (bs[k] : Int)) := by
          have := hcur k hlt
          simp [World.cell?, hh, this]
        have hsn : bs.take (k + 1) = bs.take k ++ [bs[k]] := by simp
        have hxl := HLT.out _ (List.getElem_mem hlt)
        have hpl : (numsOf (bs.take k)).length < 2 * l.length := by
          have := numsOf_len (bs.take k)
          rw [List.length_take] at this
          have := HBL.out; omega
        obtain ⟨x, hx⟩ : ∃ x, bs[k] = x := ⟨_, rfl⟩
        rw [hx] at hcell hsn hxl
        obtain ⟨fn, tmps, assign, body, hy, hRd⟩ := HY.out _ ⟨x, hxl⟩ wr hJs hpl
        dsimp only at hy
        have HRd := Lib.hid hRd
        have Hsn := Lib.hid hsn
        have Hxl := Lib.hid hxl
        have Hh := Lib.hid hh
        have Hcur := Lib.hid hcur
        have Hkb := Lib.hid hkb
        have HDw := Lib.hid hDw
        clear hRd hsn hh hcur hpl hJs hx hkb hDw HR
        gi_wp2
        refine HRd.out.mono ?_
        rintro e W3 ⟨rfl, hJ3, hk3⟩
        gi_wp2
        go_roundw
        case rel => exact ⟨k + 1, by omega, by simp, by rw [Hsn.out, numsOf_append, numsOf_one Hxl.out]; exact hJ3, hk3.2 D _ HN.out HDw.out trivial, Lib.hid fun _ => ⟨kb, cur, rfl, Hkb.out, hk3.2 kb _ (Nat.le_trans HN0.out Hkb.out) Hh.out rfl, Hcur.out⟩⟩
        case measure => simp [intOf]; omega
      · obtain rfl : k = bs.length := by omega
        have HDw := Lib.hid hDw
        have HJ := Lib.hid hJs
        clear hDw hJs
        gi_wp2
        have hnum := nums_of HLT.out
        refine ⟨by simp, .inl ⟨_, _, rfl, run_takeDeferred HDw.out, ?_⟩⟩
        refine ⟨_, results_none rfl _ _ _, ⟨_, rfl⟩, numsOf bs, by rw [hnum]; exact HBO.out, ?_⟩
        have hJ1 := HJ.out
        rw [List.take_length] at hJ1
        exact HJJ.out.putObj _ hJ1 HD2.out HDw.out rfl
  case stop =>
    rintro D c pre W1 _ _ h _
    exact h.elim

theorem borders_in (A : Option Addr) (len cap : Nat) (w : World) :
    Calls Try.prog 45 #[.slice A len cap] w fun e w' => e = .returned (.func (.func 58) #[] #[.pointer (some ⟨w.heap.size, 0, none⟩)]) ∧ w' = w.alloc (.cells #[.slice A len cap] 46) := by
  go_enter Try.func45, Try.ntmps45
  go_wp2
  go_ret
  exact ⟨rfl, rfl⟩
theorem borders_tells (M : Nat) (hsort : SortsAt M) (Bs cap : Nat) (A : Option Addr) (l : List Sp) (hl : ∀ x ∈ l, fit x) (hlen : l.length ≤ 100000) (hM : (allB l).length ≤ M) (w : World) (hBs : Bs < w.heap.size)
    (hc : w.cell? ⟨Bs, 0, none⟩ = some (.slice A l.length cap)) (hR : Row w w.heap.size A l) :
    Tells 9 Try.prog 58 #[.pointer (some ⟨Bs, 0, none⟩)] (fun x : N64 => #[.int .u64 (x.1 : Int)]) (Keeps w.heap.size) (fun ys => Borders l (nums ys)) (2 * l.length) w := fun lp J W hW hJ hY h0 =>
  borders1_in M hsort lp Bs w.heap.size cap A l hl hlen hM J hY W hJ hW.size ((hW.cell (p := ⟨Bs, 0, none⟩) hBs).trans hc) ((hR.below hW).wide hW.size) h0
end Go.Proofs.Ytmhhckpdhjnmeaa
