/- The reference's writer: bytes in a row of its own, its first error; put, must, small, truth. -/
import Derived.Test.YtgoblolbkchggaaDoorMo
import Derived.Test.YtgoblolbkchggaaDoorMb
import Derived.Test.YtgoblolbkchggaaDoorMc
namespace Go.Proofs.YtgoblolbkchggaaDoor
open Go.RowKit
attribute [local go_sem ↓ high] builtin_appS
def wrF (v : Value) (e : Nat) : Nat → Value := fun i => if i = 0 then v else .int .i64 (e : Int)
/-- Block g holds a writer whose row lies in block b: its error is e; its bytes are l, if there is none. m: no more bytes than that. -/
structure WW (w : World) (b : Option Nat) (g : Nat) (l : By) (m e : Nat) : Prop where
  ex : ∃ (A : Option Addr) (c : Nat) (L : By), Arr w g 54 2 (wrF (.slice A L.length c) e) ∧ OwnB w (g + 1) (.slice A L.length c) L ∧ (Value.slice A L.length c).ownBlock = b ∧ (e = 0 → L = l) ∧ L.length ≤ m
/-- All but block g and block b is as it was. -/
structure WT (g : Nat) (b : Option Nat) (w w' : World) : Prop where
  os : w'.os = w.os
  tape : w'.tape = w.tape
  output : w'.output = w.output
  size : w.heap.size ≤ w'.heap.size
  block : ∀ k, k < w.heap.size → k ≠ g → b ≠ some k → w'.heap[k]? = w.heap[k]?
theorem WT.refl (g : Nat) (b : Option Nat) (w : World) : WT g b w w := ⟨rfl, rfl, rfl, Nat.le_refl _, fun _ _ _ _ => rfl⟩
theorem WT.trans {g : Nat} {b b' : Option Nat} {u v w : World} (h : WT g b u v) (k : WT g b' v w) (hb : ∀ i, b' = some i → b = some i ∨ u.heap.size ≤ i) : WT g b u w :=
  ⟨k.os.trans h.os, k.tape.trans h.tape, k.output.trans h.output, Nat.le_trans h.size k.size, fun i hi h1 h2 =>
    (k.block i (Nat.lt_of_lt_of_le hi h.size) h1 fun e => by rcases hb i e with h3 | h3; exact h2 h3; omega).trans (h.block i hi h1 h2)⟩
theorem WT.of_below {g : Nat} {b : Option Nat} {w w' : World} (h : Below w.heap.size w w') : WT g b w w' := ⟨h.1, h.2, h.3, h.4, fun k hk _ _ => h.5 k hk⟩
theorem WT.of_save {g : Nat} {b : Option Nat} {w w' : World} (h : Save g w w') : WT g b w w' := ⟨h.os, h.tape, h.output, h.size, fun k hk h1 _ => h.block k hk h1⟩
/-- The writer's state in W, with all that is not its own as it was in V. -/
structure WS (V : World) (b0 : Option Nat) (g : Nat) (l : By) (m e : Nat) (W : World) : Prop where
  ww : ∃ b, WW W b g l m e ∧ ∀ k, b = some k → b0 = some k ∨ V.heap.size ≤ k
  tu : WT g b0 V W
  lt : g < V.heap.size
  off : ∀ k, b0 = some k → g < k
theorem WW.lt {w : World} {b : Option Nat} {g : Nat} {l : By} {m e : Nat} (h : WW w b g l m e) : g < w.heap.size := by
  obtain ⟨A, c, L, h1, _⟩ := h.ex
  exact h1.lt
theorem WW.off {w : World} {b : Option Nat} {g : Nat} {l : By} {m e : Nat} (h : WW w b g l m e) : ∀ k, b = some k → g < k ∧ k < w.heap.size := by
  obtain ⟨A, c, L, _, h2, h3, _⟩ := h.ex
  obtain ⟨_, _, _, _, _, hk⟩ := h2.form
  intro k e
  have := hk k (h3.trans e)
  omega
theorem WW.begin {w : World} {b : Option Nat} {g : Nat} {l : By} {m e : Nat} (h : WW w b g l m e) : WS w b g l m e w := ⟨⟨b, h, fun _ h => Or.inl h⟩, WT.refl _ _ _, h.lt, fun k e => (h.off k e).1⟩
theorem WW.on {w w' : World} {b : Option Nat} {g : Nat} {l : By} {m e : Nat} (h : WW w b g l m e) (hb : Below w.heap.size w w') : WW w' b g l m e := by
  obtain ⟨A, c, L, h1, h2, h3, h4, h5⟩ := h.ex
  exact ⟨A, c, L, h1.under hb, h2.on hb (Nat.le_refl _), h3, h4, h5⟩
section
variable {V W W' : World} {b0 : Option Nat} {g : Nat} {l l' : By} {m m' e : Nat}
theorem WS.on (h : WS V b0 g l m e W) (hb : Below W.heap.size W W') : WS V b0 g l m e W' := by
  obtain ⟨b, h1, h2⟩ := h.ww
  exact ⟨⟨b, h1.on hb, h2⟩, h.tu.trans (WT.of_below (b := none) hb) (fun _ e => by cases e), h.lt, h.off⟩
/-- Under an error the bytes don't matter. -/
theorem WS.any (h : WS V b0 g l m e W) (hl : e = 0 → l = l') (hm : m ≤ m') : WS V b0 g l' m' e W := by
  obtain ⟨b, ⟨A, c, L, h1, h2, h3, h4, h5⟩, h6⟩ := h.ww
  exact ⟨⟨b, ⟨A, c, L, h1, h2, h3, fun he => (h4 he).trans (hl he), Nat.le_trans h5 hm⟩, h6⟩, h.tu, h.lt, h.off⟩
theorem WS.rebase (h : WS V b0 g l m e W) : ∃ b, WS W b g l m e W ∧ (∀ q, V.heap.size ≤ q → q < W.heap.size → True) ∧ ∀ l' m' e' W', WS W b g l' m' e' W' → WS V b0 g l' m' e' W' := by
  obtain ⟨b, h1, h2⟩ := h.ww
  refine ⟨b, h1.begin, fun _ _ _ => trivial, fun l' m' e' W' k => ?_⟩
  obtain ⟨b', k1, k2⟩ := k.ww
  refine ⟨⟨b', k1, fun i hi => ?_⟩, h.tu.trans k.tu h2, h.lt, h.off⟩
  rcases k2 i hi with h3 | h3
  · exact h2 i h3
  · exact Or.inr (Nat.le_trans h.tu.size h3)
/-- What lies elsewhere. -/
theorem WS.arr (h : WS V b0 g l m e W) {q n : Nat} {t : TypeId} {f : Nat → Value} (ha : Arr V q t n f) (h1 : q ≠ g) (h2 : b0 ≠ some q) : Arr W q t n f := (h.tu.block q ha.lt h1 h2).trans ha
theorem WS.below (h : WS V b0 g l m e W) : Below g V W := ⟨h.tu.os, h.tu.tape, h.tu.output, h.tu.size, fun k hk => h.tu.block k (Nat.lt_trans hk h.lt) (Nat.ne_of_lt hk) fun e => by have := h.off k e; omega⟩
theorem WS.size (h : WS V b0 g l m e W) : V.heap.size ≤ W.heap.size := h.tu.size
theorem WS.ltW (h : WS V b0 g l m e W) : g < W.heap.size := Nat.lt_of_lt_of_le h.lt h.tu.size
/-- A block that was made behind the writer's own is not touched. -/
theorem WW.new {w w' : World} {b : Option Nat} (h : WW w b g l m e) (_hb : Below w.heap.size w w') : b ≠ some w.heap.size ∧ w.heap.size ≠ g := by
  refine ⟨fun e => ?_, ?_⟩
  · have := h.off _ e; omega
  · have := h.lt; omega
theorem WS.err (h : WS V b0 g l m e W) : W.cell? ⟨g, 1, none⟩ = some (.int .i64 (e : Int)) ∧ W.frozen? ⟨g, 1, none⟩ = false := by
  obtain ⟨b, ⟨A, c, L, h1, _⟩, _⟩ := h.ww
  exact ⟨h1.cell (i := 1) (by decide), h1.frozen 1⟩
/-- An error is noted. -/
theorem WS.setErr (h : WS V b0 g l m e W) (er : Nat) (her : er ≠ 0) : WS V b0 g l m er (W.setCell ⟨g, 1, none⟩ (.int .i64 (er : Int))) := by
  obtain ⟨b, ⟨A, c, L, h1, h2, h3, h4, h5⟩, h6⟩ := h.ww
  have hs : Save g W (W.setCell ⟨g, 1, none⟩ (.int .i64 (er : Int))) := (Save.refl _ _).setCell 1 _
  refine ⟨⟨b, ⟨A, c, L, (h1.set 1 (.int .i64 (er : Int))).congr fun i hi => ?_, h2.save hs (Nat.lt_succ_self _), h3, fun h0 => absurd h0 her, h5⟩, h6⟩, h.tu.trans (WT.of_save (b := none) hs) (fun _ e => by cases e), h.lt, h.off⟩
  rcases (by omega : i = 0 ∨ i = 1) with rfl | rfl <;> rfl
/-- The row, and what it may become: another row, made since. -/
theorem WS.open (h : WS V b0 g l m e W) : ∃ (A : Option Addr) (c : Nat) (L : By), L.length ≤ c ∧ W.cell? ⟨g, 0, none⟩ = some (.slice A L.length c) ∧ OwnB W (g + 1) (.slice A L.length c) L ∧ Lies W W.heap.size 1 A L.length (u8s L) ∧ (e = 0 → L = l) ∧ L.length ≤ m ∧
    (∀ (w1 : World) (A2 : Option Addr) (c2 N2 : Nat) (L2 : By), N2 = L2.length → Below W.heap.size W w1 → OwnB w1 W.heap.size (.slice A2 N2 c2) L2 → ∀ l2 m2, (e = 0 → L2 = l2) → N2 ≤ m2 →
      (w1.cell? ⟨g, 0, none⟩ = some (.slice A L.length c) ∧ w1.frozen? ⟨g, 0, none⟩ = false) ∧ WS V b0 g l2 m2 e (w1.setCell ⟨g, 0, none⟩ (.slice A2 N2 c2))) ∧
    (∀ (W1 : World) (a : Addr) (x : By) (c1 N2 : Nat), N2 = L.length + x.length → Below W.heap.size W W1 → (∀ j u, (u8s x)[j]? = some u → W1.cell? (a.add j) = some u) → m + x.length ≤ 1000000 →
      ∃ B d w2, (appS #[27, 27] 27 #[.slice A L.length c, .slice (some a) x.length c1]).run Tryd.prog W1 = .ok (.slice B N2 d) w2 ∧ (w2.cell? ⟨g, 0, none⟩ = some (.slice A L.length c) ∧ w2.frozen? ⟨g, 0, none⟩ = false) ∧
        WS V b0 g (l ++ x) (m + x.length) e (w2.setCell ⟨g, 0, none⟩ (.slice B N2 d))) := by
  obtain ⟨b, ⟨A, c, L, h1, h2, h3, h4, h5⟩, h6⟩ := h.ww
  obtain ⟨A', c', e1, hc, hl⟩ := h2.lies
  injection e1 with e1 _ e3
  subst e1 e3
  refine ⟨A, c, L, hc, h1.cell (i := 0) (by decide), h2, hl, h4, h5, fun w1 A2 c2 N2 L2 hN hb ho l2 m2 hl2 hm2 => ?_, fun W1 a x c1 N2 hN hb hx hm => ?_⟩
  · have a1 := h1.under hb
    refine ⟨⟨a1.cell (i := 0) (by decide), a1.frozen 0⟩, ?_⟩
    have hs : Save g w1 (w1.setCell ⟨g, 0, none⟩ (.slice A2 N2 c2)) := (Save.refl _ _).setCell 0 _
    subst hN
    obtain ⟨_, _, _, _, _, hk⟩ := ho.form
    have hgW : g < W.heap.size := h1.lt
    refine ⟨⟨(Value.slice A2 L2.length c2).ownBlock, ⟨A2, c2, L2, (a1.set 0 (.slice A2 L2.length c2)).congr fun i hi => ?_, (ho.save hs hgW).low hgW, rfl, hl2, hm2⟩, fun k e => Or.inr (Nat.le_trans h.tu.size (hk k e).1)⟩, (h.tu.trans (WT.of_below (b := none) hb) (fun _ e => by cases e)).trans (WT.of_save (b := none) hs) (fun _ e => by cases e), h.lt, h.off⟩
    rcases (by omega : i = 0 ∨ i = 1) with rfl | rfl <;> rfl
  · obtain ⟨i0, hi, hz0, hz1, hz2⟩ := info_parts info_u8
    have hgW : g < W.heap.size := h1.lt
    obtain ⟨v', w', hr, k2, k3, _, k5⟩ := run_append_own_at (P := Tryd.prog) W1 (g + 1) 27 27 5 i0 (.int .u8 0) 1 1 Tryd.underlying27 hi hz0 hz1 hz2 rfl (by decide) (.slice A L.length c) L.length (cellsE 1 eB L) (h2.on hb (Nat.le_refl _))
      a x.length c1 (u8s x) (by simp [u8s]) hx (by
        intro u hu
        obtain ⟨y, _, rfl⟩ := List.mem_map.1 hu
        rfl) (by unfold maxLen; omega) (by omega) (by have := hb.size; omega)
    have hown2 : OwnB w' (g + 1) v' (L ++ x) := by
      show w'.ownsRow (g + 1) 5 1 v' (L ++ x).length (cellsE 1 eB (L ++ x))
      rw [cellsE_append, List.length_append, cells_B x]
      exact k2
    obtain ⟨B, d, e2, _, _, hbk⟩ := hown2.form
    rw [List.length_append, ← hN] at e2
    subst e2
    have hvb : ∀ k, (Value.slice A L.length c).ownBlock = some k → g < k ∧ k < W.heap.size := fun k e => by
      obtain ⟨_, _, _, _, _, hk⟩ := h2.form
      have := hk k e; omega
    have a1 : Arr w' g 54 2 (wrF (.slice A L.length c) e) := (h1.under hb).grown k3 (fun e => by have := hvb g e.symm; omega)
    refine ⟨B, d, w', hr, ⟨a1.cell (i := 0) (by decide), a1.frozen 0⟩, ?_⟩
    have hs : Save g w' (w'.setCell ⟨g, 0, none⟩ (.slice B N2 d)) := (Save.refl _ _).setCell 0 _
    have t1 : WT g b W1 w' := ⟨k3.1, k3.2, k3.3, k3.4, fun k hk _ hb2 => k3.5 k hk (fun e => hb2 (h3.symm.trans e.symm))⟩
    have hbb : ∀ i, b = some i → b0 = some i ∨ V.heap.size ≤ i := h6
    have hlen : (L ++ x).length = N2 := by rw [List.length_append, hN]
    refine ⟨⟨(Value.slice B N2 d).ownBlock, ⟨B, d, L ++ x, ?_, ?_, ?_, fun h0 => by rw [h4 h0], by rw [List.length_append]; omega⟩, fun k e => ?_⟩, ((h.tu.trans (WT.of_below (b := none) hb) (fun _ e => by cases e)).trans t1 hbb).trans (WT.of_save (b := none) hs) (fun _ e => by cases e), h.lt, h.off⟩
    · rw [hlen]
      refine (a1.set 0 (.slice B N2 d)).congr fun i hi => ?_
      rcases (by omega : i = 0 ∨ i = 1) with rfl | rfl <;> rfl
    · rw [hlen]; exact hown2.save hs (Nat.lt_succ_self _)
    · rw [hlen]
    · rcases k5 with e5 | e5
      · exact h6 k (h3.symm.trans (e5.symm.trans e))
      · right
        have : W1.heap.size = k := by rw [e5] at e; exact Option.some.inj e
        have := h.tu.size
        have := hb.size
        omega
end
def seqE (e x : Nat) : Nat := if e = 0 then x else e
theorem seqE_zero (e : Nat) : seqE e 0 = e := by unfold seqE; split <;> omega
theorem seqE_ok {e x : Nat} (h : seqE e x = 0) : e = 0 ∧ x = 0 := by
  unfold seqE at h
  split at h
  · exact ⟨by assumption, h⟩
  · exact absurd h (by assumption)
theorem seqE_of {e x : Nat} (h : e ≠ 0) : seqE e x = e := by unfold seqE; rw [if_neg h]
theorem zero_seqE (x : Nat) : seqE 0 x = x := rfl
theorem seqE_seqE (e x y : Nat) : seqE (seqE e x) y = seqE e (seqE x y) := by
  unfold seqE
  by_cases h : e = 0 <;> simp [h]
section
variable {V : World} {b0 : Option Nat} {g : Nat} {l : By} {m e : Nat}
/-- What a method of the writer's leaves. -/
def WPo (V : World) (b0 : Option Nat) (g : Nat) (l : By) (m e : Nat) (x : Ending) (W' : World) : Prop := x = .returned (.tuple #[]) ∧ WS V b0 g l m e W'
set_option maxRecDepth 100000 in
theorem wmust_any (is : Bool) (er : Nat) (her : er ≠ 0) (W : World) (h : WS V b0 g l m e W) : Calls Tryd.prog 31 #[.pointer (some ⟨g, 0, none⟩), .bool is, .int .i64 (er : Int)] W (WPo V b0 g l m (seqE e (if is = true then 0 else er))) := by
  unfold WPo
  cases is
  · obtain ⟨c1, c2⟩ := h.err
    by_cases he : e = 0
    · subst he
      have hq := h.setErr er her
      have H := Lib.hid hq
      have e1 : (((0 : Nat) : Int) == 0) = true := rfl
      clear h hq
      go_enter Tryd.func31, Tryd.ntmps31
      go_wp2
      go_end0
      exact ⟨rfl, H.out⟩
    · have e1 : ((e : Int) == 0) = false := by simp; omega
      have e2 : ¬ (e : Int) = 0 := by omega
      have H := Lib.hid h
      have HE := Lib.hid (seqE_of (x := er) he)
      clear h he
      go_enter Tryd.func31, Tryd.ntmps31
      go_wp2
      go_end0
      exact ⟨rfl, by rw [HE.out]; exact H.out⟩
  · have H := Lib.hid h
    clear h
    go_enter Tryd.func31, Tryd.ntmps31
    go_wp2
    go_end0
    exact ⟨rfl, by rw [seqE_zero]; exact H.out⟩
set_option maxHeartbeats 1000000 in
set_option maxRecDepth 100000 in
theorem wput_any (z : Int) (hz : 0 ≤ z) (size : Nat) (hs : size ≤ 8) (hm : m ≤ 1000000) (W : World) (h : WS V b0 g l m e W) : Calls Tryd.prog 18 #[.pointer (some ⟨g, 0, none⟩), .int .u64 z, .int .i64 (size : Int)] W (WPo V b0 g (l ++ be size z.toNat) (m + size) e) := by
  obtain ⟨n, rfl⟩ := Int.eq_ofNat_of_zero_le hz
  rw [Int.toNat_natCast]
  obtain ⟨A, c, L, -, h2, -, h4, h5, h6, h7, -⟩ := h.open
  obtain ⟨L2, hL2⟩ : ∃ l, l = L ++ be size n := ⟨_, rfl⟩
  obtain ⟨N2, hN2⟩ : ∃ k, k = L2.length := ⟨_, rfl⟩
  have hlen : N2 = L.length + size := by rw [hN2, hL2, List.length_append, be_len]
  have hr := rput_any L n size hs A c W.heap.size false W (Nat.le_refl _) h4 (by omega)
  rw [show lowO false = 0 from rfl, numBytes_be, ← hL2] at hr
  have HP : Hid (Calls Tryd.prog 30 #[.slice A L.length c, .int .u64 (n : Int), .int .i64 (size : Int), .bool false] W fun x w1 => ∃ A2 c2, x = .returned (.slice A2 N2 c2) ∧ (w1.cell? ⟨g, 0, none⟩ = some (.slice A L.length c) ∧ w1.frozen? ⟨g, 0, none⟩ = false) ∧ WS V b0 g (l ++ be size n) (m + size) e (w1.setCell ⟨g, 0, none⟩ (.slice A2 N2 c2))) := by
    refine Lib.hid (hr.mono ?_)
    rintro x w1 ⟨v, rfl, hv, hd⟩
    have ho := own_of hv
    obtain ⟨A2, c2, rfl, -, -⟩ := ho.lies
    rw [← hN2] at ho ⊢
    obtain ⟨q1, q2⟩ := h7 w1 A2 c2 N2 L2 hN2 hd ho (l ++ be size n) (m + size) (fun h0 => by rw [hL2, h5 h0]) (by omega)
    exact ⟨A2, c2, rfl, q1, q2⟩
  unfold WPo
  clear h h4 h5 h6 h7 hr hL2 hN2 hlen hz
  go_enter Tryd.func18, Tryd.ntmps18
  go_wp2_with (go_at_call 30; refine HP.out.mono ?_; rintro x w1 ⟨A2, c2, rfl, ⟨k1, k2⟩, k3⟩; have HK := Lib.hid k3; clear k3)
  go_end0
  exact ⟨rfl, HK.out⟩
end
end Go.Proofs.YtgoblolbkchggaaDoor
