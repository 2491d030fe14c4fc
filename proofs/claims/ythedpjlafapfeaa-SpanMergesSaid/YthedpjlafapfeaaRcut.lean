/- Cut: the reference's. -/
import Derived.Test.YthedpjlafapfeaaRmerge
namespace Go.Proofs.Ythedpjlafapfeaa
open Go.RowKit
attribute [local go_sem ↓ high] builtin_appS

theorem pieces_len (x y : Sp) : (pieces x y).length ≤ 2 := by
  unfold pieces; split
  · split <;> split <;> simp
  · simp
theorem cut_len_low {x : Sp} (hg : good x = true) : ∀ (l : List Sp) (a : Nat), Rise a l → x.1 ≤ a → (l.flatMap (pieces x)).length ≤ l.length
  | [], _, _, _ => by simp
  | y :: r, a, ⟨h1, h2, h3, h4⟩, ha => by
    have ih := cut_len_low hg r _ h4 (by omega)
    have hp : (pieces x y).length ≤ 1 := by
      unfold pieces; split
      · rw [if_neg (by omega)]; split <;> simp
      · simp
    simp only [List.flatMap_cons, List.length_append, List.length_cons]
    omega
theorem cut_len {x : Sp} (hg : good x = true) : ∀ (l : List Sp) (a : Nat), Rise a l → (l.flatMap (pieces x)).length ≤ l.length + 1
  | [], _, _ => by simp
  | y :: r, a, ⟨h1, h2, h3, h4⟩ => by
    simp only [List.flatMap_cons, List.length_append, List.length_cons]
    by_cases ho : overlap x y = true
    · have hov := (overlap_iff x y).1 ho
      have ih := cut_len_low hg r _ h4 (by omega)
      have := pieces_len x y
      omega
    · have ih := cut_len hg r _ h4
      have hp : (pieces x y).length = 1 := by unfold pieces; rw [if_neg ho]; rfl
      omega
theorem pieces_fit {x y : Sp} (hx : fit x) (hy : fit y) : ∀ z ∈ pieces x y, fit z := by
  intro z hz
  have l1 := last_lt y
  have l2 := last_lt x
  unfold fit at hx hy ⊢
  unfold pieces at hz
  split at hz
  · rcases List.mem_append.1 hz with h | h
    · split at h
      · simp at h; subst h; simp only; omega
      · simp at h
    · split at h
      · simp at h; subst h; simp only; omega
      · simp at h
  · simp at hz; subst hz; exact hy
/-- What is left so far: rising, fitting, not too many. -/
structure Cuts (s : Sp) (l : List Sp) (k : Nat) (out : List Sp) : Prop where
  eq : (l.take k).foldl cutF [s] = out
  rise : Rise 0 out
  fits : ∀ z ∈ out, fit z
  len : out.length ≤ k + 1
theorem Cuts.start {s : Sp} (l : List Sp) (hg : good s = true) (hs : fit s) : Cuts s l 0 [s] :=
  ⟨rfl, ⟨Nat.zero_le _, ((good_iff s).1 hg).1, ((good_iff s).1 hg).2, trivial⟩, fun z hz => by simp at hz; exact hz ▸ hs, by simp⟩
theorem Cuts.same {s x : Sp} {l : List Sp} {k : Nat} {out : List Sp} (h : Cuts s l k out) (hk : k < l.length) (hx : l[k] = x) (hg : good x = false) : Cuts s l (k + 1) out :=
  ⟨by rw [foldl_take_succ _ _ _ hk, h.eq, hx]; unfold cutF; simp [hg], h.rise, h.fits, by have := h.len; omega⟩
theorem Cuts.cut {s x : Sp} {l : List Sp} {k : Nat} {out : List Sp} (h : Cuts s l k out) (hk : k < l.length) (hx : l[k] = x) (hg : good x = true) (hf : fit x) : Cuts s l (k + 1) (out.flatMap (pieces x)) :=
  ⟨by rw [foldl_take_succ _ _ _ hk, h.eq, hx]; unfold cutF; simp [hg], (pieces_spec hg out 0 h.rise).1,
    fun z hz => by obtain ⟨y, hy, hz2⟩ := List.mem_flatMap.1 hz; exact pieces_fit hf (h.fits y hy) z hz2, by have := cut_len hg out 0 h.rise; have := h.len; omega⟩
theorem lit_own (w : World) (a b : Nat) : OwnS (w.alloc (spo a b)) w.heap.size (.slice (some ⟨w.heap.size, 0, none⟩) 1 1) [(a, b)] :=
  ⟨rfl, .inr ⟨w.heap.size, 1, _, rfl, Nat.le_refl _, World.alloc_heap_new w _, Nat.le_refl _, by unfold maxLen; omega, rfl, rfl⟩⟩
/-- An append onto a row of the call's own, with what becomes of its block. -/
theorem app4_run (w : World) (base : Nat) (v : Value) (l m : List Sp) (hown : OwnS w base v l) (hb : base ≤ w.heap.size) (hk : l.length + m.length ≤ 1000000) (ty : TypeId) (cs : Array Value) (hcs : cs.toList = cells2 m) :
    ∃ v' w', (appS #[32, 32] ty #[v, .slice (some ⟨w.heap.size, 0, none⟩) m.length m.length]).run Try.prog (w.alloc (.cells cs 24)) = .ok v' w' ∧
      OwnS w' base v' (l ++ m) ∧ (w.alloc (.cells cs 24)).grownBy w' v.ownBlock ∧ (v'.ownBlock = v.ownBlock ∨ v'.ownBlock = some (w.heap.size + 1)) := by
  obtain ⟨i0, hi, hz0, hz1, hz2⟩ := info_parts infoS
  have hnews : ∀ j u, (cells2 m)[j]? = some u → (w.alloc (.cells cs 24)).cell? ((⟨w.heap.size, 0, none⟩ : Addr).add j) = some u := by
    intro j u hu
    have e : ((⟨w.heap.size, 0, none⟩ : Addr).add j) = ⟨w.heap.size, j, none⟩ := by unfold Addr.add; by_cases h0 : j = 0 <;> simp [h0]
    rw [e, cell_of_row _ w.heap.size j cs 24 (0, 0) (heap_alloc_new w _)]
    rw [← hcs, Array.getElem?_toList] at hu
    exact hu
  obtain ⟨v', w', h1, h2, h3, _, h5⟩ := run_append_own_at (P := Try.prog) (w.alloc (.cells cs 24)) base 32 ty 24 i0 (.agg #[.int .u64 0, .int .u64 0]) 2 16 Try.underlying32 hi hz0 hz1 hz2 rfl (by decide) v l.length (cells2 l) (hown.below ((Below.refl _ _).alloc (Nat.le_refl _) _))
    ⟨w.heap.size, 0, none⟩ m.length m.length (cells2 m) (cells2_length m) hnews (cells2_one m) (by unfold maxLen; omega) (by omega) (by simp; omega)
  exact ⟨v', w', h1, by unfold OwnS; rw [cells2_append, List.length_append]; exact h2, h3, h5.imp id fun h => by rw [h]; simp⟩
theorem cell_grown {W w' : World} {tmp : Obj} {v x : Value} {p : Addr} (hg : (W.alloc tmp).grownBy w' v.ownBlock) (hne : some p.block ≠ v.ownBlock) (hc : W.cell? p = some x) : w'.cell? p = some x := by
  have hlt := World.block_lt_of_cell? W p hc
  have h1 := hg.block p.block (by simp; omega) hne
  have h2 := Below.heap_alloc W tmp p.block hlt
  rw [← hc]
  unfold World.cell?
  rw [h1, h2]
theorem OwnS.past {w : World} {base : Nat} {v : Value} {l : List Sp} (h : OwnS w base v l) {B : Nat} (hB : w.heap.size ≤ B) : some B ≠ v.ownBlock := fun e => by
  rcases h.2 with ⟨rfl, _⟩ | ⟨g, cap, cur, rfl, hg, hh, _⟩
  · simp [Value.ownBlock] at e
  · have := (Array.getElem?_eq_some_iff.1 hh).1
    simp [Value.ownBlock] at e
    omega

set_option maxHeartbeats 8000000 in
set_option maxRecDepth 100000 in
theorem rcut_any (s1 s2 : Nat) (hs : fit (s1, s2)) (A : Option Addr) (cap : Nat) (l : List Sp) (hl : l.length ≤ 100000) (hf : ∀ x ∈ l, fit x) (w : World) (hR : Row w w.heap.size A l) :
    Calls Try.prog 28 #[.agg #[.int .u64 (s1 : Int), .int .u64 (s2 : Int)], .slice A l.length cap] w fun e w' => ∃ A' c', e = .returned (.slice A' (cutS (s1, s2) l).length c') ∧ Row w' w'.heap.size A' (cutS (s1, s2) l) ∧ Below w.heap.size w w' := by
  have Hl := Lib.hid hl
  have HF := Lib.hid hf
  have HR := Lib.hid hR
  have HS := Lib.hid hs
  have hg := fun X => rgood_bel s1 s2 hs X
  have HAt := Lib.hid (show ∀ X, Below (w.alloc (spo s1 s2)).heap.size (w.alloc (spo s1 s2)) X → X.cell? ⟨w.heap.size, 0, none⟩ = some (.int .u64 (s1 : Int)) ∧ X.cell? ⟨w.heap.size, 1, none⟩ = some (.int .u64 (s2 : Int)) from fun X hd =>
    ⟨(hd.cell (p := ⟨w.heap.size, 0, none⟩) (by simp)).trans (by simp), (hd.cell (p := ⟨w.heap.size, 1, none⟩) (by simp)).trans (by simp)⟩)
  have HB0 := Lib.hid (show ∀ X, Below (w.alloc (spo s1 s2)).heap.size (w.alloc (spo s1 s2)) X → Below w.heap.size w X from fun X hd => ((Below.refl _ w).alloc (Nat.le_refl _) _).trans (hd.mono (by simp)))
  clear hl hf hR hs
  by_cases hgs : good (s1, s2) = true
  · rw [hgs] at hg
    have HG := Lib.hid hg
    clear hg
    go_enter Try.func28, Try.ntmps28
    go_wp2_with (go_at_call 11; refine (HG.out _).mono ?_; rintro e w1 ⟨rfl, hd⟩; obtain ⟨cx0, cx1⟩ := HAt.out w1 hd; have Hd := Lib.hid hd; clear hd)
    have H0 := Lib.hid (show Cuts (s1, s2) l 0 [(s1, s2)] ∧ Row (w1.alloc (spo s1 s2)) (w1.alloc (spo s1 s2)).heap.size (some ⟨w1.heap.size, 0, none⟩) [(s1, s2)] ∧ Below w.heap.size w (w1.alloc (spo s1 s2)) from
      ⟨Cuts.start l hgs HS.out, by obtain ⟨A, c, e, h⟩ := (lit_own w1 s1 s2).row; cases e; exact h, (HB0.out w1 Hd.out).alloc (HB0.out w1 Hd.out).size _⟩)
    clear cx0 cx1 HG
    go_loopw [5, 18] (fun vo vi W => ∃ (k c' : Nat) (A' : Option Addr) (out : List Sp), k ≤ l.length ∧ vi = .int .i64 k ∧ vo = .slice A' out.length c' ∧ Hid (Cuts (s1, s2) l k out ∧ Row W W.heap.size A' out ∧ Below w.heap.size w W)) (fun _ i _ => l.length - (intOf i).toNat)
    case atStart => exact ⟨0, 1, _, _, Nat.zero_le _, rfl, rfl, H0⟩
    case round =>
      obtain ⟨k, c', A', out, hk, rfl, rfl, HI⟩ := hrel
      obtain ⟨W, rfl⟩ : ∃ W : World, W = wr := ⟨_, rfl⟩
      clear H0 Hd HAt HB0
      have hb3 : k + 1 ≤ 1000001 := by have := Hl.out; omega
      have hol : out.length ≤ 200000 := by have := HI.out.1.len; have := Hl.out; omega
      by_cases hlt : k < l.length
      · obtain ⟨ad, p, rfl, hp, hpb, hc1, hc2⟩ := (HR.out.below HI.out.2.2).at hlt
        obtain ⟨x, hx⟩ : ∃ x, l[k] = x := ⟨_, rfl⟩
        rw [hx] at hc1 hc2
        obtain ⟨b, s⟩ := x
        have HX := Lib.hid hx
        have HFX := Lib.hid (show fit (b, s) from hx ▸ HF.out _ (List.getElem_mem hlt))
        have HAt := Lib.hid (show ∀ X, Below (W.alloc (spo b s)).heap.size (W.alloc (spo b s)) X → X.cell? ⟨W.heap.size, 0, none⟩ = some (.int .u64 (b : Int)) ∧ X.cell? ⟨W.heap.size, 1, none⟩ = some (.int .u64 (s : Int)) from fun X hd =>
          ⟨(hd.cell (p := ⟨W.heap.size, 0, none⟩) (by simp)).trans (by simp), (hd.cell (p := ⟨W.heap.size, 1, none⟩) (by simp)).trans (by simp)⟩)
        have HB1 := Lib.hid (show ∀ X, Below (W.alloc (spo b s)).heap.size (W.alloc (spo b s)) X → Below W.heap.size W X ∧ W.heap.size < X.heap.size from fun X hd => ⟨((Below.refl _ W).alloc (Nat.le_refl _) _).trans (hd.mono (by simp)), by have := hd.size; simp at this; omega⟩)
        have hg := fun X => rgood_bel b s HFX.out X
        clear hx
        simp only at hc1 hc2
        by_cases hgd : good (b, s) = true
        · rw [hgd] at hg
          have HG := Lib.hid hg
          clear hg
          go_wp2_with (go_at_call 11; refine (HG.out _).mono ?_; rintro e W2 ⟨rfl, hd⟩; have Hd := Lib.hid hd; clear hd)
          clear hc1 hc2 HG
          have HRow := Lib.hid (show ∀ X, Below W2.heap.size W2 X → Row X X.heap.size A' out from fun X hb => (HI.out.2.1.below ((HB1.out W2 Hd.out).1.trans (hb.mono (HB1.out W2 Hd.out).1.size))).wide (Nat.le_trans (HB1.out W2 Hd.out).1.size hb.size))
          have HAt2 := Lib.hid (show ∀ X, Below W2.heap.size W2 X → X.cell? ⟨W.heap.size, 0, none⟩ = some (.int .u64 (b : Int)) ∧ X.cell? ⟨W.heap.size, 1, none⟩ = some (.int .u64 (s : Int)) ∧ W.heap.size < X.heap.size from fun X hb =>
            ⟨(HAt.out X (Hd.out.trans (hb.mono Hd.out.size))).1, (HAt.out X (Hd.out.trans (hb.mono Hd.out.size))).2, Nat.lt_of_lt_of_le (HB1.out W2 Hd.out).2 hb.size⟩)
          have H0 := Lib.hid (show OwnS W2 W2.heap.size (.slice none 0 0) ((out.take 0).flatMap (pieces (b, s))) ∧ Below W2.heap.size W2 W2 from ⟨World.ownsRow_nil _ _ _ _, Below.refl _ _⟩)
          go_loopw [8, 27] (fun vn vj X => ∃ j : Nat, j ≤ out.length ∧ vj = .int .i64 j ∧ Hid (OwnS X W2.heap.size vn ((out.take j).flatMap (pieces (b, s))) ∧ Below W2.heap.size W2 X)) (fun _ i _ => out.length - (intOf i).toNat)
          case atStart => exact ⟨0, Nat.zero_le _, rfl, H0⟩
          case round =>
            obtain ⟨j, hj, rfl, HJ⟩ := hrel
            obtain ⟨X, rfl⟩ : ∃ X : World, X = wr := ⟨_, rfl⟩
            clear H0
            have hb4 : j + 1 ≤ 1000001 := by omega
            by_cases hjl : j < out.length
            · obtain ⟨ad2, p2, rfl, hp2, hpb2, hc1, hc2⟩ := (HRow.out X HJ.out.2).at hjl
              have hms := flat_succ (pieces (b, s)) out hjl
              have hfl := flat_len (pieces (b, s)) (pieces_len _) (out.take j)
              rw [List.length_take] at hfl
              have hfy := HI.out.1.fits _ (List.getElem_mem hjl)
              obtain ⟨y, hy⟩ : ∃ y, out[j] = y := ⟨_, rfl⟩
              rw [hy] at hc1 hc2 hms hfy
              obtain ⟨c, d⟩ := y
              have HFY := Lib.hid hfy
              have HMS := Lib.hid hms
              obtain ⟨out1, ho⟩ : ∃ out1, out1 = (out.take j).flatMap (pieces (b, s)) := ⟨_, rfl⟩
              rw [← ho] at hfl HJ HMS
              have hol1 : out1.length + 3 ≤ 1000000 := by omega
              simp only at hc1 hc2
              have HO1 := Lib.hid (show OwnS (X.alloc (spo c d)) W2.heap.size u8 out1 ∧ Below W2.heap.size W2 (X.alloc (spo c d)) from ⟨HJ.out.1.below ((Below.refl _ _).alloc (Nat.le_refl _) _), HJ.out.2.alloc HJ.out.2.size _⟩)
              obtain ⟨ca0, ca1, hwx⟩ := HAt2.out _ HJ.out.2
              have hAtY := fun (Y : World) (hd : Below (X.alloc (spo c d)).heap.size (X.alloc (spo c d)) Y) => (show Y.cell? ⟨W.heap.size, 0, none⟩ = some (.int .u64 (b : Int)) ∧ Y.cell? ⟨W.heap.size, 1, none⟩ = some (.int .u64 (s : Int)) ∧ Y.cell? ⟨X.heap.size, 0, none⟩ = some (.int .u64 (c : Int)) ∧ Y.cell? ⟨X.heap.size, 1, none⟩ = some (.int .u64 (d : Int)) from
                ⟨(HAt2.out Y (HO1.out.2.trans (hd.mono HO1.out.2.size))).1, (HAt2.out Y (HO1.out.2.trans (hd.mono HO1.out.2.size))).2.1, (hd.cell (p := ⟨X.heap.size, 0, none⟩) (by simp)).trans (by simp), (hd.cell (p := ⟨X.heap.size, 1, none⟩) (by simp)).trans (by simp)⟩)
              have HAtY := Lib.hid hAtY
              have hov := fun Y => roverlap_any b s c d HFX.out HFY.out Y
              clear hy hms hfy hfl ho hAtY
              have HNE0 := Lib.hid (HJ.out.1.past (Nat.le_refl _))
              by_cases hovr : overlap (b, s) (c, d) = true
              · rw [hovr] at hov
                have HOV := Lib.hid hov
                have HGL := Lib.hid (show b < 18446744073709551616 ∧ last (c, d) < 18446744073709551616 from ⟨HFX.out.1, last_lt _⟩)
                clear hov
                go_upto_if 43 with (go_at_call 19; refine (HOV.out _).mono ?_; rintro e X1 ⟨rfl, hd⟩; obtain ⟨ca0, ca1, cb0, cb1⟩ := HAtY.out X1 hd; have Hd1 := Lib.hid hd; clear hd)
                clear hc1 hc2 HOV
                have HO1' := Lib.hid (show OwnS X1 W2.heap.size u8 out1 ∧ Below W2.heap.size W2 X1 from ⟨HO1.out.1.below Hd1.out, HO1.out.2.trans (Hd1.out.mono HO1.out.2.size)⟩)
                go_cut [8] from 28 to 72 (fun v8 wx => ∃ out2, Hid (out2 = out1 ++ (if c < b then [(c, b - c)] else [])) ∧ out2.length ≤ out1.length + 1 ∧ Hid (OwnS wx W2.heap.size v8 out2 ∧ Below W2.heap.size W2 wx ∧ wx.cell? ⟨X.heap.size, 0, none⟩ = some (.int .u64 (c : Int)) ∧ wx.cell? ⟨X.heap.size, 1, none⟩ = some (.int .u64 (d : Int))) ∧ Hid (some X.heap.size ≠ v8.ownBlock))
                case first =>
                  by_cases hlb : c < b
                  · have hw1 := wrap_le (Nat.le_of_lt hlb) HGL.out.1
                    obtain ⟨v', w', hrun, hown, hgr, hob⟩ := app4_run X1 W2.heap.size u8 out1 [(c, b - c)] HO1'.out.1 HO1'.out.2.size (by simp only [List.length_cons, List.length_nil]; omega) 32 #[.int .u64 (c : Int), .int .u64 ((b : Int) - (c : Int))] (by simp [cells2]; omega)
                    simp only [List.length_cons, List.length_nil, Nat.zero_add] at hrun
                    have HN2 := Lib.hid (show some X.heap.size ≠ v'.ownBlock from by
                      rcases hob with h | h
                      · rw [h]; exact HNE0.out
                      · rw [h]; have := Hd1.out.size; simp at this; intro e; injection e; omega)
                    have HOW := Lib.hid (show OwnS w' W2.heap.size v' (out1 ++ [(c, b - c)]) ∧ Below W2.heap.size W2 w' ∧ w'.cell? ⟨X.heap.size, 0, none⟩ = some (.int .u64 (c : Int)) ∧ w'.cell? ⟨X.heap.size, 1, none⟩ = some (.int .u64 (d : Int)) from ⟨hown, below_app (HO1'.out.2.alloc HO1'.out.2.size _) hgr (by have := HO1'.out.2.size; simp; omega) HO1'.out.1.block (Nat.le_refl _), cell_grown hgr HNE0.out cb0, cell_grown hgr HNE0.out cb1⟩)
                    clear hown hgr hob
                    go_wp2_with fail
                    go_meet
                    case rel => exact ⟨out1 ++ [(c, b - c)], Lib.hid (by rw [if_pos hlb]), by simp, HOW, HN2⟩
                  · have hlbz : decide (c < b) = false := decide_eq_false hlb
                    have HCB := Lib.hid (And.intro cb0 cb1)
                    go_wp2_with fail
                    go_meet
                    case rel => exact ⟨out1, Lib.hid (by rw [if_neg hlb]; simp), by omega, Lib.hid ⟨HO1'.out.1, HO1'.out.2, HCB.out.1, HCB.out.2⟩, HNE0⟩
                case rest =>
                  obtain ⟨out2, HE2, hol2, HO2, HNE⟩ := hcut
                  obtain ⟨Y1, hY1⟩ : ∃ Y1 : World, Y1 = wc := ⟨_, rfl⟩
                  rw [← hY1] at HO2 ⊢
                  clear hY1 ca0 ca1 cb0 cb1 HO1' Hd1
                  obtain ⟨ca0, ca1, _⟩ := HAt2.out Y1 HO2.out.2.1
                  obtain ⟨_, _, cb0, cb1⟩ := HO2.out
                  by_cases hlr : last (b, s) < last (c, d)
                  · have hw3 : IntKind.u64.wrap ((last (b, s) : Int) + 1) = (last (b, s) : Int) + 1 := by
                      have := HGL.out.2
                      simp [IntKind.wrap, IntKind.bits, IntKind.signed]; omega
                    have hw4 := wrap_le (Nat.le_of_lt hlr) HGL.out.2
                    go_upto_region 16 with fail
                    refine wp_region_held_drew (S := fun Y => Below W2.heap.size W2 Y ∧ Y.cell? ⟨W.heap.size, 0, none⟩ = some (.int .u64 (b : Int)) ∧ Y.cell? ⟨W.heap.size, 1, none⟩ = some (.int .u64 (s : Int)) ∧ Y.cell? ⟨X.heap.size, 0, none⟩ = some (.int .u64 (c : Int)) ∧ Y.cell? ⟨X.heap.size, 1, none⟩ = some (.int .u64 (d : Int))) (by kernel_rfl) (by exact ⟨HO2.out.2.1.drew, ca0, ca1, cb0, cb1⟩) (fun hS => ?_)
                    (refine held_take (i := 0) (oi := ?ot1) (v := ?vt1) ?at1 (by kernel_rfl) (by kernel_rfl) (by kernel_rfl) ?bt1 ?ct1 ?dt1 (by assumption) ?rt1; (case at1 => (simp only [List.getElem?_toArray, List.getElem?_cons_zero]; rfl)); (case bt1 => exact fun _ _ _ h => h); (case ct1 => kernel_rfl); (case dt1 => (intro W hW; (try dsimp only at hW); go_split_ands; go_simp; (try with_reducible rfl))); (case' rt1 => simp only [Act.put, List.setIfInBounds_toArray, List.set_cons_zero, List.set_cons_succ]))
                    (refine held_take (i := 2) (oi := ?ot2) (v := ?vt2) ?at2 (by kernel_rfl) (by kernel_rfl) (by kernel_rfl) ?bt2 ?ct2 ?dt2 (by assumption) ?rt2; (case at2 => (simp only [List.getElem?_toArray, List.getElem?_cons_zero, List.getElem?_cons_succ]; rfl)); (case bt2 => exact fun _ _ _ h => h); (case ct2 => kernel_rfl); (case dt2 => (intro W hW; (try dsimp only at hW); go_split_ands; go_simp; (try with_reducible rfl))); (case' rt2 => simp only [Act.put, List.setIfInBounds_toArray, List.set_cons_zero, List.set_cons_succ]))
                    refine held_one (i := 1) (oi := ?ot3) (by kernel_rfl) ?at3 ?ct3 (fun K1 hK1 => ?_)
                    (case at3 => (simp only [List.getElem?_toArray, List.getElem?_cons_zero, List.getElem?_cons_succ]; rfl))
                    (case ct3 => kernel_rfl)
                    go_simp
                    refine (rlast_bel c d HFY.out _).mono ?_
                    rintro e y1 ⟨rfl, hd⟩
                    have HD_y1 := Lib.hid hd
                    refine hK1 _ _ (keep4 hd hS) (fun hS1 => ?_)
                    clear hS hd hK1 K1
                    refine held_one (i := 3) (oi := ?ot4) (by kernel_rfl) ?at4 ?ct4 (fun K3 hK3 => ?_)
                    (case at4 => (simp only [List.getElem?_toArray, List.getElem?_cons_zero, List.getElem?_cons_succ]; rfl))
                    (case ct4 => kernel_rfl)
                    go_simp
                    refine (rlast_bel b s HFX.out _).mono ?_
                    rintro e y2 ⟨rfl, hd⟩
                    have HD_y2 := Lib.hid hd
                    refine hK3 _ _ (keep4 hd hS1) (fun hS3 => ?_)
                    clear hS1 hd hK3 K3
                    (refine held_take (i := 4) (oi := ?ot5) (v := ?vt5) ?at5 (by kernel_rfl) (by kernel_rfl) (by kernel_rfl) ?bt5 ?ct5 ?dt5 (by assumption) ?rt5; (case at5 => (simp only [List.getElem?_toArray, List.getElem?_cons_zero, List.getElem?_cons_succ]; rfl)); (case bt5 => exact fun _ _ _ h => h); (case ct5 => kernel_rfl); (case dt5 => (intro W hW; (try dsimp only at hW); go_split_ands; go_simp; (try with_reducible rfl))); (case' rt5 => simp only [Act.put, List.setIfInBounds_toArray, List.set_cons_zero, List.set_cons_succ]))
                    refine wpAnyH_done (by kernel_rfl) ?_ _
                    have HS3 := Lib.hid hS3
                    clear hS3 ca0 ca1 cb0 cb1
                    have HO3 := Lib.hid (show OwnS y2 W2.heap.size u8 out2 from ((HO2.out.1.below (Below.refl _ _).drew).below HD_y1.out).below HD_y2.out)
                    go_upto_region 17 with fail
                    obtain ⟨_, ca0, ca1, cb0, cb1⟩ := HS3.out
                    refine wp_region_held_drew (S := fun Y => Below W2.heap.size W2 Y ∧ Y.cell? ⟨W.heap.size, 0, none⟩ = some (.int .u64 (b : Int)) ∧ Y.cell? ⟨W.heap.size, 1, none⟩ = some (.int .u64 (s : Int)) ∧ Y.cell? ⟨X.heap.size, 0, none⟩ = some (.int .u64 (c : Int)) ∧ Y.cell? ⟨X.heap.size, 1, none⟩ = some (.int .u64 (d : Int))) (by kernel_rfl) (by exact ⟨HS3.out.1.drew, ca0, ca1, cb0, cb1⟩) (fun hS => ?_)
                    (refine held_take (i := 0) (oi := ?ot6) (v := ?vt6) ?at6 (by kernel_rfl) (by kernel_rfl) (by kernel_rfl) ?bt6 ?ct6 ?dt6 (by assumption) ?rt6; (case at6 => (simp only [List.getElem?_toArray, List.getElem?_cons_zero]; rfl)); (case bt6 => exact fun _ _ _ h => h); (case ct6 => kernel_rfl); (case dt6 => (intro W hW; (try dsimp only at hW); go_split_ands; go_simp; (try with_reducible rfl))); (case' rt6 => simp only [Act.put, List.setIfInBounds_toArray, List.set_cons_zero, List.set_cons_succ]))
                    (refine held_take (i := 1) (oi := ?ot7) (v := ?vt7) ?at7 (by kernel_rfl) (by kernel_rfl) (by kernel_rfl) ?bt7 ?ct7 ?dt7 (by assumption) ?rt7; (case at7 => (simp only [List.getElem?_toArray, List.getElem?_cons_zero, List.getElem?_cons_succ]; rfl)); (case bt7 => exact fun _ _ _ h => h); (case ct7 => kernel_rfl); (case dt7 => (intro W hW; (try dsimp only at hW); go_split_ands; go_simp; (try with_reducible rfl))); (case' rt7 => simp only [Act.put, List.setIfInBounds_toArray, List.set_cons_zero, List.set_cons_succ]))
                    (refine held_take (i := 4) (oi := ?ot8) (v := ?vt8) ?at8 (by kernel_rfl) (by kernel_rfl) (by kernel_rfl) ?bt8 ?ct8 ?dt8 (by assumption) ?rt8; (case at8 => (simp only [List.getElem?_toArray, List.getElem?_cons_zero, List.getElem?_cons_succ]; rfl)); (case bt8 => exact fun _ _ _ h => h); (case ct8 => kernel_rfl); (case dt8 => (intro W hW; (try dsimp only at hW); go_split_ands; go_simp; (try with_reducible rfl))); (case' rt8 => simp only [Act.put, List.setIfInBounds_toArray, List.set_cons_zero, List.set_cons_succ]))
                    (refine held_take (i := 6) (oi := ?ot9) (v := ?vt9) ?at9 (by kernel_rfl) (by kernel_rfl) (by kernel_rfl) ?bt9 ?ct9 ?dt9 (by assumption) ?rt9; (case at9 => (simp only [List.getElem?_toArray, List.getElem?_cons_zero, List.getElem?_cons_succ]; rfl)); (case bt9 => exact fun _ _ _ h => h); (case ct9 => kernel_rfl); (case dt9 => (intro W hW; (try dsimp only at hW); go_split_ands; go_simp; (try with_reducible rfl))); (case' rt9 => simp only [Act.put, List.setIfInBounds_toArray, List.set_cons_zero, List.set_cons_succ]))
                    refine held_one (i := 2) (oi := ?ot10) (by kernel_rfl) ?at10 ?ct10 (fun K2 hK2 => ?_)
                    (case at10 => (simp only [List.getElem?_toArray, List.getElem?_cons_zero, List.getElem?_cons_succ]; rfl))
                    (case ct10 => kernel_rfl)
                    go_simp
                    refine (rlast_bel b s HFX.out _).mono ?_
                    rintro e y3 ⟨rfl, hd⟩
                    have HD_y3 := Lib.hid hd
                    refine hK2 _ _ (keep4 hd hS) (fun hS2 => ?_)
                    clear hS hd hK2 K2
                    (refine held_take (i := 3) (oi := ?ot11) (v := ?vt11) ?at11 (by kernel_rfl) (by kernel_rfl) (by kernel_rfl) ?bt11 ?ct11 ?dt11 (by assumption) ?rt11; (case at11 => (simp only [List.getElem?_toArray, List.getElem?_cons_zero, List.getElem?_cons_succ]; rfl)); (case bt11 => exact fun _ _ _ h => h); (case ct11 => kernel_rfl); (case dt11 => (intro W hW; (try dsimp only at hW); go_split_ands; go_simp; (try with_reducible rfl))); (case' rt11 => simp only [Act.put, List.setIfInBounds_toArray, List.set_cons_zero, List.set_cons_succ]))
                    refine held_one (i := 5) (oi := ?ot12) (by kernel_rfl) ?at12 ?ct12 (fun K5 hK5 => ?_)
                    (case at12 => (simp only [List.getElem?_toArray, List.getElem?_cons_zero, List.getElem?_cons_succ]; rfl))
                    (case ct12 => kernel_rfl)
                    go_simp
                    refine (rlast_bel c d HFY.out _).mono ?_
                    rintro e y4 ⟨rfl, hd⟩
                    have HD_y4 := Lib.hid hd
                    refine hK5 _ _ (keep4 hd hS2) (fun hS5 => ?_)
                    clear hS2 hd hK5 K5
                    refine held_one (i := 7) (oi := ?ot13) (by kernel_rfl) ?at13 ?ct13 (fun K7 hK7 => ?_)
                    (case at13 => (simp only [List.getElem?_toArray, List.getElem?_cons_zero, List.getElem?_cons_succ]; rfl))
                    (case ct13 => kernel_rfl)
                    go_simp
                    refine (rlast_bel b s HFX.out _).mono ?_
                    rintro e y5 ⟨rfl, hd⟩
                    have HD_y5 := Lib.hid hd
                    refine hK7 _ _ (keep4 hd hS5) (fun hS7 => ?_)
                    clear hS5 hd hK7 K7
                    (refine held_take (i := 8) (oi := ?ot14) (v := ?vt14) ?at14 (by kernel_rfl) (by kernel_rfl) (by kernel_rfl) ?bt14 ?ct14 ?dt14 (by assumption) ?rt14; (case at14 => (simp only [List.getElem?_toArray, List.getElem?_cons_zero, List.getElem?_cons_succ]; rfl)); (case bt14 => exact fun _ _ _ h => h); (case ct14 => kernel_rfl); (case dt14 => (intro W hW; (try dsimp only at hW); go_split_ands; go_simp; (try with_reducible rfl))); (case' rt14 => simp only [Act.put, List.setIfInBounds_toArray, List.set_cons_zero, List.set_cons_succ]))
                    (refine held_take (i := 9) (oi := ?ot15) (v := ?vt15) ?at15 (by kernel_rfl) (by kernel_rfl) (by kernel_rfl) ?bt15 ?ct15 ?dt15 (by assumption) ?rt15; (case at15 => (simp only [List.getElem?_toArray, List.getElem?_cons_zero, List.getElem?_cons_succ]; rfl)); (case bt15 => exact fun _ _ _ h => h); (case ct15 => kernel_rfl); (case dt15 => (intro W hW; (try dsimp only at hW); go_split_ands; go_simp; (try with_reducible rfl))); (case' rt15 => simp only [Act.put, List.setIfInBounds_toArray, List.set_cons_zero, List.set_cons_succ]))
                    have HO5 := Lib.hid (show OwnS y5 W2.heap.size u8 out2 from (((HO3.out.below (Below.refl _ _).drew).below HD_y3.out).below HD_y4.out).below HD_y5.out)
                    obtain ⟨v', w', hrun, hown, hgr, _⟩ := app4_run y5 W2.heap.size u8 out2 [(last (b, s) + 1, last (c, d) - last (b, s))] HO5.out hS7.1.size (by simp only [List.length_cons, List.length_nil]; omega) 32 #[.int .u64 ((last (b, s) : Int) + 1), .int .u64 ((last (c, d) : Int) - (last (b, s) : Int))] (by simp [cells2]; omega)
                    simp only [List.length_cons, List.length_nil, Nat.zero_add] at hrun
                    have hbw : Below W2.heap.size W2 w' := below_app (hS7.1.alloc hS7.1.size _) hgr (by have := hS7.1.size; simp; omega) HO5.out.block (Nat.le_refl _)
                    have HSW := Lib.hid (show Below W2.heap.size W2 w' ∧ w'.cell? ⟨W.heap.size, 0, none⟩ = some (.int .u64 (b : Int)) ∧ w'.cell? ⟨W.heap.size, 1, none⟩ = some (.int .u64 (s : Int)) ∧ w'.cell? ⟨X.heap.size, 0, none⟩ = some (.int .u64 (c : Int)) ∧ w'.cell? ⟨X.heap.size, 1, none⟩ = some (.int .u64 (d : Int)) from ⟨hbw, (HAt2.out w' hbw).1, (HAt2.out w' hbw).2.1, cell_grown hgr HNE.out hS7.2.2.2.1, cell_grown hgr HNE.out hS7.2.2.2.2⟩)
                    have HOW := Lib.hid hown
                    clear hown hgr hbw
                    refine held_one (i := 10) (oi := ?ot16) (by kernel_rfl) ?at16 ?ct16 (fun K10 hK10 => ?_)
                    (case at16 => (simp only [List.getElem?_toArray, List.getElem?_cons_zero, List.getElem?_cons_succ]; rfl))
                    (case ct16 => kernel_rfl)
                    go_simp
                    refine hK10 _ _ (keep4 ((Below.refl _ y5).alloc (Nat.le_refl _) _) hS7) (fun hS10 => ?_)
                    clear hS7 hK10 K10
                    refine held_one (i := 11) (oi := ?ot17) (by kernel_rfl) ?at17 ?ct17 (fun K11 hK11 => ?_)
                    (case at17 => (simp only [List.getElem?_toArray, List.getElem?_cons_zero, List.getElem?_cons_succ]; rfl))
                    (case ct17 => kernel_rfl)
                    go_simp
                    refine hK11 _ _ HSW.out (fun hS11 => ?_)
                    clear hS10 hK11 K11 hrun
                    (refine held_take (i := 12) (oi := ?ot18) (v := ?vt18) ?at18 (by kernel_rfl) (by kernel_rfl) (by kernel_rfl) ?bt18 ?ct18 ?dt18 (by assumption) ?rt18; (case at18 => (simp only [List.getElem?_toArray, List.getElem?_cons_zero, List.getElem?_cons_succ]; rfl)); (case bt18 => exact fun _ _ _ h => h); (case ct18 => kernel_rfl); (case dt18 => (intro W hW; (try dsimp only at hW); go_split_ands; go_simp; (try with_reducible rfl))); (case' rt18 => simp only [Act.put, List.setIfInBounds_toArray, List.set_cons_zero, List.set_cons_succ]))
                    refine wpAnyH_done (by kernel_rfl) ?_ _
                    clear hS11
                    go_wp2_with fail
                    go_roundw
                    case rel => exact ⟨j + 1, by omega, by go_num, Lib.hid ⟨by rw [HMS.out, show pieces (b, s) (c, d) = (if c < b then [(c, b - c)] else []) ++ [(last (b, s) + 1, last (c, d) - last (b, s))] from by unfold pieces; rw [if_pos hovr, if_pos hlr], ← List.append_assoc, ← HE2.out]; exact HOW.out, HSW.out.1⟩⟩
                    case measure => simp [intOf]; omega
                  · have hlrz : decide (last (b, s) < last (c, d)) = false := decide_eq_false hlr
                    go_upto_region 16 with fail
                    refine wp_region_held_drew (S := fun Y => Below W2.heap.size W2 Y ∧ Y.cell? ⟨W.heap.size, 0, none⟩ = some (.int .u64 (b : Int)) ∧ Y.cell? ⟨W.heap.size, 1, none⟩ = some (.int .u64 (s : Int)) ∧ Y.cell? ⟨X.heap.size, 0, none⟩ = some (.int .u64 (c : Int)) ∧ Y.cell? ⟨X.heap.size, 1, none⟩ = some (.int .u64 (d : Int))) (by kernel_rfl) (by exact ⟨HO2.out.2.1.drew, ca0, ca1, cb0, cb1⟩) (fun hS => ?_)
                    (refine held_take (i := 0) (oi := ?ot19) (v := ?vt19) ?at19 (by kernel_rfl) (by kernel_rfl) (by kernel_rfl) ?bt19 ?ct19 ?dt19 (by assumption) ?rt19; (case at19 => (simp only [List.getElem?_toArray, List.getElem?_cons_zero]; rfl)); (case bt19 => exact fun _ _ _ h => h); (case ct19 => kernel_rfl); (case dt19 => (intro W hW; (try dsimp only at hW); go_split_ands; go_simp; (try with_reducible rfl))); (case' rt19 => simp only [Act.put, List.setIfInBounds_toArray, List.set_cons_zero, List.set_cons_succ]))
                    (refine held_take (i := 2) (oi := ?ot20) (v := ?vt20) ?at20 (by kernel_rfl) (by kernel_rfl) (by kernel_rfl) ?bt20 ?ct20 ?dt20 (by assumption) ?rt20; (case at20 => (simp only [List.getElem?_toArray, List.getElem?_cons_zero, List.getElem?_cons_succ]; rfl)); (case bt20 => exact fun _ _ _ h => h); (case ct20 => kernel_rfl); (case dt20 => (intro W hW; (try dsimp only at hW); go_split_ands; go_simp; (try with_reducible rfl))); (case' rt20 => simp only [Act.put, List.setIfInBounds_toArray, List.set_cons_zero, List.set_cons_succ]))
                    refine held_one (i := 1) (oi := ?ot21) (by kernel_rfl) ?at21 ?ct21 (fun K1 hK1 => ?_)
                    (case at21 => (simp only [List.getElem?_toArray, List.getElem?_cons_zero, List.getElem?_cons_succ]; rfl))
                    (case ct21 => kernel_rfl)
                    go_simp
                    refine (rlast_bel c d HFY.out _).mono ?_
                    rintro e y1 ⟨rfl, hd⟩
                    have HD_y1 := Lib.hid hd
                    refine hK1 _ _ (keep4 hd hS) (fun hS1 => ?_)
                    clear hS hd hK1 K1
                    refine held_one (i := 3) (oi := ?ot22) (by kernel_rfl) ?at22 ?ct22 (fun K3 hK3 => ?_)
                    (case at22 => (simp only [List.getElem?_toArray, List.getElem?_cons_zero, List.getElem?_cons_succ]; rfl))
                    (case ct22 => kernel_rfl)
                    go_simp
                    refine (rlast_bel b s HFX.out _).mono ?_
                    rintro e y2 ⟨rfl, hd⟩
                    have HD_y2 := Lib.hid hd
                    refine hK3 _ _ (keep4 hd hS1) (fun hS3 => ?_)
                    clear hS1 hd hK3 K3
                    (refine held_take (i := 4) (oi := ?ot23) (v := ?vt23) ?at23 (by kernel_rfl) (by kernel_rfl) (by kernel_rfl) ?bt23 ?ct23 ?dt23 (by assumption) ?rt23; (case at23 => (simp only [List.getElem?_toArray, List.getElem?_cons_zero, List.getElem?_cons_succ]; rfl)); (case bt23 => exact fun _ _ _ h => h); (case ct23 => kernel_rfl); (case dt23 => (intro W hW; (try dsimp only at hW); go_split_ands; go_simp; (try with_reducible rfl))); (case' rt23 => simp only [Act.put, List.setIfInBounds_toArray, List.set_cons_zero, List.set_cons_succ]))
                    refine wpAnyH_done (by kernel_rfl) ?_ _
                    have HS3 := Lib.hid hS3
                    clear hS3 ca0 ca1 cb0 cb1
                    have HO3 := Lib.hid (show OwnS y2 W2.heap.size u8 out2 from ((HO2.out.1.below (Below.refl _ _).drew).below HD_y1.out).below HD_y2.out)
                    go_wp2_with fail
                    go_roundw
                    case rel => exact ⟨j + 1, by omega, by go_num, Lib.hid ⟨by rw [HMS.out, show pieces (b, s) (c, d) = (if c < b then [(c, b - c)] else []) from by unfold pieces; rw [if_pos hovr, if_neg hlr, List.append_nil], ← HE2.out]; exact HO3.out, HS3.out.1⟩⟩
                    case measure => simp [intOf]; omega
              · have hovf : overlap (b, s) (c, d) = false := by simpa using hovr
                rw [hovf] at hov
                have HOV := Lib.hid hov
                clear hov
                have HA := Lib.hid (show ∀ X1, Below (X.alloc (spo c d)).heap.size (X.alloc (spo c d)) X1 → ∃ v' w', (appS #[32, 32] 32 #[u8, .slice (some ⟨X1.heap.size, 0, none⟩) 1 1]).run Try.prog (X1.alloc (.cells #[.int .u64 (c : Int), .int .u64 (d : Int)] 24)) = .ok v' w' ∧ OwnS w' W2.heap.size v' (out1 ++ [(c, d)]) ∧ Below W2.heap.size W2 w' from fun X1 hd => by
                  have h1 := HO1.out.1.below hd
                  have h2 := HO1.out.2.trans (hd.mono HO1.out.2.size)
                  obtain ⟨v', w', hrun, hown, hgr, _⟩ := app4_run X1 W2.heap.size u8 out1 [(c, d)] h1 h2.size (by simp only [List.length_cons, List.length_nil]; omega) 32 #[.int .u64 (c : Int), .int .u64 (d : Int)] rfl
                  exact ⟨v', w', hrun, hown, below_app (h2.alloc h2.size _) hgr (by have := h2.size; simp; omega) h1.block (Nat.le_refl _)⟩)
                go_wp2_with (go_at_call 19; refine (HOV.out _).mono ?_; rintro e X1 ⟨rfl, hd⟩; obtain ⟨ca0, ca1, cb0, cb1⟩ := HAtY.out X1 hd; obtain ⟨v', w', hrun, ho1, ho2⟩ := HA.out X1 hd; have HOW := Lib.hid (And.intro ho1 ho2); clear hd ho1 ho2)
                go_roundw
                case rel => exact ⟨j + 1, by omega, by go_num, Lib.hid ⟨by rw [HMS.out, show pieces (b, s) (c, d) = [(c, d)] from by unfold pieces; rw [if_neg hovr]]; exact HOW.out.1, HOW.out.2⟩⟩
                case measure => simp [intOf]; omega
            · obtain rfl : j = out.length := by omega
              have e2 : out.take out.length = out := List.take_length
              rw [e2] at HJ
              clear e2
              obtain ⟨A3, c3, rfl, hrow3⟩ := HJ.out.1.row
              have HR3 := Lib.hid hrow3
              clear hrow3
              go_wp2_with fail
              go_roundw
              case rel => exact ⟨k + 1, c3, A3, _, by omega, by go_num, rfl, Lib.hid ⟨HI.out.1.cut hlt HX.out hgd HFX.out, HR3.out, HI.out.2.2.trans (((HB1.out W2 Hd.out).1.trans (HJ.out.2.mono (HB1.out W2 Hd.out).1.size)).mono HI.out.2.2.size)⟩⟩
              case measure => simp [intOf]; omega
        · have hgf : good (b, s) = false := by simpa using hgd
          rw [hgf] at hg
          have HG := Lib.hid hg
          clear hg
          go_wp2_with (go_at_call 11; refine (HG.out _).mono ?_; rintro e W2 ⟨rfl, hd⟩; have Hd := Lib.hid hd; clear hd)
          go_roundw
          case rel => exact ⟨k + 1, c', A', out, by omega, by go_num, rfl, Lib.hid ⟨HI.out.1.same hlt HX.out hgf, (HI.out.2.1.below (HB1.out W2 Hd.out).1).wide (HB1.out W2 Hd.out).1.size, HI.out.2.2.trans ((HB1.out W2 Hd.out).1.mono HI.out.2.2.size)⟩⟩
          case measure => simp [intOf]; omega
      · obtain rfl : k = l.length := by omega
        have he := HI.out.1.eq
        rw [List.take_length] at he
        have HE := Lib.hid (show cutS (s1, s2) l = out by unfold cutS; rw [if_pos hgs]; exact he)
        clear he
        go_wp2_with fail
        go_ret
        exact ⟨A', c', by rw [HE.out]; rfl, by rw [HE.out]; exact HI.out.2.1, HI.out.2.2⟩
  · have hgf : good (s1, s2) = false := by simpa using hgs
    rw [hgf] at hg
    have HG := Lib.hid hg
    have HE := Lib.hid (show cutS (s1, s2) l = [] by unfold cutS; rw [if_neg hgs])
    clear hg
    go_enter Try.func28, Try.ntmps28
    go_wp2_with (go_at_call 11; refine (HG.out _).mono ?_; rintro e w1 ⟨rfl, hd⟩; have Hd := Lib.hid hd; clear hd)
    go_ret
    exact ⟨none, 0, by rw [HE.out]; rfl, by rw [HE.out]; exact Row.nil _ _ _, HB0.out w1 Hd.out⟩
end Go.Proofs.Ythedpjlafapfeaa
