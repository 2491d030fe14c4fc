import Derived.Laws.EntriesVeiled
import Derived.Test.YtkaipknkjocfiaaGreatZa41
namespace Go.Proofs.YtkaipknkjocfiaaGreat
open Go.RowKit Go.Shelf
attribute [local go_sem] Oper.semAt_some
attribute [local go_sem ↓ high] zeroCf zeroRk zeroSp
def spR (y : Rk) : Sp := (y.m.pa.toNat, y.m.size.toNat)
theorem own_ne {α : Type} {n base g : Nat} {t t' : TypeId} {enc : α → Nat → Value} {v : Value} {l : List α} {w : World} {cs : Array Value} (ho : OwnE t n enc w base v l) (hb : w.heap[g]? = some (.cells cs t' (0, 0))) (h : t ≠ t') : some g ≠ v.ownBlock := fun e => by
 rcases ho.2 with ⟨rfl, _⟩ | ⟨k, cap, cur, rfl, _, hg, _⟩
 · simp [Value.ownBlock] at e
 · simp [Value.ownBlock] at e
   subst e
   rw [hb] at hg
   injection hg with hg
   injection hg with _ hg _
   exact h hg.symm
theorem ownS_own {B base : Nat} {v : Value} {l : List Sp} {X Y : World} {row : Option Nat} (h : OwnS X base v l) (hg : X.grownBy Y row) (hr : ∀ r, row = some r → B ≤ r ∧ ∃ o : Obj, X.heap[r]? = some o ∧ o.isCells = false) : OwnS Y base v l := by
 refine ⟨h.1, ?_⟩
 rcases h.2 with h2 | ⟨g, cap, cur, rfl, hb, hh, r⟩
 · exact .inl h2
 · exact .inr ⟨g, cap, cur, rfl, hb, blk_own (cs := cur) (t := 24) hh hg hr, r⟩
theorem PutF.belowS {Bl base : Nat} {v : Value} {l : List Sp} {w w' : World} (h : PutF Bl v w w') (ho : OwnS w base v l) {n : Nat} (h1 : n ≤ Bl) (h2 : n ≤ base) (h3 : n ≤ w.heap.size) : Below n w w' :=
 ⟨h.os, h.tape, h.output, h.size, fun k hk => h.block k (by omega) (by omega) fun e => by obtain ⟨_, _, _, _, _, hq⟩ := ho.form; have := (hq k e.symm).1; omega⟩
theorem PutF.knS {Bl base n0 B : Nat} {v u : Value} {l : List Sp} {w w' : World} (h : PutF Bl v w w') (ho : OwnS w base v l) (hb : Blk w Bl 40 #[u]) (h1 : n0 ≤ Bl) (h2 : n0 ≤ base) (h3 : n0 ≤ w.heap.size) : KN n0 B w w' := by
 have hown : ∀ k, some k = v.ownBlock → ∃ cs fr, w.heap[k]? = some (.cells cs 24 fr) := fun k hk => by
   rcases ho.2 with ⟨rfl, _⟩ | ⟨g, cap, cur, rfl, _, hg, _⟩
   · simp [Value.ownBlock] at hk
   · simp [Value.ownBlock] at hk
     subst hk
     exact ⟨_, _, hg⟩
 refine ⟨h.size, (h.belowS ho h1 h2 h3).block, fun k cs t fr hk ht => ?_, fun k o _ hk hc => ?_⟩
 · refine (h.block k (Array.getElem?_eq_some_iff.1 hk).1 (fun e => ?_) fun e => ?_).trans hk
   · subst e
     rw [show w.heap[k]? = _ from hb] at hk
     injection hk with hk
     injection hk with _ hk _
     exact ht (by rw [← hk]; unfold loudT; decide)
   · obtain ⟨c2, f2, hc⟩ := hown k e
     rw [hc] at hk
     injection hk with hk
     injection hk with _ hk _
     exact ht (by rw [← hk]; unfold loudT; decide)
 · refine (h.block k (Array.getElem?_eq_some_iff.1 hk).1 (fun e => ?_) fun e => ?_).trans hk
   · subst e
     rw [show w.heap[k]? = _ from hb] at hk
     cases hk
     cases hc
   · obtain ⟨c2, f2, hcc⟩ := hown k e
     rw [hcc] at hk
     cases hk
     cases hc
theorem PutF.drew {Bl : Nat} {v : Value} {w w' : World} (h : PutF Bl v w.drew w') : PutF Bl v w w' := ⟨h.os, h.tape, h.output, h.size, h.block⟩
theorem phys_is (x : Cf) (g : Int) : physG x g = ((partsG x g).takeWhile fun y => decide (y.r ≠ 2)).map spR := by
 unfold physG partsG
 cases guestAt x g with
 | none => rfl
 | some t =>
  simp only
  rw [physP_is]
  unfold partsR
  rw [← List.append_assoc, List.takeWhile_append_of_pos]
  · have h : ((x.chs.flatMap (chM g)).map rkM).takeWhile (fun y => decide (y.r ≠ 2)) = [] := by
      cases x.chs.flatMap (chM g) with
      | nil => rfl
      | cons a l => rfl
    rw [h, List.append_nil, List.map_append, List.map_map, List.map_map]
    rfl
  · intro y hy
    rcases List.mem_append.1 hy with h | h
    · obtain ⟨z, _, rfl⟩ := List.mem_map.1 h; rfl
    · obtain ⟨z, _, rfl⟩ := List.mem_map.1 h; rfl
theorem phys_all {x : Cf} {g : Int} {ys : List RB} (hS : ys.map Subtype.val = partsG x g) (h : ∀ y ∈ ys, y.1.r ≠ 2) : ys.map (fun y => spR y.1) = physG x g := by
 rw [phys_is, ← hS]
 have : (ys.map Subtype.val).takeWhile (fun y : Rk => decide (y.r ≠ 2)) = ys.map Subtype.val := by
  have h1 := List.takeWhile_append_of_pos (p := fun y : Rk => decide (y.r ≠ 2)) (l₁ := ys.map Subtype.val) (l₂ := []) (by
   intro y hy
   obtain ⟨z, hz, rfl⟩ := List.mem_map.1 hy
   exact decide_eq_true (h z hz))
  simpa using h1
 rw [this, List.map_map]
 rfl
theorem phys_stop {x : Cf} {g : Int} {ys : List RB} {z : RB} (hS : (ys ++ [z]).map Subtype.val <+: partsG x g) (h : ∀ y ∈ ys, y.1.r ≠ 2) (hz : z.1.r = 2) : ys.map (fun y => spR y.1) = physG x g := by
 obtain ⟨rest, hr⟩ := hS
 rw [phys_is, ← hr, List.map_append, List.append_assoc, List.takeWhile_append_of_pos]
 · have : ((([z] : List RB).map Subtype.val) ++ rest).takeWhile (fun y : Rk => decide (y.r ≠ 2)) = [] := by
    show (z.1 :: rest).takeWhile _ = []
    rw [List.takeWhile_cons_of_neg]
    rw [hz]; decide
   rw [this, List.append_nil, List.map_map]
   rfl
 · intro y hy
   obtain ⟨q, hq, rfl⟩ := List.mem_map.1 hy
   exact decide_eq_true (h q hq)
structure PhI (w w1 : World) (s : Nat) (pre : List RB) (W : World) : Prop where
 own : ∃ v, Blk W (s + 1) 40 #[v] ∧ OwnS W w1.heap.size v (pre.map fun y => spR y.1)
 low : ∀ y ∈ pre, y.1.r ≠ 2
 bel : Below w.heap.size w W
 kn : KN w.heap.size 0 w1 W
structure PhX (w w1 : World) (s : Nat) (cd : Code) (pre : List RB) (W : World) : Prop where
 ex : cd = .exit 0
 own : ∃ ys z v, pre = ys ++ [z] ∧ (∀ y ∈ ys, y.1.r ≠ 2) ∧ z.1.r = 2 ∧ Blk W (s + 1) 40 #[v] ∧ OwnS W w1.heap.size v (ys.map fun y => spR y.1)
 bel : Below w.heap.size w W
theorem hi_own {w w1 : World} {s : Nat} (h : w.heap.size ≤ w1.heap.size) : OwnFrom w1.heap.size (PhI w w1 s) := fun pre X Y row hs hg hr =>
 ⟨by obtain ⟨v, h1, h2⟩ := hs.own; exact ⟨v, blk_own h1 hg hr, ownS_own h2 hg hr⟩, hs.low, below_own hs.bel h hg hr, own_kn h (Nat.le_refl _) () X Y row hs.kn hg hr⟩
theorem hx_own {w w1 : World} {s : Nat} (h : w.heap.size ≤ w1.heap.size) (cd : Code) : OwnFrom w1.heap.size (PhX w w1 s cd) := fun _ _ _ _ hs hg hr =>
 ⟨hs.ex, by obtain ⟨ys, z, v, h1, h2, h3, h4, h5⟩ := hs.own; exact ⟨ys, z, v, h1, h2, h3, blk_own h4 hg hr, ownS_own h5 hg hr⟩, below_own hs.bel h hg hr⟩
theorem phys_round {w w1 W y3 w5 : World} {s d e4 : Nat} {A B4 : Option Addr} {pre : List RB} {z : RB} (hbk : ∀ k, (Value.slice A (pre.map fun y => spR y.1).length d).ownBlock = some k → w1.heap.size ≤ k ∧ k < W.heap.size)
   (hi : PhI w w1 s pre W) (hz : z.1.r ≠ 2) (hv0 : Blk W (s + 1) 40 #[.slice A (pre.map fun y => spR y.1).length d]) (ho0 : OwnS W w1.heap.size (.slice A (pre.map fun y => spR y.1).length d) (pre.map fun y => spR y.1))
   (hd : PutF (s + 1) (.slice A (pre.map fun y => spR y.1).length d) W y3) (hv5 : Blk w5 (s + 1) 40 #[.slice A (pre.map fun y => spR y.1).length d])
   (ho5 : OwnS w5 w1.heap.size (.slice B4 ((pre.map fun y => spR y.1).length + 1) e4) ((pre.map fun y => spR y.1) ++ [spR z.1])) (hb5 : Below w1.heap.size y3 w5) (hs5 : y3.heap.size ≤ w5.heap.size)
   (hk5 : ∀ k, k < y3.heap.size → some k ≠ (Value.slice A (pre.map fun y => spR y.1).length d).ownBlock → w5.heap[k]? = y3.heap[k]?)
   (hn5 : (Value.slice B4 ((pre.map fun y => spR y.1).length + 1) e4).ownBlock = (Value.slice A (pre.map fun y => spR y.1).length d).ownBlock ∨ (Value.slice B4 ((pre.map fun y => spR y.1).length + 1) e4).ownBlock = some (y3.heap.size + 1))
   (hz1 : w1.heap.size = s + 4) (hsw : w.heap.size = s) (hzz : w1.heap.size ≤ W.heap.size) :
   KeepsFrom w1.heap.size W (w5.setCell ⟨s + 1, 0, none⟩ (.slice B4 ((pre.map fun y => spR y.1).length + 1) e4)) ∧ KN w.heap.size (w1.heap.size + 2) W (w5.setCell ⟨s + 1, 0, none⟩ (.slice B4 ((pre.map fun y => spR y.1).length + 1) e4)) ∧
     PhI w w1 s (pre ++ [z]) (w5.setCell ⟨s + 1, 0, none⟩ (.slice B4 ((pre.map fun y => spR y.1).length + 1) e4)) := by
 have hpf : PutF (s + 1) (.slice A (pre.map fun y => spR y.1).length d) W (w5.setCell ⟨s + 1, 0, none⟩ (.slice B4 ((pre.map fun y => spR y.1).length + 1) e4)) := by
   refine ⟨hb5.os.trans hd.os, hb5.tape.trans hd.tape, hb5.output.trans hd.output, Nat.le_trans hd.size (by simpa using hs5), fun k hk h1 h2 => ?_⟩
   rw [Below.heap_setCell w5 ⟨s + 1, 0, none⟩ _ k (by first | exact h1 | exact fun e => h1 e.symm), hk5 k (Nat.lt_of_lt_of_le hk hd.size) h2, hd.block k hk h1 h2]
 have knf : KN w.heap.size 0 W (w5.setCell ⟨s + 1, 0, none⟩ (.slice B4 ((pre.map fun y => spR y.1).length + 1) e4)) := hpf.knS ho0 hv0 (by omega) (by omega) (by omega)
 refine ⟨keepsFrom_up knf.from (Nat.zero_le _), knf.up (Nat.zero_le _), ⟨_, hv5.set 0 _, ?_⟩, fun y hy => ?_, ?_, hi.kn.trans knf⟩
 · rw [List.map_append]
   refine ho5.grown (o := some (s + 1)) (fun k _ h2 => Below.heap_setCell w5 ⟨s + 1, 0, none⟩ _ k fun e => h2 (by simp only at e; rw [e])) ?_
   rcases hn5 with h | h
   · rw [h]
     refine .inr fun e => ?_
     have := (hbk _ e).1
     omega
   · rw [h]
     refine .inr fun e => ?_
     have := Option.some.inj e
     have := hd.size
     omega
 · rcases List.mem_append.1 hy with hy | hy
   · exact hi.low y hy
   · obtain rfl := List.mem_singleton.1 hy
     exact hz
 · exact hi.bel.trans (hpf.belowS ho0 (by omega) (by omega) (by omega))
set_option maxRecDepth 100000 in
set_option maxHeartbeats 8000000 in
theorem physC_any (x : Cf) (a c : Value) (g : Int) (w : World) (hx : CfR w w.heap.size x a c) (hb : CfB x) (hf : fewC x = true) : Calls Tryz.prog 53 #[cfVal x a c, .int .i64 g] w (SpansP (physG x g) w) := by
 obtain ⟨Q, hQ⟩ : ∃ Q, Q = SpansP (physG x g) w := ⟨_, rfl⟩
 have HQY : Hid (∀ v L B W, L = physG x g → w.heap.size ≤ B → OwnS W B v L → Below w.heap.size w W → Q (.returned v) W) := Lib.hid (fun v L B W h1 h2 h3 h4 => by rw [hQ]; exact ⟨v, rfl, h1 ▸ h3.low h2, h4⟩)
 rw [← hQ]
 clear hQ
 obtain ⟨s, hs⟩ : ∃ s, s = w.heap.size := ⟨_, rfl⟩
 obtain ⟨U, hU⟩ : ∃ U, U = (w.alloc (.cells (vec 3 (cfE x.ver a c)) 31)).alloc (.cells #[.slice none 0 0] 40) := ⟨_, rfl⟩
 have hsz : U.heap.size = s + 2 := by rw [hU, hs]; simp
 have hBU : Below w.heap.size w U := by rw [hU]; exact Laid.below ⟨[_, _], rfl⟩
 have u0 : Arr U s 31 3 (cfE x.ver a c) := by rw [hU, hs]; exact (Arr.new _ _ _ _).alloc _
 have u1 : Blk U (s + 1) 40 #[.slice none 0 0] := by rw [hU, hs]; exact Blk.new _ _ _ (by simp)
 have HUU : Hid (U = (w.alloc (.cells (vec 3 (cfE x.ver a c)) 31)).alloc (.cells #[.slice none 0 0] 40)) := Lib.hid hU
 have HSS : Hid (w.heap.size = s) := Lib.hid hs.symm
 have HX := Lib.hid hx
 have HB := Lib.hid hb
 have HF := Lib.hid hf
 have HU0 := Lib.hid u0
 have HBS := Lib.hid u1
 have HBU := Lib.hid (And.intro hBU (And.intro hsz hs))
 have HPL := Lib.hid (partsG_len g hf)
 unfold cfVal
 clear hx hb hf hU hsz hBU u0 u1 hs
 refine (callsIn_wide (n := 10)).1 ?_
 refine callsIn_of_wp_marks Tryz.func53 rfl trivial ?_ rfl
 simp only [Tryz.ntmps53, List.size_toArray, List.length_cons, List.length_nil, Nat.reduceAdd, Nat.reduceSub, Array.replicate_succ, Array.replicate_zero, List.push_toArray, List.append_toArray, List.nil_append, List.cons_append]
 gi_wp2_with (first
  | ((with_reducible show wpListIn _ _ _ _ _ (Oper.mk _ (.load 31 _) _ _ _ _ :: _) _ _); rw [← HUU.out]; simp only [HSS.out]; refine wli_val wide_fn rfl (by intro c e; cases e) (exec_load 31 _ rfl s rfl _ (run_load_arr HU0.out Tryz.underlying31 rfl infoCf)) ?_; clear HUU)
  | (refine ⟨trivial, ?_⟩; gi_at_call 93; refine (callsIn_wide.2 (parts_any _ (cfE x.ver a c) rfl g _)).mono ?_; rintro e w1 ⟨rfl, hw1⟩; have HW1 := Lib.hid hw1; clear hw1))
 have bW : Below U.heap.size U w1 := by rw [HW1.out]; exact ((Below.refl _ _).alloc (Nat.le_refl _) _).alloc (by simp) _
 have b1 : Arr w1 U.heap.size 31 3 (cfE x.ver a c) := by rw [HW1.out]; exact (Arr.new _ _ _ _).alloc _
 have b2 : Blk w1 (U.heap.size + 1) 3 #[.int .i64 g] := by rw [HW1.out]; exact Blk.new _ _ _ (by simp)
 have hz1 : w1.heap.size = s + 4 := by rw [HW1.out]; simp [HBU.out.2.1]
 have hbw : Below w.heap.size w w1 := HBU.out.1.trans (bW.mono HBU.out.1.size)
 have hsw : w.heap.size = s := HBU.out.2.2.symm
 have c1 := HBS.out.under bW
 have hsz := HBU.out.2.1
 have HLE := Lib.hid (And.intro hz1 hsw)
 clear HW1 HU0 HBS bW
 refine range_box (n := 10) (n0 := w.heap.size) (by omega) (by omega) (gf := 130) (lb := #[.pointer (some ⟨U.heap.size, 0, none⟩), .pointer (some ⟨U.heap.size + 1, 0, none⟩)]) rfl (by intro args W; rfl)
  (parts_seq 9 (by omega) x a c g w w1 HX.out HB.out HF.out hbw U.heap.size (U.heap.size + 1) (partsG x g).length b1 b2 (Nat.le_refl _)) (Below.refl _ _)
  10 6 rfl 145 6 (fun z => rkE z.1) (fun _ => rfl) (PhI w w1 s) (PhX w w1 s) (hi_own (by omega)) (hx_own (by omega))
  ⟨⟨_, c1, OwnE.nil _ _⟩, (fun _ h => by cases h), hbw, KN.refl _ _ _⟩ (fun l W h => h.kn.size) ?assign ?body ?done ?stop
 case assign =>
  intro l z W K hK
  simp only [List.setIfInBounds_toArray, List.set_cons_zero, List.set_cons_succ] at hK ⊢
  have HK := Lib.hid hK
  clear hK
  gi_wp2_with ((with_reducible show wpListIn _ _ _ _ _ (Oper.mk _ (.store 145 _ _) _ _ _ _ :: _) _ _); refine wli_store rfl 145 _ _ rfl _ rfl _ rfl (run_store_arr (Arr.new W _ _ _) (rkE z.1) infoRk (rkE_one _ _)) ?_)
  exact HK.out _ (below_row ((Below.refl _ _).alloc (Nat.le_refl _) _) (Nat.le_refl _) _) ((Arr.new W _ _ _).row _)
 case body =>
  intro lq pre z r W hr hi ha hlen
  simp only [List.setIfInBounds_toArray, List.set_cons_zero, List.set_cons_succ]
  obtain ⟨v, hv1, hv2⟩ := hi.own
  have hzz := hi.kn.size
  have hpl : (pre.map fun y => spR y.1).length ≤ 100000 := by rw [List.length_map]; have := HPL.out; omega
  obtain ⟨rk, hrk⟩ : ∃ k, k = z.1.r := ⟨_, rfl⟩
  have q5 : W.cell? ⟨r, 5, none⟩ = some (.int .i64 rk) := by rw [hrk]; exact ha.cell (i := 5) (by decide)
  have HIN := Lib.hid hi
  have HRK := Lib.hid hrk
  by_cases h2 : rk = 2
  · have hb2 : (rk == 2) = true := by simpa using h2
    have HEND : Hid (KeepsFrom w1.heap.size W W ∧ PhX w w1 s (.exit 0) (pre ++ [z]) W) := Lib.hid ⟨KeepsFrom.refl _ _, rfl, ⟨pre, z, v, rfl, hi.low, by rw [← hrk]; exact h2, hv1, hv2⟩, hi.bel⟩
    clear hv1 hv2 ha hi hlen hr hrk hpl h2
    gi_wp2
    exact HEND.out
  · have hb2 : (rk == 2) = false := by simpa using h2
    obtain ⟨l, hl⟩ : ∃ l, l = pre.map fun y => spR y.1 := ⟨_, rfl⟩
    rw [← hl] at hv2 hpl
    have HL := Lib.hid hl
    have HPH := Lib.hid (fun Y => physical_any z.1.m z.2 Y)
    have hbs : ∀ Y, _ := fun Y => build_span (spR z.1) Y
    obtain ⟨A, d, rfl, -, -, hbk⟩ := hv2.form
    have HNE : Hid (s + 1 ≠ r ∧ s + 1 < w1.heap.size) := Lib.hid ⟨by omega, by omega⟩
    have HBK := Lib.hid hbk
    have HV0 := Lib.hid hv1
    have HO0 := Lib.hid hv2
    have HAR := Lib.hid ha
    have HLN := Lib.hid hpl
    have HZZ := Lib.hid hzz
    have HR2 : Hid (z.1.r ≠ 2) := Lib.hid (by rw [← hrk]; exact h2)
    have HV : Hid (Blk W.drew (s + 1) 40 #[.slice A l.length d]) := Lib.hid hv1
    have HO : Hid (OwnS W.drew w1.heap.size (.slice A l.length d) l) := Lib.hid hv2
    clear hl hv1 hv2 ha hi hlen hr hrk hpl h2 hbk hzz
    gi_upto_region 5 with fail
    clear q5
    have HMQ : Hid (∀ Y, Arr Y r 145 6 (rkE z.1) → ∀ i, i < 5 → Y.cell? ((⟨r, 0, none⟩ : Addr).add i) = some (mpE z.1.m i)) := Lib.hid fun Y hY i hi => by
     rw [add_atM, Nat.zero_add, hY.cell (by omega)]
     rcases (by omega : i = 0 ∨ i = 1 ∨ i = 2 ∨ i = 3 ∨ i = 4) with rfl | rfl | rfl | rfl | rfl <;> rfl
    refine wpIn_region_held_drew (S := fun Y => Arr Y r 145 6 (rkE z.1)) (by kernel_rfl) (by kernel_rfl) (by rintro ⟨_, _, h⟩; exact h) (show Arr W.drew r 145 6 (rkE z.1) from HAR.out) (fun hS => ?_)
    refine tP 1 (h := ?_)
    refine tP 2 (v := .agg (vec 5 (mpE z.1.m))) (hy := by (intro W hW; exact exec_load_q 87 _ rfl ⟨r, 0, none⟩ (by first | rfl | (simp; done)) _ (run_load_q (HMQ.out W (show Arr W r 145 6 (rkE z.1) from hW)) Tryz.underlying87 rfl infoMp))) (h := ?_)
    refine wQ 0 3 (h1 := fun K0 hK0 => ?hit14) (h2 := fun K3 hK3 => ?hjt14)
    case hit14 =>
     have hc := HV.out.cellAt 0 rfl
     go_simp
     refine hK0 _ _ hS (fun hS0 => ?_)
     clear hc hK0 K0
     refine oQ 3 (h := fun K3 hK3 => ?_)
     go_simp
     refine (HPH.out _).mono ?_
     rintro e y3 ⟨rfl, hd⟩
     have HV := Lib.hid (HV.out.under hd)
     have HV3 := HV
     have HO3 := Lib.hid (HO.out.on hd (Nat.le_refl _))
     have HD3 := Lib.hid (show PutF (s + 1) _ W.drew y3 from PutF.of_below (v := .slice A l.length d) hd)
     have HA3 := Lib.hid (show Arr y3 r 145 6 (rkE z.1) from (show Arr W.drew r 145 6 (rkE z.1) from HAR.out).under hd)
     refine hK3 _ _ HA3.out (fun hS3 => ?_)
     clear hd hK3 K3
     refine oQ 4 (h := fun K4 hK4 => ?_)
     refine ow_bsM 40 _ rfl (.agg (vec 2 (spE (spR z.1)))) rfl (hbs y3) ?_
     refine hK4 _ _ (HA3.out.alloc _) (fun hS4 => ?_)
     clear hK4 K4
     have HV := Lib.hid (HV3.out.alloc (.cells (vec 2 (spE (spR z.1))) 24))
     refine oQ 5 (h := fun K5 hK5 => ?_)
     obtain ⟨B4, e4, w5, hrun, ho4, hb4, hs4, hk4, hn4⟩ := app_E1 (P := Tryz.prog) (enc := spE) Tryz.underlying40 info_span (vec_size _ _) (by decide) (spR z.1) (fun i _ => spE_one (spR z.1) 2 i (by assumption)) HO3.out (Nat.le_trans HZZ.out HD3.out.size) (by have := HLN.out; omega) (by decide) 40
     have ha5 : Arr w5 r 145 6 (rkE z.1) := (hk4 r HA3.out.lt (own_ne HO3.out HA3.out (by decide))).trans HA3.out
     have hv5 : Blk w5 (s + 1) 40 #[.slice A l.length d] := (hk4 (s + 1) HV3.out.lt (own_ne HO3.out HV3.out (by decide))).trans HV3.out
     have HV5 := Lib.hid hv5
     have HA5 := Lib.hid ha5
     have HP5 := Lib.hid (And.intro ho4 (And.intro hb4 (And.intro hs4 (And.intro hk4 hn4))))
     refine ow_app _ _ 40 rfl _ _ rfl rfl (by unfold appS at hrun; exact hrun) ?_
     refine hK5 _ _ ha5 (fun hS5 => ?_)
     clear hK5 K5 hrun ho4 hb4 hs4 hk4 hn4 ha5 hv5
     refine oQ 6 (h := fun K6 hK6 => ?_)
     have hc := HV5.out.cellAt 0 rfl
     have hf := HV5.out.froz 0
     go_simp
     refine hK6 _ _ ((Below.heap_setCell w5 ⟨s + 1, 0, none⟩ _ r (by simpa using HNE.out.1.symm)).trans HA5.out) (fun hS6 => ?_)
     clear hK6 K6 hc hf
     refine wpAnyH_done (by kernel_rfl) ?_ _
     have hl := HL.out
     subst hl
     exact phys_round HBK.out HIN.out HR2.out HV0.out HO0.out HD3.out.drew HV5.out HP5.out.1 HP5.out.2.1 HP5.out.2.2.1 HP5.out.2.2.2.1 HP5.out.2.2.2.2 HLE.out.1 HLE.out.2 HZZ.out
    case hjt14 =>
     go_simp
     refine (HPH.out _).mono ?_
     rintro e y3 ⟨rfl, hd⟩
     have HV := Lib.hid (HV.out.under hd)
     have HV3 := HV
     have HO3 := Lib.hid (HO.out.on hd (Nat.le_refl _))
     have HD3 := Lib.hid (show PutF (s + 1) _ W.drew y3 from PutF.of_below (v := .slice A l.length d) hd)
     have HA3 := Lib.hid (show Arr y3 r 145 6 (rkE z.1) from (show Arr W.drew r 145 6 (rkE z.1) from HAR.out).under hd)
     refine hK3 _ _ HA3.out (fun hS3 => ?_)
     clear hd hK3 K3
     refine wQ 0 4 (h1 := fun K0 hK0 => ?hit13) (h2 := fun K4 hK4 => ?hjt13)
     case hit13 =>
      have hc := HV.out.cellAt 0 rfl
      go_simp
      refine hK0 _ _ hS3 (fun hS0 => ?_)
      clear hc hK0 K0
      refine oQ 4 (h := fun K4 hK4 => ?_)
      refine ow_bsM 40 _ rfl (.agg (vec 2 (spE (spR z.1)))) rfl (hbs y3) ?_
      refine hK4 _ _ (HA3.out.alloc _) (fun hS4 => ?_)
      clear hK4 K4
      have HV := Lib.hid (HV3.out.alloc (.cells (vec 2 (spE (spR z.1))) 24))
      refine oQ 5 (h := fun K5 hK5 => ?_)
      obtain ⟨B4, e4, w5, hrun, ho4, hb4, hs4, hk4, hn4⟩ := app_E1 (P := Tryz.prog) (enc := spE) Tryz.underlying40 info_span (vec_size _ _) (by decide) (spR z.1) (fun i _ => spE_one (spR z.1) 2 i (by assumption)) HO3.out (Nat.le_trans HZZ.out HD3.out.size) (by have := HLN.out; omega) (by decide) 40
      have ha5 : Arr w5 r 145 6 (rkE z.1) := (hk4 r HA3.out.lt (own_ne HO3.out HA3.out (by decide))).trans HA3.out
      have hv5 : Blk w5 (s + 1) 40 #[.slice A l.length d] := (hk4 (s + 1) HV3.out.lt (own_ne HO3.out HV3.out (by decide))).trans HV3.out
      have HV5 := Lib.hid hv5
      have HA5 := Lib.hid ha5
      have HP5 := Lib.hid (And.intro ho4 (And.intro hb4 (And.intro hs4 (And.intro hk4 hn4))))
      refine ow_app _ _ 40 rfl _ _ rfl rfl (by unfold appS at hrun; exact hrun) ?_
      refine hK5 _ _ ha5 (fun hS5 => ?_)
      clear hK5 K5 hrun ho4 hb4 hs4 hk4 hn4 ha5 hv5
      refine oQ 6 (h := fun K6 hK6 => ?_)
      have hc := HV5.out.cellAt 0 rfl
      have hf := HV5.out.froz 0
      go_simp
      refine hK6 _ _ ((Below.heap_setCell w5 ⟨s + 1, 0, none⟩ _ r (by simpa using HNE.out.1.symm)).trans HA5.out) (fun hS6 => ?_)
      clear hK6 K6 hc hf
      refine wpAnyH_done (by kernel_rfl) ?_ _
      have hl := HL.out
      subst hl
      exact phys_round HBK.out HIN.out HR2.out HV0.out HO0.out HD3.out.drew HV5.out HP5.out.1 HP5.out.2.1 HP5.out.2.2.1 HP5.out.2.2.2.1 HP5.out.2.2.2.2 HLE.out.1 HLE.out.2 HZZ.out
     case hjt13 =>
      refine ow_bsM 40 _ rfl (.agg (vec 2 (spE (spR z.1)))) rfl (hbs y3) ?_
      refine hK4 _ _ (HA3.out.alloc _) (fun hS4 => ?_)
      clear hK4 K4
      have HV := Lib.hid (HV3.out.alloc (.cells (vec 2 (spE (spR z.1))) 24))
      refine oQ 0 (h := fun K0 hK0 => ?_)
      have hc := HV.out.cellAt 0 rfl
      go_simp
      refine hK0 _ _ hS4 (fun hS0 => ?_)
      clear hc hK0 K0
      refine oQ 5 (h := fun K5 hK5 => ?_)
      obtain ⟨B4, e4, w5, hrun, ho4, hb4, hs4, hk4, hn4⟩ := app_E1 (P := Tryz.prog) (enc := spE) Tryz.underlying40 info_span (vec_size _ _) (by decide) (spR z.1) (fun i _ => spE_one (spR z.1) 2 i (by assumption)) HO3.out (Nat.le_trans HZZ.out HD3.out.size) (by have := HLN.out; omega) (by decide) 40
      have ha5 : Arr w5 r 145 6 (rkE z.1) := (hk4 r HA3.out.lt (own_ne HO3.out HA3.out (by decide))).trans HA3.out
      have hv5 : Blk w5 (s + 1) 40 #[.slice A l.length d] := (hk4 (s + 1) HV3.out.lt (own_ne HO3.out HV3.out (by decide))).trans HV3.out
      have HV5 := Lib.hid hv5
      have HA5 := Lib.hid ha5
      have HP5 := Lib.hid (And.intro ho4 (And.intro hb4 (And.intro hs4 (And.intro hk4 hn4))))
      refine ow_app _ _ 40 rfl _ _ rfl rfl (by unfold appS at hrun; exact hrun) ?_
      refine hK5 _ _ ha5 (fun hS5 => ?_)
      clear hK5 K5 hrun ho4 hb4 hs4 hk4 hn4 ha5 hv5
      refine oQ 6 (h := fun K6 hK6 => ?_)
      have hc := HV5.out.cellAt 0 rfl
      have hf := HV5.out.froz 0
      go_simp
      refine hK6 _ _ ((Below.heap_setCell w5 ⟨s + 1, 0, none⟩ _ r (by simpa using HNE.out.1.symm)).trans HA5.out) (fun hS6 => ?_)
      clear hK6 K6 hc hf
      refine wpAnyH_done (by kernel_rfl) ?_ _
      have hl := HL.out
      subst hl
      exact phys_round HBK.out HIN.out HR2.out HV0.out HO0.out HD3.out.drew HV5.out HP5.out.1 HP5.out.2.1 HP5.out.2.2.1 HP5.out.2.2.2.1 HP5.out.2.2.2.2 HLE.out.1 HLE.out.2 HZZ.out
 case done =>
  intro D ys W hD hS hi hdef
  obtain ⟨v, hv1, hv2⟩ := hi.own
  have hph := phys_all hS hi.low
  have hzz := hi.kn.size
  have c0 := hv1.cellAt 0 rfl
  have HOO := Lib.hid (ownS_own (B := w1.heap.size) hv2 (grownBy_putObj' W D (.deferred none)) (fun k e => by cases e; exact ⟨hD, _, hdef, rfl⟩))
  have HBB := Lib.hid (hi.bel.grown (grownBy_putObj' W D (.deferred none)) hi.bel.size fun k e => by cases e; omega)
  have HPP := Lib.hid hph
  clear hi hv1 hv2 hph hS
  gi_wp2
  refine ⟨by simp, .inl ⟨_, _, rfl, run_takeDeferred hdef, ?_⟩⟩
  refine ⟨_, results_tmp rfl _ _ _, ?_⟩
  exact (show Q (.returned v) _ from HQY.out v _ w1.heap.size _ HPP.out (by have := HLE.out; omega) HOO.out HBB.out)
 case stop =>
  intro D cd pre W hD hSp hi hdef
  obtain rfl := hi.ex
  obtain ⟨ys, z, v, rfl, h1, h2, hv1, hv2⟩ := hi.own
  have hph := phys_stop hSp h1 h2
  have c0 := hv1.cellAt 0 rfl
  have HOO := Lib.hid (ownS_own (B := w1.heap.size) hv2 (grownBy_putObj' W D (.deferred none)) (fun k e => by cases e; exact ⟨hD, _, hdef, rfl⟩))
  have HBB := Lib.hid (hi.bel.grown (grownBy_putObj' W D (.deferred none)) hi.bel.size fun k e => by cases e; omega)
  have HPP := Lib.hid hph
  clear hi hv1 hv2 hph hSp h1 h2
  gi_wp2
  refine ⟨by simp, .inl ⟨_, _, rfl, run_takeDeferred hdef, ?_⟩⟩
  refine ⟨_, results_tmp rfl _ _ _, ?_⟩
  exact (show Q (.returned v) _ from HQY.out v _ w1.heap.size _ HPP.out (by have := HLE.out; omega) HOO.out HBB.out)
theorem codePhys : CodePhys := fun x a c g w hx hb hf => physC_any x a c g w hx hb hf
end Go.Proofs.YtkaipknkjocfiaaGreat
