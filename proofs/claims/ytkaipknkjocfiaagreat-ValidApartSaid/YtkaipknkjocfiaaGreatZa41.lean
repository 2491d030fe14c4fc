import Derived.Laws.EntriesVeiled
import Derived.Test.YtkaipknkjocfiaaGreatZa26
namespace Go.Proofs.YtkaipknkjocfiaaGreat
open Go.RowKit Go.Shelf
attribute [local go_sem] Oper.semAt_some
attribute [local go_sem ↓ high] zeroCf zeroRk
theorem results_cc {fn : Func} {p q : Tmp} {ty ty2 : TypeId} {P : Program} {w : World} (h : fn.results = #[.cell p ty, .cell q ty2]) (tmps : Array Value) (g k : Nat) (v u : Value)
  (ha : tmps.getD p undef = .pointer (some ⟨g, 0, none⟩)) (hb : tmps.getD q undef = .pointer (some ⟨k, 0, none⟩)) (hl : (loadVar ty ⟨g, 0, none⟩).run P w = .ok v w) (hm : (loadVar ty2 ⟨k, 0, none⟩).run P w = .ok u w) : (results fn tmps).run P w = .ok (.tuple #[v, u]) w := by
 have hp' : tmps[p]?.getD undef = .pointer (some ⟨g, 0, none⟩) := by simpa using ha
 have hq' : tmps[q]?.getD undef = .pointer (some ⟨k, 0, none⟩) := by simpa using hb
 simp [results, h, hp', hq', asAddr, hl, hm]
theorem Blk.froz {w : World} {g : Nat} {t : TypeId} {cs : Array Value} (h : Blk w g t cs) (i : Nat) : w.frozen? ⟨g, i, none⟩ = false := by
 unfold Blk at h; simp [World.frozen?, h]
theorem Blk.set {w : World} {g : Nat} {t : TypeId} {cs : Array Value} (h : Blk w g t cs) (i : Nat) (u : Value) : Blk (w.setCell ⟨g, i, none⟩ u) g t (cs.setIfInBounds i u) := by
 unfold Blk at h ⊢
 simp [World.setCell, Array.getElem?_modify, h]
theorem Blk.far {w : World} {g : Nat} {t : TypeId} {cs : Array Value} (h : Blk w g t cs) {q : Addr} (hq : g ≠ q.block) (u : Value) : Blk (w.setCell q u) g t cs := by
 unfold Blk at h ⊢
 rw [Below.heap_setCell w q u g hq]; exact h
theorem Blk.put {w : World} {g D : Nat} {t : TypeId} {cs : Array Value} {o : Obj} (h : Blk w g t cs) (hne : g ≠ D) : Blk (w.putObj D o) g t cs := (World.putObj_heap_other hne).trans h
theorem blk_own {B g : Nat} {t : TypeId} {cs : Array Value} {X Y : World} {row : Option Nat} (h : Blk X g t cs) (hg : X.grownBy Y row) (hr : ∀ r, row = some r → B ≤ r ∧ ∃ o : Obj, X.heap[r]? = some o ∧ o.isCells = false) : Blk Y g t cs :=
 (hg.block g h.lt fun e => by
  obtain ⟨_, o, ho, hc⟩ := hr g e.symm
  rw [show X.heap[g]? = _ from h] at ho
  cases ho
  cases hc).trans h
theorem ownE_own {B base : Nat} {v : Value} {l : List Rk} {X Y : World} {row : Option Nat} (h : OwnR X base v l) (hg : X.grownBy Y row) (hr : ∀ r, row = some r → B ≤ r ∧ ∃ o : Obj, X.heap[r]? = some o ∧ o.isCells = false) : OwnR Y base v l := by
 refine ⟨h.1, ?_⟩
 rcases h.2 with h2 | ⟨g, cap, cur, rfl, hb, hh, r⟩
 · exact .inl h2
 · exact .inr ⟨g, cap, cur, rfl, hb, blk_own (cs := cur) (t := 145) hh hg hr, r⟩
theorem below_own {B : Nat} {w X Y : World} {row : Option Nat} (h : Below w.heap.size w X) (hB : w.heap.size ≤ B) (hg : X.grownBy Y row) (hr : ∀ r, row = some r → B ≤ r ∧ ∃ o : Obj, X.heap[r]? = some o ∧ o.isCells = false) : Below w.heap.size w Y :=
 h.grown hg h.size fun k e => by have := (hr k e).1; omega
theorem loadVar_sl {w : World} {g : Nat} {t ty e : TypeId} {A : Option Addr} {n c : Nat} (h : Blk w g t #[.slice A n c]) (hu : Tryz.prog.underlying ty = some (.slice e)) : (loadVar ty ⟨g, 0, none⟩).run Tryz.prog w = .ok (.slice A n c) w := by
 have hc := h.cellAt 0 (v := .slice A n c) rfl
 simp [loadVar, isAgg, run_underlying hu, run_load, hc]
theorem loadVar_bo {w : World} {g : Nat} {t ty : TypeId} {b : Bool} (h : Blk w g t #[.bool b]) (hu : Tryz.prog.underlying ty = some .bool) : (loadVar ty ⟨g, 0, none⟩).run Tryz.prog w = .ok (.bool b) w := by
 have hc := h.cellAt 0 (v := .bool b) rfl
 simp [loadVar, isAgg, run_underlying hu, run_load, hc]
def gdAll (x : Cf) (g : Int) : Bool := (partsG x g).all fun y => gdS y.m
def GathP (x : Cf) (g : Int) (w : World) (e : Ending) (w' : World) : Prop :=
 if gdAll x g = true then ∃ (v : Value) (r : List Rk), e = .returned (.tuple #[v, .bool true]) ∧ r.Perm (partsG x g) ∧ SortR r ∧ OwnR w' w.heap.size v r ∧ Below w.heap.size w w'
 else e = .returned (.tuple #[.slice none 0 0, .bool false]) ∧ Below w.heap.size w w'
theorem partsG_len {x : Cf} (g : Int) (hf : fewC x = true) : (partsG x g).length ≤ 1000 := by
 unfold partsG
 cases h : guestAt x g with
 | none => simp
 | some t =>
  obtain ⟨-, hfc, hfa⟩ := few_gs hf
  have ht : t ∈ x.gs := by
   unfold guestAt at h
   split at h
   · cases h
   · exact List.mem_of_getElem? h
  have hfew := gFew_iff (hfa _ ht)
  have := flat_lenC g x.chs
  simp only
  unfold partsR
  rw [List.length_append, List.length_append, List.length_map, List.length_map, List.length_map]
  have := hfew.1
  have := hfew.2.1
  omega
structure GI (w w1 : World) (s : Nat) (pre : List RB) (W : World) : Prop where
 own : ∃ v, Blk W (s + 3) 151 #[v] ∧ OwnR W w1.heap.size v (pre.map Subtype.val)
 good : ∀ y ∈ pre, gdS y.1.m = true
 res : Blk W (s + 1) 151 #[.slice none 0 0]
 bel : Below w.heap.size w W
 kn : KN w.heap.size 0 w1 W
structure GX (w : World) (s : Nat) (cd : Code) (pre : List RB) (W : World) : Prop where
 ret : cd = .ret
 bad : ∃ y ∈ pre, gdS y.1.m = false
 r1 : Blk W (s + 1) 151 #[.slice none 0 0]
 r2 : Blk W (s + 2) 4 #[.bool false]
 bel : Below w.heap.size w W
theorem gi_own {w w1 : World} {s : Nat} (h : w.heap.size ≤ w1.heap.size) : OwnFrom w1.heap.size (GI w w1 s) := fun pre X Y row hs hg hr =>
 ⟨by obtain ⟨v, h1, h2⟩ := hs.own; exact ⟨v, blk_own h1 hg hr, ownE_own h2 hg hr⟩, hs.good, blk_own hs.res hg hr, below_own hs.bel h hg hr, own_kn h (Nat.le_refl _) () X Y row hs.kn hg hr⟩
theorem gx_own {w w1 : World} {s : Nat} (h : w.heap.size ≤ w1.heap.size) (cd : Code) : OwnFrom w1.heap.size (GX w s cd) := fun _ _ _ _ hs hg hr =>
 ⟨hs.ret, hs.bad, blk_own hs.r1 hg hr, blk_own hs.r2 hg hr, below_own hs.bel h hg hr⟩
theorem gi_end {w w1 W : World} {s : Nat} {x : Cf} {g : Int} {ys : List RB} (h : GI w w1 s ys W) (hS : ys.map Subtype.val = partsG x g) : gdAll x g = true := by
 unfold gdAll
 rw [← hS, List.all_eq_true]
 intro y hy
 obtain ⟨z, hz, rfl⟩ := List.mem_map.1 hy
 exact h.good z hz
theorem gx_end {w W : World} {s : Nat} {x : Cf} {g : Int} {cd : Code} {pre : List RB} (h : GX w s cd pre W) (hS : pre.map Subtype.val <+: partsG x g) : gdAll x g = false := by
 obtain ⟨y, hy, hb⟩ := h.bad
 unfold gdAll
 rw [← Bool.not_eq_true, List.all_eq_true]
 intro hall
 have := hall y.1 (hS.subset (List.mem_map.2 ⟨y, hy, rfl⟩))
 rw [hb] at this
 cases this
set_option maxRecDepth 100000 in
set_option maxHeartbeats 8000000 in
theorem gathered_any (x : Cf) (a c : Value) (g : Int) (w : World) (hx : CfR w w.heap.size x a c) (hb : CfB x) (hf : fewC x = true) : Calls Tryz.prog 98 #[cfVal x a c, .int .i64 g] w (GathP x g w) := by
 obtain ⟨Q, hQ⟩ : ∃ Q, Q = GathP x g w := ⟨_, rfl⟩
 have HQY : Hid (∀ v r W, gdAll x g = true → r.Perm (partsG x g) → SortR r → OwnR W w.heap.size v r → Below w.heap.size w W → Q (.returned (.tuple #[v, .bool true])) W) := Lib.hid (fun v r W h1 h2 h3 h4 h5 => by rw [hQ]; unfold GathP; rw [if_pos h1]; exact ⟨v, r, rfl, h2, h3, h4, h5⟩)
 have HQN : Hid (∀ W, gdAll x g = false → Below w.heap.size w W → Q (.returned (.tuple #[.slice none 0 0, .bool false])) W) := Lib.hid (fun W h1 h2 => by rw [hQ]; unfold GathP; rw [if_neg (by rw [h1]; decide)]; exact ⟨rfl, h2⟩)
 rw [← hQ]
 clear hQ
 obtain ⟨s, hs⟩ : ∃ s, s = w.heap.size := ⟨_, rfl⟩
 obtain ⟨U, hU⟩ : ∃ U, U = ((((w.alloc (.cells (vec 3 (cfE x.ver a c)) 31)).alloc (.cells #[.slice none 0 0] 151)).alloc (.cells #[.bool false] 4)).alloc (.cells #[.slice none 0 0] 151)).alloc (.cells #[.func (.func 134) #[] #[.pointer (some ⟨w.heap.size + 1 + 1 + 1, 0, none⟩)]] 183) := ⟨_, rfl⟩
 have hsz : U.heap.size = s + 5 := by rw [hU, hs]; simp
 have hBU : Below w.heap.size w U := by rw [hU]; exact Laid.below ⟨[_, _, _, _, _], rfl⟩
 have u0 : Arr U s 31 3 (cfE x.ver a c) := by rw [hU, hs]; exact ((((Arr.new _ _ _ _).alloc _).alloc _).alloc _).alloc _
 have u1 : Blk U (s + 1) 151 #[.slice none 0 0] := by rw [hU, hs]; exact (((Blk.new _ _ _ (by simp)).alloc _).alloc _).alloc _
 have u2 : Blk U (s + 2) 4 #[.bool false] := by rw [hU, hs]; exact ((Blk.new _ _ _ (by simp)).alloc _).alloc _
 have u3 : Blk U (s + 3) 151 #[.slice none 0 0] := by rw [hU, hs]; exact (Blk.new _ _ _ (by simp)).alloc _
 have u4 : Blk U (s + 4) 183 #[.func (.func 134) #[] #[.pointer (some ⟨s + 3, 0, none⟩)]] := by rw [hU, hs]; exact Blk.new _ _ _ (by simp)
 have HUU : Hid (U = ((((w.alloc (.cells (vec 3 (cfE x.ver a c)) 31)).alloc (.cells #[.slice none 0 0] 151)).alloc (.cells #[.bool false] 4)).alloc (.cells #[.slice none 0 0] 151)).alloc (.cells #[.func (.func 134) #[] #[.pointer (some ⟨w.heap.size + 1 + 1 + 1, 0, none⟩)]] 183)) := Lib.hid hU
 have HSS : Hid (w.heap.size = s ∧ s + 1 + 1 + 1 + 1 = s + 4 ∧ s + 1 + 1 + 1 = s + 3 ∧ s + 1 + 1 = s + 2) := Lib.hid ⟨hs.symm, rfl, rfl, rfl⟩
 have HX := Lib.hid hx
 have HB := Lib.hid hb
 have HF := Lib.hid hf
 have HU0 := Lib.hid u0
 have HBS := Lib.hid (And.intro u1 (And.intro u2 (And.intro u3 u4)))
 have HBU := Lib.hid (And.intro hBU (And.intro hsz hs))
 have HPL := Lib.hid (partsG_len g hf)
 unfold cfVal
 clear hx hb hf hU hsz hBU u0 u1 u2 u3 u4 hs
 refine (callsIn_wide (n := 10)).1 ?_
 refine callsIn_of_wp_marks Tryz.func98 rfl trivial ?_ rfl
 simp only [Tryz.ntmps98, List.size_toArray, List.length_cons, List.length_nil, Nat.reduceAdd, Nat.reduceSub, Array.replicate_succ, Array.replicate_zero, List.push_toArray, List.append_toArray, List.nil_append, List.cons_append]
 gi_wp2_with (first
  | ((with_reducible show wpListIn _ _ _ _ _ (Oper.mk _ (.load 31 _) _ _ _ _ :: _) _ _); rw [← HUU.out]; simp only [HSS.out.1, HSS.out.2.1, HSS.out.2.2.1, HSS.out.2.2.2]; refine wli_val wide_fn rfl (by intro c e; cases e) (exec_load 31 _ rfl s rfl _ (run_load_arr HU0.out Tryz.underlying31 rfl infoCf)) ?_; clear HUU)
  | (refine ⟨trivial, ?_⟩; gi_at_call 93; refine (callsIn_wide.2 (parts_any _ (cfE x.ver a c) rfl g _)).mono ?_; rintro e w1 ⟨rfl, hw1⟩; have HW1 := Lib.hid hw1; clear hw1))
 have bW : Below U.heap.size U w1 := by rw [HW1.out]; exact ((Below.refl _ _).alloc (Nat.le_refl _) _).alloc (by simp) _
 have b1 : Arr w1 U.heap.size 31 3 (cfE x.ver a c) := by rw [HW1.out]; exact (Arr.new _ _ _ _).alloc _
 have b2 : Blk w1 (U.heap.size + 1) 3 #[.int .i64 g] := by rw [HW1.out]; exact Blk.new _ _ _ (by simp)
 have hz1 : w1.heap.size = s + 7 := by rw [HW1.out]; simp [HBU.out.2.1]
 have hbw : Below w.heap.size w w1 := HBU.out.1.trans (bW.mono HBU.out.1.size)
 have hsw : w.heap.size = s := HBU.out.2.2.symm
 have c1 := HBS.out.1.under bW
 have c2 := HBS.out.2.1.under bW
 have c3 := HBS.out.2.2.1.under bW
 have c4 := HBS.out.2.2.2.under bW
 have hsz := HBU.out.2.1
 have HC := Lib.hid (And.intro c2 c4)
 have HLE := Lib.hid (And.intro hz1 hsw)
 clear HW1 HU0 HBS bW
 refine range_box (n := 10) (n0 := w.heap.size) (by omega) (by omega) (gf := 130) (lb := #[.pointer (some ⟨U.heap.size, 0, none⟩), .pointer (some ⟨U.heap.size + 1, 0, none⟩)]) rfl (by intro args W; rfl)
  (parts_seq 9 (by omega) x a c g w w1 HX.out HB.out HF.out hbw U.heap.size (U.heap.size + 1) (partsG x g).length b1 b2 (Nat.le_refl _)) (Below.refl _ _)
  13 8 rfl 145 6 (fun z => rkE z.1) (fun _ => rfl) (GI w w1 s) (GX w s) (gi_own (by omega)) (gx_own (by omega))
  ⟨⟨_, c3, OwnE.nil _ _⟩, (fun _ h => by cases h), c1, hbw, KN.refl _ _ _⟩ (fun l W h => h.kn.size) ?assign ?body ?done ?stop
 case assign =>
  intro l z W K hK
  simp only [List.setIfInBounds_toArray, List.set_cons_zero, List.set_cons_succ] at hK ⊢
  have HK := Lib.hid hK
  clear hK
  gi_wp2_with ((with_reducible show wpListIn _ _ _ _ _ (Oper.mk _ (.store 145 _ _) _ _ _ _ :: _) _ _); refine wli_store rfl 145 _ _ rfl _ rfl _ rfl (run_store_arr (Arr.new W _ _ _) (rkE z.1) infoRk (rkE_one _ _)) ?_)
  exact HK.out _ (below_row ((Below.refl _ _).alloc (Nat.le_refl _) _) (Nat.le_refl _) _) ((Arr.new W _ _ _).row _)
 case body =>
  intro lq pre z r W hr hi ha hlen
  simp only [List.setIfInBounds_toArray, List.set_cons_zero, List.set_cons_succ]
  obtain ⟨v, hv1, hv2⟩ := hi.own
  obtain ⟨A, d, rfl, -, -, hbk⟩ := hv2.form
  have d4 := (hi.kn.blk HC.out.2 (by decide)).cellAt 0 rfl
  have d2 := hi.kn.blk HC.out.1 (by decide)
  have hzz := hi.kn.size
  have hpl : (pre.map Subtype.val).length ≤ 100000 := by rw [List.length_map]; have := HPL.out; omega
  have HPUT := Lib.hid (put_any z.1 z.2 (s + 3) w1.heap.size _ (pre.map Subtype.val) W hv1 hv2 hzz hpl (by omega))
  have HI := Lib.hid hi
  have HV1 := Lib.hid hv1
  have HV2 := Lib.hid hv2
  have HAR := Lib.hid ha
  have HD2 := Lib.hid d2
  obtain ⟨b, hb⟩ : ∃ b, b = gdS z.1.m := ⟨_, rfl⟩
  rw [← hb] at HPUT
  have HGD := Lib.hid hb
  clear hv1 hv2 ha hi hlen hr hbk hb hpl d2
  cases b
  · gi_upto_region 6 with (first
      | ((with_reducible show wpListIn _ _ _ _ _ (Oper.mk _ (.load 145 _) _ _ _ _ :: _) _ _); refine wli_val (round_fn _) rfl (by intro c e; cases e) (exec_load 145 _ rfl r rfl _ (run_load_arr HAR.out Tryz.underlying145 rfl infoRk)) ?_)
      | (refine ⟨trivial, ?_⟩; gi_at_call 134; refine (CallsIn.inRound lq (callsIn_wide.2 HPUT.out)).mono ?_; rintro e W3 ⟨rfl, hpf, -⟩; have HPF := Lib.hid hpf; clear hpf))
    have hne1 : ∀ k, k < s + 7 → some k ≠ (Value.slice A (pre.map Subtype.val).length d).ownBlock := fun k hk e => by have := (HV2.out.bnd e.symm).1; omega
    have k1 : Blk W3 (s + 1) 151 #[.slice none 0 0] := (HPF.out.block (s + 1) (by omega) (by omega) (hne1 _ (by omega))).trans HI.out.res
    have k2 : Blk W3 (s + 2) 4 #[.bool false] := (HPF.out.block (s + 2) (by omega) (by omega) (hne1 _ (by omega))).trans HD2.out
    have bel := HPF.out.below HV2.out (n := s + 1) (by omega) (by omega) (by omega)
    have knf := (HPF.out.kn (n0 := 0) (B := 0) HV2.out HV1.out (Nat.zero_le _) (Nat.zero_le _) (Nat.zero_le _))
    have q1 := k1.cellAt 0 rfl
    have q2 := k1.froz 0
    have q3 := (k2.far (q := ⟨s + 1, 0, none⟩) (by simp) (.slice none 0 0)).cellAt 0 rfl
    have q4 := (k2.far (q := ⟨s + 1, 0, none⟩) (by simp) (.slice none 0 0)).froz 0
    have HEND : Hid (KeepsFrom w1.heap.size W ((W3.setCell ⟨s + 1, 0, none⟩ (.slice none 0 0)).setCell ⟨s + 2, 0, none⟩ (.bool false)) ∧ GX w s .ret (pre ++ [z]) ((W3.setCell ⟨s + 1, 0, none⟩ (.slice none 0 0)).setCell ⟨s + 2, 0, none⟩ (.bool false))) := Lib.hid (by
      have hkf : KeepsFrom w1.heap.size W W3 := keepsFrom_up knf.from (Nat.zero_le _)
      refine ⟨⟨by simpa using hkf.size, fun k o hk ho hc => ?_⟩, rfl, ⟨z, by simp, HGD.out.symm⟩, ?_, ?_, ?_⟩
      · rw [Below.heap_setCell _ ⟨s + 2, 0, none⟩ _ k (by simp only; omega), Below.heap_setCell _ ⟨s + 1, 0, none⟩ _ k (by simp only; omega)]
        exact hkf.same k o hk ho hc
      · exact (k1.set 0 _).far (q := ⟨s + 2, 0, none⟩) (by simp) _
      · exact (k2.far (q := ⟨s + 1, 0, none⟩) (by simp) _).set 0 _
      · refine (Below.setCell (p := ⟨s + 1, 0, none⟩) (HI.out.bel.trans (bel.mono (by omega))) (by simp only; omega) _).setCell (p := ⟨s + 2, 0, none⟩) (by simp only; omega) _)
    clear k1 k2 bel knf hne1
    gi_wp2
    exact HEND.out
  · gi_wp2_with (first
      | ((with_reducible show wpListIn _ _ _ _ _ (Oper.mk _ (.load 145 _) _ _ _ _ :: _) _ _); refine wli_val (round_fn _) rfl (by intro c e; cases e) (exec_load 145 _ rfl r rfl _ (run_load_arr HAR.out Tryz.underlying145 rfl infoRk)) ?_)
      | (refine ⟨trivial, ?_⟩; gi_at_call 134; refine (CallsIn.inRound lq (callsIn_wide.2 HPUT.out)).mono ?_; rintro e W3 ⟨rfl, hpf, v', hb', ho'⟩; have HPF := Lib.hid (And.intro hpf (And.intro hb' ho')); clear hpf hb' ho'))
    have hne1 : ∀ k, k < s + 7 → some k ≠ (Value.slice A (pre.map Subtype.val).length d).ownBlock := fun k hk e => by have := (HV2.out.bnd e.symm).1; omega
    have knf := (HPF.out.1.kn (n0 := w.heap.size) (B := 0) HV2.out HV1.out (by omega) (by omega) (by omega))
    refine ⟨keepsFrom_up knf.from (Nat.zero_le _), knf.up (Nat.zero_le _), ⟨v', HPF.out.2.1, ?_⟩, fun y hy => ?_, ?_, ?_, HI.out.kn.trans knf⟩
    · rw [List.map_append]
      have h := HPF.out.2.2
      simpa using h
    · rcases List.mem_append.1 hy with hy | hy
      · exact HI.out.good y hy
      · obtain rfl := List.mem_singleton.1 hy
        exact HGD.out.symm
    · exact (HPF.out.1.block (s + 1) (by omega) (by omega) (hne1 _ (by omega))).trans HI.out.res
    · exact HI.out.bel.trans (HPF.out.1.below HV2.out (by omega) (by omega) (by omega))
 case done =>
  intro D ys W hD hS hi hdef
  have hgd := gi_end hi hS
  obtain ⟨v, hv1, hv2⟩ := hi.own
  obtain ⟨A, d, rfl, -, -, -⟩ := hv2.form
  have hln : (ys.map Subtype.val).length = (partsG x g).length := by rw [hS]
  rw [hln] at hv1 hv2
  rw [hS] at hv2
  clear hln
  have hzz := hi.kn.size
  have HSO := Lib.hid (sortRk_any (partsG x g) w1.heap.size _ (by have := HPL.out; omega) W hzz hv2)
  have e3 := hv1.cellAt 0 (v := .slice A (partsG x g).length d) rfl
  have HI := Lib.hid hi
  have HV1 := Lib.hid hv1
  have HV2 := Lib.hid hv2
  have HD2 := Lib.hid (hi.kn.blk HC.out.1 (by decide))
  have HDF := Lib.hid hdef
  have HGD := Lib.hid hgd
  clear hS hi hv1 hv2 hgd
  gi_upto_region 8 with (refine ⟨trivial, ?_⟩; gi_at_call 136; refine (callsIn_wide.2 HSO.out).mono ?_; rintro e W3 ⟨rfl, r, hp, hs, ho, hb, hk⟩; have HR := Lib.hid (And.intro hp (And.intro hs (And.intro ho (And.intro hb hk)))); clear hp hs ho hb hk)
  have hlt : ∀ k, k < s + 7 → W3.heap[k]? = W.heap[k]? := fun k hk => HR.out.2.2.2.1.block k (by omega)
  have hneD : some D ≠ (Value.slice A (partsG x g).length d).ownBlock := fun e => by
    rcases HV2.out.2 with ⟨e0, _⟩ | ⟨gb, cap, cur, e0, _, hg, _⟩
    · rw [e0] at e; simp [Value.ownBlock] at e
    · rw [e0] at e
      have := Option.some.inj e
      subst this
      rw [HDF.out] at hg
      cases hg
  have k1 : Blk W3 (s + 1) 151 #[.slice none 0 0] := (hlt _ (by omega)).trans HI.out.res
  have k2 : Blk W3 (s + 2) 4 #[.bool false] := (hlt _ (by omega)).trans HD2.out
  have k3 : Blk W3 (s + 3) 151 #[.slice A (partsG x g).length d] := (hlt _ (by omega)).trans HV1.out
  have hD3 : W3.heap[D]? = some (.deferred (some [])) := (HR.out.2.2.2.2 D (Array.getElem?_eq_some_iff.1 HDF.out).1 hneD).trans HDF.out
  have q0 := k3.cellAt 0 (v := .slice A (partsG x g).length d) rfl
  have q1 := k1.cellAt 0 rfl
  have q2 := k1.froz 0
  have q3 := (k2.far (q := ⟨s + 1, 0, none⟩) (by simp) (.slice A (partsG x g).length d)).cellAt 0 rfl
  have q4 := (k2.far (q := ⟨s + 1, 0, none⟩) (by simp) (.slice A (partsG x g).length d)).froz 0
  obtain ⟨W5, hW5⟩ : ∃ Y, Y = (W3.setCell ⟨s + 1, 0, none⟩ (.slice A (partsG x g).length d)).setCell ⟨s + 2, 0, none⟩ (.bool true) := ⟨_, rfl⟩
  have hset : ∀ k, k ≠ s + 1 → k ≠ s + 2 → W5.heap[k]? = W3.heap[k]? := fun k h1 h2 => by
    rw [hW5, Below.heap_setCell _ ⟨s + 2, 0, none⟩ _ k (by simpa using h2), Below.heap_setCell _ ⟨s + 1, 0, none⟩ _ k (by simpa using h1)]
  have hD5 : W5.heap[D]? = some (.deferred (some [])) := (hset D (by omega) (by omega)).trans hD3
  have y1 : Blk W5 (s + 1) 151 #[.slice A (partsG x g).length d] := by rw [hW5]; exact (k1.set 0 _).far (q := ⟨s + 2, 0, none⟩) (by simp) _
  have y2 : Blk W5 (s + 2) 4 #[.bool true] := by rw [hW5]; exact (k2.far (q := ⟨s + 1, 0, none⟩) (by simp) _).set 0 _
  have b5 : Below w.heap.size w W5 := by
    rw [hW5]
    exact (Below.setCell (p := ⟨s + 1, 0, none⟩) (HI.out.bel.trans (HR.out.2.2.2.1.mono (by omega))) (by simp only; omega) _).setCell (p := ⟨s + 2, 0, none⟩) (by simp only; omega) _
  have o6 : OwnR (W5.putObj D (.deferred none)) w.heap.size (.slice A (partsG x g).length d) r := by
    refine ⟨HR.out.2.2.1.1, ?_⟩
    rcases HR.out.2.2.1.2 with h2 | ⟨gb, cap, cur, e0, hb, hh, rr⟩
    · exact .inl h2
    · refine .inr ⟨gb, cap, cur, e0, by omega, ?_, rr⟩
      refine (World.putObj_heap_other fun e => hneD (by rw [e0, ← e]; rfl)).trans ((hset gb (by omega) (by omega)).trans hh)
  have HW5 := Lib.hid hW5
  have HEND : Hid (Q (.returned (.tuple #[.slice A (partsG x g).length d, .bool true])) (W5.putObj D (.deferred none))) := Lib.hid (HQY.out _ r _ HGD.out HR.out.1 HR.out.2.1 o6 (b5.grown (grownBy_putObj' W5 D _) b5.size fun k e => by cases e; omega))
  have HY := Lib.hid (And.intro hD5 (And.intro (y1.put (D := D) (o := .deferred none) (by omega)) (y2.put (D := D) (o := .deferred none) (by omega))))
  clear hlt hneD k1 k2 k3 hD3 hset hD5 y1 y2 b5 o6 hW5
  gi_wp2
  rw [← HW5.out]
  refine ⟨by simp, .inl ⟨_, _, rfl, run_takeDeferred HY.out.1, ?_⟩⟩
  exact ⟨_, results_cc rfl _ (s + 1) (s + 2) _ _ rfl rfl (loadVar_sl HY.out.2.1 Tryz.underlying151) (loadVar_bo HY.out.2.2 Tryz.underlying4), HEND.out⟩
 case stop =>
  intro D cd pre W hD hSp hi hdef
  obtain rfl := hi.ret
  have hgd := gx_end hi hSp
  have h2 := (gx_own (w1 := w1) (s := s) (by omega) .ret : OwnFrom w1.heap.size (GX w s .ret)).putObj (.deferred none) hi hD hdef rfl
  have HE := Lib.hid h2
  have HGD := Lib.hid hgd
  clear hi h2 hgd hSp
  gi_wp2
  refine ⟨by simp, .inl ⟨_, _, rfl, run_takeDeferred hdef, ?_⟩⟩
  exact ⟨_, results_cc rfl _ (s + 1) (s + 2) _ _ rfl rfl (loadVar_sl HE.out.r1 Tryz.underlying151) (loadVar_bo HE.out.r2 Tryz.underlying4), HQN.out _ HGD.out HE.out.bel⟩
end Go.Proofs.YtkaipknkjocfiaaGreat
