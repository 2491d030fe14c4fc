/- frame.Pool: take. -/
import Derived.Sort.CutIn
import Derived.Test.YtmhhckpdhjnmeaaFb
import Derived.Test.YtmhhckpdhjnmeaaIn
namespace Go.Proofs.Ytmhhckpdhjnmeaa
open Go.RowKit Go.Shelf
attribute [local go_sem] Oper.semAt_some

theorem results_cc {fn : Func} {p q : Tmp} {ty ty2 : TypeId} {P : Program} {w : World} (h : fn.results = #[.cell p ty, .cell q ty2]) (tmps : Array Value) (g k : Nat) (v u : Value)
    (ha : tmps.getD p undef = .pointer (some ⟨g, 0, none⟩)) (hb : tmps.getD q undef = .pointer (some ⟨k, 0, none⟩)) (hl : (loadVar ty ⟨g, 0, none⟩).run P w = .ok v w) (hm : (loadVar ty2 ⟨k, 0, none⟩).run P w = .ok u w) : (results fn tmps).run P w = .ok (.tuple #[v, u]) w := by
  have hp' : tmps[p]?.getD undef = .pointer (some ⟨g, 0, none⟩) := by simpa using ha
  have hq' : tmps[q]?.getD undef = .pointer (some ⟨k, 0, none⟩) := by simpa using hb
  simp [results, h, hp', hq', asAddr, hl, hm]
theorem Blk.froz {w : World} {g : Nat} {t : TypeId} {cs : Array Value} (h : Blk w g t cs) (i : Nat) : w.frozen? ⟨g, i, none⟩ = false := by
  unfold Blk at h; simp [World.frozen?, h]
theorem Blk.set {w : World} {g : Nat} {t : TypeId} {cs : Array Value} (h : Blk w g t cs) (i : Nat) (u : Value) : Blk (w.setCell ⟨g, i, none⟩ u) g t (cs.setIfInBounds i u) := by
  unfold Blk at h ⊢
  simp [World.setCell, Array.getElem?_modify, h]
theorem Blk.far {w : World} {g : Nat} {t : TypeId} {cs : Array Value} (h : Blk w g t cs) {q : Addr} (hq : g ≠ q.block) (u : Value) : Blk (w.setCell q u) g t cs := by
  unfold Blk at h ⊢
  rw [heap_setCell_other w q g u hq]; exact h
theorem Blk.own_from {w w' : World} {B g : Nat} {t : TypeId} {cs : Array Value} {row : Option Nat} (h : Blk w g t cs) (hg : w.grownBy w' row) (hr : ∀ r, row = some r → B ≤ r ∧ ∃ o : Obj, w.heap[r]? = some o ∧ o.isCells = false) : Blk w' g t cs := h.grown hg fun e => by
  obtain ⟨_, o, ho, hc⟩ := hr g e.symm
  rw [show w.heap[g]? = _ from h] at ho
  cases ho
  cases hc
theorem PC.own_from {w w' : World} {p : Nat} {v : Value} {b : Sp} {L : List Sp} {B : Nat} {row : Option Nat} (h : PC w p v b L) (hg : w.grownBy w' row) (hr : ∀ r, row = some r → B ≤ r ∧ ∃ o : Obj, w.heap[r]? = some o ∧ o.isCells = false) : PC w' p v b L :=
  h.same fun k hk => hg.block k (h.lt hk) fun e => by
    obtain ⟨_, o, ho, hc⟩ := hr k e.symm
    rcases hk with rfl | hk
    · rw [show w.heap[k]? = _ from h.blk] at ho
      cases ho
      cases hc
    · rcases h.own.2 with ⟨rfl, _⟩ | ⟨g, cap, cur, rfl, _, hgg, _⟩
      · simp [Value.ownBlock] at hk
      · simp [Value.ownBlock] at hk
        subst hk
        rw [hgg] at ho
        cases ho
        cases hc
theorem Turn.own_from {B : Nat} {V w w' : World} {H : Nat → Prop} {row : Option Nat} (h : Turn H V w) (hB : V.heap.size ≤ B) (hg : w.grownBy w' row) (hr : ∀ r, row = some r → B ≤ r) : Turn H V w' :=
  ⟨hg.os.trans h.os, hg.tape.trans h.tape, hg.output.trans h.output, Nat.le_trans h.size hg.size, fun k hk hn => (hg.block k (Nat.lt_of_lt_of_le hk h.size) fun e => by have := hr k e.symm; omega).trans (h.block k hk hn)⟩
theorem Turn.keeps {p : Nat} {v : Value} {b : Sp} {L : List Sp} {W W' : World} {B : Nat} (h : Turn (FpC p v) W W') (hP : PC W p v b L) : KeepsFrom B W W' :=
  ⟨h.size, fun k o _ ho hc => (h.block k (Array.getElem?_eq_some_iff.1 ho).1 fun hk => by
    rcases hk with rfl | hk
    · rw [show W.heap[k]? = _ from hP.blk] at ho
      cases ho
      cases hc
    · rcases hP.own.2 with ⟨rfl, _⟩ | ⟨g, cap, cur, rfl, _, hgg, _⟩
      · simp [Value.ownBlock] at hk
      · simp [Value.ownBlock] at hk
        subst hk
        rw [hgg] at ho
        cases ho
        cases hc).trans ho⟩
/-- A load out of a block of one cell. -/
theorem loadVar_one {w : World} {g : Nat} {t ty : TypeId} {k : IntKind} {x : Int} (h : Blk w g t #[.int k x]) (hu : Try.prog.underlying ty = some (.int k)) : (loadVar ty ⟨g, 0, none⟩).run Try.prog w = .ok (.int k x) w := by
  have hc := h.cellAt 0 (v := .int k x) rfl
  simp [loadVar, isAgg, run_underlying hu, run_load, hc]
/-- What a round keeps: none that fits was there; nothing that was there has turned. -/
def TkI (U : World) (L : List Sp) (n a : Nat) (pre : List (Fin L.length)) (W : World) : Prop := (∀ y ∈ pre, fitsIn n a L[y.1] = false) ∧ Below U.heap.size U W
/-- How a round leaves the loop. -/
def TkX (w : World) (p : Nat) (v : Value) (b : Sp) (L : List Sp) (n a : Nat) (cd : Code) (pre : List (Fin L.length)) (W : World) : Prop :=
  cd = .ret ∧ ∃ pre' x u, pre = pre' ++ [x] ∧ (∀ y ∈ pre', fitsIn n a L[y.1] = false) ∧ fitsIn n a L[x.1] = true ∧ PC W p u b (putL L x.1 n a) ∧ Turn (FpC p v) w W ∧
    (∀ k, u.ownBlock = some k → v.ownBlock = some k ∨ w.heap.size ≤ k) ∧ Blk W (w.heap.size + 1 + 1 + 1) 22 #[.int .u64 (at1 L x.1 a : Nat)] ∧ Blk W (w.heap.size + 1 + 1 + 1 + 1) 38 #[.int .i64 0]
theorem tki_own (U : World) (L : List Sp) (n a : Nat) : OwnFrom U.heap.size (TkI U L n a) := fun _ _ _ _ ⟨h1, h2⟩ hg hr => ⟨h1, ownFrom_below (Nat.le_refl _) (Nat.le_refl _) () _ _ _ h2 hg hr⟩
theorem tkx_own {w : World} {p : Nat} {v : Value} {b : Sp} {L : List Sp} {n a B : Nat} (hB : w.heap.size ≤ B) (cd : Code) : OwnFrom B (TkX w p v b L n a cd) := fun _ _ _ _ ⟨h0, pre', x, u, h1, h2, h3, h4, h5, h6, h7, h8⟩ hg hr =>
  ⟨h0, pre', x, u, h1, h2, h3, h4.own_from hg hr, h5.own_from hB hg (fun r e => (hr r e).1), h6, h7.own_from hg hr, h8.own_from hg hr⟩
/-- What the first stretch that fits does. -/
theorem tkx_end {w W : World} {p : Nat} {v : Value} {b : Sp} {L : List Sp} {n a k : Nat} (hk : k < L.length) (h : TkX w p v b L n a .ret (nss L (k + 1)) W) : idx L n a = some k ∧ ∃ u, PC W p u b (putL L k n a) ∧ Turn (FpC p v) w W ∧
    (∀ k, u.ownBlock = some k → v.ownBlock = some k ∨ w.heap.size ≤ k) ∧ Blk W (w.heap.size + 1 + 1 + 1) 22 #[.int .u64 (at1 L k a : Nat)] ∧ Blk W (w.heap.size + 1 + 1 + 1 + 1) 38 #[.int .i64 0] := by
  obtain ⟨_, pre', x, u, h1, h2, h3, h4, h5, h6, h7, h8⟩ := h
  rw [nss_succ L hk] at h1
  obtain ⟨e1, e2⟩ := List.append_inj' h1 rfl
  obtain rfl : (⟨k, hk⟩ : Fin L.length) = x := by simpa using e2
  refine ⟨idx_is hk h3 fun j hj => ?_, u, h4, h5, h6, h7, h8⟩
  exact h2 ⟨j, by omega⟩ (by rw [← e1]; exact nss_mem L (by omega) hj)
theorem tki_end {U W : World} {L : List Sp} {n a : Nat} (h : TkI U L n a (nss L L.length) W) : idx L n a = none := idx_no fun j hj => h.1 ⟨j, hj⟩ (nss_mem L hj hj)

/-- What lies behind the store of the new row into the pool. -/
theorem take_end {w W4 y11 y12 : World} {p : Nat} {v u : Value} {b : Sp} {L L' : List Sp} (hP : PC w p v b L) (hw : Below w.heap.size w W4) (hv : VS W4 y11) (ho : OwnS y12 0 u L') (hg : y11.grownBy y12 v.ownBlock) (hu : u.ownBlock = v.ownBlock ∨ u.ownBlock = some y11.heap.size) :
    Turn (FpC p v) W4 y12 ∧ Blk y12 p 58 #[.int .u64 (b.1 : Int), .int .u64 (b.2 : Int), v] ∧ Turn (FpC p v) W4 (y12.setCell ⟨p, 2, none⟩ u) ∧ PC (y12.setCell ⟨p, 2, none⟩ u) p u b L' ∧
      (∀ k, u.ownBlock = some k → v.ownBlock = some k ∨ W4.heap.size ≤ k) := by
  have hb : Below W4.heap.size W4 y11 := hv
  have ht : Turn (FpC p v) W4 y12 := (Turn.of_below hb).andThen (Turn.of_grown hg fun g e => .inr e)
  have hp4 : PC y11 p v b L := (hP.under hw).under hb
  have hB : Blk y12 p 58 #[.int .u64 (b.1 : Int), .int .u64 (b.2 : Int), v] := hp4.blk.grown hg fun e => hP.ne e.symm
  have hpl := hp4.blk.lt
  have hup : u.ownBlock ≠ some p := by
    rcases hu with e | e
    · rw [e]; exact hP.ne
    · rw [e]; intro h; have := Option.some.inj h; omega
  refine ⟨ht, hB, ht.setCell (p := ⟨p, 2, none⟩) (.inl (.inl rfl)) _, ⟨hB.set 2 u, owns_same ho fun k hk => ?_, hup⟩, fun k hk => ?_⟩
  · exact Below.heap_setCell y12 ⟨p, 2, none⟩ u k fun e => hup (by rw [hk]; exact congrArg some e)
  · rcases hu with e | e
    · exact .inl (e.symm.trans hk)
    · rw [hk] at e
      have := Option.some.inj e
      have := hb.size
      exact .inr (by omega)
set_option maxRecDepth 100000 in
set_option maxHeartbeats 1000000 in
theorem take_any {w : World} {p : Nat} {v : Value} {b : Sp} {L : List Sp} (hP : PC w p v b L) (hF : Fr b L) (hl : L.length ≤ 100000) (n a : Nat) (hn : 0 < n) (hnl : n < TT) (ha : 0 < a) (hal : a < TT) :
    Calls Try.prog 27 #[.pointer (some ⟨p, 0, none⟩), .int .u64 (n : Int), .int .u64 (a : Int)] w fun e w' =>
      ∃ u, e = .returned (.tuple #[.int .u64 (takeV L n a : Nat), .int .i64 (takeE L n a : Nat)]) ∧ PC w' p u b (takeL L n a) ∧ Turn (FpC p v) w w' ∧ ∀ k, u.ownBlock = some k → v.ownBlock = some k ∨ w.heap.size ≤ k := by
  obtain ⟨A, c, rfl, _⟩ := hP.form
  obtain ⟨U, hU⟩ : ∃ U, U = (((((w.alloc (.cells #[.pointer (some ⟨p, 0, none⟩)] 28)).alloc (.cells #[.int .u64 (n : Int)] 22)).alloc (.cells #[.int .u64 (a : Int)] 22)).alloc (.cells #[.int .u64 0] 22)).alloc (.cells #[.int .i64 0] 38)).alloc (.cells #[.pointer (some ⟨p, 0, none⟩)] 28) := ⟨_, rfl⟩
  have hsz : U.heap.size = w.heap.size + 6 := by rw [hU]; simp
  have hBU : Below w.heap.size w U := by rw [hU]; exact Laid.below ⟨[_, _, _, _, _, _], rfl⟩
  have hB3 : Blk U w.heap.size 28 #[.pointer (some ⟨p, 0, none⟩)] := by rw [hU]; exact (((((Blk.new _ _ _ rfl).alloc _).alloc _).alloc _).alloc _).alloc _
  have hB4 : Blk U (w.heap.size + 1) 22 #[.int .u64 (n : Int)] := by rw [hU]; exact ((((Blk.new _ _ _ (by simp)).alloc _).alloc _).alloc _).alloc _
  have hB5 : Blk U (w.heap.size + 1 + 1) 22 #[.int .u64 (a : Int)] := by rw [hU]; exact (((Blk.new _ _ _ (by simp)).alloc _).alloc _).alloc _
  have hB6 : Blk U (w.heap.size + 1 + 1 + 1) 22 #[.int .u64 0] := by rw [hU]; exact ((Blk.new _ _ _ (by simp)).alloc _).alloc _
  have hB7 : Blk U (w.heap.size + 1 + 1 + 1 + 1) 38 #[.int .i64 0] := by rw [hU]; exact (Blk.new _ _ _ (by simp)).alloc _
  have hB8 : Blk U (w.heap.size + 1 + 1 + 1 + 1 + 1) 28 #[.pointer (some ⟨p, 0, none⟩)] := by rw [hU]; exact Blk.new _ _ _ (by simp)
  have hPU : PC U p (.slice A L.length c) b L := hP.under hBU
  have HNF : Hid (∀ k, w.heap.size ≤ k → ¬ FpC p (.slice A L.length c) k) := Lib.hid fun k hk h => by have := hP.lt h; omega
  have HP := Lib.hid hP
  have HF := Lib.hid hF
  have HN := Lib.hid (And.intro hn (And.intro hnl (And.intro ha hal)))
  have HBU := Lib.hid (And.intro hBU hsz)
  have HPU := Lib.hid hPU
  have HL := Lib.hid hl
  have HBS := Lib.hid (And.intro hB3 (And.intro hB4 (And.intro hB5 (And.intro hB6 (And.intro hB7 hB8)))))
  have HU := Lib.hid hU
  clear hP hF hn hnl ha hal hBU hsz hPU hB3 hB4 hB5 hB6 hB7 hB8 hU hl
  refine (callsIn_wide (n := 10)).1 ?_
  refine callsIn_of_wp_marks Try.func27 rfl trivial ?_ rfl
  simp only [Try.ntmps27, List.size_toArray, List.length_cons, List.length_nil, Nat.reduceAdd, Nat.reduceSub, Array.replicate_succ, Array.replicate_zero, List.push_toArray, List.append_toArray, List.nil_append, List.cons_append]
  gi_wp2_with (refine ⟨trivial, ?_⟩; gi_at_call 30; refine (callsIn_wide.2 (stretches_any p _)).mono ?_; rintro e w1 ⟨rfl, hw1⟩; obtain rfl : w1 = U := (by rw [HU.out]; exact hw1); clear hw1)
  refine wpIn_rangeFunc_ownH rfl (by omega) (gf := 41) (lb := #[.pointer (some ⟨w.heap.size + 1 + 1 + 1 + 1 + 1, 0, none⟩)]) rfl trivial (by intro args W; rfl) (str_stops _ (by omega) (w.heap.size + 1 + 1 + 1 + 1 + 1) p (.slice A L.length c) b L w1 HBS.out.2.2.2.2.2 HPU.out (by have := HL.out; omega))
    KG.trans (fun W l o o' hl _ _ _ => KG.putObj _ fun k hk e => by
      have := HBU.out.2
      rcases hk with h | h
      · omega
      · exact HNF.out k (by omega) h) (Below.refl _ _) (fun _ => rfl)
    (TkI w1 L n a) (TkX w p (.slice A L.length c) b L n a) (tki_own w1 L n a) (tkx_own (by have := HBU.out.2; omega))
    ⟨fun _ h => (by cases h), Below.refl _ _⟩
    (fun x a' W => ∃ g, w1.heap.size ≤ g ∧ a' = { tmps := #[.pointer (some ⟨p, 0, none⟩), .int .u64 (n : Int), .int .u64 (a : Int), .pointer (some ⟨w.heap.size, 0, none⟩), .pointer (some ⟨w.heap.size + 1, 0, none⟩), .pointer (some ⟨w.heap.size + 1 + 1, 0, none⟩), .pointer (some ⟨w.heap.size + 1 + 1 + 1, 0, none⟩), .pointer (some ⟨w.heap.size + 1 + 1 + 1 + 1, 0, none⟩),
      .int .i64 (x.1 : Int), .pointer (some ⟨g, 0, none⟩), undef, undef, .pointer (some ⟨p, 0, none⟩), .func (.func 41) #[] #[.pointer (some ⟨w.heap.size + 1 + 1 + 1 + 1 + 1, 0, none⟩)], .int .i64 (x.1 : Int), .agg #[.int .u64 (L[x.1].1 : Int), .int .u64 (L[x.1].2 : Int)], undef, undef, undef, undef, undef, undef, undef, undef, undef, undef, undef, undef, undef, undef, undef, undef, undef, undef, undef, undef, undef, undef, undef, undef, undef], defers := [] } ∧
      Blk W g 24 #[.int .u64 (L[x.1].1 : Int), .int .u64 (L[x.1].2 : Int)])
    (fun x a' _ X Y row hs hg hr => by obtain ⟨g, h1, h2, h3⟩ := hs; exact ⟨g, h1, h2, h3.own_from hg hr⟩)
    ?assign ?body ?done ?stop
  case assign =>
    rintro lq pre ⟨i, hi⟩ W K hI hK
    unfold encNS
    obtain ⟨x, hx⟩ : ∃ x, x = L[i] := ⟨_, rfl⟩
    simp only [← hx] at hK ⊢
    obtain ⟨x1, x2⟩ := x
    clear hx
    gi_wp2
    have hle : w1.heap.size ≤ W.heap.size := hI.2.size
    exact hK _ _ ((keepsOthers_below (below_alloc1 _ _)).from _) (KG.of_below (B := W.heap.size) (below_alloc1 _ _) fun k hk => by
      have := HBU.out.2
      rcases hk with h | h
      · omega
      · have := HPU.out.lt h; omega) ⟨hI.1, hI.2.alloc hI.2.size _⟩ ⟨W.heap.size, hle, rfl, Blk.new _ _ _ rfl⟩
  case body =>
    rintro lq pre ⟨i, hi⟩ a' W hl ⟨r, hr⟩ ⟨hI1, hI2⟩ ⟨g, hg, rfl, hgb⟩ hlt
    obtain ⟨x, hx⟩ : ∃ x, x = L[i] := ⟨_, rfl⟩
    simp only [← hx] at hgb ⊢
    have hxm : x ∈ L := by rw [hx]; exact List.getElem_mem hi
    have hxf := HF.out.fit x hxm
    have hxg := rise_good HF.out.rise x hxm
    obtain ⟨x1, x2⟩ := x
    have hsU := HBU.out.2
    have hsW := hI2.size
    have hk3 := HBS.out.1.under hI2
    have hk4 := HBS.out.2.1.under hI2
    have hk5 := HBS.out.2.2.1.under hI2
    have hk6 := HBS.out.2.2.2.1.under hI2
    have hk7 := HBS.out.2.2.2.2.1.under hI2
    have d3 := hk4.cellAt 0 rfl
    have d5 := hk5.cellAt 0 rfl
    have d6 := hgb.cellAt 0 rfl
    have d7 := hgb.cellAt 1 rfl
    have hwW : Below w.heap.size w W := HBU.out.1.trans (hI2.mono HBU.out.1.size)
    have HLO := Lib.hid (fun X => lowest_any x1 x2 n a hxf hxg HN.out.1 HN.out.2.1 HN.out.2.2.1 HN.out.2.2.2 X)
    obtain ⟨f, hf0⟩ : ∃ f, f = fitsIn n a (x1, x2) := ⟨_, rfl⟩
    rw [← hf0] at HLO
    cases f with
    | false =>
      have HEX : Hid (∀ w2 t, Below W.heap.size W w2 → KeepsFrom w1.heap.size W (w2.alloc (spo t n)) ∧ KG (KStr (w.heap.size + 1 + 1 + 1 + 1 + 1) p (.slice A L.length c)) W (w2.alloc (spo t n)) ∧ TkI w1 L n a (pre ++ [⟨i, hi⟩]) (w2.alloc (spo t n))) := Lib.hid fun w2 t hd => by
        have hd2 : Below W.heap.size W (w2.alloc (spo t n)) := hd.alloc hd.size _
        refine ⟨(keepsOthers_below hd2).from _, KG.of_below hd2 fun k hk => ?_, fun y hy => ?_, hI2.trans (hd2.mono hI2.size)⟩
        · rcases hk with h | h
          · omega
          · have := HPU.out.lt h; omega
        · rcases List.mem_append.1 hy with hy | hy
          · exact hI1 y hy
          · simp at hy
            subst hy
            simp only [← hx]
            exact hf0.symm
      clear hI1 hI2 hgb hx hxm hxf hxg hk3 hk4 hk5 hk6 hk7 hwW hf0 hsU hsW hg hlt hr
      gi_wp2_with (refine ⟨trivial, ?_⟩; gi_at_call 38; refine (CallsIn.inRound lq (callsIn_wide.2 (HLO.out _))).mono ?_; rintro e w2 ⟨t, rfl, -, -, hd⟩; have HD := Lib.hid hd; clear hd)
      exact ⟨(HEX.out w2 t HD.out).1, (HEX.out w2 t HD.out).2.1, (HEX.out w2 t HD.out).2.2⟩
    | true =>
      obtain ⟨Z0, hZ0⟩ : ∃ Z0, Z0 = at1 L i a := ⟨_, rfl⟩
      have hZa : Z0 = alu x1 a := by rw [hZ0]; unfold at1; rw [getD_at hi, ← hx]
      have HIN : Hid ((∀ y ∈ pre, fitsIn n a L[y.1] = false) ∧ fitsIn n a L[i] = true ∧ Z0 = at1 L i a ∧ Z0 = alu x1 a ∧ L[i] = (x1, x2) ∧ fit (x1, x2) ∧ good (x1, x2) = true) := Lib.hid ⟨hI1, by rw [← hx]; exact hf0.symm, hZ0, hZa, hx.symm, hxf, hxg⟩
      have HWW := Lib.hid (And.intro hwW (And.intro hsU hsW))
      have HPW := Lib.hid (HPU.out.under hI2)
      have HKB := Lib.hid (And.intro hk3 (And.intro hk6 (And.intro hk7 hgb)))
      have HFIT : Hid (alu x1 a + n ≤ x1 + x2) := Lib.hid (of_decide_eq_true hf0.symm)
      have HGW := Lib.hid hg
      clear hI1 hI2 hgb hx hxm hxf hxg hk3 hk4 hk5 hk6 hk7 hwW hf0 hsU hsW hg hlt hr hZ0 hZa
      gi_upto_region 6 with (refine ⟨trivial, ?_⟩; gi_at_call 38; refine (CallsIn.inRound lq (callsIn_wide.2 (HLO.out _))).mono ?_; rintro e w2 ⟨t, rfl, htl, htf, hd⟩; have HD := Lib.hid (And.intro hd (And.intro htl htf)); clear hd htl htf)
      obtain ⟨W4, hW4⟩ : ∃ W4, W4 = w2.alloc (spo t n) := ⟨_, rfl⟩
      have hta : t = alu x1 a := by
        have := HD.out.2.2
        first | exact this rfl | exact this trivial | exact this
      have hd2 : Below W.heap.size W W4 := by rw [hW4]; exact HD.out.1.alloc HD.out.1.size _
      have HB3 := Lib.hid (HKB.out.1.under hd2)
      have HB6 := Lib.hid (HKB.out.2.1.under hd2)
      have HB7 := Lib.hid (HKB.out.2.2.1.under hd2)
      have HBg := Lib.hid (HKB.out.2.2.2.under hd2)
      have HBt : Hid (Blk W4 w2.heap.size 24 #[.int .u64 (t : Int), .int .u64 (n : Int)]) := Lib.hid (by rw [hW4]; exact Blk.new _ _ _ rfl)
      have HG9 : Hid (w.heap.size ≤ g) := Lib.hid (by have := HGW.out; have := HWW.out.2.1; omega)
      have HG10 : Hid (w.heap.size ≤ w2.heap.size) := Lib.hid (by have := HD.out.1.size; have := HWW.out.1.size; omega)
      have HW4 := Lib.hid (And.intro (HWW.out.1.trans (hd2.mono HWW.out.1.size)) hd2)
      have HPC : Hid (∀ Y, VS W4 Y → PC Y p (.slice A L.length c) b L) := Lib.hid fun Y hY => (HPW.out.under hd2).under hY
      have hlo : x1 ≤ t := by rw [hta]; exact (alu_bounds x1 HN.out.2.2.1).1
      have hfi : t + n ≤ x1 + x2 := by rw [hta]; exact HFIT.out
      have hx2f := HIN.out.2.2.2.2.2.1
      have hxt := (good_iff _).1 HIN.out.2.2.2.2.2.2
      simp only at hxt
      have HX : Hid (fit (x1, x2) ∧ (∀ y ∈ [(t, n)], fit y) ∧ (allB [(x1, x2), (t, n)]).length ≤ 12 ∧ cutS (x1, x2) [(t, n)] = cutR (x1, x2) t n) := Lib.hid ⟨hx2f, fun y hy => by
        simp at hy
        subst hy
        exact ⟨HD.out.2.1, HN.out.2.1⟩, by
        have := ends_len [(x1, x2), (t, n)]
        simp at this
        unfold allB
        simp
        omega, cut_at HIN.out.2.2.2.2.2.2 HN.out.1 hlo hfi⟩
      have hput : L.take i ++ cutR (x1, x2) t n ++ L.drop (i + 1) = putL L i n a := by
        unfold putL
        rw [getD_at hi, HIN.out.2.2.2.2.1, ← HIN.out.2.2.1, HIN.out.2.2.2.1, hta]
      have HREP : Hid (∀ (y10 y11 : World) (cv : Value), VS W4 y11 → OwnS y11 y10.heap.size cv (cutR (x1, x2) t n) → W4.heap.size ≤ y10.heap.size →
          Calls Try.prog 39 #[.slice A L.length c, .int .i64 (i : Int), .int .i64 ((i : Int) + 1), cv] y11 fun e w' =>
            ∃ u, e = .returned u ∧ OwnS w' 0 u (putL L i n a) ∧ y11.grownBy w' (Value.ownBlock (.slice A L.length c)) ∧ (u.ownBlock = Value.ownBlock (.slice A L.length c) ∨ u.ownBlock = some y11.heap.size)) := Lib.hid fun y10 y11 cv hv ho h10 => by
        rw [← hput]
        refine replace_any i L (cutR (x1, x2) t n) hi (cutR_len _ _ _) HL.out 0 y10.heap.size _ cv y11 (HPC.out y11 hv).own (Nat.zero_le _) ho fun gg h1 h2 => ?_
        have k1 := (World.ownsRow.lt ho gg h2).1
        have k2 := HP.out.lt (.inr h1)
        have := HW4.out.1.size
        omega
      have HEND : Hid (∀ (y11 y12 : World) (u : Value), VS W4 y11 → OwnS y12 0 u (putL L i n a) → y11.grownBy y12 (Value.ownBlock (.slice A L.length c)) → (u.ownBlock = Value.ownBlock (.slice A L.length c) ∨ u.ownBlock = some y11.heap.size) →
          Turn (FpC p (.slice A L.length c)) W4 y12 ∧ y12.cell? ⟨p, 2, none⟩ = some (.slice A L.length c) ∧ y12.frozen? ⟨p, 2, none⟩ = false ∧ Turn (FpC p (.slice A L.length c)) W4 (y12.setCell ⟨p, 2, none⟩ u) ∧
          (y12.setCell ⟨p, 2, none⟩ u).cell? ⟨w2.heap.size, 0, none⟩ = some (.int .u64 (t : Int)) ∧ (y12.setCell ⟨p, 2, none⟩ u).cell? ⟨w.heap.size + 1 + 1 + 1, 0, none⟩ = some (.int .u64 0) ∧ (y12.setCell ⟨p, 2, none⟩ u).frozen? ⟨w.heap.size + 1 + 1 + 1, 0, none⟩ = false ∧
          (y12.setCell ⟨p, 2, none⟩ u).cell? ⟨w.heap.size + 1 + 1 + 1 + 1, 0, none⟩ = some (.int .i64 0) ∧ (y12.setCell ⟨p, 2, none⟩ u).frozen? ⟨w.heap.size + 1 + 1 + 1 + 1, 0, none⟩ = false ∧
          (KeepsFrom w1.heap.size W (((y12.setCell ⟨p, 2, none⟩ u).setCell ⟨w.heap.size + 1 + 1 + 1, 0, none⟩ (.int .u64 (t : Int))).setCell ⟨w.heap.size + 1 + 1 + 1 + 1, 0, none⟩ (.int .i64 0)) ∧
           TkX w p (.slice A L.length c) b L n a .ret (pre ++ [⟨i, hi⟩]) (((y12.setCell ⟨p, 2, none⟩ u).setCell ⟨w.heap.size + 1 + 1 + 1, 0, none⟩ (.int .u64 (t : Int))).setCell ⟨w.heap.size + 1 + 1 + 1 + 1, 0, none⟩ (.int .i64 0)))) := Lib.hid fun y11 y12 u hv ho hgr hub => by
        obtain ⟨q1, q2, q3, q4, q5⟩ := take_end HP.out HW4.out.1 hv ho hgr hub
        generalize hz : y12.setCell ⟨p, 2, none⟩ u = Z at q3 q4 ⊢
        have z3 := HB6.out.turn q3 (HNF.out _ (by omega))
        have z4 := HB7.out.turn q3 (HNF.out _ (by omega))
        have zt := HBt.out.turn q3 (HNF.out _ HG10.out)
        have hpl := HP.out.blk.lt
        have hs6 : w.heap.size + 6 ≤ W4.heap.size := by have := HWW.out.2.1; have := HWW.out.2.2; have := HW4.out.2.size; omega
        refine ⟨q1, q2.cellAt 2 rfl, q2.froz 2, q3, zt.cellAt 0 rfl, z3.cellAt 0 rfl, z3.froz 0, z4.cellAt 0 rfl, z4.froz 0, ?_, rfl, pre, ⟨i, hi⟩, u, rfl, HIN.out.1, HIN.out.2.1, ?_, ?_, ?_, ?_, ?_⟩
        · exact ((keepsOthers_below HW4.out.2).from _).trans ((q3.keeps (HPW.out.under HW4.out.2)).trans (((KeepsOthers.setCell _ _ _).trans (KeepsOthers.setCell _ _ _)).from _))
        · refine q4.same fun k hk => ?_
          have hne : k ≠ w.heap.size + 1 + 1 + 1 ∧ k ≠ w.heap.size + 1 + 1 + 1 + 1 := by
            rcases hk with rfl | hk
            · omega
            · rcases q5 k hk with h | h
              · have := HP.out.lt (.inr h); omega
              · omega
          exact (Below.heap_setCell _ ⟨w.heap.size + 1 + 1 + 1 + 1, 0, none⟩ _ k hne.2).trans (Below.heap_setCell _ ⟨w.heap.size + 1 + 1 + 1, 0, none⟩ _ k hne.1)
        · exact ((((Turn.of_below HW4.out.1).andThen q3).setCell (p := ⟨w.heap.size + 1 + 1 + 1, 0, none⟩) (.inr (by simp only; omega)) _).setCell (p := ⟨w.heap.size + 1 + 1 + 1 + 1, 0, none⟩) (.inr (by simp only; omega)) _)
        · exact fun k hk => (q5 k hk).imp id fun h => by have := HW4.out.1.size; omega
        · have e : (at1 L i a : Nat) = t := by rw [← HIN.out.2.2.1, HIN.out.2.2.2.1, hta]
          rw [e]
          exact (z3.set 0 _).far (q := ⟨w.heap.size + 1 + 1 + 1 + 1, 0, none⟩) (by simp) _
        · exact (z4.far (q := ⟨w.heap.size + 1 + 1 + 1, 0, none⟩) (by simp) _).set 0 _
      have HVS : Hid (VS W4 W4.drew) := Lib.hid (VS.begin W4)
      rw [← hW4]
      obtain ⟨Y0, hY0⟩ : ∃ Y0, Y0 = W4.drew := ⟨_, rfl⟩
      rw [← hY0] at HVS
      have hwi : IntKind.i64.wrap ((i : Int) + 1) = (i : Int) + 1 := by rw [IntKind.wrap_i64]; have := HL.out; omega
      clear hW4 hta hd2 hlo hfi hx2f hxt hput
      refine wpIn_region_held_drew (S := fun Y => Turn (FpC p (.slice A L.length c)) W4 Y) (by kernel_rfl) (by kernel_rfl) (by rintro ⟨_, _, h⟩; exact h) (show Turn (FpC p (.slice A L.length c)) W4 W4.drew from (Turn.refl _ _).drew) (fun hS => ?_)
      rw [← hY0] at hS ⊢
      clear hY0
      (refine held_take (i := 0) (oi := ?ot1) (v := ?vt1) ?at1 (by kernel_rfl) (by kernel_rfl) (by kernel_rfl) ?bt1 ?ct1 ?dt1 (by assumption) ?rt1; (case at1 => (simp only [List.getElem?_toArray, List.getElem?_cons_zero]; rfl)); (case bt1 => exact fun _ _ _ h => h); (case ct1 => kernel_rfl); (case dt1 => (intro W6 hW; have b0 := HB3.out.turn hW (HNF.out _ (Nat.le_refl _)); have c0 := b0.cellAt 0 rfl; clear b0 hW; go_simp; (try with_reducible rfl))); (case' rt1 => simp only [Act.put, List.setIfInBounds_toArray, List.set_cons_zero, List.set_cons_succ]))
      (refine held_take (i := 1) (oi := ?ot2) (v := ?vt2) ?at2 (by kernel_rfl) (by kernel_rfl) (by kernel_rfl) ?bt2 ?ct2 ?dt2 (by assumption) ?rt2; (case at2 => (simp only [List.getElem?_toArray, List.getElem?_cons_zero, List.getElem?_cons_succ]; rfl)); (case bt2 => exact fun _ _ _ h => h); (case ct2 => kernel_rfl); (case dt2 => (intro W6 hW; have b0 := HB3.out.turn hW (HNF.out _ (Nat.le_refl _)); have c0 := b0.cellAt 0 rfl; clear b0 hW; go_simp; (try with_reducible rfl))); (case' rt2 => simp only [Act.put, List.setIfInBounds_toArray, List.set_cons_zero, List.set_cons_succ]))
      (refine held_take (i := 2) (oi := ?ot3) (v := ?vt3) ?at3 (by kernel_rfl) (by kernel_rfl) (by kernel_rfl) ?bt3 ?ct3 ?dt3 (by assumption) ?rt3; (case at3 => (simp only [List.getElem?_toArray, List.getElem?_cons_zero, List.getElem?_cons_succ]; rfl)); (case bt3 => exact fun _ _ _ h => h); (case ct3 => kernel_rfl); (case dt3 => (intro W hW; (try dsimp only at hW); go_split_ands; go_simp; (try with_reducible rfl))); (case' rt3 => simp only [Act.put, List.setIfInBounds_toArray, List.set_cons_zero, List.set_cons_succ]))
      (refine held_take (i := 3) (oi := ?ot4) (v := ?vt4) ?at4 (by kernel_rfl) (by kernel_rfl) (by kernel_rfl) ?bt4 ?ct4 ?dt4 (by assumption) ?rt4; (case at4 => (simp only [List.getElem?_toArray, List.getElem?_cons_zero, List.getElem?_cons_succ]; rfl)); (case bt4 => exact fun _ _ _ h => h); (case ct4 => kernel_rfl); (case dt4 => (intro W hW; (try dsimp only at hW); go_split_ands; go_simp; (try with_reducible rfl))); (case' rt4 => simp only [Act.put, List.setIfInBounds_toArray, List.set_cons_zero, List.set_cons_succ]))
      (refine held_take (i := 5) (oi := ?ot5) (v := ?vt5) ?at5 (by kernel_rfl) (by kernel_rfl) (by kernel_rfl) ?bt5 ?ct5 ?dt5 (by assumption) ?rt5; (case at5 => (simp only [List.getElem?_toArray, List.getElem?_cons_zero, List.getElem?_cons_succ]; rfl)); (case bt5 => exact fun _ _ _ h => h); (case ct5 => kernel_rfl); (case dt5 => (intro W hW; (try dsimp only at hW); go_split_ands; go_simp; (try with_reducible rfl))); (case' rt5 => simp only [Act.put, List.setIfInBounds_toArray, List.set_cons_zero, List.set_cons_succ]))
      (refine held_take (i := 6) (oi := ?ot6) (v := ?vt6) ?at6 (by kernel_rfl) (by kernel_rfl) (by kernel_rfl) ?bt6 ?ct6 ?dt6 (by assumption) ?rt6; (case at6 => (simp only [List.getElem?_toArray, List.getElem?_cons_zero, List.getElem?_cons_succ]; rfl)); (case bt6 => exact fun _ _ _ h => h); (case ct6 => kernel_rfl); (case dt6 => (intro W hW; (try dsimp only at hW); go_split_ands; go_simp; (try with_reducible rfl))); (case' rt6 => simp only [Act.put, List.setIfInBounds_toArray, List.set_cons_zero, List.set_cons_succ]))
      (refine held_take (i := 7) (oi := ?ot7) (v := ?vt7) ?at7 (by kernel_rfl) (by kernel_rfl) (by kernel_rfl) ?bt7 ?ct7 ?dt7 (by assumption) ?rt7; (case at7 => (simp only [List.getElem?_toArray, List.getElem?_cons_zero, List.getElem?_cons_succ]; rfl)); (case bt7 => exact fun _ _ _ h => h); (case ct7 => kernel_rfl); (case dt7 => (intro W hW; (try dsimp only at hW); go_split_ands; go_simp; (try with_reducible rfl))); (case' rt7 => simp only [Act.put, List.setIfInBounds_toArray, List.set_cons_zero, List.set_cons_succ]))
      (refine held_take (i := 8) (oi := ?ot8) (v := ?vt8) ?at8 (by kernel_rfl) (by kernel_rfl) (by kernel_rfl) ?bt8 ?ct8 ?dt8 (by assumption) ?rt8; (case at8 => (simp only [List.getElem?_toArray, List.getElem?_cons_zero, List.getElem?_cons_succ]; rfl)); (case bt8 => exact fun _ _ _ h => h); (case ct8 => kernel_rfl); (case dt8 => (intro W6 hW; have b0 := HBg.out.turn hW (HNF.out _ HG9.out); have c0 := b0.cellAt 0 rfl; have c1 := b0.cellAt 1 rfl; clear b0 hW; go_simp; (try with_reducible rfl))); (case' rt8 => simp only [Act.put, List.setIfInBounds_toArray, List.set_cons_zero, List.set_cons_succ]))
      (refine held_take (i := 9) (oi := ?ot9) (v := ?vt9) ?at9 (by kernel_rfl) (by kernel_rfl) (by kernel_rfl) ?bt9 ?ct9 ?dt9 (by assumption) ?rt9; (case at9 => (simp only [List.getElem?_toArray, List.getElem?_cons_zero, List.getElem?_cons_succ]; rfl)); (case bt9 => exact fun _ _ _ h => h); (case ct9 => kernel_rfl); (case dt9 => (intro W6 hW; have b0 := HBt.out.turn hW (HNF.out _ HG10.out); have c0 := b0.cellAt 0 rfl; have c1 := b0.cellAt 1 rfl; clear b0 hW; go_simp; (try with_reducible rfl))); (case' rt9 => simp only [Act.put, List.setIfInBounds_toArray, List.set_cons_zero, List.set_cons_succ]))
      refine held_two (i := 4) (j := 10) (oi := ?oit27) (oj := ?ojt27) (by kernel_rfl) ?ait27 ?ajt27 ?cit27 ?cjt27 (fun K4 hK4 => ?hit27) (fun K10 hK10 => ?hjt27)
      (case ait27 => (simp only [List.getElem?_toArray, List.getElem?_cons_zero, List.getElem?_cons_succ]; rfl))
      (case ajt27 => (simp only [List.getElem?_toArray, List.getElem?_cons_zero, List.getElem?_cons_succ]; rfl))
      (case cit27 => kernel_rfl)
      (case cjt27 => kernel_rfl)
      case hit27 =>
        have hSb := hS
        have c2 := (HPC.out _ HVS.out).c2
        go_simp
        refine hK4 _ _ hSb (fun hS4 => ?_)
        clear hS hSb c2 hK4 K4
        refine held_one (i := 10) (oi := ?ot10) (by kernel_rfl) ?at10 ?ct10 (fun K10 hK10 => ?_)
        (case at10 => (simp only [List.getElem?_toArray, List.getElem?_cons_zero, List.getElem?_cons_succ]; rfl))
        (case ct10 => kernel_rfl)
        have hSb := hS4
        go_simp
        have hd : Below Y0.heap.size Y0 (Y0.alloc (spo t n)) := below_alloc1 _ _
        have hrow := row_lit Y0 t n
        rw [← show (Y0.alloc (spo t n)).heap.size = Y0.heap.size + 1 by simp] at hrow
        obtain ⟨y10, hy10⟩ : ∃ y, y = Y0.alloc (spo t n) := ⟨_, rfl⟩
        rw [← hy10] at hd hrow ⊢
        have HR10 := Lib.hid hrow
        have HVS := Lib.hid (VS.keep HVS.out hd)
        refine hK10 _ _ (hSb.andThen (Turn.of_below hd)) (fun hS10 => ?_)
        clear hS4 hSb hd hrow hy10 hK10 K10
        refine held_one (i := 11) (oi := ?ot11) (by kernel_rfl) ?at11 ?ct11 (fun K11 hK11 => ?_)
        (case at11 => (simp only [List.getElem?_toArray, List.getElem?_cons_zero, List.getElem?_cons_succ]; rfl))
        (case ct11 => kernel_rfl)
        have hSb := hS10
        go_simp
        refine (cut_any 12 sorts12 x1 x2 HX.out.1 _ 1 [(t, n)] HX.out.2.1 (by simp) HX.out.2.2.1 y10 HR10.out).mono ?_
        rintro e y11 ⟨cv, rfl, ho, hd⟩
        rw [HX.out.2.2.2] at ho
        have HCV := Lib.hid (And.intro ho (show Below W4.heap.size W4 y10 from HVS.out).size)
        have HVS := Lib.hid (VS.keep HVS.out hd)
        refine hK11 _ _ (hSb.andThen (Turn.of_below hd)) (fun hS11 => ?_)
        clear hS10 hSb hd ho hK11 K11
        refine held_one (i := 12) (oi := ?ot12) (by kernel_rfl) ?at12 ?ct12 (fun K12 hK12 => ?_)
        (case at12 => (simp only [List.getElem?_toArray, List.getElem?_cons_zero, List.getElem?_cons_succ]; rfl))
        (case ct12 => kernel_rfl)
        have hSb := hS11
        go_simp
        have hrep := HREP.out y10 y11 cv HVS.out HCV.out.1 HCV.out.2
        refine hrep.mono ?_
        rintro e y12 ⟨u, rfl, ho, hgr, hub⟩
        obtain ⟨A3, c3, rfl, -⟩ := ho.row
        have HE := Lib.hid (HEND.out y11 y12 _ HVS.out ho hgr hub)
        refine hK12 _ _ HE.out.1 (fun hS12 => ?_)
        clear hS11 hSb hrep ho hgr hub hK12 K12
        (refine held_take (i := 13) (oi := ?ot13) (v := ?vt13) ?at13 (by kernel_rfl) (by kernel_rfl) (by kernel_rfl) ?bt13 ?ct13 ?dt13 (by assumption) ?rt13; (case at13 => (simp only [List.getElem?_toArray, List.getElem?_cons_zero, List.getElem?_cons_succ]; rfl)); (case bt13 => exact fun _ _ _ h => h); (case ct13 => kernel_rfl); (case dt13 => (intro W hW; (try dsimp only at hW); go_split_ands; go_simp; (try with_reducible rfl))); (case' rt13 => simp only [Act.put, List.setIfInBounds_toArray, List.set_cons_zero, List.set_cons_succ]))
        (refine held_take (i := 14) (oi := ?ot14) (v := ?vt14) ?at14 (by kernel_rfl) (by kernel_rfl) (by kernel_rfl) ?bt14 ?ct14 ?dt14 (by assumption) ?rt14; (case at14 => (simp only [List.getElem?_toArray, List.getElem?_cons_zero, List.getElem?_cons_succ]; rfl)); (case bt14 => exact fun _ _ _ h => h); (case ct14 => kernel_rfl); (case dt14 => (intro W hW; (try dsimp only at hW); go_split_ands; go_simp; (try with_reducible rfl))); (case' rt14 => simp only [Act.put, List.setIfInBounds_toArray, List.set_cons_zero, List.set_cons_succ]))
        refine held_one (i := 15) (oi := ?ot15) (by kernel_rfl) ?at15 ?ct15 (fun K15 hK15 => ?_)
        (case at15 => (simp only [List.getElem?_toArray, List.getElem?_cons_zero, List.getElem?_cons_succ]; rfl))
        (case ct15 => kernel_rfl)
        have hSb := hS12
        have c2 := HE.out.2.1
        have f2 := HE.out.2.2.1
        go_simp
        refine hK15 _ _ HE.out.2.2.2.1 (fun hS15 => ?_)
        clear hS12 hSb c2 f2 hK15 K15
        refine wpAnyH_done (by kernel_rfl) ?_ _
        have hz0 := HE.out.2.2.2.2.1
        have hz1 := HE.out.2.2.2.2.2.1
        have hz2 := HE.out.2.2.2.2.2.2.1
        have hz3 := HE.out.2.2.2.2.2.2.2.1
        have hz4 := HE.out.2.2.2.2.2.2.2.2.1
        gi_wp2
        exact HE.out.2.2.2.2.2.2.2.2.2
      case hjt27 =>
        have hSb := hS
        go_simp
        have hd : Below Y0.heap.size Y0 (Y0.alloc (spo t n)) := below_alloc1 _ _
        have hrow := row_lit Y0 t n
        rw [← show (Y0.alloc (spo t n)).heap.size = Y0.heap.size + 1 by simp] at hrow
        obtain ⟨y10, hy10⟩ : ∃ y, y = Y0.alloc (spo t n) := ⟨_, rfl⟩
        rw [← hy10] at hd hrow ⊢
        have HR10 := Lib.hid hrow
        have HVS := Lib.hid (VS.keep HVS.out hd)
        refine hK10 _ _ (hSb.andThen (Turn.of_below hd)) (fun hS10 => ?_)
        clear hS hSb hd hrow hy10 hK10 K10
        refine held_two (i := 4) (j := 11) (oi := ?oit26) (oj := ?ojt26) (by kernel_rfl) ?ait26 ?ajt26 ?cit26 ?cjt26 (fun K4 hK4 => ?hit26) (fun K11 hK11 => ?hjt26)
        (case ait26 => (simp only [List.getElem?_toArray, List.getElem?_cons_zero, List.getElem?_cons_succ]; rfl))
        (case ajt26 => (simp only [List.getElem?_toArray, List.getElem?_cons_zero, List.getElem?_cons_succ]; rfl))
        (case cit26 => kernel_rfl)
        (case cjt26 => kernel_rfl)
        case hit26 =>
          have hSb := hS10
          have c2 := (HPC.out _ HVS.out).c2
          go_simp
          refine hK4 _ _ hSb (fun hS4 => ?_)
          clear hS10 hSb c2 hK4 K4
          refine held_one (i := 11) (oi := ?ot16) (by kernel_rfl) ?at16 ?ct16 (fun K11 hK11 => ?_)
          (case at16 => (simp only [List.getElem?_toArray, List.getElem?_cons_zero, List.getElem?_cons_succ]; rfl))
          (case ct16 => kernel_rfl)
          have hSb := hS4
          go_simp
          refine (cut_any 12 sorts12 x1 x2 HX.out.1 _ 1 [(t, n)] HX.out.2.1 (by simp) HX.out.2.2.1 y10 HR10.out).mono ?_
          rintro e y11 ⟨cv, rfl, ho, hd⟩
          rw [HX.out.2.2.2] at ho
          have HCV := Lib.hid (And.intro ho (show Below W4.heap.size W4 y10 from HVS.out).size)
          have HVS := Lib.hid (VS.keep HVS.out hd)
          refine hK11 _ _ (hSb.andThen (Turn.of_below hd)) (fun hS11 => ?_)
          clear hS4 hSb hd ho hK11 K11
          refine held_one (i := 12) (oi := ?ot17) (by kernel_rfl) ?at17 ?ct17 (fun K12 hK12 => ?_)
          (case at17 => (simp only [List.getElem?_toArray, List.getElem?_cons_zero, List.getElem?_cons_succ]; rfl))
          (case ct17 => kernel_rfl)
          have hSb := hS11
          go_simp
          have hrep := HREP.out y10 y11 cv HVS.out HCV.out.1 HCV.out.2
          refine hrep.mono ?_
          rintro e y12 ⟨u, rfl, ho, hgr, hub⟩
          obtain ⟨A3, c3, rfl, -⟩ := ho.row
          have HE := Lib.hid (HEND.out y11 y12 _ HVS.out ho hgr hub)
          refine hK12 _ _ HE.out.1 (fun hS12 => ?_)
          clear hS11 hSb hrep ho hgr hub hK12 K12
          (refine held_take (i := 13) (oi := ?ot18) (v := ?vt18) ?at18 (by kernel_rfl) (by kernel_rfl) (by kernel_rfl) ?bt18 ?ct18 ?dt18 (by assumption) ?rt18; (case at18 => (simp only [List.getElem?_toArray, List.getElem?_cons_zero, List.getElem?_cons_succ]; rfl)); (case bt18 => exact fun _ _ _ h => h); (case ct18 => kernel_rfl); (case dt18 => (intro W hW; (try dsimp only at hW); go_split_ands; go_simp; (try with_reducible rfl))); (case' rt18 => simp only [Act.put, List.setIfInBounds_toArray, List.set_cons_zero, List.set_cons_succ]))
          (refine held_take (i := 14) (oi := ?ot19) (v := ?vt19) ?at19 (by kernel_rfl) (by kernel_rfl) (by kernel_rfl) ?bt19 ?ct19 ?dt19 (by assumption) ?rt19; (case at19 => (simp only [List.getElem?_toArray, List.getElem?_cons_zero, List.getElem?_cons_succ]; rfl)); (case bt19 => exact fun _ _ _ h => h); (case ct19 => kernel_rfl); (case dt19 => (intro W hW; (try dsimp only at hW); go_split_ands; go_simp; (try with_reducible rfl))); (case' rt19 => simp only [Act.put, List.setIfInBounds_toArray, List.set_cons_zero, List.set_cons_succ]))
          refine held_one (i := 15) (oi := ?ot20) (by kernel_rfl) ?at20 ?ct20 (fun K15 hK15 => ?_)
          (case at20 => (simp only [List.getElem?_toArray, List.getElem?_cons_zero, List.getElem?_cons_succ]; rfl))
          (case ct20 => kernel_rfl)
          have hSb := hS12
          have c2 := HE.out.2.1
          have f2 := HE.out.2.2.1
          go_simp
          refine hK15 _ _ HE.out.2.2.2.1 (fun hS15 => ?_)
          clear hS12 hSb c2 f2 hK15 K15
          refine wpAnyH_done (by kernel_rfl) ?_ _
          have hz0 := HE.out.2.2.2.2.1
          have hz1 := HE.out.2.2.2.2.2.1
          have hz2 := HE.out.2.2.2.2.2.2.1
          have hz3 := HE.out.2.2.2.2.2.2.2.1
          have hz4 := HE.out.2.2.2.2.2.2.2.2.1
          gi_wp2
          exact HE.out.2.2.2.2.2.2.2.2.2
        case hjt26 =>
          have hSb := hS10
          go_simp
          refine (cut_any 12 sorts12 x1 x2 HX.out.1 _ 1 [(t, n)] HX.out.2.1 (by simp) HX.out.2.2.1 y10 HR10.out).mono ?_
          rintro e y11 ⟨cv, rfl, ho, hd⟩
          rw [HX.out.2.2.2] at ho
          have HCV := Lib.hid (And.intro ho (show Below W4.heap.size W4 y10 from HVS.out).size)
          have HVS := Lib.hid (VS.keep HVS.out hd)
          refine hK11 _ _ (hSb.andThen (Turn.of_below hd)) (fun hS11 => ?_)
          clear hS10 hSb hd ho hK11 K11
          refine held_one (i := 4) (oi := ?ot21) (by kernel_rfl) ?at21 ?ct21 (fun K4 hK4 => ?_)
          (case at21 => (simp only [List.getElem?_toArray, List.getElem?_cons_zero, List.getElem?_cons_succ]; rfl))
          (case ct21 => kernel_rfl)
          have hSb := hS11
          have c2 := (HPC.out _ HVS.out).c2
          go_simp
          refine hK4 _ _ hSb (fun hS4 => ?_)
          clear hS11 hSb c2 hK4 K4
          refine held_one (i := 12) (oi := ?ot22) (by kernel_rfl) ?at22 ?ct22 (fun K12 hK12 => ?_)
          (case at22 => (simp only [List.getElem?_toArray, List.getElem?_cons_zero, List.getElem?_cons_succ]; rfl))
          (case ct22 => kernel_rfl)
          have hSb := hS4
          go_simp
          have hrep := HREP.out y10 y11 cv HVS.out HCV.out.1 HCV.out.2
          refine hrep.mono ?_
          rintro e y12 ⟨u, rfl, ho, hgr, hub⟩
          obtain ⟨A3, c3, rfl, -⟩ := ho.row
          have HE := Lib.hid (HEND.out y11 y12 _ HVS.out ho hgr hub)
          refine hK12 _ _ HE.out.1 (fun hS12 => ?_)
          clear hS4 hSb hrep ho hgr hub hK12 K12
          (refine held_take (i := 13) (oi := ?ot23) (v := ?vt23) ?at23 (by kernel_rfl) (by kernel_rfl) (by kernel_rfl) ?bt23 ?ct23 ?dt23 (by assumption) ?rt23; (case at23 => (simp only [List.getElem?_toArray, List.getElem?_cons_zero, List.getElem?_cons_succ]; rfl)); (case bt23 => exact fun _ _ _ h => h); (case ct23 => kernel_rfl); (case dt23 => (intro W hW; (try dsimp only at hW); go_split_ands; go_simp; (try with_reducible rfl))); (case' rt23 => simp only [Act.put, List.setIfInBounds_toArray, List.set_cons_zero, List.set_cons_succ]))
          (refine held_take (i := 14) (oi := ?ot24) (v := ?vt24) ?at24 (by kernel_rfl) (by kernel_rfl) (by kernel_rfl) ?bt24 ?ct24 ?dt24 (by assumption) ?rt24; (case at24 => (simp only [List.getElem?_toArray, List.getElem?_cons_zero, List.getElem?_cons_succ]; rfl)); (case bt24 => exact fun _ _ _ h => h); (case ct24 => kernel_rfl); (case dt24 => (intro W hW; (try dsimp only at hW); go_split_ands; go_simp; (try with_reducible rfl))); (case' rt24 => simp only [Act.put, List.setIfInBounds_toArray, List.set_cons_zero, List.set_cons_succ]))
          refine held_one (i := 15) (oi := ?ot25) (by kernel_rfl) ?at25 ?ct25 (fun K15 hK15 => ?_)
          (case at25 => (simp only [List.getElem?_toArray, List.getElem?_cons_zero, List.getElem?_cons_succ]; rfl))
          (case ct25 => kernel_rfl)
          have hSb := hS12
          have c2 := HE.out.2.1
          have f2 := HE.out.2.2.1
          go_simp
          refine hK15 _ _ HE.out.2.2.2.1 (fun hS15 => ?_)
          clear hS12 hSb c2 f2 hK15 K15
          refine wpAnyH_done (by kernel_rfl) ?_ _
          have hz0 := HE.out.2.2.2.2.1
          have hz1 := HE.out.2.2.2.2.2.1
          have hz2 := HE.out.2.2.2.2.2.2.1
          have hz3 := HE.out.2.2.2.2.2.2.2.1
          have hz4 := HE.out.2.2.2.2.2.2.2.2.1
          gi_wp2
          exact HE.out.2.2.2.2.2.2.2.2.2
  case done =>
    rintro Dd ys W hD rfl hI hK
    have hno := tki_end hI
    have z3 := HBS.out.2.2.2.1.under hI.2
    have z4 := HBS.out.2.2.2.2.1.under hI.2
    have z3c := z3.cellAt 0 rfl
    have z3f := z3.froz 0
    have z4c := z4.cellAt 0 rfl
    have z4f := z4.froz 0
    have hsU := HBU.out.2
    have hw : Below w.heap.size w W := HBU.out.1.trans (hI.2.mono HBU.out.1.size)
    have HW := Lib.hid hw
    have HZ := Lib.hid (And.intro z3 z4)
    have HNO := Lib.hid hno
    have HKK := Lib.hid hK
    have hDn : w.heap.size + 6 ≤ Dd := by omega
    clear hno z3 z4 hw hI hsU
    gi_wp2
    have hK2 : ((W.setCell ⟨w.heap.size + 1 + 1 + 1, 0, none⟩ (.int .u64 0)).setCell ⟨w.heap.size + 1 + 1 + 1 + 1, 0, none⟩ (.int .i64 110)).heap[Dd]? = some (.deferred (some [])) := by
      rw [Below.heap_setCell _ ⟨w.heap.size + 1 + 1 + 1 + 1, 0, none⟩ _ Dd (by simp only; omega), Below.heap_setCell _ ⟨w.heap.size + 1 + 1 + 1, 0, none⟩ _ Dd (by simp only; omega)]; exact HKK.out
    have y3 := ((HZ.out.1.set 0 (.int .u64 0)).far (q := ⟨w.heap.size + 1 + 1 + 1 + 1, 0, none⟩) (by simp) (.int .i64 110))
    have y4 := ((HZ.out.2.far (q := ⟨w.heap.size + 1 + 1 + 1, 0, none⟩) (by simp) (.int .u64 0)).set 0 (.int .i64 110))
    have hbl : Below w.heap.size w ((W.setCell ⟨w.heap.size + 1 + 1 + 1, 0, none⟩ (.int .u64 0)).setCell ⟨w.heap.size + 1 + 1 + 1 + 1, 0, none⟩ (.int .i64 110)) := (HW.out.setCell (p := ⟨w.heap.size + 1 + 1 + 1, 0, none⟩) (by simp only; omega) _).setCell (p := ⟨w.heap.size + 1 + 1 + 1 + 1, 0, none⟩) (by simp only; omega) _
    generalize (W.setCell ⟨w.heap.size + 1 + 1 + 1, 0, none⟩ (.int .u64 0)).setCell ⟨w.heap.size + 1 + 1 + 1 + 1, 0, none⟩ (.int .i64 110) = X at hK2 y3 y4 hbl ⊢
    have hput : X.grownBy (X.putObj Dd (.deferred none)) (some Dd) := grownBy_putObj' X Dd (.deferred none)
    have hrow : ∀ r, some Dd = some r → Dd ≤ r ∧ ∃ o : Obj, X.heap[r]? = some o ∧ o.isCells = false := fun r e => by
      obtain rfl := Option.some.inj e
      exact ⟨Nat.le_refl _, _, hK2, rfl⟩
    refine ⟨by simp, .inl ⟨_, _, rfl, run_takeDeferred hK2, ?_⟩⟩
    refine ⟨_, results_cc rfl _ _ _ _ _ rfl rfl (loadVar_one (y3.own_from hput hrow) Try.underlying22) (loadVar_one (y4.own_from hput hrow) Try.underlying38), ?_⟩
    have hb2 : Below w.heap.size w (X.putObj Dd (.deferred none)) := hbl.trans (belowK_b (w := w) (Nat.le_refl _) X Dd _ _ (by omega) hK2 rfl rfl)
    unfold takeV takeE takeL
    rw [HNO.out]
    exact ⟨_, rfl, HP.out.under hb2, Turn.of_below hb2, fun k hk => .inl hk⟩
  case stop =>
    rintro Dd c' pre W hD ⟨k, hk, rfl⟩ hX hK
    obtain rfl := hX.1
    have hX2 := (tkx_own (by have := HBU.out.2; omega) .ret : OwnFrom w1.heap.size (TkX w p (.slice A L.length c) b L n a .ret)).putObj (.deferred none) hX hD hK rfl
    obtain ⟨hix, u, e1, e2, e3, e4, e5⟩ := tkx_end hk hX2
    have HE := Lib.hid (And.intro hix (And.intro e1 (And.intro e2 (And.intro e3 (And.intro e4 e5)))))
    clear hX hX2 hix e1 e2 e3 e4 e5
    gi_wp2
    refine ⟨by simp, .inl ⟨_, _, rfl, run_takeDeferred hK, ?_⟩⟩
    refine ⟨_, results_cc rfl _ _ _ _ _ rfl rfl (loadVar_one HE.out.2.2.2.2.1 Try.underlying22) (loadVar_one HE.out.2.2.2.2.2 Try.underlying38), ?_⟩
    unfold takeV takeE takeL
    rw [HE.out.1]
    exact ⟨u, rfl, HE.out.2.1, HE.out.2.2.1, HE.out.2.2.2.1⟩
end Go.Proofs.Ytmhhckpdhjnmeaa
