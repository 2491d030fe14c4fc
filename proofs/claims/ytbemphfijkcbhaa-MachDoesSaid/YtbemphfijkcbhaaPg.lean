/- A map whose entries lead to pages of memory: what is known of its blocks. -/
import Derived.Test.YtbemphfijkcbhaaChecked
import Derived.Test.YtbemphfijkcbhaaWa
import Derived.Maps.OwnSet
import Derived.Maps.RangeWalk
import Derived.DeepKeys
import Derived.Laws.StructEq
import Derived.KernelRfl
import Derived.RangeFuncFrom
import Derived.RangeFuncWrites
namespace Go.Proofs.Ytbemphfijkcbhaa
open Go.RowKit Go.Maps

/-- An element: a pointer to a whole block, or none. -/
def ptrR (v : Value) : Option (DataW Unit × List MemPlace) :=
  match v with
  | .pointer none => some (.nil, [])
  | .pointer (some ⟨g, 0, none⟩) => some (.lit (.int .i64 (g : Int)), [])
  | _ => none
theorem ptrR_inv {v : Value} {z : DataW Unit × List MemPlace} (h : ptrR v = some z) : (v = .pointer none ∧ z = (.nil, [])) ∨ ∃ g : Nat, v = .pointer (some ⟨g, 0, none⟩) ∧ z = (.lit (.int .i64 (g : Int)), []) := by
  unfold ptrR at h
  split at h
  · cases h; exact Or.inl ⟨rfl, rfl⟩
  · cases h; exact Or.inr ⟨_, rfl, rfl⟩
  · cases h
theorem ptrR_at (g : Nat) : ptrR (.pointer (some ⟨g, 0, none⟩)) = some (.lit (.int .i64 (g : Int)), []) := rfl
theorem kLaw : Keyed Try.prog 22 := int_keyed Try.underlying22
def klit (k : Nat) : Lit := .int .u64 (k : Int)
theorem klit_wf {k : Nat} (h : k < 18446744073709551616) : (Lit.int .u64 (k : Int)).wf = true := by
  simp [Lit.wf, IntKind.min, IntKind.max, IntKind.bits, IntKind.signed]; omega
theorem klit_key {k : Nat} (h : k < 18446744073709551616) : keyOf Try.prog 22 (.int .u64 (k : Int)) = some (klit k) := keyOf_int_mk Try.underlying22 (klit_wf h)
theorem klit_inj {k j : Nat} (h : klit k = klit j) : k = j := by
  unfold klit at h
  injection h with _ h
  omega
theorem klit_is {k : Nat} (h : k < 18446744073709551616) : WideAt.IsKeyLit (klit k) := kLaw.key (klit_key h)
/-- Which block keeps the page at k. -/
def pm (D : DataW Unit) (k : Nat) : Option Nat := match D.atKey (klit k) .nil with | .lit (.int _ g) => some g.toNat | _ => none
theorem zeroP (w : World) : (zeroValue 100).run Try.prog w = .ok (.pointer none) w := by kernel_rfl
def pval : Option Nat → Value
  | none => .pointer none
  | some g => .pointer (some ⟨g, 0, none⟩)
section
variable {w w' : World} {b n : Nat} {D : DataW Unit}
set_option maxRecDepth 100000 in
theorem pm_look (h : w.ownsMap Try.prog 22 ptrR b n D) {k : Nat} (hk : k < 18446744073709551616) :
    (Instr.lookup 85 (.map (some b)) (.int .u64 (k : Int)) false).run Try.prog w = .ok (pval (pm D k)) w := by
  obtain ⟨v, ps, hrun, hv⟩ := h.lookup kLaw Try.underlying85 (zeroP w) (zd := .nil) (zp := []) rfl (klit_key hk)
  rw [hrun]
  congr 1
  unfold pm
  rcases ptrR_inv hv with ⟨rfl, e⟩ | ⟨g, rfl, e⟩
  · have e1 : D.atKey (klit k) .nil = .nil := congrArg Prod.fst e
    rw [e1]; rfl
  · have e1 : D.atKey (klit k) .nil = .lit (.int .i64 (g : Int)) := congrArg Prod.fst e
    rw [e1]; simp [pval]
theorem pm_put_same (h : IsMap D) {k : Nat} (hk : k < 18446744073709551616) (g : Nat) : pm (D.put (klit k) (.lit (.int .i64 (g : Int)))) k = some g := by
  unfold pm; rw [atKey_put_same h (klit_is hk)]; simp
theorem pm_put_other {k j : Nat} (hj : j ≠ k) (d : DataW Unit) : pm (D.put (klit k) d) j = pm D j := by
  unfold pm; rw [atKey_put_other (fun e => hj (klit_inj e))]
theorem pm_del_same (k : Nat) : pm (D.del (klit k)) k = none := by
  unfold pm; rw [atKey_del_same]
theorem pm_del_other {k j : Nat} (hj : j ≠ k) : pm (D.del (klit k)) j = pm D j := by
  unfold pm; rw [atKey_del_other (fun e => hj (klit_inj e))]
theorem pm_empty (k : Nat) : pm (.map []) k = none := rfl
theorem pm_has {k g : Nat} (h : pm D k = some g) : Maps.has D (klit k) = true := by
  cases hh : Maps.has D (klit k)
  · unfold pm at h; rw [atKey_of_not_has hh] at h; cases h
  · rfl
end

/-- The map in block b keeps pages in blocks of G: together they read as m; a page is kept just if it isn't all 0 (those of X apart). -/
structure Pg (w : World) (G : Nat → Prop) (b n : Nat) (D : DataW Unit) (m : Bytes8) (X : Nat → Prop) : Prop where
  own : w.ownsMap Try.prog 22 ptrR b n D
  gb : G b
  lt : ∀ i, G i → i < w.heap.size
  full : ∀ l, Maps.has D l = true → ∃ k g, l = klit k ∧ pm D k = some g
  pg : ∀ k g, pm D k = some g → G g ∧ k % 4096 = 0 ∧ k < 18446744073709551616 ∧ Arr w g 134 4096 (bys fun i => m (k + i)) ∧ (¬ X k → ∃ i, i < 4096 ∧ m (k + i) ≠ 0)
  inj : ∀ k k' g, pm D k = some g → pm D k' = some g → k = k'
  no : ∀ k, k % 4096 = 0 → pm D k = none → ∀ i, i < 4096 → m (k + i) = 0
  cel : ∀ i, G i → i ≠ b → ∃ o : Obj, w.heap[i]? = some o ∧ o.isCells = true
def noX : Nat → Prop := fun _ => False
section
variable {w w' : World} {G : Nat → Prop} {b n : Nat} {D : DataW Unit} {m : Bytes8} {X : Nat → Prop}
theorem Pg.same (h : Pg w G b n D m X) (hz : w.heap.size ≤ w'.heap.size) (hs : ∀ i, G i → w'.heap[i]? = w.heap[i]?) : Pg w' G b n D m X := by
  obtain ⟨es, clock, hb, r⟩ := h.own
  exact ⟨⟨es, clock, (hs b h.gb).trans hb, r⟩, h.gb, fun i hi => Nat.lt_of_lt_of_le (h.lt i hi) hz, h.full,
    fun k g hk => by obtain ⟨h1, h2, h3, h4, h5⟩ := h.pg k g hk; exact ⟨h1, h2, h3, (hs g h1).trans h4, h5⟩, h.inj, h.no, fun i hi hb => by obtain ⟨o, ho, hc⟩ := h.cel i hi hb; exact ⟨o, (hs i hi).trans ho, hc⟩⟩
theorem Pg.turn {G' : Nat → Prop} (h : Pg w G b n D m X) (k : Turn G' w w') (hd : ∀ i, G i → ¬ G' i) : Pg w' G b n D m X := h.same k.size fun i hi => k.block i (h.lt i hi) (hd i hi)
theorem Pg.under (h : Pg w G b n D m X) (k : Below w.heap.size w w') : Pg w' G b n D m X := h.same k.size fun i hi => k.block i (h.lt i hi)
theorem Pg.alloc (h : Pg w G b n D m X) (o : Obj) : Pg (w.alloc o) G b n D m X := h.under ((Below.refl _ _).alloc (Nat.le_refl _) o)
theorem Pg.drewN (h : Pg w G b n D m X) (q : Nat) : Pg (w.drewN q) G b n D m X := h.same (Nat.le_refl _) fun _ _ => rfl
theorem Pg.mono {n' : Nat} (h : Pg w G b n D m X) (hn : n ≤ n') : Pg w G b n' D m X := ⟨h.own.mono hn, h.gb, h.lt, h.full, h.pg, h.inj, h.no, h.cel⟩
theorem Pg.wide {X' : Nat → Prop} (h : Pg w G b n D m X) (hX : ∀ k, X k → X' k) : Pg w G b n D m X' :=
  ⟨h.own, h.gb, h.lt, h.full, fun k g hk => by obtain ⟨h1, h2, h3, h4, h5⟩ := h.pg k g hk; exact ⟨h1, h2, h3, h4, fun hx => h5 fun e => hx (hX k e)⟩, h.inj, h.no, h.cel⟩
theorem Pg.congr {m' : Bytes8} (h : Pg w G b n D m X) (hm : ∀ a, m' a = m a) : Pg w G b n D m' X := by
  obtain rfl : m' = m := funext hm
  exact h
theorem Pg.look (h : Pg w G b n D m X) {k : Nat} (hk : k < 18446744073709551616) :
    (Instr.lookup 85 (.map (some b)) (.int .u64 (k : Int)) false).run Try.prog w = .ok (pval (pm D k)) w := pm_look h.own hk
theorem Pg.ne (h : Pg w G b n D m X) {k g : Nat} (hk : pm D k = some g) : g ≠ b := by
  obtain ⟨es, clock, hb, _⟩ := h.own
  have := (h.pg k g hk).2.2.2.1
  rintro rfl
  unfold Arr at this
  rw [hb] at this
  cases this
/-- A page is written. -/
theorem Pg.store (h : Pg w G b n D m X) {k g : Nat} (hk : pm D k = some g) {m' : Bytes8} (hm : ∀ a, ¬ (k ≤ a ∧ a < k + 4096) → m' a = m a) :
    Pg (w.setRow g (vec 4096 (bys fun i => m' (k + i)))) G b n D m' (fun j => X j ∨ j = k) := by
  obtain ⟨g1, g2, g3, g4, g5⟩ := h.pg k g hk
  have hgb := h.ne hk
  obtain ⟨es, clock, hb, r⟩ := h.own
  refine ⟨⟨es, clock, ?_, r⟩, h.gb, fun i hi => by have := h.lt i hi; simpa [World.setRow] using this, h.full, fun j gj hj => ?_, h.inj, fun j hj1 hj2 i hi => ?_, fun i hi hib => ?_⟩
  · rw [← hb]; simp [World.setRow, Array.getElem?_modify, hgb]
  · obtain ⟨j1, j2, j3, j4, j5⟩ := h.pg j gj hj
    by_cases e : j = k
    · subst e
      obtain rfl : gj = g := by rw [hk] at hj; exact (Option.some.inj hj).symm
      exact ⟨j1, j2, j3, g4.row _, fun hx => absurd (Or.inr rfl) hx⟩
    · have hne : gj ≠ g := fun e2 => e (h.inj j k g (e2 ▸ hj) hk)
      have hoff : ∀ i, i < 4096 → m' (j + i) = m (j + i) := fun i hi => hm _ (by omega)
      refine ⟨j1, j2, j3, (j4.rowFar hne _).congr fun i hi => by simp only [bys]; rw [hoff i hi], fun hx => ?_⟩
      obtain ⟨i, hi, hv⟩ := j5 fun e2 => hx (Or.inl e2)
      exact ⟨i, hi, by rw [hoff i hi]; exact hv⟩
  · have e : j ≠ k := fun e => by subst e; rw [hk] at hj2; cases hj2
    rw [hm _ (by omega)]; exact h.no j hj1 hj2 i hi
  · by_cases e : i = g
    · subst e; exact ⟨_, g4.row _, rfl⟩
    · obtain ⟨o, ho, hc⟩ := h.cel i hi hib
      exact ⟨o, by rw [← ho]; simp [World.setRow, Array.getElem?_modify, Ne.symm e], hc⟩
/-- A page is laid: still all 0. -/
theorem Pg.put (h : Pg w G b n D m noX) {k : Nat} (hk4 : k % 4096 = 0) (hk : k < 18446744073709551616) (hno : pm D k = none) {w1 w2 : World} {g : Nat} (hg : g = w.heap.size)
    (h1 : w1 = w.alloc (.cells (vec 4096 (bys fun _ => 0)) 134)) (h2 : w2.ownsMap Try.prog 22 ptrR b (n + 1) (D.put (klit k) (.lit (.int .i64 (g : Int))))) (h3 : w1.mapTurned w2 b) :
    Pg w2 (fun i => G i ∨ i = g) b (n + 1) (D.put (klit k) (.lit (.int .i64 (g : Int)))) m (fun j => j = k) := by
  subst h1
  have hs := h3.grown
  have hbl := h.lt b h.gb
  have hnew : Arr w2 g 134 4096 (bys fun _ => 0) := (Arr.newAt w _ 4096 (bys fun _ => 0) hg).grown hs (by simp; omega)
  have same : ∀ i, G i → i ≠ b → w2.heap[i]? = w.heap[i]? := fun i hi hne => (hs.block i (by have := h.lt i hi; simp; omega) (by simp [hne])).trans (Below.heap_alloc w _ i (h.lt i hi))
  have hz := hs.size
  simp only [World.size_alloc] at hz
  have hfresh : ∀ j gj, pm D j = some gj → gj ≠ g := fun j gj hj e => by have := h.lt gj (h.pg j gj hj).1; omega
  refine ⟨h2, Or.inl h.gb, fun i hi => ?_, fun l hl => ?_, fun j gj hj => ?_, fun j j' gj hj hj' => ?_, fun j hj1 hj2 i hi => ?_, fun i hi hib => ?_⟩
  · rcases hi with hi | rfl
    · have := h.lt i hi; omega
    · omega
  · by_cases e : l = klit k
    · exact ⟨k, g, e, pm_put_same h.own.isMap hk g⟩
    · rw [has_put_other e] at hl
      obtain ⟨j, gj, rfl, hj⟩ := h.full l hl
      exact ⟨j, gj, rfl, by rw [pm_put_other (fun e2 => e (by rw [e2]))]; exact hj⟩
  · by_cases e : j = k
    · subst e
      rw [pm_put_same h.own.isMap hk g] at hj
      cases hj
      refine ⟨Or.inr rfl, hk4, hk, hnew.congr fun i hi => by simp only [bys]; rw [h.no j hk4 hno i hi], fun hx => absurd rfl hx⟩
    · rw [pm_put_other e] at hj
      obtain ⟨j1, j2, j3, j4, j5⟩ := h.pg j gj hj
      exact ⟨Or.inl j1, j2, j3, (same gj j1 (h.ne hj)).trans j4, fun _ => j5 id⟩
  · by_cases e : j = k
    · subst e
      rw [pm_put_same h.own.isMap hk g] at hj
      cases hj
      by_cases e' : j' = j
      · exact e'.symm
      · rw [pm_put_other e'] at hj'
        exact absurd rfl (hfresh _ _ hj')
    · rw [pm_put_other e] at hj
      by_cases e' : j' = k
      · subst e'
        rw [pm_put_same h.own.isMap hk g] at hj'
        cases hj'
        exact absurd rfl (hfresh _ _ hj)
      · rw [pm_put_other e'] at hj'
        exact h.inj j j' gj hj hj'
  · by_cases e : j = k
    · subst e
      rw [pm_put_same h.own.isMap hk g] at hj2; cases hj2
    · rw [pm_put_other e] at hj2
      exact h.no j hj1 hj2 i hi
  · rcases hi with hi | rfl
    · obtain ⟨o, ho, hc⟩ := h.cel i hi hib
      exact ⟨o, (same i hi hib).trans ho, hc⟩
    · exact ⟨_, hnew, rfl⟩
/-- A page that is all 0 is forgotten. -/
theorem Pg.del {k : Nat} (h : Pg w G b n D m (fun j => j = k)) (hz : ∀ i, i < 4096 → m (k + i) = 0) (h2 : w'.ownsMap Try.prog 22 ptrR b n (D.del (klit k))) (h3 : w.mapTurned w' b) :
    Pg w' G b n (D.del (klit k)) m noX := by
  have hs := h3.grown
  have same : ∀ i, G i → i ≠ b → w'.heap[i]? = w.heap[i]? := fun i hi hne => hs.block i (h.lt i hi) (by simp [hne])
  refine ⟨h2, h.gb, fun i hi => Nat.lt_of_lt_of_le (h.lt i hi) hs.size, fun l hl => ?_, fun j gj hj => ?_, fun j j' gj hj hj' => ?_, fun j hj1 hj2 i hi => ?_, fun i hi hib => by obtain ⟨o, ho, hc⟩ := h.cel i hi hib; exact ⟨o, (same i hi hib).trans ho, hc⟩⟩
  · have e : l ≠ klit k := fun e => by rw [e, has_del_same] at hl; cases hl
    rw [has_del_other e] at hl
    obtain ⟨j, gj, rfl, hj⟩ := h.full l hl
    exact ⟨j, gj, rfl, by rw [pm_del_other (fun e2 => e (by rw [e2]))]; exact hj⟩
  · have e : j ≠ k := fun e => by subst e; rw [pm_del_same] at hj; cases hj
    rw [pm_del_other e] at hj
    obtain ⟨j1, j2, j3, j4, j5⟩ := h.pg j gj hj
    exact ⟨j1, j2, j3, (same gj j1 (h.ne hj)).trans j4, fun _ => j5 e⟩
  · have e : j ≠ k := fun e => by subst e; rw [pm_del_same] at hj; cases hj
    have e' : j' ≠ k := fun e => by subst e; rw [pm_del_same] at hj'; cases hj'
    rw [pm_del_other e] at hj
    rw [pm_del_other e'] at hj'
    exact h.inj j j' gj hj hj'
  · by_cases e : j = k
    · subst e; exact hz i hi
    · rw [pm_del_other e] at hj2
      exact h.no j hj1 hj2 i hi
theorem Pg.clean {k : Nat} (h : Pg w G b n D m (fun j => j = k)) (hz : ∃ i, i < 4096 ∧ m (k + i) ≠ 0) : Pg w G b n D m noX :=
  ⟨h.own, h.gb, h.lt, h.full, fun j g hj => by
    obtain ⟨h1, h2, h3, h4, h5⟩ := h.pg j g hj
    refine ⟨h1, h2, h3, h4, fun _ => ?_⟩
    by_cases e : j = k
    · subst e; exact hz
    · exact h5 e, h.inj, h.no, h.cel⟩
theorem Pg.made (w : World) : Pg (w.alloc (.map #[] 0)) (fun i => i = w.heap.size) w.heap.size 0 (.map []) (fun _ => 0) noX :=
  ⟨World.ownsMap_made _ _ _ _, rfl, fun i hi => by simp; omega, (fun l hl => by simp [Maps.has] at hl), (fun k g hk => by cases hk), (fun k k' g hk => by cases hk), (fun _ _ _ _ _ => rfl), fun i hi hb => absurd hi hb⟩
/-- What a round of a range may take for granted. -/
theorem Pg.own_from {B : Nat} {row : Option Nat} (h : Pg w G b n D m X) (hb : b < B) (hg : w.grownBy w' row) (hr : ∀ r, row = some r → B ≤ r ∧ ∃ o : Obj, w.heap[r]? = some o ∧ o.isCells = false) : Pg w' G b n D m X :=
  h.same hg.size fun i hi => hg.block i (h.lt i hi) fun e => by
    obtain ⟨h1, o, ho, hc⟩ := hr i e.symm
    obtain ⟨o', ho', hc'⟩ := h.cel i hi (by omega)
    rw [ho] at ho'
    cases ho'
    rw [hc] at hc'
    cases hc'
theorem Pg.keeps {B : Nat} (h : Pg w G b n D m X) (hb : b < B) (ht : Turn G w w') : KeepsFrom B w w' :=
  ⟨ht.size, fun k o hk ho hc => (ht.block k (Array.getElem?_eq_some_iff.1 ho).1 fun hg => by
    obtain ⟨o', ho', hc'⟩ := h.cel k hg (by omega)
    rw [ho] at ho'
    cases ho'
    rw [hc] at hc'
    cases hc').trans ho⟩
theorem Turn.own_from {B : Nat} {V : World} {H : Nat → Prop} {row : Option Nat} (h : Turn H V w) (hB : V.heap.size ≤ B) (hg : w.grownBy w' row) (hr : ∀ r, row = some r → B ≤ r) : Turn H V w' :=
  ⟨hg.os.trans h.os, hg.tape.trans h.tape, hg.output.trans h.output, Nat.le_trans h.size hg.size, fun k hk hn => (hg.block k (Nat.lt_of_lt_of_le hk h.size) fun e => by have := hr k e.symm; omega).trans (h.block k hk hn)⟩
end

/-! A page against one that is all 0. -/
def pageZ (f : Bytes8) : Bool := (List.range 4096).all fun i => f i == 0
theorem pageZ_iff (f : Bytes8) : pageZ f = true ↔ ∀ i, i < 4096 → f i = 0 := by simp [pageZ]
theorem pageZ_no (f : Bytes8) : pageZ f = false ↔ ∃ i, i < 4096 ∧ f i ≠ 0 := by
  rw [← Bool.not_eq_true, pageZ_iff]
  constructor
  · intro h
    refine Classical.byContradiction fun hn => h fun i hi => Classical.byContradiction fun he => hn ⟨i, hi, he⟩
  · rintro ⟨i, hi, he⟩ h
    exact he (h i hi)
theorem eq_itemsP (f g : Bytes8) (d : Nat) (w : World) : ∀ is : List Nat, (∀ i ∈ is, i < 4096) → (Op.eqItems (d + 1) 5 1 (vec 4096 (bys f)) (vec 4096 (bys g)) is).run Try.prog w = .ok (is.all fun i => f i == g i) w
  | [], _ => by simp [Op.eqItems]
  | i :: is, h => by
    have ih := eq_itemsP f g d w is (fun j hj => h j (by simp [hj]))
    have hv := vec_at 4096 (bys f) i (h i (by simp))
    have hu := vec_at 4096 (bys g) i (h i (by simp))
    have hp : (Go.part 5 (vec 4096 (bys f)) (i * 1)).run Try.prog w = .ok (bys f i) w := by
      simp [Go.part, go_sem, Try.isAgg5, Try.sizeOf5, hv]
    have hq : (Go.part 5 (vec 4096 (bys g)) (i * 1)).run Try.prog w = .ok (bys g i) w := by
      simp [Go.part, go_sem, Try.isAgg5, Try.sizeOf5, hu]
    have he : (Op.equalIn (d + 1) 5 (bys f i) (bys g i)).run Try.prog w = .ok (f i == g i) w := by
      have := run_equalIn_int (P := Try.prog) w d 5 .u8 .u8 ((f i).toNat : Int) ((g i).toNat : Int) Try.underlying5
      have e : (((f i).toNat : Int) == ((g i).toNat : Int)) = (f i == g i) := by
        by_cases hx : f i = g i
        · simp [hx]
        · have hn : ¬ (f i).toNat = (g i).toNat := fun hh => hx (UInt8.toNat_inj.1 hh)
          have h1 : ((f i) == (g i)) = false := by simp [hx]
          have h2 : (((f i).toNat : Int) == ((g i).toNat : Int)) = false := by simp; omega
          rw [h1, h2]
      rw [e] at this
      exact this
    simp only [Op.eqItems, Sem.run_bind, hp, hq, Result.andThen_ok, he, List.all_cons]
    cases hx : (f i == g i)
    · simp
    · simp only [Bool.true_and]; exact ih
theorem equalInP (f g : Bytes8) (w : World) : (Op.equalIn 10000 134 (.agg (vec 4096 (bys f))) (.agg (vec 4096 (bys g)))).run Try.prog w = .ok ((List.range 4096).all fun i => f i == g i) w := by
  obtain ⟨i, hi, hs⟩ : ∃ i, Try.prog.info? 5 = some i ∧ i.size = 1 := by
    have h : (Try.prog.info? 5).map (·.size) = some 1 := by kernel_rfl
    cases hq : Try.prog.info? 5 with
    | none => simp [hq] at h
    | some i => exact ⟨i, rfl, by simpa [hq] using h⟩
  have := run_equalIn_array (P := Try.prog) w 9999 (vec 4096 (bys f)) (vec 4096 (bys g)) Try.underlying134 hi
  have hc : Try.prog.cellsOf 5 = 1 := by kernel_rfl
  rw [hc, eq_itemsP f g 9998 w (List.range 4096) (fun i hi => List.mem_range.1 hi)] at this
  exact this
theorem eqlP (f g : Bytes8) (w : World) : (binOp .eql 134 (.agg (vec 4096 (bys f))) (.agg (vec 4096 (bys g)))).run Try.prog w = .ok (.bool ((List.range 4096).all fun i => f i == g i)) w := by
  rw [run_eql_struct, equalInP]; rfl
theorem eqgP (op : BinOp) (x y : Operand) (f g : Bytes8) (w : World) : (eqGuard op 134 x y (.agg (vec 4096 (bys f))) (.agg (vec 4096 (bys g)))).run Try.prog w = .ok () w :=
  run_eqGuard_agg w op 134 x y _ _ (by kernel_rfl)
theorem exec_eqlP {o : Oper} {a : Act} (x y : Operand) (t : TypeId) (ho : o.op = .binOp .eql 134 x y t) (f g : Bytes8) (hx : a.eval x = .agg (vec 4096 (bys f))) (hy : a.eval y = .agg (vec 4096 (bys g))) (w : World) :
    (execOp a.eval o).run Try.prog w = .ok (.value (.bool ((List.range 4096).all fun i => f i == g i))) w := by
  unfold execOp
  simp only [ho, hx, hy, Sem.run_bind, Sem.run_pure, eqgP, eqlP, Result.andThen_ok]
theorem infoP : (Try.prog.info? 134).map (·.size) = some 4096 := by kernel_rfl
theorem zeroPg (w : World) : (zeroValue 134).run Try.prog w = .ok (.agg (vec 4096 (bys fun _ => 0))) w :=
  (zero_of_info (P := Try.prog) (t := 134) (v := .agg (vec 4096 (bys fun _ => 0))) (n := 4096) (by kernel_rfl)).1 w
theorem builtP : Try.prog.built 134 [] = some (vec 4096 (bys fun _ => 0)) := by kernel_rfl
end Go.Proofs.Ytbemphfijkcbhaa
