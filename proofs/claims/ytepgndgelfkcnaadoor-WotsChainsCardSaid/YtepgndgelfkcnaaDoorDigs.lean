/- wots.Digits. -/
import Derived.Test.YtepgndgelfkcnaaDoorIter
namespace Go.Proofs.YtepgndgelfkcnaaDoor
open Go.RowKit Go.Shelf
attribute [local go_sem] Oper.semAt_some

def ints (d : Nat → Nat) : Nat → Value := fun i => .int .i64 (d i : Int)
theorem ints_one (d : Nat → Nat) (n : Nat) : ∀ i, i < n → (ints d i).oneCell' = true := fun _ _ => rfl
theorem ints_upd (d : Nat → Nat) (i x : Nat) : upd (ints d) i (.int .i64 (x : Int)) = ints (upd d i x) := by
  funext j; by_cases e : j = i <;> simp [upd, ints, e]
def putD (pre : List CD) : Nat → Nat := pre.foldl (fun f x => upd f x.1.1 x.1.2) fun _ => 0
theorem putD_snoc (pre : List CD) (x : CD) : putD (pre ++ [x]) = upd (putD pre) x.1.1 x.1.2 := by simp [putD]
theorem putD_cds (d : Nat → Nat) (h : ∀ i, d i ≤ 15) (k : Nat) (hk : k ≤ 67) (i : Nat) : putD (cds d h k) i = if i < k then d i else 0 := by
  induction k with
  | zero => simp [cds, putD]
  | succ k ih =>
    rw [cds_succ, putD_snoc, cdOf_val (by omega)]
    by_cases e : i = k
    · subst e; simp [upd]
    · rw [upd_ne _ _ _ _ e, ih (by omega)]
      by_cases hlt : i < k
      · rw [if_pos hlt, if_pos (by omega)]
      · rw [if_neg hlt, if_neg (by omega)]
def z67 : Nat → Nat := fun _ => 0
theorem info67 : (Tryd.prog.info? 32).map (·.size) = some 67 := by kernel_rfl
theorem zeroV67 (w : World) : (zeroValue 32).run Tryd.prog w = .ok (.agg (vec 67 (ints z67))) w :=
  (zero_of_info (P := Tryd.prog) (t := 32) (v := .agg (vec 67 (ints z67))) (n := 67) (by kernel_rfl)).1 w
attribute [local go_sem ↓ high] zeroV26 zeroV67
theorem arr_own {β : Type} (B g n : Nat) (t : TypeId) (f : β → Nat → Value) : OwnFrom B (fun s W => Arr W g t n (f s)) := fun s X Y row hs hg hr => hs.grown hg fun e => by
  obtain ⟨_, o, ho, hc⟩ := hr g e.symm
  rw [show X.heap[g]? = _ from hs] at ho
  cases ho
  cases hc
theorem Arr.putObj {w : World} {g n l : Nat} {t : TypeId} {f : Nat → Value} {o : Obj} (h : Arr w g t n f) (o' : Obj) (hl : w.heap[l]? = some o) (ho : o.isCells = false) : Arr (w.putObj l o') g t n f :=
  h.grown (grownBy_putObj' w l o') fun e => by
    obtain rfl : g = l := Option.some.inj e
    rw [show w.heap[g]? = _ from h] at hl
    cases hl
    cases ho

set_option maxRecDepth 100000 in
set_option maxHeartbeats 2000000 in
theorem digitsW_any (m : Nat → UInt8) (w : World) :
    Calls Tryd.prog 20 #[.agg (vec 32 (bys m))] w fun e w' => e = .returned (.agg (vec 67 (ints (digN m)))) ∧ Below w.heap.size w w' := by
  refine (callsIn_wide (n := 10)).1 ?_
  refine callsIn_of_wp_marks Tryd.func20 rfl trivial ?_ rfl
  simp only [Tryd.ntmps20, List.size_toArray, List.length_cons, List.length_nil, Nat.reduceAdd, Nat.reduceSub, Array.replicate_succ, Array.replicate_zero, List.push_toArray, List.append_toArray, List.nil_append, List.cons_append]
  gi_wp2_with (first
    | ((with_reducible show wpListIn _ _ _ _ _ (Oper.mk _ (.load _ _) _ _ _ _ :: _) _ _); refine wli_load rfl 23 _ rfl _ rfl _ (run_load_arr (((Arr.new w _ _ _).alloc _).alloc _) Tryd.underlying23 rfl info26) ?_)
    | (refine ⟨trivial, ?_⟩
       gi_at_call 28
       refine (callsIn_wide.2 (digits_any m _)).mono ?_
       rintro e w1 ⟨rfl, rfl⟩))
  obtain ⟨V, hV⟩ : ∃ V, V = (((w.alloc (.cells (vec 32 (bys m)) 23)).alloc (.cells (vec 67 (ints z67)) 32)).alloc (.cells (vec 67 (ints z67)) 32)).alloc (.cells (vec 32 (bys m)) 23) := ⟨_, rfl⟩
  have hR : Arr V (w.heap.size + 1) 32 67 (ints z67) := by rw [hV]; exact ((Arr.newAt _ _ _ _ (by simp)).alloc _).alloc _
  have hA : Arr V (w.heap.size + 1 + 1) 32 67 (ints z67) := by rw [hV]; exact (Arr.newAt _ _ _ _ (by simp)).alloc _
  have hM : Arr V (w.heap.size + 1 + 1 + 1) 23 32 (bys m) := by rw [hV]; exact Arr.newAt _ _ _ _ (by simp)
  have hB : Below w.heap.size w V := by rw [hV]; exact (((((Below.refl _ _).alloc (by simp <;> omega) _).alloc (by simp <;> omega) _).alloc (by simp <;> omega) _).alloc (by simp <;> omega) _)
  have hsz : V.heap.size = w.heap.size + 4 := by rw [hV]; simp
  rw [← hV]
  clear hV
  refine wpIn_rangeFunc_ownH rfl (by omega) (gf := 38) (lb := #[.pointer (some ⟨w.heap.size + 1 + 1 + 1, 0, none⟩)]) rfl trivial (by intro args W; rfl) (digits_stops _ (by omega) (w.heap.size + 1 + 1 + 1) m V hM)
    KB.trans (fun W l o o' hl _ _ _ => KB.putObj _ (by omega)) (Below.refl _ _) (fun _ => rfl)
    (fun pre W => Arr W (w.heap.size + 1 + 1) 32 67 (ints (putD pre)) ∧ Arr W (w.heap.size + 1) 32 67 (ints z67) ∧ Below w.heap.size w W)
    (fun _ _ _ => False)
    ((arr_own _ _ _ _ _).and ((arr_own _ _ _ _ _).and (ownFrom_below (Nat.le_refl _) (by omega))))
    (fun _ _ _ _ _ hs _ _ => hs)
    ⟨hA, hR, hB⟩
    (fun x a' _ => a' = { tmps := #[.agg (vec 32 (bys m)), .pointer (some ⟨w.heap.size, 0, none⟩), .pointer (some ⟨w.heap.size + 1, 0, none⟩), .pointer (some ⟨w.heap.size + 1 + 1, 0, none⟩), .int .i64 (x.1.1 : Int), .int .i64 (x.1.2 : Int), .agg (vec 32 (bys m)), .func (.func 38) #[] #[.pointer (some ⟨w.heap.size + 1 + 1 + 1, 0, none⟩)], .int .i64 (x.1.1 : Int), .int .i64 (x.1.2 : Int), undef, undef, undef, undef], defers := [] })
    (fun _ _ _ _ _ _ hs _ _ => hs)
    ?assign ?body ?done ?stop
  case assign =>
    rintro l pre ⟨⟨c, d⟩, hx⟩ W K hI hK
    unfold encCD
    gi_wp2
    exact hK _ _ (KeepsFrom.refl _ _) (KB.refl _ _) hI rfl
  case body =>
    rintro l pre ⟨⟨c, d⟩, hx⟩ a' W hl ⟨r, hr⟩ hI rfl hlt
    have hx1 : c < 67 := hx.1
    have hc := hI.1.cell (i := c) hx1
    have hf := hI.1.frozen c
    have HI := Lib.hid hI
    clear hI
    gi_wp2
    have h1 := HI.out.1.set c (.int .i64 (d : Int))
    rw [ints_upd] at h1
    refine ⟨(KeepsOthers.setCell _ _ _).from _, ⟨((Below.refl 0 W).setCell (Nat.zero_le _) _).size, Below.heap_setCell W ⟨w.heap.size + 1 + 1, c, none⟩ _ _ (show w.heap.size + 1 + 1 + 1 ≠ w.heap.size + 1 + 1 by omega)⟩, ?_, HI.out.2.1.far (p := ⟨w.heap.size + 1 + 1, c, none⟩) (show w.heap.size + 1 ≠ w.heap.size + 1 + 1 by omega) _, HI.out.2.2.setCell (show w.heap.size ≤ w.heap.size + 1 + 1 by omega) _⟩
    rw [putD_snoc]
    exact h1
  case done =>
    rintro D ys W hD rfl ⟨h1, h2, h3⟩ hK
    have h1 : Arr W (w.heap.size + 1 + 1) 32 67 (ints (digN m)) := h1.congr fun i hi => by
      unfold ints; rw [putD_cds _ _ _ (Nat.le_refl _), if_pos hi]
    gi_wp2_with (first
      | ((with_reducible show wpListIn _ _ _ _ _ (Oper.mk _ (.load _ _) _ _ _ _ :: _) _ _); refine wli_load rfl 32 _ rfl _ rfl _ (run_load_arr h1 Tryd.underlying32 rfl info67) ?_)
      | ((with_reducible show wpListIn _ _ _ _ _ (Oper.mk _ (.store _ _ _) _ _ _ _ :: _) _ _); refine wli_store rfl 32 _ _ rfl _ rfl _ rfl (run_store_arr h2 (ints (digN m)) info67 (ints_one _ _)) ?_))
    have hK2 : (W.setRow (w.heap.size + 1) (vec 67 (ints (digN m)))).heap[D]? = some (.deferred (some [])) := by
      rw [← hK]; simp [World.setRow, Array.getElem?_modify, show w.heap.size + 1 ≠ D by omega]
    refine ⟨by simp, .inl ⟨_, _, rfl, run_takeDeferred hK2, ?_⟩⟩
    exact ⟨_, results_cell1 rfl _ _ _ rfl (run_load_arr ((h2.row _).putObj _ hK2 rfl) Tryd.underlying32 rfl info67), rfl, (below_row h3 (by omega) _).trans (belowK_b (w := w) (Nat.le_refl _) _ D _ _ (by omega) hK2 rfl rfl)⟩
  case stop =>
    rintro D c pre W _ _ h _
    exact h.elim
end Go.Proofs.YtepgndgelfkcnaaDoor
