/- Slices cut; five results; what Split answers. -/
import Derived.Test.YtgoblolbkchggaaDoorHo
namespace Go.Proofs.YtgoblolbkchggaaDoor
open Go.RowKit

/-- Where a slice begins that is cut at k. -/
def cutA (B : Addr) (d k : Nat) : Addr := if d = k then B else B.add k
section
variable {P : Program} {w : World}
theorem u8_elem : Tryd.prog.underlying 27 = some (.slice (Tryd.prog.elem 27)) := by kernel_rfl
theorem u8_size (W : World) : (sizeOf (Tryd.prog.elem 27)).run Tryd.prog W = .ok 1 W := by kernel_rfl
set_option maxRecDepth 100000 in
theorem slice_lo (B : Addr) (N d k : Nat) (hk : k ≤ N) (W : World) : (Instr.sliceAt 27 (.slice (some B) N d) (some (.int .i64 (k : Int))) none none).run Tryd.prog W = .ok (.slice (some (cutA B d k)) (N - k) (d - k)) W := by
  rw [run_sliceAt_slice W _ _ _ _ _ u8_elem, run_slice_l W _ _ _ _ u8_elem .i64 (k : Int) (by omega) (by omega), u8_size]
  simp only [Result.andThen_ok, sliced, Int.toNat_natCast, Nat.mul_one]
  unfold cutA
  by_cases hdk : d = k
  · rw [if_pos hdk, if_pos hdk]
  · rw [if_neg hdk, if_neg hdk]; rfl
set_option maxRecDepth 100000 in
theorem slice_lh (B : Addr) (N d k m : Nat) (hk : k ≤ m) (hm : m ≤ N) (hd : N ≤ d) (W : World) : (Instr.sliceAt 27 (.slice (some B) N d) (some (.int .i64 (k : Int))) (some (.int .i64 (m : Int))) none).run Tryd.prog W = .ok (.slice (some (cutA B d k)) (m - k) (d - k)) W := by
  rw [run_sliceAt_slice W _ _ _ _ _ u8_elem, run_slice_lh W _ _ _ _ u8_elem .i64 .i64 (k : Int) (m : Int) (by omega) (by omega) (by omega), u8_size]
  simp only [Result.andThen_ok, sliced, Int.toNat_natCast, Nat.mul_one]
  unfold cutA
  by_cases hdk : d = k
  · rw [if_pos hdk, if_pos hdk]
  · rw [if_neg hdk, if_neg hdk]; rfl
set_option maxRecDepth 100000 in
theorem slice_hi (B : Addr) (N d m : Nat) (hm : m ≤ N) (hd : N ≤ d) (W : World) : (Instr.sliceAt 27 (.slice (some B) N d) none (some (.int .i64 (m : Int))) none).run Tryd.prog W = .ok (.slice (some B) m d) W := by
  rw [run_sliceAt_slice W _ _ _ _ _ u8_elem, run_slice_h W _ _ _ _ u8_elem .i64 (m : Int) (by omega) (by omega), u8_size]
  simp [Result.andThen_ok, sliced, Addr.add]
theorem exec_slice_lo {o : Oper} {a : Act} (t : TypeId) (x lo : Operand) (ho : o.op = .slice t x (some lo) none none) (vx vl : Value) (hx : a.eval x = vx) (hl : a.eval lo = vl) {v : Value} (hr : (Instr.sliceAt t vx (some vl) none none).run P w = .ok v w) :
    (execOp a.eval o).run P w = .ok (.value v) w := by
  unfold execOp
  simp only [ho, Option.map_none, Option.map_some, hx, hl, Sem.run_bind, hr, Result.andThen_ok, Sem.run_pure]
theorem exec_slice_hi {o : Oper} {a : Act} (t : TypeId) (x hi : Operand) (ho : o.op = .slice t x none (some hi) none) (vx vh : Value) (hx : a.eval x = vx) (hh : a.eval hi = vh) {v : Value} (hr : (Instr.sliceAt t vx none (some vh) none).run P w = .ok v w) :
    (execOp a.eval o).run P w = .ok (.value v) w := by
  unfold execOp
  simp only [ho, Option.map_none, Option.map_some, hx, hh, Sem.run_bind, hr, Result.andThen_ok, Sem.run_pure]
theorem exec_slice_lh {o : Oper} {a : Act} (t : TypeId) (x lo hi : Operand) (ho : o.op = .slice t x (some lo) (some hi) none) (vx vl vh : Value) (hx : a.eval x = vx) (hl : a.eval lo = vl) (hh : a.eval hi = vh) {v : Value} (hr : (Instr.sliceAt t vx (some vl) (some vh) none).run P w = .ok v w) :
    (execOp a.eval o).run P w = .ok (.value v) w := by
  unfold execOp
  simp only [ho, Option.map_none, Option.map_some, hx, hl, hh, Sem.run_bind, hr, Result.andThen_ok, Sem.run_pure]
end
theorem cutA_of {B : Addr} {d k : Nat} (h : d ≠ k) : cutA B d k = B.add k := by unfold cutA; rw [if_neg h]
theorem lies_from {w : World} {B N c k : Nat} {a : Addr} {l : By} (h : Lies w B 1 (some a) N (u8s l)) (hl : l.length = N) (hk : k ≤ N) (hc : N ≤ c) : Lies w B 1 (some (cutA a c k)) (N - k) (u8s (l.drop k)) := by
  by_cases h0 : N = k
  · refine ⟨by rw [u8s_length, List.length_drop]; omega, fun hn => absurd hn (by omega)⟩
  · rw [cutA_of (show c ≠ k by omega)]
    have := lies_sub h k (N - k) (by omega)
    rwa [List.take_of_length_le (by rw [List.length_drop]; omega)] at this
theorem results_c4 {fn : Func} {p q1 q2 q3 q4 : Tmp} {ty : TypeId} {P : Program} {w : World} (h : fn.results = #[.cell p ty, .tmp q1, .tmp q2, .tmp q3, .tmp q4]) (tmps : Array Value) (g : Nat) (v : Value)
    (ha : tmps.getD p undef = .pointer (some ⟨g, 0, none⟩)) (hl : (loadVar ty ⟨g, 0, none⟩).run P w = .ok v w) : (results fn tmps).run P w = .ok (.tuple #[v, tmps.getD q1 undef, tmps.getD q2 undef, tmps.getD q3 undef, tmps.getD q4 undef]) w := by
  have hp' : tmps[p]?.getD undef = .pointer (some ⟨g, 0, none⟩) := by simpa using ha
  simp [results, h, hp', asAddr, hl]
/-- A value that is a slice of these bytes. -/
def SliB (w : World) (v : Value) (l : By) : Prop := ∃ A c, v = .slice A l.length c ∧ l.length ≤ c ∧ Lies w w.heap.size 1 A l.length (u8s l)
/-- What Split answers. -/
def SpP (o : Except Nat (Hd × By × By × By)) (w : World) (e : Ending) (w' : World) : Prop := (match o with
  | .error n => e = .returned (.tuple #[.agg (vec 35 (hdF zHd)), .slice none 0 0, .slice none 0 0, .slice none 0 0, .int .i64 (n : Int)])
  | .ok x => ∃ v1 v2 v3, e = .returned (.tuple #[.agg (vec 35 (hdF x.1)), v1, v2, v3, .int .i64 0]) ∧ SliB w' v1 x.2.1 ∧ SliB w' v2 x.2.2.1 ∧ SliB w' v3 x.2.2.2) ∧ Below w.heap.size w w'
theorem OwnE.sli {w : World} {base : Nat} {v : Value} {l : By} (h : OwnB w base v l) : SliB w v l := h.lies
theorem split_no {b : By} {oid : Nat} (h : isO oid = false) : splitP b oid = .error 80 := by unfold splitP; rw [if_pos h]
theorem split_len {b : By} {oid : Nat} (h : isO oid = true) (hl : b.length < 64 + sigN oid) : splitP b oid = .error 150 := by unfold splitP; rw [if_neg (by rw [h]; decide), if_pos hl]
theorem split_is {b : By} {oid : Nat} (h : isO oid = true) (hl : ¬ b.length < 64 + sigN oid) : splitP b oid = if isH (b.take 64) = true then (if decide (((b.length - 64 - sigN oid : Nat) : Int) = (readH (b.take 64)).size) = true then .ok (readH (b.take 64), b.take 64, cutB b 64 (sigN oid), b.drop (64 + sigN oid)) else .error 150) else .error 150 := by
  unfold splitP
  rw [if_neg (by rw [h]; decide), if_neg hl]
  by_cases hi : isH (b.take 64) = true
  · rw [ofH_yes hi, if_pos hi]
    by_cases hs : ((b.length - 64 - sigN oid : Nat) : Int) = (readH (b.take 64)).size
    · rw [if_pos (decide_eq_true hs)]; show (if _ then _ else _) = _; rw [if_pos hs]
    · rw [if_neg (by simpa using hs)]; show (if _ then _ else _) = _; rw [if_neg hs]
  · rw [ofH_no (by simpa using hi), if_neg hi]
end Go.Proofs.YtgoblolbkchggaaDoor
