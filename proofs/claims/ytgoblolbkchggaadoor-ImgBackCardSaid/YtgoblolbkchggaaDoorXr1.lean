/- The reference's reader: bytes, how far they are read, its first error: fail, take, number, wide. -/
import Derived.Test.YtgoblolbkchggaaDoorMb
import Derived.Test.YtgoblolbkchggaaDoorMo
import Derived.BigQuiet
namespace Go.Proofs.YtgoblolbkchggaaDoor
open Go.RowKit

def erN : Option (Nat × Nat) → Nat
  | none => 0
  | some x => x.1
def plN : Option (Nat × Nat) → Nat
  | none => 0
  | some x => x.2
def rdF (A : Option Addr) (n c at_ e pl : Nat) : Nat → Value := fun i => if i = 0 then .slice A n c else if i = 1 then .int .i64 (at_ : Int) else if i = 2 then .int .i64 (e : Int) else .int .i64 (pl : Int)
/-- Block g holds a reader of b in the state st. -/
structure RQ (w : World) (g : Nat) (A : Option Addr) (c : Nat) (b : By) (st : Rs) : Prop where
  arr : Arr w g 60 4 (rdF A b.length c st.at_ (erN st.err) (plN st.err))
  lies : Lies w g 1 A b.length (u8s b)
  cap : b.length ≤ c
  len : b.length ≤ 65536
  at_ : st.at_ ≤ b.length
  err : ∀ x, st.err = some x → x.1 ≠ 0
def Rs.fail (st : Rs) (e pl : Nat) : Rs := match st.err with
  | none => ⟨st.at_, some (e, pl)⟩
  | some _ => st
section
variable {w w' : World} {g c : Nat} {A : Option Addr} {b : By} {st : Rs}
theorem RQ.lt (h : RQ w g A c b st) : g < w.heap.size := h.arr.lt
theorem RQ.at0 (h : RQ w g A c b st) : w.cell? ⟨g, 0, none⟩ = some (.slice A b.length c) := h.arr.cell (i := 0) (by decide)
theorem RQ.at1 (h : RQ w g A c b st) : w.cell? ⟨g, 1, none⟩ = some (.int .i64 (st.at_ : Int)) := h.arr.cell (i := 1) (by decide)
theorem RQ.at2 (h : RQ w g A c b st) : w.cell? ⟨g, 2, none⟩ = some (.int .i64 (erN st.err : Int)) := h.arr.cell (i := 2) (by decide)
theorem RQ.at3 (h : RQ w g A c b st) : w.cell? ⟨g, 3, none⟩ = some (.int .i64 (plN st.err : Int)) := h.arr.cell (i := 3) (by decide)
theorem RQ.under (h : RQ w g A c b st) (hb : Below w.heap.size w w') : RQ w' g A c b st := ⟨h.arr.under hb, h.lies.below (hb.mono (Nat.le_of_lt h.lt)), h.cap, h.len, h.at_, h.err⟩
theorem RQ.save {k : Nat} (h : RQ w g A c b st) (hs : Save k w w') (hk : g < k) : RQ w' g A c b st :=
  ⟨(hs.block g h.lt (Nat.ne_of_lt hk)).trans h.arr, h.lies.below ⟨hs.os, hs.tape, hs.output, hs.size, fun i hi => hs.block i (Nat.lt_trans hi h.lt) (by omega)⟩, h.cap, h.len, h.at_, h.err⟩
theorem RQ.drewN (h : RQ w g A c b st) (n : Nat) : RQ (w.drewN n) g A c b st := h.under (below_drewN (Below.refl _ _) n)
theorem RQ.free (h : RQ w g A c b st) (i : Nat) : w.frozen? ⟨g, i, none⟩ = false := h.arr.frozen i
theorem RQ.setAt (h : RQ w g A c b st) (n : Nat) (hn : n ≤ b.length) : RQ (w.setCell ⟨g, 1, none⟩ (.int .i64 (n : Int))) g A c b ⟨n, st.err⟩ := by
  have hs : Save g w (w.setCell ⟨g, 1, none⟩ (.int .i64 (n : Int))) := (Save.refl _ _).setCell 1 _
  refine ⟨(h.arr.set 1 (.int .i64 (n : Int))).congr fun i hi => ?_, h.lies.below (hs.below (Nat.le_refl _) (Nat.le_of_lt h.lt)), h.cap, h.len, hn, h.err⟩
  rcases (by omega : i = 0 ∨ i = 1 ∨ i = 2 ∨ i = 3) with rfl | rfl | rfl | rfl <;> rfl
theorem RQ.setErr (h : RQ w g A c b st) (e pl : Nat) (he : e ≠ 0) : RQ ((w.setCell ⟨g, 2, none⟩ (.int .i64 (e : Int))).setCell ⟨g, 3, none⟩ (.int .i64 (pl : Int))) g A c b ⟨st.at_, some (e, pl)⟩ := by
  have hs : Save g w ((w.setCell ⟨g, 2, none⟩ (.int .i64 (e : Int))).setCell ⟨g, 3, none⟩ (.int .i64 (pl : Int))) := ((Save.refl _ _).setCell 2 _).setCell 3 _
  refine ⟨((h.arr.set 2 (.int .i64 (e : Int))).set 3 (.int .i64 (pl : Int))).congr fun i hi => ?_, h.lies.below (hs.below (Nat.le_refl _) (Nat.le_of_lt h.lt)), h.cap, h.len, h.at_, fun x hx => ?_⟩
  · rcases (by omega : i = 0 ∨ i = 1 ∨ i = 2 ∨ i = 3) with rfl | rfl | rfl | rfl <;> rfl
  · injection hx with hx
    subst hx
    exact he
end
/-! ### How steps are put together -/
section
variable {α : Type} {c : Cod α} {b : By} {st s1 s2 : Rs}
theorem StepP.snoc {k : Nat} {l : List α} {a : α} (h : StepP (listC c k) b st l s1) (hn : s1.err = none) (h2 : StepP c b s1 a s2) : StepP (listC c (k + 1)) b st (l ++ [a]) s2 := by
  obtain ⟨he, hg⟩ := h.on hn
  cases e2 : s2.err with
  | none =>
    obtain ⟨_, g2⟩ := h2.on e2
    refine .of_ok (q := s2.at_) he (list_snoc k st.at_ l s1.at_ a s2.at_ hg g2) ?_
    cases s2; simp only at e2; subst e2; rfl
  | some x => exact .of_err he (list_stop k st.at_ l s1.at_ (k + 1) x hg (h2.fails hn e2) (Nat.lt_succ_self _)) e2
theorem list_more {e : Nat × Nat} : ∀ (k n p : Nat), (listC c k).get b p = .error e → k ≤ n → (listC c n).get b p = .error e
  | 0, n, p, h, _ => by cases h
  | k + 1, 0, p, _, hk => by omega
  | k + 1, n + 1, p, h, hk => by
    rw [list_succ] at h ⊢
    cases h1 : c.get b p with
    | error e => rw [h1] at h; exact h
    | ok aq =>
      obtain ⟨a, q⟩ := aq
      rw [h1] at h
      simp only at h ⊢
      cases h2 : (listC c k).get b q with
      | error e' => rw [h2] at h; simp only at h; cases h; rw [list_more k n q h2 (by omega)]
      | ok lr => rw [h2] at h; cases h
theorem StepP.ends {k n : Nat} {l : List α} (h : StepP (listC c k) b st l s1) (hk : k = n ∨ (k ≤ n ∧ s1.err ≠ none)) : StepP (listC c n) b st l s1 := by
  rcases hk with rfl | ⟨hk, he⟩
  · exact h
  · cases e1 : s1.err with
    | none => exact absurd e1 he
    | some x =>
      cases e0 : st.err with
      | some y => exact .of_some e0 (h.stays e0)
      | none => exact .of_err e0 (list_more k n st.at_ (h.fails e0 e1) hk) e1
end
theorem raw_getX {α : Type} {m : Nat} {enc : α → Except Nat By} {dec : By → Except Nat α} (b : By) (p : Nat) : (raw m enc dec).get b p = if p + m ≤ b.length then (match dec ((b.drop p).take m) with
    | .ok a => .ok (a, p + m)
    | .error e => .error (e, p)) else .error (141, p) := rfl
theorem fld_getX (m lo hi e : Nat) (b : By) (p : Nat) : (fld m lo hi e).get b p = if p + m ≤ b.length then (if lo ≤ val ((b.drop p).take m) ∧ val ((b.drop p).take m) ≤ hi then .ok ((val ((b.drop p).take m) : Int), p + m) else .error (e, p)) else .error (141, p) := by
  unfold fld
  rw [raw_getX]
  split
  · split <;> rename_i h <;> split at h <;> simp_all
  · rfl
/-- A bound that is asked behind the reading. -/
theorem StepP.tight {m lo hi e lo' hi' e' pl : Nat} {b : By} {st s1 : Rs} {n : Nat} (h : StepP (fld m lo hi e) b st (n : Int) s1) (hlo : lo ≤ lo') (hhi : hi' ≤ hi) (he : e = e' ∨ (lo = 0 ∧ hi = 256 ^ m - 1)) (hpl : st.err = none → pl = st.at_) :
    StepP (fld m lo' hi' e') b st (n : Int) (if lo' ≤ n ∧ n ≤ hi' then s1 else s1.fail e' pl) := by
  cases e0 : st.err with
  | some x =>
    have h1 := h.stays e0
    refine .of_some e0 ?_
    split
    · exact h1
    · unfold Rs.fail; rw [h1]; exact h1
  | none =>
    have hp := hpl e0
    subst hp
    have hg := fld_getX m lo hi e b st.at_
    have hg' := fld_getX m lo' hi' e' b st.at_
    by_cases hl : st.at_ + m ≤ b.length
    · rw [if_pos hl] at hg hg'
      have hv : val ((b.drop st.at_).take m) < 256 ^ m := by
        have := val_lt ((b.drop st.at_).take m)
        rwa [show ((b.drop st.at_).take m).length = m by simp; omega] at this
      obtain ⟨v, hvv⟩ : ∃ v, v = val ((b.drop st.at_).take m) := ⟨_, rfl⟩
      rw [← hvv] at hg hg' hv
      by_cases hin : lo ≤ v ∧ v ≤ hi
      · rw [if_pos hin] at hg
        cases e1 : s1.err with
        | some x => have := h.fails e0 e1; rw [hg] at this; cases this
        | none =>
          obtain ⟨_, g1⟩ := h.on e1
          rw [hg] at g1
          have hvn : v = n ∧ st.at_ + m = s1.at_ := by
            injection g1 with g1
            injection g1 with g1 g2
            exact ⟨by omega, g2⟩
          obtain ⟨rfl, hat⟩ := hvn
          by_cases hin' : lo' ≤ v ∧ v ≤ hi'
          · rw [if_pos hin']
            rw [if_pos hin'] at hg'
            refine .of_ok (q := s1.at_) e0 (by rw [hg', hat]) ?_
            cases s1; simp only at e1; subst e1; rfl
          · rw [if_neg hin']
            rw [if_neg hin'] at hg'
            refine .of_err e0 hg' ?_
            unfold Rs.fail
            rw [e1]
      · have hin' : ¬ (lo' ≤ v ∧ v ≤ hi') := by omega
        rw [if_neg hin'] at hg'
        rw [if_neg hin] at hg
        rcases he with rfl | ⟨rfl, rfl⟩
        · have h1 : s1.err = some (e, st.at_) := by
            cases e1 : s1.err with
            | none => obtain ⟨_, g1⟩ := h.on e1; rw [hg] at g1; cases g1
            | some x => have := h.fails e0 e1; rw [hg] at this; injection this with this; rw [this]
          refine .of_err e0 hg' ?_
          split
          · exact h1
          · unfold Rs.fail; rw [h1]; exact h1
        · omega
    · rw [if_neg hl] at hg hg'
      have h1 : s1.err = some (141, st.at_) := by
        cases e1 : s1.err with
        | none => obtain ⟨_, g1⟩ := h.on e1; rw [hg] at g1; cases g1
        | some x => have := h.fails e0 e1; rw [hg] at this; injection this with this; rw [this]
      refine .of_err e0 hg' ?_
      split
      · exact h1
      · unfold Rs.fail; rw [h1]; exact h1
/-- How far a number's reading goes. -/
theorem StepP.fldAt {m lo hi e : Nat} {b : By} {st s1 : Rs} {z : Int} (h : StepP (fld m lo hi e) b st z s1) (hn : s1.err = none) : s1.at_ = st.at_ + m := by
  obtain ⟨_, hg⟩ := h.on hn
  rw [fld_getX] at hg
  split at hg
  · split at hg
    · injection hg with hg; injection hg with _ hg; exact hg.symm
    · cases hg
  · cases hg
section
variable {w : World} {g c : Nat} {A : Option Addr} {b : By} {st : Rs}
set_option maxRecDepth 100000 in
theorem rfail_any (e pl : Nat) (he : e ≠ 0) (h : RQ w g A c b st) : Calls Tryd.prog 37 #[.pointer (some ⟨g, 0, none⟩), .int .i64 (e : Int), .int .i64 (pl : Int)] w fun x w' => x = .returned (.tuple #[]) ∧ RQ w' g A c b (st.fail e pl) ∧ Save g w w' := by
  have c2 := h.at2
  unfold Rs.fail
  cases hs : st.err with
  | some x =>
    rw [hs] at c2
    have hx := h.err x hs
    obtain ⟨n, hn⟩ : ∃ n, n = erN (some x) := ⟨_, rfl⟩
    rw [← hn] at c2
    have hn0 : n ≠ 0 := by rw [hn]; exact hx
    have e1 : ((n : Int) == 0) = false := by simp; omega
    have e2 : ¬ (n : Int) = 0 := by omega
    have H := Lib.hid h
    clear h hs hn hn0 hx
    go_enter Tryd.func37, Tryd.ntmps37
    go_wp2
    go_end0
    exact ⟨rfl, H.out, Save.refl _ _⟩
  | none =>
    rw [hs] at c2
    have c2 : w.cell? ⟨g, 2, none⟩ = some (.int .i64 0) := c2
    have H := Lib.hid (h.setErr e pl he)
    have f2 := h.free 2
    have hw := h.arr.set 2 (.int .i64 (e : Int))
    have c3 : (w.setCell ⟨g, 2, none⟩ (.int .i64 (e : Int))).cell? ⟨g, 3, none⟩ = some (.int .i64 (plN st.err : Int)) := hw.cell (i := 3) (by decide)
    have f3 : (w.setCell ⟨g, 2, none⟩ (.int .i64 (e : Int))).frozen? ⟨g, 3, none⟩ = false := hw.frozen 3
    clear h hs hw he
    go_enter Tryd.func37, Tryd.ntmps37
    go_wp2
    go_end0
    exact ⟨rfl, H.out, ((Save.refl _ _).setCell 2 _).setCell 3 _⟩
def bz : Nat → Value := fun _ => .int .u8 0
def zerosL (n : Nat) : By := List.replicate n 0
theorem zerosL_length (n : Nat) : (zerosL n).length = n := by simp [zerosL]
set_option maxRecDepth 100000 in
theorem make_i (n : Nat) (hn : n ≤ 140737488355328) (w : World) :
    (Instr.makeSlice 27 (.int .i64 (n : Int)) (.int .i64 (n : Int))).run Tryd.prog w = .ok (.slice (some ⟨w.heap.size, 0, none⟩) n n) (w.alloc (.cells (vec n bz) 5)) := by
  obtain ⟨i0, hi, hz0, hz1, hz2⟩ := info_parts info_u8
  have h := run_make (P := Tryd.prog) (w := w) 27 5 i0 (.int .u8 0) Tryd.underlying27 hi hz0 .i64 .i64 (n : Int) (n : Int) (by omega) (by omega) (by rw [hz2]; omega) (by omega)
  simp only [Int.toNat_natCast, hz1, Nat.mul_one] at h
  rw [h]
  congr 3
  apply Array.ext_getElem?
  intro i
  by_cases hi : i < n
  · rw [vec_at n bz i hi]
    simp [madeCells, hi, bz, Value.cells, Nat.mod_one]
  · simp [madeCells, vec, hi]
theorem lies_zeros (w : World) (n : Nat) : Lies (w.alloc (.cells (vec n bz) 5)) (w.heap.size + 1) 1 (some ⟨w.heap.size, 0, none⟩) n (u8s (zerosL n)) := by
  refine ⟨by simp [u8s, zerosL], fun _ => ⟨_, rfl, Nat.lt_succ_self _, fun j hj => ?_⟩⟩
  have hj2 : j < n := by simpa [u8s, zerosL] using hj
  have e : ((⟨w.heap.size, 0, none⟩ : Addr).add j) = ⟨w.heap.size, j, none⟩ := by unfold Addr.add; by_cases h0 : j = 0 <;> simp [h0]
  rw [e, (Arr.new w 5 n bz).cell hj2]
  simp [u8s, zerosL, bz]
/-- So many bytes were taken; zeros under an error. -/
def TakeP (b : By) (n : Nat) (st : Rs) (l : By) (st' : Rs) : Prop := match st.err with
  | some _ => st' = st ∧ l = zerosL n
  | none => if st.at_ + n ≤ b.length then l = (b.drop st.at_).take n ∧ st' = ⟨st.at_ + n, none⟩ else l = zerosL n ∧ st' = ⟨st.at_, some (141, st.at_)⟩
theorem TakeP.length {n : Nat} {l : By} {st' : Rs} (h : TakeP b n st l st') : l.length = n := by
  unfold TakeP at h
  cases hs : st.err with
  | some x => rw [hs] at h; rw [h.2]; simp [zerosL]
  | none =>
    rw [hs] at h
    simp only at h
    split at h
    · rename_i hc; rw [h.1]; simp; omega
    · rw [h.1]; simp [zerosL]
theorem TakeP.bad {n : Nat} {l : By} {st' : Rs} {x : Nat × Nat} (hs : st.err = some x) (h1 : st' = st) (h2 : l = zerosL n) : TakeP b n st l st' := by unfold TakeP; rw [hs]; exact ⟨h1, h2⟩
theorem TakeP.yes {n : Nat} {l : By} {st' : Rs} (hs : st.err = none) (hc : st.at_ + n ≤ b.length) (h1 : l = (b.drop st.at_).take n) (h2 : st' = ⟨st.at_ + n, none⟩) : TakeP b n st l st' := by unfold TakeP; rw [hs]; simp only; rw [if_pos hc]; exact ⟨h1, h2⟩
theorem TakeP.no {n : Nat} {l : By} {st' : Rs} (hs : st.err = none) (hc : ¬ st.at_ + n ≤ b.length) (h1 : l = zerosL n) (h2 : st' = ⟨st.at_, some (141, st.at_)⟩) : TakeP b n st l st' := by unfold TakeP; rw [hs]; simp only; rw [if_neg hc]; exact ⟨h1, h2⟩
/-- What take answers. -/
def TakeA (g : Nat) (A : Option Addr) (c : Nat) (b : By) (n : Nat) (st : Rs) (w : World) (x : Ending) (w' : World) : Prop := ∃ (B : Addr) (d : Nat) (l : By) (st' : Rs), x = .returned (.slice (some B) n d) ∧ n ≤ d ∧ B.block ≠ g ∧ TakeP b n st l st' ∧ Lies w' w'.heap.size 1 (some B) n (u8s l) ∧ RQ w' g A c b st' ∧ Save g w w'
theorem lies_sub {w : World} {B N : Nat} {a : Addr} {l : By} (h : Lies w B 1 (some a) N (u8s l)) (i n : Nat) (hn : i + n ≤ N) : Lies w B 1 (some (a.add i)) n (u8s ((l.drop i).take n)) := by
  have hl : l.length = N := by have := h.1; simpa [u8s] using this
  refine ⟨by simp [u8s]; omega, fun h0 => ?_⟩
  obtain ⟨a', e, hb, hc⟩ := h.2 (by omega)
  injection e with e
  subst e
  refine ⟨_, rfl, by rw [addr_add_block]; exact hb, fun j hj => ?_⟩
  have hj2 : j < n := by simp [u8s] at hj; omega
  rw [addr_add_add, hc (i + j) (by simp [u8s]; omega)]
  simp [u8s]
theorem take_made {n : Nat} {st' : Rs} {W : World} (hr : RQ W g A c b st') (hs : Save g w W) (ht : TakeP b n st (zerosL n) st') : TakeA g A c b n st w (.returned (.slice (some ⟨W.heap.size, 0, none⟩) n n)) (W.alloc (.cells (vec n bz) 5)) := by
  have hB : Below W.heap.size W (W.alloc (.cells (vec n bz) 5)) := (Below.refl _ _).alloc (Nat.le_refl _) _
  refine ⟨_, n, zerosL n, st', rfl, Nat.le_refl _, (by have := hr.lt; show W.heap.size ≠ g; omega), ht, ?_, hr.under hB, hs.trans (Save.of_below hB)⟩
  have := lies_zeros W n
  simpa using this
set_option maxHeartbeats 1000000 in
set_option maxRecDepth 100000 in
theorem rtake_any (n : Nat) (hn0 : 0 < n) (hn : n ≤ 100) (h : RQ w g A c b st) : Calls Tryd.prog 36 #[.pointer (some ⟨g, 0, none⟩), .int .i64 (n : Int)] w (TakeA g A c b n st w) := by
  have HM := Lib.hid (fun W => make_i n (by omega) W)
  have c0 := h.at0
  have c1 := h.at1
  have c2 := h.at2
  have hat := h.at_
  have hlen := h.len
  obtain ⟨at_, hat2⟩ : ∃ k, k = st.at_ := ⟨_, rfl⟩
  obtain ⟨N, hN⟩ : ∃ k, k = b.length := ⟨_, rfl⟩
  have hcap := h.cap
  rw [← hat2] at c1 hat
  rw [← hN] at c0 hat hlen hcap
  obtain ⟨Q, hQ⟩ : ∃ Q, Q = TakeA g A c b n st w := ⟨_, rfl⟩
  rw [← hQ]
  cases hs : st.err with
  | some x =>
    rw [hs] at c2
    have hx := h.err x hs
    obtain ⟨e, he⟩ : ∃ e, e = erN (some x) := ⟨_, rfl⟩
    rw [← he] at c2
    have he0 : e ≠ 0 := by rw [he]; exact hx
    have e1 : ((e : Int) == 0) = false := by simp; omega
    have e2 : ((e : Int) != 0) = true := bne_iff_ne.2 (by omega)
    have e3 : ¬ (e : Int) = 0 := by omega
    have HR : Hid (∀ k, Q (.returned (.slice (some ⟨w.heap.size, 0, none⟩) n n)) ((w.drewN k).alloc (.cells (vec n bz) 5))) := Lib.hid (fun k => by rw [hQ]; exact take_made (h.drewN k) ((Save.refl _ _).drewN k) (TakeP.bad hs rfl rfl))
    clear h hs hQ he he0 hx hat2 hN
    go_enter Tryd.func36, Tryd.ntmps36
    go_upto_region 1 with fail
    go_quiet (fail)
    have hm := HM.out (w.drewN nq)
    go_wp2_with fail
    exact HR.out _
  | none =>
    rw [hs] at c2
    have c2 : w.cell? ⟨g, 2, none⟩ = some (.int .i64 0) := c2
    have e1 : ((0 : Int) == 0) = true := rfl
    have e2 : ((0 : Int) != 0) = false := rfl
    by_cases hfit : at_ + n ≤ N
    · have hd : IntKind.i64.wrap ((N : Int) - (at_ : Int)) = (N : Int) - (at_ : Int) := by rw [IntKind.wrap_i64]; omega
      have z1 : ¬ ((N : Int) - (at_ : Int)) < (n : Int) := by omega
      have z2 : decide (((N : Int) - (at_ : Int)) < (n : Int)) = false := decide_eq_false z1
      obtain ⟨a, ea, hag, -⟩ := h.lies.2 (by omega)
      have hl := h.lies
      rw [ea] at hl
      obtain ⟨m, hm⟩ : ∃ m, m = at_ + n := ⟨_, rfl⟩
      have HR : Hid (∀ k, Q (.returned (.slice (some (a.add at_)) n (c - at_))) ((w.drewN k).setCell ⟨g, 1, none⟩ (.int .i64 (m : Int)))) := Lib.hid (fun k => by
        rw [hQ]
        have hr := (h.drewN k).setAt m (by omega)
        rw [hs] at hr
        refine ⟨_, c - at_, (b.drop st.at_).take n, ⟨m, none⟩, rfl, by omega, by rw [addr_add_block]; omega, TakeP.yes hs (by omega) rfl (by rw [hm, hat2]), ?_, hr, ((Save.refl _ _).drewN k).setCell 1 _⟩
        have hsv : Save g w ((w.drewN k).setCell ⟨g, 1, none⟩ (.int .i64 (m : Int))) := ((Save.refl _ _).drewN k).setCell 1 _
        have := (lies_sub hl at_ n (by omega)).below (hsv.below (Nat.le_refl _) (Nat.le_of_lt h.lt))
        rw [← hat2]
        exact this.wide (by have := hr.lt; omega))
      subst ea
      have f1 := h.free 1
      have z3 : IntKind.i64.wrap ((at_ : Int) + (n : Int)) = (m : Int) := by rw [IntKind.wrap_i64]; omega
      have z4 : m ≤ c := by omega
      have z5 : at_ ≤ m := by omega
      have z6 : m - at_ = n := by omega
      have z7 : (m : Int) ≤ (c : Int) := by omega
      have z8 : (at_ : Int) ≤ (m : Int) := by omega
      clear h hs hQ hl hat2 hN hm hfit hag
      go_enter Tryd.func36, Tryd.ntmps36
      go_upto_region 1 with fail
      go_quiet (fail)
      rename Nat => nk
      go_upto_region 5 with fail
      go_quiet (fail)
      go_wp2_with fail
      exact HR.out _
    · have hd : IntKind.i64.wrap ((N : Int) - (at_ : Int)) = (N : Int) - (at_ : Int) := by rw [IntKind.wrap_i64]; omega
      have z1 : ((N : Int) - (at_ : Int)) < (n : Int) := by omega
      have z2 : decide (((N : Int) - (at_ : Int)) < (n : Int)) = true := decide_eq_true z1
      have HF : Hid (∀ k, Calls Tryd.prog 37 #[.pointer (some ⟨g, 0, none⟩), .int .i64 141, .int .i64 (at_ : Int)] (w.drewN k) fun x w' => x = .returned (.tuple #[]) ∧ w'.cell? ⟨g, 2, none⟩ = some (.int .i64 141) ∧ Q (.returned (.slice (some ⟨w'.heap.size, 0, none⟩) n n)) (w'.alloc (.cells (vec n bz) 5))) := Lib.hid (fun k => by
        refine (rfail_any 141 at_ (by decide) (h.drewN k)).mono ?_
        rintro x w' ⟨rfl, hr, hsv⟩
        have hf : st.fail 141 at_ = ⟨st.at_, some (141, st.at_)⟩ := by unfold Rs.fail; rw [hs, hat2]
        rw [hf] at hr
        refine ⟨rfl, hr.at2, ?_⟩
        rw [hQ]
        exact take_made hr (((Save.refl _ _).drewN k).trans hsv) (TakeP.no hs (by omega) rfl rfl))
      have HCK : Hid (∀ k, (w.drewN k).cell? ⟨g, 1, none⟩ = some (.int .i64 (at_ : Int))) := Lib.hid (fun k => c1)
      clear h hs hQ hat2 hN
      go_enter Tryd.func36, Tryd.ntmps36
      go_upto_region 1 with fail
      go_quiet (fail)
      go_upto_region 4 with (go_at_call 37; refine (HF.out _).mono ?_; rintro x w1 ⟨rfl, k2, hq⟩; have HR := Lib.hid hq; clear hq)
      have hm := HM.out w1
      go_wp2_with fail
      exact HR.out
end
end Go.Proofs.YtgoblolbkchggaaDoor
