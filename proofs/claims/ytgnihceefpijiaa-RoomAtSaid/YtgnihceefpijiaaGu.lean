/- A guest in memory; how it is read, part by part. -/
import Derived.Test.YtgnihceefpijiaaLi
import Derived.Test.YtgnihceefpijiaaCo
namespace Go.Proofs.Ytgnihceefpijiaa
open Go.RowKit

/-- A guest with the slices that hold its lists. -/
structure GV where
  g : Gs
  wv : Value
  dv : Value
  iv : Value
  sv : Value
def guestE (x : GV) : Nat → Value
  | 0 => .string (strOf x.g.name)
  | 1 => .bool x.g.must
  | 2 => .int .u32 x.g.off
  | 3 => .int .u32 x.g.len
  | 4 => .int .u32 x.g.cpus
  | 5 => .int .u64 x.g.entry
  | 6 => .int .u64 x.g.dtb
  | i + 7 => if i < 68 then bys (kF x.g.key) i else if i = 68 then x.wv else if i = 69 then x.dv else if i = 70 then x.iv else x.sv
def nilV : Value := .slice none 0 0
def zGV : GV := ⟨⟨[], false, 0, 0, 0, 0, 0, [], [], [], [], []⟩, nilV, nilV, nilV, nilV⟩
def headG (h : GH) : GV := ⟨⟨h.1, h.2.1, h.2.2.1, h.2.2.2.1, h.2.2.2.2.1, h.2.2.2.2.2.1, h.2.2.2.2.2.2.1, h.2.2.2.2.2.2.2, [], [], [], []⟩, nilV, nilV, nilV, nilV⟩
/-- Its slices are cells. -/
structure GV1 (x : GV) : Prop where
  w : x.wv.oneCell' = true
  d : x.dv.oneCell' = true
  i : x.iv.oneCell' = true
  s : x.sv.oneCell' = true
theorem guestE_one (x : GV) (h : GV1 x) (n : Nat) : ∀ i, i < n → (guestE x i).oneCell' = true := by
  intro i _
  match i with
  | 0 => rfl
  | 1 => rfl
  | 2 => rfl
  | 3 => rfl
  | 4 => rfl
  | 5 => rfl
  | 6 => rfl
  | i + 7 =>
    show (if i < 68 then bys (kF x.g.key) i else if i = 68 then x.wv else if i = 69 then x.dv else if i = 70 then x.iv else x.sv).oneCell' = true
    split
    · rfl
    · split
      · exact h.w
      · split
        · exact h.d
        · split
          · exact h.i
          · exact h.s
theorem infoGu : (Try.prog.info? 61).map (·.size) = some 79 := by kernel_rfl
theorem zeroGu (w : World) : (zeroValue 61).run Try.prog w = .ok (.agg (vec 79 (guestE zGV))) w :=
  (zero_of_info (P := Try.prog) (t := 61) (v := .agg (vec 79 (guestE zGV))) (n := 79) (by kernel_rfl)).1 w
theorem upd_w (x : GV) (v : Value) (l : List Wi) : ∀ i, i < 79 → upd (guestE x) 75 v i = guestE ⟨{ x.g with wins := l }, v, x.dv, x.iv, x.sv⟩ i := by
  intro i hi
  unfold upd
  match i, hi with
  | 0, _ => rfl
  | 1, _ => rfl
  | 2, _ => rfl
  | 3, _ => rfl
  | 4, _ => rfl
  | 5, _ => rfl
  | 6, _ => rfl
  | i + 7, hi =>
    show (if i + 7 = 75 then v else if i < 68 then bys (kF x.g.key) i else if i = 68 then x.wv else if i = 69 then x.dv else if i = 70 then x.iv else x.sv) = if i < 68 then bys (kF x.g.key) i else if i = 68 then v else if i = 69 then x.dv else if i = 70 then x.iv else x.sv
    split
    · rw [if_neg (by omega), if_pos (by omega)]
    · by_cases h1 : i < 68
      · rw [if_pos h1, if_pos h1]
      · rw [if_neg h1, if_neg h1, if_neg (show ¬ i = 68 by omega), if_neg (show ¬ i = 68 by omega)]
theorem upd_d (x : GV) (v : Value) (l : List De) : ∀ i, i < 79 → upd (guestE x) 76 v i = guestE ⟨{ x.g with devs := l }, x.wv, v, x.iv, x.sv⟩ i := by
  intro i hi
  unfold upd
  match i, hi with
  | 0, _ => rfl
  | 1, _ => rfl
  | 2, _ => rfl
  | 3, _ => rfl
  | 4, _ => rfl
  | 5, _ => rfl
  | 6, _ => rfl
  | i + 7, hi =>
    show (if i + 7 = 76 then v else if i < 68 then bys (kF x.g.key) i else if i = 68 then x.wv else if i = 69 then x.dv else if i = 70 then x.iv else x.sv) = if i < 68 then bys (kF x.g.key) i else if i = 68 then x.wv else if i = 69 then v else if i = 70 then x.iv else x.sv
    split
    · rw [if_neg (by omega), if_neg (by omega), if_pos (by omega)]
    · by_cases h1 : i < 68
      · rw [if_pos h1, if_pos h1]
      · rw [if_neg h1, if_neg h1]
        by_cases h2 : i = 68
        · rw [if_pos h2, if_pos h2]
        · rw [if_neg h2, if_neg h2, if_neg (show ¬ i = 69 by omega), if_neg (show ¬ i = 69 by omega)]
theorem upd_i (x : GV) (v : Value) (l : List Ir) : ∀ i, i < 79 → upd (guestE x) 77 v i = guestE ⟨{ x.g with irqs := l }, x.wv, x.dv, v, x.sv⟩ i := by
  intro i hi
  unfold upd
  match i, hi with
  | 0, _ => rfl
  | 1, _ => rfl
  | 2, _ => rfl
  | 3, _ => rfl
  | 4, _ => rfl
  | 5, _ => rfl
  | 6, _ => rfl
  | i + 7, hi =>
    show (if i + 7 = 77 then v else if i < 68 then bys (kF x.g.key) i else if i = 68 then x.wv else if i = 69 then x.dv else if i = 70 then x.iv else x.sv) = if i < 68 then bys (kF x.g.key) i else if i = 68 then x.wv else if i = 69 then x.dv else if i = 70 then v else x.sv
    split
    · rw [if_neg (by omega), if_neg (by omega), if_neg (by omega), if_pos (by omega)]
    · by_cases h1 : i < 68
      · rw [if_pos h1, if_pos h1]
      · rw [if_neg h1, if_neg h1]
        by_cases h2 : i = 68
        · rw [if_pos h2, if_pos h2]
        · rw [if_neg h2, if_neg h2]
          by_cases h3 : i = 69
          · rw [if_pos h3, if_pos h3]
          · rw [if_neg h3, if_neg h3, if_neg (show ¬ i = 70 by omega), if_neg (show ¬ i = 70 by omega)]
theorem upd_s (x : GV) (v : Value) (l : List Int) : ∀ i, i < 79 → upd (guestE x) 78 v i = guestE ⟨{ x.g with strs := l }, x.wv, x.dv, x.iv, v⟩ i := by
  intro i hi
  unfold upd
  match i, hi with
  | 0, _ => rfl
  | 1, _ => rfl
  | 2, _ => rfl
  | 3, _ => rfl
  | 4, _ => rfl
  | 5, _ => rfl
  | 6, _ => rfl
  | i + 7, hi =>
    show (if i + 7 = 78 then v else if i < 68 then bys (kF x.g.key) i else if i = 68 then x.wv else if i = 69 then x.dv else if i = 70 then x.iv else x.sv) = if i < 68 then bys (kF x.g.key) i else if i = 68 then x.wv else if i = 69 then x.dv else if i = 70 then x.iv else v
    split
    · rw [if_neg (by omega), if_neg (by omega), if_neg (by omega), if_neg (by omega)]
    · by_cases h1 : i < 68
      · rw [if_pos h1, if_pos h1]
      · rw [if_neg h1, if_neg h1]
        by_cases h2 : i = 68
        · rw [if_pos h2, if_pos h2]
        · rw [if_neg h2, if_neg h2]
          by_cases h3 : i = 69
          · rw [if_pos h3, if_pos h3]
          · rw [if_neg h3, if_neg h3, if_pos (by omega), if_pos (by omega)]
/-- A guest's lists lie in rows of the call's own. -/
structure GOwn (w : World) (base : Nat) (x : GV) : Prop where
  wi : OwnE 64 4 winE w base x.wv x.g.wins
  de : OwnE 72 3 devE w base x.dv x.g.devs
  ir : OwnE 118 3 irqE w base x.iv x.g.irqs
  st : OwnE 22 1 numE w base x.sv x.g.strs
theorem OwnE.one {α : Type} {t : TypeId} {n : Nat} {enc : α → Nat → Value} {w : World} {base : Nat} {v : Value} {l : List α} (h : OwnE t n enc w base v l) : v.oneCell' = true := by
  obtain ⟨A, c, rfl, _⟩ := h.form
  rfl
theorem GOwn.one {w : World} {base : Nat} {x : GV} (h : GOwn w base x) : GV1 x := ⟨h.wi.one, h.de.one, h.ir.one, h.st.one⟩
theorem GOwn.save {w w' : World} {base g : Nat} {x : GV} (h : GOwn w base x) (hs : Save g w w') (hg : g < base) : GOwn w' base x := ⟨h.wi.save hs hg, h.de.save hs hg, h.ir.save hs hg, h.st.save hs hg⟩
theorem GOwn.on {w w' : World} {base m : Nat} {x : GV} (h : GOwn w base x) (hs : Below m w w') (hm : w.heap.size ≤ m) : GOwn w' base x := ⟨h.wi.on hs hm, h.de.on hs hm, h.ir.on hs hm, h.st.on hs hm⟩
theorem GOwn.low {w : World} {base base' : Nat} {x : GV} (h : GOwn w base x) (hb : base' ≤ base) : GOwn w base' x := ⟨h.wi.low hb, h.de.low hb, h.ir.low hb, h.st.low hb⟩
theorem GOwn.head (w : World) (base : Nat) (h : GH) : GOwn w base (headG h) := ⟨OwnE.nil _ _, OwnE.nil _ _, OwnE.nil _ _, OwnE.nil _ _⟩
section
variable {g : Nat} {A : Option Addr} {c : Nat} {b : By} {w W W1 : World} {r : Nat} {x : GV} {p p1 t1 : Nat}
end
theorem fld_nat {m lo hi e : Nat} {b : By} {q r : Nat} {x : Int} (h : (fld m lo hi e).get b q = .ok (x, r)) : ∃ n : Nat, x = (n : Int) ∧ n ≤ hi := by
  rw [fld_get] at h
  split at h
  · split at h
    · rename_i h2
      injection h with h
      injection h with h3 h4
      exact ⟨numAt b q m, h3.symm, h2.2⟩
    · cases h
  · cases h
end Go.Proofs.Ytgnihceefpijiaa
