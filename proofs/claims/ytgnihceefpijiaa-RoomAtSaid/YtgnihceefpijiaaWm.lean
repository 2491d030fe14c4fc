/- Merged: Cm, Mo. -/
import Derived.Test.YtgnihceefpijiaaMc
import Derived.Test.YtgnihceefpijiaaMn
/- The parser's composites: windows, devices, irqs, ends, channels. -/
namespace Go.Proofs.Ytgnihceefpijiaa
open Go.RowKit
attribute [local go_sem ↓ high] zeroWi zeroDe zeroIr zeroEn zeroCh
end Go.Proofs.Ytgnihceefpijiaa
/- Merged: Ow, Pb. -/
/- Rows of the call's own that grow by one element: of any kind. -/
namespace Go.Proofs.Ytgnihceefpijiaa
open Go.RowKit

def appS (ts : Array TypeId) (ty : TypeId) (vs : Array Value) : Sem Value := Builtin.append_ ts ty vs
theorem builtin_appS (ats : Array TypeId) (ty : TypeId) (cs : Array Bool) (args : Array Value) : builtin .append ats ty cs args = (do pure (.value (← appS ats ty args))) := rfl
section
variable {α : Type} {n : Nat} {enc : α → Nat → Value} {w w' : World} {base : Nat} {t : TypeId} {v : Value} {l : List α}
/-- A row that is the call's own. -/
def OwnE (t : TypeId) (n : Nat) (enc : α → Nat → Value) (w : World) (base : Nat) (v : Value) (l : List α) : Prop := w.ownsRow base t n v l.length (cellsE n enc l)
theorem OwnE.nil (w : World) (base : Nat) : OwnE t n enc w base (.slice none 0 0) [] := World.ownsRow_nil _ _ _ _
theorem OwnE.save {g : Nat} (h : OwnE t n enc w base v l) (hs : Save g w w') (hg : g < base) : OwnE t n enc w' base v l := by
  refine ⟨h.1, ?_⟩
  rcases h.2 with h2 | ⟨k, cap, cur, hv, hk, hh, r⟩
  · exact Or.inl h2
  · exact Or.inr ⟨k, cap, cur, hv, hk, (hs.block k (Array.getElem?_eq_some_iff.1 hh).1 (by omega)).trans hh, r⟩
theorem OwnE.on {m : Nat} (h : OwnE t n enc w base v l) (hs : Below m w w') (hm : w.heap.size ≤ m) : OwnE t n enc w' base v l := by
  refine ⟨h.1, ?_⟩
  rcases h.2 with h2 | ⟨k, cap, cur, hv, hk, hh, r⟩
  · exact Or.inl h2
  · exact Or.inr ⟨k, cap, cur, hv, hk, (hs.block k (Nat.lt_of_lt_of_le (Array.getElem?_eq_some_iff.1 hh).1 hm)).trans hh, r⟩
theorem OwnE.low {base' : Nat} (h : OwnE t n enc w base v l) (hb : base' ≤ base) : OwnE t n enc w base' v l := by
  refine ⟨h.1, ?_⟩
  rcases h.2 with h2 | ⟨g, cap, cur, hv, hg, r⟩
  · exact Or.inl h2
  · exact Or.inr ⟨g, cap, cur, hv, Nat.le_trans hb hg, r⟩
/-- What such a row is: a slice whose cells lie in one block, which is new. -/
theorem OwnE.form (h : OwnE t n enc w base v l) : ∃ A c, v = .slice A l.length c ∧ l.length ≤ c ∧ RowE n enc w w.heap.size A l ∧ ∀ k, v.ownBlock = some k → base ≤ k ∧ k < w.heap.size := by
  rcases h.2 with ⟨rfl, h0⟩ | ⟨g, cap, cur, rfl, hg, hh, hnc, hr⟩
  · have : l = [] := List.eq_nil_of_length_eq_zero h0
    subst this
    exact ⟨none, 0, rfl, Nat.le_refl _, RowE.nil _ _ _, fun k hk => by simp [Value.ownBlock] at hk⟩
  · refine ⟨_, cap, rfl, hnc, fun _ => ⟨_, rfl, (Array.getElem?_eq_some_iff.1 hh).1, fun j hj i hi => ?_⟩, fun k hk => by
      simp [Value.ownBlock] at hk
      subst hk
      exact ⟨hg, (Array.getElem?_eq_some_iff.1 hh).1⟩⟩
    obtain ⟨q1, e1⟩ := List.getElem?_eq_some_iff.1 (cellsE_get (enc := enc) l j hj i hi)
    exact (h.cells (g := g) rfl (j * n + i) _ (List.getElem?_eq_getElem q1)).trans (by rw [e1])
theorem elC_new (w : World) (f : Nat → Value) (t : TypeId) (n : Nat) : ∀ j u, (elC n f)[j]? = some u → (w.alloc (.cells (vec n f) t)).cell? ((⟨w.heap.size, 0, none⟩ : Addr).add j) = some u := by
  intro j u hu
  have e : ((⟨w.heap.size, 0, none⟩ : Addr).add j) = ⟨w.heap.size, j, none⟩ := by unfold Addr.add; by_cases h0 : j = 0 <;> simp [h0]
  rw [e, cell_of_row _ w.heap.size j _ t (0, 0) (heap_alloc_new w _)]
  rw [← Array.getElem?_toList, elC_vec]
  exact hu
theorem app_E {P : Program} {ts : TypeId} {bytes : Nat} {z : Value} (hu : P.underlying ts = some (.slice t)) (hinfo : (P.info? t).map (fun i => (i.zero, i.size, i.bytes)) = some (some z, n, bytes)) (hz : z.cells.size = n) (hn : 0 < n)
    (h1 : ∀ (x : α) i, i < n → (enc x i).oneCell' = true) (x : α) (hown : OwnE t n enc w base v l) (hb : base ≤ w.heap.size) (hl : l.length ≤ 1000000) (hby : bytes ≤ 100000) (ty : TypeId) :
    ∃ B d w', (appS #[ts, ts] ty #[v, .slice (some ⟨w.heap.size, 0, none⟩) 1 1]).run P (w.alloc (.cells (vec n (enc x)) t)) = .ok (.slice B (l.length + 1) d) w' ∧ OwnE t n enc w' base (.slice B (l.length + 1) d) (l ++ [x]) ∧ Below base w w' := by
  obtain ⟨i0, hi, hz0, hz1, hz2⟩ := info_parts hinfo
  have hbz : (l.length + 1) * bytes ≤ 140737488355328 := Nat.le_trans (Nat.mul_le_mul (show l.length + 1 ≤ 1000001 by omega) hby) (by decide)
  obtain ⟨v', w', hr, h2, h3, _, h5⟩ := run_append_own_at (P := P) (w.alloc (.cells (vec n (enc x)) t)) base ts ty t i0 z n bytes hu hi hz0 hz1 hz2 hz hn v l.length (cellsE n enc l) (hown.on ((Below.refl _ _).alloc (Nat.le_refl _) _) (Nat.le_refl _))
    ⟨w.heap.size, 0, none⟩ 1 1 (elC n (enc x)) (by rw [elC_length, Nat.one_mul]) (elC_new w (enc x) t n) (by
      intro u hu
      obtain ⟨i, hi, rfl⟩ := List.mem_map.1 hu
      exact h1 x i (List.mem_range.1 hi)) (by unfold maxLen; omega) hbz (by simp; omega)
  have hown2 : OwnE t n enc w' base v' (l ++ [x]) := by
    unfold OwnE
    rw [cellsE_snoc, List.length_append]
    exact h2
  obtain ⟨B, d, e, _, _, hbk⟩ := hown2.form
  obtain ⟨_, _, _, _, _, hbv⟩ := hown.form
  rw [List.length_append, List.length_singleton] at e
  subst e
  exact ⟨B, d, w', hr, hown2, ((Below.refl base w).alloc hb _).grown h3 (by simp; omega) fun k hk => (hbv k hk).1⟩
end
end Go.Proofs.Ytgnihceefpijiaa
/- Bytes of the call's own, as a row that grows. -/
namespace Go.Proofs.Ytgnihceefpijiaa
open Go.RowKit
attribute [local go_sem ↓ high] builtin_appS
def eB (c : UInt8) : Nat → Value := fun _ => .int .u8 (c.toNat : Int)
theorem cells_one {α : Type} (f : α → Value) (l : List α) : cellsE 1 (fun x _ => f x) l = l.map f := by
  induction l with
  | nil => rfl
  | cons x xs ih => rw [cellsE_cons, ih]; rfl
theorem cells_B (l : By) : cellsE 1 eB l = u8s l := cells_one (fun c : UInt8 => Value.int .u8 (c.toNat : Int)) l
/-- Bytes of the call's own. -/
abbrev OwnB (w : World) (base : Nat) (v : Value) (l : By) : Prop := OwnE 5 1 eB w base v l
theorem own_of {w : World} {base : Nat} {v : Value} {l : By} (h : w.ownsRow base 5 1 v l.length (u8s l)) : OwnB w base v l := by
  show w.ownsRow base 5 1 v l.length (cellsE 1 eB l)
  rw [cells_B]; exact h
theorem own_to {w : World} {base : Nat} {v : Value} {l : By} (h : OwnB w base v l) : w.ownsRow base 5 1 v l.length (u8s l) := by
  have h2 : w.ownsRow base 5 1 v l.length (cellsE 1 eB l) := h
  rw [cells_B] at h2; exact h2
theorem RowE.lies {α : Type} {enc : α → Nat → Value} {w : World} {B : Nat} {A : Option Addr} {l : List α} {xs : List Value} (h : RowE 1 enc w B A l) (hx : cellsE 1 enc l = xs) : Lies w B 1 A l.length xs := by
  have hl : xs.length = l.length * 1 := by rw [← hx, cellsE_length]
  refine ⟨hl, fun hn => ?_⟩
  obtain ⟨a, e, hb, hc⟩ := h (fun h0 => hn (by rw [h0]; rfl))
  refine ⟨a, e, hb, fun j hj => ?_⟩
  have h1 := hc j (by omega) 0 (by decide)
  have h2 := cellsE_get (n := 1) (enc := enc) l j (by omega) 0 (by decide)
  rw [hx, Nat.mul_one, Nat.add_zero, List.getElem?_eq_getElem hj] at h2
  rw [Nat.mul_one, Nat.add_zero] at h1
  rw [h1]
  exact h2.symm
theorem OwnB.lies {w : World} {base : Nat} {v : Value} {l : By} (h : OwnB w base v l) : ∃ A c, v = .slice A l.length c ∧ l.length ≤ c ∧ Lies w w.heap.size 1 A l.length (u8s l) := by
  obtain ⟨A, c, e, hc, hr, _⟩ := h.form
  exact ⟨A, c, e, hc, hr.lies (cells_B l)⟩
theorem Bytes.low {w w0 : World} {l : By} {e : Ending} {w' : World} (h : Bytes w l e w') (hb : Below w0.heap.size w0 w) : Bytes w0 l e w' := by
  obtain ⟨v, e1, h1, h2⟩ := h
  exact ⟨v, e1, owns_mono h1 hb.size, hb.trans (h2.mono hb.size)⟩
/-! ### Numbers of two bytes -/
theorem be_two (m : Nat) (h : m < 65536) : be 2 m = [UInt8.ofNat (m / 256), UInt8.ofNat (m % 256)] := by
  show ([] ++ [UInt8.ofNat (m / 256 % 256)]) ++ [UInt8.ofNat (m % 256)] = _
  rw [Nat.mod_eq_of_lt (by omega : m / 256 < 256)]; rfl
theorem info_u8 : (Try.prog.info? 5).map (fun i => (i.zero, i.size, i.bytes)) = some (some (.int .u8 0), 1, 1) := by kernel_rfl
set_option maxRecDepth 100000 in
theorem numBytes_be (m n : Nat) : numBytes 0 m n = be m n := by
  rw [be_map]
  unfold numBytes
  refine List.map_congr_left fun i hi => ?_
  have hi : i < m := List.mem_range.1 hi
  unfold putByte
  rw [shAt_high]
  have e : (8 * ((m : Int) - 1 - (i : Int))).toNat = 8 * (m - 1 - i) := by omega
  rw [e]
end Go.Proofs.Ytgnihceefpijiaa
