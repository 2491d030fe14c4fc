/- Both stores, side by side. -/
import Derived.Test.YtpeebdhbcglibaaNr
import Derived.Test.YtpeebdhbcglibaaRnv
import Derived.Test.YtpeebdhbcglibaaCl
import Derived.Test.YtpeebdhbcglibaaRcb
namespace Go.Proofs.Ytpeebdhbcglibaa
open Go.RowKit

/-- The program's store and the reference's are one; neither may change the other, nor what lies below B. -/
structure Two (w : World) (B p r : Nat) (s : St) (G H : Nat → Prop) (v u : Value) (A C : Option Addr) (c d : Nat) : Prop where
  nc : NC w G p s v A c
  nr : NR w H r s u C d
  dj : ∀ i, G i → ¬ H i
  ac : ∀ a, A = some a → s.cs.length ≠ 0 → ¬ H a.block
  cc : ∀ a, C = some a → s.cs.length ≠ 0 → ¬ G a.block
  gb : ∀ i, G i → B ≤ i
  hb : ∀ i, H i → B ≤ i
def TwoE (w : World) (B p r : Nat) (s : St) : Prop := ∃ G H v u A C c d, Two w B p r s G H v u A C c d
section
variable {w w1 w2 : World} {B p r c d c' d' : Nat} {s s' : St} {G H : Nat → Prop} {v u : Value} {A C A' C' : Option Addr}
theorem Two.under (h : Two w B p r s G H v u A C c d) (k : Below w.heap.size w w1) : Two w1 B p r s G H v u A C c d := ⟨h.nc.under k, h.nr.under k, h.dj, h.ac, h.cc, h.gb, h.hb⟩
theorem TwoE.under (h : TwoE w B p r s) (k : Below w.heap.size w w1) : TwoE w1 B p r s := by
  obtain ⟨G, H, v, u, A, C, c, d, h⟩ := h
  exact ⟨G, H, v, u, A, C, c, d, h.under k⟩
/-- Behind a call of the program's. -/
theorem Two.mid (h : Two w B p r s G H v u A C c d) (t : Turn G w w1) : NR w1 H r s u C d := h.nr.turn t (fun i hi hg => h.dj i hg hi) h.cc
/-- Behind a call of both. -/
theorem Two.fin (h : Two w B p r s G H v u A C c d) (hn : NC w1 G p s' v A' c') (hr : NR w2 H r s' u C' d') (t2 : Turn H w1 w2)
    (hA : s'.cs.length ≠ 0 → ∀ b, A' = some b → s.cs.length ≠ 0 ∧ ∃ a, A = some a ∧ b.block = a.block) (hC : s'.cs.length ≠ 0 → ∀ b, C' = some b → s.cs.length ≠ 0 ∧ ∃ a, C = some a ∧ b.block = a.block) : Two w2 B p r s' G H v u A' C' c' d' := by
  have ha : ∀ b, A' = some b → s'.cs.length ≠ 0 → ¬ H b.block := fun b e hl => by
    obtain ⟨h0, a, e2, hb⟩ := hA hl b e
    rw [hb]; exact h.ac a e2 h0
  refine ⟨hn.turn t2 h.dj ha, hr, h.dj, ha, fun b e hl => ?_, h.gb, h.hb⟩
  obtain ⟨h0, a, e2, hb⟩ := hC hl b e
  rw [hb]; exact h.cc a e2 h0
theorem Two.below {V : World} (h : Two w B p r s G H v u A C c d) (hV : Below B V w) (hB : B ≤ V.heap.size) (t1 : Turn G w w1) (t2 : Turn H w1 w2) : Below B V w2 := by
  have h0 := hV.size
  have h1 := t1.size
  exact (hV.trans (t1.below h.gb (by omega))).trans (t2.below h.hb (by omega))
/-- Both write. -/
theorem Two.write_any (h : Two w B p r s G H v u A C c d) (hn : s.cnt < 1000000) (i : Int) (x : W32) :
    Calls Try.prog 44 #[.pointer (some ⟨p, 0, none⟩), .int .i64 i, .int .u32 (num x)] w fun e w1 => e = .returned (.int .i64 (s.wrE i : Int)) ∧ Turn G w w1 ∧
      Calls Try.prog 36 #[.pointer (some ⟨r, 0, none⟩), .int .i64 i, .int .u32 (num x)] w1 fun e w2 => e = .returned (.int .i64 (s.wrE i : Int)) ∧ Turn H w1 w2 ∧ TwoE w2 B p r (s.wr i x) := by
  refine (Go.Proofs.Ytpeebdhbcglibaa.write_any h.nc hn i x).mono ?_
  rintro e w1 ⟨rfl, h1, t1⟩
  refine ⟨rfl, t1, (rwrite_any (h.mid t1) hn i x).mono ?_⟩
  rintro e w2 ⟨rfl, h2, t2⟩
  refine ⟨rfl, t2, _, _, _, _, _, _, _, _, h.fin h1 h2 t2 (fun hl b e => ?_) (fun hl b e => ?_)⟩
  · rw [St.wr_cs] at hl; exact ⟨hl, b, e, rfl⟩
  · rw [St.wr_cs] at hl; exact ⟨hl, b, e, rfl⟩
/-- Both let a counter rise. -/
theorem Two.bump_any (h : Two w B p r s G H v u A C c d) (hl : s.ws.length ≤ 100000) (hn : s.cnt < 900000) (id : Int) (x : W32) :
    Calls Try.prog 18 #[.pointer (some ⟨p, 0, none⟩), .int .i64 id, .int .u32 (num x)] w fun e w1 => e = .returned (.int .i64 ((bump s id x).1 : Int)) ∧ Turn G w w1 ∧ NR w1 H r s u C d ∧
      Calls Try.prog 19 #[.pointer (some ⟨r, 0, none⟩), .int .i64 id, .int .u32 (num x)] w1 fun e w2 => e = .returned (.int .i64 ((bump s id x).1 : Int)) ∧ Turn H w1 w2 ∧ Two w2 B p r (bump s id x).2 G H v u A C c d := by
  refine (Go.Proofs.Ytpeebdhbcglibaa.bump_any h.nc hl hn id x).mono ?_
  rintro e w1 ⟨rfl, h1, t1⟩
  refine ⟨rfl, t1, h.mid t1, (rbump_any (h.mid t1) hl hn id x).mono ?_⟩
  rintro e w2 ⟨rfl, h2, t2⟩
  refine ⟨rfl, t2, h.fin h1 h2 t2 (fun hl b e => ?_) (fun hl b e => ?_)⟩
  · rw [bump_cs] at hl; exact ⟨hl, b, e, rfl⟩
  · rw [bump_cs] at hl; exact ⟨hl, b, e, rfl⟩
/-- Both reboot. -/
theorem Two.reboot_any (h : Two w B p r s G H v u A C c d) :
    Calls Try.prog 16 #[.pointer (some ⟨p, 0, none⟩)] w fun e w1 => e = .returned (.tuple #[]) ∧ Turn G w w1 ∧
      Calls Try.prog 17 #[.pointer (some ⟨r, 0, none⟩)] w1 fun e w2 => e = .returned (.tuple #[]) ∧ Turn H w1 w2 ∧ TwoE w2 B p r s.boot := by
  have hbl : s.boot.cs.length ≠ 0 → s.cs.length ≠ 0 := fun hl h0 => hl (by unfold St.boot; simp only [List.length_drop]; omega)
  refine (Go.Proofs.Ytpeebdhbcglibaa.reboot_any h.nc).mono ?_
  rintro e w1 ⟨rfl, ⟨A', c', h1, k1⟩, t1⟩
  refine ⟨rfl, t1, (rreboot_any (h.mid t1)).mono ?_⟩
  rintro e w2 ⟨rfl, ⟨C', d', h2, k2⟩, t2⟩
  refine ⟨rfl, t2, _, _, _, _, _, _, _, _, h.fin h1 h2 t2 (fun hl b e => ?_) (fun hl b e => ?_)⟩
  · obtain ⟨a, e1, e2⟩ := k1 (hbl hl)
    exact ⟨hbl hl, a, e1, e2 b e⟩
  · obtain ⟨a, e1, e2⟩ := k2 (hbl hl)
    exact ⟨hbl hl, a, e1, e2 b e⟩
end
/-- The reference's store, as it is laid. -/
theorem rnew_lay {w w3 w4 : World} {B : Option Addr} {d : Nat} {A1 : Option Addr} {d1 : Nat} {ws : List W32} {cs : List Ct} (h1 : w4.ownsRow w3.heap.size 30 1 (.slice A1 ws.length d1) ws.length (u32s ws)) (hd : Below w3.heap.size w3 w4)
    (hB : Lies w3 w.heap.size 2 B cs.length (cellsC cs)) (hca : cs.length ≤ d) (hok : ∀ x ∈ cs, CtOk x) (hw : w.heap.size ≤ w3.heap.size) :
    NR (w4.alloc (.cells #[.slice A1 ws.length d1, .slice B cs.length d, .int .i64 0, .bool false] 29)) (fun i => i = w4.heap.size ∨ (Value.slice A1 ws.length d1).ownBlock = some i) w4.heap.size ⟨ws, cs, 0, true⟩ (.slice A1 ws.length d1) B d := by
  have hsz := hd.size
  have hal : Below w4.heap.size w4 (w4.alloc (.cells #[.slice A1 ws.length d1, .slice B cs.length d, .int .i64 0, .bool false] 29)) := (Below.refl _ _).alloc (Nat.le_refl _) _
  have hlt := h1.lt
  have hl2 := ((hB.below (hd.mono hw)).below (hal.mono (by omega))).wide (B' := (w4.alloc (.cells #[.slice A1 ws.length d1, .slice B cs.length d, .int .i64 0, .bool false] 29)).heap.size) (by have := hal.size; omega)
  refine ⟨⟨?_, Or.inl rfl, fun k hk => ⟨Or.inr hk, ?_⟩, fun i hi => ?_, hl2, hca, hok, fun a ha hn hg => ?_⟩, Blk.new _ _ _ rfl⟩
  · exact owns_mono (owns_same h1 fun k hk => hal.block k (hlt k hk).2) (Nat.zero_le _)
  · have := (hlt k hk).2; omega
  · rcases hi with rfl | hi
    · simp
    · have := (hlt i hi).2; simp; omega
  · obtain ⟨a', e, hb, _⟩ := hB.2 hn
    rw [ha] at e
    cases e
    rcases hg with hg | hg
    · omega
    · have := (hlt _ hg).1; omega
theorem two_new {w w3 w4 : World} {B : Option Addr} {d : Nat} {A1 : Option Addr} {d1 p c : Nat} {ws : List W32} {cs : List Ct} {G : Nat → Prop} {v : Value} {A : Option Addr} (h1 : w4.ownsRow w3.heap.size 30 1 (.slice A1 ws.length d1) ws.length (u32s ws)) (hd : Below w3.heap.size w3 w4)
    (hB : Lies w3 w.heap.size 2 B cs.length (cellsC cs)) (hca : cs.length ≤ d) (hok : ∀ x ∈ cs, CtOk x) (hw : w.heap.size ≤ w3.heap.size) (hn : NC w3 G p ⟨ws, cs, 0, true⟩ v A c) (hg : ∀ i, G i → w.heap.size ≤ i) :
    TwoE (w4.alloc (.cells #[.slice A1 ws.length d1, .slice B cs.length d, .int .i64 0, .bool false] 29)) w.heap.size p w4.heap.size ⟨ws, cs, 0, true⟩ := by
  have hsz := hd.size
  have hlt := h1.lt
  have hr := rnew_lay h1 hd hB hca hok hw
  have hH : ∀ i, (i = w4.heap.size ∨ (Value.slice A1 ws.length d1).ownBlock = some i) → w3.heap.size ≤ i := fun i hi => by
    rcases hi with rfl | hi
    · omega
    · exact (hlt i hi).1
  refine ⟨G, _, v, _, A, B, c, d, (hn.under hd).under ((Below.refl _ _).alloc (by omega) _), hr, fun i hi hh => ?_, fun a ha hl hh => ?_, fun a ha hl hh => ?_, hg, fun i hi => Nat.le_trans hw (hH i hi)⟩
  · have := hn.lay.lt i hi
    have := hH i hh
    omega
  · obtain ⟨a', e, hb, _⟩ := hn.lay.ct.2 hl
    rw [ha] at e
    cases e
    have := hH _ hh
    omega
  · obtain ⟨a', e, hb, _⟩ := hB.2 hl
    rw [ha] at e
    cases e
    have := hg _ hh
    omega
end Go.Proofs.Ytpeebdhbcglibaa
