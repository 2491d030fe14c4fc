/- The cursor: a place in bytes; what gives a parse up. -/
import Derived.Test.YtmcpmcicolpoeaaDoorGe
import Derived.Test.YtmcpmcicolpoeaaDoorGc
import Derived.Test.YtmcpmcicolpoeaaDoorVs9
import Derived.Test.YtmcpmcicolpoeaaDoorRef
import Derived.WalkLawsBesides
namespace Go.Proofs.YtmcpmcicolpoeaaDoor
open Go.RowKit

theorem Blk.setAt {w : World} {g : Nat} {t : TypeId} {cs : Array Value} (h : Blk w g t cs) (i : Nat) (u : Value) : Blk (w.setCell ⟨g, i, none⟩ u) g t (cs.setIfInBounds i u) := by
  unfold Blk at h ⊢
  simp [World.setCell, Array.getElem?_modify, h]
theorem Blk.free {w : World} {g : Nat} {t : TypeId} {cs : Array Value} (h : Blk w g t cs) (i : Nat) : w.frozen? ⟨g, i, none⟩ = false := by
  unfold Blk at h; simp [World.frozen?, h]
/-- What a parse is given up with. -/
def faultV (at_ e : Nat) : Value := .iface 45 (.agg #[.int .i64 (at_ : Int), .int .i64 (e : Int)])
def faultC (at_ e : Nat) : List PanicEntry := [{ v := faultV at_ e, recovered := false }]
/-- Block g holds a parser that goes through the bytes b: the field that was read last stands from at_ up to q. -/
structure Cur (w : World) (g : Nat) (A : Option Addr) (c : Nat) (b : By) (at_ q : Nat) : Prop where
  blk : Blk w g 50 #[.slice A b.length c, .int .i64 (at_ : Int), .int .i64 (q : Int)]
  lies : Lies w g 1 A b.length (u8s b)
  cap : b.length ≤ c
  len : b.length ≤ 65536
  ge : at_ ≤ q
  le : q ≤ b.length
section
variable {w w' : World} {g c at_ q : Nat} {A : Option Addr} {b : By}
theorem Cur.at0 (h : Cur w g A c b at_ q) : w.cell? ⟨g, 0, none⟩ = some (.slice A b.length c) := h.blk.cellAt 0 rfl
theorem Cur.at1 (h : Cur w g A c b at_ q) : w.cell? ⟨g, 1, none⟩ = some (.int .i64 (at_ : Int)) := h.blk.cellAt 1 rfl
theorem Cur.at2 (h : Cur w g A c b at_ q) : w.cell? ⟨g, 2, none⟩ = some (.int .i64 (q : Int)) := h.blk.cellAt 2 rfl
theorem Cur.lt (h : Cur w g A c b at_ q) : g < w.heap.size := h.blk.lt
theorem Cur.under (h : Cur w g A c b at_ q) (hb : Below w.heap.size w w') : Cur w' g A c b at_ q := ⟨h.blk.under hb, h.lies.below (hb.mono (Nat.le_of_lt h.lt)), h.cap, h.len, h.ge, h.le⟩
theorem Cur.drewN (h : Cur w g A c b at_ q) (k : Nat) : Cur (w.drewN k) g A c b at_ q := ⟨h.blk.drewN k, h.lies.drewN k, h.cap, h.len, h.ge, h.le⟩
end
section
variable {w : World} {g at_ : Nat}
set_option maxRecDepth 100000 in
theorem must_yes (e : Int) (w : World) (p : Option Addr) : Calls Tryd.prog 37 #[.pointer p, .bool true, .int .i64 e] w fun r w' => r = .returned (.tuple #[]) ∧ w = w' := by
  go_enter Tryd.func37, Tryd.ntmps37
  go_wp2
  go_end0
  exact ⟨rfl, rfl⟩
set_option maxRecDepth 100000 in
theorem must_no (e : Nat) (h1 : w.cell? ⟨g, 1, none⟩ = some (.int .i64 (at_ : Int))) : Calls Tryd.prog 37 #[.pointer (some ⟨g, 0, none⟩), .bool false, .int .i64 (e : Int)] w fun r w' => r = .panicked (faultC at_ e) ∧ w = w' := by
  unfold faultC faultV
  go_enter Tryd.func37, Tryd.ntmps37
  go_wp2
  trace_state
  exact ⟨rfl, rfl, rfl⟩
end
end Go.Proofs.YtmcpmcicolpoeaaDoor
