/- How the laws' arguments are opened: arrays, rows of bytes. -/
import Derived.Test.YtfeiplaiekbdkaaGreatDoorWc
import Derived.Test.YtfeiplaiekbdkaaGreatDoorLaw
import Derived.Deep.Matrix
import Derived.Lib.LaidU8
namespace Go.Proofs.YtfeiplaiekbdkaaGreatDoor
open Go.ChangeShapes Go.WideShapes Go.ChangeAt Go.RowKit

set_option maxRecDepth 100000 in
theorem trod_array_form {H : Type} {enc : TypeId × Value → H} {P : Program} {w : World} {base : Nat} {sp : Nat → Bool} {held : Bool} {fuel : Nat} {t e : TypeId} {n : Nat} {cs : List Value} {x : DataW H × List MemPlace} (ht : P.underlying t = some (.array n e))
    (h : DataW.trod enc P w base sp held fuel t cs = some x) : ∃ ds p, x = (.agg ds, p) := by
  cases fuel with
  | zero => simp [DataW.trod] at h
  | succ fuel =>
    simp only [DataW.trod, ht] at h
    split at h
    · obtain ⟨xs, hm, hx⟩ := Option.map_eq_some_iff.1 h
      exact ⟨_, _, hx.symm⟩
    · cases h
set_option maxRecDepth 100000 in
/-- An array of integers: its cells. -/
theorem open_arr {H : Type} {enc : TypeId × Value → H} {P : Program} {W : World} {t e : TypeId} {n : Nat} {k : IntKind} {v : Value} {d : DataW H} {ps : List MemPlace} {r : Reach} {base : Nat}
    (ht : P.underlying t = some (.array n e)) (he : P.underlying e = some (.int k)) (hc : P.cellsOf e = 1) (hct : P.cellsOf t = n) (hv : Value.okWide P W r base t v)
    (h : DataW.Trod enc P W 0 (fun _ => true) true t v d ps) : ∃ z : Nat → Int, v = .agg (vec n fun i => .int k (z i)) ∧ ∀ i, i < n → (Lit.int k (z i)).wf = true := by
  obtain ⟨cs, rfl, hsz, _⟩ : ∃ cs, v = .agg cs ∧ cs.size = P.cellsOf t ∧ Row.okWide P W r base t cs := by
    simpa [Value.okWide, ht] using hv
  obtain ⟨fuel, hf⟩ := h
  have hcs : (Value.agg cs).cells.toList = cs.toList := rfl
  rw [hcs] at hf
  obtain ⟨ds, p, hx⟩ := trod_array_form ht hf
  rw [hx] at hf
  have hel : ∀ i, i < n → ∃ z, cs[i]? = some (.int k z) ∧ (Lit.int k z).wf = true := by
    intro i hi
    obtain ⟨fuel', d', q, _, h2⟩ := Lib.array_elem ht hf i hi
    rw [hc, Nat.mul_one] at h2
    have hlt : i < cs.size := by rw [hsz, hct]; exact hi
    have e1 : (cs.toList.drop i).take 1 = [cs[i]] := by
      rw [List.drop_eq_getElem_cons (by simpa using hlt)]; simp
    rw [e1] at h2
    obtain ⟨z, e2, _, hw⟩ := DataW.trod_int he h2
    simp at e2
    exact ⟨z, by rw [Array.getElem?_eq_getElem hlt, e2], hw⟩
  refine ⟨fun i => match cs[i]? with | some (.int _ z) => z | _ => 0, ?_, ?_⟩
  · congr 1
    apply Array.ext_getElem?
    intro i
    by_cases hi : i < n
    · obtain ⟨z, hz, _⟩ := hel i hi
      rw [vec_at n _ i hi, hz]
      simp only [hz]
    · rw [Array.getElem?_eq_none (by omega), Array.getElem?_eq_none (by rw [vec_size]; omega)]
  · intro i hi
    obtain ⟨z, hz, hw⟩ := hel i hi
    simp only [hz]
    exact hw
set_option maxRecDepth 100000 in
theorem open_words {H : Type} {enc : TypeId × Value → H} {W : World} {v : Value} {d : DataW H} {ps : List MemPlace} {r : Reach} {base : Nat}
    (hv : Value.okWide Tryz.prog W r base 129 v) (h : DataW.Trod enc Tryz.prog W 0 (fun _ => true) true 129 v d ps) : ∃ f : Nat → W32, v = .agg (vec 8 (wds f)) := by
  obtain ⟨z, rfl, hw⟩ := open_arr Tryz.underlying129 Tryz.underlying28 (by kernel_rfl) (by kernel_rfl) hv h
  refine ⟨fun i => BitVec.ofNat 32 (z i).toNat, congrArg Value.agg (vec_congr fun i hi => ?_)⟩
  have hb := bounds_u32 (hw i hi)
  have : num (BitVec.ofNat 32 (z i).toNat) = z i := by
    unfold num; rw [BitVec.toNat_ofNat]; omega
  rw [wds, this]
set_option maxRecDepth 100000 in
theorem open_block {H : Type} {enc : TypeId × Value → H} {W : World} {v : Value} {d : DataW H} {ps : List MemPlace} {r : Reach} {base : Nat}
    (hv : Value.okWide Tryz.prog W r base 130 v) (h : DataW.Trod enc Tryz.prog W 0 (fun _ => true) true 130 v d ps) : ∃ f : Nat → UInt8, v = .agg (vec 64 (bys f)) := by
  obtain ⟨z, rfl, hw⟩ := open_arr Tryz.underlying130 Tryz.underlying5 (by kernel_rfl) (by kernel_rfl) hv h
  refine ⟨fun i => UInt8.ofNat (z i).toNat, congrArg Value.agg (vec_congr fun i hi => ?_)⟩
  have hb := bounds_u8 (hw i hi)
  have : ((UInt8.ofNat (z i).toNat).toNat : Int) = z i := by
    rw [UInt8.toNat_ofNat']; omega
  rw [bys, this]
set_option maxRecDepth 100000 in
/-- Bytes, with their room. -/
theorem open_bytes_cap {H : Type} {enc : TypeId × Value → H} {P : Program} {W : World} {t e : TypeId} {v : Value} {d : DataW H} {ps : List MemPlace} {r : Reach} {base : Nat}
    (ht : P.underlying t = some (.slice e)) (he : P.underlying e = some (.int .u8)) (hc : P.cellsOf e = 1) (hv : Value.okWide P W r base t v)
    (h : DataW.Trod enc P W 0 (fun _ => true) true t v d ps) : ∃ (A : Option Addr) (c : Nat) (l : List UInt8), v = .slice A l.length c ∧ l.length ≤ maxLen ∧ l.length ≤ c ∧ Lies W W.heap.size 1 A l.length (u8s l) := by
  have h2 := h
  obtain ⟨A, c, l, rfl, hl, hli⟩ := open_bytes ht he hc hv h
  refine ⟨A, c, l, rfl, hl, ?_, hli⟩
  obtain ⟨fuel, hf⟩ := h2
  rcases open_ints ht he hc hf with ⟨hcs, _⟩ | ⟨a, len', cap', zs, hcs, _, hle, _⟩
  · simp [Value.cells] at hcs
    obtain ⟨_, h1, _⟩ := hcs
    simp [h1]
  · simp [Value.cells] at hcs
    obtain ⟨_, h1, h2⟩ := hcs
    omega
set_option maxRecDepth 100000 in
/-- A row of bytes' rows. -/
theorem open_parts {H : Type} {enc : TypeId × Value → H} {P : Program} {W : World} {t e q : TypeId} {v : Value} {d : DataW H} {ps : List MemPlace} {r : Reach} {base : Nat}
    (ht : P.underlying t = some (.slice e)) (he : P.underlying e = some (.slice q)) (hq : P.underlying q = some (.int .u8)) (ce : P.cellsOf e = 1) (cq : P.cellsOf q = 1) (hv : Value.okWide P W r base t v)
    (h : DataW.Trod enc P W 0 (fun _ => true) true t v d ps) : ∃ (A : Option Addr) (c : Nat) (l : List Part), v = .slice A l.length c ∧ l.length ≤ maxLen ∧ Parts W A l := by
  obtain ⟨a0, len, cap, rfl⟩ := okWide_slice ht hv
  obtain ⟨fuel, hf⟩ := h
  rcases Go.Deep.open_int_rows ht he hq ce cq hf with ⟨hcs, _⟩ | ⟨a, len', cap', A, L, C, Z, hcs, _, hle, hm, _, hrow⟩
  · simp [Value.cells] at hcs
    obtain ⟨rfl, rfl, rfl⟩ := hcs
    exact ⟨none, 0, [], rfl, Nat.zero_le _, ⟨Lies.nil _ _ _ _, by simp, by simp⟩⟩
  · simp [Value.cells] at hcs
    obtain ⟨rfl, rfl, rfl⟩ := hcs
    have hb : ∀ r, r < cap → ∃ l : List UInt8, (Z r).take (L r) = l.map fun b => (b.toNat : Int) := fun r hr =>
      u8s_of_wf _ (fun n hn => (hrow r hr).2.2.2.2.1 n (List.mem_of_mem_take hn))
    obtain ⟨B, hB⟩ : ∃ B : Nat → List UInt8, ∀ r, r < cap → (Z r).take (L r) = (B r).map fun b => (b.toNat : Int) :=
      ⟨fun r => if hr : r < cap then Classical.choose (hb r hr) else [], fun r hr => by simp only [hr, dif_pos]; exact Classical.choose_spec (hb r hr)⟩
    have hBl : ∀ r, r < cap → (B r).length = L r := fun r hr => by
      have h1 := congrArg List.length (hB r hr)
      have h2 := hrow r hr
      simp at h1
      omega
    have hlies : ∀ r, r < cap → Lies W W.heap.size 1 (A r) (B r).length (u8s (B r)) := fun r hr => by
      obtain ⟨_, hLC, hCm, hZ, hw, hn, hcell⟩ := hrow r hr
      refine ⟨by simp [u8s], fun hne => ?_⟩
      have hl := hBl r hr
      cases hA : A r with
      | none => have := hn hA; omega
      | some a' =>
        obtain ⟨_, hc⟩ := hcell a' hA
        have h0 := hc 0 (by omega)
        have e0 : a'.add 0 = a' := by simp [Addr.add]
        rw [e0] at h0
        refine ⟨a', rfl, World.block_lt_of_cell? W a' h0, fun j hj => ?_⟩
        rw [u8s_length] at hj
        rw [hc j (by omega)]
        have hj2 : ((Z r).take (L r))[j]? = ((B r).map fun b => (b.toNat : Int))[j]? := by rw [hB r hr]
        rw [List.getElem?_take, if_pos (by omega), List.getElem?_map, List.getElem?_eq_getElem hj] at hj2
        simp only [u8s, List.getElem_map]
        rw [List.getD_eq_getElem?_getD, hj2]
        rfl
    refine ⟨some a, cap, (List.range len).map fun r => (A r, C r, B r), by simp, by simp; omega, ⟨⟨by simp, fun hne => ?_⟩, ?_, ?_⟩⟩
    · simp at hne
      have h0 := (hrow 0 (by omega)).1
      have e0 : a.add 0 = a := by simp [Addr.add]
      rw [e0] at h0
      refine ⟨a, rfl, World.block_lt_of_cell? W a h0, fun j hj => ?_⟩
      simp at hj
      rw [(hrow j (by omega)).1]
      simp [partV, hBl j (by omega)]
    · intro p hp
      obtain ⟨r, hr, rfl⟩ := List.mem_map.1 hp
      exact hlies r (by have := List.mem_range.1 hr; omega)
    · intro p hp
      obtain ⟨r, hr, rfl⟩ := List.mem_map.1 hp
      have hr2 : r < cap := by have := List.mem_range.1 hr; omega
      have := (hrow r hr2).2.1
      show (B r).length ≤ C r
      rw [hBl r hr2]; exact this
set_option maxRecDepth 100000 in
/-- The two tables, off the card's premise. -/
theorem tabs_laid {l : List (String × DataW Unit)} {W : World} (h : laidMet Tryz.prog l W) (h0 : ("portreeve/sha.table", Lib.tabData .u32 (Kl.map num)) ∈ l) (h1 : ("portreeve/sha.first", Lib.tabData .u32 (Hl.map num)) ∈ l) : Tabs W := by
  refine ⟨fun i hi => ?_, fun i hi => ?_⟩
  · have := laid_tab h h0 (g := 1) (by kernel_rfl) (by kernel_rfl) Tryz.underlying159 Tryz.underlying28 (by kernel_rfl) (by kernel_rfl) i (by simpa [Kl] using hi)
    rw [this, List.getD_eq_getElem?_getD, List.getElem?_map]
    have hk : Kl[i]? = some (Kl.getD i 0) := by rw [List.getD_eq_getElem?_getD, List.getElem?_eq_getElem (show i < Kl.length from hi)]; rfl
    rw [hk]; rfl
  · have := laid_tab h h1 (g := 0) (by kernel_rfl) (by kernel_rfl) Tryz.underlying129 Tryz.underlying28 (by kernel_rfl) (by kernel_rfl) i (by simpa [Hl] using hi)
    rw [this, List.getD_eq_getElem?_getD, List.getElem?_map]
    have hk : Hl[i]? = some (Hl.getD i 0) := by rw [List.getD_eq_getElem?_getD, List.getElem?_eq_getElem (show i < Hl.length from hi)]; rfl
    rw [hk]; rfl
end Go.Proofs.YtfeiplaiekbdkaaGreatDoor
