/- frame.Pool in memory; stretches: its iterator. -/
import Derived.RangeFuncNested
import Derived.RangeFuncBound
import Derived.RangeFuncCalls
import Derived.RangeFuncLeaves
import Derived.Shelf.Abstract
import Derived.Shelf.RegionOpen
import Derived.WalkKit
import Derived.OwnWalkIn
import Derived.TacticsInMore
import Derived.LoopNIn
import Derived.LoopIn
import Derived.Test.YtmhhckpdhjnmeaaRep2
import Derived.Test.YtmhhckpdhjnmeaaFu
import Derived.Test.YtmhhckpdhjnmeaaTurn
namespace Go.Proofs.Ytmhhckpdhjnmeaa
open Go.RowKit Go.Shelf
attribute [local go_sem] Oper.semAt_some

theorem owns_same {w w' : World} {base : Nat} {e : TypeId} {n size : Nat} {v : Value} {xs : List Value} (h : w.ownsRow base e size v n xs) (hs : ∀ k, v.ownBlock = some k → w'.heap[k]? = w.heap[k]?) : w'.ownsRow base e size v n xs := by
  refine ⟨h.1, ?_⟩
  rcases h.2 with h2 | ⟨g, cap, cur, rfl, hb, hg, r⟩
  · exact .inl h2
  · exact .inr ⟨g, cap, cur, rfl, hb, (hs g rfl).trans hg, r⟩
theorem OwnS.rowAt {w : World} {base n c : Nat} {A : Option Addr} {l : List Sp} (h : OwnS w base (.slice A n c) l) : n = l.length ∧ Row w w.heap.size A l := by
  obtain ⟨A', c', e, hr⟩ := h.row
  cases e
  exact ⟨rfl, hr⟩
/-- The blocks of a pool. -/
def FpC (p : Nat) (v : Value) (k : Nat) : Prop := k = p ∨ v.ownBlock = some k
structure PC (w : World) (p : Nat) (v : Value) (b : Sp) (L : List Sp) : Prop where
  blk : Blk w p 58 #[.int .u64 (b.1 : Int), .int .u64 (b.2 : Int), v]
  own : OwnS w 0 v L
  ne : v.ownBlock ≠ some p
section
variable {w w' : World} {p : Nat} {v : Value} {b : Sp} {L : List Sp}
theorem PC.same (h : PC w p v b L) (hs : ∀ k, FpC p v k → w'.heap[k]? = w.heap[k]?) : PC w' p v b L :=
  ⟨(hs p (.inl rfl)).trans h.blk, owns_same h.own fun k hk => hs k (.inr hk), h.ne⟩
theorem PC.lt (h : PC w p v b L) {k : Nat} (hk : FpC p v k) : k < w.heap.size := by
  rcases hk with rfl | hk
  · exact h.blk.lt
  · exact (World.ownsRow.lt h.own k hk).2
theorem PC.turn {G : Nat → Prop} (h : PC w p v b L) (k : Turn G w w') (hd : ∀ i, FpC p v i → ¬ G i) : PC w' p v b L := h.same fun i hi => k.block i (h.lt hi) (hd i hi)
theorem PC.under (h : PC w p v b L) (k : Below w.heap.size w w') : PC w' p v b L := h.same fun i hi => k.block i (h.lt hi)
theorem PC.form (h : PC w p v b L) : ∃ A c, v = .slice A L.length c ∧ Row w w.heap.size A L := h.own.row
theorem PC.c0 (h : PC w p v b L) : w.cell? ⟨p, 0, none⟩ = some (.int .u64 (b.1 : Int)) := h.blk.cellAt 0 rfl
theorem PC.c1 (h : PC w p v b L) : w.cell? ⟨p, 1, none⟩ = some (.int .u64 (b.2 : Int)) := h.blk.cellAt 1 rfl
theorem PC.c2 (h : PC w p v b L) : w.cell? ⟨p, 2, none⟩ = some v := h.blk.cellAt 2 rfl
end
/-- Some blocks are as they were. -/
def KG (K : Nat → Prop) (W W' : World) : Prop := W.heap.size ≤ W'.heap.size ∧ ∀ k, K k → W'.heap[k]? = W.heap[k]?
theorem KG.refl (K : Nat → Prop) (W : World) : KG K W W := ⟨Nat.le_refl _, fun _ _ => rfl⟩
theorem KG.trans {K : Nat → Prop} {X Y Z : World} (h : KG K X Y) (k : KG K Y Z) : KG K X Z := ⟨Nat.le_trans h.1 k.1, fun i hi => (k.2 i hi).trans (h.2 i hi)⟩
theorem KG.of_below {K : Nat → Prop} {B : Nat} {W W' : World} (h : Below B W W') (hB : ∀ k, K k → k < B) : KG K W W' := ⟨h.size, fun k hk => h.block k (hB k hk)⟩
theorem KG.putObj {K : Nat → Prop} {W : World} {l : Nat} (o' : Obj) (hB : ∀ k, K k → k ≠ l) : KG K W (W.putObj l o') := ⟨(grownBy_putObj' W l o').size, fun k hk => World.putObj_heap_other (hB k hk)⟩

/-- A place's value and the stretch there. -/
def encNS (L : List Sp) (x : Fin L.length) : Array Value := #[.int .i64 (x.1 : Int), .agg #[.int .u64 (L[x.1].1 : Int), .int .u64 (L[x.1].2 : Int)]]
def nss (L : List Sp) (k : Nat) : List (Fin L.length) := (List.range k).filterMap fun i => if h : i < L.length then some ⟨i, h⟩ else none
theorem nss_succ (L : List Sp) {k : Nat} (h : k < L.length) : nss L (k + 1) = nss L k ++ [⟨k, h⟩] := by
  unfold nss
  rw [List.range_succ, List.filterMap_append]
  simp [h]
theorem nss_len (L : List Sp) : ∀ {k : Nat}, k ≤ L.length → (nss L k).length = k
  | 0, _ => rfl
  | k + 1, h => by rw [nss_succ L (by omega), List.length_append, nss_len L (by omega)]; rfl
theorem nss_mem (L : List Sp) {k i : Nat} (h : i < L.length) (hk : i < k) : (⟨i, h⟩ : Fin L.length) ∈ nss L k := by
  unfold nss
  exact List.mem_filterMap.2 ⟨i, List.mem_range.2 hk, by simp [h]⟩
theorem stretches_any (p : Nat) (w : World) : Calls Try.prog 30 #[.pointer (some ⟨p, 0, none⟩)] w fun e w' => e = .returned (.func (.func 41) #[] #[.pointer (some ⟨w.heap.size, 0, none⟩)]) ∧ w' = w.alloc (.cells #[.pointer (some ⟨p, 0, none⟩)] 28) := by
  go_enter Try.func30, Try.ntmps30
  go_wp2
  go_ret
  exact ⟨rfl, rfl⟩
def KStr (Bs p : Nat) (v : Value) (k : Nat) : Prop := k = Bs ∨ FpC p v k
set_option maxRecDepth 100000 in
set_option maxHeartbeats 2000000 in
theorem str_stops (n : Nat) (hn : 1 ≤ n) (Bs p : Nat) (v : Value) (b : Sp) (L : List Sp) (w : World) (hB : Blk w Bs 28 #[.pointer (some ⟨p, 0, none⟩)]) (hP : PC w p v b L) (hl : L.length ≤ 1000000) :
    SeqStopsK Fence.wide n Try.prog 41 #[.pointer (some ⟨Bs, 0, none⟩)] (encNS L) (KG (KStr Bs p v)) (fun ys => ys = nss L L.length) (fun pre => ∃ k, k < L.length ∧ pre = nss L (k + 1)) L.length w := by
  intro lp J Jx W hW hA _ hY h0
  obtain ⟨A, c, rfl, _⟩ := hP.form
  have hPW : PC W p (.slice A L.length c) b L := hP.under hW
  have hBW : Blk W Bs 28 #[.pointer (some ⟨p, 0, none⟩)] := hB.under hW
  have s0 := hBW.cellAt 0 (v := .pointer (some ⟨p, 0, none⟩)) rfl
  have s1 := hPW.c2
  have HP := Lib.hid hPW
  have HJ := Lib.hid h0
  have HA := Lib.hid hA
  have HY := Lib.hid hY
  have HK : Hid (∀ k, KStr Bs p (.slice A L.length c) k → k < W.heap.size) := Lib.hid fun k hk => by
    rcases hk with rfl | hk
    · exact hBW.lt
    · exact hPW.lt hk
  clear h0 hA hY hB hP hW hPW hBW
  refine callsIn_of_wp Try.func41 rfl trivial ?_ rfl
  simp only [Try.ntmps41, List.size_toArray, List.length_cons, List.length_nil, Nat.reduceAdd, Nat.reduceSub, Array.replicate_succ, Array.replicate_zero, List.push_toArray, List.append_toArray, List.nil_append, List.cons_append]
  gi_wp2
  gi_loopw [10] (fun i wr => ∃ k : Nat, k ≤ L.length ∧ i = .int .i64 k ∧ Hid (J (nss L k) wr ∧ KG (KStr Bs p (.slice A L.length c)) W wr)) (fun i _ => L.length - (intOf i).toNat)
  case atStart => exact ⟨0, Nat.zero_le _, rfl, Lib.hid ⟨HJ.out, KG.refl _ _⟩⟩
  case round =>
    obtain ⟨k, hk, rfl, hR⟩ := hrel
    by_cases hlt : k < L.length
    · have hPr : PC wr p (.slice A L.length c) b L := HP.out.same fun i hi => hR.out.2.2 i (.inr hi)
      obtain ⟨a, q, rfl, hp, hpb, hc1, hc2⟩ := hPr.own.rowAt.2.at hlt
      obtain ⟨x, hx⟩ : ∃ x, L[k] = x := ⟨_, rfl⟩
      rw [hx] at hc1 hc2
      obtain ⟨x1, x2⟩ := x
      have hJ2 : J (nss L k) (wr.alloc (spo x1 x2)) := HA.out _ _ _ none hR.out.1 (World.grownBy_alloc _ _ none) (fun r e => by cases e)
      obtain ⟨fn, tmps, assign, body, hy, hRR⟩ := HY.out _ ⟨k, hlt⟩ (wr.alloc (spo x1 x2)) hJ2 (by rw [nss_len L (by omega)]; exact hlt)
      have he : encNS L ⟨k, hlt⟩ = #[.int .i64 (k : Int), .agg #[.int .u64 (x1 : Int), .int .u64 (x2 : Int)]] := by unfold encNS; simp only [hx]
      rw [he] at hy
      replace hy : (Instr.yield lp #[.int .i64 (k : Int), .agg #[.int .u64 (x1 : Int), .int .u64 (x2 : Int)]]).run Try.prog (wr.alloc (spo x1 x2)) = .ok (.round lp fn tmps assign body) (wr.alloc (spo x1 x2)) := hy
      have HR := Lib.hid hRR
      have HRW : Hid (KG (KStr Bs p (.slice (some a) L.length c)) W (wr.alloc (spo x1 x2))) := Lib.hid (hR.out.2.trans (KG.of_below (B := wr.heap.size) ((Below.refl _ _).alloc (Nat.le_refl _) _) fun i hi => Nat.lt_of_lt_of_le (HK.out i hi) hR.out.2.1))
      clear hRR hJ2 he hx hPr hpb
      gi_wp2
      refine HR.out.mono ?_
      rintro e W3 (⟨rfl, hJ3, hk3⟩ | ⟨rfl, hJx3⟩)
      · have HN := Lib.hid (And.intro hJ3 (HRW.out.trans hk3))
        clear hJ3 hk3 hy
        gi_wp2
        go_roundw
        case rel => exact ⟨k + 1, by omega, by simp, Lib.hid ⟨by rw [nss_succ L hlt]; exact HN.out.1, HN.out.2⟩⟩
        case measure => simp [intOf]; omega
      · gi_wp2
        refine bodyPost_ret (results_none rfl _ _ _) rfl ?_
        exact ⟨⟨_, rfl⟩, .inr ⟨_, ⟨k, hlt, by rw [nss_succ L hlt]⟩, hJx3⟩⟩
    · obtain rfl : k = L.length := by omega
      gi_wp2
      go_end0
      exact ⟨⟨_, rfl⟩, .inl ⟨_, rfl, hR.out.1⟩⟩
end Go.Proofs.Ytmhhckpdhjnmeaa
