/- ctr: All; counters in a row. -/
import Derived.Great.BuildSlice
import Derived.Test.YtpeebdhbcglibaaCr
import Derived.Test.YtpeebdhbcglibaaQs
namespace Go.Proofs.Ytpeebdhbcglibaa
open Go.RowKit

/-- Counters as cells. -/
def cellsK : List (W32 × Nat) → List Value
  | [] => []
  | x :: xs => .int .u32 (num x.1) :: .int .i64 (x.2 : Int) :: cellsK xs
theorem cellsK_length : ∀ l : List (W32 × Nat), (cellsK l).length = l.length * 2
  | [] => rfl
  | _ :: xs => by simp [cellsK, cellsK_length xs]; omega
theorem cellsK_one : ∀ l : List (W32 × Nat), ∀ u ∈ cellsK l, u.oneCell' = true
  | [], u, h => by cases h
  | _ :: xs, u, h => by
    rcases List.mem_cons.1 h with rfl | h
    · rfl
    · rcases List.mem_cons.1 h with rfl | h
      · rfl
      · exact cellsK_one xs u h
theorem cellsK_at : ∀ (l : List (W32 × Nat)) (k : Nat) (h : k < l.length), (cellsK l)[k * 2]? = some (.int .u32 (num l[k].1)) ∧ (cellsK l)[k * 2 + 1]? = some (.int .i64 (l[k].2 : Int))
  | _ :: _, 0, _ => ⟨rfl, rfl⟩
  | _ :: xs, k + 1, h => by
    have := cellsK_at xs k (by simpa using h)
    rw [show (k + 1) * 2 = k * 2 + 1 + 1 by omega]
    exact this
theorem cellsK_append : ∀ l m : List (W32 × Nat), cellsK (l ++ m) = cellsK l ++ cellsK m
  | [], _ => rfl
  | x :: xs, m => by simp [cellsK, cellsK_append xs m]
theorem infoK : (Try.prog.info? 55).map (fun i => (i.zero, i.size, i.bytes)) = some (some (.agg #[.int .u32 0, .int .i64 0]), 2, 16) := by kernel_rfl
/-- A row of counters that is the call's own. -/
def OwnK (w : World) (base : Nat) (v : Value) (l : List (W32 × Nat)) : Prop := w.ownsRow base 55 2 v l.length (cellsK l)
theorem OwnK.nil (w : World) (base : Nat) : OwnK w base (.slice none 0 0) [] := World.ownsRow_nil _ _ _ _
theorem OwnK.under {w w' : World} {base : Nat} {v : Value} {l : List (W32 × Nat)} (h : OwnK w base v l) (hb : Below w.heap.size w w') : OwnK w' base v l := by
  refine ⟨h.1, ?_⟩
  rcases h.2 with h2 | ⟨g, cap, cur, hv, hg, hh, r⟩
  · exact Or.inl h2
  · have hlt : g < w.heap.size := (Array.getElem?_eq_some_iff.1 hh).1
    exact Or.inr ⟨g, cap, cur, hv, hg, (hb.block g hlt).trans hh, r⟩
theorem OwnK.form {w : World} {base : Nat} {v : Value} {l : List (W32 × Nat)} (h : OwnK w base v l) : ∃ A c, v = .slice A l.length c ∧ l.length ≤ c ∧ Lies w w.heap.size 2 A l.length (cellsK l) ∧ v.ownBlock = A.map (·.block) ∧ ∀ k, v.ownBlock = some k → base ≤ k ∧ k < w.heap.size := by
  rcases h.2 with ⟨rfl, h0⟩ | ⟨g, cap, cur, rfl, hg, hh, hle, _⟩
  · obtain rfl : l = [] := List.eq_nil_of_length_eq_zero h0
    exact ⟨none, 0, rfl, Nat.le_refl _, Lies.of_owns h, rfl, fun k hk => by simp [Value.ownBlock] at hk⟩
  · exact ⟨_, cap, rfl, hle, Lies.of_owns h, rfl, fun k hk => by
      simp [Value.ownBlock] at hk
      subst hk
      exact ⟨hg, (Array.getElem?_eq_some_iff.1 hh).1⟩⟩
set_option maxRecDepth 100000 in
theorem app_ctr (w : World) (base : Nat) (v : Value) (l : List (W32 × Nat)) (x : W32) (e : Nat) (hown : OwnK w base v l) (hb : base ≤ w.heap.size) (hk : l.length + 1 ≤ 1000000) (ty : TypeId) :
    ∃ v' w', (appS #[40, 40] ty #[v, .slice (some ⟨w.heap.size, 0, none⟩) 1 1]).run Try.prog (w.alloc (.cells #[.int .u32 (num x), .int .i64 (e : Int)] 55)) = .ok v' w' ∧
      OwnK w' base v' (l ++ [(x, e)]) ∧ (w.alloc (.cells #[.int .u32 (num x), .int .i64 (e : Int)] 55)).grownBy w' v.ownBlock ∧ (v'.ownBlock = v.ownBlock ∨ v'.ownBlock = some (w.heap.size + 1)) := by
  obtain ⟨i0, hi, hz0, hz1, hz2⟩ := info_parts infoK
  have hnews : ∀ j u, (cellsK [(x, e)])[j]? = some u → (w.alloc (.cells #[.int .u32 (num x), .int .i64 (e : Int)] 55)).cell? ((⟨w.heap.size, 0, none⟩ : Addr).add j) = some u := by
    intro j u hu
    have e : ((⟨w.heap.size, 0, none⟩ : Addr).add j) = ⟨w.heap.size, j, none⟩ := by unfold Addr.add; by_cases h0 : j = 0 <;> simp [h0]
    rw [e, cell_of_row _ w.heap.size j _ 55 (0, 0) (heap_alloc_new w _)]
    rw [← Array.getElem?_toList]
    exact hu
  obtain ⟨v', w', h1, h2, h3, _, h5⟩ := run_append_own_at (P := Try.prog) (w.alloc (.cells #[.int .u32 (num x), .int .i64 (e : Int)] 55)) base 40 ty 55 i0 (.agg #[.int .u32 0, .int .i64 0]) 2 16 Try.underlying40 hi hz0 hz1 hz2 rfl (by decide) v l.length (cellsK l) (hown.under ((Below.refl _ _).alloc (Nat.le_refl _) _))
    ⟨w.heap.size, 0, none⟩ 1 1 (cellsK [(x, e)]) (cellsK_length _) hnews (cellsK_one _) (by unfold maxLen; omega) (by omega) (by simp; omega)
  exact ⟨v', w', h1, by unfold OwnK; rw [cellsK_append, List.length_append]; exact h2, h3, h5.imp id fun h => by rw [h]; simp⟩
set_option maxRecDepth 100000 in
theorem build_ctr (a m : Int) (w : World) : (Instr.buildSlice 40 1 #[(0, .agg #[.int .u32 a, .int .i64 m])]).run Try.prog w = .ok (.slice (some ⟨w.heap.size, 0, none⟩) 1 1) (w.alloc (.cells #[.int .u32 a, .int .i64 m] 55)) := by
  obtain ⟨i0, hi, hz0, hz1, hz2⟩ := info_parts infoK
  refine run_buildSlice (P := Try.prog) w 40 55 1 _ _ i0 (.agg #[.int .u32 0, .int .i64 0]) Try.underlying40 hi hz0 (by rw [hz1]; decide) (by rw [hz1]; decide) ?_
  rw [hz1]
  kernel_rfl
/-- What All tells. -/
def alls (ws : List W32) (k : Nat) : List (W32 × Nat) := (List.range k).map fun (i : Nat) => ((rv ws (i : Int)).val, (rv ws (i : Int)).err)
theorem alls_len (ws : List W32) (k : Nat) : (alls ws k).length = k := by simp [alls]
theorem alls_succ (ws : List W32) (k : Nat) : alls ws (k + 1) = alls ws k ++ [((rv ws (k : Int)).val, (rv ws (k : Int)).err)] := by simp [alls, List.range_succ]
theorem alls_at (ws : List W32) (k i : Nat) (h : i < (alls ws k).length) : (alls ws k)[i] = ((rv ws (i : Int)).val, (rv ws (i : Int)).err) := by simp [alls]
/-- The row so far. -/
structure AllAt (w W : World) (v : Value) (l : List (W32 × Nat)) : Prop where
  own : OwnK W w.heap.size v l
  be : Below w.heap.size w W
theorem AllAt.app {w W w' : World} {v v' : Value} {l l' : List (W32 × Nat)} {o : Obj} (H : AllAt w W v l) (hown : OwnK w' w.heap.size v' l') (hgr : (W.alloc o).grownBy w' v.ownBlock) : AllAt w w' v' l' := by
  obtain ⟨A, c, _, _, _, _, hk⟩ := H.own.form
  exact ⟨hown, (H.be.alloc H.be.size _).grown hgr (by have := H.be.size; simp; omega) fun k hk2 => (hk k hk2).1⟩
/-- How All ends. -/
def AllP (w : World) (ws : List W32) (m : Nat) (e : Ending) (w' : World) : Prop := ∃ B d, e = .returned (.slice B m d) ∧ Lies w' w'.heap.size 2 B m (cellsK (alls ws m)) ∧ Below w.heap.size w w' ∧ ∀ a, B = some a → w.heap.size ≤ a.block
attribute [local go_sem ↓ high] builtin_appS
set_option maxRecDepth 100000 in
set_option maxHeartbeats 2000000 in
theorem all_any {w : World} {G : Nat → Prop} {p c : Nat} {s : St} {v : Value} {A : Option Addr} (h : NC w G p s v A c) (hl : s.ws.length ≤ 100000) (n : Int) (m : Nat) (hm : m = (min n 1000).toNat) :
    Calls Try.prog 14 #[.pointer (some ⟨p, 0, none⟩), .int .i64 n] w (AllP w s.ws m) := by
  have hm1 : m ≤ 1000 := by omega
  have HRE : Hid (∀ (k : Nat) W, Below w.heap.size w W → Calls Try.prog 10 #[.pointer (some ⟨p, 0, none⟩), .int .i64 (k : Int)] W fun e w' => e = .returned (.tuple #[.int .u32 (num (rv s.ws (k : Int)).val), .int .i64 ((rv s.ws (k : Int)).err : Int)]) ∧ Below W.heap.size W w') := Lib.hid fun k W hW => recover_any (h.under hW) hl (k : Int) _ rfl
  obtain ⟨z, hz⟩ : ∃ z : Int, z = min n 1000 := ⟨_, rfl⟩
  have hzm : m = z.toNat := by rw [hm, hz]
  have hmin : ∀ ts ty W, (Builtin.min_ ts ty #[.int .i64 n, .int .i64 1000]).run Try.prog W = .ok (.int .i64 z) W := fun ts ty W => by
    rw [run_min_int2]
    have : (if (1000 : Int) < n then 1000 else n) = z := by split <;> omega
    rw [this]
  have HZM := Lib.hid hzm
  clear h hm hz hzm
  go_enter Try.func14, Try.ntmps14
  go_wp2
  clear hmin
  go_loopw [5, 11] (fun vo vi W => ∃ (k d : Nat) (B : Option Addr), k ≤ m ∧ vi = .int .i64 k ∧ vo = .slice B k d ∧ Hid (AllAt w W (.slice B k d) (alls s.ws k))) (fun _ i _ => m - (intOf i).toNat)
  case atStart => exact ⟨0, 0, none, Nat.zero_le _, rfl, rfl, Lib.hid ⟨OwnK.nil _ _, Below.refl _ _⟩⟩
  case round =>
    obtain ⟨k, d, B, hk, rfl, rfl, HI⟩ := hrel
    by_cases hlt : k < m
    · have hkz : (k : Int) < z := by have := HZM.out; omega
      obtain ⟨W, hW⟩ : ∃ W : World, W = wr := ⟨_, rfl⟩
      subst hW
      obtain ⟨x, hx⟩ : ∃ x, x = (rv s.ws (k : Int)).val := ⟨_, rfl⟩
      obtain ⟨er, her⟩ : ∃ er, er = (rv s.ws (k : Int)).err := ⟨_, rfl⟩
      have HR1 := Lib.hid (HRE.out k W HI.out.be)
      have hsucc := alls_succ s.ws k
      rw [← hx, ← her] at HR1 hsucc
      have HSU := Lib.hid hsucc
      have HAP : Hid (∀ W1, Below W.heap.size W W1 → ∃ B2 d2 w', (appS #[40, 40] 40 #[.slice B k d, .slice (some ⟨W1.heap.size, 0, none⟩) 1 1]).run Try.prog (W1.alloc (.cells #[.int .u32 (num x), .int .i64 (er : Int)] 55)) = .ok (.slice B2 (k + 1) d2) w' ∧ AllAt w w' (.slice B2 (k + 1) d2) (alls s.ws (k + 1))) := Lib.hid fun W1 hd => by
        have hi : AllAt w W1 (.slice B k d) (alls s.ws k) := ⟨HI.out.own.under hd, HI.out.be.trans (hd.mono HI.out.be.size)⟩
        obtain ⟨v', w', hrun, hown, hgr, _⟩ := app_ctr W1 w.heap.size (.slice B k d) (alls s.ws k) x er hi.own hi.be.size (by rw [alls_len]; omega) 40
        rw [← HSU.out] at hown
        obtain ⟨B2, d2, rfl, _⟩ := hown.form
        rw [alls_len] at hrun hown
        exact ⟨B2, d2, w', hrun, hi.app hown hgr⟩
      have HK := Lib.hid hlt
      have hbs := fun W1 => build_ctr (num x) (er : Int) W1
      have hk9 : k ≤ 1000 := by omega
      clear hx her hsucc hlt hk
      go_wp2_with (go_at_call 10; refine HR1.out.mono ?_; rintro e w1 ⟨rfl, hd⟩; obtain ⟨B2, d2, w2, hrun, HA2⟩ := HAP.out w1 hd; have HA3 := Lib.hid HA2; clear hd HA2)
      go_roundw
      case rel => exact ⟨k + 1, d2, B2, HK.out, by go_num, rfl, HA3⟩
      case measure => have := HK.out; simp [intOf]; omega
    · obtain rfl : k = m := by omega
      have hkz : ¬ (k : Int) < z := by have := HZM.out; omega
      clear hlt hk
      go_wp2_with fail
      go_ret
      obtain ⟨_, _, e, _, hlie, hob, hko⟩ := HI.out.own.form
      injection e with e1 e2 e3
      rw [alls_len] at hlie
      subst e1
      exact ⟨_, _, rfl, hlie, HI.out.be, fun a ha => (hko a.block (by rw [hob, ha]; rfl)).1⟩
end Go.Proofs.Ytpeebdhbcglibaa
