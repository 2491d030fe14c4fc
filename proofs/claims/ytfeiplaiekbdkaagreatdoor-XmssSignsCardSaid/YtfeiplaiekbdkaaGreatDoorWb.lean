/- Merged: Tab, Sha, Sched, Work, Block. -/
import Derived.KernelRfl
import Derived.WalkSpells
import Derived.Deep.Cut
import Derived.Deep.QuietTactic
import Derived.BigQuiet
import Derived.Test.YtfeiplaiekbdkaaGreatDoorWa
/- The two tables. -/
namespace Go.Proofs.YtfeiplaiekbdkaaGreatDoor
open Go.RowKit

set_option maxRecDepth 100000 in
theorem info34 : (Tryz.prog.info? 129).map (·.size) = some 8 := by kernel_rfl
set_option maxRecDepth 100000 in
theorem info32 : (Tryz.prog.info? 159).map (·.size) = some 64 := by kernel_rfl
def zw : Nat → W32 := fun _ => 0
set_option maxRecDepth 100000 in
theorem zeroV34 (w : World) : (zeroValue 129).run Tryz.prog w = .ok (.agg (vec 8 (wds zw))) w :=
  (zero_of_info (P := Tryz.prog) (t := 129) (v := .agg (vec 8 (wds zw))) (n := 8) (by kernel_rfl)).1 w
set_option maxRecDepth 100000 in
theorem zeroV32 (w : World) : (zeroValue 159).run Tryz.prog w = .ok (.agg (vec 64 (wds zw))) w :=
  (zero_of_info (P := Tryz.prog) (t := 159) (v := .agg (vec 64 (wds zw))) (n := 64) (by kernel_rfl)).1 w
def Kl : List W32 := [1116352408, 1899447441, 3049323471, 3921009573, 961987163, 1508970993, 2453635748, 2870763221, 3624381080, 310598401, 607225278, 1426881987, 1925078388, 2162078206, 2614888103, 3248222580, 3835390401, 4022224774, 264347078, 604807628, 770255983, 1249150122, 1555081692, 1996064986, 2554220882, 2821834349, 2952996808, 3210313671, 3336571891, 3584528711, 113926993, 338241895, 666307205, 773529912, 1294757372, 1396182291, 1695183700, 1986661051, 2177026350, 2456956037, 2730485921, 2820302411, 3259730800, 3345764771, 3516065817, 3600352804, 4094571909, 275423344, 430227734, 506948616, 659060556, 883997877, 958139571, 1322822218, 1537002063, 1747873779, 1955562222, 2024104815, 2227730452, 2361852424, 2428436474, 2756734187, 3204031479, 3329325298]
def Hl : List W32 := [1779033703, 3144134277, 1013904242, 2773480762, 1359893119, 2600822924, 528734635, 1541459225]
def Kt (i : Nat) : W32 := Kl.getD i 0
def H0 (i : Nat) : W32 := Hl.getD i 0
/-- The two tables, as they stand when a call begins. -/
def Tabs (w : World) : Prop := (∀ i, i < 64 → w.cell? ⟨1, i, none⟩ = some (wds Kt i)) ∧ (∀ i, i < 8 → w.cell? ⟨0, i, none⟩ = some (wds H0 i))
set_option maxRecDepth 100000 in
theorem tabs_below {w w' : World} (h : Tabs w) (hb : Below w.heap.size w w') : Tabs w' :=
  ⟨fun i hi => (hb.cell (World.block_lt_of_cell? w _ (h.1 i hi))).trans (h.1 i hi), fun i hi => (hb.cell (World.block_lt_of_cell? w _ (h.2 i hi))).trans (h.2 i hi)⟩
set_option maxRecDepth 100000 in
theorem tab_lt0 {w : World} (h : Tabs w) : 1 < w.heap.size := World.block_lt_of_cell? w _ (h.1 0 (by decide))

attribute [local go_sem ↓ high] zeroV32 zeroV34
set_option maxRecDepth 100000 in
theorem init_any (w : World) (hT : Tabs w) :
    Calls Tryz.prog 101 #[] w fun e w' => e = .returned (.agg (vec 8 (wds H0))) ∧ Below w.heap.size w w' := by
  have hA : Arr (w.alloc (.cells (vec 8 (wds zw)) 129)) w.heap.size 129 8 (wds zw) := Arr.new w _ _ _
  have hL : (loadVar 129 ⟨0, 0, none⟩).run Tryz.prog (w.alloc (.cells (vec 8 (wds zw)) 129)) = .ok (.agg (vec 8 (wds H0))) (w.alloc (.cells (vec 8 (wds zw)) 129)) :=
    run_load_cells (tabs_below hT ((Below.refl _ _).alloc (Nat.le_refl _) _)).2 Tryz.underlying129 rfl info34
  have HA := Lib.hid hA
  have HL := Lib.hid hL
  clear hA hL hT
  go_enter Tryz.func101, Tryz.ntmps101
  go_wp2_with (first
    | (refine wl_load rfl 129 _ rfl _ rfl _ HL.out ?_)
    | (refine wl_store rfl 129 _ _ rfl _ rfl _ rfl (run_store_arr HA.out (wds H0) info34 (wds_one _ _)) ?_))
  refine bodyPost_ret (results_cell1 rfl _ _ _ rfl (run_load_arr (HA.out.row _) Tryz.underlying129 rfl info34)) rfl ⟨rfl, ?_⟩
  exact below_row ((Below.refl _ _).alloc (Nat.le_refl _) _) (Nat.le_refl _) _
end Go.Proofs.YtfeiplaiekbdkaaGreatDoor
/- SHA-256 as plain functions; word.Be32 at the block's words. -/
namespace Go.Proofs.YtfeiplaiekbdkaaGreatDoor
open Go.RowKit

theorem accN_congr (o : Int) (wide m : Nat) (b c : Nat → UInt8) : ∀ k, (∀ i, i < k → b i = c i) → accN o wide m b k = accN o wide m c k
  | 0, _ => rfl
  | k + 1, h => by
    rw [accN, accN, accN_congr o wide m b c k fun i hi => h i (by omega), h k (by omega)]
/-- The j-th word of a block. -/
def mW (b : Nat → UInt8) (j : Nat) : W32 := BitVec.ofNat 32 (accN 0 4 4294967296 (fun i => b (4 * j + i)) 4)
theorem mW_num (b : Nat → UInt8) (j : Nat) : num (mW b j) = ((accN 0 4 4294967296 (fun i => b (4 * j + i)) 4 : Nat) : Int) := by
  have h := accN_lt 0 4 32 (fun i => b (4 * j + i)) 4
  unfold num mW
  rw [BitVec.toNat_ofNat, Nat.mod_eq_of_lt h]
/-- The words, i of them added. -/
def sch (m : Nat → W32) : Nat → Nat → W32
  | 0 => fun j => if j < 16 then m j else 0
  | i + 1 => upd (sch m i) (16 + i) (fs1 (sch m i (14 + i)) + sch m i (9 + i) + fs0 (sch m i (1 + i)) + sch m i i)
def one (k w : W32) (v : Nat → W32) : W32 := v 7 + fS1 (v 4) + fch (v 4) (v 5) (v 6) + k + w
def two (v : Nat → W32) : W32 := fS0 (v 0) + fmaj (v 0) (v 1) (v 2)
def rnd (k w : W32) (v : Nat → W32) : Nat → W32 := fun j => if j = 0 then one k w v + two v else if j = 4 then v 3 + one k w v else v (j - 1)
def rounds (K W v : Nat → W32) : Nat → Nat → W32
  | 0 => v
  | i + 1 => rnd (K i) (W i) (rounds K W v i)
def comp (h : Nat → W32) (b : Nat → UInt8) : Nat → W32 := fun j => h j + rounds Kt (sch (mW b) 48) h 64 j

/-- bytes of an array as a row -/
def l64 (b : Nat → UInt8) : List UInt8 := (List.range 64).map b
theorem l64_length (b : Nat → UInt8) : (l64 b).length = 64 := by simp [l64]
theorem l64_get (b : Nat → UInt8) (i : Nat) (h : i < 64) : (l64 b).getD i 0 = b i := by
  rw [List.getD_eq_getElem?_getD]; simp [l64, h]
theorem u8s_l64 (b : Nat → UInt8) : u8s (l64 b) = (List.range 64).map fun i => bys b (0 + i) := by
  simp [u8s, l64, bys]
set_option maxHeartbeats 400000 in
theorem be32_in (b : Nat → UInt8) (j : Nat) (hj : j < 16) (A : Option Addr) (c B : Nat) (w : World) (h : Lies w B 1 A 64 (u8s (l64 b))) :
    Calls Tryz.prog 59 #[.slice A 64 c, .int .i64 (4 * (j : Int))] w fun e w' => e = .returned (.tuple #[.int .u32 (num (mW b j)), .bool true]) ∧ ∃ n, w' = w.drewN n := by
  have hh := h
  have hlen := l64_length b
  have L := read32_in (l64 b) A c B (4 * j) 0 (Or.inl rfl) w (by omega) (by rw [hlen]; decide) (by rw [hlen]; exact hh)
  rw [hlen] at L
  rw [accN_congr 0 4 4294967296 (bAt (l64 b) (4 * j)) (fun i => b (4 * j + i)) 4 (fun i hi => l64_get b _ (by omega)), ← mW_num] at L
  have e : ((4 * j : Nat) : Int) = 4 * (j : Int) := by omega
  rw [e] at L
  have HL := Lib.hid L
  clear L hlen hh e h hj
  go_enter Tryz.func59, Tryz.ntmps59
  go_wp2_with (go_at_call 82; refine HL.out.mono ?_; rintro e w1 ⟨rfl, hd⟩; have HD := Lib.hid hd; clear hd)
  go_ret2
  exact ⟨rfl, HD.out⟩
end Go.Proofs.YtfeiplaiekbdkaaGreatDoor
/- sha.schedule. -/
namespace Go.Proofs.YtfeiplaiekbdkaaGreatDoor
open Go.RowKit

attribute [local go_sem ↓ high] zeroV32 zeroV34
attribute [local go_sem] num_add
/-- The first k words. -/
def part (m : Nat → W32) (k : Nat) : Nat → W32 := fun j => if j < k then m j else 0
theorem part_upd (m : Nat → W32) (k : Nat) : upd (part m k) k (m k) = part m (k + 1) := by
  funext j
  unfold upd part
  by_cases h : j = k
  · subst h; simp
  · by_cases h2 : j < k
    · simp [h, h2, show j < k + 1 by omega]
    · simp [h, h2, show ¬ j < k + 1 by omega]

set_option maxHeartbeats 1000000 in
set_option maxRecDepth 100000 in
theorem schedule_any (b : Nat → UInt8) (w : World) :
    Calls Tryz.prog 114 #[.agg (vec 64 (bys b))] w fun e w' => e = .returned (.agg (vec 64 (wds (sch (mW b) 48)))) ∧ Below w.heap.size w w' := by
  go_enter Tryz.func114, Tryz.ntmps114
  go_wp2
  obtain ⟨W0, hW0⟩ : ∃ W0, W0 = ((w.alloc (.cells (vec 64 (bys b)) 130)).alloc (.cells (vec 64 (wds zw)) 159)).alloc (.cells (vec 64 (wds zw)) 159) := ⟨_, rfl⟩
  have hA : Arr W0 w.heap.size 130 64 (bys b) := by rw [hW0]; exact ((Arr.new w _ _ _).alloc _).alloc _
  have hR : Arr W0 (w.heap.size + 1) 159 64 (wds zw) := by rw [hW0]; exact (Arr.newAt (w.alloc (.cells (vec 64 (bys b)) 130)) 159 64 (wds zw) (by simp)).alloc _
  have hM : Arr W0 (w.heap.size + 1 + 1) 159 64 (wds (part (mW b) 0)) := by rw [hW0]; exact (Arr.newAt ((w.alloc (.cells (vec 64 (bys b)) 130)).alloc (.cells (vec 64 (wds zw)) 159)) 159 64 (wds zw) (by simp)).congr (fun i _ => by simp [wds, part, zw])
  have hB : Below w.heap.size w W0 := by rw [hW0]; exact (((Below.refl _ _).alloc (Nat.le_refl _) _).alloc (by simp) _).alloc (by simp; omega) _
  rw [← hW0]
  clear hW0
  go_loopw [6] (fun i W => ∃ k : Nat, k ≤ 16 ∧ i = .int .i64 k ∧ Arr W w.heap.size 130 64 (bys b) ∧ Arr W (w.heap.size + 1) 159 64 (wds zw) ∧ Arr W (w.heap.size + 1 + 1) 159 64 (wds (part (mW b) k)) ∧ Below w.heap.size w W) (fun i _ => 16 - (intOf i).toNat)
  case atStart => exact ⟨0, by decide, rfl, hA, hR, hM, hB⟩
  case round =>
    obtain ⟨k, hk, rfl, hA, hR, hM, hB⟩ := hrel
    by_cases hlt : k < 16
    · have hli := hA.lies hA.lt 0 64 (by decide)
      rw [← u8s_l64] at hli
      have HL := Lib.hid hli
      have hc := fun n => (hM.drewN n).cell (i := k) (by omega)
      have HC := Lib.hid hc
      have HF := Lib.hid (fun n => (hM.drewN n).frozen k)
      have HAl := Lib.hid (And.intro hA (And.intro hR (And.intro hM hB)))
      clear hA hR hM hB hli hc
      go_wp2_with (go_at_call 59; refine (be32_in b k hlt _ _ _ _ HL.out).mono ?_; rintro e w1 ⟨rfl, n, rfl⟩; have h1 := HC.out n; have h2 := HF.out n)
      go_roundw
      case rel =>
        obtain ⟨hA, hR, hM, hB⟩ := HAl.out
        have hM2 := (hM.drewN n).set k (.int .u32 (num (mW b k)))
        rw [wds_upd, part_upd] at hM2
        exact ⟨k + 1, by omega, by go_num, (hA.drewN n).far (p := ⟨w.heap.size + 1 + 1, k, none⟩) (show w.heap.size ≠ w.heap.size + 1 + 1 by omega) _, (hR.drewN n).far (p := ⟨w.heap.size + 1 + 1, k, none⟩) (show w.heap.size + 1 ≠ w.heap.size + 1 + 1 by omega) _, hM2, (below_drewN hB n).setCell (show w.heap.size ≤ w.heap.size + 1 + 1 by omega) _⟩
      case measure => simp [intOf]; omega
    · obtain rfl : k = 16 := by omega
      rw [show ((16 : Nat) : Int) = 16 from rfl]
      have hAl : Hid (Arr wr (w.heap.size + 1) 159 64 (wds zw) ∧ Arr wr (w.heap.size + 1 + 1) 159 64 (wds (sch (mW b) 0)) ∧ Below w.heap.size w wr) := Lib.hid ⟨hR, hM, hB⟩
      clear hA hR hM hB hlt hk
      go_wp2
      obtain ⟨W1, rfl⟩ : ∃ W1 : World, W1 = wr := ⟨_, rfl⟩
      go_loopw [5] (fun i W => ∃ k : Nat, k ≤ 48 ∧ i = .int .i64 ((16 + k : Nat) : Int) ∧ Arr W (w.heap.size + 1) 159 64 (wds zw) ∧ Arr W (w.heap.size + 1 + 1) 159 64 (wds (sch (mW b) k)) ∧ Below w.heap.size w W) (fun i _ => 64 - (intOf i).toNat)
      case atStart => exact ⟨0, by decide, rfl, hAl.out⟩
      case round =>
        obtain ⟨k, hk, rfl, hR, hM, hB⟩ := hrel
        clear hAl
        by_cases hlt : k < 48
        · obtain ⟨t, ht⟩ : ∃ t, t = 16 + k := ⟨_, rfl⟩
          obtain ⟨f, hf⟩ : ∃ f, sch (mW b) k = f := ⟨_, rfl⟩
          rw [← ht]
          rw [hf] at hM
          have hs : sch (mW b) (k + 1) = upd f t (fs1 (f (t - 2)) + f (t - 7) + fs0 (f (t - 15)) + f (t - 16)) := by
            rw [sch, hf, ht, show 16 + k - 2 = 14 + k by omega, show 16 + k - 7 = 9 + k by omega, show 16 + k - 15 = 1 + k by omega, show 16 + k - 16 = k by omega]
          have hc2 := hM.cell (i := t - 2) (by omega)
          have hc7 := hM.cell (i := t - 7) (by omega)
          have hc15 := hM.cell (i := t - 15) (by omega)
          have hc16 := hM.cell (i := t - 16) (by omega)
          have hcN := hM.cell (i := t) (by omega)
          have hfN := hM.frozen t
          simp only [wds] at hc2 hc7 hc15 hc16 hcN
          obtain ⟨x2, hx2⟩ : ∃ x, f (t - 2) = x := ⟨_, rfl⟩
          obtain ⟨x7, hx7⟩ : ∃ x, f (t - 7) = x := ⟨_, rfl⟩
          obtain ⟨x15, hx15⟩ : ∃ x, f (t - 15) = x := ⟨_, rfl⟩
          obtain ⟨x16, hx16⟩ : ∃ x, f (t - 16) = x := ⟨_, rfl⟩
          rw [hx2] at hc2 hs
          rw [hx7] at hc7 hs
          rw [hx15] at hc15 hs
          rw [hx16] at hc16 hs
          have HS := Lib.hid hs
          have HT := Lib.hid ht
          have HAl := Lib.hid (And.intro hR (And.intro hM hB))
          have HC := Lib.hid (And.intro hc2 (And.intro hc7 (And.intro hc15 hc16)))
          have HN := Lib.hid (And.intro hcN hfN)
          have hlt2 : t < 64 := by omega
          have hge : 16 ≤ t := by omega
          clear hs ht hf hx2 hx7 hx15 hx16 hR hM hB hc2 hc7 hc15 hc16 hcN hfN hk
          go_wp2_with fail
          have a2 : ((t : Int) - 2).toNat = t - 2 := by omega
          have b2 : (2 : Int) ≤ (t : Int) := by omega
          have c2 : (t : Int) - 2 < 64 := by omega
          have d2 : IntKind.i64.wrap ((t : Int) - 2) = (t : Int) - 2 := IntWalk.i64_in _ (by omega)
          have a7 : ((t : Int) - 7).toNat = t - 7 := by omega
          have b7 : (7 : Int) ≤ (t : Int) := by omega
          have c7 : (t : Int) - 7 < 64 := by omega
          have d7 : IntKind.i64.wrap ((t : Int) - 7) = (t : Int) - 7 := IntWalk.i64_in _ (by omega)
          have a15 : ((t : Int) - 15).toNat = t - 15 := by omega
          have b15 : (15 : Int) ≤ (t : Int) := by omega
          have c15 : (t : Int) - 15 < 64 := by omega
          have d15 : IntKind.i64.wrap ((t : Int) - 15) = (t : Int) - 15 := IntWalk.i64_in _ (by omega)
          have a16 : ((t : Int) - 16).toNat = t - 16 := by omega
          have b16 : (16 : Int) ≤ (t : Int) := by omega
          have c16 : (t : Int) - 16 < 64 := by omega
          have d16 : IntKind.i64.wrap ((t : Int) - 16) = (t : Int) - 16 := IntWalk.i64_in _ (by omega)
          have d0 : (t : Int) < 64 := by omega
          refine wp_region_held_drew (S := fun Y => Y.cell? ⟨w.heap.size + 1 + 1, t - 2, none⟩ = some (.int .u32 (num x2)) ∧ Y.cell? ⟨w.heap.size + 1 + 1, t - 7, none⟩ = some (.int .u32 (num x7)) ∧ Y.cell? ⟨w.heap.size + 1 + 1, t - 15, none⟩ = some (.int .u32 (num x15)) ∧ Y.cell? ⟨w.heap.size + 1 + 1, t - 16, none⟩ = some (.int .u32 (num x16))) (by kernel_rfl) HC.out (fun hS => ?_)
          (refine held_take (i := 0) (oi := ?ot1) (v := ?vt1) ?at1 (by kernel_rfl) (by kernel_rfl) (by kernel_rfl) ?bt1 ?ct1 ?dt1 (by assumption) ?rt1; (case at1 => (simp only [List.getElem?_toArray, List.getElem?_cons_zero]; rfl)); (case bt1 => exact fun _ _ _ h => h); (case ct1 => kernel_rfl); (case dt1 => (intro W hW; (try dsimp only at hW); go_split_ands; go_simp; (try with_reducible rfl))); (case' rt1 => simp only [Act.put, List.setIfInBounds_toArray, List.set_cons_zero, List.set_cons_succ]))
          (refine held_take (i := 1) (oi := ?ot2) (v := ?vt2) ?at2 (by kernel_rfl) (by kernel_rfl) (by kernel_rfl) ?bt2 ?ct2 ?dt2 (by assumption) ?rt2; (case at2 => (simp only [List.getElem?_toArray, List.getElem?_cons_zero, List.getElem?_cons_succ]; rfl)); (case bt2 => exact fun _ _ _ h => h); (case ct2 => kernel_rfl); (case dt2 => (intro W hW; (try dsimp only at hW); go_split_ands; go_simp; (try with_reducible rfl))); (case' rt2 => simp only [Act.put, List.setIfInBounds_toArray, List.set_cons_zero, List.set_cons_succ]))
          (refine held_take (i := 2) (oi := ?ot3) (v := ?vt3) ?at3 (by kernel_rfl) (by kernel_rfl) (by kernel_rfl) ?bt3 ?ct3 ?dt3 (by assumption) ?rt3; (case at3 => (simp only [List.getElem?_toArray, List.getElem?_cons_zero, List.getElem?_cons_succ]; rfl)); (case bt3 => exact fun _ _ _ h => h); (case ct3 => kernel_rfl); (case dt3 => (intro W hW; (try dsimp only at hW); go_split_ands; go_simp; (try with_reducible rfl))); (case' rt3 => simp only [Act.put, List.setIfInBounds_toArray, List.set_cons_zero, List.set_cons_succ]))
          (refine held_take (i := 3) (oi := ?ot4) (v := ?vt4) ?at4 (by kernel_rfl) (by kernel_rfl) (by kernel_rfl) ?bt4 ?ct4 ?dt4 (by assumption) ?rt4; (case at4 => (simp only [List.getElem?_toArray, List.getElem?_cons_zero, List.getElem?_cons_succ]; rfl)); (case bt4 => exact fun _ _ _ h => h); (case ct4 => kernel_rfl); (case dt4 => (intro W hW; (try dsimp only at hW); go_split_ands; go_simp; (try with_reducible rfl))); (case' rt4 => simp only [Act.put, List.setIfInBounds_toArray, List.set_cons_zero, List.set_cons_succ]))
          (refine held_take (i := 4) (oi := ?ot5) (v := ?vt5) ?at5 (by kernel_rfl) (by kernel_rfl) (by kernel_rfl) ?bt5 ?ct5 ?dt5 (by assumption) ?rt5; (case at5 => (simp only [List.getElem?_toArray, List.getElem?_cons_zero, List.getElem?_cons_succ]; rfl)); (case bt5 => exact fun _ _ _ h => h); (case ct5 => kernel_rfl); (case dt5 => (intro W hW; (try dsimp only at hW); go_split_ands; go_simp; (try with_reducible rfl))); (case' rt5 => simp only [Act.put, List.setIfInBounds_toArray, List.set_cons_zero, List.set_cons_succ]))
          (refine held_take (i := 6) (oi := ?ot6) (v := ?vt6) ?at6 (by kernel_rfl) (by kernel_rfl) (by kernel_rfl) ?bt6 ?ct6 ?dt6 (by assumption) ?rt6; (case at6 => (simp only [List.getElem?_toArray, List.getElem?_cons_zero, List.getElem?_cons_succ]; rfl)); (case bt6 => exact fun _ _ _ h => h); (case ct6 => kernel_rfl); (case dt6 => (intro W hW; (try dsimp only at hW); go_split_ands; go_simp; (try with_reducible rfl))); (case' rt6 => simp only [Act.put, List.setIfInBounds_toArray, List.set_cons_zero, List.set_cons_succ]))
          (refine held_take (i := 7) (oi := ?ot7) (v := ?vt7) ?at7 (by kernel_rfl) (by kernel_rfl) (by kernel_rfl) ?bt7 ?ct7 ?dt7 (by assumption) ?rt7; (case at7 => (simp only [List.getElem?_toArray, List.getElem?_cons_zero, List.getElem?_cons_succ]; rfl)); (case bt7 => exact fun _ _ _ h => h); (case ct7 => kernel_rfl); (case dt7 => (intro W hW; (try dsimp only at hW); go_split_ands; go_simp; (try with_reducible rfl))); (case' rt7 => simp only [Act.put, List.setIfInBounds_toArray, List.set_cons_zero, List.set_cons_succ]))
          (refine held_take (i := 8) (oi := ?ot8) (v := ?vt8) ?at8 (by kernel_rfl) (by kernel_rfl) (by kernel_rfl) ?bt8 ?ct8 ?dt8 (by assumption) ?rt8; (case at8 => (simp only [List.getElem?_toArray, List.getElem?_cons_zero, List.getElem?_cons_succ]; rfl)); (case bt8 => exact fun _ _ _ h => h); (case ct8 => kernel_rfl); (case dt8 => (intro W hW; (try dsimp only at hW); go_split_ands; go_simp; (try with_reducible rfl))); (case' rt8 => simp only [Act.put, List.setIfInBounds_toArray, List.set_cons_zero, List.set_cons_succ]))
          (refine held_take (i := 9) (oi := ?ot9) (v := ?vt9) ?at9 (by kernel_rfl) (by kernel_rfl) (by kernel_rfl) ?bt9 ?ct9 ?dt9 (by assumption) ?rt9; (case at9 => (simp only [List.getElem?_toArray, List.getElem?_cons_zero, List.getElem?_cons_succ]; rfl)); (case bt9 => exact fun _ _ _ h => h); (case ct9 => kernel_rfl); (case dt9 => (intro W hW; (try dsimp only at hW); go_split_ands; go_simp; (try with_reducible rfl))); (case' rt9 => simp only [Act.put, List.setIfInBounds_toArray, List.set_cons_zero, List.set_cons_succ]))
          (refine held_take (i := 11) (oi := ?ot10) (v := ?vt10) ?at10 (by kernel_rfl) (by kernel_rfl) (by kernel_rfl) ?bt10 ?ct10 ?dt10 (by assumption) ?rt10; (case at10 => (simp only [List.getElem?_toArray, List.getElem?_cons_zero, List.getElem?_cons_succ]; rfl)); (case bt10 => exact fun _ _ _ h => h); (case ct10 => kernel_rfl); (case dt10 => (intro W hW; (try dsimp only at hW); go_split_ands; go_simp; (try with_reducible rfl))); (case' rt10 => simp only [Act.put, List.setIfInBounds_toArray, List.set_cons_zero, List.set_cons_succ]))
          (refine held_take (i := 12) (oi := ?ot11) (v := ?vt11) ?at11 (by kernel_rfl) (by kernel_rfl) (by kernel_rfl) ?bt11 ?ct11 ?dt11 (by assumption) ?rt11; (case at11 => (simp only [List.getElem?_toArray, List.getElem?_cons_zero, List.getElem?_cons_succ]; rfl)); (case bt11 => exact fun _ _ _ h => h); (case ct11 => kernel_rfl); (case dt11 => (intro W hW; (try dsimp only at hW); go_split_ands; go_simp; (try with_reducible rfl))); (case' rt11 => simp only [Act.put, List.setIfInBounds_toArray, List.set_cons_zero, List.set_cons_succ]))
          (refine held_take (i := 13) (oi := ?ot12) (v := ?vt12) ?at12 (by kernel_rfl) (by kernel_rfl) (by kernel_rfl) ?bt12 ?ct12 ?dt12 (by assumption) ?rt12; (case at12 => (simp only [List.getElem?_toArray, List.getElem?_cons_zero, List.getElem?_cons_succ]; rfl)); (case bt12 => exact fun _ _ _ h => h); (case ct12 => kernel_rfl); (case dt12 => (intro W hW; (try dsimp only at hW); go_split_ands; go_simp; (try with_reducible rfl))); (case' rt12 => simp only [Act.put, List.setIfInBounds_toArray, List.set_cons_zero, List.set_cons_succ]))
          (refine held_take (i := 14) (oi := ?ot13) (v := ?vt13) ?at13 (by kernel_rfl) (by kernel_rfl) (by kernel_rfl) ?bt13 ?ct13 ?dt13 (by assumption) ?rt13; (case at13 => (simp only [List.getElem?_toArray, List.getElem?_cons_zero, List.getElem?_cons_succ]; rfl)); (case bt13 => exact fun _ _ _ h => h); (case ct13 => kernel_rfl); (case dt13 => (intro W hW; (try dsimp only at hW); go_split_ands; go_simp; (try with_reducible rfl))); (case' rt13 => simp only [Act.put, List.setIfInBounds_toArray, List.set_cons_zero, List.set_cons_succ]))
          (refine held_take (i := 17) (oi := ?ot14) (v := ?vt14) ?at14 (by kernel_rfl) (by kernel_rfl) (by kernel_rfl) ?bt14 ?ct14 ?dt14 (by assumption) ?rt14; (case at14 => (simp only [List.getElem?_toArray, List.getElem?_cons_zero, List.getElem?_cons_succ]; rfl)); (case bt14 => exact fun _ _ _ h => h); (case ct14 => kernel_rfl); (case dt14 => (intro W hW; (try dsimp only at hW); go_split_ands; go_simp; (try with_reducible rfl))); (case' rt14 => simp only [Act.put, List.setIfInBounds_toArray, List.set_cons_zero, List.set_cons_succ]))
          (refine held_take (i := 18) (oi := ?ot15) (v := ?vt15) ?at15 (by kernel_rfl) (by kernel_rfl) (by kernel_rfl) ?bt15 ?ct15 ?dt15 (by assumption) ?rt15; (case at15 => (simp only [List.getElem?_toArray, List.getElem?_cons_zero, List.getElem?_cons_succ]; rfl)); (case bt15 => exact fun _ _ _ h => h); (case ct15 => kernel_rfl); (case dt15 => (intro W hW; (try dsimp only at hW); go_split_ands; go_simp; (try with_reducible rfl))); (case' rt15 => simp only [Act.put, List.setIfInBounds_toArray, List.set_cons_zero, List.set_cons_succ]))
          (refine held_take (i := 19) (oi := ?ot16) (v := ?vt16) ?at16 (by kernel_rfl) (by kernel_rfl) (by kernel_rfl) ?bt16 ?ct16 ?dt16 (by assumption) ?rt16; (case at16 => (simp only [List.getElem?_toArray, List.getElem?_cons_zero, List.getElem?_cons_succ]; rfl)); (case bt16 => exact fun _ _ _ h => h); (case ct16 => kernel_rfl); (case dt16 => (intro W hW; (try dsimp only at hW); go_split_ands; go_simp; (try with_reducible rfl))); (case' rt16 => simp only [Act.put, List.setIfInBounds_toArray, List.set_cons_zero, List.set_cons_succ]))
          (refine held_take (i := 20) (oi := ?ot17) (v := ?vt17) ?at17 (by kernel_rfl) (by kernel_rfl) (by kernel_rfl) ?bt17 ?ct17 ?dt17 (by assumption) ?rt17; (case at17 => (simp only [List.getElem?_toArray, List.getElem?_cons_zero, List.getElem?_cons_succ]; rfl)); (case bt17 => exact fun _ _ _ h => h); (case ct17 => kernel_rfl); (case dt17 => (intro W hW; (try dsimp only at hW); go_split_ands; go_simp; (try with_reducible rfl))); (case' rt17 => simp only [Act.put, List.setIfInBounds_toArray, List.set_cons_zero, List.set_cons_succ]))
          refine held_one (i := 5) (oi := ?ot18) (by kernel_rfl) ?at18 ?ct18 (fun K5 hK5 => ?_)
          (case at18 => (simp only [List.getElem?_toArray, List.getElem?_cons_zero, List.getElem?_cons_succ]; rfl))
          (case ct18 => kernel_rfl)
          go_simp
          refine (smallSum1_any _ _).mono ?_
          rintro e w1 ⟨rfl, rfl⟩
          refine hK5 _ _ hS (fun hS5 => ?_)
          clear hS hK5 K5
          (refine held_take (i := 10) (oi := ?ot19) (v := ?vt19) ?at19 (by kernel_rfl) (by kernel_rfl) (by kernel_rfl) ?bt19 ?ct19 ?dt19 (by assumption) ?rt19; (case at19 => (simp only [List.getElem?_toArray, List.getElem?_cons_zero, List.getElem?_cons_succ]; rfl)); (case bt19 => exact fun _ _ _ h => h); (case ct19 => kernel_rfl); (case dt19 => (intro W hW; (try dsimp only at hW); go_split_ands; go_simp; (try with_reducible rfl))); (case' rt19 => simp only [Act.put, List.setIfInBounds_toArray, List.set_cons_zero, List.set_cons_succ]))
          refine held_one (i := 15) (oi := ?ot20) (by kernel_rfl) ?at20 ?ct20 (fun K15 hK15 => ?_)
          (case at20 => (simp only [List.getElem?_toArray, List.getElem?_cons_zero, List.getElem?_cons_succ]; rfl))
          (case ct20 => kernel_rfl)
          go_simp
          refine (smallSum0_any _ _).mono ?_
          rintro e w1 ⟨rfl, rfl⟩
          refine hK15 _ _ hS5 (fun hS15 => ?_)
          clear hS5 hK15 K15
          (refine held_take (i := 16) (oi := ?ot21) (v := ?vt21) ?at21 (by kernel_rfl) (by kernel_rfl) (by kernel_rfl) ?bt21 ?ct21 ?dt21 (by assumption) ?rt21; (case at21 => (simp only [List.getElem?_toArray, List.getElem?_cons_zero, List.getElem?_cons_succ]; rfl)); (case bt21 => exact fun _ _ _ h => h); (case ct21 => kernel_rfl); (case dt21 => (intro W hW; (try dsimp only at hW); go_split_ands; go_simp; (try with_reducible rfl))); (case' rt21 => simp only [Act.put, List.setIfInBounds_toArray, List.set_cons_zero, List.set_cons_succ]))
          (refine held_take (i := 21) (oi := ?ot22) (v := ?vt22) ?at22 (by kernel_rfl) (by kernel_rfl) (by kernel_rfl) ?bt22 ?ct22 ?dt22 (by assumption) ?rt22; (case at22 => (simp only [List.getElem?_toArray, List.getElem?_cons_zero, List.getElem?_cons_succ]; rfl)); (case bt22 => exact fun _ _ _ h => h); (case ct22 => kernel_rfl); (case dt22 => (intro W hW; (try dsimp only at hW); go_split_ands; go_simp; (try with_reducible rfl))); (case' rt22 => simp only [Act.put, List.setIfInBounds_toArray, List.set_cons_zero, List.set_cons_succ]))
          (refine held_take (i := 22) (oi := ?ot23) (v := ?vt23) ?at23 (by kernel_rfl) (by kernel_rfl) (by kernel_rfl) ?bt23 ?ct23 ?dt23 (by assumption) ?rt23; (case at23 => (simp only [List.getElem?_toArray, List.getElem?_cons_zero, List.getElem?_cons_succ]; rfl)); (case bt23 => exact fun _ _ _ h => h); (case ct23 => kernel_rfl); (case dt23 => (intro W hW; (try dsimp only at hW); go_split_ands; go_simp; (try with_reducible rfl))); (case' rt23 => simp only [Act.put, List.setIfInBounds_toArray, List.set_cons_zero, List.set_cons_succ]))
          refine held_one (i := 23) (oi := ?ot24) (by kernel_rfl) ?at24 ?ct24 (fun K23 hK23 => ?_)
          (case at24 => (simp only [List.getElem?_toArray, List.getElem?_cons_zero, List.getElem?_cons_succ]; rfl))
          (case ct24 => kernel_rfl)
          have hcN := HN.out.1
          have hfN := HN.out.2
          go_simp
          clear hcN hfN
          have hX : ∀ j x, j < t → wr.cell? ⟨w.heap.size + 1 + 1, j, none⟩ = some x → (wr.setCell ⟨w.heap.size + 1 + 1, t, none⟩ (.int .u32 (num (fs1 x2 + x7 + fs0 x15 + x16)))).drew.cell? ⟨w.heap.size + 1 + 1, j, none⟩ = some x := fun j x hj h => (World.cell?_setCell_other wr _ _ _ (by intro e; injection e; omega)).trans h
          refine hK23 _ _ ⟨hX _ _ (by omega) hS15.1, hX _ _ (by omega) hS15.2.1, hX _ _ (by omega) hS15.2.2.1, hX _ _ (by omega) hS15.2.2.2⟩ (fun hS23 => ?_)
          clear hX hS15 hK23 K23
          refine wpAnyH_done (by kernel_rfl) ?_ _
          clear hS23 a2 a7 a15 a16 b2 b7 b15 b16 c2 c7 c15 c16 d2 d7 d15 d16 d0
          go_wp2
          go_roundw
          case rel =>
            obtain ⟨hR, hM, hB⟩ := HAl.out
            have hM2 := hM.set t (.int .u32 (num (fs1 x2 + x7 + fs0 x15 + x16)))
            rw [wds_upd, ← HS.out] at hM2
            exact ⟨k + 1, by omega, by have := HT.out; go_num, hR.far (p := ⟨w.heap.size + 1 + 1, t, none⟩) (show w.heap.size + 1 ≠ w.heap.size + 1 + 1 by omega) _, hM2, below_drewN (hB.setCell (show w.heap.size ≤ w.heap.size + 1 + 1 by omega) _) 1⟩
          case measure => have := HT.out; simp [intOf]; omega
        · obtain rfl : k = 48 := by omega
          have hR2 := hR.row (wds (sch (mW b) 48))
          have HL := Lib.hid (run_load_arr (P := Tryz.prog) hM Tryz.underlying159 rfl info32)
          have HW := Lib.hid (run_store_arr (P := Tryz.prog) hR (wds (sch (mW b) 48)) info32 (wds_one _ _))
          have HR2 := Lib.hid (run_load_arr (P := Tryz.prog) hR2 Tryz.underlying159 rfl info32)
          have HB := Lib.hid (below_row hB (show w.heap.size ≤ w.heap.size + 1 by omega) (vec 64 (wds (sch (mW b) 48))))
          clear hR hM hB hR2 hlt hk
          go_wp2_with (first
            | (refine wl_load rfl 159 _ rfl _ rfl _ HL.out ?_)
            | (refine wl_store rfl 159 _ _ rfl _ rfl _ rfl HW.out ?_))
          exact bodyPost_ret (results_cell1 rfl _ _ _ rfl HR2.out) rfl ⟨rfl, HB.out⟩
end Go.Proofs.YtfeiplaiekbdkaaGreatDoor
/- sha.work: the rounds, in an array whose places turn. -/
namespace Go.Proofs.YtfeiplaiekbdkaaGreatDoor
open Go.RowKit
attribute [local go_sem ↓ high] zeroV32 zeroV34
attribute [local go_sem] num_add

def rot (i : Nat) (f : Nat → W32) : Nat → W32 := fun j => f ((j + i) % 8)
theorem rot_at (i k : Nat) (f : Nat → W32) (hk : k < 8) (hi : i < 64) : rot i f ((k + 64 - i) % 8) = f k := by
  unfold rot
  congr 1
  omega
theorem rot_step (i : Nat) (f : Nat → W32) (k w : W32) (hi : i < 64) : ∀ j, j < 8 →
    upd (upd (rot i f) ((3 + 64 - i) % 8) (f 3 + one k w f)) ((7 + 64 - i) % 8) (one k w f + two f) j = rot (i + 1) (rnd k w f) j := by
  intro j hj
  by_cases h7 : j = (7 + 64 - i) % 8
  · have e : (j + (i + 1)) % 8 = 0 := by omega
    unfold rot rnd
    rw [h7, upd_at, ← h7, e]; rfl
  · rw [upd_ne _ _ _ _ h7]
    by_cases h3 : j = (3 + 64 - i) % 8
    · have e : (j + (i + 1)) % 8 = 4 := by omega
      unfold rot rnd
      rw [h3, upd_at, ← h3, e]; rfl
    · rw [upd_ne _ _ _ _ h3]
      unfold rot rnd
      rw [if_neg (by omega), if_neg (by omega)]
      congr 1
      omega
theorem place_at (P : Int → Int) (i : Nat) (hP : ∀ k, P k = (((k.toNat + 64 - i) % 8 : Nat) : Int)) (hi : i < 64) (k : Int) (h0 : 0 ≤ k) (h8 : k < 8) (w : World) :
    Calls Tryz.prog 119 #[.int .i64 k, .int .i64 (i : Int)] w fun e w' => e = .returned (.int .i64 (P k)) ∧ w = w' := by
  obtain ⟨n, rfl⟩ := Int.eq_ofNat_of_zero_le h0
  rw [hP]
  exact place_any n i (by omega) hi w

theorem index64 (f : Nat → W32) (i : Nat) (hi : i < 64) (w : World) :
    (Instr.index 159 (.agg (vec 64 (wds f))) (.int .i64 (i : Int))).run Tryz.prog w = .ok (.int .u32 (num (f i))) w := by
  have hv := vec_at 64 (wds f) i hi
  simp [Instr.index, run_underlying Tryz.underlying159, asIntOf, go_sem, Tryz.sizeOf28, Tryz.isAgg28, hv, hi]
  rfl
theorem index8 (f : Nat → W32) (i : Nat) (hi : i < 8) (w : World) :
    (Instr.index 129 (.agg (vec 8 (wds f))) (.int .i64 (i : Int))).run Tryz.prog w = .ok (.int .u32 (num (f i))) w := by
  have hv := vec_at 8 (wds f) i hi
  simp [Instr.index, run_underlying Tryz.underlying129, asIntOf, go_sem, Tryz.sizeOf28, Tryz.isAgg28, hv, hi]
  rfl
set_option maxHeartbeats 1000000 in
set_option maxRecDepth 100000 in
theorem work_any (v ws : Nat → W32) (w : World) (hT : Tabs w) :
    Calls Tryz.prog 113 #[.agg (vec 8 (wds v)), .agg (vec 64 (wds ws))] w fun e w' => e = .returned (.agg (vec 8 (wds (rounds Kt ws v 64)))) ∧ Below w.heap.size w w' := by
  obtain ⟨W0, hW0⟩ : ∃ W0, W0 = ((w.alloc (.cells (vec 8 (wds v)) 129)).alloc (.cells (vec 64 (wds ws)) 159)).alloc (.cells (vec 8 (wds zw)) 129) := ⟨_, rfl⟩
  have hA : Arr W0 w.heap.size 129 8 (wds (rot 0 v)) := by
    rw [hW0]; exact (((Arr.new w _ _ _).alloc _).alloc _).congr (fun i hi => by simp [wds, rot, Nat.mod_eq_of_lt hi])
  have hM : Arr W0 (w.heap.size + 1) 159 64 (wds ws) := by rw [hW0]; exact (Arr.newAt (w.alloc (.cells (vec 8 (wds v)) 129)) 159 64 (wds ws) (by simp)).alloc _
  have hR : Arr W0 (w.heap.size + 1 + 1) 129 8 (wds zw) := by rw [hW0]; exact Arr.newAt ((w.alloc (.cells (vec 8 (wds v)) 129)).alloc (.cells (vec 64 (wds ws)) 159)) 129 8 (wds zw) (by simp)
  have hB : Below w.heap.size w W0 := by rw [hW0]; exact (((Below.refl _ _).alloc (Nat.le_refl _) _).alloc (by simp) _).alloc (by simp; omega) _
  have hI : Hid (∃ k : Nat, k ≤ 64 ∧ (Value.int .i64 0) = .int .i64 k ∧ Arr W0 w.heap.size 129 8 (wds (rot k (rounds Kt ws v k))) ∧ Arr W0 (w.heap.size + 1 + 1) 129 8 (wds zw) ∧ Below w.heap.size w W0) := Lib.hid ⟨0, by decide, rfl, hA, hR, hB⟩
  have HL := Lib.hid (run_load_arr (P := Tryz.prog) hM Tryz.underlying159 rfl info32)
  have HT := Lib.hid hT
  have HW := Lib.hid hW0
  clear hA hM hR hB hT hW0
  go_enter Tryz.func113, Tryz.ntmps113
  go_upto_region 1 with fail
  rw [← HW.out]
  clear HW
  go_wp2_with (refine wl_load rfl 159 _ rfl _ rfl _ HL.out ?_)
  clear HL
  go_loopw [18] (fun i W => ∃ k : Nat, k ≤ 64 ∧ i = .int .i64 k ∧ Arr W w.heap.size 129 8 (wds (rot k (rounds Kt ws v k))) ∧ Arr W (w.heap.size + 1 + 1) 129 8 (wds zw) ∧ Below w.heap.size w W) (fun i _ => 64 - (intOf i).toNat)
  case atStart => exact hI.out
  case round =>
    obtain ⟨i, hi, rfl, hA, hR, hB⟩ := hrel
    clear hI
    by_cases hlt : i < 64
    · obtain ⟨S, hS⟩ : ∃ S, rounds Kt ws v i = S := ⟨_, rfl⟩
      rw [hS] at hA
      obtain ⟨P, hP⟩ : ∃ P : Int → Int, ∀ k, P k = (((k.toNat + 64 - i) % 8 : Nat) : Int) := ⟨_, fun _ => rfl⟩
      have hcell : ∀ n : Nat, n < 8 → wr.cell? ⟨w.heap.size, (P n).toNat, none⟩ = some (.int .u32 (num (S n))) := fun n hn => by
        have h1 := hA.cell (i := (n + 64 - i) % 8) (by omega)
        rw [wds, rot_at i n S hn hlt] at h1
        rw [hP, Int.toNat_natCast, Int.toNat_natCast]; exact h1
      have hlo : ∀ n : Int, 0 ≤ P n := fun n => by rw [hP]; omega
      have hup : ∀ n : Int, P n < 8 := fun n => by rw [hP]; omega
      have hk := (tabs_below HT.out hB).1 i hlt
      rw [wds] at hk
      have hw : ∀ W, (Instr.index 159 (.agg (vec 64 (wds ws))) (.int .i64 (i : Int))).run Tryz.prog W = .ok (.int .u32 (num (ws i))) W := index64 ws i hlt
      have HP := Lib.hid (fun k h0 h8 W => place_at P i hP hlt k h0 h8 W)
      have HS := Lib.hid hS
      have HAl := Lib.hid (And.intro hA (And.intro hR hB))
      have HC := Lib.hid hcell
      have HK := Lib.hid hk
      have HPe := Lib.hid hP
      have HB := Lib.hid (And.intro hlo hup)
      clear hS hP hA hR hB hcell hlo hup hk hi
      go_wp2_with (go_at_call 119; refine (HP.out _ (by decide) (by decide) _).mono ?_; rintro e w1 ⟨rfl, rfl⟩)
      have c4 : wr.cell? ⟨w.heap.size, (P 4).toNat, none⟩ = some (.int .u32 (num (S 4))) := HC.out 4 (by decide)
      have c5 : wr.cell? ⟨w.heap.size, (P 5).toNat, none⟩ = some (.int .u32 (num (S 5))) := HC.out 5 (by decide)
      have c6 : wr.cell? ⟨w.heap.size, (P 6).toNat, none⟩ = some (.int .u32 (num (S 6))) := HC.out 6 (by decide)
      have c7 : wr.cell? ⟨w.heap.size, (P 7).toNat, none⟩ = some (.int .u32 (num (S 7))) := HC.out 7 (by decide)
      have l4 := HB.out.1 4
      have l5 := HB.out.1 5
      have l6 := HB.out.1 6
      have l7 := HB.out.1 7
      have g4 := HB.out.2 4
      have g5 := HB.out.2 5
      have g6 := HB.out.2 6
      have g7 := HB.out.2 7
      have hk := HK.out
      have hi64 : (i : Int) < 64 := by omega
      go_quiet (first
        | (go_at_call 120; exact quiet_eq (bigSum1_any _ _))
        | (go_at_call 121; exact quiet_eq (choose_any _ _ _ _)))
      clear c4 c5 c6 c7 l4 l5 l6 g4 g5 g6 hk
      obtain ⟨V, hV⟩ : ∃ V, V = wr.drewN nq := ⟨_, rfl⟩
      have hCV : ∀ n : Nat, n < 8 → V.cell? ⟨w.heap.size, (P n).toNat, none⟩ = some (.int .u32 (num (S n))) := by rw [hV]; exact HC.out
      have hAV : Arr V w.heap.size 129 8 (wds (rot i S)) ∧ Arr V (w.heap.size + 1 + 1) 129 8 (wds zw) ∧ Below w.heap.size w V := by rw [hV]; exact ⟨HAl.out.1, HAl.out.2.1, below_drewN HAl.out.2.2 nq⟩
      rw [← hV]
      have HCV := Lib.hid hCV
      have HAV := Lib.hid hAV
      clear hV hCV hAV HC HAl
      have c0 : V.cell? ⟨w.heap.size, (P 0).toNat, none⟩ = some (.int .u32 (num (S 0))) := HCV.out 0 (by decide)
      have c1 : V.cell? ⟨w.heap.size, (P 1).toNat, none⟩ = some (.int .u32 (num (S 1))) := HCV.out 1 (by decide)
      have c2 : V.cell? ⟨w.heap.size, (P 2).toNat, none⟩ = some (.int .u32 (num (S 2))) := HCV.out 2 (by decide)
      have l0 := HB.out.1 0
      have l1 := HB.out.1 1
      have l2 := HB.out.1 2
      have g0 := HB.out.2 0
      have g1 := HB.out.2 1
      have g2 := HB.out.2 2
      go_wp2_with fail
      go_quiet (first
        | (go_at_call 122; exact quiet_eq (bigSum0_any _ _))
        | (go_at_call 123; exact quiet_eq (most_any _ _ _ _)))
      clear c0 c1 c2 l0 l1 l2 g0 g1 g2
      obtain ⟨W1, hW1⟩ : ∃ W1, W1 = V.drewN nq := ⟨_, rfl⟩
      have hc7 : W1.cell? ⟨w.heap.size, (P 7).toNat, none⟩ = some (.int .u32 (num (S 7))) := by rw [hW1]; exact HCV.out 7 (by decide)
      have hc3 : W1.cell? ⟨w.heap.size, (P 3).toNat, none⟩ = some (.int .u32 (num (S 3))) := by rw [hW1]; exact HCV.out 3 (by decide)
      have hf : ∀ k, W1.frozen? ⟨w.heap.size, k, none⟩ = false := by rw [hW1]; exact HAV.out.1.frozen
      have l3 := HB.out.1 3
      have g3 := HB.out.2 3
      have hA1 : Arr W1 w.heap.size 129 8 (wds (rot i S)) ∧ Arr W1 (w.heap.size + 1 + 1) 129 8 (wds zw) ∧ Below w.heap.size w W1 := by rw [hW1]; exact ⟨HAV.out.1, HAV.out.2.1, below_drewN HAV.out.2.2 nq⟩
      have hne : (P 3).toNat ≠ (P 7).toNat := by
        have h3 := HPe.out 3
        have h7 := HPe.out 7
        rw [h3, h7, Int.toNat_natCast, Int.toNat_natCast]
        have e3 : (3 : Int).toNat = 3 := rfl
        have e7 : (7 : Int).toNat = 7 := rfl
        rw [e3, e7]; omega
      have hx7 : ∀ u, (W1.setCell ⟨w.heap.size, (P 3).toNat, none⟩ u).cell? ⟨w.heap.size, (P 7).toNat, none⟩ = some (.int .u32 (num (S 7))) := fun u =>
        (World.cell?_setCell_other W1 _ _ _ (by intro e; injection e with _ e2; exact hne e2)).trans hc7
      have hf7 : ∀ u k, (W1.setCell ⟨w.heap.size, (P 3).toNat, none⟩ u).frozen? ⟨w.heap.size, k, none⟩ = false := fun u k => (hA1.1.set _ u).frozen k
      have HA1 := Lib.hid hA1
      rw [← hW1]
      clear hW1 hA1 hc7 hne
      go_wp2
      go_roundw
      case rel =>
        obtain ⟨hA, hR, hB⟩ := HA1.out
        have e3 : (P 3).toNat = (3 + 64 - i) % 8 := by rw [HPe.out 3]; rfl
        have e7 : (P 7).toNat = (7 + 64 - i) % 8 := by rw [HPe.out 7]; rfl
        have hA2 := ((hA.set (P 3).toNat (.int .u32 (num (S 3 + one (Kt i) (ws i) S)))).set (P 7).toNat (.int .u32 (num (one (Kt i) (ws i) S + two S))))
        rw [wds_upd, wds_upd, e3, e7] at hA2
        have hA3 := hA2.congr (f' := wds (rot (i + 1) (rounds Kt ws v (i + 1)))) (fun j hj => by
          rw [rounds, HS.out]
          simp only [wds]
          rw [rot_step i S _ _ hlt j hj])
        rw [← e3, ← e7] at hA3
        refine ⟨i + 1, by omega, by go_num, hA3, (hR.far (p := ⟨w.heap.size, _, none⟩) (show w.heap.size + 1 + 1 ≠ w.heap.size by omega) _).far (p := ⟨w.heap.size, _, none⟩) (show w.heap.size + 1 + 1 ≠ w.heap.size by omega) _, ?_⟩
        exact (hB.setCell (show w.heap.size ≤ w.heap.size by omega) _).setCell (show w.heap.size ≤ w.heap.size by omega) _
      case measure => simp [intOf]; omega
    · obtain rfl : i = 64 := by omega
      have hA2 : Arr wr w.heap.size 129 8 (wds (rounds Kt ws v 64)) := hA.congr fun j hj => by simp only [wds, rot]; rw [show (j + 64) % 8 = j by omega]
      have HL := Lib.hid (run_load_arr (P := Tryz.prog) hA2 Tryz.underlying129 rfl info34)
      have HW := Lib.hid (run_store_arr (P := Tryz.prog) hR (wds (rounds Kt ws v 64)) info34 (wds_one _ _))
      have HR2 := Lib.hid (run_load_arr (P := Tryz.prog) (hR.row (wds (rounds Kt ws v 64))) Tryz.underlying129 rfl info34)
      have HB := Lib.hid (below_row hB (show w.heap.size ≤ w.heap.size + 1 + 1 by omega) (vec 8 (wds (rounds Kt ws v 64))))
      clear hA hR hB hA2 hlt hi
      go_wp2_with (first
        | (refine wl_load rfl 129 _ rfl _ rfl _ HL.out ?_)
        | (refine wl_store rfl 129 _ _ rfl _ rfl _ rfl HW.out ?_))
      exact bodyPost_ret (results_cell1 rfl _ _ _ rfl HR2.out) rfl ⟨rfl, HB.out⟩
end Go.Proofs.YtfeiplaiekbdkaaGreatDoor
/- sha.Block. -/
namespace Go.Proofs.YtfeiplaiekbdkaaGreatDoor
open Go.RowKit
attribute [local go_sem ↓ high] zeroV32 zeroV34
attribute [local go_sem] num_add
theorem info39 : (Tryz.prog.info? 130).map (·.size) = some 64 := by kernel_rfl
/-- The first k words are added up. -/
def mix (h v : Nat → W32) (k : Nat) : Nat → W32 := fun j => if j < k then h j + v j else h j
theorem mix_zero (h v : Nat → W32) : mix h v 0 = h := rfl
theorem mix_all (h v : Nat → W32) : ∀ j, j < 8 → mix h v 8 j = h j + v j := fun j hj => by simp [mix, hj]
theorem mix_at (h v : Nat → W32) (k : Nat) : mix h v k k = h k := by simp [mix]
theorem mix_upd (h v : Nat → W32) (k : Nat) : upd (mix h v k) k (h k + v k) = mix h v (k + 1) := by
  funext j
  unfold upd mix
  by_cases e : j = k
  · subst e; simp
  · by_cases h2 : j < k
    · simp [e, h2, show j < k + 1 by omega]
    · simp [e, h2, show ¬ j < k + 1 by omega]
/-- What Block's region knows. -/
def BlkS (w : World) (h : Nat → W32) (b : Nat → UInt8) (Y : World) : Prop :=
  Arr Y w.heap.size 129 8 (wds h) ∧ Arr Y (w.heap.size + 1) 130 64 (bys b) ∧ Arr Y (w.heap.size + 1 + 1) 129 8 (wds zw) ∧ Below w.heap.size w Y
theorem BlkS.keep {w : World} {h : Nat → W32} {b : Nat → UInt8} {Y Z : World} (H : BlkS w h b Y) (hb : Below Y.heap.size Y Z) : BlkS w h b Z :=
  ⟨H.1.under hb, H.2.1.under hb, H.2.2.1.under hb, H.2.2.2.trans (hb.mono H.2.2.2.size)⟩

set_option maxHeartbeats 1000000 in
set_option maxRecDepth 100000 in
theorem block_any (h : Nat → W32) (b : Nat → UInt8) (w : World) (hT : Tabs w) :
    Calls Tryz.prog 102 #[.agg (vec 8 (wds h)), .agg (vec 64 (bys b))] w fun e w' => e = .returned (.agg (vec 8 (wds (comp h b)))) ∧ Below w.heap.size w w' := by
  obtain ⟨W0, hW0⟩ : ∃ W0, W0 = ((w.alloc (.cells (vec 8 (wds h)) 129)).alloc (.cells (vec 64 (bys b)) 130)).alloc (.cells (vec 8 (wds zw)) 129) := ⟨_, rfl⟩
  have hA : Arr W0 w.heap.size 129 8 (wds h) := by rw [hW0]; exact ((Arr.new w _ _ _).alloc _).alloc _
  have hM : Arr W0 (w.heap.size + 1) 130 64 (bys b) := by rw [hW0]; exact (Arr.newAt (w.alloc (.cells (vec 8 (wds h)) 129)) 130 64 (bys b) (by simp)).alloc _
  have hR : Arr W0 (w.heap.size + 1 + 1) 129 8 (wds zw) := by rw [hW0]; exact Arr.newAt ((w.alloc (.cells (vec 8 (wds h)) 129)).alloc (.cells (vec 64 (bys b)) 130)) 129 8 (wds zw) (by simp)
  have hB : Below w.heap.size w W0 := by rw [hW0]; exact (((Below.refl _ _).alloc (Nat.le_refl _) _).alloc (by simp) _).alloc (by simp; omega) _
  have HI : Hid (BlkS w h b W0) := Lib.hid ⟨hA, hM, hR, hB⟩
  have HT := Lib.hid hT
  have HW := Lib.hid hW0
  clear hA hM hR hB hT hW0
  go_enter Tryz.func102, Tryz.ntmps102
  go_upto_region 1 with fail
  rw [← HW.out]
  clear HW
  refine wp_region_held_drew (S := fun Y => BlkS w h b Y) (by kernel_rfl) (HI.out.keep ⟨rfl, rfl, rfl, Nat.le_refl _, fun _ _ => rfl⟩) (fun hS => ?_)
  (refine held_take (i := 0) (oi := ?ot1) (v := Value.agg (vec 8 (wds h))) ?at1 (by kernel_rfl) (by kernel_rfl) (by kernel_rfl) ?bt1 ?ct1 ?dt1 (by assumption) ?rt1; (case at1 => (simp only [List.getElem?_toArray, List.getElem?_cons_zero]; rfl)); (case bt1 => exact fun _ _ _ h => h); (case ct1 => kernel_rfl); (case dt1 => (intro W hW; exact exec_load 129 _ rfl _ rfl _ (run_load_arr hW.1 Tryz.underlying129 rfl info34))); (case' rt1 => simp only [Act.put, List.setIfInBounds_toArray, List.set_cons_zero, List.set_cons_succ]))
  (refine held_take (i := 1) (oi := ?ot2) (v := Value.agg (vec 64 (bys b))) ?at2 (by kernel_rfl) (by kernel_rfl) (by kernel_rfl) ?bt2 ?ct2 ?dt2 (by assumption) ?rt2; (case at2 => (simp only [List.getElem?_toArray, List.getElem?_cons_zero, List.getElem?_cons_succ]; rfl)); (case bt2 => exact fun _ _ _ h => h); (case ct2 => kernel_rfl); (case dt2 => (intro W hW; exact exec_load 130 _ rfl _ rfl _ (run_load_arr hW.2.1 Tryz.underlying130 rfl info39))); (case' rt2 => simp only [Act.put, List.setIfInBounds_toArray, List.set_cons_zero, List.set_cons_succ]))
  (refine held_take (i := 4) (oi := ?ot3) (v := ?vt3) ?at3 (by kernel_rfl) (by kernel_rfl) (by kernel_rfl) ?bt3 ?ct3 ?dt3 (by assumption) ?rt3; (case at3 => (simp only [List.getElem?_toArray, List.getElem?_cons_zero, List.getElem?_cons_succ]; rfl)); (case bt3 => exact fun _ _ _ h => h); (case ct3 => kernel_rfl); (case dt3 => (intro W hW; (try dsimp only at hW); go_split_ands; go_simp; (try with_reducible rfl))); (case' rt3 => simp only [Act.put, List.setIfInBounds_toArray, List.set_cons_zero, List.set_cons_succ]))
  refine held_one (i := 2) (oi := ?ot4) (by kernel_rfl) ?at4 ?ct4 (fun K2 hK2 => ?_)
  (case at4 => (simp only [List.getElem?_toArray, List.getElem?_cons_zero, List.getElem?_cons_succ]; rfl))
  (case ct4 => kernel_rfl)
  go_simp
  refine (schedule_any _ _).mono ?_
  rintro e w1 ⟨rfl, hd⟩
  refine hK2 _ _ (BlkS.keep hS hd) (fun hS2 => ?_)
  clear hS hd hK2 K2
  refine held_one (i := 3) (oi := ?ot5) (by kernel_rfl) ?at5 ?ct5 (fun K3 hK3 => ?_)
  (case at5 => (simp only [List.getElem?_toArray, List.getElem?_cons_zero, List.getElem?_cons_succ]; rfl))
  (case ct5 => kernel_rfl)
  go_simp
  refine (work_any _ _ _ (tabs_below HT.out hS2.2.2.2)).mono ?_
  rintro e w1 ⟨rfl, hd⟩
  refine hK3 _ _ (BlkS.keep hS2 hd) (fun hS3 => ?_)
  clear hS2 hd hK3 K3
  refine wpAnyH_done (by kernel_rfl) ?_ _
  have hS : BlkS w h b w1 := hS3
  clear hS3 HI
  obtain ⟨v, hv⟩ : ∃ v, rounds Kt (sch (mW b) 48) h 64 = v := ⟨_, rfl⟩
  rw [hv]
  have HV := Lib.hid hv
  have HS := Lib.hid hS
  clear hv hS
  go_wp2_with fail
  go_loopw [11] (fun i W => ∃ k : Nat, k ≤ 8 ∧ i = .int .i64 k ∧ Arr W w.heap.size 129 8 (wds (mix h v k)) ∧ Arr W (w.heap.size + 1 + 1) 129 8 (wds zw) ∧ Below w.heap.size w W) (fun i _ => 8 - (intOf i).toNat)
  case atStart => exact ⟨0, by decide, rfl, HS.out.1, HS.out.2.2.1, HS.out.2.2.2⟩
  case round =>
    obtain ⟨k, hk, rfl, hA, hR, hB⟩ := hrel
    by_cases hlt : k < 8
    · have hix := fun W => index8 v k hlt W
      have hc : wr.cell? ⟨w.heap.size, k, none⟩ = some (.int .u32 (num (h k))) := by
        have := hA.cell (i := k) hlt
        rw [wds, mix_at] at this
        exact this
      have hf := hA.frozen k
      have HAl := Lib.hid (And.intro hA (And.intro hR hB))
      clear hA hR hB hk
      go_wp2
      go_roundw
      case rel =>
        obtain ⟨hA, hR, hB⟩ := HAl.out
        have hA2 := hA.set k (.int .u32 (num (h k + v k)))
        rw [wds_upd, mix_upd] at hA2
        exact ⟨k + 1, by omega, by go_num, hA2, hR.far (p := ⟨w.heap.size, k, none⟩) (show w.heap.size + 1 + 1 ≠ w.heap.size by omega) _, hB.setCell (show w.heap.size ≤ w.heap.size by omega) _⟩
      case measure => simp [intOf]; omega
    · obtain rfl : k = 8 := by omega
      have hA2 : Arr wr w.heap.size 129 8 (wds (comp h b)) := hA.congr fun j hj => by simp only [wds, mix_all h v j hj, comp]; rw [HV.out]
      have HL := Lib.hid (run_load_arr (P := Tryz.prog) hA2 Tryz.underlying129 rfl info34)
      have HW := Lib.hid (run_store_arr (P := Tryz.prog) hR (wds (comp h b)) info34 (wds_one _ _))
      have HR2 := Lib.hid (run_load_arr (P := Tryz.prog) (hR.row (wds (comp h b))) Tryz.underlying129 rfl info34)
      have HB := Lib.hid (below_row hB (show w.heap.size ≤ w.heap.size + 1 + 1 by omega) (vec 8 (wds (comp h b))))
      clear hA hR hB hA2 hlt hk
      go_wp2_with (first
        | (refine wl_load rfl 129 _ rfl _ rfl _ HL.out ?_)
        | (refine wl_store rfl 129 _ _ rfl _ rfl _ rfl HW.out ?_))
      exact bodyPost_ret (results_cell1 rfl _ _ _ rfl HR2.out) rfl ⟨rfl, HB.out⟩
end Go.Proofs.YtfeiplaiekbdkaaGreatDoor
