/- The reference's KeyOf, of 68 bytes. -/
import Derived.Test.YtmcpmcicolpoeaaDoorMc
namespace Go.Proofs.YtmcpmcicolpoeaaDoor
open Go.RowKit

/-- A key's cells. -/
def keyF (oid : Int) (root seed : Nat → UInt8) : Nat → Value
  | 0 => .int .u32 oid
  | i + 1 => if i < 32 then bys root i else bys seed (i - 32)
set_option maxRecDepth 100000 in
theorem keyF_one (oid : Int) (root seed : Nat → UInt8) (n : Nat) : ∀ i, i < n → (keyF oid root seed i).oneCell' = true := by
  intro i _
  unfold keyF
  split
  · rfl
  · split <;> rfl
set_option maxRecDepth 100000 in
theorem info32 : (Tryd.prog.info? 100).map (·.size) = some 32 := by kernel_rfl
theorem infoKey : (Tryd.prog.info? 102).map (·.size) = some 65 := by kernel_rfl
set_option maxRecDepth 100000 in
theorem zeroKey (w : World) : (zeroValue 102).run Tryd.prog w = .ok (.agg (vec 65 (keyF 0 zb zb))) w :=
  (zero_of_info (P := Tryd.prog) (t := 102) (v := .agg (vec 65 (keyF 0 zb zb))) (n := 65) (by kernel_rfl)).1 w
attribute [local go_sem ↓ high] zeroKey
set_option maxRecDepth 100000 in
theorem arr_at_n (a : Addr) (c : Nat) (w : World) : (Instr.arrayAt 100 (.slice (some a) 32 c)).run Tryd.prog w = .ok (.pointer (some a)) w := by
  simp [Instr.arrayAt, run_underlying Tryd.underlying100]
set_option maxRecDepth 100000 in
theorem results_ct {fn : Func} {p q : Tmp} {ty : TypeId} {P : Program} {w : World} (h : fn.results = #[.cell p ty, .tmp q]) (tmps : Array Value) (g : Nat) (v : Value)
    (ha : tmps.getD p undef = .pointer (some ⟨g, 0, none⟩)) (hl : (loadVar ty ⟨g, 0, none⟩).run P w = .ok v w) : (results fn tmps).run P w = .ok (.tuple #[v, tmps.getD q undef]) w := by
  have hp' : tmps[p]?.getD undef = .pointer (some ⟨g, 0, none⟩) := by simpa using ha
  simp [results, h, hp', asAddr, hl]
set_option maxRecDepth 100000 in
theorem key_lies_q {w : World} {p : Addr} {k : By} (hk : k.length = 68) (hp : p.block < w.heap.size) (hc : ∀ i, i < 68 → w.cell? (p.add i) = some (bys (kF k) i)) : Lies w w.heap.size 1 (some p) 68 (u8s k) := by
  refine ⟨by simp [u8s, hk], fun _ => ⟨p, rfl, hp, fun j hj => ?_⟩⟩
  have hj2 : j < 68 := by simp [u8s] at hj; omega
  rw [hc j hj2]
  simp [u8s, bys, kF, hk, hj2]
/-- What KeyOf answers of 68 bytes: its error counts alone. -/
def KeyP (k : By) (w : World) (x : Ending) (w' : World) : Prop := ∃ f : Nat → Value, x = .returned (.tuple #[.agg (vec 65 f), .int .i64 (((if kOk k = true then 0 else 80 : Nat)) : Int)]) ∧ (∀ i, i < 65 → (f i).oneCell' = true) ∧ Below w.heap.size w w'
set_option maxHeartbeats 2000000 in
set_option maxRecDepth 100000 in
theorem rkey_any (k : By) (hk : k.length = 68) (a : Addr) (c : Nat) (hc : 68 ≤ c) (w : World) (hab : a.block < w.heap.size) (hl : ∀ i, i < 68 → w.cell? (a.add i) = some (bys (kF k) i)) : Calls Tryd.prog 50 #[.slice (some a) 68 c] w (KeyP k w) := by
  obtain ⟨V, hV⟩ : ∃ V, V = w.alloc (.cells (vec 65 (keyF 0 zb zb)) 102) := ⟨_, rfl⟩
  have h0 : Arr V w.heap.size 102 65 (keyF 0 zb zb) := by rw [hV]; exact Arr.new w _ _ _
  have hB : Below w.heap.size w V := by rw [hV]; exact (Below.refl _ _).alloc (Nat.le_refl _) _
  have hlV := ((key_lies_q hk hab hl).below hB).wide hB.size
  have hnum := number_any k (some a) c V.heap.size 0 4 false (by decide) V (by rw [hk]; decide) (by rw [hk]; exact hlV)
  rw [hk, numOf_key k hk] at hnum
  obtain ⟨oid, hn⟩ : ∃ n, n = val (k.take 4) := ⟨_, rfl⟩
  have hoid : oid < 4294967296 := by
    have := val_lt (k.take 4)
    rw [← hn] at this
    refine Nat.lt_of_lt_of_le this ?_
    have : (k.take 4).length = 4 := by simp; omega
    rw [this]; decide
  have hko : kOk k = isO oid := by rw [hn]; rfl
  rw [← hn] at hnum
  have c1 : ∀ i, i < 32 → w.cell? ((a.add 4).add i) = some (bys (fun j => kF k (4 + j)) i) := fun i hi => by rw [addr_add_add]; exact hl (4 + i) (by omega)
  have c2 : ∀ i, i < 32 → w.cell? ((a.add 36).add i) = some (bys (fun j => kF k (36 + j)) i) := fun i hi => by rw [addr_add_add]; exact hl (36 + i) (by omega)
  have HN := Lib.hid hnum
  have i36 : (36 : Int) ≤ (c : Int) := by omega
  have i4 : ¬ c = 4 := by omega
  have j36 : ¬ c = 36 := by omega
  have hwn : IntKind.u32.wrap (oid : Int) = (oid : Int) := by rw [IntKind.wrap_u32]; omega
  have HA := Lib.hid (And.intro h0 hB)
  obtain ⟨root, hroot⟩ : ∃ r : Nat → UInt8, r = fun j => kF k (4 + j) := ⟨_, rfl⟩
  obtain ⟨seed, hseed⟩ : ∃ r : Nat → UInt8, r = fun j => kF k (36 + j) := ⟨_, rfl⟩
  rw [← hroot] at c1
  rw [← hseed] at c2
  have hcV : ∀ {p : Addr} {u : Value}, p.block < w.heap.size → w.cell? p = some u → V.cell? p = some u := fun hp hu => (hB.cell hp).trans hu
  have HC := Lib.hid (And.intro hab (And.intro (fun i (hi : i < 32) => hcV (p := (a.add 4).add i) (by rw [addr_add_block, addr_add_block]; exact hab) (c1 i hi)) (fun i (hi : i < 32) => hcV (p := (a.add 36).add i) (by rw [addr_add_block, addr_add_block]; exact hab) (c2 i hi))))
  have HW := Lib.hid hV
  have HH := Lib.hid (fun W => rheight_any oid hoid W)
  have HE : Hid ((if kOk k = true then 0 else 80 : Nat) = if isO oid = true then 0 else 80) := Lib.hid (by rw [hko])
  unfold KeyP
  obtain ⟨ke, hke⟩ : ∃ ke : Nat, ke = if kOk k = true then 0 else 80 := ⟨_, rfl⟩
  obtain ⟨is, his⟩ : ∃ is, is = isO oid := ⟨_, rfl⟩
  rw [← hke, ← his] at HE
  rw [← hke]
  rw [← his] at HH
  obtain ⟨ht, hht⟩ : ∃ ht, ht = hgtO oid := ⟨_, rfl⟩
  rw [← hht] at HH
  clear hV h0 hB hlV hnum hn hko c1 c2 hroot hseed hcV hke his hht hl hab hk
  cases is
  · obtain rfl : ke = 80 := HE.out
    clear HE
    go_enter Tryd.func50, Tryd.ntmps50
    go_upto_region 1 with fail
    rw [← HW.out]
    clear HW
    go_wp2_with (first
      | (go_at_call 47; refine HN.out.mono ?_; rintro e w1 ⟨rfl, hw1⟩; rw [← hw1]; clear hw1)
      | (go_at_call 86; refine (HH.out _).mono ?_; rintro e w1 ⟨rfl, hw1⟩; rw [← hw1]; clear hw1)
      | ((with_reducible show wpList _ _ _ (Oper.mk _ (.build _ _) _ _ _ _ :: _) _ _); refine wl_build rfl 102 _ rfl (vec 65 (keyF 0 zb zb)) (by kernel_rfl) ?_)
      | ((with_reducible show wpList _ _ _ (Oper.mk _ (.store _ _ _) _ _ _ _ :: _) _ _); refine wl_store rfl 102 _ _ rfl _ rfl _ rfl (run_store_arr HA.out.1 (keyF 0 zb zb) infoKey (keyF_one _ _ _ _)) ?_))
    exact bodyPost_ret (results_ct rfl _ _ _ rfl (run_load_arr (HA.out.1.row _) Tryd.underlying102 rfl infoKey)) rfl ⟨_, rfl, keyF_one _ _ _ _, below_row HA.out.2 (Nat.le_refl _) _⟩
  · obtain rfl : ke = 0 := HE.out
    clear HE
    go_enter Tryd.func50, Tryd.ntmps50
    go_upto_region 1 with fail
    rw [← HW.out]
    clear HW
    go_upto_region 5 with (first
      | (go_at_call 47; refine HN.out.mono ?_; rintro e w1 ⟨rfl, hw1⟩; rw [← hw1]; clear hw1)
      | (go_at_call 86; refine (HH.out _).mono ?_; rintro e w1 ⟨rfl, hw1⟩; rw [← hw1]; clear hw1))
    refine wp_region_held_drew (S := fun Y => Save w.heap.size V Y ∧ ∃ f, Arr Y w.heap.size 102 65 f) (by kernel_rfl) ⟨Save.of_below (VS.begin V), _, HA.out.1⟩ (fun hS => ?_)
    (refine held_take (i := 0) (oi := ?ot1) (v := ?vt1) ?at1 (by kernel_rfl) (by kernel_rfl) (by kernel_rfl) ?bt1 ?ct1 ?dt1 (by assumption) ?rt1; (case at1 => (simp only [List.getElem?_toArray, List.getElem?_cons_zero]; rfl)); (case bt1 => exact fun _ _ _ h => h); (case ct1 => kernel_rfl); (case dt1 => (intro W hW; (try dsimp only at hW); go_split_ands; go_simp; (try with_reducible rfl))); (case' rt1 => simp only [Act.put, List.setIfInBounds_toArray, List.set_cons_zero, List.set_cons_succ]))
    (refine held_take (i := 1) (oi := ?ot2) (v := .int .u32 (oid : Int)) ?at2 (by kernel_rfl) (by kernel_rfl) (by kernel_rfl) ?bt2 ?ct2 ?dt2 (by assumption) ?rt2; (case at2 => (simp only [List.getElem?_toArray, List.getElem?_cons_zero, List.getElem?_cons_succ]; rfl)); (case bt2 => exact fun _ _ _ h => h); (case ct2 => kernel_rfl); (case dt2 => (intro W hW; (try dsimp only at hW); go_simp; (try with_reducible rfl))); (case' rt2 => simp only [Act.put, List.setIfInBounds_toArray, List.set_cons_zero, List.set_cons_succ]))
    (refine held_take (i := 2) (oi := ?ot3) (v := ?vt3) ?at3 (by kernel_rfl) (by kernel_rfl) (by kernel_rfl) ?bt3 ?ct3 ?dt3 (by assumption) ?rt3; (case at3 => (simp only [List.getElem?_toArray, List.getElem?_cons_zero, List.getElem?_cons_succ]; rfl)); (case bt3 => exact fun _ _ _ h => h); (case ct3 => kernel_rfl); (case dt3 => (intro W hW; (try dsimp only at hW); go_split_ands; go_simp; (try with_reducible rfl))); (case' rt3 => simp only [Act.put, List.setIfInBounds_toArray, List.set_cons_zero, List.set_cons_succ]))
    (refine held_take (i := 3) (oi := ?ot4) (v := .slice (some (a.add 4)) 32 (c - 4)) ?at4 (by kernel_rfl) (by kernel_rfl) (by kernel_rfl) ?bt4 ?ct4 ?dt4 (by assumption) ?rt4; (case at4 => (simp only [List.getElem?_toArray, List.getElem?_cons_zero, List.getElem?_cons_succ]; rfl)); (case bt4 => exact fun _ _ _ h => h); (case ct4 => kernel_rfl); (case dt4 => (intro W hW; clear hW; go_simp; (try with_reducible rfl); (try (intro h; omega)))); (case' rt4 => simp only [Act.put, List.setIfInBounds_toArray, List.set_cons_zero, List.set_cons_succ]))
    (refine held_take (i := 4) (oi := ?ot5) (v := .pointer (some (a.add 4))) ?at5 (by kernel_rfl) (by kernel_rfl) (by kernel_rfl) ?bt5 ?ct5 ?dt5 (by assumption) ?rt5; (case at5 => (simp only [List.getElem?_toArray, List.getElem?_cons_zero, List.getElem?_cons_succ]; rfl)); (case bt5 => exact fun _ _ _ h => h); (case ct5 => kernel_rfl); (case dt5 => (intro W hW; clear hW; have har := arr_at_n ⟨a.block, a.off + 4, none⟩ (c - 4) W; go_simp; (try with_reducible rfl))); (case' rt5 => simp only [Act.put, List.setIfInBounds_toArray, List.set_cons_zero, List.set_cons_succ]))
    (refine held_take (i := 5) (oi := ?ot6) (v := .agg (vec 32 (bys root))) ?at6 (by kernel_rfl) (by kernel_rfl) (by kernel_rfl) ?bt6 ?ct6 ?dt6 (by assumption) ?rt6; (case at6 => (simp only [List.getElem?_toArray, List.getElem?_cons_zero, List.getElem?_cons_succ]; rfl)); (case bt6 => exact fun _ _ _ h => h); (case ct6 => kernel_rfl); (case dt6 => (intro W hW; exact exec_load_q 100 _ rfl (a.add 4) rfl _ (run_load_q (fun i hi => (hW.1.cell (p := (a.add 4).add i) (by rw [addr_add_block, addr_add_block]; exact Nat.lt_of_lt_of_le HC.out.1 HA.out.2.size) (by rw [addr_add_block, addr_add_block]; exact Nat.ne_of_lt HC.out.1)).trans (HC.out.2.1 i hi)) Tryd.underlying100 rfl info32))); (case' rt6 => simp only [Act.put, List.setIfInBounds_toArray, List.set_cons_zero, List.set_cons_succ]))
    (refine held_take (i := 6) (oi := ?ot7) (v := ?vt7) ?at7 (by kernel_rfl) (by kernel_rfl) (by kernel_rfl) ?bt7 ?ct7 ?dt7 (by assumption) ?rt7; (case at7 => (simp only [List.getElem?_toArray, List.getElem?_cons_zero, List.getElem?_cons_succ]; rfl)); (case bt7 => exact fun _ _ _ h => h); (case ct7 => kernel_rfl); (case dt7 => (intro W hW; (try dsimp only at hW); go_split_ands; go_simp; (try with_reducible rfl))); (case' rt7 => simp only [Act.put, List.setIfInBounds_toArray, List.set_cons_zero, List.set_cons_succ]))
    (refine held_take (i := 7) (oi := ?ot8) (v := .slice (some (a.add 36)) 32 (c - 36)) ?at8 (by kernel_rfl) (by kernel_rfl) (by kernel_rfl) ?bt8 ?ct8 ?dt8 (by assumption) ?rt8; (case at8 => (simp only [List.getElem?_toArray, List.getElem?_cons_zero, List.getElem?_cons_succ]; rfl)); (case bt8 => exact fun _ _ _ h => h); (case ct8 => kernel_rfl); (case dt8 => (intro W hW; clear hW; go_simp; (try with_reducible rfl); (try (intro h; omega)))); (case' rt8 => simp only [Act.put, List.setIfInBounds_toArray, List.set_cons_zero, List.set_cons_succ]))
    (refine held_take (i := 8) (oi := ?ot9) (v := .pointer (some (a.add 36))) ?at9 (by kernel_rfl) (by kernel_rfl) (by kernel_rfl) ?bt9 ?ct9 ?dt9 (by assumption) ?rt9; (case at9 => (simp only [List.getElem?_toArray, List.getElem?_cons_zero, List.getElem?_cons_succ]; rfl)); (case bt9 => exact fun _ _ _ h => h); (case ct9 => kernel_rfl); (case dt9 => (intro W hW; clear hW; have har := arr_at_n ⟨a.block, a.off + 36, none⟩ (c - 36) W; go_simp; (try with_reducible rfl))); (case' rt9 => simp only [Act.put, List.setIfInBounds_toArray, List.set_cons_zero, List.set_cons_succ]))
    (refine held_take (i := 9) (oi := ?ot10) (v := .agg (vec 32 (bys seed))) ?at10 (by kernel_rfl) (by kernel_rfl) (by kernel_rfl) ?bt10 ?ct10 ?dt10 (by assumption) ?rt10; (case at10 => (simp only [List.getElem?_toArray, List.getElem?_cons_zero, List.getElem?_cons_succ]; rfl)); (case bt10 => exact fun _ _ _ h => h); (case ct10 => kernel_rfl); (case dt10 => (intro W hW; exact exec_load_q 100 _ rfl (a.add 36) rfl _ (run_load_q (fun i hi => (hW.1.cell (p := (a.add 36).add i) (by rw [addr_add_block, addr_add_block]; exact Nat.lt_of_lt_of_le HC.out.1 HA.out.2.size) (by rw [addr_add_block, addr_add_block]; exact Nat.ne_of_lt HC.out.1)).trans (HC.out.2.2 i hi)) Tryd.underlying100 rfl info32))); (case' rt10 => simp only [Act.put, List.setIfInBounds_toArray, List.set_cons_zero, List.set_cons_succ]))
    (refine held_take (i := 10) (oi := ?ot11) (v := .agg (vec 65 (keyF (oid : Int) root seed))) ?at11 (by kernel_rfl) (by kernel_rfl) (by kernel_rfl) ?bt11 ?ct11 ?dt11 (by assumption) ?rt11; (case at11 => (simp only [List.getElem?_toArray, List.getElem?_cons_zero, List.getElem?_cons_succ]; rfl)); (case bt11 => exact fun _ _ _ h => h); (case ct11 => kernel_rfl); (case dt11 => (intro W hW; exact exec_build 102 _ rfl (vec 65 (keyF (oid : Int) root seed)) (by kernel_rfl) W)); (case' rt11 => simp only [Act.put, List.setIfInBounds_toArray, List.set_cons_zero, List.set_cons_succ]))
    refine held_one (i := 11) (oi := ?ot12) (by kernel_rfl) ?at12 ?ct12 (fun K11 hK11 => ?_)
    (case at12 => (simp only [List.getElem?_toArray, List.getElem?_cons_zero, List.getElem?_cons_succ]; rfl))
    (case ct12 => kernel_rfl)
    obtain ⟨fR, hR⟩ := hS.2
    refine ow_store 102 _ _ rfl _ rfl _ rfl (run_store_arr hR (keyF (oid : Int) root seed) infoKey (keyF_one _ _ _ _)) ?_
    have hRR := hR.row (keyF (oid : Int) root seed)
    refine hK11 _ _ ⟨hS.1.setRow _, _, hRR⟩ (fun hS11 => ?_)
    have HF := Lib.hid hRR
    clear hK11 K11 hRR
    (refine held_take (i := 12) (oi := ?ot13) (v := ?vt13) ?at13 (by kernel_rfl) (by kernel_rfl) (by kernel_rfl) ?bt13 ?ct13 ?dt13 (by assumption) ?rt13; (case at13 => (simp only [List.getElem?_toArray, List.getElem?_cons_zero, List.getElem?_cons_succ]; rfl)); (case bt13 => exact fun _ _ _ h => h); (case ct13 => kernel_rfl); (case dt13 => (intro W hW; (try dsimp only at hW); go_split_ands; go_simp; (try with_reducible rfl))); (case' rt13 => simp only [Act.put, List.setIfInBounds_toArray, List.set_cons_zero, List.set_cons_succ]))
    refine wpAnyH_done (by kernel_rfl) ?_ _
    go_wp2
    exact bodyPost_ret (results_ct rfl _ _ _ rfl (run_load_arr HF.out Tryd.underlying102 rfl infoKey)) rfl ⟨_, rfl, keyF_one _ _ _ _, HA.out.2.trans (hS11.1.below (Nat.le_refl _) HA.out.2.size)⟩
end Go.Proofs.YtmcpmcicolpoeaaDoor
