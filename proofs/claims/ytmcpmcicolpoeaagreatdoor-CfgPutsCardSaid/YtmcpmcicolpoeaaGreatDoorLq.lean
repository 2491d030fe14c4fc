/- layGuest. -/
import Derived.Test.YtmcpmcicolpoeaaGreatDoorMl
import Derived.Lib.BufferWrite
import Derived.Test.YtmcpmcicolpoeaaGreatDoorMa
namespace Go.Proofs.YtmcpmcicolpoeaaGreatDoor
open Go.RowKit

set_option maxRecDepth 100000 in
theorem tail_of {T A G : Prop} (h : (Nat → T) → A → G) (t : T) : A → G := h fun _ => t
theorem zero16 (w : World) : (zeroValue 128).run Tryz.prog w = .ok (.agg (vec 16 (bys zb))) w :=
  (zero_of_info (P := Tryz.prog) (t := 128) (v := .agg (vec 16 (bys zb))) (n := 16) (by kernel_rfl)).1 w
attribute [local go_sem ↓ high] zero16
set_option maxRecDepth 100000 in
theorem info16 : (Tryz.prog.info? 128).map (·.size) = some 16 := by kernel_rfl
theorem lies_row {w : World} {g n : Nat} {cs : Array Value} {t : TypeId} {xs : List Value} (h : w.heap[g]? = some (.cells cs t (0, 0))) (hx : cs.toList = xs) (hn : xs.length = n) : Lies w w.heap.size 1 (some ⟨g, 0, none⟩) n xs := by
  refine ⟨by omega, fun _ => ⟨_, rfl, (Array.getElem?_eq_some_iff.1 h).1, fun j hj => ?_⟩⟩
  have e : ((⟨g, 0, none⟩ : Addr).add j) = ⟨g, j, none⟩ := by unfold Addr.add; by_cases h0 : j = 0 <;> simp [h0]
  rw [e, cell_of_row w g j _ t (0, 0) h, ← Array.getElem?_toList, hx, List.getElem?_eq_getElem hj]
set_option maxRecDepth 100000 in
theorem ow_copy_str {o : Oper} {a : Act} {w : World} {K : Act → World → Prop} {Q : Exit → Act → World → Prop} (d x : Operand) (dT sT elem : TypeId) (hop : o.op = Op.call { callee := Callee.builtin Builtin.copy, args := #[d, x], argTypes := #[dT, sT] })
    (hu : Tryz.prog.underlying dT = some (.slice elem)) (hs : (Tryz.prog.info? elem).map (·.size) = some 1) (g dLen dCap : Nat) (s : ByteArray) (cur : Array Value) (t : TypeId) (hd : a.eval d = .slice (some ⟨g, 0, none⟩) dLen dCap) (hx : a.eval x = .string s)
    (hg : w.heap[g]? = some (.cells cur t (0, 0))) (hle : s.size ≤ dLen) (hfit : 0 + s.size ≤ cur.size)
    (h : K (a.put o.dst (goInt s.size)) (w.setRow g (cur.toList.take 0 ++ Lib.byteCells s.data.toList ++ cur.toList.drop (0 + s.size)).toArray)) : o.wp Tryz.prog a w K Q := by
  have hrun := Lib.run_copy_row_string (P := Tryz.prog) w dT sT o.type elem g 0 dLen dCap s cur t hu hs hg hle hfit
  unfold Oper.wp
  simp only [List.take_zero, List.nil_append, Nat.zero_add] at hrun h
  simp [execOp, hop, resolve, invoke, builtin, hd, hx, hrun, Result.andThen]
  exact h
set_option maxRecDepth 100000 in
theorem name_cells (s : By) (_h : s.length ≤ 16) : ((vec 16 (bys zb)).toList.take 0 ++ Lib.byteCells (strOf s).data.toList ++ (vec 16 (bys zb)).toList.drop (0 + (strOf s).size)) = u8s (nameE s) := by
  rw [List.take_zero, List.nil_append, Nat.zero_add, strOf_size]
  unfold nameE
  have e1 : Lib.byteCells (strOf s).data.toList = u8s s := rfl
  have e2 : (vec 16 (bys zb)).toList = List.replicate 16 (Value.int .u8 0) := by rfl
  rw [e1, e2, List.drop_replicate]
  simp [u8s]
set_option maxRecDepth 100000 in
theorem key_lies7 {w : World} {g : Nat} {t : TypeId} {x : GV} (h : Arr w g t 79 (guestE x)) (hk : x.g.key.length = 68) : Lies w w.heap.size 1 (some ⟨g, 7, none⟩) 68 (u8s x.g.key) := by
  refine ⟨by simp [u8s, hk], fun _ => ⟨_, rfl, h.lt, fun j hj => ?_⟩⟩
  have hj : j < 68 := by simpa [u8s, hk] using hj
  have e : ((⟨g, 7, none⟩ : Addr).add j) = ⟨g, 7 + j, none⟩ := by unfold Addr.add; by_cases h0 : j = 0 <;> simp [h0]
  rw [e, guest_key h j hj]
  simp [bys, kF, u8s, List.getElem?_eq_getElem (show j < x.g.key.length by omega)]
set_option maxRecDepth 100000 in
theorem strs_lies {w : World} {B : Nat} {A : Option Addr} {l : List Int} (h : RowE 1 numE w B A l) (hb : ∀ z ∈ l, u32B z) : Lies w B 1 A l.length (u32s (l.map Int.toNat)) := by
  refine h.lies ?_
  unfold u32s
  rw [List.map_map]
  have : cellsE 1 numE l = l.map fun z => Value.int .u32 z := cells_one (fun z => Value.int .u32 z) l
  rw [this]
  refine List.map_congr_left fun z hz => ?_
  have := (hb z hz).1
  simp only [Function.comp]
  congr 1; omega
set_option maxRecDepth 100000 in
theorem nu_flat (l : List Int) : (l.map Int.toNat).flatMap (be 4) = l.flatMap layNu := by rw [List.flatMap_map]; rfl
theorem layWi_len (x : Wi) : (layWi x).length = 28 := by simp [layWi, be_len]
set_option maxRecDepth 100000 in
theorem layDe_len (x : De) : (layDe x).length = 24 := by simp [layDe, be_len]
theorem layIr_len (x : Ir) : (layIr x).length = 8 := by simp [layIr, be_len]
set_option maxRecDepth 100000 in
theorem layNu_len (x : Int) : (layNu x).length = 4 := by simp [layNu, be_len]
theorem errG_ok {g : Gs} (h : errG g = 0) : nameOk g.name = true ∧ kOk g.key = true ∧ cntOk g = true ∧ g.wins.any badWi = false ∧ g.irqs.any badIr = false := by
  unfold errG e144 at h
  cases h1 : nameOk g.name <;> cases h2 : kOk g.key <;> cases h3 : cntOk g <;> cases h4 : g.wins.any badWi <;> cases h5 : g.irqs.any badIr <;> simp_all
set_option maxRecDepth 100000 in
theorem cnt_bounds {g : Gs} (h : cntOk g = true) : g.wins.length ≤ 16 ∧ g.devs.length ≤ 16 ∧ g.irqs.length ≤ 64 ∧ g.strs.length ≤ 32 := by
  unfold cntOk inB at h
  simp only [Bool.and_eq_true, decide_eq_true_eq] at h
  omega
set_option maxRecDepth 100000 in
set_option maxHeartbeats 16000000 in
theorem layGuest_any (x : GV) (w : World) (hx : GRow w w.heap.size x) (hb : GsB x.g) (he : errG x.g = 0) : Calls Tryz.prog 35 #[.agg (vec 79 (guestE x))] w (Bytes w (layG x.g)) := by
  obtain ⟨hnm, -, hct, hwb, hib⟩ := errG_ok he
  obtain ⟨q0, q1, q2, q3⟩ := cnt_bounds hct
  have hnl : x.g.name.length ≤ 16 := by
    unfold nameOk at hnm
    simp only [Bool.and_eq_true, decide_eq_true_eq] at hnm
    exact hnm.2
  obtain ⟨V0, hV0⟩ : ∃ V, V = w.alloc (.cells (vec 79 (guestE x)) 45) := ⟨_, rfl⟩
  obtain ⟨V1, hV1⟩ : ∃ V, V = V0.alloc (.cells (vec 16 (bys zb)) 128) := ⟨_, rfl⟩
  obtain ⟨S, hS⟩ : ∃ S, S = strOf x.g.name := ⟨_, rfl⟩
  obtain ⟨r, hr⟩ : ∃ r, r = V0.heap.size := ⟨_, rfl⟩
  have hrw : r = w.heap.size + 1 := by rw [hr, hV0]; simp
  obtain ⟨V, hV⟩ : ∃ V, V = V1.drew.setRow r ((vec 16 (bys zb)).toList.take 0 ++ Lib.byteCells S.data.toList ++ (vec 16 (bys zb)).toList.drop (0 + S.size)).toArray := ⟨_, rfl⟩
  have a0 : Arr V0 w.heap.size 45 79 (guestE x) := by rw [hV0]; exact Arr.new w _ _ _
  have b0 : Below w.heap.size w V0 := by rw [hV0]; exact (Below.refl _ _).alloc (Nat.le_refl _) _
  have b1' : Below V0.heap.size V0 V1 := by rw [hV1]; exact (Below.refl _ _).alloc (Nat.le_refl _) _
  have b1 : Below V0.heap.size V0 V1.drew := b1'.trans ((show Below V1.heap.size V1 V1.drew from VS.begin V1).mono b1'.size)
  have hrow : V1.drew.heap[r]? = some (.cells (vec 16 (bys zb)) 128 (0, 0)) := by rw [hr, hV1]; exact heap_alloc_new V0 _
  have b2 : Below V0.heap.size V0 V := by rw [hV]; exact below_row b1 (by omega) _
  have hrV : V.heap[r]? = some (.cells (u8s (nameE x.g.name)).toArray 128 (0, 0)) := by
    rw [hV, hS, name_cells _ hnl]
    exact setRow_heap _ _ _ _ _ _ hrow
  have HNM0 : Lies V V.heap.size 1 (some ⟨r, 0, none⟩) 16 (u8s (nameE x.g.name)) := lies_row hrV rfl (by simp [u8s, nameE]; omega)
  have k1 : Arr V w.heap.size 45 79 (guestE x) := a0.under b2
  have hB : Below w.heap.size w V := b0.trans (b2.mono b0.size)
  have HK := Lib.hid hB
  have hx2 : GRow V V.heap.size x := (hx.below hB).wide hB.size
  have HKY := Lib.hid (key_lies7 k1 hb.key)
  obtain ⟨⟨A0, d0, f0, w0, _⟩, ⟨A1, d1, f1, w1, _⟩, ⟨A2, d2, f2, w2, _⟩, ⟨A3, d3, f3, w3, _⟩⟩ := hx2
  obtain ⟨n2, h2⟩ := Int.eq_ofNat_of_zero_le hb.off.1
  obtain ⟨n3, h3⟩ := Int.eq_ofNat_of_zero_le hb.len.1
  obtain ⟨n4, h4⟩ := Int.eq_ofNat_of_zero_le hb.cpus.1
  obtain ⟨n5, h5⟩ := Int.eq_ofNat_of_zero_le hb.entry.1
  obtain ⟨n6, h6⟩ := Int.eq_ofNat_of_zero_le hb.dtb.1
  have HC1 : Hid (V.cell? ⟨w.heap.size, 1, none⟩ = some (.bool x.g.must)) := Lib.hid (k1.cell (i := 1) (by decide))
  have HC2 : Hid (V.cell? ⟨w.heap.size, 2, none⟩ = some (.int .u32 (n2 : Int))) := Lib.hid (h2 ▸ k1.cell (i := 2) (by decide))
  have HC3 : Hid (V.cell? ⟨w.heap.size, 3, none⟩ = some (.int .u32 (n3 : Int))) := Lib.hid (h3 ▸ k1.cell (i := 3) (by decide))
  have HC4 : Hid (V.cell? ⟨w.heap.size, 4, none⟩ = some (.int .u32 (n4 : Int))) := Lib.hid (h4 ▸ k1.cell (i := 4) (by decide))
  have HC5 : Hid (V.cell? ⟨w.heap.size, 5, none⟩ = some (.int .u64 (n5 : Int))) := Lib.hid (h5 ▸ k1.cell (i := 5) (by decide))
  have HC6 : Hid (V.cell? ⟨w.heap.size, 6, none⟩ = some (.int .u64 (n6 : Int))) := Lib.hid (h6 ▸ k1.cell (i := 6) (by decide))
  have HG0 : Hid (V.cell? ⟨w.heap.size, 75, none⟩ = some (.slice A0 x.g.wins.length d0)) := Lib.hid (f0 ▸ k1.cell (i := 75) (by decide))
  have HG1 : Hid (V.cell? ⟨w.heap.size, 76, none⟩ = some (.slice A1 x.g.devs.length d1)) := Lib.hid (f1 ▸ k1.cell (i := 76) (by decide))
  have HG2 : Hid (V.cell? ⟨w.heap.size, 77, none⟩ = some (.slice A2 x.g.irqs.length d2)) := Lib.hid (f2 ▸ k1.cell (i := 77) (by decide))
  have HG3 : Hid (V.cell? ⟨w.heap.size, 78, none⟩ = some (.slice A3 x.g.strs.length d3)) := Lib.hid (f3 ▸ k1.cell (i := 78) (by decide))
  have g0 : V0.cell? ⟨w.heap.size, 0, none⟩ = some (.string S) := hS ▸ a0.cell (i := 0) (by decide)
  have HG : Hid (V1.drew.cell? ⟨w.heap.size, 0, none⟩ = some (.string S)) := Lib.hid ((b1.cell (World.block_lt_of_cell? V0 _ g0)).trans g0)
  have HW0 : Hid (∀ Y, VS V Y → Calls Tryz.prog 68 #[.slice A0 x.g.wins.length d0, .func (.func 69) #[] #[]] Y (Bytes Y (x.g.wins.flatMap layWi))) := Lib.hid (fun Y hY => row_wi x.g.wins A0 d0 Y (by omega) (w0.up hY) (by rw [flat_len layWi 28 layWi_len]; omega) (fun j h Z _ => layWi_any _ (hb.wins _ (List.getElem_mem h)) (by have := List.any_eq_false.1 hwb _ (List.getElem_mem h); simpa using this) Z))
  have HW1 : Hid (∀ Y, VS V Y → Calls Tryz.prog 70 #[.slice A1 x.g.devs.length d1, .func (.func 71) #[] #[]] Y (Bytes Y (x.g.devs.flatMap layDe))) := Lib.hid (fun Y hY => row_de x.g.devs A1 d1 Y (by omega) (w1.up hY) (by rw [flat_len layDe 24 layDe_len]; omega) (fun j h Z _ => layDe_any _ (hb.devs _ (List.getElem_mem h)) Z))
  have HW2 : Hid (∀ Y, VS V Y → Calls Tryz.prog 72 #[.slice A2 x.g.irqs.length d2, .func (.func 73) #[] #[]] Y (Bytes Y (x.g.irqs.flatMap layIr))) := Lib.hid (fun Y hY => row_ir x.g.irqs A2 d2 Y (by omega) (w2.up hY) (by rw [flat_len layIr 8 layIr_len]; omega) (fun j h Z _ => layIr_any _ (by have := List.any_eq_false.1 hib _ (List.getElem_mem h); simpa using this) Z))
  have HW3 : Hid (∀ Y, VS V Y → Calls Tryz.prog 32 #[.slice none 0 0, .slice A3 x.g.strs.length d3] Y (Bytes Y (x.g.strs.flatMap layNu))) := Lib.hid (fun Y hY => by
    have hl := strs_lies (w3.up hY) hb.strs
    have := pb32 [] (x.g.strs.map Int.toNat) (fun n hn => by obtain ⟨z, hz, rfl⟩ := List.mem_map.1 hn; have := hb.strs z hz; unfold u32B at this; omega) none A3 0 d3 Y (Lies.nil _ _ _ _) (by rw [List.length_map]; exact hl) (by simp) (by rw [List.length_map]; omega)
    rw [List.length_map, List.nil_append, nu_flat] at this
    exact this)
  have hLL : (x.g.wins.flatMap layWi).length ≤ 10000 ∧ (x.g.devs.flatMap layDe).length ≤ 10000 ∧ (x.g.irqs.flatMap layIr).length ≤ 10000 ∧ (x.g.strs.flatMap layNu).length ≤ 10000 := by
    rw [flat_len layWi 28 layWi_len, flat_len layDe 24 layDe_len, flat_len layIr 8 layIr_len, flat_len layNu 4 layNu_len]; omega
  have hNE : (nameE x.g.name).length = 16 := by simp [nameE]; omega
  have hKE := hb.key
  obtain ⟨fl, hfl⟩ : ∃ n, n = flagN x.g.must := ⟨_, rfl⟩
  have HFL := Lib.hid (flagC_any x.g.must)
  rw [← hfl] at HFL
  obtain ⟨m0, e0⟩ : ∃ m, m = x.g.wins.length := ⟨_, rfl⟩
  obtain ⟨m1, e1⟩ : ∃ m, m = x.g.devs.length := ⟨_, rfl⟩
  obtain ⟨m2, e2⟩ : ∃ m, m = x.g.irqs.length := ⟨_, rfl⟩
  obtain ⟨m3, e3⟩ : ∃ m, m = x.g.strs.length := ⟨_, rfl⟩
  have HN := Lib.hid (show (∀ n ∈ [fl, n2, n3, n4], n < 4294967296) ∧ (∀ n ∈ [n5, n6], n < 18446744073709551616) ∧ (∀ n ∈ [m0, m1, m2, m3], n < 65536) by
    have := flagN_lt x.g.must; have t1 := hb.off.2; have t2 := hb.len.2; have t3 := hb.cpus.2; have t4 := hb.entry.2; have t5 := hb.dtb.2; simp; omega)
  rw [← e0] at HG0 HW0
  rw [← e1] at HG1 HW1
  rw [← e2] at HG2 HW2
  rw [← e3] at HG3 HW3
  obtain ⟨LG, hLG⟩ : ∃ l, l = layG x.g := ⟨_, rfl⟩
  rw [← hLG]
  have hLGE : LG = nameE x.g.name ++ ([fl, n2, n3, n4].flatMap (be 4) ++ ([n5, n6].flatMap (be 8) ++ (x.g.key ++ ([m0, m1, m2, m3].flatMap (be 2) ++ (x.g.wins.flatMap layWi ++ (x.g.devs.flatMap layDe ++ (x.g.irqs.flatMap layIr ++ x.g.strs.flatMap layNu))))))) := by
    rw [hLG, hfl, e0, e1, e2, e3]
    simp [layG, layHd, layCt, layLs, h2, h3, h4, h5, h6]
  obtain ⟨NE, hne⟩ : ∃ l, l = nameE x.g.name := ⟨_, rfl⟩
  obtain ⟨KE, hke⟩ : ∃ l, l = x.g.key := ⟨_, rfl⟩
  obtain ⟨L0, u0⟩ : ∃ l, l = x.g.wins.flatMap layWi := ⟨_, rfl⟩
  obtain ⟨L1, u1⟩ : ∃ l, l = x.g.devs.flatMap layDe := ⟨_, rfl⟩
  obtain ⟨L2, u2⟩ : ∃ l, l = x.g.irqs.flatMap layIr := ⟨_, rfl⟩
  obtain ⟨L3, u3⟩ : ∃ l, l = x.g.strs.flatMap layNu := ⟨_, rfl⟩
  rw [← hne, ← hke, ← u0, ← u1, ← u2, ← u3] at hLGE
  rw [← u0] at HW0
  rw [← u1] at HW1
  rw [← u2] at HW2
  rw [← u3] at HW3
  rw [← u0, ← u1, ← u2, ← u3] at hLL
  rw [← hne] at hNE HNM0
  rw [← hke] at hKE HKY
  have HLL := Lib.hid hLL
  have HNE : Hid (Value.slice (some ⟨r, 0, none⟩) 16 16 = partV (some ⟨r, 0, none⟩, 16, NE)) := Lib.hid (by show _ = Value.slice _ NE.length _; rw [hNE])
  have HKE : Hid (Value.slice (some ⟨w.heap.size, 7, none⟩) 68 68 = partV (some ⟨w.heap.size, 7, none⟩, 68, KE)) := Lib.hid (by show _ = Value.slice _ KE.length _; rw [hKE])
  have HEQ := Lib.hid (And.intro hNE hKE)
  have HNM := Lib.hid HNM0
  have HEND : Hid (∀ (Y Y' : World) (v : Value) (a11 a17 a33 a36 a39 a42 a45 : Option Addr) (c11 c17 c33 c36 c39 c42 c45 : Nat), Y'.ownsRow Y.heap.size 5 1 v (catAll [(some ⟨r, 0, none⟩, 16, NE), (a11, c11, [] ++ [fl, n2, n3, n4].flatMap (be 4)), (a17, c17, [] ++ [n5, n6].flatMap (be 8)), (some ⟨w.heap.size, 7, none⟩, 68, KE), (a33, c33, [m0, m1, m2, m3].flatMap (be 2)), (a36, c36, L0), (a39, c39, L1), (a42, c42, L2), (a45, c45, L3)]).length (u8s (catAll [(some ⟨r, 0, none⟩, 16, NE), (a11, c11, [] ++ [fl, n2, n3, n4].flatMap (be 4)), (a17, c17, [] ++ [n5, n6].flatMap (be 8)), (some ⟨w.heap.size, 7, none⟩, 68, KE), (a33, c33, [m0, m1, m2, m3].flatMap (be 2)), (a36, c36, L0), (a39, c39, L1), (a42, c42, L2), (a45, c45, L3)])) → VS V Y → Below Y.heap.size Y Y' → ∃ u, Ending.returned v = .returned u ∧ Y'.ownsRow w.heap.size 5 1 u LG.length (u8s LG) ∧ Below w.heap.size w Y') := Lib.hid (fun Y Y' v a11 a17 a33 a36 a39 a42 a45 c11 c17 c33 c36 c39 c42 c45 hv1 hv2 hv3 => by
    have hb : Below w.heap.size w Y := HK.out.trans ((show Below V.heap.size V Y from hv2).mono HK.out.size)
    refine ⟨v, rfl, ?_, hb.trans (hv3.mono hb.size)⟩
    rw [show LG = catAll [(some ⟨r, 0, none⟩, 16, NE), (a11, c11, [] ++ [fl, n2, n3, n4].flatMap (be 4)), (a17, c17, [] ++ [n5, n6].flatMap (be 8)), (some ⟨w.heap.size, 7, none⟩, 68, KE), (a33, c33, [m0, m1, m2, m3].flatMap (be 2)), (a36, c36, L0), (a39, c39, L1), (a42, c42, L2), (a45, c45, L3)] by rw [hLGE]; simp [catAll]]
    exact owns_mono hv1 hb.size)
  have HGV : Hid (V.cell? ⟨w.heap.size, 0, none⟩ = some (.string S)) := Lib.hid (hS ▸ k1.cell (i := 0) (by decide))
  have HWV := Lib.hid hV
  have HWV0 := Lib.hid hV0
  have HWV1 := Lib.hid hV1
  have HR := Lib.hid hr
  have HRW := Lib.hid hrow
  have HSZ : Hid (S.size ≤ 16 ∧ 0 + S.size ≤ (vec 16 (bys zb)).size) := Lib.hid (by rw [hS, strOf_size, vec_size]; omega)
  clear hV hV0 hV1 hr hrw hrow hrV b0 b1 b1' b2 a0 k1 hB hx HNM0 f0 f1 f2 f3 w0 w1 w2 w3 h2 h3 h4 h5 h6 hb he hnm hct hwb hib hnl q0 q1 q2 q3 hS g0 hLL hNE hKE hfl e0 e1 e2 e3 hLG hLGE hne hke u0 u1 u2 u3
  unfold Bytes
  go_enter Tryz.func35, Tryz.ntmps35
  go_upto_region 1 with fail
  rw [← HWV0.out]
  clear HWV0
  go_upto_region 2 with fail
  rw [← HWV1.out, ← HR.out]
  clear HWV1 HR
  refine wp_region_held_drew (S := fun Y => Y.cell? ⟨w.heap.size, 0, none⟩ = some (.string S)) (by kernel_rfl) HG.out (fun hS => ?_)
  (refine held_take (i := 0) (oi := ?ot135) (v := ?vt135) ?at135 (by kernel_rfl) (by kernel_rfl) (by kernel_rfl) ?bt135 ?ct135 ?dt135 (by assumption) ?rt135; (case at135 => (simp only [List.getElem?_toArray, List.getElem?_cons_zero]; rfl)); (case bt135 => exact fun _ _ _ h => h); (case ct135 => kernel_rfl); (case dt135 => (intro W hW; (try dsimp only at hW); go_split_ands; go_simp; (try with_reducible rfl))); (case' rt135 => simp only [Act.put, List.setIfInBounds_toArray, List.set_cons_zero, List.set_cons_succ]))
  (refine held_take (i := 1) (oi := ?ot136) (v := ?vt136) ?at136 (by kernel_rfl) (by kernel_rfl) (by kernel_rfl) ?bt136 ?ct136 ?dt136 (by assumption) ?rt136; (case at136 => (simp only [List.getElem?_toArray, List.getElem?_cons_zero, List.getElem?_cons_succ]; rfl)); (case bt136 => exact fun _ _ _ h => h); (case ct136 => kernel_rfl); (case dt136 => (intro W hW; (try dsimp only at hW); go_split_ands; go_simp; (try with_reducible rfl))); (case' rt136 => simp only [Act.put, List.setIfInBounds_toArray, List.set_cons_zero, List.set_cons_succ]))
  (refine held_take (i := 2) (oi := ?ot137) (v := ?vt137) ?at137 (by kernel_rfl) (by kernel_rfl) (by kernel_rfl) ?bt137 ?ct137 ?dt137 (by assumption) ?rt137; (case at137 => (simp only [List.getElem?_toArray, List.getElem?_cons_zero, List.getElem?_cons_succ]; rfl)); (case bt137 => exact fun _ _ _ h => h); (case ct137 => kernel_rfl); (case dt137 => (intro Z hZ; go_simp; (try with_reducible rfl))); (case' rt137 => simp only [Act.put, List.setIfInBounds_toArray, List.set_cons_zero, List.set_cons_succ]))
  refine held_one (i := 3) (oi := ?ot138) (by kernel_rfl) ?at138 ?ct138 (fun K3 hK3 => ?_)
  (case at138 => (simp only [List.getElem?_toArray, List.getElem?_cons_zero, List.getElem?_cons_succ]; rfl))
  (case ct138 => kernel_rfl)
  refine ow_copy_str _ _ _ _ 5 rfl Tryz.underlying29 (by kernel_rfl) r 16 16 S _ _ rfl rfl HRW.out HSZ.out.1 HSZ.out.2 ?_
  rw [← HWV.out]
  refine hK3 _ _ HGV.out (fun hS3 => ?_)
  clear hK3 K3
  refine wpAnyH_done (by kernel_rfl) ?_ _
  clear hS3 HWV HRW HSZ HGV
  go_upto_region 3 with fail
  refine wp_region_held_drew (S := fun Y => VS V Y) (by kernel_rfl) (VS.begin V) (fun hS => ?_)
  revert hS
  apply tail_of
  case h =>
    intro tail hS
    (refine held_take (i := 0) (oi := ?ot1) (v := ?vt1) ?at1 (by kernel_rfl) (by kernel_rfl) (by kernel_rfl) ?bt1 ?ct1 ?dt1 (by assumption) ?rt1; (case at1 => (simp only [List.getElem?_toArray, List.getElem?_cons_zero]; rfl)); (case bt1 => exact fun _ _ _ h => h); (case ct1 => kernel_rfl); (case dt1 => (intro W hW; (try dsimp only at hW); go_split_ands; go_simp; (try with_reducible rfl))); (case' rt1 => simp only [Act.put, List.setIfInBounds_toArray, List.set_cons_zero, List.set_cons_succ]))
    (refine held_take (i := 1) (oi := ?ot2) (v := ?vt2) ?at2 (by kernel_rfl) (by kernel_rfl) (by kernel_rfl) ?bt2 ?ct2 ?dt2 (by assumption) ?rt2; (case at2 => (simp only [List.getElem?_toArray, List.getElem?_cons_zero, List.getElem?_cons_succ]; rfl)); (case bt2 => exact fun _ _ _ h => h); (case ct2 => kernel_rfl); (case dt2 => (intro W hW; (try dsimp only at hW); go_split_ands; go_simp; (try with_reducible rfl))); (case' rt2 => simp only [Act.put, List.setIfInBounds_toArray, List.set_cons_zero, List.set_cons_succ]))
    (refine held_take (i := 2) (oi := ?ot3) (v := ?vt3) ?at3 (by kernel_rfl) (by kernel_rfl) (by kernel_rfl) ?bt3 ?ct3 ?dt3 (by assumption) ?rt3; (case at3 => (simp only [List.getElem?_toArray, List.getElem?_cons_zero, List.getElem?_cons_succ]; rfl)); (case bt3 => exact fun _ _ _ h => h); (case ct3 => kernel_rfl); (case dt3 => (intro Z hZ; have k0 := ((show Below V.heap.size V Z from hZ).cell (World.block_lt_of_cell? V _ HC1.out)).trans HC1.out; go_simp; (try with_reducible rfl))); (case' rt3 => simp only [Act.put, List.setIfInBounds_toArray, List.set_cons_zero, List.set_cons_succ]))
    (refine held_take (i := 4) (oi := ?ot4) (v := ?vt4) ?at4 (by kernel_rfl) (by kernel_rfl) (by kernel_rfl) ?bt4 ?ct4 ?dt4 (by assumption) ?rt4; (case at4 => (simp only [List.getElem?_toArray, List.getElem?_cons_zero, List.getElem?_cons_succ]; rfl)); (case bt4 => exact fun _ _ _ h => h); (case ct4 => kernel_rfl); (case dt4 => (intro W hW; (try dsimp only at hW); go_split_ands; go_simp; (try with_reducible rfl))); (case' rt4 => simp only [Act.put, List.setIfInBounds_toArray, List.set_cons_zero, List.set_cons_succ]))
    (refine held_take (i := 5) (oi := ?ot5) (v := ?vt5) ?at5 (by kernel_rfl) (by kernel_rfl) (by kernel_rfl) ?bt5 ?ct5 ?dt5 (by assumption) ?rt5; (case at5 => (simp only [List.getElem?_toArray, List.getElem?_cons_zero, List.getElem?_cons_succ]; rfl)); (case bt5 => exact fun _ _ _ h => h); (case ct5 => kernel_rfl); (case dt5 => (intro Z hZ; have k0 := ((show Below V.heap.size V Z from hZ).cell (World.block_lt_of_cell? V _ HC2.out)).trans HC2.out; go_simp; (try with_reducible rfl))); (case' rt5 => simp only [Act.put, List.setIfInBounds_toArray, List.set_cons_zero, List.set_cons_succ]))
    (refine held_take (i := 6) (oi := ?ot6) (v := ?vt6) ?at6 (by kernel_rfl) (by kernel_rfl) (by kernel_rfl) ?bt6 ?ct6 ?dt6 (by assumption) ?rt6; (case at6 => (simp only [List.getElem?_toArray, List.getElem?_cons_zero, List.getElem?_cons_succ]; rfl)); (case bt6 => exact fun _ _ _ h => h); (case ct6 => kernel_rfl); (case dt6 => (intro W hW; (try dsimp only at hW); go_split_ands; go_simp; (try with_reducible rfl))); (case' rt6 => simp only [Act.put, List.setIfInBounds_toArray, List.set_cons_zero, List.set_cons_succ]))
    (refine held_take (i := 7) (oi := ?ot7) (v := ?vt7) ?at7 (by kernel_rfl) (by kernel_rfl) (by kernel_rfl) ?bt7 ?ct7 ?dt7 (by assumption) ?rt7; (case at7 => (simp only [List.getElem?_toArray, List.getElem?_cons_zero, List.getElem?_cons_succ]; rfl)); (case bt7 => exact fun _ _ _ h => h); (case ct7 => kernel_rfl); (case dt7 => (intro Z hZ; have k0 := ((show Below V.heap.size V Z from hZ).cell (World.block_lt_of_cell? V _ HC3.out)).trans HC3.out; go_simp; (try with_reducible rfl))); (case' rt7 => simp only [Act.put, List.setIfInBounds_toArray, List.set_cons_zero, List.set_cons_succ]))
    (refine held_take (i := 8) (oi := ?ot8) (v := ?vt8) ?at8 (by kernel_rfl) (by kernel_rfl) (by kernel_rfl) ?bt8 ?ct8 ?dt8 (by assumption) ?rt8; (case at8 => (simp only [List.getElem?_toArray, List.getElem?_cons_zero, List.getElem?_cons_succ]; rfl)); (case bt8 => exact fun _ _ _ h => h); (case ct8 => kernel_rfl); (case dt8 => (intro W hW; (try dsimp only at hW); go_split_ands; go_simp; (try with_reducible rfl))); (case' rt8 => simp only [Act.put, List.setIfInBounds_toArray, List.set_cons_zero, List.set_cons_succ]))
    (refine held_take (i := 9) (oi := ?ot9) (v := ?vt9) ?at9 (by kernel_rfl) (by kernel_rfl) (by kernel_rfl) ?bt9 ?ct9 ?dt9 (by assumption) ?rt9; (case at9 => (simp only [List.getElem?_toArray, List.getElem?_cons_zero, List.getElem?_cons_succ]; rfl)); (case bt9 => exact fun _ _ _ h => h); (case ct9 => kernel_rfl); (case dt9 => (intro Z hZ; have k0 := ((show Below V.heap.size V Z from hZ).cell (World.block_lt_of_cell? V _ HC4.out)).trans HC4.out; go_simp; (try with_reducible rfl))); (case' rt9 => simp only [Act.put, List.setIfInBounds_toArray, List.set_cons_zero, List.set_cons_succ]))
    (refine held_take (i := 12) (oi := ?ot10) (v := ?vt10) ?at10 (by kernel_rfl) (by kernel_rfl) (by kernel_rfl) ?bt10 ?ct10 ?dt10 (by assumption) ?rt10; (case at10 => (simp only [List.getElem?_toArray, List.getElem?_cons_zero, List.getElem?_cons_succ]; rfl)); (case bt10 => exact fun _ _ _ h => h); (case ct10 => kernel_rfl); (case dt10 => (intro W hW; (try dsimp only at hW); go_split_ands; go_simp; (try with_reducible rfl))); (case' rt10 => simp only [Act.put, List.setIfInBounds_toArray, List.set_cons_zero, List.set_cons_succ]))
    (refine held_take (i := 13) (oi := ?ot11) (v := ?vt11) ?at11 (by kernel_rfl) (by kernel_rfl) (by kernel_rfl) ?bt11 ?ct11 ?dt11 (by assumption) ?rt11; (case at11 => (simp only [List.getElem?_toArray, List.getElem?_cons_zero, List.getElem?_cons_succ]; rfl)); (case bt11 => exact fun _ _ _ h => h); (case ct11 => kernel_rfl); (case dt11 => (intro Z hZ; have k0 := ((show Below V.heap.size V Z from hZ).cell (World.block_lt_of_cell? V _ HC5.out)).trans HC5.out; go_simp; (try with_reducible rfl))); (case' rt11 => simp only [Act.put, List.setIfInBounds_toArray, List.set_cons_zero, List.set_cons_succ]))
    (refine held_take (i := 14) (oi := ?ot12) (v := ?vt12) ?at12 (by kernel_rfl) (by kernel_rfl) (by kernel_rfl) ?bt12 ?ct12 ?dt12 (by assumption) ?rt12; (case at12 => (simp only [List.getElem?_toArray, List.getElem?_cons_zero, List.getElem?_cons_succ]; rfl)); (case bt12 => exact fun _ _ _ h => h); (case ct12 => kernel_rfl); (case dt12 => (intro W hW; (try dsimp only at hW); go_split_ands; go_simp; (try with_reducible rfl))); (case' rt12 => simp only [Act.put, List.setIfInBounds_toArray, List.set_cons_zero, List.set_cons_succ]))
    (refine held_take (i := 15) (oi := ?ot13) (v := ?vt13) ?at13 (by kernel_rfl) (by kernel_rfl) (by kernel_rfl) ?bt13 ?ct13 ?dt13 (by assumption) ?rt13; (case at13 => (simp only [List.getElem?_toArray, List.getElem?_cons_zero, List.getElem?_cons_succ]; rfl)); (case bt13 => exact fun _ _ _ h => h); (case ct13 => kernel_rfl); (case dt13 => (intro Z hZ; have k0 := ((show Below V.heap.size V Z from hZ).cell (World.block_lt_of_cell? V _ HC6.out)).trans HC6.out; go_simp; (try with_reducible rfl))); (case' rt13 => simp only [Act.put, List.setIfInBounds_toArray, List.set_cons_zero, List.set_cons_succ]))
    (refine held_take (i := 18) (oi := ?ot14) (v := ?vt14) ?at14 (by kernel_rfl) (by kernel_rfl) (by kernel_rfl) ?bt14 ?ct14 ?dt14 (by assumption) ?rt14; (case at14 => (simp only [List.getElem?_toArray, List.getElem?_cons_zero, List.getElem?_cons_succ]; rfl)); (case bt14 => exact fun _ _ _ h => h); (case ct14 => kernel_rfl); (case dt14 => (intro W hW; (try dsimp only at hW); go_split_ands; go_simp; (try with_reducible rfl))); (case' rt14 => simp only [Act.put, List.setIfInBounds_toArray, List.set_cons_zero, List.set_cons_succ]))
    (refine held_take (i := 19) (oi := ?ot15) (v := ?vt15) ?at15 (by kernel_rfl) (by kernel_rfl) (by kernel_rfl) ?bt15 ?ct15 ?dt15 (by assumption) ?rt15; (case at15 => (simp only [List.getElem?_toArray, List.getElem?_cons_zero, List.getElem?_cons_succ]; rfl)); (case bt15 => exact fun _ _ _ h => h); (case ct15 => kernel_rfl); (case dt15 => (intro W hW; (try dsimp only at hW); go_split_ands; go_simp; (try with_reducible rfl))); (case' rt15 => simp only [Act.put, List.setIfInBounds_toArray, List.set_cons_zero, List.set_cons_succ]))
    (refine held_take (i := 20) (oi := ?ot16) (v := ?vt16) ?at16 (by kernel_rfl) (by kernel_rfl) (by kernel_rfl) ?bt16 ?ct16 ?dt16 (by assumption) ?rt16; (case at16 => (simp only [List.getElem?_toArray, List.getElem?_cons_zero, List.getElem?_cons_succ]; rfl)); (case bt16 => exact fun _ _ _ h => h); (case ct16 => kernel_rfl); (case dt16 => (intro W hW; (try dsimp only at hW); go_split_ands; go_simp; (try with_reducible rfl))); (case' rt16 => simp only [Act.put, List.setIfInBounds_toArray, List.set_cons_zero, List.set_cons_succ]))
    (refine held_take (i := 21) (oi := ?ot17) (v := ?vt17) ?at17 (by kernel_rfl) (by kernel_rfl) (by kernel_rfl) ?bt17 ?ct17 ?dt17 (by assumption) ?rt17; (case at17 => (simp only [List.getElem?_toArray, List.getElem?_cons_zero, List.getElem?_cons_succ]; rfl)); (case bt17 => exact fun _ _ _ h => h); (case ct17 => kernel_rfl); (case dt17 => (intro Z hZ; have k0 := ((show Below V.heap.size V Z from hZ).cell (World.block_lt_of_cell? V _ HG0.out)).trans HG0.out; go_simp; (try with_reducible rfl))); (case' rt17 => simp only [Act.put, List.setIfInBounds_toArray, List.set_cons_zero, List.set_cons_succ]))
    (refine held_take (i := 22) (oi := ?ot18) (v := ?vt18) ?at18 (by kernel_rfl) (by kernel_rfl) (by kernel_rfl) ?bt18 ?ct18 ?dt18 (by assumption) ?rt18; (case at18 => (simp only [List.getElem?_toArray, List.getElem?_cons_zero, List.getElem?_cons_succ]; rfl)); (case bt18 => exact fun _ _ _ h => h); (case ct18 => kernel_rfl); (case dt18 => (intro W hW; (try dsimp only at hW); go_split_ands; go_simp; (try with_reducible rfl))); (case' rt18 => simp only [Act.put, List.setIfInBounds_toArray, List.set_cons_zero, List.set_cons_succ]))
    (refine held_take (i := 23) (oi := ?ot19) (v := ?vt19) ?at19 (by kernel_rfl) (by kernel_rfl) (by kernel_rfl) ?bt19 ?ct19 ?dt19 (by assumption) ?rt19; (case at19 => (simp only [List.getElem?_toArray, List.getElem?_cons_zero, List.getElem?_cons_succ]; rfl)); (case bt19 => exact fun _ _ _ h => h); (case ct19 => kernel_rfl); (case dt19 => (intro W hW; (try dsimp only at hW); go_split_ands; go_simp; (try with_reducible rfl))); (case' rt19 => simp only [Act.put, List.setIfInBounds_toArray, List.set_cons_zero, List.set_cons_succ]))
    (refine held_take (i := 24) (oi := ?ot20) (v := ?vt20) ?at20 (by kernel_rfl) (by kernel_rfl) (by kernel_rfl) ?bt20 ?ct20 ?dt20 (by assumption) ?rt20; (case at20 => (simp only [List.getElem?_toArray, List.getElem?_cons_zero, List.getElem?_cons_succ]; rfl)); (case bt20 => exact fun _ _ _ h => h); (case ct20 => kernel_rfl); (case dt20 => (intro Z hZ; have k0 := ((show Below V.heap.size V Z from hZ).cell (World.block_lt_of_cell? V _ HG1.out)).trans HG1.out; go_simp; (try with_reducible rfl))); (case' rt20 => simp only [Act.put, List.setIfInBounds_toArray, List.set_cons_zero, List.set_cons_succ]))
    (refine held_take (i := 25) (oi := ?ot21) (v := ?vt21) ?at21 (by kernel_rfl) (by kernel_rfl) (by kernel_rfl) ?bt21 ?ct21 ?dt21 (by assumption) ?rt21; (case at21 => (simp only [List.getElem?_toArray, List.getElem?_cons_zero, List.getElem?_cons_succ]; rfl)); (case bt21 => exact fun _ _ _ h => h); (case ct21 => kernel_rfl); (case dt21 => (intro W hW; (try dsimp only at hW); go_split_ands; go_simp; (try with_reducible rfl))); (case' rt21 => simp only [Act.put, List.setIfInBounds_toArray, List.set_cons_zero, List.set_cons_succ]))
    (refine held_take (i := 26) (oi := ?ot22) (v := ?vt22) ?at22 (by kernel_rfl) (by kernel_rfl) (by kernel_rfl) ?bt22 ?ct22 ?dt22 (by assumption) ?rt22; (case at22 => (simp only [List.getElem?_toArray, List.getElem?_cons_zero, List.getElem?_cons_succ]; rfl)); (case bt22 => exact fun _ _ _ h => h); (case ct22 => kernel_rfl); (case dt22 => (intro W hW; (try dsimp only at hW); go_split_ands; go_simp; (try with_reducible rfl))); (case' rt22 => simp only [Act.put, List.setIfInBounds_toArray, List.set_cons_zero, List.set_cons_succ]))
    (refine held_take (i := 27) (oi := ?ot23) (v := ?vt23) ?at23 (by kernel_rfl) (by kernel_rfl) (by kernel_rfl) ?bt23 ?ct23 ?dt23 (by assumption) ?rt23; (case at23 => (simp only [List.getElem?_toArray, List.getElem?_cons_zero, List.getElem?_cons_succ]; rfl)); (case bt23 => exact fun _ _ _ h => h); (case ct23 => kernel_rfl); (case dt23 => (intro Z hZ; have k0 := ((show Below V.heap.size V Z from hZ).cell (World.block_lt_of_cell? V _ HG2.out)).trans HG2.out; go_simp; (try with_reducible rfl))); (case' rt23 => simp only [Act.put, List.setIfInBounds_toArray, List.set_cons_zero, List.set_cons_succ]))
    (refine held_take (i := 28) (oi := ?ot24) (v := ?vt24) ?at24 (by kernel_rfl) (by kernel_rfl) (by kernel_rfl) ?bt24 ?ct24 ?dt24 (by assumption) ?rt24; (case at24 => (simp only [List.getElem?_toArray, List.getElem?_cons_zero, List.getElem?_cons_succ]; rfl)); (case bt24 => exact fun _ _ _ h => h); (case ct24 => kernel_rfl); (case dt24 => (intro W hW; (try dsimp only at hW); go_split_ands; go_simp; (try with_reducible rfl))); (case' rt24 => simp only [Act.put, List.setIfInBounds_toArray, List.set_cons_zero, List.set_cons_succ]))
    (refine held_take (i := 29) (oi := ?ot25) (v := ?vt25) ?at25 (by kernel_rfl) (by kernel_rfl) (by kernel_rfl) ?bt25 ?ct25 ?dt25 (by assumption) ?rt25; (case at25 => (simp only [List.getElem?_toArray, List.getElem?_cons_zero, List.getElem?_cons_succ]; rfl)); (case bt25 => exact fun _ _ _ h => h); (case ct25 => kernel_rfl); (case dt25 => (intro W hW; (try dsimp only at hW); go_split_ands; go_simp; (try with_reducible rfl))); (case' rt25 => simp only [Act.put, List.setIfInBounds_toArray, List.set_cons_zero, List.set_cons_succ]))
    (refine held_take (i := 30) (oi := ?ot26) (v := ?vt26) ?at26 (by kernel_rfl) (by kernel_rfl) (by kernel_rfl) ?bt26 ?ct26 ?dt26 (by assumption) ?rt26; (case at26 => (simp only [List.getElem?_toArray, List.getElem?_cons_zero, List.getElem?_cons_succ]; rfl)); (case bt26 => exact fun _ _ _ h => h); (case ct26 => kernel_rfl); (case dt26 => (intro Z hZ; have k0 := ((show Below V.heap.size V Z from hZ).cell (World.block_lt_of_cell? V _ HG3.out)).trans HG3.out; go_simp; (try with_reducible rfl))); (case' rt26 => simp only [Act.put, List.setIfInBounds_toArray, List.set_cons_zero, List.set_cons_succ]))
    (refine held_take (i := 31) (oi := ?ot27) (v := ?vt27) ?at27 (by kernel_rfl) (by kernel_rfl) (by kernel_rfl) ?bt27 ?ct27 ?dt27 (by assumption) ?rt27; (case at27 => (simp only [List.getElem?_toArray, List.getElem?_cons_zero, List.getElem?_cons_succ]; rfl)); (case bt27 => exact fun _ _ _ h => h); (case ct27 => kernel_rfl); (case dt27 => (intro W hW; (try dsimp only at hW); go_split_ands; go_simp; (try with_reducible rfl))); (case' rt27 => simp only [Act.put, List.setIfInBounds_toArray, List.set_cons_zero, List.set_cons_succ]))
    (refine held_take (i := 34) (oi := ?ot28) (v := ?vt28) ?at28 (by kernel_rfl) (by kernel_rfl) (by kernel_rfl) ?bt28 ?ct28 ?dt28 (by assumption) ?rt28; (case at28 => (simp only [List.getElem?_toArray, List.getElem?_cons_zero, List.getElem?_cons_succ]; rfl)); (case bt28 => exact fun _ _ _ h => h); (case ct28 => kernel_rfl); (case dt28 => (intro W hW; (try dsimp only at hW); go_split_ands; go_simp; (try with_reducible rfl))); (case' rt28 => simp only [Act.put, List.setIfInBounds_toArray, List.set_cons_zero, List.set_cons_succ]))
    (refine held_take (i := 35) (oi := ?ot29) (v := ?vt29) ?at29 (by kernel_rfl) (by kernel_rfl) (by kernel_rfl) ?bt29 ?ct29 ?dt29 (by assumption) ?rt29; (case at29 => (simp only [List.getElem?_toArray, List.getElem?_cons_zero, List.getElem?_cons_succ]; rfl)); (case bt29 => exact fun _ _ _ h => h); (case ct29 => kernel_rfl); (case dt29 => (intro Z hZ; have k0 := ((show Below V.heap.size V Z from hZ).cell (World.block_lt_of_cell? V _ HG0.out)).trans HG0.out; go_simp; (try with_reducible rfl))); (case' rt29 => simp only [Act.put, List.setIfInBounds_toArray, List.set_cons_zero, List.set_cons_succ]))
    (refine held_take (i := 37) (oi := ?ot30) (v := ?vt30) ?at30 (by kernel_rfl) (by kernel_rfl) (by kernel_rfl) ?bt30 ?ct30 ?dt30 (by assumption) ?rt30; (case at30 => (simp only [List.getElem?_toArray, List.getElem?_cons_zero, List.getElem?_cons_succ]; rfl)); (case bt30 => exact fun _ _ _ h => h); (case ct30 => kernel_rfl); (case dt30 => (intro W hW; (try dsimp only at hW); go_split_ands; go_simp; (try with_reducible rfl))); (case' rt30 => simp only [Act.put, List.setIfInBounds_toArray, List.set_cons_zero, List.set_cons_succ]))
    (refine held_take (i := 38) (oi := ?ot31) (v := ?vt31) ?at31 (by kernel_rfl) (by kernel_rfl) (by kernel_rfl) ?bt31 ?ct31 ?dt31 (by assumption) ?rt31; (case at31 => (simp only [List.getElem?_toArray, List.getElem?_cons_zero, List.getElem?_cons_succ]; rfl)); (case bt31 => exact fun _ _ _ h => h); (case ct31 => kernel_rfl); (case dt31 => (intro Z hZ; have k0 := ((show Below V.heap.size V Z from hZ).cell (World.block_lt_of_cell? V _ HG1.out)).trans HG1.out; go_simp; (try with_reducible rfl))); (case' rt31 => simp only [Act.put, List.setIfInBounds_toArray, List.set_cons_zero, List.set_cons_succ]))
    (refine held_take (i := 40) (oi := ?ot32) (v := ?vt32) ?at32 (by kernel_rfl) (by kernel_rfl) (by kernel_rfl) ?bt32 ?ct32 ?dt32 (by assumption) ?rt32; (case at32 => (simp only [List.getElem?_toArray, List.getElem?_cons_zero, List.getElem?_cons_succ]; rfl)); (case bt32 => exact fun _ _ _ h => h); (case ct32 => kernel_rfl); (case dt32 => (intro W hW; (try dsimp only at hW); go_split_ands; go_simp; (try with_reducible rfl))); (case' rt32 => simp only [Act.put, List.setIfInBounds_toArray, List.set_cons_zero, List.set_cons_succ]))
    (refine held_take (i := 41) (oi := ?ot33) (v := ?vt33) ?at33 (by kernel_rfl) (by kernel_rfl) (by kernel_rfl) ?bt33 ?ct33 ?dt33 (by assumption) ?rt33; (case at33 => (simp only [List.getElem?_toArray, List.getElem?_cons_zero, List.getElem?_cons_succ]; rfl)); (case bt33 => exact fun _ _ _ h => h); (case ct33 => kernel_rfl); (case dt33 => (intro Z hZ; have k0 := ((show Below V.heap.size V Z from hZ).cell (World.block_lt_of_cell? V _ HG2.out)).trans HG2.out; go_simp; (try with_reducible rfl))); (case' rt33 => simp only [Act.put, List.setIfInBounds_toArray, List.set_cons_zero, List.set_cons_succ]))
    (refine held_take (i := 43) (oi := ?ot34) (v := ?vt34) ?at34 (by kernel_rfl) (by kernel_rfl) (by kernel_rfl) ?bt34 ?ct34 ?dt34 (by assumption) ?rt34; (case at34 => (simp only [List.getElem?_toArray, List.getElem?_cons_zero, List.getElem?_cons_succ]; rfl)); (case bt34 => exact fun _ _ _ h => h); (case ct34 => kernel_rfl); (case dt34 => (intro W hW; (try dsimp only at hW); go_split_ands; go_simp; (try with_reducible rfl))); (case' rt34 => simp only [Act.put, List.setIfInBounds_toArray, List.set_cons_zero, List.set_cons_succ]))
    (refine held_take (i := 44) (oi := ?ot35) (v := ?vt35) ?at35 (by kernel_rfl) (by kernel_rfl) (by kernel_rfl) ?bt35 ?ct35 ?dt35 (by assumption) ?rt35; (case at35 => (simp only [List.getElem?_toArray, List.getElem?_cons_zero, List.getElem?_cons_succ]; rfl)); (case bt35 => exact fun _ _ _ h => h); (case ct35 => kernel_rfl); (case dt35 => (intro Z hZ; have k0 := ((show Below V.heap.size V Z from hZ).cell (World.block_lt_of_cell? V _ HG3.out)).trans HG3.out; go_simp; (try with_reducible rfl))); (case' rt35 => simp only [Act.put, List.setIfInBounds_toArray, List.set_cons_zero, List.set_cons_succ]))
    refine held_three (i := 3) (j := 16) (k := 32) (oi := ?oit127) (oj := ?ojt127) (ok := ?okt127) (by kernel_rfl) ?ait127 ?ajt127 ?akt127 ?cit127 ?cjt127 ?ckt127 (fun K3 hK3 => ?hit127) (fun K16 hK16 => ?hjt127) (fun K32 hK32 => ?hkt127)
    (case ait127 => (simp only [List.getElem?_toArray, List.getElem?_cons_zero, List.getElem?_cons_succ]; rfl))
    (case ajt127 => (simp only [List.getElem?_toArray, List.getElem?_cons_zero, List.getElem?_cons_succ]; rfl))
    (case akt127 => (simp only [List.getElem?_toArray, List.getElem?_cons_zero, List.getElem?_cons_succ]; rfl))
    (case cit127 => kernel_rfl)
    (case cjt127 => kernel_rfl)
    (case ckt127 => kernel_rfl)
    case hit127 =>
      go_simp
      refine (HFL.out _).mono ?_
      rintro e y3 ⟨rfl, rfl⟩
      refine hK3 _ _ hS (fun hS3 => ?_)
      clear hS hK3 K3
      refine held_three (i := 10) (j := 16) (k := 32) (oi := ?oit88) (oj := ?ojt88) (ok := ?okt88) (by kernel_rfl) ?ait88 ?ajt88 ?akt88 ?cit88 ?cjt88 ?ckt88 (fun K10 hK10 => ?hit88) (fun K16 hK16 => ?hjt88) (fun K32 hK32 => ?hkt88)
      (case ait88 => (simp only [List.getElem?_toArray, List.getElem?_cons_zero, List.getElem?_cons_succ]; rfl))
      (case ajt88 => (simp only [List.getElem?_toArray, List.getElem?_cons_zero, List.getElem?_cons_succ]; rfl))
      (case akt88 => (simp only [List.getElem?_toArray, List.getElem?_cons_zero, List.getElem?_cons_succ]; rfl))
      (case cit88 => kernel_rfl)
      (case cjt88 => kernel_rfl)
      (case ckt88 => kernel_rfl)
      case hit88 =>
        refine ow_u32_4 _ _ _ _ rfl fl n2 n3 n4 rfl rfl rfl rfl ?_
        intro y10 p10 hl hd
        have F10 := Lib.hid hl
        refine hK10 _ _ ((show VS V _ from hS3).keep hd) (fun hS10 => ?_)
        clear hl hd hS3 hK10 K10
        refine held_three (i := 11) (j := 16) (k := 32) (oi := ?oit61) (oj := ?ojt61) (ok := ?okt61) (by kernel_rfl) ?ait61 ?ajt61 ?akt61 ?cit61 ?cjt61 ?ckt61 (fun K11 hK11 => ?hit61) (fun K16 hK16 => ?hjt61) (fun K32 hK32 => ?hkt61)
        (case ait61 => (simp only [List.getElem?_toArray, List.getElem?_cons_zero, List.getElem?_cons_succ]; rfl))
        (case ajt61 => (simp only [List.getElem?_toArray, List.getElem?_cons_zero, List.getElem?_cons_succ]; rfl))
        (case akt61 => (simp only [List.getElem?_toArray, List.getElem?_cons_zero, List.getElem?_cons_succ]; rfl))
        (case cit61 => kernel_rfl)
        (case cjt61 => kernel_rfl)
        (case ckt61 => kernel_rfl)
        case hit61 =>
          go_simp
          refine (pb32 [] [fl, n2, n3, n4] HN.out.1 none _ 0 _ _ (Lies.nil _ _ _ _) F10.out (by simp) (by simp)).mono ?_
          rintro e y11 ⟨v11, rfl, hv, hd⟩
          obtain ⟨A11, c11, rfl, -, hl⟩ := (own_of hv).lies
          replace F10 := Lib.hid (lies_on2 F10.out hd)
          have F11 := Lib.hid hl
          refine hK11 _ _ ((show VS V _ from hS10).keep hd) (fun hS11 => ?_)
          clear hv hd hl hS10 hK11 K11
          refine held_two (i := 16) (j := 32) (oi := ?oit44) (oj := ?ojt44) (by kernel_rfl) ?ait44 ?ajt44 ?cit44 ?cjt44 (fun K16 hK16 => ?hit44) (fun K32 hK32 => ?hjt44)
          (case ait44 => (simp only [List.getElem?_toArray, List.getElem?_cons_zero, List.getElem?_cons_succ]; rfl))
          (case ajt44 => (simp only [List.getElem?_toArray, List.getElem?_cons_zero, List.getElem?_cons_succ]; rfl))
          (case cit44 => kernel_rfl)
          (case cjt44 => kernel_rfl)
          case hit44 =>
            refine ow_u64_2 _ _ rfl n5 n6 rfl rfl ?_
            intro y16 p16 hl hd
            replace F10 := Lib.hid (lies_on2 F10.out hd)
            replace F11 := Lib.hid (lies_on2 F11.out hd)
            have F16 := Lib.hid hl
            refine hK16 _ _ ((show VS V _ from hS11).keep hd) (fun hS16 => ?_)
            clear hl hd hS11 hK16 K16
            refine held_two (i := 17) (j := 32) (oi := ?oit40) (oj := ?ojt40) (by kernel_rfl) ?ait40 ?ajt40 ?cit40 ?cjt40 (fun K17 hK17 => ?hit40) (fun K32 hK32 => ?hjt40)
            (case ait40 => (simp only [List.getElem?_toArray, List.getElem?_cons_zero, List.getElem?_cons_succ]; rfl))
            (case ajt40 => (simp only [List.getElem?_toArray, List.getElem?_cons_zero, List.getElem?_cons_succ]; rfl))
            (case cit40 => kernel_rfl)
            (case cjt40 => kernel_rfl)
            case hit40 =>
              go_simp
              refine (pb64 [] [n5, n6] HN.out.2.1 none _ 0 _ _ (Lies.nil _ _ _ _) F16.out (by simp) (by simp)).mono ?_
              rintro e y17 ⟨v17, rfl, hv, hd⟩
              obtain ⟨A17, c17, rfl, -, hl⟩ := (own_of hv).lies
              replace F10 := Lib.hid (lies_on2 F10.out hd)
              replace F11 := Lib.hid (lies_on2 F11.out hd)
              replace F16 := Lib.hid (lies_on2 F16.out hd)
              have F17 := Lib.hid hl
              refine hK17 _ _ ((show VS V _ from hS16).keep hd) (fun hS17 => ?_)
              clear hv hd hl hS16 hK17 K17
              refine held_one (i := 32) (oi := ?ot36) (by kernel_rfl) ?at36 ?ct36 (fun K32 hK32 => ?_)
              (case at36 => (simp only [List.getElem?_toArray, List.getElem?_cons_zero, List.getElem?_cons_succ]; rfl))
              (case ct36 => kernel_rfl)
              refine ow_i64_4 _ _ _ _ rfl m0 m1 m2 m3 rfl rfl rfl rfl ?_
              intro y32 p32 hl hd
              replace F10 := Lib.hid (lies_on2 F10.out hd)
              replace F11 := Lib.hid (lies_on2 F11.out hd)
              replace F16 := Lib.hid (lies_on2 F16.out hd)
              replace F17 := Lib.hid (lies_on2 F17.out hd)
              have F32 := Lib.hid hl
              refine hK32 _ _ ((show VS V _ from hS17).keep hd) (fun hS32 => ?_)
              clear hl hd hS17 hK32 K32
              refine held_one (i := 33) (oi := ?ot37) (by kernel_rfl) ?at37 ?ct37 (fun K33 hK33 => ?_)
              (case at37 => (simp only [List.getElem?_toArray, List.getElem?_cons_zero, List.getElem?_cons_succ]; rfl))
              (case ct37 => kernel_rfl)
              go_simp
              refine (shorts_any [m0, m1, m2, m3] HN.out.2.2 _ _ _ (by simp) F32.out).mono ?_
              rintro e y33 ⟨v33, rfl, hv, hd⟩
              obtain ⟨A33, c33, rfl, -, hl⟩ := (own_of hv).lies
              replace F10 := Lib.hid (lies_on2 F10.out hd)
              replace F11 := Lib.hid (lies_on2 F11.out hd)
              replace F16 := Lib.hid (lies_on2 F16.out hd)
              replace F17 := Lib.hid (lies_on2 F17.out hd)
              replace F32 := Lib.hid (lies_on2 F32.out hd)
              have F33 := Lib.hid hl
              refine hK33 _ _ ((show VS V _ from hS32).keep hd) (fun hS33 => ?_)
              clear hv hd hl hS32 hK33 K33
              clear F10 F16 F32
              revert hS33
              revert F33
              revert F17
              revert F11
              revert c33
              revert A33
              revert c17
              revert A17
              revert c11
              revert A11
              revert p32
              revert p16
              revert p10
              revert y33
              exact tail 0
            case hjt40 =>
              refine ow_i64_4 _ _ _ _ rfl m0 m1 m2 m3 rfl rfl rfl rfl ?_
              intro y32 p32 hl hd
              replace F10 := Lib.hid (lies_on2 F10.out hd)
              replace F11 := Lib.hid (lies_on2 F11.out hd)
              replace F16 := Lib.hid (lies_on2 F16.out hd)
              have F32 := Lib.hid hl
              refine hK32 _ _ ((show VS V _ from hS16).keep hd) (fun hS32 => ?_)
              clear hl hd hS16 hK32 K32
              refine held_one (i := 17) (oi := ?ot38) (by kernel_rfl) ?at38 ?ct38 (fun K17 hK17 => ?_)
              (case at38 => (simp only [List.getElem?_toArray, List.getElem?_cons_zero, List.getElem?_cons_succ]; rfl))
              (case ct38 => kernel_rfl)
              go_simp
              refine (pb64 [] [n5, n6] HN.out.2.1 none _ 0 _ _ (Lies.nil _ _ _ _) F16.out (by simp) (by simp)).mono ?_
              rintro e y17 ⟨v17, rfl, hv, hd⟩
              obtain ⟨A17, c17, rfl, -, hl⟩ := (own_of hv).lies
              replace F10 := Lib.hid (lies_on2 F10.out hd)
              replace F11 := Lib.hid (lies_on2 F11.out hd)
              replace F16 := Lib.hid (lies_on2 F16.out hd)
              replace F32 := Lib.hid (lies_on2 F32.out hd)
              have F17 := Lib.hid hl
              refine hK17 _ _ ((show VS V _ from hS32).keep hd) (fun hS17 => ?_)
              clear hv hd hl hS32 hK17 K17
              refine held_one (i := 33) (oi := ?ot39) (by kernel_rfl) ?at39 ?ct39 (fun K33 hK33 => ?_)
              (case at39 => (simp only [List.getElem?_toArray, List.getElem?_cons_zero, List.getElem?_cons_succ]; rfl))
              (case ct39 => kernel_rfl)
              go_simp
              refine (shorts_any [m0, m1, m2, m3] HN.out.2.2 _ _ _ (by simp) F32.out).mono ?_
              rintro e y33 ⟨v33, rfl, hv, hd⟩
              obtain ⟨A33, c33, rfl, -, hl⟩ := (own_of hv).lies
              replace F10 := Lib.hid (lies_on2 F10.out hd)
              replace F11 := Lib.hid (lies_on2 F11.out hd)
              replace F16 := Lib.hid (lies_on2 F16.out hd)
              replace F32 := Lib.hid (lies_on2 F32.out hd)
              replace F17 := Lib.hid (lies_on2 F17.out hd)
              have F33 := Lib.hid hl
              refine hK33 _ _ ((show VS V _ from hS17).keep hd) (fun hS33 => ?_)
              clear hv hd hl hS17 hK33 K33
              clear F10 F16 F32
              revert hS33
              revert F33
              revert F17
              revert F11
              revert c33
              revert A33
              revert c17
              revert A17
              revert c11
              revert A11
              revert p32
              revert p16
              revert p10
              revert y33
              exact tail 0
          case hjt44 =>
            refine ow_i64_4 _ _ _ _ rfl m0 m1 m2 m3 rfl rfl rfl rfl ?_
            intro y32 p32 hl hd
            replace F10 := Lib.hid (lies_on2 F10.out hd)
            replace F11 := Lib.hid (lies_on2 F11.out hd)
            have F32 := Lib.hid hl
            refine hK32 _ _ ((show VS V _ from hS11).keep hd) (fun hS32 => ?_)
            clear hl hd hS11 hK32 K32
            refine held_one (i := 16) (oi := ?ot41) (by kernel_rfl) ?at41 ?ct41 (fun K16 hK16 => ?_)
            (case at41 => (simp only [List.getElem?_toArray, List.getElem?_cons_zero, List.getElem?_cons_succ]; rfl))
            (case ct41 => kernel_rfl)
            refine ow_u64_2 _ _ rfl n5 n6 rfl rfl ?_
            intro y16 p16 hl hd
            replace F10 := Lib.hid (lies_on2 F10.out hd)
            replace F11 := Lib.hid (lies_on2 F11.out hd)
            replace F32 := Lib.hid (lies_on2 F32.out hd)
            have F16 := Lib.hid hl
            refine hK16 _ _ ((show VS V _ from hS32).keep hd) (fun hS16 => ?_)
            clear hl hd hS32 hK16 K16
            refine held_one (i := 17) (oi := ?ot42) (by kernel_rfl) ?at42 ?ct42 (fun K17 hK17 => ?_)
            (case at42 => (simp only [List.getElem?_toArray, List.getElem?_cons_zero, List.getElem?_cons_succ]; rfl))
            (case ct42 => kernel_rfl)
            go_simp
            refine (pb64 [] [n5, n6] HN.out.2.1 none _ 0 _ _ (Lies.nil _ _ _ _) F16.out (by simp) (by simp)).mono ?_
            rintro e y17 ⟨v17, rfl, hv, hd⟩
            obtain ⟨A17, c17, rfl, -, hl⟩ := (own_of hv).lies
            replace F10 := Lib.hid (lies_on2 F10.out hd)
            replace F11 := Lib.hid (lies_on2 F11.out hd)
            replace F32 := Lib.hid (lies_on2 F32.out hd)
            replace F16 := Lib.hid (lies_on2 F16.out hd)
            have F17 := Lib.hid hl
            refine hK17 _ _ ((show VS V _ from hS16).keep hd) (fun hS17 => ?_)
            clear hv hd hl hS16 hK17 K17
            refine held_one (i := 33) (oi := ?ot43) (by kernel_rfl) ?at43 ?ct43 (fun K33 hK33 => ?_)
            (case at43 => (simp only [List.getElem?_toArray, List.getElem?_cons_zero, List.getElem?_cons_succ]; rfl))
            (case ct43 => kernel_rfl)
            go_simp
            refine (shorts_any [m0, m1, m2, m3] HN.out.2.2 _ _ _ (by simp) F32.out).mono ?_
            rintro e y33 ⟨v33, rfl, hv, hd⟩
            obtain ⟨A33, c33, rfl, -, hl⟩ := (own_of hv).lies
            replace F10 := Lib.hid (lies_on2 F10.out hd)
            replace F11 := Lib.hid (lies_on2 F11.out hd)
            replace F32 := Lib.hid (lies_on2 F32.out hd)
            replace F16 := Lib.hid (lies_on2 F16.out hd)
            replace F17 := Lib.hid (lies_on2 F17.out hd)
            have F33 := Lib.hid hl
            refine hK33 _ _ ((show VS V _ from hS17).keep hd) (fun hS33 => ?_)
            clear hv hd hl hS17 hK33 K33
            clear F10 F16 F32
            revert hS33
            revert F33
            revert F17
            revert F11
            revert c33
            revert A33
            revert c17
            revert A17
            revert c11
            revert A11
            revert p32
            revert p16
            revert p10
            revert y33
            exact tail 0
        case hjt61 =>
          refine ow_u64_2 _ _ rfl n5 n6 rfl rfl ?_
          intro y16 p16 hl hd
          replace F10 := Lib.hid (lies_on2 F10.out hd)
          have F16 := Lib.hid hl
          refine hK16 _ _ ((show VS V _ from hS10).keep hd) (fun hS16 => ?_)
          clear hl hd hS10 hK16 K16
          refine held_two (i := 11) (j := 32) (oi := ?oit53) (oj := ?ojt53) (by kernel_rfl) ?ait53 ?ajt53 ?cit53 ?cjt53 (fun K11 hK11 => ?hit53) (fun K32 hK32 => ?hjt53)
          (case ait53 => (simp only [List.getElem?_toArray, List.getElem?_cons_zero, List.getElem?_cons_succ]; rfl))
          (case ajt53 => (simp only [List.getElem?_toArray, List.getElem?_cons_zero, List.getElem?_cons_succ]; rfl))
          (case cit53 => kernel_rfl)
          (case cjt53 => kernel_rfl)
          case hit53 =>
            go_simp
            refine (pb32 [] [fl, n2, n3, n4] HN.out.1 none _ 0 _ _ (Lies.nil _ _ _ _) F10.out (by simp) (by simp)).mono ?_
            rintro e y11 ⟨v11, rfl, hv, hd⟩
            obtain ⟨A11, c11, rfl, -, hl⟩ := (own_of hv).lies
            replace F10 := Lib.hid (lies_on2 F10.out hd)
            replace F16 := Lib.hid (lies_on2 F16.out hd)
            have F11 := Lib.hid hl
            refine hK11 _ _ ((show VS V _ from hS16).keep hd) (fun hS11 => ?_)
            clear hv hd hl hS16 hK11 K11
            refine held_two (i := 17) (j := 32) (oi := ?oit49) (oj := ?ojt49) (by kernel_rfl) ?ait49 ?ajt49 ?cit49 ?cjt49 (fun K17 hK17 => ?hit49) (fun K32 hK32 => ?hjt49)
            (case ait49 => (simp only [List.getElem?_toArray, List.getElem?_cons_zero, List.getElem?_cons_succ]; rfl))
            (case ajt49 => (simp only [List.getElem?_toArray, List.getElem?_cons_zero, List.getElem?_cons_succ]; rfl))
            (case cit49 => kernel_rfl)
            (case cjt49 => kernel_rfl)
            case hit49 =>
              go_simp
              refine (pb64 [] [n5, n6] HN.out.2.1 none _ 0 _ _ (Lies.nil _ _ _ _) F16.out (by simp) (by simp)).mono ?_
              rintro e y17 ⟨v17, rfl, hv, hd⟩
              obtain ⟨A17, c17, rfl, -, hl⟩ := (own_of hv).lies
              replace F10 := Lib.hid (lies_on2 F10.out hd)
              replace F16 := Lib.hid (lies_on2 F16.out hd)
              replace F11 := Lib.hid (lies_on2 F11.out hd)
              have F17 := Lib.hid hl
              refine hK17 _ _ ((show VS V _ from hS11).keep hd) (fun hS17 => ?_)
              clear hv hd hl hS11 hK17 K17
              refine held_one (i := 32) (oi := ?ot45) (by kernel_rfl) ?at45 ?ct45 (fun K32 hK32 => ?_)
              (case at45 => (simp only [List.getElem?_toArray, List.getElem?_cons_zero, List.getElem?_cons_succ]; rfl))
              (case ct45 => kernel_rfl)
              refine ow_i64_4 _ _ _ _ rfl m0 m1 m2 m3 rfl rfl rfl rfl ?_
              intro y32 p32 hl hd
              replace F10 := Lib.hid (lies_on2 F10.out hd)
              replace F16 := Lib.hid (lies_on2 F16.out hd)
              replace F11 := Lib.hid (lies_on2 F11.out hd)
              replace F17 := Lib.hid (lies_on2 F17.out hd)
              have F32 := Lib.hid hl
              refine hK32 _ _ ((show VS V _ from hS17).keep hd) (fun hS32 => ?_)
              clear hl hd hS17 hK32 K32
              refine held_one (i := 33) (oi := ?ot46) (by kernel_rfl) ?at46 ?ct46 (fun K33 hK33 => ?_)
              (case at46 => (simp only [List.getElem?_toArray, List.getElem?_cons_zero, List.getElem?_cons_succ]; rfl))
              (case ct46 => kernel_rfl)
              go_simp
              refine (shorts_any [m0, m1, m2, m3] HN.out.2.2 _ _ _ (by simp) F32.out).mono ?_
              rintro e y33 ⟨v33, rfl, hv, hd⟩
              obtain ⟨A33, c33, rfl, -, hl⟩ := (own_of hv).lies
              replace F10 := Lib.hid (lies_on2 F10.out hd)
              replace F16 := Lib.hid (lies_on2 F16.out hd)
              replace F11 := Lib.hid (lies_on2 F11.out hd)
              replace F17 := Lib.hid (lies_on2 F17.out hd)
              replace F32 := Lib.hid (lies_on2 F32.out hd)
              have F33 := Lib.hid hl
              refine hK33 _ _ ((show VS V _ from hS32).keep hd) (fun hS33 => ?_)
              clear hv hd hl hS32 hK33 K33
              clear F10 F16 F32
              revert hS33
              revert F33
              revert F17
              revert F11
              revert c33
              revert A33
              revert c17
              revert A17
              revert c11
              revert A11
              revert p32
              revert p16
              revert p10
              revert y33
              exact tail 0
            case hjt49 =>
              refine ow_i64_4 _ _ _ _ rfl m0 m1 m2 m3 rfl rfl rfl rfl ?_
              intro y32 p32 hl hd
              replace F10 := Lib.hid (lies_on2 F10.out hd)
              replace F16 := Lib.hid (lies_on2 F16.out hd)
              replace F11 := Lib.hid (lies_on2 F11.out hd)
              have F32 := Lib.hid hl
              refine hK32 _ _ ((show VS V _ from hS11).keep hd) (fun hS32 => ?_)
              clear hl hd hS11 hK32 K32
              refine held_one (i := 17) (oi := ?ot47) (by kernel_rfl) ?at47 ?ct47 (fun K17 hK17 => ?_)
              (case at47 => (simp only [List.getElem?_toArray, List.getElem?_cons_zero, List.getElem?_cons_succ]; rfl))
              (case ct47 => kernel_rfl)
              go_simp
              refine (pb64 [] [n5, n6] HN.out.2.1 none _ 0 _ _ (Lies.nil _ _ _ _) F16.out (by simp) (by simp)).mono ?_
              rintro e y17 ⟨v17, rfl, hv, hd⟩
              obtain ⟨A17, c17, rfl, -, hl⟩ := (own_of hv).lies
              replace F10 := Lib.hid (lies_on2 F10.out hd)
              replace F16 := Lib.hid (lies_on2 F16.out hd)
              replace F11 := Lib.hid (lies_on2 F11.out hd)
              replace F32 := Lib.hid (lies_on2 F32.out hd)
              have F17 := Lib.hid hl
              refine hK17 _ _ ((show VS V _ from hS32).keep hd) (fun hS17 => ?_)
              clear hv hd hl hS32 hK17 K17
              refine held_one (i := 33) (oi := ?ot48) (by kernel_rfl) ?at48 ?ct48 (fun K33 hK33 => ?_)
              (case at48 => (simp only [List.getElem?_toArray, List.getElem?_cons_zero, List.getElem?_cons_succ]; rfl))
              (case ct48 => kernel_rfl)
              go_simp
              refine (shorts_any [m0, m1, m2, m3] HN.out.2.2 _ _ _ (by simp) F32.out).mono ?_
              rintro e y33 ⟨v33, rfl, hv, hd⟩
              obtain ⟨A33, c33, rfl, -, hl⟩ := (own_of hv).lies
              replace F10 := Lib.hid (lies_on2 F10.out hd)
              replace F16 := Lib.hid (lies_on2 F16.out hd)
              replace F11 := Lib.hid (lies_on2 F11.out hd)
              replace F32 := Lib.hid (lies_on2 F32.out hd)
              replace F17 := Lib.hid (lies_on2 F17.out hd)
              have F33 := Lib.hid hl
              refine hK33 _ _ ((show VS V _ from hS17).keep hd) (fun hS33 => ?_)
              clear hv hd hl hS17 hK33 K33
              clear F10 F16 F32
              revert hS33
              revert F33
              revert F17
              revert F11
              revert c33
              revert A33
              revert c17
              revert A17
              revert c11
              revert A11
              revert p32
              revert p16
              revert p10
              revert y33
              exact tail 0
          case hjt53 =>
            refine ow_i64_4 _ _ _ _ rfl m0 m1 m2 m3 rfl rfl rfl rfl ?_
            intro y32 p32 hl hd
            replace F10 := Lib.hid (lies_on2 F10.out hd)
            replace F16 := Lib.hid (lies_on2 F16.out hd)
            have F32 := Lib.hid hl
            refine hK32 _ _ ((show VS V _ from hS16).keep hd) (fun hS32 => ?_)
            clear hl hd hS16 hK32 K32
            refine held_one (i := 11) (oi := ?ot50) (by kernel_rfl) ?at50 ?ct50 (fun K11 hK11 => ?_)
            (case at50 => (simp only [List.getElem?_toArray, List.getElem?_cons_zero, List.getElem?_cons_succ]; rfl))
            (case ct50 => kernel_rfl)
            go_simp
            refine (pb32 [] [fl, n2, n3, n4] HN.out.1 none _ 0 _ _ (Lies.nil _ _ _ _) F10.out (by simp) (by simp)).mono ?_
            rintro e y11 ⟨v11, rfl, hv, hd⟩
            obtain ⟨A11, c11, rfl, -, hl⟩ := (own_of hv).lies
            replace F10 := Lib.hid (lies_on2 F10.out hd)
            replace F16 := Lib.hid (lies_on2 F16.out hd)
            replace F32 := Lib.hid (lies_on2 F32.out hd)
            have F11 := Lib.hid hl
            refine hK11 _ _ ((show VS V _ from hS32).keep hd) (fun hS11 => ?_)
            clear hv hd hl hS32 hK11 K11
            refine held_one (i := 17) (oi := ?ot51) (by kernel_rfl) ?at51 ?ct51 (fun K17 hK17 => ?_)
            (case at51 => (simp only [List.getElem?_toArray, List.getElem?_cons_zero, List.getElem?_cons_succ]; rfl))
            (case ct51 => kernel_rfl)
            go_simp
            refine (pb64 [] [n5, n6] HN.out.2.1 none _ 0 _ _ (Lies.nil _ _ _ _) F16.out (by simp) (by simp)).mono ?_
            rintro e y17 ⟨v17, rfl, hv, hd⟩
            obtain ⟨A17, c17, rfl, -, hl⟩ := (own_of hv).lies
            replace F10 := Lib.hid (lies_on2 F10.out hd)
            replace F16 := Lib.hid (lies_on2 F16.out hd)
            replace F32 := Lib.hid (lies_on2 F32.out hd)
            replace F11 := Lib.hid (lies_on2 F11.out hd)
            have F17 := Lib.hid hl
            refine hK17 _ _ ((show VS V _ from hS11).keep hd) (fun hS17 => ?_)
            clear hv hd hl hS11 hK17 K17
            refine held_one (i := 33) (oi := ?ot52) (by kernel_rfl) ?at52 ?ct52 (fun K33 hK33 => ?_)
            (case at52 => (simp only [List.getElem?_toArray, List.getElem?_cons_zero, List.getElem?_cons_succ]; rfl))
            (case ct52 => kernel_rfl)
            go_simp
            refine (shorts_any [m0, m1, m2, m3] HN.out.2.2 _ _ _ (by simp) F32.out).mono ?_
            rintro e y33 ⟨v33, rfl, hv, hd⟩
            obtain ⟨A33, c33, rfl, -, hl⟩ := (own_of hv).lies
            replace F10 := Lib.hid (lies_on2 F10.out hd)
            replace F16 := Lib.hid (lies_on2 F16.out hd)
            replace F32 := Lib.hid (lies_on2 F32.out hd)
            replace F11 := Lib.hid (lies_on2 F11.out hd)
            replace F17 := Lib.hid (lies_on2 F17.out hd)
            have F33 := Lib.hid hl
            refine hK33 _ _ ((show VS V _ from hS17).keep hd) (fun hS33 => ?_)
            clear hv hd hl hS17 hK33 K33
            clear F10 F16 F32
            revert hS33
            revert F33
            revert F17
            revert F11
            revert c33
            revert A33
            revert c17
            revert A17
            revert c11
            revert A11
            revert p32
            revert p16
            revert p10
            revert y33
            exact tail 0
        case hkt61 =>
          refine ow_i64_4 _ _ _ _ rfl m0 m1 m2 m3 rfl rfl rfl rfl ?_
          intro y32 p32 hl hd
          replace F10 := Lib.hid (lies_on2 F10.out hd)
          have F32 := Lib.hid hl
          refine hK32 _ _ ((show VS V _ from hS10).keep hd) (fun hS32 => ?_)
          clear hl hd hS10 hK32 K32
          refine held_two (i := 11) (j := 16) (oi := ?oit60) (oj := ?ojt60) (by kernel_rfl) ?ait60 ?ajt60 ?cit60 ?cjt60 (fun K11 hK11 => ?hit60) (fun K16 hK16 => ?hjt60)
          (case ait60 => (simp only [List.getElem?_toArray, List.getElem?_cons_zero, List.getElem?_cons_succ]; rfl))
          (case ajt60 => (simp only [List.getElem?_toArray, List.getElem?_cons_zero, List.getElem?_cons_succ]; rfl))
          (case cit60 => kernel_rfl)
          (case cjt60 => kernel_rfl)
          case hit60 =>
            go_simp
            refine (pb32 [] [fl, n2, n3, n4] HN.out.1 none _ 0 _ _ (Lies.nil _ _ _ _) F10.out (by simp) (by simp)).mono ?_
            rintro e y11 ⟨v11, rfl, hv, hd⟩
            obtain ⟨A11, c11, rfl, -, hl⟩ := (own_of hv).lies
            replace F10 := Lib.hid (lies_on2 F10.out hd)
            replace F32 := Lib.hid (lies_on2 F32.out hd)
            have F11 := Lib.hid hl
            refine hK11 _ _ ((show VS V _ from hS32).keep hd) (fun hS11 => ?_)
            clear hv hd hl hS32 hK11 K11
            refine held_one (i := 16) (oi := ?ot54) (by kernel_rfl) ?at54 ?ct54 (fun K16 hK16 => ?_)
            (case at54 => (simp only [List.getElem?_toArray, List.getElem?_cons_zero, List.getElem?_cons_succ]; rfl))
            (case ct54 => kernel_rfl)
            refine ow_u64_2 _ _ rfl n5 n6 rfl rfl ?_
            intro y16 p16 hl hd
            replace F10 := Lib.hid (lies_on2 F10.out hd)
            replace F32 := Lib.hid (lies_on2 F32.out hd)
            replace F11 := Lib.hid (lies_on2 F11.out hd)
            have F16 := Lib.hid hl
            refine hK16 _ _ ((show VS V _ from hS11).keep hd) (fun hS16 => ?_)
            clear hl hd hS11 hK16 K16
            refine held_one (i := 17) (oi := ?ot55) (by kernel_rfl) ?at55 ?ct55 (fun K17 hK17 => ?_)
            (case at55 => (simp only [List.getElem?_toArray, List.getElem?_cons_zero, List.getElem?_cons_succ]; rfl))
            (case ct55 => kernel_rfl)
            go_simp
            refine (pb64 [] [n5, n6] HN.out.2.1 none _ 0 _ _ (Lies.nil _ _ _ _) F16.out (by simp) (by simp)).mono ?_
            rintro e y17 ⟨v17, rfl, hv, hd⟩
            obtain ⟨A17, c17, rfl, -, hl⟩ := (own_of hv).lies
            replace F10 := Lib.hid (lies_on2 F10.out hd)
            replace F32 := Lib.hid (lies_on2 F32.out hd)
            replace F11 := Lib.hid (lies_on2 F11.out hd)
            replace F16 := Lib.hid (lies_on2 F16.out hd)
            have F17 := Lib.hid hl
            refine hK17 _ _ ((show VS V _ from hS16).keep hd) (fun hS17 => ?_)
            clear hv hd hl hS16 hK17 K17
            refine held_one (i := 33) (oi := ?ot56) (by kernel_rfl) ?at56 ?ct56 (fun K33 hK33 => ?_)
            (case at56 => (simp only [List.getElem?_toArray, List.getElem?_cons_zero, List.getElem?_cons_succ]; rfl))
            (case ct56 => kernel_rfl)
            go_simp
            refine (shorts_any [m0, m1, m2, m3] HN.out.2.2 _ _ _ (by simp) F32.out).mono ?_
            rintro e y33 ⟨v33, rfl, hv, hd⟩
            obtain ⟨A33, c33, rfl, -, hl⟩ := (own_of hv).lies
            replace F10 := Lib.hid (lies_on2 F10.out hd)
            replace F32 := Lib.hid (lies_on2 F32.out hd)
            replace F11 := Lib.hid (lies_on2 F11.out hd)
            replace F16 := Lib.hid (lies_on2 F16.out hd)
            replace F17 := Lib.hid (lies_on2 F17.out hd)
            have F33 := Lib.hid hl
            refine hK33 _ _ ((show VS V _ from hS17).keep hd) (fun hS33 => ?_)
            clear hv hd hl hS17 hK33 K33
            clear F10 F16 F32
            revert hS33
            revert F33
            revert F17
            revert F11
            revert c33
            revert A33
            revert c17
            revert A17
            revert c11
            revert A11
            revert p32
            revert p16
            revert p10
            revert y33
            exact tail 0
          case hjt60 =>
            refine ow_u64_2 _ _ rfl n5 n6 rfl rfl ?_
            intro y16 p16 hl hd
            replace F10 := Lib.hid (lies_on2 F10.out hd)
            replace F32 := Lib.hid (lies_on2 F32.out hd)
            have F16 := Lib.hid hl
            refine hK16 _ _ ((show VS V _ from hS32).keep hd) (fun hS16 => ?_)
            clear hl hd hS32 hK16 K16
            refine held_one (i := 11) (oi := ?ot57) (by kernel_rfl) ?at57 ?ct57 (fun K11 hK11 => ?_)
            (case at57 => (simp only [List.getElem?_toArray, List.getElem?_cons_zero, List.getElem?_cons_succ]; rfl))
            (case ct57 => kernel_rfl)
            go_simp
            refine (pb32 [] [fl, n2, n3, n4] HN.out.1 none _ 0 _ _ (Lies.nil _ _ _ _) F10.out (by simp) (by simp)).mono ?_
            rintro e y11 ⟨v11, rfl, hv, hd⟩
            obtain ⟨A11, c11, rfl, -, hl⟩ := (own_of hv).lies
            replace F10 := Lib.hid (lies_on2 F10.out hd)
            replace F32 := Lib.hid (lies_on2 F32.out hd)
            replace F16 := Lib.hid (lies_on2 F16.out hd)
            have F11 := Lib.hid hl
            refine hK11 _ _ ((show VS V _ from hS16).keep hd) (fun hS11 => ?_)
            clear hv hd hl hS16 hK11 K11
            refine held_one (i := 17) (oi := ?ot58) (by kernel_rfl) ?at58 ?ct58 (fun K17 hK17 => ?_)
            (case at58 => (simp only [List.getElem?_toArray, List.getElem?_cons_zero, List.getElem?_cons_succ]; rfl))
            (case ct58 => kernel_rfl)
            go_simp
            refine (pb64 [] [n5, n6] HN.out.2.1 none _ 0 _ _ (Lies.nil _ _ _ _) F16.out (by simp) (by simp)).mono ?_
            rintro e y17 ⟨v17, rfl, hv, hd⟩
            obtain ⟨A17, c17, rfl, -, hl⟩ := (own_of hv).lies
            replace F10 := Lib.hid (lies_on2 F10.out hd)
            replace F32 := Lib.hid (lies_on2 F32.out hd)
            replace F16 := Lib.hid (lies_on2 F16.out hd)
            replace F11 := Lib.hid (lies_on2 F11.out hd)
            have F17 := Lib.hid hl
            refine hK17 _ _ ((show VS V _ from hS11).keep hd) (fun hS17 => ?_)
            clear hv hd hl hS11 hK17 K17
            refine held_one (i := 33) (oi := ?ot59) (by kernel_rfl) ?at59 ?ct59 (fun K33 hK33 => ?_)
            (case at59 => (simp only [List.getElem?_toArray, List.getElem?_cons_zero, List.getElem?_cons_succ]; rfl))
            (case ct59 => kernel_rfl)
            go_simp
            refine (shorts_any [m0, m1, m2, m3] HN.out.2.2 _ _ _ (by simp) F32.out).mono ?_
            rintro e y33 ⟨v33, rfl, hv, hd⟩
            obtain ⟨A33, c33, rfl, -, hl⟩ := (own_of hv).lies
            replace F10 := Lib.hid (lies_on2 F10.out hd)
            replace F32 := Lib.hid (lies_on2 F32.out hd)
            replace F16 := Lib.hid (lies_on2 F16.out hd)
            replace F11 := Lib.hid (lies_on2 F11.out hd)
            replace F17 := Lib.hid (lies_on2 F17.out hd)
            have F33 := Lib.hid hl
            refine hK33 _ _ ((show VS V _ from hS17).keep hd) (fun hS33 => ?_)
            clear hv hd hl hS17 hK33 K33
            clear F10 F16 F32
            revert hS33
            revert F33
            revert F17
            revert F11
            revert c33
            revert A33
            revert c17
            revert A17
            revert c11
            revert A11
            revert p32
            revert p16
            revert p10
            revert y33
            exact tail 0
      case hjt88 =>
        refine ow_u64_2 _ _ rfl n5 n6 rfl rfl ?_
        intro y16 p16 hl hd
        have F16 := Lib.hid hl
        refine hK16 _ _ ((show VS V _ from hS3).keep hd) (fun hS16 => ?_)
        clear hl hd hS3 hK16 K16
        refine held_two (i := 10) (j := 32) (oi := ?oit75) (oj := ?ojt75) (by kernel_rfl) ?ait75 ?ajt75 ?cit75 ?cjt75 (fun K10 hK10 => ?hit75) (fun K32 hK32 => ?hjt75)
        (case ait75 => (simp only [List.getElem?_toArray, List.getElem?_cons_zero, List.getElem?_cons_succ]; rfl))
        (case ajt75 => (simp only [List.getElem?_toArray, List.getElem?_cons_zero, List.getElem?_cons_succ]; rfl))
        (case cit75 => kernel_rfl)
        (case cjt75 => kernel_rfl)
        case hit75 =>
          refine ow_u32_4 _ _ _ _ rfl fl n2 n3 n4 rfl rfl rfl rfl ?_
          intro y10 p10 hl hd
          replace F16 := Lib.hid (lies_on2 F16.out hd)
          have F10 := Lib.hid hl
          refine hK10 _ _ ((show VS V _ from hS16).keep hd) (fun hS10 => ?_)
          clear hl hd hS16 hK10 K10
          refine held_two (i := 11) (j := 32) (oi := ?oit70) (oj := ?ojt70) (by kernel_rfl) ?ait70 ?ajt70 ?cit70 ?cjt70 (fun K11 hK11 => ?hit70) (fun K32 hK32 => ?hjt70)
          (case ait70 => (simp only [List.getElem?_toArray, List.getElem?_cons_zero, List.getElem?_cons_succ]; rfl))
          (case ajt70 => (simp only [List.getElem?_toArray, List.getElem?_cons_zero, List.getElem?_cons_succ]; rfl))
          (case cit70 => kernel_rfl)
          (case cjt70 => kernel_rfl)
          case hit70 =>
            go_simp
            refine (pb32 [] [fl, n2, n3, n4] HN.out.1 none _ 0 _ _ (Lies.nil _ _ _ _) F10.out (by simp) (by simp)).mono ?_
            rintro e y11 ⟨v11, rfl, hv, hd⟩
            obtain ⟨A11, c11, rfl, -, hl⟩ := (own_of hv).lies
            replace F16 := Lib.hid (lies_on2 F16.out hd)
            replace F10 := Lib.hid (lies_on2 F10.out hd)
            have F11 := Lib.hid hl
            refine hK11 _ _ ((show VS V _ from hS10).keep hd) (fun hS11 => ?_)
            clear hv hd hl hS10 hK11 K11
            refine held_two (i := 17) (j := 32) (oi := ?oit66) (oj := ?ojt66) (by kernel_rfl) ?ait66 ?ajt66 ?cit66 ?cjt66 (fun K17 hK17 => ?hit66) (fun K32 hK32 => ?hjt66)
            (case ait66 => (simp only [List.getElem?_toArray, List.getElem?_cons_zero, List.getElem?_cons_succ]; rfl))
            (case ajt66 => (simp only [List.getElem?_toArray, List.getElem?_cons_zero, List.getElem?_cons_succ]; rfl))
            (case cit66 => kernel_rfl)
            (case cjt66 => kernel_rfl)
            case hit66 =>
              go_simp
              refine (pb64 [] [n5, n6] HN.out.2.1 none _ 0 _ _ (Lies.nil _ _ _ _) F16.out (by simp) (by simp)).mono ?_
              rintro e y17 ⟨v17, rfl, hv, hd⟩
              obtain ⟨A17, c17, rfl, -, hl⟩ := (own_of hv).lies
              replace F16 := Lib.hid (lies_on2 F16.out hd)
              replace F10 := Lib.hid (lies_on2 F10.out hd)
              replace F11 := Lib.hid (lies_on2 F11.out hd)
              have F17 := Lib.hid hl
              refine hK17 _ _ ((show VS V _ from hS11).keep hd) (fun hS17 => ?_)
              clear hv hd hl hS11 hK17 K17
              refine held_one (i := 32) (oi := ?ot62) (by kernel_rfl) ?at62 ?ct62 (fun K32 hK32 => ?_)
              (case at62 => (simp only [List.getElem?_toArray, List.getElem?_cons_zero, List.getElem?_cons_succ]; rfl))
              (case ct62 => kernel_rfl)
              refine ow_i64_4 _ _ _ _ rfl m0 m1 m2 m3 rfl rfl rfl rfl ?_
              intro y32 p32 hl hd
              replace F16 := Lib.hid (lies_on2 F16.out hd)
              replace F10 := Lib.hid (lies_on2 F10.out hd)
              replace F11 := Lib.hid (lies_on2 F11.out hd)
              replace F17 := Lib.hid (lies_on2 F17.out hd)
              have F32 := Lib.hid hl
              refine hK32 _ _ ((show VS V _ from hS17).keep hd) (fun hS32 => ?_)
              clear hl hd hS17 hK32 K32
              refine held_one (i := 33) (oi := ?ot63) (by kernel_rfl) ?at63 ?ct63 (fun K33 hK33 => ?_)
              (case at63 => (simp only [List.getElem?_toArray, List.getElem?_cons_zero, List.getElem?_cons_succ]; rfl))
              (case ct63 => kernel_rfl)
              go_simp
              refine (shorts_any [m0, m1, m2, m3] HN.out.2.2 _ _ _ (by simp) F32.out).mono ?_
              rintro e y33 ⟨v33, rfl, hv, hd⟩
              obtain ⟨A33, c33, rfl, -, hl⟩ := (own_of hv).lies
              replace F16 := Lib.hid (lies_on2 F16.out hd)
              replace F10 := Lib.hid (lies_on2 F10.out hd)
              replace F11 := Lib.hid (lies_on2 F11.out hd)
              replace F17 := Lib.hid (lies_on2 F17.out hd)
              replace F32 := Lib.hid (lies_on2 F32.out hd)
              have F33 := Lib.hid hl
              refine hK33 _ _ ((show VS V _ from hS32).keep hd) (fun hS33 => ?_)
              clear hv hd hl hS32 hK33 K33
              clear F10 F16 F32
              revert hS33
              revert F33
              revert F17
              revert F11
              revert c33
              revert A33
              revert c17
              revert A17
              revert c11
              revert A11
              revert p32
              revert p16
              revert p10
              revert y33
              exact tail 0
            case hjt66 =>
              refine ow_i64_4 _ _ _ _ rfl m0 m1 m2 m3 rfl rfl rfl rfl ?_
              intro y32 p32 hl hd
              replace F16 := Lib.hid (lies_on2 F16.out hd)
              replace F10 := Lib.hid (lies_on2 F10.out hd)
              replace F11 := Lib.hid (lies_on2 F11.out hd)
              have F32 := Lib.hid hl
              refine hK32 _ _ ((show VS V _ from hS11).keep hd) (fun hS32 => ?_)
              clear hl hd hS11 hK32 K32
              refine held_one (i := 17) (oi := ?ot64) (by kernel_rfl) ?at64 ?ct64 (fun K17 hK17 => ?_)
              (case at64 => (simp only [List.getElem?_toArray, List.getElem?_cons_zero, List.getElem?_cons_succ]; rfl))
              (case ct64 => kernel_rfl)
              go_simp
              refine (pb64 [] [n5, n6] HN.out.2.1 none _ 0 _ _ (Lies.nil _ _ _ _) F16.out (by simp) (by simp)).mono ?_
              rintro e y17 ⟨v17, rfl, hv, hd⟩
              obtain ⟨A17, c17, rfl, -, hl⟩ := (own_of hv).lies
              replace F16 := Lib.hid (lies_on2 F16.out hd)
              replace F10 := Lib.hid (lies_on2 F10.out hd)
              replace F11 := Lib.hid (lies_on2 F11.out hd)
              replace F32 := Lib.hid (lies_on2 F32.out hd)
              have F17 := Lib.hid hl
              refine hK17 _ _ ((show VS V _ from hS32).keep hd) (fun hS17 => ?_)
              clear hv hd hl hS32 hK17 K17
              refine held_one (i := 33) (oi := ?ot65) (by kernel_rfl) ?at65 ?ct65 (fun K33 hK33 => ?_)
              (case at65 => (simp only [List.getElem?_toArray, List.getElem?_cons_zero, List.getElem?_cons_succ]; rfl))
              (case ct65 => kernel_rfl)
              go_simp
              refine (shorts_any [m0, m1, m2, m3] HN.out.2.2 _ _ _ (by simp) F32.out).mono ?_
              rintro e y33 ⟨v33, rfl, hv, hd⟩
              obtain ⟨A33, c33, rfl, -, hl⟩ := (own_of hv).lies
              replace F16 := Lib.hid (lies_on2 F16.out hd)
              replace F10 := Lib.hid (lies_on2 F10.out hd)
              replace F11 := Lib.hid (lies_on2 F11.out hd)
              replace F32 := Lib.hid (lies_on2 F32.out hd)
              replace F17 := Lib.hid (lies_on2 F17.out hd)
              have F33 := Lib.hid hl
              refine hK33 _ _ ((show VS V _ from hS17).keep hd) (fun hS33 => ?_)
              clear hv hd hl hS17 hK33 K33
              clear F10 F16 F32
              revert hS33
              revert F33
              revert F17
              revert F11
              revert c33
              revert A33
              revert c17
              revert A17
              revert c11
              revert A11
              revert p32
              revert p16
              revert p10
              revert y33
              exact tail 0
          case hjt70 =>
            refine ow_i64_4 _ _ _ _ rfl m0 m1 m2 m3 rfl rfl rfl rfl ?_
            intro y32 p32 hl hd
            replace F16 := Lib.hid (lies_on2 F16.out hd)
            replace F10 := Lib.hid (lies_on2 F10.out hd)
            have F32 := Lib.hid hl
            refine hK32 _ _ ((show VS V _ from hS10).keep hd) (fun hS32 => ?_)
            clear hl hd hS10 hK32 K32
            refine held_one (i := 11) (oi := ?ot67) (by kernel_rfl) ?at67 ?ct67 (fun K11 hK11 => ?_)
            (case at67 => (simp only [List.getElem?_toArray, List.getElem?_cons_zero, List.getElem?_cons_succ]; rfl))
            (case ct67 => kernel_rfl)
            go_simp
            refine (pb32 [] [fl, n2, n3, n4] HN.out.1 none _ 0 _ _ (Lies.nil _ _ _ _) F10.out (by simp) (by simp)).mono ?_
            rintro e y11 ⟨v11, rfl, hv, hd⟩
            obtain ⟨A11, c11, rfl, -, hl⟩ := (own_of hv).lies
            replace F16 := Lib.hid (lies_on2 F16.out hd)
            replace F10 := Lib.hid (lies_on2 F10.out hd)
            replace F32 := Lib.hid (lies_on2 F32.out hd)
            have F11 := Lib.hid hl
            refine hK11 _ _ ((show VS V _ from hS32).keep hd) (fun hS11 => ?_)
            clear hv hd hl hS32 hK11 K11
            refine held_one (i := 17) (oi := ?ot68) (by kernel_rfl) ?at68 ?ct68 (fun K17 hK17 => ?_)
            (case at68 => (simp only [List.getElem?_toArray, List.getElem?_cons_zero, List.getElem?_cons_succ]; rfl))
            (case ct68 => kernel_rfl)
            go_simp
            refine (pb64 [] [n5, n6] HN.out.2.1 none _ 0 _ _ (Lies.nil _ _ _ _) F16.out (by simp) (by simp)).mono ?_
            rintro e y17 ⟨v17, rfl, hv, hd⟩
            obtain ⟨A17, c17, rfl, -, hl⟩ := (own_of hv).lies
            replace F16 := Lib.hid (lies_on2 F16.out hd)
            replace F10 := Lib.hid (lies_on2 F10.out hd)
            replace F32 := Lib.hid (lies_on2 F32.out hd)
            replace F11 := Lib.hid (lies_on2 F11.out hd)
            have F17 := Lib.hid hl
            refine hK17 _ _ ((show VS V _ from hS11).keep hd) (fun hS17 => ?_)
            clear hv hd hl hS11 hK17 K17
            refine held_one (i := 33) (oi := ?ot69) (by kernel_rfl) ?at69 ?ct69 (fun K33 hK33 => ?_)
            (case at69 => (simp only [List.getElem?_toArray, List.getElem?_cons_zero, List.getElem?_cons_succ]; rfl))
            (case ct69 => kernel_rfl)
            go_simp
            refine (shorts_any [m0, m1, m2, m3] HN.out.2.2 _ _ _ (by simp) F32.out).mono ?_
            rintro e y33 ⟨v33, rfl, hv, hd⟩
            obtain ⟨A33, c33, rfl, -, hl⟩ := (own_of hv).lies
            replace F16 := Lib.hid (lies_on2 F16.out hd)
            replace F10 := Lib.hid (lies_on2 F10.out hd)
            replace F32 := Lib.hid (lies_on2 F32.out hd)
            replace F11 := Lib.hid (lies_on2 F11.out hd)
            replace F17 := Lib.hid (lies_on2 F17.out hd)
            have F33 := Lib.hid hl
            refine hK33 _ _ ((show VS V _ from hS17).keep hd) (fun hS33 => ?_)
            clear hv hd hl hS17 hK33 K33
            clear F10 F16 F32
            revert hS33
            revert F33
            revert F17
            revert F11
            revert c33
            revert A33
            revert c17
            revert A17
            revert c11
            revert A11
            revert p32
            revert p16
            revert p10
            revert y33
            exact tail 0
        case hjt75 =>
          refine ow_i64_4 _ _ _ _ rfl m0 m1 m2 m3 rfl rfl rfl rfl ?_
          intro y32 p32 hl hd
          replace F16 := Lib.hid (lies_on2 F16.out hd)
          have F32 := Lib.hid hl
          refine hK32 _ _ ((show VS V _ from hS16).keep hd) (fun hS32 => ?_)
          clear hl hd hS16 hK32 K32
          refine held_one (i := 10) (oi := ?ot71) (by kernel_rfl) ?at71 ?ct71 (fun K10 hK10 => ?_)
          (case at71 => (simp only [List.getElem?_toArray, List.getElem?_cons_zero, List.getElem?_cons_succ]; rfl))
          (case ct71 => kernel_rfl)
          refine ow_u32_4 _ _ _ _ rfl fl n2 n3 n4 rfl rfl rfl rfl ?_
          intro y10 p10 hl hd
          replace F16 := Lib.hid (lies_on2 F16.out hd)
          replace F32 := Lib.hid (lies_on2 F32.out hd)
          have F10 := Lib.hid hl
          refine hK10 _ _ ((show VS V _ from hS32).keep hd) (fun hS10 => ?_)
          clear hl hd hS32 hK10 K10
          refine held_one (i := 11) (oi := ?ot72) (by kernel_rfl) ?at72 ?ct72 (fun K11 hK11 => ?_)
          (case at72 => (simp only [List.getElem?_toArray, List.getElem?_cons_zero, List.getElem?_cons_succ]; rfl))
          (case ct72 => kernel_rfl)
          go_simp
          refine (pb32 [] [fl, n2, n3, n4] HN.out.1 none _ 0 _ _ (Lies.nil _ _ _ _) F10.out (by simp) (by simp)).mono ?_
          rintro e y11 ⟨v11, rfl, hv, hd⟩
          obtain ⟨A11, c11, rfl, -, hl⟩ := (own_of hv).lies
          replace F16 := Lib.hid (lies_on2 F16.out hd)
          replace F32 := Lib.hid (lies_on2 F32.out hd)
          replace F10 := Lib.hid (lies_on2 F10.out hd)
          have F11 := Lib.hid hl
          refine hK11 _ _ ((show VS V _ from hS10).keep hd) (fun hS11 => ?_)
          clear hv hd hl hS10 hK11 K11
          refine held_one (i := 17) (oi := ?ot73) (by kernel_rfl) ?at73 ?ct73 (fun K17 hK17 => ?_)
          (case at73 => (simp only [List.getElem?_toArray, List.getElem?_cons_zero, List.getElem?_cons_succ]; rfl))
          (case ct73 => kernel_rfl)
          go_simp
          refine (pb64 [] [n5, n6] HN.out.2.1 none _ 0 _ _ (Lies.nil _ _ _ _) F16.out (by simp) (by simp)).mono ?_
          rintro e y17 ⟨v17, rfl, hv, hd⟩
          obtain ⟨A17, c17, rfl, -, hl⟩ := (own_of hv).lies
          replace F16 := Lib.hid (lies_on2 F16.out hd)
          replace F32 := Lib.hid (lies_on2 F32.out hd)
          replace F10 := Lib.hid (lies_on2 F10.out hd)
          replace F11 := Lib.hid (lies_on2 F11.out hd)
          have F17 := Lib.hid hl
          refine hK17 _ _ ((show VS V _ from hS11).keep hd) (fun hS17 => ?_)
          clear hv hd hl hS11 hK17 K17
          refine held_one (i := 33) (oi := ?ot74) (by kernel_rfl) ?at74 ?ct74 (fun K33 hK33 => ?_)
          (case at74 => (simp only [List.getElem?_toArray, List.getElem?_cons_zero, List.getElem?_cons_succ]; rfl))
          (case ct74 => kernel_rfl)
          go_simp
          refine (shorts_any [m0, m1, m2, m3] HN.out.2.2 _ _ _ (by simp) F32.out).mono ?_
          rintro e y33 ⟨v33, rfl, hv, hd⟩
          obtain ⟨A33, c33, rfl, -, hl⟩ := (own_of hv).lies
          replace F16 := Lib.hid (lies_on2 F16.out hd)
          replace F32 := Lib.hid (lies_on2 F32.out hd)
          replace F10 := Lib.hid (lies_on2 F10.out hd)
          replace F11 := Lib.hid (lies_on2 F11.out hd)
          replace F17 := Lib.hid (lies_on2 F17.out hd)
          have F33 := Lib.hid hl
          refine hK33 _ _ ((show VS V _ from hS17).keep hd) (fun hS33 => ?_)
          clear hv hd hl hS17 hK33 K33
          clear F10 F16 F32
          revert hS33
          revert F33
          revert F17
          revert F11
          revert c33
          revert A33
          revert c17
          revert A17
          revert c11
          revert A11
          revert p32
          revert p16
          revert p10
          revert y33
          exact tail 0
      case hkt88 =>
        refine ow_i64_4 _ _ _ _ rfl m0 m1 m2 m3 rfl rfl rfl rfl ?_
        intro y32 p32 hl hd
        have F32 := Lib.hid hl
        refine hK32 _ _ ((show VS V _ from hS3).keep hd) (fun hS32 => ?_)
        clear hl hd hS3 hK32 K32
        refine held_two (i := 10) (j := 16) (oi := ?oit87) (oj := ?ojt87) (by kernel_rfl) ?ait87 ?ajt87 ?cit87 ?cjt87 (fun K10 hK10 => ?hit87) (fun K16 hK16 => ?hjt87)
        (case ait87 => (simp only [List.getElem?_toArray, List.getElem?_cons_zero, List.getElem?_cons_succ]; rfl))
        (case ajt87 => (simp only [List.getElem?_toArray, List.getElem?_cons_zero, List.getElem?_cons_succ]; rfl))
        (case cit87 => kernel_rfl)
        (case cjt87 => kernel_rfl)
        case hit87 =>
          refine ow_u32_4 _ _ _ _ rfl fl n2 n3 n4 rfl rfl rfl rfl ?_
          intro y10 p10 hl hd
          replace F32 := Lib.hid (lies_on2 F32.out hd)
          have F10 := Lib.hid hl
          refine hK10 _ _ ((show VS V _ from hS32).keep hd) (fun hS10 => ?_)
          clear hl hd hS32 hK10 K10
          refine held_two (i := 11) (j := 16) (oi := ?oit82) (oj := ?ojt82) (by kernel_rfl) ?ait82 ?ajt82 ?cit82 ?cjt82 (fun K11 hK11 => ?hit82) (fun K16 hK16 => ?hjt82)
          (case ait82 => (simp only [List.getElem?_toArray, List.getElem?_cons_zero, List.getElem?_cons_succ]; rfl))
          (case ajt82 => (simp only [List.getElem?_toArray, List.getElem?_cons_zero, List.getElem?_cons_succ]; rfl))
          (case cit82 => kernel_rfl)
          (case cjt82 => kernel_rfl)
          case hit82 =>
            go_simp
            refine (pb32 [] [fl, n2, n3, n4] HN.out.1 none _ 0 _ _ (Lies.nil _ _ _ _) F10.out (by simp) (by simp)).mono ?_
            rintro e y11 ⟨v11, rfl, hv, hd⟩
            obtain ⟨A11, c11, rfl, -, hl⟩ := (own_of hv).lies
            replace F32 := Lib.hid (lies_on2 F32.out hd)
            replace F10 := Lib.hid (lies_on2 F10.out hd)
            have F11 := Lib.hid hl
            refine hK11 _ _ ((show VS V _ from hS10).keep hd) (fun hS11 => ?_)
            clear hv hd hl hS10 hK11 K11
            refine held_one (i := 16) (oi := ?ot76) (by kernel_rfl) ?at76 ?ct76 (fun K16 hK16 => ?_)
            (case at76 => (simp only [List.getElem?_toArray, List.getElem?_cons_zero, List.getElem?_cons_succ]; rfl))
            (case ct76 => kernel_rfl)
            refine ow_u64_2 _ _ rfl n5 n6 rfl rfl ?_
            intro y16 p16 hl hd
            replace F32 := Lib.hid (lies_on2 F32.out hd)
            replace F10 := Lib.hid (lies_on2 F10.out hd)
            replace F11 := Lib.hid (lies_on2 F11.out hd)
            have F16 := Lib.hid hl
            refine hK16 _ _ ((show VS V _ from hS11).keep hd) (fun hS16 => ?_)
            clear hl hd hS11 hK16 K16
            refine held_one (i := 17) (oi := ?ot77) (by kernel_rfl) ?at77 ?ct77 (fun K17 hK17 => ?_)
            (case at77 => (simp only [List.getElem?_toArray, List.getElem?_cons_zero, List.getElem?_cons_succ]; rfl))
            (case ct77 => kernel_rfl)
            go_simp
            refine (pb64 [] [n5, n6] HN.out.2.1 none _ 0 _ _ (Lies.nil _ _ _ _) F16.out (by simp) (by simp)).mono ?_
            rintro e y17 ⟨v17, rfl, hv, hd⟩
            obtain ⟨A17, c17, rfl, -, hl⟩ := (own_of hv).lies
            replace F32 := Lib.hid (lies_on2 F32.out hd)
            replace F10 := Lib.hid (lies_on2 F10.out hd)
            replace F11 := Lib.hid (lies_on2 F11.out hd)
            replace F16 := Lib.hid (lies_on2 F16.out hd)
            have F17 := Lib.hid hl
            refine hK17 _ _ ((show VS V _ from hS16).keep hd) (fun hS17 => ?_)
            clear hv hd hl hS16 hK17 K17
            refine held_one (i := 33) (oi := ?ot78) (by kernel_rfl) ?at78 ?ct78 (fun K33 hK33 => ?_)
            (case at78 => (simp only [List.getElem?_toArray, List.getElem?_cons_zero, List.getElem?_cons_succ]; rfl))
            (case ct78 => kernel_rfl)
            go_simp
            refine (shorts_any [m0, m1, m2, m3] HN.out.2.2 _ _ _ (by simp) F32.out).mono ?_
            rintro e y33 ⟨v33, rfl, hv, hd⟩
            obtain ⟨A33, c33, rfl, -, hl⟩ := (own_of hv).lies
            replace F32 := Lib.hid (lies_on2 F32.out hd)
            replace F10 := Lib.hid (lies_on2 F10.out hd)
            replace F11 := Lib.hid (lies_on2 F11.out hd)
            replace F16 := Lib.hid (lies_on2 F16.out hd)
            replace F17 := Lib.hid (lies_on2 F17.out hd)
            have F33 := Lib.hid hl
            refine hK33 _ _ ((show VS V _ from hS17).keep hd) (fun hS33 => ?_)
            clear hv hd hl hS17 hK33 K33
            clear F10 F16 F32
            revert hS33
            revert F33
            revert F17
            revert F11
            revert c33
            revert A33
            revert c17
            revert A17
            revert c11
            revert A11
            revert p32
            revert p16
            revert p10
            revert y33
            exact tail 0
          case hjt82 =>
            refine ow_u64_2 _ _ rfl n5 n6 rfl rfl ?_
            intro y16 p16 hl hd
            replace F32 := Lib.hid (lies_on2 F32.out hd)
            replace F10 := Lib.hid (lies_on2 F10.out hd)
            have F16 := Lib.hid hl
            refine hK16 _ _ ((show VS V _ from hS10).keep hd) (fun hS16 => ?_)
            clear hl hd hS10 hK16 K16
            refine held_one (i := 11) (oi := ?ot79) (by kernel_rfl) ?at79 ?ct79 (fun K11 hK11 => ?_)
            (case at79 => (simp only [List.getElem?_toArray, List.getElem?_cons_zero, List.getElem?_cons_succ]; rfl))
            (case ct79 => kernel_rfl)
            go_simp
            refine (pb32 [] [fl, n2, n3, n4] HN.out.1 none _ 0 _ _ (Lies.nil _ _ _ _) F10.out (by simp) (by simp)).mono ?_
            rintro e y11 ⟨v11, rfl, hv, hd⟩
            obtain ⟨A11, c11, rfl, -, hl⟩ := (own_of hv).lies
            replace F32 := Lib.hid (lies_on2 F32.out hd)
            replace F10 := Lib.hid (lies_on2 F10.out hd)
            replace F16 := Lib.hid (lies_on2 F16.out hd)
            have F11 := Lib.hid hl
            refine hK11 _ _ ((show VS V _ from hS16).keep hd) (fun hS11 => ?_)
            clear hv hd hl hS16 hK11 K11
            refine held_one (i := 17) (oi := ?ot80) (by kernel_rfl) ?at80 ?ct80 (fun K17 hK17 => ?_)
            (case at80 => (simp only [List.getElem?_toArray, List.getElem?_cons_zero, List.getElem?_cons_succ]; rfl))
            (case ct80 => kernel_rfl)
            go_simp
            refine (pb64 [] [n5, n6] HN.out.2.1 none _ 0 _ _ (Lies.nil _ _ _ _) F16.out (by simp) (by simp)).mono ?_
            rintro e y17 ⟨v17, rfl, hv, hd⟩
            obtain ⟨A17, c17, rfl, -, hl⟩ := (own_of hv).lies
            replace F32 := Lib.hid (lies_on2 F32.out hd)
            replace F10 := Lib.hid (lies_on2 F10.out hd)
            replace F16 := Lib.hid (lies_on2 F16.out hd)
            replace F11 := Lib.hid (lies_on2 F11.out hd)
            have F17 := Lib.hid hl
            refine hK17 _ _ ((show VS V _ from hS11).keep hd) (fun hS17 => ?_)
            clear hv hd hl hS11 hK17 K17
            refine held_one (i := 33) (oi := ?ot81) (by kernel_rfl) ?at81 ?ct81 (fun K33 hK33 => ?_)
            (case at81 => (simp only [List.getElem?_toArray, List.getElem?_cons_zero, List.getElem?_cons_succ]; rfl))
            (case ct81 => kernel_rfl)
            go_simp
            refine (shorts_any [m0, m1, m2, m3] HN.out.2.2 _ _ _ (by simp) F32.out).mono ?_
            rintro e y33 ⟨v33, rfl, hv, hd⟩
            obtain ⟨A33, c33, rfl, -, hl⟩ := (own_of hv).lies
            replace F32 := Lib.hid (lies_on2 F32.out hd)
            replace F10 := Lib.hid (lies_on2 F10.out hd)
            replace F16 := Lib.hid (lies_on2 F16.out hd)
            replace F11 := Lib.hid (lies_on2 F11.out hd)
            replace F17 := Lib.hid (lies_on2 F17.out hd)
            have F33 := Lib.hid hl
            refine hK33 _ _ ((show VS V _ from hS17).keep hd) (fun hS33 => ?_)
            clear hv hd hl hS17 hK33 K33
            clear F10 F16 F32
            revert hS33
            revert F33
            revert F17
            revert F11
            revert c33
            revert A33
            revert c17
            revert A17
            revert c11
            revert A11
            revert p32
            revert p16
            revert p10
            revert y33
            exact tail 0
        case hjt87 =>
          refine ow_u64_2 _ _ rfl n5 n6 rfl rfl ?_
          intro y16 p16 hl hd
          replace F32 := Lib.hid (lies_on2 F32.out hd)
          have F16 := Lib.hid hl
          refine hK16 _ _ ((show VS V _ from hS32).keep hd) (fun hS16 => ?_)
          clear hl hd hS32 hK16 K16
          refine held_one (i := 10) (oi := ?ot83) (by kernel_rfl) ?at83 ?ct83 (fun K10 hK10 => ?_)
          (case at83 => (simp only [List.getElem?_toArray, List.getElem?_cons_zero, List.getElem?_cons_succ]; rfl))
          (case ct83 => kernel_rfl)
          refine ow_u32_4 _ _ _ _ rfl fl n2 n3 n4 rfl rfl rfl rfl ?_
          intro y10 p10 hl hd
          replace F32 := Lib.hid (lies_on2 F32.out hd)
          replace F16 := Lib.hid (lies_on2 F16.out hd)
          have F10 := Lib.hid hl
          refine hK10 _ _ ((show VS V _ from hS16).keep hd) (fun hS10 => ?_)
          clear hl hd hS16 hK10 K10
          refine held_one (i := 11) (oi := ?ot84) (by kernel_rfl) ?at84 ?ct84 (fun K11 hK11 => ?_)
          (case at84 => (simp only [List.getElem?_toArray, List.getElem?_cons_zero, List.getElem?_cons_succ]; rfl))
          (case ct84 => kernel_rfl)
          go_simp
          refine (pb32 [] [fl, n2, n3, n4] HN.out.1 none _ 0 _ _ (Lies.nil _ _ _ _) F10.out (by simp) (by simp)).mono ?_
          rintro e y11 ⟨v11, rfl, hv, hd⟩
          obtain ⟨A11, c11, rfl, -, hl⟩ := (own_of hv).lies
          replace F32 := Lib.hid (lies_on2 F32.out hd)
          replace F16 := Lib.hid (lies_on2 F16.out hd)
          replace F10 := Lib.hid (lies_on2 F10.out hd)
          have F11 := Lib.hid hl
          refine hK11 _ _ ((show VS V _ from hS10).keep hd) (fun hS11 => ?_)
          clear hv hd hl hS10 hK11 K11
          refine held_one (i := 17) (oi := ?ot85) (by kernel_rfl) ?at85 ?ct85 (fun K17 hK17 => ?_)
          (case at85 => (simp only [List.getElem?_toArray, List.getElem?_cons_zero, List.getElem?_cons_succ]; rfl))
          (case ct85 => kernel_rfl)
          go_simp
          refine (pb64 [] [n5, n6] HN.out.2.1 none _ 0 _ _ (Lies.nil _ _ _ _) F16.out (by simp) (by simp)).mono ?_
          rintro e y17 ⟨v17, rfl, hv, hd⟩
          obtain ⟨A17, c17, rfl, -, hl⟩ := (own_of hv).lies
          replace F32 := Lib.hid (lies_on2 F32.out hd)
          replace F16 := Lib.hid (lies_on2 F16.out hd)
          replace F10 := Lib.hid (lies_on2 F10.out hd)
          replace F11 := Lib.hid (lies_on2 F11.out hd)
          have F17 := Lib.hid hl
          refine hK17 _ _ ((show VS V _ from hS11).keep hd) (fun hS17 => ?_)
          clear hv hd hl hS11 hK17 K17
          refine held_one (i := 33) (oi := ?ot86) (by kernel_rfl) ?at86 ?ct86 (fun K33 hK33 => ?_)
          (case at86 => (simp only [List.getElem?_toArray, List.getElem?_cons_zero, List.getElem?_cons_succ]; rfl))
          (case ct86 => kernel_rfl)
          go_simp
          refine (shorts_any [m0, m1, m2, m3] HN.out.2.2 _ _ _ (by simp) F32.out).mono ?_
          rintro e y33 ⟨v33, rfl, hv, hd⟩
          obtain ⟨A33, c33, rfl, -, hl⟩ := (own_of hv).lies
          replace F32 := Lib.hid (lies_on2 F32.out hd)
          replace F16 := Lib.hid (lies_on2 F16.out hd)
          replace F10 := Lib.hid (lies_on2 F10.out hd)
          replace F11 := Lib.hid (lies_on2 F11.out hd)
          replace F17 := Lib.hid (lies_on2 F17.out hd)
          have F33 := Lib.hid hl
          refine hK33 _ _ ((show VS V _ from hS17).keep hd) (fun hS33 => ?_)
          clear hv hd hl hS17 hK33 K33
          clear F10 F16 F32
          revert hS33
          revert F33
          revert F17
          revert F11
          revert c33
          revert A33
          revert c17
          revert A17
          revert c11
          revert A11
          revert p32
          revert p16
          revert p10
          revert y33
          exact tail 0
    case hjt127 =>
      refine ow_u64_2 _ _ rfl n5 n6 rfl rfl ?_
      intro y16 p16 hl hd
      have F16 := Lib.hid hl
      refine hK16 _ _ ((show VS V _ from hS).keep hd) (fun hS16 => ?_)
      clear hl hd hS hK16 K16
      refine held_two (i := 3) (j := 32) (oi := ?oit108) (oj := ?ojt108) (by kernel_rfl) ?ait108 ?ajt108 ?cit108 ?cjt108 (fun K3 hK3 => ?hit108) (fun K32 hK32 => ?hjt108)
      (case ait108 => (simp only [List.getElem?_toArray, List.getElem?_cons_zero, List.getElem?_cons_succ]; rfl))
      (case ajt108 => (simp only [List.getElem?_toArray, List.getElem?_cons_zero, List.getElem?_cons_succ]; rfl))
      (case cit108 => kernel_rfl)
      (case cjt108 => kernel_rfl)
      case hit108 =>
        go_simp
        refine (HFL.out _).mono ?_
        rintro e y3 ⟨rfl, rfl⟩
        refine hK3 _ _ hS16 (fun hS3 => ?_)
        clear hS16 hK3 K3
        refine held_two (i := 10) (j := 32) (oi := ?oit102) (oj := ?ojt102) (by kernel_rfl) ?ait102 ?ajt102 ?cit102 ?cjt102 (fun K10 hK10 => ?hit102) (fun K32 hK32 => ?hjt102)
        (case ait102 => (simp only [List.getElem?_toArray, List.getElem?_cons_zero, List.getElem?_cons_succ]; rfl))
        (case ajt102 => (simp only [List.getElem?_toArray, List.getElem?_cons_zero, List.getElem?_cons_succ]; rfl))
        (case cit102 => kernel_rfl)
        (case cjt102 => kernel_rfl)
        case hit102 =>
          refine ow_u32_4 _ _ _ _ rfl fl n2 n3 n4 rfl rfl rfl rfl ?_
          intro y10 p10 hl hd
          replace F16 := Lib.hid (lies_on2 F16.out hd)
          have F10 := Lib.hid hl
          refine hK10 _ _ ((show VS V _ from hS3).keep hd) (fun hS10 => ?_)
          clear hl hd hS3 hK10 K10
          refine held_two (i := 11) (j := 32) (oi := ?oit97) (oj := ?ojt97) (by kernel_rfl) ?ait97 ?ajt97 ?cit97 ?cjt97 (fun K11 hK11 => ?hit97) (fun K32 hK32 => ?hjt97)
          (case ait97 => (simp only [List.getElem?_toArray, List.getElem?_cons_zero, List.getElem?_cons_succ]; rfl))
          (case ajt97 => (simp only [List.getElem?_toArray, List.getElem?_cons_zero, List.getElem?_cons_succ]; rfl))
          (case cit97 => kernel_rfl)
          (case cjt97 => kernel_rfl)
          case hit97 =>
            go_simp
            refine (pb32 [] [fl, n2, n3, n4] HN.out.1 none _ 0 _ _ (Lies.nil _ _ _ _) F10.out (by simp) (by simp)).mono ?_
            rintro e y11 ⟨v11, rfl, hv, hd⟩
            obtain ⟨A11, c11, rfl, -, hl⟩ := (own_of hv).lies
            replace F16 := Lib.hid (lies_on2 F16.out hd)
            replace F10 := Lib.hid (lies_on2 F10.out hd)
            have F11 := Lib.hid hl
            refine hK11 _ _ ((show VS V _ from hS10).keep hd) (fun hS11 => ?_)
            clear hv hd hl hS10 hK11 K11
            refine held_two (i := 17) (j := 32) (oi := ?oit93) (oj := ?ojt93) (by kernel_rfl) ?ait93 ?ajt93 ?cit93 ?cjt93 (fun K17 hK17 => ?hit93) (fun K32 hK32 => ?hjt93)
            (case ait93 => (simp only [List.getElem?_toArray, List.getElem?_cons_zero, List.getElem?_cons_succ]; rfl))
            (case ajt93 => (simp only [List.getElem?_toArray, List.getElem?_cons_zero, List.getElem?_cons_succ]; rfl))
            (case cit93 => kernel_rfl)
            (case cjt93 => kernel_rfl)
            case hit93 =>
              go_simp
              refine (pb64 [] [n5, n6] HN.out.2.1 none _ 0 _ _ (Lies.nil _ _ _ _) F16.out (by simp) (by simp)).mono ?_
              rintro e y17 ⟨v17, rfl, hv, hd⟩
              obtain ⟨A17, c17, rfl, -, hl⟩ := (own_of hv).lies
              replace F16 := Lib.hid (lies_on2 F16.out hd)
              replace F10 := Lib.hid (lies_on2 F10.out hd)
              replace F11 := Lib.hid (lies_on2 F11.out hd)
              have F17 := Lib.hid hl
              refine hK17 _ _ ((show VS V _ from hS11).keep hd) (fun hS17 => ?_)
              clear hv hd hl hS11 hK17 K17
              refine held_one (i := 32) (oi := ?ot89) (by kernel_rfl) ?at89 ?ct89 (fun K32 hK32 => ?_)
              (case at89 => (simp only [List.getElem?_toArray, List.getElem?_cons_zero, List.getElem?_cons_succ]; rfl))
              (case ct89 => kernel_rfl)
              refine ow_i64_4 _ _ _ _ rfl m0 m1 m2 m3 rfl rfl rfl rfl ?_
              intro y32 p32 hl hd
              replace F16 := Lib.hid (lies_on2 F16.out hd)
              replace F10 := Lib.hid (lies_on2 F10.out hd)
              replace F11 := Lib.hid (lies_on2 F11.out hd)
              replace F17 := Lib.hid (lies_on2 F17.out hd)
              have F32 := Lib.hid hl
              refine hK32 _ _ ((show VS V _ from hS17).keep hd) (fun hS32 => ?_)
              clear hl hd hS17 hK32 K32
              refine held_one (i := 33) (oi := ?ot90) (by kernel_rfl) ?at90 ?ct90 (fun K33 hK33 => ?_)
              (case at90 => (simp only [List.getElem?_toArray, List.getElem?_cons_zero, List.getElem?_cons_succ]; rfl))
              (case ct90 => kernel_rfl)
              go_simp
              refine (shorts_any [m0, m1, m2, m3] HN.out.2.2 _ _ _ (by simp) F32.out).mono ?_
              rintro e y33 ⟨v33, rfl, hv, hd⟩
              obtain ⟨A33, c33, rfl, -, hl⟩ := (own_of hv).lies
              replace F16 := Lib.hid (lies_on2 F16.out hd)
              replace F10 := Lib.hid (lies_on2 F10.out hd)
              replace F11 := Lib.hid (lies_on2 F11.out hd)
              replace F17 := Lib.hid (lies_on2 F17.out hd)
              replace F32 := Lib.hid (lies_on2 F32.out hd)
              have F33 := Lib.hid hl
              refine hK33 _ _ ((show VS V _ from hS32).keep hd) (fun hS33 => ?_)
              clear hv hd hl hS32 hK33 K33
              clear F10 F16 F32
              revert hS33
              revert F33
              revert F17
              revert F11
              revert c33
              revert A33
              revert c17
              revert A17
              revert c11
              revert A11
              revert p32
              revert p16
              revert p10
              revert y33
              exact tail 0
            case hjt93 =>
              refine ow_i64_4 _ _ _ _ rfl m0 m1 m2 m3 rfl rfl rfl rfl ?_
              intro y32 p32 hl hd
              replace F16 := Lib.hid (lies_on2 F16.out hd)
              replace F10 := Lib.hid (lies_on2 F10.out hd)
              replace F11 := Lib.hid (lies_on2 F11.out hd)
              have F32 := Lib.hid hl
              refine hK32 _ _ ((show VS V _ from hS11).keep hd) (fun hS32 => ?_)
              clear hl hd hS11 hK32 K32
              refine held_one (i := 17) (oi := ?ot91) (by kernel_rfl) ?at91 ?ct91 (fun K17 hK17 => ?_)
              (case at91 => (simp only [List.getElem?_toArray, List.getElem?_cons_zero, List.getElem?_cons_succ]; rfl))
              (case ct91 => kernel_rfl)
              go_simp
              refine (pb64 [] [n5, n6] HN.out.2.1 none _ 0 _ _ (Lies.nil _ _ _ _) F16.out (by simp) (by simp)).mono ?_
              rintro e y17 ⟨v17, rfl, hv, hd⟩
              obtain ⟨A17, c17, rfl, -, hl⟩ := (own_of hv).lies
              replace F16 := Lib.hid (lies_on2 F16.out hd)
              replace F10 := Lib.hid (lies_on2 F10.out hd)
              replace F11 := Lib.hid (lies_on2 F11.out hd)
              replace F32 := Lib.hid (lies_on2 F32.out hd)
              have F17 := Lib.hid hl
              refine hK17 _ _ ((show VS V _ from hS32).keep hd) (fun hS17 => ?_)
              clear hv hd hl hS32 hK17 K17
              refine held_one (i := 33) (oi := ?ot92) (by kernel_rfl) ?at92 ?ct92 (fun K33 hK33 => ?_)
              (case at92 => (simp only [List.getElem?_toArray, List.getElem?_cons_zero, List.getElem?_cons_succ]; rfl))
              (case ct92 => kernel_rfl)
              go_simp
              refine (shorts_any [m0, m1, m2, m3] HN.out.2.2 _ _ _ (by simp) F32.out).mono ?_
              rintro e y33 ⟨v33, rfl, hv, hd⟩
              obtain ⟨A33, c33, rfl, -, hl⟩ := (own_of hv).lies
              replace F16 := Lib.hid (lies_on2 F16.out hd)
              replace F10 := Lib.hid (lies_on2 F10.out hd)
              replace F11 := Lib.hid (lies_on2 F11.out hd)
              replace F32 := Lib.hid (lies_on2 F32.out hd)
              replace F17 := Lib.hid (lies_on2 F17.out hd)
              have F33 := Lib.hid hl
              refine hK33 _ _ ((show VS V _ from hS17).keep hd) (fun hS33 => ?_)
              clear hv hd hl hS17 hK33 K33
              clear F10 F16 F32
              revert hS33
              revert F33
              revert F17
              revert F11
              revert c33
              revert A33
              revert c17
              revert A17
              revert c11
              revert A11
              revert p32
              revert p16
              revert p10
              revert y33
              exact tail 0
          case hjt97 =>
            refine ow_i64_4 _ _ _ _ rfl m0 m1 m2 m3 rfl rfl rfl rfl ?_
            intro y32 p32 hl hd
            replace F16 := Lib.hid (lies_on2 F16.out hd)
            replace F10 := Lib.hid (lies_on2 F10.out hd)
            have F32 := Lib.hid hl
            refine hK32 _ _ ((show VS V _ from hS10).keep hd) (fun hS32 => ?_)
            clear hl hd hS10 hK32 K32
            refine held_one (i := 11) (oi := ?ot94) (by kernel_rfl) ?at94 ?ct94 (fun K11 hK11 => ?_)
            (case at94 => (simp only [List.getElem?_toArray, List.getElem?_cons_zero, List.getElem?_cons_succ]; rfl))
            (case ct94 => kernel_rfl)
            go_simp
            refine (pb32 [] [fl, n2, n3, n4] HN.out.1 none _ 0 _ _ (Lies.nil _ _ _ _) F10.out (by simp) (by simp)).mono ?_
            rintro e y11 ⟨v11, rfl, hv, hd⟩
            obtain ⟨A11, c11, rfl, -, hl⟩ := (own_of hv).lies
            replace F16 := Lib.hid (lies_on2 F16.out hd)
            replace F10 := Lib.hid (lies_on2 F10.out hd)
            replace F32 := Lib.hid (lies_on2 F32.out hd)
            have F11 := Lib.hid hl
            refine hK11 _ _ ((show VS V _ from hS32).keep hd) (fun hS11 => ?_)
            clear hv hd hl hS32 hK11 K11
            refine held_one (i := 17) (oi := ?ot95) (by kernel_rfl) ?at95 ?ct95 (fun K17 hK17 => ?_)
            (case at95 => (simp only [List.getElem?_toArray, List.getElem?_cons_zero, List.getElem?_cons_succ]; rfl))
            (case ct95 => kernel_rfl)
            go_simp
            refine (pb64 [] [n5, n6] HN.out.2.1 none _ 0 _ _ (Lies.nil _ _ _ _) F16.out (by simp) (by simp)).mono ?_
            rintro e y17 ⟨v17, rfl, hv, hd⟩
            obtain ⟨A17, c17, rfl, -, hl⟩ := (own_of hv).lies
            replace F16 := Lib.hid (lies_on2 F16.out hd)
            replace F10 := Lib.hid (lies_on2 F10.out hd)
            replace F32 := Lib.hid (lies_on2 F32.out hd)
            replace F11 := Lib.hid (lies_on2 F11.out hd)
            have F17 := Lib.hid hl
            refine hK17 _ _ ((show VS V _ from hS11).keep hd) (fun hS17 => ?_)
            clear hv hd hl hS11 hK17 K17
            refine held_one (i := 33) (oi := ?ot96) (by kernel_rfl) ?at96 ?ct96 (fun K33 hK33 => ?_)
            (case at96 => (simp only [List.getElem?_toArray, List.getElem?_cons_zero, List.getElem?_cons_succ]; rfl))
            (case ct96 => kernel_rfl)
            go_simp
            refine (shorts_any [m0, m1, m2, m3] HN.out.2.2 _ _ _ (by simp) F32.out).mono ?_
            rintro e y33 ⟨v33, rfl, hv, hd⟩
            obtain ⟨A33, c33, rfl, -, hl⟩ := (own_of hv).lies
            replace F16 := Lib.hid (lies_on2 F16.out hd)
            replace F10 := Lib.hid (lies_on2 F10.out hd)
            replace F32 := Lib.hid (lies_on2 F32.out hd)
            replace F11 := Lib.hid (lies_on2 F11.out hd)
            replace F17 := Lib.hid (lies_on2 F17.out hd)
            have F33 := Lib.hid hl
            refine hK33 _ _ ((show VS V _ from hS17).keep hd) (fun hS33 => ?_)
            clear hv hd hl hS17 hK33 K33
            clear F10 F16 F32
            revert hS33
            revert F33
            revert F17
            revert F11
            revert c33
            revert A33
            revert c17
            revert A17
            revert c11
            revert A11
            revert p32
            revert p16
            revert p10
            revert y33
            exact tail 0
        case hjt102 =>
          refine ow_i64_4 _ _ _ _ rfl m0 m1 m2 m3 rfl rfl rfl rfl ?_
          intro y32 p32 hl hd
          replace F16 := Lib.hid (lies_on2 F16.out hd)
          have F32 := Lib.hid hl
          refine hK32 _ _ ((show VS V _ from hS3).keep hd) (fun hS32 => ?_)
          clear hl hd hS3 hK32 K32
          refine held_one (i := 10) (oi := ?ot98) (by kernel_rfl) ?at98 ?ct98 (fun K10 hK10 => ?_)
          (case at98 => (simp only [List.getElem?_toArray, List.getElem?_cons_zero, List.getElem?_cons_succ]; rfl))
          (case ct98 => kernel_rfl)
          refine ow_u32_4 _ _ _ _ rfl fl n2 n3 n4 rfl rfl rfl rfl ?_
          intro y10 p10 hl hd
          replace F16 := Lib.hid (lies_on2 F16.out hd)
          replace F32 := Lib.hid (lies_on2 F32.out hd)
          have F10 := Lib.hid hl
          refine hK10 _ _ ((show VS V _ from hS32).keep hd) (fun hS10 => ?_)
          clear hl hd hS32 hK10 K10
          refine held_one (i := 11) (oi := ?ot99) (by kernel_rfl) ?at99 ?ct99 (fun K11 hK11 => ?_)
          (case at99 => (simp only [List.getElem?_toArray, List.getElem?_cons_zero, List.getElem?_cons_succ]; rfl))
          (case ct99 => kernel_rfl)
          go_simp
          refine (pb32 [] [fl, n2, n3, n4] HN.out.1 none _ 0 _ _ (Lies.nil _ _ _ _) F10.out (by simp) (by simp)).mono ?_
          rintro e y11 ⟨v11, rfl, hv, hd⟩
          obtain ⟨A11, c11, rfl, -, hl⟩ := (own_of hv).lies
          replace F16 := Lib.hid (lies_on2 F16.out hd)
          replace F32 := Lib.hid (lies_on2 F32.out hd)
          replace F10 := Lib.hid (lies_on2 F10.out hd)
          have F11 := Lib.hid hl
          refine hK11 _ _ ((show VS V _ from hS10).keep hd) (fun hS11 => ?_)
          clear hv hd hl hS10 hK11 K11
          refine held_one (i := 17) (oi := ?ot100) (by kernel_rfl) ?at100 ?ct100 (fun K17 hK17 => ?_)
          (case at100 => (simp only [List.getElem?_toArray, List.getElem?_cons_zero, List.getElem?_cons_succ]; rfl))
          (case ct100 => kernel_rfl)
          go_simp
          refine (pb64 [] [n5, n6] HN.out.2.1 none _ 0 _ _ (Lies.nil _ _ _ _) F16.out (by simp) (by simp)).mono ?_
          rintro e y17 ⟨v17, rfl, hv, hd⟩
          obtain ⟨A17, c17, rfl, -, hl⟩ := (own_of hv).lies
          replace F16 := Lib.hid (lies_on2 F16.out hd)
          replace F32 := Lib.hid (lies_on2 F32.out hd)
          replace F10 := Lib.hid (lies_on2 F10.out hd)
          replace F11 := Lib.hid (lies_on2 F11.out hd)
          have F17 := Lib.hid hl
          refine hK17 _ _ ((show VS V _ from hS11).keep hd) (fun hS17 => ?_)
          clear hv hd hl hS11 hK17 K17
          refine held_one (i := 33) (oi := ?ot101) (by kernel_rfl) ?at101 ?ct101 (fun K33 hK33 => ?_)
          (case at101 => (simp only [List.getElem?_toArray, List.getElem?_cons_zero, List.getElem?_cons_succ]; rfl))
          (case ct101 => kernel_rfl)
          go_simp
          refine (shorts_any [m0, m1, m2, m3] HN.out.2.2 _ _ _ (by simp) F32.out).mono ?_
          rintro e y33 ⟨v33, rfl, hv, hd⟩
          obtain ⟨A33, c33, rfl, -, hl⟩ := (own_of hv).lies
          replace F16 := Lib.hid (lies_on2 F16.out hd)
          replace F32 := Lib.hid (lies_on2 F32.out hd)
          replace F10 := Lib.hid (lies_on2 F10.out hd)
          replace F11 := Lib.hid (lies_on2 F11.out hd)
          replace F17 := Lib.hid (lies_on2 F17.out hd)
          have F33 := Lib.hid hl
          refine hK33 _ _ ((show VS V _ from hS17).keep hd) (fun hS33 => ?_)
          clear hv hd hl hS17 hK33 K33
          clear F10 F16 F32
          revert hS33
          revert F33
          revert F17
          revert F11
          revert c33
          revert A33
          revert c17
          revert A17
          revert c11
          revert A11
          revert p32
          revert p16
          revert p10
          revert y33
          exact tail 0
      case hjt108 =>
        refine ow_i64_4 _ _ _ _ rfl m0 m1 m2 m3 rfl rfl rfl rfl ?_
        intro y32 p32 hl hd
        replace F16 := Lib.hid (lies_on2 F16.out hd)
        have F32 := Lib.hid hl
        refine hK32 _ _ ((show VS V _ from hS16).keep hd) (fun hS32 => ?_)
        clear hl hd hS16 hK32 K32
        refine held_one (i := 3) (oi := ?ot103) (by kernel_rfl) ?at103 ?ct103 (fun K3 hK3 => ?_)
        (case at103 => (simp only [List.getElem?_toArray, List.getElem?_cons_zero, List.getElem?_cons_succ]; rfl))
        (case ct103 => kernel_rfl)
        go_simp
        refine (HFL.out _).mono ?_
        rintro e y3 ⟨rfl, rfl⟩
        refine hK3 _ _ hS32 (fun hS3 => ?_)
        clear hS32 hK3 K3
        refine held_one (i := 10) (oi := ?ot104) (by kernel_rfl) ?at104 ?ct104 (fun K10 hK10 => ?_)
        (case at104 => (simp only [List.getElem?_toArray, List.getElem?_cons_zero, List.getElem?_cons_succ]; rfl))
        (case ct104 => kernel_rfl)
        refine ow_u32_4 _ _ _ _ rfl fl n2 n3 n4 rfl rfl rfl rfl ?_
        intro y10 p10 hl hd
        replace F16 := Lib.hid (lies_on2 F16.out hd)
        replace F32 := Lib.hid (lies_on2 F32.out hd)
        have F10 := Lib.hid hl
        refine hK10 _ _ ((show VS V _ from hS3).keep hd) (fun hS10 => ?_)
        clear hl hd hS3 hK10 K10
        refine held_one (i := 11) (oi := ?ot105) (by kernel_rfl) ?at105 ?ct105 (fun K11 hK11 => ?_)
        (case at105 => (simp only [List.getElem?_toArray, List.getElem?_cons_zero, List.getElem?_cons_succ]; rfl))
        (case ct105 => kernel_rfl)
        go_simp
        refine (pb32 [] [fl, n2, n3, n4] HN.out.1 none _ 0 _ _ (Lies.nil _ _ _ _) F10.out (by simp) (by simp)).mono ?_
        rintro e y11 ⟨v11, rfl, hv, hd⟩
        obtain ⟨A11, c11, rfl, -, hl⟩ := (own_of hv).lies
        replace F16 := Lib.hid (lies_on2 F16.out hd)
        replace F32 := Lib.hid (lies_on2 F32.out hd)
        replace F10 := Lib.hid (lies_on2 F10.out hd)
        have F11 := Lib.hid hl
        refine hK11 _ _ ((show VS V _ from hS10).keep hd) (fun hS11 => ?_)
        clear hv hd hl hS10 hK11 K11
        refine held_one (i := 17) (oi := ?ot106) (by kernel_rfl) ?at106 ?ct106 (fun K17 hK17 => ?_)
        (case at106 => (simp only [List.getElem?_toArray, List.getElem?_cons_zero, List.getElem?_cons_succ]; rfl))
        (case ct106 => kernel_rfl)
        go_simp
        refine (pb64 [] [n5, n6] HN.out.2.1 none _ 0 _ _ (Lies.nil _ _ _ _) F16.out (by simp) (by simp)).mono ?_
        rintro e y17 ⟨v17, rfl, hv, hd⟩
        obtain ⟨A17, c17, rfl, -, hl⟩ := (own_of hv).lies
        replace F16 := Lib.hid (lies_on2 F16.out hd)
        replace F32 := Lib.hid (lies_on2 F32.out hd)
        replace F10 := Lib.hid (lies_on2 F10.out hd)
        replace F11 := Lib.hid (lies_on2 F11.out hd)
        have F17 := Lib.hid hl
        refine hK17 _ _ ((show VS V _ from hS11).keep hd) (fun hS17 => ?_)
        clear hv hd hl hS11 hK17 K17
        refine held_one (i := 33) (oi := ?ot107) (by kernel_rfl) ?at107 ?ct107 (fun K33 hK33 => ?_)
        (case at107 => (simp only [List.getElem?_toArray, List.getElem?_cons_zero, List.getElem?_cons_succ]; rfl))
        (case ct107 => kernel_rfl)
        go_simp
        refine (shorts_any [m0, m1, m2, m3] HN.out.2.2 _ _ _ (by simp) F32.out).mono ?_
        rintro e y33 ⟨v33, rfl, hv, hd⟩
        obtain ⟨A33, c33, rfl, -, hl⟩ := (own_of hv).lies
        replace F16 := Lib.hid (lies_on2 F16.out hd)
        replace F32 := Lib.hid (lies_on2 F32.out hd)
        replace F10 := Lib.hid (lies_on2 F10.out hd)
        replace F11 := Lib.hid (lies_on2 F11.out hd)
        replace F17 := Lib.hid (lies_on2 F17.out hd)
        have F33 := Lib.hid hl
        refine hK33 _ _ ((show VS V _ from hS17).keep hd) (fun hS33 => ?_)
        clear hv hd hl hS17 hK33 K33
        clear F10 F16 F32
        revert hS33
        revert F33
        revert F17
        revert F11
        revert c33
        revert A33
        revert c17
        revert A17
        revert c11
        revert A11
        revert p32
        revert p16
        revert p10
        revert y33
        exact tail 0
    case hkt127 =>
      refine ow_i64_4 _ _ _ _ rfl m0 m1 m2 m3 rfl rfl rfl rfl ?_
      intro y32 p32 hl hd
      have F32 := Lib.hid hl
      refine hK32 _ _ ((show VS V _ from hS).keep hd) (fun hS32 => ?_)
      clear hl hd hS hK32 K32
      refine held_two (i := 3) (j := 16) (oi := ?oit126) (oj := ?ojt126) (by kernel_rfl) ?ait126 ?ajt126 ?cit126 ?cjt126 (fun K3 hK3 => ?hit126) (fun K16 hK16 => ?hjt126)
      (case ait126 => (simp only [List.getElem?_toArray, List.getElem?_cons_zero, List.getElem?_cons_succ]; rfl))
      (case ajt126 => (simp only [List.getElem?_toArray, List.getElem?_cons_zero, List.getElem?_cons_succ]; rfl))
      (case cit126 => kernel_rfl)
      (case cjt126 => kernel_rfl)
      case hit126 =>
        go_simp
        refine (HFL.out _).mono ?_
        rintro e y3 ⟨rfl, rfl⟩
        refine hK3 _ _ hS32 (fun hS3 => ?_)
        clear hS32 hK3 K3
        refine held_two (i := 10) (j := 16) (oi := ?oit120) (oj := ?ojt120) (by kernel_rfl) ?ait120 ?ajt120 ?cit120 ?cjt120 (fun K10 hK10 => ?hit120) (fun K16 hK16 => ?hjt120)
        (case ait120 => (simp only [List.getElem?_toArray, List.getElem?_cons_zero, List.getElem?_cons_succ]; rfl))
        (case ajt120 => (simp only [List.getElem?_toArray, List.getElem?_cons_zero, List.getElem?_cons_succ]; rfl))
        (case cit120 => kernel_rfl)
        (case cjt120 => kernel_rfl)
        case hit120 =>
          refine ow_u32_4 _ _ _ _ rfl fl n2 n3 n4 rfl rfl rfl rfl ?_
          intro y10 p10 hl hd
          replace F32 := Lib.hid (lies_on2 F32.out hd)
          have F10 := Lib.hid hl
          refine hK10 _ _ ((show VS V _ from hS3).keep hd) (fun hS10 => ?_)
          clear hl hd hS3 hK10 K10
          refine held_two (i := 11) (j := 16) (oi := ?oit115) (oj := ?ojt115) (by kernel_rfl) ?ait115 ?ajt115 ?cit115 ?cjt115 (fun K11 hK11 => ?hit115) (fun K16 hK16 => ?hjt115)
          (case ait115 => (simp only [List.getElem?_toArray, List.getElem?_cons_zero, List.getElem?_cons_succ]; rfl))
          (case ajt115 => (simp only [List.getElem?_toArray, List.getElem?_cons_zero, List.getElem?_cons_succ]; rfl))
          (case cit115 => kernel_rfl)
          (case cjt115 => kernel_rfl)
          case hit115 =>
            go_simp
            refine (pb32 [] [fl, n2, n3, n4] HN.out.1 none _ 0 _ _ (Lies.nil _ _ _ _) F10.out (by simp) (by simp)).mono ?_
            rintro e y11 ⟨v11, rfl, hv, hd⟩
            obtain ⟨A11, c11, rfl, -, hl⟩ := (own_of hv).lies
            replace F32 := Lib.hid (lies_on2 F32.out hd)
            replace F10 := Lib.hid (lies_on2 F10.out hd)
            have F11 := Lib.hid hl
            refine hK11 _ _ ((show VS V _ from hS10).keep hd) (fun hS11 => ?_)
            clear hv hd hl hS10 hK11 K11
            refine held_one (i := 16) (oi := ?ot109) (by kernel_rfl) ?at109 ?ct109 (fun K16 hK16 => ?_)
            (case at109 => (simp only [List.getElem?_toArray, List.getElem?_cons_zero, List.getElem?_cons_succ]; rfl))
            (case ct109 => kernel_rfl)
            refine ow_u64_2 _ _ rfl n5 n6 rfl rfl ?_
            intro y16 p16 hl hd
            replace F32 := Lib.hid (lies_on2 F32.out hd)
            replace F10 := Lib.hid (lies_on2 F10.out hd)
            replace F11 := Lib.hid (lies_on2 F11.out hd)
            have F16 := Lib.hid hl
            refine hK16 _ _ ((show VS V _ from hS11).keep hd) (fun hS16 => ?_)
            clear hl hd hS11 hK16 K16
            refine held_one (i := 17) (oi := ?ot110) (by kernel_rfl) ?at110 ?ct110 (fun K17 hK17 => ?_)
            (case at110 => (simp only [List.getElem?_toArray, List.getElem?_cons_zero, List.getElem?_cons_succ]; rfl))
            (case ct110 => kernel_rfl)
            go_simp
            refine (pb64 [] [n5, n6] HN.out.2.1 none _ 0 _ _ (Lies.nil _ _ _ _) F16.out (by simp) (by simp)).mono ?_
            rintro e y17 ⟨v17, rfl, hv, hd⟩
            obtain ⟨A17, c17, rfl, -, hl⟩ := (own_of hv).lies
            replace F32 := Lib.hid (lies_on2 F32.out hd)
            replace F10 := Lib.hid (lies_on2 F10.out hd)
            replace F11 := Lib.hid (lies_on2 F11.out hd)
            replace F16 := Lib.hid (lies_on2 F16.out hd)
            have F17 := Lib.hid hl
            refine hK17 _ _ ((show VS V _ from hS16).keep hd) (fun hS17 => ?_)
            clear hv hd hl hS16 hK17 K17
            refine held_one (i := 33) (oi := ?ot111) (by kernel_rfl) ?at111 ?ct111 (fun K33 hK33 => ?_)
            (case at111 => (simp only [List.getElem?_toArray, List.getElem?_cons_zero, List.getElem?_cons_succ]; rfl))
            (case ct111 => kernel_rfl)
            go_simp
            refine (shorts_any [m0, m1, m2, m3] HN.out.2.2 _ _ _ (by simp) F32.out).mono ?_
            rintro e y33 ⟨v33, rfl, hv, hd⟩
            obtain ⟨A33, c33, rfl, -, hl⟩ := (own_of hv).lies
            replace F32 := Lib.hid (lies_on2 F32.out hd)
            replace F10 := Lib.hid (lies_on2 F10.out hd)
            replace F11 := Lib.hid (lies_on2 F11.out hd)
            replace F16 := Lib.hid (lies_on2 F16.out hd)
            replace F17 := Lib.hid (lies_on2 F17.out hd)
            have F33 := Lib.hid hl
            refine hK33 _ _ ((show VS V _ from hS17).keep hd) (fun hS33 => ?_)
            clear hv hd hl hS17 hK33 K33
            clear F10 F16 F32
            revert hS33
            revert F33
            revert F17
            revert F11
            revert c33
            revert A33
            revert c17
            revert A17
            revert c11
            revert A11
            revert p32
            revert p16
            revert p10
            revert y33
            exact tail 0
          case hjt115 =>
            refine ow_u64_2 _ _ rfl n5 n6 rfl rfl ?_
            intro y16 p16 hl hd
            replace F32 := Lib.hid (lies_on2 F32.out hd)
            replace F10 := Lib.hid (lies_on2 F10.out hd)
            have F16 := Lib.hid hl
            refine hK16 _ _ ((show VS V _ from hS10).keep hd) (fun hS16 => ?_)
            clear hl hd hS10 hK16 K16
            refine held_one (i := 11) (oi := ?ot112) (by kernel_rfl) ?at112 ?ct112 (fun K11 hK11 => ?_)
            (case at112 => (simp only [List.getElem?_toArray, List.getElem?_cons_zero, List.getElem?_cons_succ]; rfl))
            (case ct112 => kernel_rfl)
            go_simp
            refine (pb32 [] [fl, n2, n3, n4] HN.out.1 none _ 0 _ _ (Lies.nil _ _ _ _) F10.out (by simp) (by simp)).mono ?_
            rintro e y11 ⟨v11, rfl, hv, hd⟩
            obtain ⟨A11, c11, rfl, -, hl⟩ := (own_of hv).lies
            replace F32 := Lib.hid (lies_on2 F32.out hd)
            replace F10 := Lib.hid (lies_on2 F10.out hd)
            replace F16 := Lib.hid (lies_on2 F16.out hd)
            have F11 := Lib.hid hl
            refine hK11 _ _ ((show VS V _ from hS16).keep hd) (fun hS11 => ?_)
            clear hv hd hl hS16 hK11 K11
            refine held_one (i := 17) (oi := ?ot113) (by kernel_rfl) ?at113 ?ct113 (fun K17 hK17 => ?_)
            (case at113 => (simp only [List.getElem?_toArray, List.getElem?_cons_zero, List.getElem?_cons_succ]; rfl))
            (case ct113 => kernel_rfl)
            go_simp
            refine (pb64 [] [n5, n6] HN.out.2.1 none _ 0 _ _ (Lies.nil _ _ _ _) F16.out (by simp) (by simp)).mono ?_
            rintro e y17 ⟨v17, rfl, hv, hd⟩
            obtain ⟨A17, c17, rfl, -, hl⟩ := (own_of hv).lies
            replace F32 := Lib.hid (lies_on2 F32.out hd)
            replace F10 := Lib.hid (lies_on2 F10.out hd)
            replace F16 := Lib.hid (lies_on2 F16.out hd)
            replace F11 := Lib.hid (lies_on2 F11.out hd)
            have F17 := Lib.hid hl
            refine hK17 _ _ ((show VS V _ from hS11).keep hd) (fun hS17 => ?_)
            clear hv hd hl hS11 hK17 K17
            refine held_one (i := 33) (oi := ?ot114) (by kernel_rfl) ?at114 ?ct114 (fun K33 hK33 => ?_)
            (case at114 => (simp only [List.getElem?_toArray, List.getElem?_cons_zero, List.getElem?_cons_succ]; rfl))
            (case ct114 => kernel_rfl)
            go_simp
            refine (shorts_any [m0, m1, m2, m3] HN.out.2.2 _ _ _ (by simp) F32.out).mono ?_
            rintro e y33 ⟨v33, rfl, hv, hd⟩
            obtain ⟨A33, c33, rfl, -, hl⟩ := (own_of hv).lies
            replace F32 := Lib.hid (lies_on2 F32.out hd)
            replace F10 := Lib.hid (lies_on2 F10.out hd)
            replace F16 := Lib.hid (lies_on2 F16.out hd)
            replace F11 := Lib.hid (lies_on2 F11.out hd)
            replace F17 := Lib.hid (lies_on2 F17.out hd)
            have F33 := Lib.hid hl
            refine hK33 _ _ ((show VS V _ from hS17).keep hd) (fun hS33 => ?_)
            clear hv hd hl hS17 hK33 K33
            clear F10 F16 F32
            revert hS33
            revert F33
            revert F17
            revert F11
            revert c33
            revert A33
            revert c17
            revert A17
            revert c11
            revert A11
            revert p32
            revert p16
            revert p10
            revert y33
            exact tail 0
        case hjt120 =>
          refine ow_u64_2 _ _ rfl n5 n6 rfl rfl ?_
          intro y16 p16 hl hd
          replace F32 := Lib.hid (lies_on2 F32.out hd)
          have F16 := Lib.hid hl
          refine hK16 _ _ ((show VS V _ from hS3).keep hd) (fun hS16 => ?_)
          clear hl hd hS3 hK16 K16
          refine held_one (i := 10) (oi := ?ot116) (by kernel_rfl) ?at116 ?ct116 (fun K10 hK10 => ?_)
          (case at116 => (simp only [List.getElem?_toArray, List.getElem?_cons_zero, List.getElem?_cons_succ]; rfl))
          (case ct116 => kernel_rfl)
          refine ow_u32_4 _ _ _ _ rfl fl n2 n3 n4 rfl rfl rfl rfl ?_
          intro y10 p10 hl hd
          replace F32 := Lib.hid (lies_on2 F32.out hd)
          replace F16 := Lib.hid (lies_on2 F16.out hd)
          have F10 := Lib.hid hl
          refine hK10 _ _ ((show VS V _ from hS16).keep hd) (fun hS10 => ?_)
          clear hl hd hS16 hK10 K10
          refine held_one (i := 11) (oi := ?ot117) (by kernel_rfl) ?at117 ?ct117 (fun K11 hK11 => ?_)
          (case at117 => (simp only [List.getElem?_toArray, List.getElem?_cons_zero, List.getElem?_cons_succ]; rfl))
          (case ct117 => kernel_rfl)
          go_simp
          refine (pb32 [] [fl, n2, n3, n4] HN.out.1 none _ 0 _ _ (Lies.nil _ _ _ _) F10.out (by simp) (by simp)).mono ?_
          rintro e y11 ⟨v11, rfl, hv, hd⟩
          obtain ⟨A11, c11, rfl, -, hl⟩ := (own_of hv).lies
          replace F32 := Lib.hid (lies_on2 F32.out hd)
          replace F16 := Lib.hid (lies_on2 F16.out hd)
          replace F10 := Lib.hid (lies_on2 F10.out hd)
          have F11 := Lib.hid hl
          refine hK11 _ _ ((show VS V _ from hS10).keep hd) (fun hS11 => ?_)
          clear hv hd hl hS10 hK11 K11
          refine held_one (i := 17) (oi := ?ot118) (by kernel_rfl) ?at118 ?ct118 (fun K17 hK17 => ?_)
          (case at118 => (simp only [List.getElem?_toArray, List.getElem?_cons_zero, List.getElem?_cons_succ]; rfl))
          (case ct118 => kernel_rfl)
          go_simp
          refine (pb64 [] [n5, n6] HN.out.2.1 none _ 0 _ _ (Lies.nil _ _ _ _) F16.out (by simp) (by simp)).mono ?_
          rintro e y17 ⟨v17, rfl, hv, hd⟩
          obtain ⟨A17, c17, rfl, -, hl⟩ := (own_of hv).lies
          replace F32 := Lib.hid (lies_on2 F32.out hd)
          replace F16 := Lib.hid (lies_on2 F16.out hd)
          replace F10 := Lib.hid (lies_on2 F10.out hd)
          replace F11 := Lib.hid (lies_on2 F11.out hd)
          have F17 := Lib.hid hl
          refine hK17 _ _ ((show VS V _ from hS11).keep hd) (fun hS17 => ?_)
          clear hv hd hl hS11 hK17 K17
          refine held_one (i := 33) (oi := ?ot119) (by kernel_rfl) ?at119 ?ct119 (fun K33 hK33 => ?_)
          (case at119 => (simp only [List.getElem?_toArray, List.getElem?_cons_zero, List.getElem?_cons_succ]; rfl))
          (case ct119 => kernel_rfl)
          go_simp
          refine (shorts_any [m0, m1, m2, m3] HN.out.2.2 _ _ _ (by simp) F32.out).mono ?_
          rintro e y33 ⟨v33, rfl, hv, hd⟩
          obtain ⟨A33, c33, rfl, -, hl⟩ := (own_of hv).lies
          replace F32 := Lib.hid (lies_on2 F32.out hd)
          replace F16 := Lib.hid (lies_on2 F16.out hd)
          replace F10 := Lib.hid (lies_on2 F10.out hd)
          replace F11 := Lib.hid (lies_on2 F11.out hd)
          replace F17 := Lib.hid (lies_on2 F17.out hd)
          have F33 := Lib.hid hl
          refine hK33 _ _ ((show VS V _ from hS17).keep hd) (fun hS33 => ?_)
          clear hv hd hl hS17 hK33 K33
          clear F10 F16 F32
          revert hS33
          revert F33
          revert F17
          revert F11
          revert c33
          revert A33
          revert c17
          revert A17
          revert c11
          revert A11
          revert p32
          revert p16
          revert p10
          revert y33
          exact tail 0
      case hjt126 =>
        refine ow_u64_2 _ _ rfl n5 n6 rfl rfl ?_
        intro y16 p16 hl hd
        replace F32 := Lib.hid (lies_on2 F32.out hd)
        have F16 := Lib.hid hl
        refine hK16 _ _ ((show VS V _ from hS32).keep hd) (fun hS16 => ?_)
        clear hl hd hS32 hK16 K16
        refine held_one (i := 3) (oi := ?ot121) (by kernel_rfl) ?at121 ?ct121 (fun K3 hK3 => ?_)
        (case at121 => (simp only [List.getElem?_toArray, List.getElem?_cons_zero, List.getElem?_cons_succ]; rfl))
        (case ct121 => kernel_rfl)
        go_simp
        refine (HFL.out _).mono ?_
        rintro e y3 ⟨rfl, rfl⟩
        refine hK3 _ _ hS16 (fun hS3 => ?_)
        clear hS16 hK3 K3
        refine held_one (i := 10) (oi := ?ot122) (by kernel_rfl) ?at122 ?ct122 (fun K10 hK10 => ?_)
        (case at122 => (simp only [List.getElem?_toArray, List.getElem?_cons_zero, List.getElem?_cons_succ]; rfl))
        (case ct122 => kernel_rfl)
        refine ow_u32_4 _ _ _ _ rfl fl n2 n3 n4 rfl rfl rfl rfl ?_
        intro y10 p10 hl hd
        replace F32 := Lib.hid (lies_on2 F32.out hd)
        replace F16 := Lib.hid (lies_on2 F16.out hd)
        have F10 := Lib.hid hl
        refine hK10 _ _ ((show VS V _ from hS3).keep hd) (fun hS10 => ?_)
        clear hl hd hS3 hK10 K10
        refine held_one (i := 11) (oi := ?ot123) (by kernel_rfl) ?at123 ?ct123 (fun K11 hK11 => ?_)
        (case at123 => (simp only [List.getElem?_toArray, List.getElem?_cons_zero, List.getElem?_cons_succ]; rfl))
        (case ct123 => kernel_rfl)
        go_simp
        refine (pb32 [] [fl, n2, n3, n4] HN.out.1 none _ 0 _ _ (Lies.nil _ _ _ _) F10.out (by simp) (by simp)).mono ?_
        rintro e y11 ⟨v11, rfl, hv, hd⟩
        obtain ⟨A11, c11, rfl, -, hl⟩ := (own_of hv).lies
        replace F32 := Lib.hid (lies_on2 F32.out hd)
        replace F16 := Lib.hid (lies_on2 F16.out hd)
        replace F10 := Lib.hid (lies_on2 F10.out hd)
        have F11 := Lib.hid hl
        refine hK11 _ _ ((show VS V _ from hS10).keep hd) (fun hS11 => ?_)
        clear hv hd hl hS10 hK11 K11
        refine held_one (i := 17) (oi := ?ot124) (by kernel_rfl) ?at124 ?ct124 (fun K17 hK17 => ?_)
        (case at124 => (simp only [List.getElem?_toArray, List.getElem?_cons_zero, List.getElem?_cons_succ]; rfl))
        (case ct124 => kernel_rfl)
        go_simp
        refine (pb64 [] [n5, n6] HN.out.2.1 none _ 0 _ _ (Lies.nil _ _ _ _) F16.out (by simp) (by simp)).mono ?_
        rintro e y17 ⟨v17, rfl, hv, hd⟩
        obtain ⟨A17, c17, rfl, -, hl⟩ := (own_of hv).lies
        replace F32 := Lib.hid (lies_on2 F32.out hd)
        replace F16 := Lib.hid (lies_on2 F16.out hd)
        replace F10 := Lib.hid (lies_on2 F10.out hd)
        replace F11 := Lib.hid (lies_on2 F11.out hd)
        have F17 := Lib.hid hl
        refine hK17 _ _ ((show VS V _ from hS11).keep hd) (fun hS17 => ?_)
        clear hv hd hl hS11 hK17 K17
        refine held_one (i := 33) (oi := ?ot125) (by kernel_rfl) ?at125 ?ct125 (fun K33 hK33 => ?_)
        (case at125 => (simp only [List.getElem?_toArray, List.getElem?_cons_zero, List.getElem?_cons_succ]; rfl))
        (case ct125 => kernel_rfl)
        go_simp
        refine (shorts_any [m0, m1, m2, m3] HN.out.2.2 _ _ _ (by simp) F32.out).mono ?_
        rintro e y33 ⟨v33, rfl, hv, hd⟩
        obtain ⟨A33, c33, rfl, -, hl⟩ := (own_of hv).lies
        replace F32 := Lib.hid (lies_on2 F32.out hd)
        replace F16 := Lib.hid (lies_on2 F16.out hd)
        replace F10 := Lib.hid (lies_on2 F10.out hd)
        replace F11 := Lib.hid (lies_on2 F11.out hd)
        replace F17 := Lib.hid (lies_on2 F17.out hd)
        have F33 := Lib.hid hl
        refine hK33 _ _ ((show VS V _ from hS17).keep hd) (fun hS33 => ?_)
        clear hv hd hl hS17 hK33 K33
        clear F10 F16 F32
        revert hS33
        revert F33
        revert F17
        revert F11
        revert c33
        revert A33
        revert c17
        revert A17
        revert c11
        revert A11
        revert p32
        revert p16
        revert p10
        revert y33
        exact tail 0
  case t =>
    intro y33 p10 p16 p32 A11 c11 A17 c17 A33 c33 F11 F17 F33 hS33
    refine held_one (i := 36) (oi := ?ot128) (by kernel_rfl) ?at128 ?ct128 (fun K36 hK36 => ?_)
    (case at128 => (simp only [List.getElem?_toArray, List.getElem?_cons_zero, List.getElem?_cons_succ]; rfl))
    (case ct128 => kernel_rfl)
    go_simp
    refine (HW0.out _ (show VS V _ from hS33)).mono ?_
    rintro e y36 ⟨v36, rfl, hv, hd⟩
    obtain ⟨A36, c36, rfl, -, hl⟩ := (own_of hv).lies
    replace F11 := Lib.hid (lies_on2 F11.out hd)
    replace F17 := Lib.hid (lies_on2 F17.out hd)
    replace F33 := Lib.hid (lies_on2 F33.out hd)
    have F36 := Lib.hid hl
    refine hK36 _ _ ((show VS V _ from hS33).keep hd) (fun hS36 => ?_)
    clear hv hd hl hS33 hK36 K36
    refine held_one (i := 39) (oi := ?ot129) (by kernel_rfl) ?at129 ?ct129 (fun K39 hK39 => ?_)
    (case at129 => (simp only [List.getElem?_toArray, List.getElem?_cons_zero, List.getElem?_cons_succ]; rfl))
    (case ct129 => kernel_rfl)
    go_simp
    refine (HW1.out _ (show VS V _ from hS36)).mono ?_
    rintro e y39 ⟨v39, rfl, hv, hd⟩
    obtain ⟨A39, c39, rfl, -, hl⟩ := (own_of hv).lies
    replace F11 := Lib.hid (lies_on2 F11.out hd)
    replace F17 := Lib.hid (lies_on2 F17.out hd)
    replace F33 := Lib.hid (lies_on2 F33.out hd)
    replace F36 := Lib.hid (lies_on2 F36.out hd)
    have F39 := Lib.hid hl
    refine hK39 _ _ ((show VS V _ from hS36).keep hd) (fun hS39 => ?_)
    clear hv hd hl hS36 hK39 K39
    refine held_one (i := 42) (oi := ?ot130) (by kernel_rfl) ?at130 ?ct130 (fun K42 hK42 => ?_)
    (case at130 => (simp only [List.getElem?_toArray, List.getElem?_cons_zero, List.getElem?_cons_succ]; rfl))
    (case ct130 => kernel_rfl)
    go_simp
    refine (HW2.out _ (show VS V _ from hS39)).mono ?_
    rintro e y42 ⟨v42, rfl, hv, hd⟩
    obtain ⟨A42, c42, rfl, -, hl⟩ := (own_of hv).lies
    replace F11 := Lib.hid (lies_on2 F11.out hd)
    replace F17 := Lib.hid (lies_on2 F17.out hd)
    replace F33 := Lib.hid (lies_on2 F33.out hd)
    replace F36 := Lib.hid (lies_on2 F36.out hd)
    replace F39 := Lib.hid (lies_on2 F39.out hd)
    have F42 := Lib.hid hl
    refine hK42 _ _ ((show VS V _ from hS39).keep hd) (fun hS42 => ?_)
    clear hv hd hl hS39 hK42 K42
    refine held_one (i := 45) (oi := ?ot131) (by kernel_rfl) ?at131 ?ct131 (fun K45 hK45 => ?_)
    (case at131 => (simp only [List.getElem?_toArray, List.getElem?_cons_zero, List.getElem?_cons_succ]; rfl))
    (case ct131 => kernel_rfl)
    go_simp
    refine (HW3.out _ (show VS V _ from hS42)).mono ?_
    rintro e y45 ⟨v45, rfl, hv, hd⟩
    obtain ⟨A45, c45, rfl, -, hl⟩ := (own_of hv).lies
    replace F11 := Lib.hid (lies_on2 F11.out hd)
    replace F17 := Lib.hid (lies_on2 F17.out hd)
    replace F33 := Lib.hid (lies_on2 F33.out hd)
    replace F36 := Lib.hid (lies_on2 F36.out hd)
    replace F39 := Lib.hid (lies_on2 F39.out hd)
    replace F42 := Lib.hid (lies_on2 F42.out hd)
    have F45 := Lib.hid hl
    refine hK45 _ _ ((show VS V _ from hS42).keep hd) (fun hS45 => ?_)
    clear hv hd hl hS42 hK45 K45
    refine held_one (i := 46) (oi := ?ot132) (by kernel_rfl) ?at132 ?ct132 (fun K46 hK46 => ?_)
    (case at132 => (simp only [List.getElem?_toArray, List.getElem?_cons_zero, List.getElem?_cons_succ]; rfl))
    (case ct132 => kernel_rfl)
    refine ow_pt_9 _ _ _ _ _ _ _ _ _ rfl (some ⟨r, 0, none⟩, 16, NE) (A11, c11, [] ++ [fl, n2, n3, n4].flatMap (be 4)) (A17, c17, [] ++ [n5, n6].flatMap (be 8)) (some ⟨w.heap.size, 7, none⟩, 68, KE) (A33, c33, [m0, m1, m2, m3].flatMap (be 2)) (A36, c36, L0) (A39, c39, L1) (A42, c42, L2) (A45, c45, L3) HNE.out rfl rfl HKE.out rfl rfl rfl rfl rfl ?_
    intro y46 p46 hl hd
    replace F11 := Lib.hid (lies_on2 F11.out hd)
    replace F17 := Lib.hid (lies_on2 F17.out hd)
    replace F33 := Lib.hid (lies_on2 F33.out hd)
    replace F36 := Lib.hid (lies_on2 F36.out hd)
    replace F39 := Lib.hid (lies_on2 F39.out hd)
    replace F42 := Lib.hid (lies_on2 F42.out hd)
    replace F45 := Lib.hid (lies_on2 F45.out hd)
    have F46 := Lib.hid hl
    refine hK46 _ _ ((show VS V _ from hS45).keep hd) (fun hS46 => ?_)
    clear hl hd hS45 hK46 K46
    refine held_one (i := 47) (oi := ?ot133) (by kernel_rfl) ?at133 ?ct133 (fun K47 hK47 => ?_)
    (case at133 => (simp only [List.getElem?_toArray, List.getElem?_cons_zero, List.getElem?_cons_succ]; rfl))
    (case ct133 => kernel_rfl)
    go_simp
    refine (cat_any [(some ⟨r, 0, none⟩, 16, NE), (A11, c11, [] ++ [fl, n2, n3, n4].flatMap (be 4)), (A17, c17, [] ++ [n5, n6].flatMap (be 8)), (some ⟨w.heap.size, 7, none⟩, 68, KE), (A33, c33, [m0, m1, m2, m3].flatMap (be 2)), (A36, c36, L0), (A39, c39, L1), (A42, c42, L2), (A45, c45, L3)] _ _ _ _ (Nat.le_refl _) F46.out (allc (by show Lies _ _ 1 _ NE.length _; rw [HEQ.out.1]; exact lies_on2 HNM.out (show VS V _ from hS46)) (allc F11.out (allc F17.out (allc (by show Lies _ _ 1 _ KE.length _; rw [HEQ.out.2]; exact lies_on2 HKY.out (show VS V _ from hS46)) (allc F33.out (allc F36.out (allc F39.out (allc F42.out (allc F45.out (fun _ h => nomatch h)))))))))) (by have h1 := HLL.out; have h2 := HEQ.out; simp [catAll, be_len]; omega) (by simp [maxLen])).mono ?_
    rintro e y47 ⟨v47, rfl, hv, hd⟩
    have HFIN := Lib.hid (And.intro hv (And.intro (show VS V _ from hS46) hd))
    refine hK47 _ _ ((show VS V _ from hS46).keep hd) (fun hS47 => ?_)
    clear hv hd  hS46 hK47 K47
    (refine held_take (i := 48) (oi := ?ot134) (v := ?vt134) ?at134 (by kernel_rfl) (by kernel_rfl) (by kernel_rfl) ?bt134 ?ct134 ?dt134 (by assumption) ?rt134; (case at134 => (simp only [List.getElem?_toArray, List.getElem?_cons_zero, List.getElem?_cons_succ]; rfl)); (case bt134 => exact fun _ _ _ h => h); (case ct134 => kernel_rfl); (case dt134 => (intro W hW; (try dsimp only at hW); go_split_ands; go_simp; (try with_reducible rfl))); (case' rt134 => simp only [Act.put, List.setIfInBounds_toArray, List.set_cons_zero, List.set_cons_succ]))
    refine wpAnyH_done (by kernel_rfl) ?_ _
    clear hS47
    go_wp2
    go_ret
    exact HEND.out _ _ _ _ _ _ _ _ _ _ _ _ _ _ _ _ _ HFIN.out.1 HFIN.out.2.1 HFIN.out.2.2
end Go.Proofs.YtmcpmcicolpoeaaGreatDoor
