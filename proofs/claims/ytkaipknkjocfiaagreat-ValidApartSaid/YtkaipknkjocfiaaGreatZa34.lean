import Derived.Lib.BufferWrite
import Derived.Test.YtkaipknkjocfiaaGreatZa33
namespace Go.Proofs.YtkaipknkjocfiaaGreat
open Go.RowKit
set_option maxRecDepth 100000 in
theorem tail_of {T A G : Prop} (h : (Nat → T) → A → G) (t : T) : A → G := h fun _ => t
theorem zero16 (w : World) : (zeroValue 200).run Tryz.prog w = .ok (.agg (vec 16 (bys zb))) w :=
 (zero_of_info (P := Tryz.prog) (t := 200) (v := .agg (vec 16 (bys zb))) (n := 16) (by kernel_rfl)).1 w
attribute [local go_sem ↓ high] zero16
theorem lies_row {w : World} {g n : Nat} {cs : Array Value} {t : TypeId} {xs : List Value} (h : w.heap[g]? = some (.cells cs t (0, 0))) (hx : cs.toList = xs) (hn : xs.length = n) : Lies w w.heap.size 1 (some ⟨g, 0, none⟩) n xs := by
 refine ⟨by omega, fun _ => ⟨_, rfl, (Array.getElem?_eq_some_iff.1 h).1, fun j hj => ?_⟩⟩
 have e : ((⟨g, 0, none⟩ : Addr).add j) = ⟨g, j, none⟩ := by unfold Addr.add; by_cases h0 : j = 0 <;> simp [h0]
 rw [e, cell_of_row w g j _ t (0, 0) h, ← Array.getElem?_toList, hx, List.getElem?_eq_getElem hj]
set_option maxRecDepth 100000 in
theorem ow_copy_str {o : Oper} {a : Act} {w : World} {K : Act → World → Prop} {Q : Exit → Act → World → Prop} (d x : Operand) (dT sT elem : TypeId) (hop : o.op = Op.call { callee := Callee.builtin Builtin.copy, args := #[d, x], argTypes := #[dT, sT] })
  (hu : Tryz.prog.underlying dT = some (.slice elem)) (hs : (Tryz.prog.info? elem).map (·.size) = some 1) (g dLen dCap : Nat) (s : ByteArray) (cur : Array Value) (t : TypeId) (hd : a.eval d = .slice (some ⟨g, 0, none⟩) dLen dCap) (hx : a.eval x = .string s)
  (hg : w.heap[g]? = some (.cells cur t (0, 0))) (hle : s.size ≤ dLen) (hfit : 0 + s.size ≤ cur.size)
  (h : K (a.put o.dst (goInt s.size)) (w.setRow g (cur.toList.take 0 ++ Lib.byteCells s.data.toList ++ cur.toList.drop (0 + s.size)).toArray)) : o.wp Tryz.prog a w K Q := by
 have hrun := Lib.run_copy_row_string (P := Tryz.prog) w dT sT o.type elem g 0 dLen dCap s cur t hu hs hg hle hfit
 unfold Oper.wp
 simp only [List.take_zero, List.nil_append, Nat.zero_add] at hrun h
 simp [execOp, hop, resolve, invoke, builtin, hd, hx, hrun, Result.andThen]
 exact h
set_option maxRecDepth 100000 in
theorem name_cells (s : By) (_h : s.length ≤ 16) : ((vec 16 (bys zb)).toList.take 0 ++ Lib.byteCells (strOf s).data.toList ++ (vec 16 (bys zb)).toList.drop (0 + (strOf s).size)) = u8s (nameE s) := by
 rw [List.take_zero, List.nil_append, Nat.zero_add, strOf_size]
 unfold nameE
 have e1 : Lib.byteCells (strOf s).data.toList = u8s s := rfl
 have e2 : (vec 16 (bys zb)).toList = List.replicate 16 (Value.int .u8 0) := by rfl
 rw [e1, e2, List.drop_replicate]
 simp [u8s]
set_option maxRecDepth 100000 in
theorem key_lies7 {w : World} {g : Nat} {t : TypeId} {x : GV} (h : Arr w g t 79 (guestE x)) (hk : x.g.key.length = 68) : Lies w w.heap.size 1 (some ⟨g, 7, none⟩) 68 (u8s x.g.key) := by
 refine ⟨by simp [u8s, hk], fun _ => ⟨_, rfl, h.lt, fun j hj => ?_⟩⟩
 have hj : j < 68 := by simpa [u8s, hk] using hj
 have e : ((⟨g, 7, none⟩ : Addr).add j) = ⟨g, 7 + j, none⟩ := by unfold Addr.add; by_cases h0 : j = 0 <;> simp [h0]
 rw [e, guest_key h j hj]
 simp [bys, kF, u8s, List.getElem?_eq_getElem (show j < x.g.key.length by omega)]
set_option maxRecDepth 100000 in
theorem strs_lies {w : World} {B : Nat} {A : Option Addr} {l : List Int} (h : RowE 1 numE w B A l) (hb : ∀ z ∈ l, u32B z) : Lies w B 1 A l.length (u32s (l.map Int.toNat)) := by
 refine h.lies ?_
 unfold u32s
 rw [List.map_map]
 have : cellsE 1 numE l = l.map fun z => Value.int .u32 z := cells_one (fun z => Value.int .u32 z) l
 rw [this]
 refine List.map_congr_left fun z hz => ?_
 have := (hb z hz).1
 simp only [Function.comp]
 congr 1; omega
set_option maxRecDepth 100000 in
theorem nu_flat (l : List Int) : (l.map Int.toNat).flatMap (be 4) = l.flatMap layNu := by rw [List.flatMap_map]; rfl
theorem layWi_len (x : Wi) : (layWi x).length = 28 := by simp [layWi, be_len]
set_option maxRecDepth 100000 in
theorem layDe_len (x : De) : (layDe x).length = 24 := by simp [layDe, be_len]
theorem layIr_len (x : Ir) : (layIr x).length = 8 := by simp [layIr, be_len]
set_option maxRecDepth 100000 in
theorem layNu_len (x : Int) : (layNu x).length = 4 := by simp [layNu, be_len]
theorem errG_ok {g : Gs} (h : errG g = 0) : nameOk g.name = true ∧ kOk g.key = true ∧ cntOk g = true ∧ g.wins.any badWi = false ∧ g.irqs.any badIr = false := by
 unfold errG e144 at h
 cases h1 : nameOk g.name <;> cases h2 : kOk g.key <;> cases h3 : cntOk g <;> cases h4 : g.wins.any badWi <;> cases h5 : g.irqs.any badIr <;> simp_all
set_option maxRecDepth 100000 in
theorem cnt_bounds {g : Gs} (h : cntOk g = true) : g.wins.length ≤ 16 ∧ g.devs.length ≤ 16 ∧ g.irqs.length ≤ 64 ∧ g.strs.length ≤ 32 := by
 unfold cntOk inB at h
 simp only [Bool.and_eq_true, decide_eq_true_eq] at h
 omega
set_option maxRecDepth 100000 in
set_option maxHeartbeats 16000000 in
theorem layGuest_any (x : GV) (w : World) (hx : GRow w w.heap.size x) (hb : GsB x.g) (he : errG x.g = 0) : Calls Tryz.prog 116 #[.agg (vec 79 (guestE x))] w (Bytes w (layG x.g)) := by
 obtain ⟨hnm, -, hct, hwb, hib⟩ := errG_ok he
 obtain ⟨q0, q1, q2, q3⟩ := cnt_bounds hct
 have hnl : x.g.name.length ≤ 16 := by
  unfold nameOk at hnm
  simp only [Bool.and_eq_true, decide_eq_true_eq] at hnm
  exact hnm.2
 obtain ⟨V0, hV0⟩ : ∃ V, V = w.alloc (.cells (vec 79 (guestE x)) 63) := ⟨_, rfl⟩
 obtain ⟨V1, hV1⟩ : ∃ V, V = V0.alloc (.cells (vec 16 (bys zb)) 200) := ⟨_, rfl⟩
 obtain ⟨S, hS⟩ : ∃ S, S = strOf x.g.name := ⟨_, rfl⟩
 obtain ⟨r, hr⟩ : ∃ r, r = V0.heap.size := ⟨_, rfl⟩
 have hrw : r = w.heap.size + 1 := by rw [hr, hV0]; simp
 obtain ⟨V, hV⟩ : ∃ V, V = V1.drew.setRow r ((vec 16 (bys zb)).toList.take 0 ++ Lib.byteCells S.data.toList ++ (vec 16 (bys zb)).toList.drop (0 + S.size)).toArray := ⟨_, rfl⟩
 have a0 : Arr V0 w.heap.size 63 79 (guestE x) := by rw [hV0]; exact Arr.new w _ _ _
 have b0 : Below w.heap.size w V0 := by rw [hV0]; exact (Below.refl _ _).alloc (Nat.le_refl _) _
 have b1' : Below V0.heap.size V0 V1 := by rw [hV1]; exact (Below.refl _ _).alloc (Nat.le_refl _) _
 have b1 : Below V0.heap.size V0 V1.drew := b1'.trans ((show Below V1.heap.size V1 V1.drew from VS.begin V1).mono b1'.size)
 have hrow : V1.drew.heap[r]? = some (.cells (vec 16 (bys zb)) 200 (0, 0)) := by rw [hr, hV1]; exact heap_alloc_new V0 _
 have b2 : Below V0.heap.size V0 V := by rw [hV]; exact below_row b1 (by omega) _
 have hrV : V.heap[r]? = some (.cells (u8s (nameE x.g.name)).toArray 200 (0, 0)) := by
  rw [hV, hS, name_cells _ hnl]
  exact setRow_heap _ _ _ _ _ _ hrow
 have HNM0 : Lies V V.heap.size 1 (some ⟨r, 0, none⟩) 16 (u8s (nameE x.g.name)) := lies_row hrV rfl (by simp [u8s, nameE]; omega)
 have k1 : Arr V w.heap.size 63 79 (guestE x) := a0.under b2
 have hB : Below w.heap.size w V := b0.trans (b2.mono b0.size)
 have HK := Lib.hid hB
 have hx2 : GRow V V.heap.size x := (hx.below hB).wide hB.size
 have HKY := Lib.hid (key_lies7 k1 hb.key)
 obtain ⟨⟨A0, d0, f0, w0, _⟩, ⟨A1, d1, f1, w1, _⟩, ⟨A2, d2, f2, w2, _⟩, ⟨A3, d3, f3, w3, _⟩⟩ := hx2
 obtain ⟨n2, h2⟩ := Int.eq_ofNat_of_zero_le hb.off.1
 obtain ⟨n3, h3⟩ := Int.eq_ofNat_of_zero_le hb.len.1
 obtain ⟨n4, h4⟩ := Int.eq_ofNat_of_zero_le hb.cpus.1
 obtain ⟨n5, h5⟩ := Int.eq_ofNat_of_zero_le hb.entry.1
 obtain ⟨n6, h6⟩ := Int.eq_ofNat_of_zero_le hb.dtb.1
 have HC1 : Hid (V.cell? ⟨w.heap.size, 1, none⟩ = some (.bool x.g.must)) := Lib.hid (k1.cell (i := 1) (by decide))
 have HC2 : Hid (V.cell? ⟨w.heap.size, 2, none⟩ = some (.int .u32 (n2 : Int))) := Lib.hid (h2 ▸ k1.cell (i := 2) (by decide))
 have HC3 : Hid (V.cell? ⟨w.heap.size, 3, none⟩ = some (.int .u32 (n3 : Int))) := Lib.hid (h3 ▸ k1.cell (i := 3) (by decide))
 have HC4 : Hid (V.cell? ⟨w.heap.size, 4, none⟩ = some (.int .u32 (n4 : Int))) := Lib.hid (h4 ▸ k1.cell (i := 4) (by decide))
 have HC5 : Hid (V.cell? ⟨w.heap.size, 5, none⟩ = some (.int .u64 (n5 : Int))) := Lib.hid (h5 ▸ k1.cell (i := 5) (by decide))
 have HC6 : Hid (V.cell? ⟨w.heap.size, 6, none⟩ = some (.int .u64 (n6 : Int))) := Lib.hid (h6 ▸ k1.cell (i := 6) (by decide))
 have HG0 : Hid (V.cell? ⟨w.heap.size, 75, none⟩ = some (.slice A0 x.g.wins.length d0)) := Lib.hid (f0 ▸ k1.cell (i := 75) (by decide))
 have HG1 : Hid (V.cell? ⟨w.heap.size, 76, none⟩ = some (.slice A1 x.g.devs.length d1)) := Lib.hid (f1 ▸ k1.cell (i := 76) (by decide))
 have HG2 : Hid (V.cell? ⟨w.heap.size, 77, none⟩ = some (.slice A2 x.g.irqs.length d2)) := Lib.hid (f2 ▸ k1.cell (i := 77) (by decide))
 have HG3 : Hid (V.cell? ⟨w.heap.size, 78, none⟩ = some (.slice A3 x.g.strs.length d3)) := Lib.hid (f3 ▸ k1.cell (i := 78) (by decide))
 have g0 : V0.cell? ⟨w.heap.size, 0, none⟩ = some (.string S) := hS ▸ a0.cell (i := 0) (by decide)
 have HG : Hid (V1.drew.cell? ⟨w.heap.size, 0, none⟩ = some (.string S)) := Lib.hid ((b1.cell (World.block_lt_of_cell? V0 _ g0)).trans g0)
 have HW0 : Hid (∀ Y, VS V Y → Calls Tryz.prog 152 #[.slice A0 x.g.wins.length d0, .func (.func 153) #[] #[]] Y (Bytes Y (x.g.wins.flatMap layWi))) := Lib.hid (fun Y hY => row_wi x.g.wins A0 d0 Y (by omega) (w0.up hY) (by rw [flat_len layWi 28 layWi_len]; omega) (fun j h Z _ => layWi_any _ (hb.wins _ (List.getElem_mem h)) (by have := List.any_eq_false.1 hwb _ (List.getElem_mem h); simpa using this) Z))
 have HW1 : Hid (∀ Y, VS V Y → Calls Tryz.prog 154 #[.slice A1 x.g.devs.length d1, .func (.func 155) #[] #[]] Y (Bytes Y (x.g.devs.flatMap layDe))) := Lib.hid (fun Y hY => row_de x.g.devs A1 d1 Y (by omega) (w1.up hY) (by rw [flat_len layDe 24 layDe_len]; omega) (fun j h Z _ => layDe_any _ (hb.devs _ (List.getElem_mem h)) Z))
 have HW2 : Hid (∀ Y, VS V Y → Calls Tryz.prog 156 #[.slice A2 x.g.irqs.length d2, .func (.func 157) #[] #[]] Y (Bytes Y (x.g.irqs.flatMap layIr))) := Lib.hid (fun Y hY => row_ir x.g.irqs A2 d2 Y (by omega) (w2.up hY) (by rw [flat_len layIr 8 layIr_len]; omega) (fun j h Z _ => layIr_any _ (by have := List.any_eq_false.1 hib _ (List.getElem_mem h); simpa using this) Z))
 have HW3 : Hid (∀ Y, VS V Y → Calls Tryz.prog 113 #[.slice none 0 0, .slice A3 x.g.strs.length d3] Y (Bytes Y (x.g.strs.flatMap layNu))) := Lib.hid (fun Y hY => by
  have hl := strs_lies (w3.up hY) hb.strs
  have := pb32 [] (x.g.strs.map Int.toNat) (fun n hn => by obtain ⟨z, hz, rfl⟩ := List.mem_map.1 hn; have := hb.strs z hz; unfold u32B at this; omega) none A3 0 d3 Y (Lies.nil _ _ _ _) (by rw [List.length_map]; exact hl) (by simp) (by rw [List.length_map]; omega)
  rw [List.length_map, List.nil_append, nu_flat] at this
  exact this)
 have hLL : (x.g.wins.flatMap layWi).length ≤ 10000 ∧ (x.g.devs.flatMap layDe).length ≤ 10000 ∧ (x.g.irqs.flatMap layIr).length ≤ 10000 ∧ (x.g.strs.flatMap layNu).length ≤ 10000 := by
  rw [flat_len layWi 28 layWi_len, flat_len layDe 24 layDe_len, flat_len layIr 8 layIr_len, flat_len layNu 4 layNu_len]; omega
 have hNE : (nameE x.g.name).length = 16 := by simp [nameE]; omega
 have hKE := hb.key
 obtain ⟨fl, hfl⟩ : ∃ n, n = flagN x.g.must := ⟨_, rfl⟩
 have HFL := Lib.hid (flagC_any x.g.must)
 rw [← hfl] at HFL
 obtain ⟨m0, e0⟩ : ∃ m, m = x.g.wins.length := ⟨_, rfl⟩
 obtain ⟨m1, e1⟩ : ∃ m, m = x.g.devs.length := ⟨_, rfl⟩
 obtain ⟨m2, e2⟩ : ∃ m, m = x.g.irqs.length := ⟨_, rfl⟩
 obtain ⟨m3, e3⟩ : ∃ m, m = x.g.strs.length := ⟨_, rfl⟩
 have HN := Lib.hid (show (∀ n ∈ [fl, n2, n3, n4], n < 4294967296) ∧ (∀ n ∈ [n5, n6], n < 18446744073709551616) ∧ (∀ n ∈ [m0, m1, m2, m3], n < 65536) by
  have := flagN_lt x.g.must; have t1 := hb.off.2; have t2 := hb.len.2; have t3 := hb.cpus.2; have t4 := hb.entry.2; have t5 := hb.dtb.2; simp; omega)
 rw [← e0] at HG0 HW0
 rw [← e1] at HG1 HW1
 rw [← e2] at HG2 HW2
 rw [← e3] at HG3 HW3
 obtain ⟨LG, hLG⟩ : ∃ l, l = layG x.g := ⟨_, rfl⟩
 rw [← hLG]
 have hLGE : LG = nameE x.g.name ++ ([fl, n2, n3, n4].flatMap (be 4) ++ ([n5, n6].flatMap (be 8) ++ (x.g.key ++ ([m0, m1, m2, m3].flatMap (be 2) ++ (x.g.wins.flatMap layWi ++ (x.g.devs.flatMap layDe ++ (x.g.irqs.flatMap layIr ++ x.g.strs.flatMap layNu))))))) := by
  rw [hLG, hfl, e0, e1, e2, e3]
  simp [layG, layHd, layCt, layLs, h2, h3, h4, h5, h6]
 obtain ⟨NE, hne⟩ : ∃ l, l = nameE x.g.name := ⟨_, rfl⟩
 obtain ⟨KE, hke⟩ : ∃ l, l = x.g.key := ⟨_, rfl⟩
 obtain ⟨L0, u0⟩ : ∃ l, l = x.g.wins.flatMap layWi := ⟨_, rfl⟩
 obtain ⟨L1, u1⟩ : ∃ l, l = x.g.devs.flatMap layDe := ⟨_, rfl⟩
 obtain ⟨L2, u2⟩ : ∃ l, l = x.g.irqs.flatMap layIr := ⟨_, rfl⟩
 obtain ⟨L3, u3⟩ : ∃ l, l = x.g.strs.flatMap layNu := ⟨_, rfl⟩
 rw [← hne, ← hke, ← u0, ← u1, ← u2, ← u3] at hLGE
 rw [← u0] at HW0
 rw [← u1] at HW1
 rw [← u2] at HW2
 rw [← u3] at HW3
 rw [← u0, ← u1, ← u2, ← u3] at hLL
 rw [← hne] at hNE HNM0
 rw [← hke] at hKE HKY
 have HLL := Lib.hid hLL
 have HNE : Hid (Value.slice (some ⟨r, 0, none⟩) 16 16 = partV (some ⟨r, 0, none⟩, 16, NE)) := Lib.hid (by show _ = Value.slice _ NE.length _; rw [hNE])
 have HKE : Hid (Value.slice (some ⟨w.heap.size, 7, none⟩) 68 68 = partV (some ⟨w.heap.size, 7, none⟩, 68, KE)) := Lib.hid (by show _ = Value.slice _ KE.length _; rw [hKE])
 have HEQ := Lib.hid (And.intro hNE hKE)
 have HNM := Lib.hid HNM0
 have HEND : Hid (∀ (Y Y' : World) (v : Value) (a11 a17 a33 a36 a39 a42 a45 : Option Addr) (c11 c17 c33 c36 c39 c42 c45 : Nat), Y'.ownsRow Y.heap.size 5 1 v (catAll [(some ⟨r, 0, none⟩, 16, NE), (a11, c11, [] ++ [fl, n2, n3, n4].flatMap (be 4)), (a17, c17, [] ++ [n5, n6].flatMap (be 8)), (some ⟨w.heap.size, 7, none⟩, 68, KE), (a33, c33, [m0, m1, m2, m3].flatMap (be 2)), (a36, c36, L0), (a39, c39, L1), (a42, c42, L2), (a45, c45, L3)]).length (u8s (catAll [(some ⟨r, 0, none⟩, 16, NE), (a11, c11, [] ++ [fl, n2, n3, n4].flatMap (be 4)), (a17, c17, [] ++ [n5, n6].flatMap (be 8)), (some ⟨w.heap.size, 7, none⟩, 68, KE), (a33, c33, [m0, m1, m2, m3].flatMap (be 2)), (a36, c36, L0), (a39, c39, L1), (a42, c42, L2), (a45, c45, L3)])) → VS V Y → Below Y.heap.size Y Y' → ∃ u, Ending.returned v = .returned u ∧ Y'.ownsRow w.heap.size 5 1 u LG.length (u8s LG) ∧ Below w.heap.size w Y') := Lib.hid (fun Y Y' v a11 a17 a33 a36 a39 a42 a45 c11 c17 c33 c36 c39 c42 c45 hv1 hv2 hv3 => by
  have hb : Below w.heap.size w Y := HK.out.trans ((show Below V.heap.size V Y from hv2).mono HK.out.size)
  refine ⟨v, rfl, ?_, hb.trans (hv3.mono hb.size)⟩
  rw [show LG = catAll [(some ⟨r, 0, none⟩, 16, NE), (a11, c11, [] ++ [fl, n2, n3, n4].flatMap (be 4)), (a17, c17, [] ++ [n5, n6].flatMap (be 8)), (some ⟨w.heap.size, 7, none⟩, 68, KE), (a33, c33, [m0, m1, m2, m3].flatMap (be 2)), (a36, c36, L0), (a39, c39, L1), (a42, c42, L2), (a45, c45, L3)] by rw [hLGE]; simp [catAll]]
  exact owns_mono hv1 hb.size)
 have HGV : Hid (V.cell? ⟨w.heap.size, 0, none⟩ = some (.string S)) := Lib.hid (hS ▸ k1.cell (i := 0) (by decide))
 have HWV := Lib.hid hV
 have HWV0 := Lib.hid hV0
 have HWV1 := Lib.hid hV1
 have HR := Lib.hid hr
 have HRW := Lib.hid hrow
 have HSZ : Hid (S.size ≤ 16 ∧ 0 + S.size ≤ (vec 16 (bys zb)).size) := Lib.hid (by rw [hS, strOf_size, vec_size]; omega)
 clear hV hV0 hV1 hr hrw hrow hrV b0 b1 b1' b2 a0 k1 hB hx HNM0 f0 f1 f2 f3 w0 w1 w2 w3 h2 h3 h4 h5 h6 hb he hnm hct hwb hib hnl q0 q1 q2 q3 hS g0 hLL hNE hKE hfl e0 e1 e2 e3 hLG hLGE hne hke u0 u1 u2 u3
 unfold Bytes
 go_enter Tryz.func116, Tryz.ntmps116
 go_upto_region 1 with fail
 rw [← HWV0.out]
 clear HWV0
 go_upto_region 2 with fail
 rw [← HWV1.out, ← HR.out]
 clear HWV1 HR
 refine wp_region_held_drew (S := fun Y => Y.cell? ⟨w.heap.size, 0, none⟩ = some (.string S)) (by kernel_rfl) HG.out (fun hS => ?_)
 refine tA 0 (h := ?_)
 refine tA 1 (h := ?_)
 refine tP 2 (hy := by (intro Z hZ; go_simp; (try with_reducible rfl))) (h := ?_)
 refine oQ 3 (h := fun K3 hK3 => ?_)
 refine ow_copy_str _ _ _ _ 5 rfl Tryz.underlying78 (by kernel_rfl) r 16 16 S _ _ rfl rfl HRW.out HSZ.out.1 HSZ.out.2 ?_
 rw [← HWV.out]
 refine hK3 _ _ HGV.out (fun hS3 => ?_)
 clear hK3 K3
 refine wpAnyH_done (by kernel_rfl) ?_ _
 clear hS3 HWV HRW HSZ HGV
 go_upto_region 3 with fail
 refine wp_region_held_drew (S := fun Y => VS V Y) (by kernel_rfl) (VS.begin V) (fun hS => ?_)
 revert hS
 apply tail_of
 case h =>
  intro tail hS
  refine tA 0 (h := ?_)
  refine tA 1 (h := ?_)
  refine tP 2 (hy := by (intro Z hZ; have k0 := ((show Below V.heap.size V Z from hZ).cell (World.block_lt_of_cell? V _ HC1.out)).trans HC1.out; go_simp; (try with_reducible rfl))) (h := ?_)
  refine tA 4 (h := ?_)
  refine tP 5 (hy := by (intro Z hZ; have k0 := ((show Below V.heap.size V Z from hZ).cell (World.block_lt_of_cell? V _ HC2.out)).trans HC2.out; go_simp; (try with_reducible rfl))) (h := ?_)
  refine tA 6 (h := ?_)
  refine tP 7 (hy := by (intro Z hZ; have k0 := ((show Below V.heap.size V Z from hZ).cell (World.block_lt_of_cell? V _ HC3.out)).trans HC3.out; go_simp; (try with_reducible rfl))) (h := ?_)
  refine tA 8 (h := ?_)
  refine tP 9 (hy := by (intro Z hZ; have k0 := ((show Below V.heap.size V Z from hZ).cell (World.block_lt_of_cell? V _ HC4.out)).trans HC4.out; go_simp; (try with_reducible rfl))) (h := ?_)
  refine tA 12 (h := ?_)
  refine tP 13 (hy := by (intro Z hZ; have k0 := ((show Below V.heap.size V Z from hZ).cell (World.block_lt_of_cell? V _ HC5.out)).trans HC5.out; go_simp; (try with_reducible rfl))) (h := ?_)
  refine tA 14 (h := ?_)
  refine tP 15 (hy := by (intro Z hZ; have k0 := ((show Below V.heap.size V Z from hZ).cell (World.block_lt_of_cell? V _ HC6.out)).trans HC6.out; go_simp; (try with_reducible rfl))) (h := ?_)
  refine tA 18 (h := ?_)
  refine tA 19 (h := ?_)
  refine tA 20 (h := ?_)
  refine tP 21 (hy := by (intro Z hZ; have k0 := ((show Below V.heap.size V Z from hZ).cell (World.block_lt_of_cell? V _ HG0.out)).trans HG0.out; go_simp; (try with_reducible rfl))) (h := ?_)
  refine tA 22 (h := ?_)
  refine tA 23 (h := ?_)
  refine tP 24 (hy := by (intro Z hZ; have k0 := ((show Below V.heap.size V Z from hZ).cell (World.block_lt_of_cell? V _ HG1.out)).trans HG1.out; go_simp; (try with_reducible rfl))) (h := ?_)
  refine tA 25 (h := ?_)
  refine tA 26 (h := ?_)
  refine tP 27 (hy := by (intro Z hZ; have k0 := ((show Below V.heap.size V Z from hZ).cell (World.block_lt_of_cell? V _ HG2.out)).trans HG2.out; go_simp; (try with_reducible rfl))) (h := ?_)
  refine tA 28 (h := ?_)
  refine tA 29 (h := ?_)
  refine tP 30 (hy := by (intro Z hZ; have k0 := ((show Below V.heap.size V Z from hZ).cell (World.block_lt_of_cell? V _ HG3.out)).trans HG3.out; go_simp; (try with_reducible rfl))) (h := ?_)
  refine tA 31 (h := ?_)
  refine tA 34 (h := ?_)
  refine tP 35 (hy := by (intro Z hZ; have k0 := ((show Below V.heap.size V Z from hZ).cell (World.block_lt_of_cell? V _ HG0.out)).trans HG0.out; go_simp; (try with_reducible rfl))) (h := ?_)
  refine tA 37 (h := ?_)
  refine tP 38 (hy := by (intro Z hZ; have k0 := ((show Below V.heap.size V Z from hZ).cell (World.block_lt_of_cell? V _ HG1.out)).trans HG1.out; go_simp; (try with_reducible rfl))) (h := ?_)
  refine tA 40 (h := ?_)
  refine tP 41 (hy := by (intro Z hZ; have k0 := ((show Below V.heap.size V Z from hZ).cell (World.block_lt_of_cell? V _ HG2.out)).trans HG2.out; go_simp; (try with_reducible rfl))) (h := ?_)
  refine tA 43 (h := ?_)
  refine tP 44 (hy := by (intro Z hZ; have k0 := ((show Below V.heap.size V Z from hZ).cell (World.block_lt_of_cell? V _ HG3.out)).trans HG3.out; go_simp; (try with_reducible rfl))) (h := ?_)
  refine held_three (i := 3) (j := 16) (k := 32) (oi := ?oit127) (oj := ?ojt127) (ok := ?okt127) (by kernel_rfl) ?ait127 ?ajt127 ?akt127 ?cit127 ?cjt127 ?ckt127 (fun K3 hK3 => ?hit127) (fun K16 hK16 => ?hjt127) (fun K32 hK32 => ?hkt127)
  (case ait127 => (simp only [List.getElem?_toArray, List.getElem?_cons_zero, List.getElem?_cons_succ]; rfl))
  (case ajt127 => (simp only [List.getElem?_toArray, List.getElem?_cons_zero, List.getElem?_cons_succ]; rfl))
  (case akt127 => (simp only [List.getElem?_toArray, List.getElem?_cons_zero, List.getElem?_cons_succ]; rfl))
  (case cit127 => kernel_rfl)
  (case cjt127 => kernel_rfl)
  (case ckt127 => kernel_rfl)
  case hit127 =>
   go_simp
   refine (HFL.out _).mono ?_
   rintro e y3 ⟨rfl, rfl⟩
   refine hK3 _ _ hS (fun hS3 => ?_)
   clear hS hK3 K3
   refine held_three (i := 10) (j := 16) (k := 32) (oi := ?oit88) (oj := ?ojt88) (ok := ?okt88) (by kernel_rfl) ?ait88 ?ajt88 ?akt88 ?cit88 ?cjt88 ?ckt88 (fun K10 hK10 => ?hit88) (fun K16 hK16 => ?hjt88) (fun K32 hK32 => ?hkt88)
   (case ait88 => (simp only [List.getElem?_toArray, List.getElem?_cons_zero, List.getElem?_cons_succ]; rfl))
   (case ajt88 => (simp only [List.getElem?_toArray, List.getElem?_cons_zero, List.getElem?_cons_succ]; rfl))
   (case akt88 => (simp only [List.getElem?_toArray, List.getElem?_cons_zero, List.getElem?_cons_succ]; rfl))
   (case cit88 => kernel_rfl)
   (case cjt88 => kernel_rfl)
   (case ckt88 => kernel_rfl)
   case hit88 =>
    refine ow_u32_4 _ _ _ _ rfl fl n2 n3 n4 rfl rfl rfl rfl ?_
    intro y10 p10 hl hd
    have F10 := Lib.hid hl
    refine hK10 _ _ ((show VS V _ from hS3).keep hd) (fun hS10 => ?_)
    clear hl hd hS3 hK10 K10
    refine held_three (i := 11) (j := 16) (k := 32) (oi := ?oit61) (oj := ?ojt61) (ok := ?okt61) (by kernel_rfl) ?ait61 ?ajt61 ?akt61 ?cit61 ?cjt61 ?ckt61 (fun K11 hK11 => ?hit61) (fun K16 hK16 => ?hjt61) (fun K32 hK32 => ?hkt61)
    (case ait61 => (simp only [List.getElem?_toArray, List.getElem?_cons_zero, List.getElem?_cons_succ]; rfl))
    (case ajt61 => (simp only [List.getElem?_toArray, List.getElem?_cons_zero, List.getElem?_cons_succ]; rfl))
    (case akt61 => (simp only [List.getElem?_toArray, List.getElem?_cons_zero, List.getElem?_cons_succ]; rfl))
    (case cit61 => kernel_rfl)
    (case cjt61 => kernel_rfl)
    (case ckt61 => kernel_rfl)
    case hit61 =>
     go_simp
     refine (pb32 [] [fl, n2, n3, n4] HN.out.1 none _ 0 _ _ (Lies.nil _ _ _ _) F10.out (by simp) (by simp)).mono ?_
     rintro e y11 ⟨v11, rfl, hv, hd⟩
     obtain ⟨A11, c11, rfl, -, hl⟩ := (own_of hv).lies
     replace F10 := Lib.hid (lies_on2 F10.out hd)
     have F11 := Lib.hid hl
     refine hK11 _ _ ((show VS V _ from hS10).keep hd) (fun hS11 => ?_)
     clear hv hd hl hS10 hK11 K11
     refine wQ 16 32 (h1 := fun K16 hK16 => ?hit44) (h2 := fun K32 hK32 => ?hjt44)
     case hit44 =>
      refine ow_u64_2 _ _ rfl n5 n6 rfl rfl ?_
      intro y16 p16 hl hd
      replace F10 := Lib.hid (lies_on2 F10.out hd)
      replace F11 := Lib.hid (lies_on2 F11.out hd)
      have F16 := Lib.hid hl
      refine hK16 _ _ ((show VS V _ from hS11).keep hd) (fun hS16 => ?_)
      clear hl hd hS11 hK16 K16
      refine wQ 17 32 (h1 := fun K17 hK17 => ?hit40) (h2 := fun K32 hK32 => ?hjt40)
      case hit40 =>
       go_simp
       refine (pb64 [] [n5, n6] HN.out.2.1 none _ 0 _ _ (Lies.nil _ _ _ _) F16.out (by simp) (by simp)).mono ?_
       rintro e y17 ⟨v17, rfl, hv, hd⟩
       obtain ⟨A17, c17, rfl, -, hl⟩ := (own_of hv).lies
       replace F10 := Lib.hid (lies_on2 F10.out hd)
       replace F11 := Lib.hid (lies_on2 F11.out hd)
       replace F16 := Lib.hid (lies_on2 F16.out hd)
       have F17 := Lib.hid hl
       refine hK17 _ _ ((show VS V _ from hS16).keep hd) (fun hS17 => ?_)
       clear hv hd hl hS16 hK17 K17
       refine oQ 32 (h := fun K32 hK32 => ?_)
       refine ow_i64_4 _ _ _ _ rfl m0 m1 m2 m3 rfl rfl rfl rfl ?_
       intro y32 p32 hl hd
       replace F10 := Lib.hid (lies_on2 F10.out hd)
       replace F11 := Lib.hid (lies_on2 F11.out hd)
       replace F16 := Lib.hid (lies_on2 F16.out hd)
       replace F17 := Lib.hid (lies_on2 F17.out hd)
       have F32 := Lib.hid hl
       refine hK32 _ _ ((show VS V _ from hS17).keep hd) (fun hS32 => ?_)
       clear hl hd hS17 hK32 K32
       refine oQ 33 (h := fun K33 hK33 => ?_)
       go_simp
       refine (shorts_any [m0, m1, m2, m3] HN.out.2.2 _ _ _ (by simp) F32.out).mono ?_
       rintro e y33 ⟨v33, rfl, hv, hd⟩
       obtain ⟨A33, c33, rfl, -, hl⟩ := (own_of hv).lies
       replace F10 := Lib.hid (lies_on2 F10.out hd)
       replace F11 := Lib.hid (lies_on2 F11.out hd)
       replace F16 := Lib.hid (lies_on2 F16.out hd)
       replace F17 := Lib.hid (lies_on2 F17.out hd)
       replace F32 := Lib.hid (lies_on2 F32.out hd)
       have F33 := Lib.hid hl
       refine hK33 _ _ ((show VS V _ from hS32).keep hd) (fun hS33 => ?_)
       clear hv hd hl hS32 hK33 K33
       clear F10 F16 F32
       revert hS33
       revert F33
       revert F17
       revert F11
       revert c33
       revert A33
       revert c17
       revert A17
       revert c11
       revert A11
       revert p32
       revert p16
       revert p10
       revert y33
       exact tail 0
      case hjt40 =>
       refine ow_i64_4 _ _ _ _ rfl m0 m1 m2 m3 rfl rfl rfl rfl ?_
       intro y32 p32 hl hd
       replace F10 := Lib.hid (lies_on2 F10.out hd)
       replace F11 := Lib.hid (lies_on2 F11.out hd)
       replace F16 := Lib.hid (lies_on2 F16.out hd)
       have F32 := Lib.hid hl
       refine hK32 _ _ ((show VS V _ from hS16).keep hd) (fun hS32 => ?_)
       clear hl hd hS16 hK32 K32
       refine oQ 17 (h := fun K17 hK17 => ?_)
       go_simp
       refine (pb64 [] [n5, n6] HN.out.2.1 none _ 0 _ _ (Lies.nil _ _ _ _) F16.out (by simp) (by simp)).mono ?_
       rintro e y17 ⟨v17, rfl, hv, hd⟩
       obtain ⟨A17, c17, rfl, -, hl⟩ := (own_of hv).lies
       replace F10 := Lib.hid (lies_on2 F10.out hd)
       replace F11 := Lib.hid (lies_on2 F11.out hd)
       replace F16 := Lib.hid (lies_on2 F16.out hd)
       replace F32 := Lib.hid (lies_on2 F32.out hd)
       have F17 := Lib.hid hl
       refine hK17 _ _ ((show VS V _ from hS32).keep hd) (fun hS17 => ?_)
       clear hv hd hl hS32 hK17 K17
       refine oQ 33 (h := fun K33 hK33 => ?_)
       go_simp
       refine (shorts_any [m0, m1, m2, m3] HN.out.2.2 _ _ _ (by simp) F32.out).mono ?_
       rintro e y33 ⟨v33, rfl, hv, hd⟩
       obtain ⟨A33, c33, rfl, -, hl⟩ := (own_of hv).lies
       replace F10 := Lib.hid (lies_on2 F10.out hd)
       replace F11 := Lib.hid (lies_on2 F11.out hd)
       replace F16 := Lib.hid (lies_on2 F16.out hd)
       replace F32 := Lib.hid (lies_on2 F32.out hd)
       replace F17 := Lib.hid (lies_on2 F17.out hd)
       have F33 := Lib.hid hl
       refine hK33 _ _ ((show VS V _ from hS17).keep hd) (fun hS33 => ?_)
       clear hv hd hl hS17 hK33 K33
       clear F10 F16 F32
       revert hS33
       revert F33
       revert F17
       revert F11
       revert c33
       revert A33
       revert c17
       revert A17
       revert c11
       revert A11
       revert p32
       revert p16
       revert p10
       revert y33
       exact tail 0
     case hjt44 =>
      refine ow_i64_4 _ _ _ _ rfl m0 m1 m2 m3 rfl rfl rfl rfl ?_
      intro y32 p32 hl hd
      replace F10 := Lib.hid (lies_on2 F10.out hd)
      replace F11 := Lib.hid (lies_on2 F11.out hd)
      have F32 := Lib.hid hl
      refine hK32 _ _ ((show VS V _ from hS11).keep hd) (fun hS32 => ?_)
      clear hl hd hS11 hK32 K32
      refine oQ 16 (h := fun K16 hK16 => ?_)
      refine ow_u64_2 _ _ rfl n5 n6 rfl rfl ?_
      intro y16 p16 hl hd
      replace F10 := Lib.hid (lies_on2 F10.out hd)
      replace F11 := Lib.hid (lies_on2 F11.out hd)
      replace F32 := Lib.hid (lies_on2 F32.out hd)
      have F16 := Lib.hid hl
      refine hK16 _ _ ((show VS V _ from hS32).keep hd) (fun hS16 => ?_)
      clear hl hd hS32 hK16 K16
      refine oQ 17 (h := fun K17 hK17 => ?_)
      go_simp
      refine (pb64 [] [n5, n6] HN.out.2.1 none _ 0 _ _ (Lies.nil _ _ _ _) F16.out (by simp) (by simp)).mono ?_
      rintro e y17 ⟨v17, rfl, hv, hd⟩
      obtain ⟨A17, c17, rfl, -, hl⟩ := (own_of hv).lies
      replace F10 := Lib.hid (lies_on2 F10.out hd)
      replace F11 := Lib.hid (lies_on2 F11.out hd)
      replace F32 := Lib.hid (lies_on2 F32.out hd)
      replace F16 := Lib.hid (lies_on2 F16.out hd)
      have F17 := Lib.hid hl
      refine hK17 _ _ ((show VS V _ from hS16).keep hd) (fun hS17 => ?_)
      clear hv hd hl hS16 hK17 K17
      refine oQ 33 (h := fun K33 hK33 => ?_)
      go_simp
      refine (shorts_any [m0, m1, m2, m3] HN.out.2.2 _ _ _ (by simp) F32.out).mono ?_
      rintro e y33 ⟨v33, rfl, hv, hd⟩
      obtain ⟨A33, c33, rfl, -, hl⟩ := (own_of hv).lies
      replace F10 := Lib.hid (lies_on2 F10.out hd)
      replace F11 := Lib.hid (lies_on2 F11.out hd)
      replace F32 := Lib.hid (lies_on2 F32.out hd)
      replace F16 := Lib.hid (lies_on2 F16.out hd)
      replace F17 := Lib.hid (lies_on2 F17.out hd)
      have F33 := Lib.hid hl
      refine hK33 _ _ ((show VS V _ from hS17).keep hd) (fun hS33 => ?_)
      clear hv hd hl hS17 hK33 K33
      clear F10 F16 F32
      revert hS33
      revert F33
      revert F17
      revert F11
      revert c33
      revert A33
      revert c17
      revert A17
      revert c11
      revert A11
      revert p32
      revert p16
      revert p10
      revert y33
      exact tail 0
    case hjt61 =>
     refine ow_u64_2 _ _ rfl n5 n6 rfl rfl ?_
     intro y16 p16 hl hd
     replace F10 := Lib.hid (lies_on2 F10.out hd)
     have F16 := Lib.hid hl
     refine hK16 _ _ ((show VS V _ from hS10).keep hd) (fun hS16 => ?_)
     clear hl hd hS10 hK16 K16
     refine wQ 11 32 (h1 := fun K11 hK11 => ?hit53) (h2 := fun K32 hK32 => ?hjt53)
     case hit53 =>
      go_simp
      refine (pb32 [] [fl, n2, n3, n4] HN.out.1 none _ 0 _ _ (Lies.nil _ _ _ _) F10.out (by simp) (by simp)).mono ?_
      rintro e y11 ⟨v11, rfl, hv, hd⟩
      obtain ⟨A11, c11, rfl, -, hl⟩ := (own_of hv).lies
      replace F10 := Lib.hid (lies_on2 F10.out hd)
      replace F16 := Lib.hid (lies_on2 F16.out hd)
      have F11 := Lib.hid hl
      refine hK11 _ _ ((show VS V _ from hS16).keep hd) (fun hS11 => ?_)
      clear hv hd hl hS16 hK11 K11
      refine wQ 17 32 (h1 := fun K17 hK17 => ?hit49) (h2 := fun K32 hK32 => ?hjt49)
      case hit49 =>
       go_simp
       refine (pb64 [] [n5, n6] HN.out.2.1 none _ 0 _ _ (Lies.nil _ _ _ _) F16.out (by simp) (by simp)).mono ?_
       rintro e y17 ⟨v17, rfl, hv, hd⟩
       obtain ⟨A17, c17, rfl, -, hl⟩ := (own_of hv).lies
       replace F10 := Lib.hid (lies_on2 F10.out hd)
       replace F16 := Lib.hid (lies_on2 F16.out hd)
       replace F11 := Lib.hid (lies_on2 F11.out hd)
       have F17 := Lib.hid hl
       refine hK17 _ _ ((show VS V _ from hS11).keep hd) (fun hS17 => ?_)
       clear hv hd hl hS11 hK17 K17
       refine oQ 32 (h := fun K32 hK32 => ?_)
       refine ow_i64_4 _ _ _ _ rfl m0 m1 m2 m3 rfl rfl rfl rfl ?_
       intro y32 p32 hl hd
       replace F10 := Lib.hid (lies_on2 F10.out hd)
       replace F16 := Lib.hid (lies_on2 F16.out hd)
       replace F11 := Lib.hid (lies_on2 F11.out hd)
       replace F17 := Lib.hid (lies_on2 F17.out hd)
       have F32 := Lib.hid hl
       refine hK32 _ _ ((show VS V _ from hS17).keep hd) (fun hS32 => ?_)
       clear hl hd hS17 hK32 K32
       refine oQ 33 (h := fun K33 hK33 => ?_)
       go_simp
       refine (shorts_any [m0, m1, m2, m3] HN.out.2.2 _ _ _ (by simp) F32.out).mono ?_
       rintro e y33 ⟨v33, rfl, hv, hd⟩
       obtain ⟨A33, c33, rfl, -, hl⟩ := (own_of hv).lies
       replace F10 := Lib.hid (lies_on2 F10.out hd)
       replace F16 := Lib.hid (lies_on2 F16.out hd)
       replace F11 := Lib.hid (lies_on2 F11.out hd)
       replace F17 := Lib.hid (lies_on2 F17.out hd)
       replace F32 := Lib.hid (lies_on2 F32.out hd)
       have F33 := Lib.hid hl
       refine hK33 _ _ ((show VS V _ from hS32).keep hd) (fun hS33 => ?_)
       clear hv hd hl hS32 hK33 K33
       clear F10 F16 F32
       revert hS33
       revert F33
       revert F17
       revert F11
       revert c33
       revert A33
       revert c17
       revert A17
       revert c11
       revert A11
       revert p32
       revert p16
       revert p10
       revert y33
       exact tail 0
      case hjt49 =>
       refine ow_i64_4 _ _ _ _ rfl m0 m1 m2 m3 rfl rfl rfl rfl ?_
       intro y32 p32 hl hd
       replace F10 := Lib.hid (lies_on2 F10.out hd)
       replace F16 := Lib.hid (lies_on2 F16.out hd)
       replace F11 := Lib.hid (lies_on2 F11.out hd)
       have F32 := Lib.hid hl
       refine hK32 _ _ ((show VS V _ from hS11).keep hd) (fun hS32 => ?_)
       clear hl hd hS11 hK32 K32
       refine oQ 17 (h := fun K17 hK17 => ?_)
       go_simp
       refine (pb64 [] [n5, n6] HN.out.2.1 none _ 0 _ _ (Lies.nil _ _ _ _) F16.out (by simp) (by simp)).mono ?_
       rintro e y17 ⟨v17, rfl, hv, hd⟩
       obtain ⟨A17, c17, rfl, -, hl⟩ := (own_of hv).lies
       replace F10 := Lib.hid (lies_on2 F10.out hd)
       replace F16 := Lib.hid (lies_on2 F16.out hd)
       replace F11 := Lib.hid (lies_on2 F11.out hd)
       replace F32 := Lib.hid (lies_on2 F32.out hd)
       have F17 := Lib.hid hl
       refine hK17 _ _ ((show VS V _ from hS32).keep hd) (fun hS17 => ?_)
       clear hv hd hl hS32 hK17 K17
       refine oQ 33 (h := fun K33 hK33 => ?_)
       go_simp
       refine (shorts_any [m0, m1, m2, m3] HN.out.2.2 _ _ _ (by simp) F32.out).mono ?_
       rintro e y33 ⟨v33, rfl, hv, hd⟩
       obtain ⟨A33, c33, rfl, -, hl⟩ := (own_of hv).lies
       replace F10 := Lib.hid (lies_on2 F10.out hd)
       replace F16 := Lib.hid (lies_on2 F16.out hd)
       replace F11 := Lib.hid (lies_on2 F11.out hd)
       replace F32 := Lib.hid (lies_on2 F32.out hd)
       replace F17 := Lib.hid (lies_on2 F17.out hd)
       have F33 := Lib.hid hl
       refine hK33 _ _ ((show VS V _ from hS17).keep hd) (fun hS33 => ?_)
       clear hv hd hl hS17 hK33 K33
       clear F10 F16 F32
       revert hS33
       revert F33
       revert F17
       revert F11
       revert c33
       revert A33
       revert c17
       revert A17
       revert c11
       revert A11
       revert p32
       revert p16
       revert p10
       revert y33
       exact tail 0
     case hjt53 =>
      refine ow_i64_4 _ _ _ _ rfl m0 m1 m2 m3 rfl rfl rfl rfl ?_
      intro y32 p32 hl hd
      replace F10 := Lib.hid (lies_on2 F10.out hd)
      replace F16 := Lib.hid (lies_on2 F16.out hd)
      have F32 := Lib.hid hl
      refine hK32 _ _ ((show VS V _ from hS16).keep hd) (fun hS32 => ?_)
      clear hl hd hS16 hK32 K32
      refine oQ 11 (h := fun K11 hK11 => ?_)
      go_simp
      refine (pb32 [] [fl, n2, n3, n4] HN.out.1 none _ 0 _ _ (Lies.nil _ _ _ _) F10.out (by simp) (by simp)).mono ?_
      rintro e y11 ⟨v11, rfl, hv, hd⟩
      obtain ⟨A11, c11, rfl, -, hl⟩ := (own_of hv).lies
      replace F10 := Lib.hid (lies_on2 F10.out hd)
      replace F16 := Lib.hid (lies_on2 F16.out hd)
      replace F32 := Lib.hid (lies_on2 F32.out hd)
      have F11 := Lib.hid hl
      refine hK11 _ _ ((show VS V _ from hS32).keep hd) (fun hS11 => ?_)
      clear hv hd hl hS32 hK11 K11
      refine oQ 17 (h := fun K17 hK17 => ?_)
      go_simp
      refine (pb64 [] [n5, n6] HN.out.2.1 none _ 0 _ _ (Lies.nil _ _ _ _) F16.out (by simp) (by simp)).mono ?_
      rintro e y17 ⟨v17, rfl, hv, hd⟩
      obtain ⟨A17, c17, rfl, -, hl⟩ := (own_of hv).lies
      replace F10 := Lib.hid (lies_on2 F10.out hd)
      replace F16 := Lib.hid (lies_on2 F16.out hd)
      replace F32 := Lib.hid (lies_on2 F32.out hd)
      replace F11 := Lib.hid (lies_on2 F11.out hd)
      have F17 := Lib.hid hl
      refine hK17 _ _ ((show VS V _ from hS11).keep hd) (fun hS17 => ?_)
      clear hv hd hl hS11 hK17 K17
      refine oQ 33 (h := fun K33 hK33 => ?_)
      go_simp
      refine (shorts_any [m0, m1, m2, m3] HN.out.2.2 _ _ _ (by simp) F32.out).mono ?_
      rintro e y33 ⟨v33, rfl, hv, hd⟩
      obtain ⟨A33, c33, rfl, -, hl⟩ := (own_of hv).lies
      replace F10 := Lib.hid (lies_on2 F10.out hd)
      replace F16 := Lib.hid (lies_on2 F16.out hd)
      replace F32 := Lib.hid (lies_on2 F32.out hd)
      replace F11 := Lib.hid (lies_on2 F11.out hd)
      replace F17 := Lib.hid (lies_on2 F17.out hd)
      have F33 := Lib.hid hl
      refine hK33 _ _ ((show VS V _ from hS17).keep hd) (fun hS33 => ?_)
      clear hv hd hl hS17 hK33 K33
      clear F10 F16 F32
      revert hS33
      revert F33
      revert F17
      revert F11
      revert c33
      revert A33
      revert c17
      revert A17
      revert c11
      revert A11
      revert p32
      revert p16
      revert p10
      revert y33
      exact tail 0
    case hkt61 =>
     refine ow_i64_4 _ _ _ _ rfl m0 m1 m2 m3 rfl rfl rfl rfl ?_
     intro y32 p32 hl hd
     replace F10 := Lib.hid (lies_on2 F10.out hd)
     have F32 := Lib.hid hl
     refine hK32 _ _ ((show VS V _ from hS10).keep hd) (fun hS32 => ?_)
     clear hl hd hS10 hK32 K32
     refine wQ 11 16 (h1 := fun K11 hK11 => ?hit60) (h2 := fun K16 hK16 => ?hjt60)
     case hit60 =>
      go_simp
      refine (pb32 [] [fl, n2, n3, n4] HN.out.1 none _ 0 _ _ (Lies.nil _ _ _ _) F10.out (by simp) (by simp)).mono ?_
      rintro e y11 ⟨v11, rfl, hv, hd⟩
      obtain ⟨A11, c11, rfl, -, hl⟩ := (own_of hv).lies
      replace F10 := Lib.hid (lies_on2 F10.out hd)
      replace F32 := Lib.hid (lies_on2 F32.out hd)
      have F11 := Lib.hid hl
      refine hK11 _ _ ((show VS V _ from hS32).keep hd) (fun hS11 => ?_)
      clear hv hd hl hS32 hK11 K11
      refine oQ 16 (h := fun K16 hK16 => ?_)
      refine ow_u64_2 _ _ rfl n5 n6 rfl rfl ?_
      intro y16 p16 hl hd
      replace F10 := Lib.hid (lies_on2 F10.out hd)
      replace F32 := Lib.hid (lies_on2 F32.out hd)
      replace F11 := Lib.hid (lies_on2 F11.out hd)
      have F16 := Lib.hid hl
      refine hK16 _ _ ((show VS V _ from hS11).keep hd) (fun hS16 => ?_)
      clear hl hd hS11 hK16 K16
      refine oQ 17 (h := fun K17 hK17 => ?_)
      go_simp
      refine (pb64 [] [n5, n6] HN.out.2.1 none _ 0 _ _ (Lies.nil _ _ _ _) F16.out (by simp) (by simp)).mono ?_
      rintro e y17 ⟨v17, rfl, hv, hd⟩
      obtain ⟨A17, c17, rfl, -, hl⟩ := (own_of hv).lies
      replace F10 := Lib.hid (lies_on2 F10.out hd)
      replace F32 := Lib.hid (lies_on2 F32.out hd)
      replace F11 := Lib.hid (lies_on2 F11.out hd)
      replace F16 := Lib.hid (lies_on2 F16.out hd)
      have F17 := Lib.hid hl
      refine hK17 _ _ ((show VS V _ from hS16).keep hd) (fun hS17 => ?_)
      clear hv hd hl hS16 hK17 K17
      refine oQ 33 (h := fun K33 hK33 => ?_)
      go_simp
      refine (shorts_any [m0, m1, m2, m3] HN.out.2.2 _ _ _ (by simp) F32.out).mono ?_
      rintro e y33 ⟨v33, rfl, hv, hd⟩
      obtain ⟨A33, c33, rfl, -, hl⟩ := (own_of hv).lies
      replace F10 := Lib.hid (lies_on2 F10.out hd)
      replace F32 := Lib.hid (lies_on2 F32.out hd)
      replace F11 := Lib.hid (lies_on2 F11.out hd)
      replace F16 := Lib.hid (lies_on2 F16.out hd)
      replace F17 := Lib.hid (lies_on2 F17.out hd)
      have F33 := Lib.hid hl
      refine hK33 _ _ ((show VS V _ from hS17).keep hd) (fun hS33 => ?_)
      clear hv hd hl hS17 hK33 K33
      clear F10 F16 F32
      revert hS33
      revert F33
      revert F17
      revert F11
      revert c33
      revert A33
      revert c17
      revert A17
      revert c11
      revert A11
      revert p32
      revert p16
      revert p10
      revert y33
      exact tail 0
     case hjt60 =>
      refine ow_u64_2 _ _ rfl n5 n6 rfl rfl ?_
      intro y16 p16 hl hd
      replace F10 := Lib.hid (lies_on2 F10.out hd)
      replace F32 := Lib.hid (lies_on2 F32.out hd)
      have F16 := Lib.hid hl
      refine hK16 _ _ ((show VS V _ from hS32).keep hd) (fun hS16 => ?_)
      clear hl hd hS32 hK16 K16
      refine oQ 11 (h := fun K11 hK11 => ?_)
      go_simp
      refine (pb32 [] [fl, n2, n3, n4] HN.out.1 none _ 0 _ _ (Lies.nil _ _ _ _) F10.out (by simp) (by simp)).mono ?_
      rintro e y11 ⟨v11, rfl, hv, hd⟩
      obtain ⟨A11, c11, rfl, -, hl⟩ := (own_of hv).lies
      replace F10 := Lib.hid (lies_on2 F10.out hd)
      replace F32 := Lib.hid (lies_on2 F32.out hd)
      replace F16 := Lib.hid (lies_on2 F16.out hd)
      have F11 := Lib.hid hl
      refine hK11 _ _ ((show VS V _ from hS16).keep hd) (fun hS11 => ?_)
      clear hv hd hl hS16 hK11 K11
      refine oQ 17 (h := fun K17 hK17 => ?_)
      go_simp
      refine (pb64 [] [n5, n6] HN.out.2.1 none _ 0 _ _ (Lies.nil _ _ _ _) F16.out (by simp) (by simp)).mono ?_
      rintro e y17 ⟨v17, rfl, hv, hd⟩
      obtain ⟨A17, c17, rfl, -, hl⟩ := (own_of hv).lies
      replace F10 := Lib.hid (lies_on2 F10.out hd)
      replace F32 := Lib.hid (lies_on2 F32.out hd)
      replace F16 := Lib.hid (lies_on2 F16.out hd)
      replace F11 := Lib.hid (lies_on2 F11.out hd)
      have F17 := Lib.hid hl
      refine hK17 _ _ ((show VS V _ from hS11).keep hd) (fun hS17 => ?_)
      clear hv hd hl hS11 hK17 K17
      refine oQ 33 (h := fun K33 hK33 => ?_)
      go_simp
      refine (shorts_any [m0, m1, m2, m3] HN.out.2.2 _ _ _ (by simp) F32.out).mono ?_
      rintro e y33 ⟨v33, rfl, hv, hd⟩
      obtain ⟨A33, c33, rfl, -, hl⟩ := (own_of hv).lies
      replace F10 := Lib.hid (lies_on2 F10.out hd)
      replace F32 := Lib.hid (lies_on2 F32.out hd)
      replace F16 := Lib.hid (lies_on2 F16.out hd)
      replace F11 := Lib.hid (lies_on2 F11.out hd)
      replace F17 := Lib.hid (lies_on2 F17.out hd)
      have F33 := Lib.hid hl
      refine hK33 _ _ ((show VS V _ from hS17).keep hd) (fun hS33 => ?_)
      clear hv hd hl hS17 hK33 K33
      clear F10 F16 F32
      revert hS33
      revert F33
      revert F17
      revert F11
      revert c33
      revert A33
      revert c17
      revert A17
      revert c11
      revert A11
      revert p32
      revert p16
      revert p10
      revert y33
      exact tail 0
   case hjt88 =>
    refine ow_u64_2 _ _ rfl n5 n6 rfl rfl ?_
    intro y16 p16 hl hd
    have F16 := Lib.hid hl
    refine hK16 _ _ ((show VS V _ from hS3).keep hd) (fun hS16 => ?_)
    clear hl hd hS3 hK16 K16
    refine wQ 10 32 (h1 := fun K10 hK10 => ?hit75) (h2 := fun K32 hK32 => ?hjt75)
    case hit75 =>
     refine ow_u32_4 _ _ _ _ rfl fl n2 n3 n4 rfl rfl rfl rfl ?_
     intro y10 p10 hl hd
     replace F16 := Lib.hid (lies_on2 F16.out hd)
     have F10 := Lib.hid hl
     refine hK10 _ _ ((show VS V _ from hS16).keep hd) (fun hS10 => ?_)
     clear hl hd hS16 hK10 K10
     refine wQ 11 32 (h1 := fun K11 hK11 => ?hit70) (h2 := fun K32 hK32 => ?hjt70)
     case hit70 =>
      go_simp
      refine (pb32 [] [fl, n2, n3, n4] HN.out.1 none _ 0 _ _ (Lies.nil _ _ _ _) F10.out (by simp) (by simp)).mono ?_
      rintro e y11 ⟨v11, rfl, hv, hd⟩
      obtain ⟨A11, c11, rfl, -, hl⟩ := (own_of hv).lies
      replace F16 := Lib.hid (lies_on2 F16.out hd)
      replace F10 := Lib.hid (lies_on2 F10.out hd)
      have F11 := Lib.hid hl
      refine hK11 _ _ ((show VS V _ from hS10).keep hd) (fun hS11 => ?_)
      clear hv hd hl hS10 hK11 K11
      refine wQ 17 32 (h1 := fun K17 hK17 => ?hit66) (h2 := fun K32 hK32 => ?hjt66)
      case hit66 =>
       go_simp
       refine (pb64 [] [n5, n6] HN.out.2.1 none _ 0 _ _ (Lies.nil _ _ _ _) F16.out (by simp) (by simp)).mono ?_
       rintro e y17 ⟨v17, rfl, hv, hd⟩
       obtain ⟨A17, c17, rfl, -, hl⟩ := (own_of hv).lies
       replace F16 := Lib.hid (lies_on2 F16.out hd)
       replace F10 := Lib.hid (lies_on2 F10.out hd)
       replace F11 := Lib.hid (lies_on2 F11.out hd)
       have F17 := Lib.hid hl
       refine hK17 _ _ ((show VS V _ from hS11).keep hd) (fun hS17 => ?_)
       clear hv hd hl hS11 hK17 K17
       refine oQ 32 (h := fun K32 hK32 => ?_)
       refine ow_i64_4 _ _ _ _ rfl m0 m1 m2 m3 rfl rfl rfl rfl ?_
       intro y32 p32 hl hd
       replace F16 := Lib.hid (lies_on2 F16.out hd)
       replace F10 := Lib.hid (lies_on2 F10.out hd)
       replace F11 := Lib.hid (lies_on2 F11.out hd)
       replace F17 := Lib.hid (lies_on2 F17.out hd)
       have F32 := Lib.hid hl
       refine hK32 _ _ ((show VS V _ from hS17).keep hd) (fun hS32 => ?_)
       clear hl hd hS17 hK32 K32
       refine oQ 33 (h := fun K33 hK33 => ?_)
       go_simp
       refine (shorts_any [m0, m1, m2, m3] HN.out.2.2 _ _ _ (by simp) F32.out).mono ?_
       rintro e y33 ⟨v33, rfl, hv, hd⟩
       obtain ⟨A33, c33, rfl, -, hl⟩ := (own_of hv).lies
       replace F16 := Lib.hid (lies_on2 F16.out hd)
       replace F10 := Lib.hid (lies_on2 F10.out hd)
       replace F11 := Lib.hid (lies_on2 F11.out hd)
       replace F17 := Lib.hid (lies_on2 F17.out hd)
       replace F32 := Lib.hid (lies_on2 F32.out hd)
       have F33 := Lib.hid hl
       refine hK33 _ _ ((show VS V _ from hS32).keep hd) (fun hS33 => ?_)
       clear hv hd hl hS32 hK33 K33
       clear F10 F16 F32
       revert hS33
       revert F33
       revert F17
       revert F11
       revert c33
       revert A33
       revert c17
       revert A17
       revert c11
       revert A11
       revert p32
       revert p16
       revert p10
       revert y33
       exact tail 0
      case hjt66 =>
       refine ow_i64_4 _ _ _ _ rfl m0 m1 m2 m3 rfl rfl rfl rfl ?_
       intro y32 p32 hl hd
       replace F16 := Lib.hid (lies_on2 F16.out hd)
       replace F10 := Lib.hid (lies_on2 F10.out hd)
       replace F11 := Lib.hid (lies_on2 F11.out hd)
       have F32 := Lib.hid hl
       refine hK32 _ _ ((show VS V _ from hS11).keep hd) (fun hS32 => ?_)
       clear hl hd hS11 hK32 K32
       refine oQ 17 (h := fun K17 hK17 => ?_)
       go_simp
       refine (pb64 [] [n5, n6] HN.out.2.1 none _ 0 _ _ (Lies.nil _ _ _ _) F16.out (by simp) (by simp)).mono ?_
       rintro e y17 ⟨v17, rfl, hv, hd⟩
       obtain ⟨A17, c17, rfl, -, hl⟩ := (own_of hv).lies
       replace F16 := Lib.hid (lies_on2 F16.out hd)
       replace F10 := Lib.hid (lies_on2 F10.out hd)
       replace F11 := Lib.hid (lies_on2 F11.out hd)
       replace F32 := Lib.hid (lies_on2 F32.out hd)
       have F17 := Lib.hid hl
       refine hK17 _ _ ((show VS V _ from hS32).keep hd) (fun hS17 => ?_)
       clear hv hd hl hS32 hK17 K17
       refine oQ 33 (h := fun K33 hK33 => ?_)
       go_simp
       refine (shorts_any [m0, m1, m2, m3] HN.out.2.2 _ _ _ (by simp) F32.out).mono ?_
       rintro e y33 ⟨v33, rfl, hv, hd⟩
       obtain ⟨A33, c33, rfl, -, hl⟩ := (own_of hv).lies
       replace F16 := Lib.hid (lies_on2 F16.out hd)
       replace F10 := Lib.hid (lies_on2 F10.out hd)
       replace F11 := Lib.hid (lies_on2 F11.out hd)
       replace F32 := Lib.hid (lies_on2 F32.out hd)
       replace F17 := Lib.hid (lies_on2 F17.out hd)
       have F33 := Lib.hid hl
       refine hK33 _ _ ((show VS V _ from hS17).keep hd) (fun hS33 => ?_)
       clear hv hd hl hS17 hK33 K33
       clear F10 F16 F32
       revert hS33
       revert F33
       revert F17
       revert F11
       revert c33
       revert A33
       revert c17
       revert A17
       revert c11
       revert A11
       revert p32
       revert p16
       revert p10
       revert y33
       exact tail 0
     case hjt70 =>
      refine ow_i64_4 _ _ _ _ rfl m0 m1 m2 m3 rfl rfl rfl rfl ?_
      intro y32 p32 hl hd
      replace F16 := Lib.hid (lies_on2 F16.out hd)
      replace F10 := Lib.hid (lies_on2 F10.out hd)
      have F32 := Lib.hid hl
      refine hK32 _ _ ((show VS V _ from hS10).keep hd) (fun hS32 => ?_)
      clear hl hd hS10 hK32 K32
      refine oQ 11 (h := fun K11 hK11 => ?_)
      go_simp
      refine (pb32 [] [fl, n2, n3, n4] HN.out.1 none _ 0 _ _ (Lies.nil _ _ _ _) F10.out (by simp) (by simp)).mono ?_
      rintro e y11 ⟨v11, rfl, hv, hd⟩
      obtain ⟨A11, c11, rfl, -, hl⟩ := (own_of hv).lies
      replace F16 := Lib.hid (lies_on2 F16.out hd)
      replace F10 := Lib.hid (lies_on2 F10.out hd)
      replace F32 := Lib.hid (lies_on2 F32.out hd)
      have F11 := Lib.hid hl
      refine hK11 _ _ ((show VS V _ from hS32).keep hd) (fun hS11 => ?_)
      clear hv hd hl hS32 hK11 K11
      refine oQ 17 (h := fun K17 hK17 => ?_)
      go_simp
      refine (pb64 [] [n5, n6] HN.out.2.1 none _ 0 _ _ (Lies.nil _ _ _ _) F16.out (by simp) (by simp)).mono ?_
      rintro e y17 ⟨v17, rfl, hv, hd⟩
      obtain ⟨A17, c17, rfl, -, hl⟩ := (own_of hv).lies
      replace F16 := Lib.hid (lies_on2 F16.out hd)
      replace F10 := Lib.hid (lies_on2 F10.out hd)
      replace F32 := Lib.hid (lies_on2 F32.out hd)
      replace F11 := Lib.hid (lies_on2 F11.out hd)
      have F17 := Lib.hid hl
      refine hK17 _ _ ((show VS V _ from hS11).keep hd) (fun hS17 => ?_)
      clear hv hd hl hS11 hK17 K17
      refine oQ 33 (h := fun K33 hK33 => ?_)
      go_simp
      refine (shorts_any [m0, m1, m2, m3] HN.out.2.2 _ _ _ (by simp) F32.out).mono ?_
      rintro e y33 ⟨v33, rfl, hv, hd⟩
      obtain ⟨A33, c33, rfl, -, hl⟩ := (own_of hv).lies
      replace F16 := Lib.hid (lies_on2 F16.out hd)
      replace F10 := Lib.hid (lies_on2 F10.out hd)
      replace F32 := Lib.hid (lies_on2 F32.out hd)
      replace F11 := Lib.hid (lies_on2 F11.out hd)
      replace F17 := Lib.hid (lies_on2 F17.out hd)
      have F33 := Lib.hid hl
      refine hK33 _ _ ((show VS V _ from hS17).keep hd) (fun hS33 => ?_)
      clear hv hd hl hS17 hK33 K33
      clear F10 F16 F32
      revert hS33
      revert F33
      revert F17
      revert F11
      revert c33
      revert A33
      revert c17
      revert A17
      revert c11
      revert A11
      revert p32
      revert p16
      revert p10
      revert y33
      exact tail 0
    case hjt75 =>
     refine ow_i64_4 _ _ _ _ rfl m0 m1 m2 m3 rfl rfl rfl rfl ?_
     intro y32 p32 hl hd
     replace F16 := Lib.hid (lies_on2 F16.out hd)
     have F32 := Lib.hid hl
     refine hK32 _ _ ((show VS V _ from hS16).keep hd) (fun hS32 => ?_)
     clear hl hd hS16 hK32 K32
     refine oQ 10 (h := fun K10 hK10 => ?_)
     refine ow_u32_4 _ _ _ _ rfl fl n2 n3 n4 rfl rfl rfl rfl ?_
     intro y10 p10 hl hd
     replace F16 := Lib.hid (lies_on2 F16.out hd)
     replace F32 := Lib.hid (lies_on2 F32.out hd)
     have F10 := Lib.hid hl
     refine hK10 _ _ ((show VS V _ from hS32).keep hd) (fun hS10 => ?_)
     clear hl hd hS32 hK10 K10
     refine oQ 11 (h := fun K11 hK11 => ?_)
     go_simp
     refine (pb32 [] [fl, n2, n3, n4] HN.out.1 none _ 0 _ _ (Lies.nil _ _ _ _) F10.out (by simp) (by simp)).mono ?_
     rintro e y11 ⟨v11, rfl, hv, hd⟩
     obtain ⟨A11, c11, rfl, -, hl⟩ := (own_of hv).lies
     replace F16 := Lib.hid (lies_on2 F16.out hd)
     replace F32 := Lib.hid (lies_on2 F32.out hd)
     replace F10 := Lib.hid (lies_on2 F10.out hd)
     have F11 := Lib.hid hl
     refine hK11 _ _ ((show VS V _ from hS10).keep hd) (fun hS11 => ?_)
     clear hv hd hl hS10 hK11 K11
     refine oQ 17 (h := fun K17 hK17 => ?_)
     go_simp
     refine (pb64 [] [n5, n6] HN.out.2.1 none _ 0 _ _ (Lies.nil _ _ _ _) F16.out (by simp) (by simp)).mono ?_
     rintro e y17 ⟨v17, rfl, hv, hd⟩
     obtain ⟨A17, c17, rfl, -, hl⟩ := (own_of hv).lies
     replace F16 := Lib.hid (lies_on2 F16.out hd)
     replace F32 := Lib.hid (lies_on2 F32.out hd)
     replace F10 := Lib.hid (lies_on2 F10.out hd)
     replace F11 := Lib.hid (lies_on2 F11.out hd)
     have F17 := Lib.hid hl
     refine hK17 _ _ ((show VS V _ from hS11).keep hd) (fun hS17 => ?_)
     clear hv hd hl hS11 hK17 K17
     refine oQ 33 (h := fun K33 hK33 => ?_)
     go_simp
     refine (shorts_any [m0, m1, m2, m3] HN.out.2.2 _ _ _ (by simp) F32.out).mono ?_
     rintro e y33 ⟨v33, rfl, hv, hd⟩
     obtain ⟨A33, c33, rfl, -, hl⟩ := (own_of hv).lies
     replace F16 := Lib.hid (lies_on2 F16.out hd)
     replace F32 := Lib.hid (lies_on2 F32.out hd)
     replace F10 := Lib.hid (lies_on2 F10.out hd)
     replace F11 := Lib.hid (lies_on2 F11.out hd)
     replace F17 := Lib.hid (lies_on2 F17.out hd)
     have F33 := Lib.hid hl
     refine hK33 _ _ ((show VS V _ from hS17).keep hd) (fun hS33 => ?_)
     clear hv hd hl hS17 hK33 K33
     clear F10 F16 F32
     revert hS33
     revert F33
     revert F17
     revert F11
     revert c33
     revert A33
     revert c17
     revert A17
     revert c11
     revert A11
     revert p32
     revert p16
     revert p10
     revert y33
     exact tail 0
   case hkt88 =>
    refine ow_i64_4 _ _ _ _ rfl m0 m1 m2 m3 rfl rfl rfl rfl ?_
    intro y32 p32 hl hd
    have F32 := Lib.hid hl
    refine hK32 _ _ ((show VS V _ from hS3).keep hd) (fun hS32 => ?_)
    clear hl hd hS3 hK32 K32
    refine wQ 10 16 (h1 := fun K10 hK10 => ?hit87) (h2 := fun K16 hK16 => ?hjt87)
    case hit87 =>
     refine ow_u32_4 _ _ _ _ rfl fl n2 n3 n4 rfl rfl rfl rfl ?_
     intro y10 p10 hl hd
     replace F32 := Lib.hid (lies_on2 F32.out hd)
     have F10 := Lib.hid hl
     refine hK10 _ _ ((show VS V _ from hS32).keep hd) (fun hS10 => ?_)
     clear hl hd hS32 hK10 K10
     refine wQ 11 16 (h1 := fun K11 hK11 => ?hit82) (h2 := fun K16 hK16 => ?hjt82)
     case hit82 =>
      go_simp
      refine (pb32 [] [fl, n2, n3, n4] HN.out.1 none _ 0 _ _ (Lies.nil _ _ _ _) F10.out (by simp) (by simp)).mono ?_
      rintro e y11 ⟨v11, rfl, hv, hd⟩
      obtain ⟨A11, c11, rfl, -, hl⟩ := (own_of hv).lies
      replace F32 := Lib.hid (lies_on2 F32.out hd)
      replace F10 := Lib.hid (lies_on2 F10.out hd)
      have F11 := Lib.hid hl
      refine hK11 _ _ ((show VS V _ from hS10).keep hd) (fun hS11 => ?_)
      clear hv hd hl hS10 hK11 K11
      refine oQ 16 (h := fun K16 hK16 => ?_)
      refine ow_u64_2 _ _ rfl n5 n6 rfl rfl ?_
      intro y16 p16 hl hd
      replace F32 := Lib.hid (lies_on2 F32.out hd)
      replace F10 := Lib.hid (lies_on2 F10.out hd)
      replace F11 := Lib.hid (lies_on2 F11.out hd)
      have F16 := Lib.hid hl
      refine hK16 _ _ ((show VS V _ from hS11).keep hd) (fun hS16 => ?_)
      clear hl hd hS11 hK16 K16
      refine oQ 17 (h := fun K17 hK17 => ?_)
      go_simp
      refine (pb64 [] [n5, n6] HN.out.2.1 none _ 0 _ _ (Lies.nil _ _ _ _) F16.out (by simp) (by simp)).mono ?_
      rintro e y17 ⟨v17, rfl, hv, hd⟩
      obtain ⟨A17, c17, rfl, -, hl⟩ := (own_of hv).lies
      replace F32 := Lib.hid (lies_on2 F32.out hd)
      replace F10 := Lib.hid (lies_on2 F10.out hd)
      replace F11 := Lib.hid (lies_on2 F11.out hd)
      replace F16 := Lib.hid (lies_on2 F16.out hd)
      have F17 := Lib.hid hl
      refine hK17 _ _ ((show VS V _ from hS16).keep hd) (fun hS17 => ?_)
      clear hv hd hl hS16 hK17 K17
      refine oQ 33 (h := fun K33 hK33 => ?_)
      go_simp
      refine (shorts_any [m0, m1, m2, m3] HN.out.2.2 _ _ _ (by simp) F32.out).mono ?_
      rintro e y33 ⟨v33, rfl, hv, hd⟩
      obtain ⟨A33, c33, rfl, -, hl⟩ := (own_of hv).lies
      replace F32 := Lib.hid (lies_on2 F32.out hd)
      replace F10 := Lib.hid (lies_on2 F10.out hd)
      replace F11 := Lib.hid (lies_on2 F11.out hd)
      replace F16 := Lib.hid (lies_on2 F16.out hd)
      replace F17 := Lib.hid (lies_on2 F17.out hd)
      have F33 := Lib.hid hl
      refine hK33 _ _ ((show VS V _ from hS17).keep hd) (fun hS33 => ?_)
      clear hv hd hl hS17 hK33 K33
      clear F10 F16 F32
      revert hS33
      revert F33
      revert F17
      revert F11
      revert c33
      revert A33
      revert c17
      revert A17
      revert c11
      revert A11
      revert p32
      revert p16
      revert p10
      revert y33
      exact tail 0
     case hjt82 =>
      refine ow_u64_2 _ _ rfl n5 n6 rfl rfl ?_
      intro y16 p16 hl hd
      replace F32 := Lib.hid (lies_on2 F32.out hd)
      replace F10 := Lib.hid (lies_on2 F10.out hd)
      have F16 := Lib.hid hl
      refine hK16 _ _ ((show VS V _ from hS10).keep hd) (fun hS16 => ?_)
      clear hl hd hS10 hK16 K16
      refine oQ 11 (h := fun K11 hK11 => ?_)
      go_simp
      refine (pb32 [] [fl, n2, n3, n4] HN.out.1 none _ 0 _ _ (Lies.nil _ _ _ _) F10.out (by simp) (by simp)).mono ?_
      rintro e y11 ⟨v11, rfl, hv, hd⟩
      obtain ⟨A11, c11, rfl, -, hl⟩ := (own_of hv).lies
      replace F32 := Lib.hid (lies_on2 F32.out hd)
      replace F10 := Lib.hid (lies_on2 F10.out hd)
      replace F16 := Lib.hid (lies_on2 F16.out hd)
      have F11 := Lib.hid hl
      refine hK11 _ _ ((show VS V _ from hS16).keep hd) (fun hS11 => ?_)
      clear hv hd hl hS16 hK11 K11
      refine oQ 17 (h := fun K17 hK17 => ?_)
      go_simp
      refine (pb64 [] [n5, n6] HN.out.2.1 none _ 0 _ _ (Lies.nil _ _ _ _) F16.out (by simp) (by simp)).mono ?_
      rintro e y17 ⟨v17, rfl, hv, hd⟩
      obtain ⟨A17, c17, rfl, -, hl⟩ := (own_of hv).lies
      replace F32 := Lib.hid (lies_on2 F32.out hd)
      replace F10 := Lib.hid (lies_on2 F10.out hd)
      replace F16 := Lib.hid (lies_on2 F16.out hd)
      replace F11 := Lib.hid (lies_on2 F11.out hd)
      have F17 := Lib.hid hl
      refine hK17 _ _ ((show VS V _ from hS11).keep hd) (fun hS17 => ?_)
      clear hv hd hl hS11 hK17 K17
      refine oQ 33 (h := fun K33 hK33 => ?_)
      go_simp
      refine (shorts_any [m0, m1, m2, m3] HN.out.2.2 _ _ _ (by simp) F32.out).mono ?_
      rintro e y33 ⟨v33, rfl, hv, hd⟩
      obtain ⟨A33, c33, rfl, -, hl⟩ := (own_of hv).lies
      replace F32 := Lib.hid (lies_on2 F32.out hd)
      replace F10 := Lib.hid (lies_on2 F10.out hd)
      replace F16 := Lib.hid (lies_on2 F16.out hd)
      replace F11 := Lib.hid (lies_on2 F11.out hd)
      replace F17 := Lib.hid (lies_on2 F17.out hd)
      have F33 := Lib.hid hl
      refine hK33 _ _ ((show VS V _ from hS17).keep hd) (fun hS33 => ?_)
      clear hv hd hl hS17 hK33 K33
      clear F10 F16 F32
      revert hS33
      revert F33
      revert F17
      revert F11
      revert c33
      revert A33
      revert c17
      revert A17
      revert c11
      revert A11
      revert p32
      revert p16
      revert p10
      revert y33
      exact tail 0
    case hjt87 =>
     refine ow_u64_2 _ _ rfl n5 n6 rfl rfl ?_
     intro y16 p16 hl hd
     replace F32 := Lib.hid (lies_on2 F32.out hd)
     have F16 := Lib.hid hl
     refine hK16 _ _ ((show VS V _ from hS32).keep hd) (fun hS16 => ?_)
     clear hl hd hS32 hK16 K16
     refine oQ 10 (h := fun K10 hK10 => ?_)
     refine ow_u32_4 _ _ _ _ rfl fl n2 n3 n4 rfl rfl rfl rfl ?_
     intro y10 p10 hl hd
     replace F32 := Lib.hid (lies_on2 F32.out hd)
     replace F16 := Lib.hid (lies_on2 F16.out hd)
     have F10 := Lib.hid hl
     refine hK10 _ _ ((show VS V _ from hS16).keep hd) (fun hS10 => ?_)
     clear hl hd hS16 hK10 K10
     refine oQ 11 (h := fun K11 hK11 => ?_)
     go_simp
     refine (pb32 [] [fl, n2, n3, n4] HN.out.1 none _ 0 _ _ (Lies.nil _ _ _ _) F10.out (by simp) (by simp)).mono ?_
     rintro e y11 ⟨v11, rfl, hv, hd⟩
     obtain ⟨A11, c11, rfl, -, hl⟩ := (own_of hv).lies
     replace F32 := Lib.hid (lies_on2 F32.out hd)
     replace F16 := Lib.hid (lies_on2 F16.out hd)
     replace F10 := Lib.hid (lies_on2 F10.out hd)
     have F11 := Lib.hid hl
     refine hK11 _ _ ((show VS V _ from hS10).keep hd) (fun hS11 => ?_)
     clear hv hd hl hS10 hK11 K11
     refine oQ 17 (h := fun K17 hK17 => ?_)
     go_simp
     refine (pb64 [] [n5, n6] HN.out.2.1 none _ 0 _ _ (Lies.nil _ _ _ _) F16.out (by simp) (by simp)).mono ?_
     rintro e y17 ⟨v17, rfl, hv, hd⟩
     obtain ⟨A17, c17, rfl, -, hl⟩ := (own_of hv).lies
     replace F32 := Lib.hid (lies_on2 F32.out hd)
     replace F16 := Lib.hid (lies_on2 F16.out hd)
     replace F10 := Lib.hid (lies_on2 F10.out hd)
     replace F11 := Lib.hid (lies_on2 F11.out hd)
     have F17 := Lib.hid hl
     refine hK17 _ _ ((show VS V _ from hS11).keep hd) (fun hS17 => ?_)
     clear hv hd hl hS11 hK17 K17
     refine oQ 33 (h := fun K33 hK33 => ?_)
     go_simp
     refine (shorts_any [m0, m1, m2, m3] HN.out.2.2 _ _ _ (by simp) F32.out).mono ?_
     rintro e y33 ⟨v33, rfl, hv, hd⟩
     obtain ⟨A33, c33, rfl, -, hl⟩ := (own_of hv).lies
     replace F32 := Lib.hid (lies_on2 F32.out hd)
     replace F16 := Lib.hid (lies_on2 F16.out hd)
     replace F10 := Lib.hid (lies_on2 F10.out hd)
     replace F11 := Lib.hid (lies_on2 F11.out hd)
     replace F17 := Lib.hid (lies_on2 F17.out hd)
     have F33 := Lib.hid hl
     refine hK33 _ _ ((show VS V _ from hS17).keep hd) (fun hS33 => ?_)
     clear hv hd hl hS17 hK33 K33
     clear F10 F16 F32
     revert hS33
     revert F33
     revert F17
     revert F11
     revert c33
     revert A33
     revert c17
     revert A17
     revert c11
     revert A11
     revert p32
     revert p16
     revert p10
     revert y33
     exact tail 0
  case hjt127 =>
   refine ow_u64_2 _ _ rfl n5 n6 rfl rfl ?_
   intro y16 p16 hl hd
   have F16 := Lib.hid hl
   refine hK16 _ _ ((show VS V _ from hS).keep hd) (fun hS16 => ?_)
   clear hl hd hS hK16 K16
   refine wQ 3 32 (h1 := fun K3 hK3 => ?hit108) (h2 := fun K32 hK32 => ?hjt108)
   case hit108 =>
    go_simp
    refine (HFL.out _).mono ?_
    rintro e y3 ⟨rfl, rfl⟩
    refine hK3 _ _ hS16 (fun hS3 => ?_)
    clear hS16 hK3 K3
    refine wQ 10 32 (h1 := fun K10 hK10 => ?hit102) (h2 := fun K32 hK32 => ?hjt102)
    case hit102 =>
     refine ow_u32_4 _ _ _ _ rfl fl n2 n3 n4 rfl rfl rfl rfl ?_
     intro y10 p10 hl hd
     replace F16 := Lib.hid (lies_on2 F16.out hd)
     have F10 := Lib.hid hl
     refine hK10 _ _ ((show VS V _ from hS3).keep hd) (fun hS10 => ?_)
     clear hl hd hS3 hK10 K10
     refine wQ 11 32 (h1 := fun K11 hK11 => ?hit97) (h2 := fun K32 hK32 => ?hjt97)
     case hit97 =>
      go_simp
      refine (pb32 [] [fl, n2, n3, n4] HN.out.1 none _ 0 _ _ (Lies.nil _ _ _ _) F10.out (by simp) (by simp)).mono ?_
      rintro e y11 ⟨v11, rfl, hv, hd⟩
      obtain ⟨A11, c11, rfl, -, hl⟩ := (own_of hv).lies
      replace F16 := Lib.hid (lies_on2 F16.out hd)
      replace F10 := Lib.hid (lies_on2 F10.out hd)
      have F11 := Lib.hid hl
      refine hK11 _ _ ((show VS V _ from hS10).keep hd) (fun hS11 => ?_)
      clear hv hd hl hS10 hK11 K11
      refine wQ 17 32 (h1 := fun K17 hK17 => ?hit93) (h2 := fun K32 hK32 => ?hjt93)
      case hit93 =>
       go_simp
       refine (pb64 [] [n5, n6] HN.out.2.1 none _ 0 _ _ (Lies.nil _ _ _ _) F16.out (by simp) (by simp)).mono ?_
       rintro e y17 ⟨v17, rfl, hv, hd⟩
       obtain ⟨A17, c17, rfl, -, hl⟩ := (own_of hv).lies
       replace F16 := Lib.hid (lies_on2 F16.out hd)
       replace F10 := Lib.hid (lies_on2 F10.out hd)
       replace F11 := Lib.hid (lies_on2 F11.out hd)
       have F17 := Lib.hid hl
       refine hK17 _ _ ((show VS V _ from hS11).keep hd) (fun hS17 => ?_)
       clear hv hd hl hS11 hK17 K17
       refine oQ 32 (h := fun K32 hK32 => ?_)
       refine ow_i64_4 _ _ _ _ rfl m0 m1 m2 m3 rfl rfl rfl rfl ?_
       intro y32 p32 hl hd
       replace F16 := Lib.hid (lies_on2 F16.out hd)
       replace F10 := Lib.hid (lies_on2 F10.out hd)
       replace F11 := Lib.hid (lies_on2 F11.out hd)
       replace F17 := Lib.hid (lies_on2 F17.out hd)
       have F32 := Lib.hid hl
       refine hK32 _ _ ((show VS V _ from hS17).keep hd) (fun hS32 => ?_)
       clear hl hd hS17 hK32 K32
       refine oQ 33 (h := fun K33 hK33 => ?_)
       go_simp
       refine (shorts_any [m0, m1, m2, m3] HN.out.2.2 _ _ _ (by simp) F32.out).mono ?_
       rintro e y33 ⟨v33, rfl, hv, hd⟩
       obtain ⟨A33, c33, rfl, -, hl⟩ := (own_of hv).lies
       replace F16 := Lib.hid (lies_on2 F16.out hd)
       replace F10 := Lib.hid (lies_on2 F10.out hd)
       replace F11 := Lib.hid (lies_on2 F11.out hd)
       replace F17 := Lib.hid (lies_on2 F17.out hd)
       replace F32 := Lib.hid (lies_on2 F32.out hd)
       have F33 := Lib.hid hl
       refine hK33 _ _ ((show VS V _ from hS32).keep hd) (fun hS33 => ?_)
       clear hv hd hl hS32 hK33 K33
       clear F10 F16 F32
       revert hS33
       revert F33
       revert F17
       revert F11
       revert c33
       revert A33
       revert c17
       revert A17
       revert c11
       revert A11
       revert p32
       revert p16
       revert p10
       revert y33
       exact tail 0
      case hjt93 =>
       refine ow_i64_4 _ _ _ _ rfl m0 m1 m2 m3 rfl rfl rfl rfl ?_
       intro y32 p32 hl hd
       replace F16 := Lib.hid (lies_on2 F16.out hd)
       replace F10 := Lib.hid (lies_on2 F10.out hd)
       replace F11 := Lib.hid (lies_on2 F11.out hd)
       have F32 := Lib.hid hl
       refine hK32 _ _ ((show VS V _ from hS11).keep hd) (fun hS32 => ?_)
       clear hl hd hS11 hK32 K32
       refine oQ 17 (h := fun K17 hK17 => ?_)
       go_simp
       refine (pb64 [] [n5, n6] HN.out.2.1 none _ 0 _ _ (Lies.nil _ _ _ _) F16.out (by simp) (by simp)).mono ?_
       rintro e y17 ⟨v17, rfl, hv, hd⟩
       obtain ⟨A17, c17, rfl, -, hl⟩ := (own_of hv).lies
       replace F16 := Lib.hid (lies_on2 F16.out hd)
       replace F10 := Lib.hid (lies_on2 F10.out hd)
       replace F11 := Lib.hid (lies_on2 F11.out hd)
       replace F32 := Lib.hid (lies_on2 F32.out hd)
       have F17 := Lib.hid hl
       refine hK17 _ _ ((show VS V _ from hS32).keep hd) (fun hS17 => ?_)
       clear hv hd hl hS32 hK17 K17
       refine oQ 33 (h := fun K33 hK33 => ?_)
       go_simp
       refine (shorts_any [m0, m1, m2, m3] HN.out.2.2 _ _ _ (by simp) F32.out).mono ?_
       rintro e y33 ⟨v33, rfl, hv, hd⟩
       obtain ⟨A33, c33, rfl, -, hl⟩ := (own_of hv).lies
       replace F16 := Lib.hid (lies_on2 F16.out hd)
       replace F10 := Lib.hid (lies_on2 F10.out hd)
       replace F11 := Lib.hid (lies_on2 F11.out hd)
       replace F32 := Lib.hid (lies_on2 F32.out hd)
       replace F17 := Lib.hid (lies_on2 F17.out hd)
       have F33 := Lib.hid hl
       refine hK33 _ _ ((show VS V _ from hS17).keep hd) (fun hS33 => ?_)
       clear hv hd hl hS17 hK33 K33
       clear F10 F16 F32
       revert hS33
       revert F33
       revert F17
       revert F11
       revert c33
       revert A33
       revert c17
       revert A17
       revert c11
       revert A11
       revert p32
       revert p16
       revert p10
       revert y33
       exact tail 0
     case hjt97 =>
      refine ow_i64_4 _ _ _ _ rfl m0 m1 m2 m3 rfl rfl rfl rfl ?_
      intro y32 p32 hl hd
      replace F16 := Lib.hid (lies_on2 F16.out hd)
      replace F10 := Lib.hid (lies_on2 F10.out hd)
      have F32 := Lib.hid hl
      refine hK32 _ _ ((show VS V _ from hS10).keep hd) (fun hS32 => ?_)
      clear hl hd hS10 hK32 K32
      refine oQ 11 (h := fun K11 hK11 => ?_)
      go_simp
      refine (pb32 [] [fl, n2, n3, n4] HN.out.1 none _ 0 _ _ (Lies.nil _ _ _ _) F10.out (by simp) (by simp)).mono ?_
      rintro e y11 ⟨v11, rfl, hv, hd⟩
      obtain ⟨A11, c11, rfl, -, hl⟩ := (own_of hv).lies
      replace F16 := Lib.hid (lies_on2 F16.out hd)
      replace F10 := Lib.hid (lies_on2 F10.out hd)
      replace F32 := Lib.hid (lies_on2 F32.out hd)
      have F11 := Lib.hid hl
      refine hK11 _ _ ((show VS V _ from hS32).keep hd) (fun hS11 => ?_)
      clear hv hd hl hS32 hK11 K11
      refine oQ 17 (h := fun K17 hK17 => ?_)
      go_simp
      refine (pb64 [] [n5, n6] HN.out.2.1 none _ 0 _ _ (Lies.nil _ _ _ _) F16.out (by simp) (by simp)).mono ?_
      rintro e y17 ⟨v17, rfl, hv, hd⟩
      obtain ⟨A17, c17, rfl, -, hl⟩ := (own_of hv).lies
      replace F16 := Lib.hid (lies_on2 F16.out hd)
      replace F10 := Lib.hid (lies_on2 F10.out hd)
      replace F32 := Lib.hid (lies_on2 F32.out hd)
      replace F11 := Lib.hid (lies_on2 F11.out hd)
      have F17 := Lib.hid hl
      refine hK17 _ _ ((show VS V _ from hS11).keep hd) (fun hS17 => ?_)
      clear hv hd hl hS11 hK17 K17
      refine oQ 33 (h := fun K33 hK33 => ?_)
      go_simp
      refine (shorts_any [m0, m1, m2, m3] HN.out.2.2 _ _ _ (by simp) F32.out).mono ?_
      rintro e y33 ⟨v33, rfl, hv, hd⟩
      obtain ⟨A33, c33, rfl, -, hl⟩ := (own_of hv).lies
      replace F16 := Lib.hid (lies_on2 F16.out hd)
      replace F10 := Lib.hid (lies_on2 F10.out hd)
      replace F32 := Lib.hid (lies_on2 F32.out hd)
      replace F11 := Lib.hid (lies_on2 F11.out hd)
      replace F17 := Lib.hid (lies_on2 F17.out hd)
      have F33 := Lib.hid hl
      refine hK33 _ _ ((show VS V _ from hS17).keep hd) (fun hS33 => ?_)
      clear hv hd hl hS17 hK33 K33
      clear F10 F16 F32
      revert hS33
      revert F33
      revert F17
      revert F11
      revert c33
      revert A33
      revert c17
      revert A17
      revert c11
      revert A11
      revert p32
      revert p16
      revert p10
      revert y33
      exact tail 0
    case hjt102 =>
     refine ow_i64_4 _ _ _ _ rfl m0 m1 m2 m3 rfl rfl rfl rfl ?_
     intro y32 p32 hl hd
     replace F16 := Lib.hid (lies_on2 F16.out hd)
     have F32 := Lib.hid hl
     refine hK32 _ _ ((show VS V _ from hS3).keep hd) (fun hS32 => ?_)
     clear hl hd hS3 hK32 K32
     refine oQ 10 (h := fun K10 hK10 => ?_)
     refine ow_u32_4 _ _ _ _ rfl fl n2 n3 n4 rfl rfl rfl rfl ?_
     intro y10 p10 hl hd
     replace F16 := Lib.hid (lies_on2 F16.out hd)
     replace F32 := Lib.hid (lies_on2 F32.out hd)
     have F10 := Lib.hid hl
     refine hK10 _ _ ((show VS V _ from hS32).keep hd) (fun hS10 => ?_)
     clear hl hd hS32 hK10 K10
     refine oQ 11 (h := fun K11 hK11 => ?_)
     go_simp
     refine (pb32 [] [fl, n2, n3, n4] HN.out.1 none _ 0 _ _ (Lies.nil _ _ _ _) F10.out (by simp) (by simp)).mono ?_
     rintro e y11 ⟨v11, rfl, hv, hd⟩
     obtain ⟨A11, c11, rfl, -, hl⟩ := (own_of hv).lies
     replace F16 := Lib.hid (lies_on2 F16.out hd)
     replace F32 := Lib.hid (lies_on2 F32.out hd)
     replace F10 := Lib.hid (lies_on2 F10.out hd)
     have F11 := Lib.hid hl
     refine hK11 _ _ ((show VS V _ from hS10).keep hd) (fun hS11 => ?_)
     clear hv hd hl hS10 hK11 K11
     refine oQ 17 (h := fun K17 hK17 => ?_)
     go_simp
     refine (pb64 [] [n5, n6] HN.out.2.1 none _ 0 _ _ (Lies.nil _ _ _ _) F16.out (by simp) (by simp)).mono ?_
     rintro e y17 ⟨v17, rfl, hv, hd⟩
     obtain ⟨A17, c17, rfl, -, hl⟩ := (own_of hv).lies
     replace F16 := Lib.hid (lies_on2 F16.out hd)
     replace F32 := Lib.hid (lies_on2 F32.out hd)
     replace F10 := Lib.hid (lies_on2 F10.out hd)
     replace F11 := Lib.hid (lies_on2 F11.out hd)
     have F17 := Lib.hid hl
     refine hK17 _ _ ((show VS V _ from hS11).keep hd) (fun hS17 => ?_)
     clear hv hd hl hS11 hK17 K17
     refine oQ 33 (h := fun K33 hK33 => ?_)
     go_simp
     refine (shorts_any [m0, m1, m2, m3] HN.out.2.2 _ _ _ (by simp) F32.out).mono ?_
     rintro e y33 ⟨v33, rfl, hv, hd⟩
     obtain ⟨A33, c33, rfl, -, hl⟩ := (own_of hv).lies
     replace F16 := Lib.hid (lies_on2 F16.out hd)
     replace F32 := Lib.hid (lies_on2 F32.out hd)
     replace F10 := Lib.hid (lies_on2 F10.out hd)
     replace F11 := Lib.hid (lies_on2 F11.out hd)
     replace F17 := Lib.hid (lies_on2 F17.out hd)
     have F33 := Lib.hid hl
     refine hK33 _ _ ((show VS V _ from hS17).keep hd) (fun hS33 => ?_)
     clear hv hd hl hS17 hK33 K33
     clear F10 F16 F32
     revert hS33
     revert F33
     revert F17
     revert F11
     revert c33
     revert A33
     revert c17
     revert A17
     revert c11
     revert A11
     revert p32
     revert p16
     revert p10
     revert y33
     exact tail 0
   case hjt108 =>
    refine ow_i64_4 _ _ _ _ rfl m0 m1 m2 m3 rfl rfl rfl rfl ?_
    intro y32 p32 hl hd
    replace F16 := Lib.hid (lies_on2 F16.out hd)
    have F32 := Lib.hid hl
    refine hK32 _ _ ((show VS V _ from hS16).keep hd) (fun hS32 => ?_)
    clear hl hd hS16 hK32 K32
    refine oQ 3 (h := fun K3 hK3 => ?_)
    go_simp
    refine (HFL.out _).mono ?_
    rintro e y3 ⟨rfl, rfl⟩
    refine hK3 _ _ hS32 (fun hS3 => ?_)
    clear hS32 hK3 K3
    refine oQ 10 (h := fun K10 hK10 => ?_)
    refine ow_u32_4 _ _ _ _ rfl fl n2 n3 n4 rfl rfl rfl rfl ?_
    intro y10 p10 hl hd
    replace F16 := Lib.hid (lies_on2 F16.out hd)
    replace F32 := Lib.hid (lies_on2 F32.out hd)
    have F10 := Lib.hid hl
    refine hK10 _ _ ((show VS V _ from hS3).keep hd) (fun hS10 => ?_)
    clear hl hd hS3 hK10 K10
    refine oQ 11 (h := fun K11 hK11 => ?_)
    go_simp
    refine (pb32 [] [fl, n2, n3, n4] HN.out.1 none _ 0 _ _ (Lies.nil _ _ _ _) F10.out (by simp) (by simp)).mono ?_
    rintro e y11 ⟨v11, rfl, hv, hd⟩
    obtain ⟨A11, c11, rfl, -, hl⟩ := (own_of hv).lies
    replace F16 := Lib.hid (lies_on2 F16.out hd)
    replace F32 := Lib.hid (lies_on2 F32.out hd)
    replace F10 := Lib.hid (lies_on2 F10.out hd)
    have F11 := Lib.hid hl
    refine hK11 _ _ ((show VS V _ from hS10).keep hd) (fun hS11 => ?_)
    clear hv hd hl hS10 hK11 K11
    refine oQ 17 (h := fun K17 hK17 => ?_)
    go_simp
    refine (pb64 [] [n5, n6] HN.out.2.1 none _ 0 _ _ (Lies.nil _ _ _ _) F16.out (by simp) (by simp)).mono ?_
    rintro e y17 ⟨v17, rfl, hv, hd⟩
    obtain ⟨A17, c17, rfl, -, hl⟩ := (own_of hv).lies
    replace F16 := Lib.hid (lies_on2 F16.out hd)
    replace F32 := Lib.hid (lies_on2 F32.out hd)
    replace F10 := Lib.hid (lies_on2 F10.out hd)
    replace F11 := Lib.hid (lies_on2 F11.out hd)
    have F17 := Lib.hid hl
    refine hK17 _ _ ((show VS V _ from hS11).keep hd) (fun hS17 => ?_)
    clear hv hd hl hS11 hK17 K17
    refine oQ 33 (h := fun K33 hK33 => ?_)
    go_simp
    refine (shorts_any [m0, m1, m2, m3] HN.out.2.2 _ _ _ (by simp) F32.out).mono ?_
    rintro e y33 ⟨v33, rfl, hv, hd⟩
    obtain ⟨A33, c33, rfl, -, hl⟩ := (own_of hv).lies
    replace F16 := Lib.hid (lies_on2 F16.out hd)
    replace F32 := Lib.hid (lies_on2 F32.out hd)
    replace F10 := Lib.hid (lies_on2 F10.out hd)
    replace F11 := Lib.hid (lies_on2 F11.out hd)
    replace F17 := Lib.hid (lies_on2 F17.out hd)
    have F33 := Lib.hid hl
    refine hK33 _ _ ((show VS V _ from hS17).keep hd) (fun hS33 => ?_)
    clear hv hd hl hS17 hK33 K33
    clear F10 F16 F32
    revert hS33
    revert F33
    revert F17
    revert F11
    revert c33
    revert A33
    revert c17
    revert A17
    revert c11
    revert A11
    revert p32
    revert p16
    revert p10
    revert y33
    exact tail 0
  case hkt127 =>
   refine ow_i64_4 _ _ _ _ rfl m0 m1 m2 m3 rfl rfl rfl rfl ?_
   intro y32 p32 hl hd
   have F32 := Lib.hid hl
   refine hK32 _ _ ((show VS V _ from hS).keep hd) (fun hS32 => ?_)
   clear hl hd hS hK32 K32
   refine wQ 3 16 (h1 := fun K3 hK3 => ?hit126) (h2 := fun K16 hK16 => ?hjt126)
   case hit126 =>
    go_simp
    refine (HFL.out _).mono ?_
    rintro e y3 ⟨rfl, rfl⟩
    refine hK3 _ _ hS32 (fun hS3 => ?_)
    clear hS32 hK3 K3
    refine wQ 10 16 (h1 := fun K10 hK10 => ?hit120) (h2 := fun K16 hK16 => ?hjt120)
    case hit120 =>
     refine ow_u32_4 _ _ _ _ rfl fl n2 n3 n4 rfl rfl rfl rfl ?_
     intro y10 p10 hl hd
     replace F32 := Lib.hid (lies_on2 F32.out hd)
     have F10 := Lib.hid hl
     refine hK10 _ _ ((show VS V _ from hS3).keep hd) (fun hS10 => ?_)
     clear hl hd hS3 hK10 K10
     refine wQ 11 16 (h1 := fun K11 hK11 => ?hit115) (h2 := fun K16 hK16 => ?hjt115)
     case hit115 =>
      go_simp
      refine (pb32 [] [fl, n2, n3, n4] HN.out.1 none _ 0 _ _ (Lies.nil _ _ _ _) F10.out (by simp) (by simp)).mono ?_
      rintro e y11 ⟨v11, rfl, hv, hd⟩
      obtain ⟨A11, c11, rfl, -, hl⟩ := (own_of hv).lies
      replace F32 := Lib.hid (lies_on2 F32.out hd)
      replace F10 := Lib.hid (lies_on2 F10.out hd)
      have F11 := Lib.hid hl
      refine hK11 _ _ ((show VS V _ from hS10).keep hd) (fun hS11 => ?_)
      clear hv hd hl hS10 hK11 K11
      refine oQ 16 (h := fun K16 hK16 => ?_)
      refine ow_u64_2 _ _ rfl n5 n6 rfl rfl ?_
      intro y16 p16 hl hd
      replace F32 := Lib.hid (lies_on2 F32.out hd)
      replace F10 := Lib.hid (lies_on2 F10.out hd)
      replace F11 := Lib.hid (lies_on2 F11.out hd)
      have F16 := Lib.hid hl
      refine hK16 _ _ ((show VS V _ from hS11).keep hd) (fun hS16 => ?_)
      clear hl hd hS11 hK16 K16
      refine oQ 17 (h := fun K17 hK17 => ?_)
      go_simp
      refine (pb64 [] [n5, n6] HN.out.2.1 none _ 0 _ _ (Lies.nil _ _ _ _) F16.out (by simp) (by simp)).mono ?_
      rintro e y17 ⟨v17, rfl, hv, hd⟩
      obtain ⟨A17, c17, rfl, -, hl⟩ := (own_of hv).lies
      replace F32 := Lib.hid (lies_on2 F32.out hd)
      replace F10 := Lib.hid (lies_on2 F10.out hd)
      replace F11 := Lib.hid (lies_on2 F11.out hd)
      replace F16 := Lib.hid (lies_on2 F16.out hd)
      have F17 := Lib.hid hl
      refine hK17 _ _ ((show VS V _ from hS16).keep hd) (fun hS17 => ?_)
      clear hv hd hl hS16 hK17 K17
      refine oQ 33 (h := fun K33 hK33 => ?_)
      go_simp
      refine (shorts_any [m0, m1, m2, m3] HN.out.2.2 _ _ _ (by simp) F32.out).mono ?_
      rintro e y33 ⟨v33, rfl, hv, hd⟩
      obtain ⟨A33, c33, rfl, -, hl⟩ := (own_of hv).lies
      replace F32 := Lib.hid (lies_on2 F32.out hd)
      replace F10 := Lib.hid (lies_on2 F10.out hd)
      replace F11 := Lib.hid (lies_on2 F11.out hd)
      replace F16 := Lib.hid (lies_on2 F16.out hd)
      replace F17 := Lib.hid (lies_on2 F17.out hd)
      have F33 := Lib.hid hl
      refine hK33 _ _ ((show VS V _ from hS17).keep hd) (fun hS33 => ?_)
      clear hv hd hl hS17 hK33 K33
      clear F10 F16 F32
      revert hS33
      revert F33
      revert F17
      revert F11
      revert c33
      revert A33
      revert c17
      revert A17
      revert c11
      revert A11
      revert p32
      revert p16
      revert p10
      revert y33
      exact tail 0
     case hjt115 =>
      refine ow_u64_2 _ _ rfl n5 n6 rfl rfl ?_
      intro y16 p16 hl hd
      replace F32 := Lib.hid (lies_on2 F32.out hd)
      replace F10 := Lib.hid (lies_on2 F10.out hd)
      have F16 := Lib.hid hl
      refine hK16 _ _ ((show VS V _ from hS10).keep hd) (fun hS16 => ?_)
      clear hl hd hS10 hK16 K16
      refine oQ 11 (h := fun K11 hK11 => ?_)
      go_simp
      refine (pb32 [] [fl, n2, n3, n4] HN.out.1 none _ 0 _ _ (Lies.nil _ _ _ _) F10.out (by simp) (by simp)).mono ?_
      rintro e y11 ⟨v11, rfl, hv, hd⟩
      obtain ⟨A11, c11, rfl, -, hl⟩ := (own_of hv).lies
      replace F32 := Lib.hid (lies_on2 F32.out hd)
      replace F10 := Lib.hid (lies_on2 F10.out hd)
      replace F16 := Lib.hid (lies_on2 F16.out hd)
      have F11 := Lib.hid hl
      refine hK11 _ _ ((show VS V _ from hS16).keep hd) (fun hS11 => ?_)
      clear hv hd hl hS16 hK11 K11
      refine oQ 17 (h := fun K17 hK17 => ?_)
      go_simp
      refine (pb64 [] [n5, n6] HN.out.2.1 none _ 0 _ _ (Lies.nil _ _ _ _) F16.out (by simp) (by simp)).mono ?_
      rintro e y17 ⟨v17, rfl, hv, hd⟩
      obtain ⟨A17, c17, rfl, -, hl⟩ := (own_of hv).lies
      replace F32 := Lib.hid (lies_on2 F32.out hd)
      replace F10 := Lib.hid (lies_on2 F10.out hd)
      replace F16 := Lib.hid (lies_on2 F16.out hd)
      replace F11 := Lib.hid (lies_on2 F11.out hd)
      have F17 := Lib.hid hl
      refine hK17 _ _ ((show VS V _ from hS11).keep hd) (fun hS17 => ?_)
      clear hv hd hl hS11 hK17 K17
      refine oQ 33 (h := fun K33 hK33 => ?_)
      go_simp
      refine (shorts_any [m0, m1, m2, m3] HN.out.2.2 _ _ _ (by simp) F32.out).mono ?_
      rintro e y33 ⟨v33, rfl, hv, hd⟩
      obtain ⟨A33, c33, rfl, -, hl⟩ := (own_of hv).lies
      replace F32 := Lib.hid (lies_on2 F32.out hd)
      replace F10 := Lib.hid (lies_on2 F10.out hd)
      replace F16 := Lib.hid (lies_on2 F16.out hd)
      replace F11 := Lib.hid (lies_on2 F11.out hd)
      replace F17 := Lib.hid (lies_on2 F17.out hd)
      have F33 := Lib.hid hl
      refine hK33 _ _ ((show VS V _ from hS17).keep hd) (fun hS33 => ?_)
      clear hv hd hl hS17 hK33 K33
      clear F10 F16 F32
      revert hS33
      revert F33
      revert F17
      revert F11
      revert c33
      revert A33
      revert c17
      revert A17
      revert c11
      revert A11
      revert p32
      revert p16
      revert p10
      revert y33
      exact tail 0
    case hjt120 =>
     refine ow_u64_2 _ _ rfl n5 n6 rfl rfl ?_
     intro y16 p16 hl hd
     replace F32 := Lib.hid (lies_on2 F32.out hd)
     have F16 := Lib.hid hl
     refine hK16 _ _ ((show VS V _ from hS3).keep hd) (fun hS16 => ?_)
     clear hl hd hS3 hK16 K16
     refine oQ 10 (h := fun K10 hK10 => ?_)
     refine ow_u32_4 _ _ _ _ rfl fl n2 n3 n4 rfl rfl rfl rfl ?_
     intro y10 p10 hl hd
     replace F32 := Lib.hid (lies_on2 F32.out hd)
     replace F16 := Lib.hid (lies_on2 F16.out hd)
     have F10 := Lib.hid hl
     refine hK10 _ _ ((show VS V _ from hS16).keep hd) (fun hS10 => ?_)
     clear hl hd hS16 hK10 K10
     refine oQ 11 (h := fun K11 hK11 => ?_)
     go_simp
     refine (pb32 [] [fl, n2, n3, n4] HN.out.1 none _ 0 _ _ (Lies.nil _ _ _ _) F10.out (by simp) (by simp)).mono ?_
     rintro e y11 ⟨v11, rfl, hv, hd⟩
     obtain ⟨A11, c11, rfl, -, hl⟩ := (own_of hv).lies
     replace F32 := Lib.hid (lies_on2 F32.out hd)
     replace F16 := Lib.hid (lies_on2 F16.out hd)
     replace F10 := Lib.hid (lies_on2 F10.out hd)
     have F11 := Lib.hid hl
     refine hK11 _ _ ((show VS V _ from hS10).keep hd) (fun hS11 => ?_)
     clear hv hd hl hS10 hK11 K11
     refine oQ 17 (h := fun K17 hK17 => ?_)
     go_simp
     refine (pb64 [] [n5, n6] HN.out.2.1 none _ 0 _ _ (Lies.nil _ _ _ _) F16.out (by simp) (by simp)).mono ?_
     rintro e y17 ⟨v17, rfl, hv, hd⟩
     obtain ⟨A17, c17, rfl, -, hl⟩ := (own_of hv).lies
     replace F32 := Lib.hid (lies_on2 F32.out hd)
     replace F16 := Lib.hid (lies_on2 F16.out hd)
     replace F10 := Lib.hid (lies_on2 F10.out hd)
     replace F11 := Lib.hid (lies_on2 F11.out hd)
     have F17 := Lib.hid hl
     refine hK17 _ _ ((show VS V _ from hS11).keep hd) (fun hS17 => ?_)
     clear hv hd hl hS11 hK17 K17
     refine oQ 33 (h := fun K33 hK33 => ?_)
     go_simp
     refine (shorts_any [m0, m1, m2, m3] HN.out.2.2 _ _ _ (by simp) F32.out).mono ?_
     rintro e y33 ⟨v33, rfl, hv, hd⟩
     obtain ⟨A33, c33, rfl, -, hl⟩ := (own_of hv).lies
     replace F32 := Lib.hid (lies_on2 F32.out hd)
     replace F16 := Lib.hid (lies_on2 F16.out hd)
     replace F10 := Lib.hid (lies_on2 F10.out hd)
     replace F11 := Lib.hid (lies_on2 F11.out hd)
     replace F17 := Lib.hid (lies_on2 F17.out hd)
     have F33 := Lib.hid hl
     refine hK33 _ _ ((show VS V _ from hS17).keep hd) (fun hS33 => ?_)
     clear hv hd hl hS17 hK33 K33
     clear F10 F16 F32
     revert hS33
     revert F33
     revert F17
     revert F11
     revert c33
     revert A33
     revert c17
     revert A17
     revert c11
     revert A11
     revert p32
     revert p16
     revert p10
     revert y33
     exact tail 0
   case hjt126 =>
    refine ow_u64_2 _ _ rfl n5 n6 rfl rfl ?_
    intro y16 p16 hl hd
    replace F32 := Lib.hid (lies_on2 F32.out hd)
    have F16 := Lib.hid hl
    refine hK16 _ _ ((show VS V _ from hS32).keep hd) (fun hS16 => ?_)
    clear hl hd hS32 hK16 K16
    refine oQ 3 (h := fun K3 hK3 => ?_)
    go_simp
    refine (HFL.out _).mono ?_
    rintro e y3 ⟨rfl, rfl⟩
    refine hK3 _ _ hS16 (fun hS3 => ?_)
    clear hS16 hK3 K3
    refine oQ 10 (h := fun K10 hK10 => ?_)
    refine ow_u32_4 _ _ _ _ rfl fl n2 n3 n4 rfl rfl rfl rfl ?_
    intro y10 p10 hl hd
    replace F32 := Lib.hid (lies_on2 F32.out hd)
    replace F16 := Lib.hid (lies_on2 F16.out hd)
    have F10 := Lib.hid hl
    refine hK10 _ _ ((show VS V _ from hS3).keep hd) (fun hS10 => ?_)
    clear hl hd hS3 hK10 K10
    refine oQ 11 (h := fun K11 hK11 => ?_)
    go_simp
    refine (pb32 [] [fl, n2, n3, n4] HN.out.1 none _ 0 _ _ (Lies.nil _ _ _ _) F10.out (by simp) (by simp)).mono ?_
    rintro e y11 ⟨v11, rfl, hv, hd⟩
    obtain ⟨A11, c11, rfl, -, hl⟩ := (own_of hv).lies
    replace F32 := Lib.hid (lies_on2 F32.out hd)
    replace F16 := Lib.hid (lies_on2 F16.out hd)
    replace F10 := Lib.hid (lies_on2 F10.out hd)
    have F11 := Lib.hid hl
    refine hK11 _ _ ((show VS V _ from hS10).keep hd) (fun hS11 => ?_)
    clear hv hd hl hS10 hK11 K11
    refine oQ 17 (h := fun K17 hK17 => ?_)
    go_simp
    refine (pb64 [] [n5, n6] HN.out.2.1 none _ 0 _ _ (Lies.nil _ _ _ _) F16.out (by simp) (by simp)).mono ?_
    rintro e y17 ⟨v17, rfl, hv, hd⟩
    obtain ⟨A17, c17, rfl, -, hl⟩ := (own_of hv).lies
    replace F32 := Lib.hid (lies_on2 F32.out hd)
    replace F16 := Lib.hid (lies_on2 F16.out hd)
    replace F10 := Lib.hid (lies_on2 F10.out hd)
    replace F11 := Lib.hid (lies_on2 F11.out hd)
    have F17 := Lib.hid hl
    refine hK17 _ _ ((show VS V _ from hS11).keep hd) (fun hS17 => ?_)
    clear hv hd hl hS11 hK17 K17
    refine oQ 33 (h := fun K33 hK33 => ?_)
    go_simp
    refine (shorts_any [m0, m1, m2, m3] HN.out.2.2 _ _ _ (by simp) F32.out).mono ?_
    rintro e y33 ⟨v33, rfl, hv, hd⟩
    obtain ⟨A33, c33, rfl, -, hl⟩ := (own_of hv).lies
    replace F32 := Lib.hid (lies_on2 F32.out hd)
    replace F16 := Lib.hid (lies_on2 F16.out hd)
    replace F10 := Lib.hid (lies_on2 F10.out hd)
    replace F11 := Lib.hid (lies_on2 F11.out hd)
    replace F17 := Lib.hid (lies_on2 F17.out hd)
    have F33 := Lib.hid hl
    refine hK33 _ _ ((show VS V _ from hS17).keep hd) (fun hS33 => ?_)
    clear hv hd hl hS17 hK33 K33
    clear F10 F16 F32
    revert hS33
    revert F33
    revert F17
    revert F11
    revert c33
    revert A33
    revert c17
    revert A17
    revert c11
    revert A11
    revert p32
    revert p16
    revert p10
    revert y33
    exact tail 0
 case t =>
  intro y33 p10 p16 p32 A11 c11 A17 c17 A33 c33 F11 F17 F33 hS33
  refine oQ 36 (h := fun K36 hK36 => ?_)
  go_simp
  refine (HW0.out _ (show VS V _ from hS33)).mono ?_
  rintro e y36 ⟨v36, rfl, hv, hd⟩
  obtain ⟨A36, c36, rfl, -, hl⟩ := (own_of hv).lies
  replace F11 := Lib.hid (lies_on2 F11.out hd)
  replace F17 := Lib.hid (lies_on2 F17.out hd)
  replace F33 := Lib.hid (lies_on2 F33.out hd)
  have F36 := Lib.hid hl
  refine hK36 _ _ ((show VS V _ from hS33).keep hd) (fun hS36 => ?_)
  clear hv hd hl hS33 hK36 K36
  refine oQ 39 (h := fun K39 hK39 => ?_)
  go_simp
  refine (HW1.out _ (show VS V _ from hS36)).mono ?_
  rintro e y39 ⟨v39, rfl, hv, hd⟩
  obtain ⟨A39, c39, rfl, -, hl⟩ := (own_of hv).lies
  replace F11 := Lib.hid (lies_on2 F11.out hd)
  replace F17 := Lib.hid (lies_on2 F17.out hd)
  replace F33 := Lib.hid (lies_on2 F33.out hd)
  replace F36 := Lib.hid (lies_on2 F36.out hd)
  have F39 := Lib.hid hl
  refine hK39 _ _ ((show VS V _ from hS36).keep hd) (fun hS39 => ?_)
  clear hv hd hl hS36 hK39 K39
  refine oQ 42 (h := fun K42 hK42 => ?_)
  go_simp
  refine (HW2.out _ (show VS V _ from hS39)).mono ?_
  rintro e y42 ⟨v42, rfl, hv, hd⟩
  obtain ⟨A42, c42, rfl, -, hl⟩ := (own_of hv).lies
  replace F11 := Lib.hid (lies_on2 F11.out hd)
  replace F17 := Lib.hid (lies_on2 F17.out hd)
  replace F33 := Lib.hid (lies_on2 F33.out hd)
  replace F36 := Lib.hid (lies_on2 F36.out hd)
  replace F39 := Lib.hid (lies_on2 F39.out hd)
  have F42 := Lib.hid hl
  refine hK42 _ _ ((show VS V _ from hS39).keep hd) (fun hS42 => ?_)
  clear hv hd hl hS39 hK42 K42
  refine oQ 45 (h := fun K45 hK45 => ?_)
  go_simp
  refine (HW3.out _ (show VS V _ from hS42)).mono ?_
  rintro e y45 ⟨v45, rfl, hv, hd⟩
  obtain ⟨A45, c45, rfl, -, hl⟩ := (own_of hv).lies
  replace F11 := Lib.hid (lies_on2 F11.out hd)
  replace F17 := Lib.hid (lies_on2 F17.out hd)
  replace F33 := Lib.hid (lies_on2 F33.out hd)
  replace F36 := Lib.hid (lies_on2 F36.out hd)
  replace F39 := Lib.hid (lies_on2 F39.out hd)
  replace F42 := Lib.hid (lies_on2 F42.out hd)
  have F45 := Lib.hid hl
  refine hK45 _ _ ((show VS V _ from hS42).keep hd) (fun hS45 => ?_)
  clear hv hd hl hS42 hK45 K45
  refine oQ 46 (h := fun K46 hK46 => ?_)
  refine ow_pt_9 _ _ _ _ _ _ _ _ _ rfl (some ⟨r, 0, none⟩, 16, NE) (A11, c11, [] ++ [fl, n2, n3, n4].flatMap (be 4)) (A17, c17, [] ++ [n5, n6].flatMap (be 8)) (some ⟨w.heap.size, 7, none⟩, 68, KE) (A33, c33, [m0, m1, m2, m3].flatMap (be 2)) (A36, c36, L0) (A39, c39, L1) (A42, c42, L2) (A45, c45, L3) HNE.out rfl rfl HKE.out rfl rfl rfl rfl rfl ?_
  intro y46 p46 hl hd
  replace F11 := Lib.hid (lies_on2 F11.out hd)
  replace F17 := Lib.hid (lies_on2 F17.out hd)
  replace F33 := Lib.hid (lies_on2 F33.out hd)
  replace F36 := Lib.hid (lies_on2 F36.out hd)
  replace F39 := Lib.hid (lies_on2 F39.out hd)
  replace F42 := Lib.hid (lies_on2 F42.out hd)
  replace F45 := Lib.hid (lies_on2 F45.out hd)
  have F46 := Lib.hid hl
  refine hK46 _ _ ((show VS V _ from hS45).keep hd) (fun hS46 => ?_)
  clear hl hd hS45 hK46 K46
  refine oQ 47 (h := fun K47 hK47 => ?_)
  go_simp
  refine (cat_any [(some ⟨r, 0, none⟩, 16, NE), (A11, c11, [] ++ [fl, n2, n3, n4].flatMap (be 4)), (A17, c17, [] ++ [n5, n6].flatMap (be 8)), (some ⟨w.heap.size, 7, none⟩, 68, KE), (A33, c33, [m0, m1, m2, m3].flatMap (be 2)), (A36, c36, L0), (A39, c39, L1), (A42, c42, L2), (A45, c45, L3)] _ _ _ _ (Nat.le_refl _) F46.out (allc (by show Lies _ _ 1 _ NE.length _; rw [HEQ.out.1]; exact lies_on2 HNM.out (show VS V _ from hS46)) (allc F11.out (allc F17.out (allc (by show Lies _ _ 1 _ KE.length _; rw [HEQ.out.2]; exact lies_on2 HKY.out (show VS V _ from hS46)) (allc F33.out (allc F36.out (allc F39.out (allc F42.out (allc F45.out (fun _ h => nomatch h)))))))))) (by have h1 := HLL.out; have h2 := HEQ.out; simp [catAll, be_len]; omega) (by simp [maxLen])).mono ?_
  rintro e y47 ⟨v47, rfl, hv, hd⟩
  have HFIN := Lib.hid (And.intro hv (And.intro (show VS V _ from hS46) hd))
  refine hK47 _ _ ((show VS V _ from hS46).keep hd) (fun hS47 => ?_)
  clear hv hd  hS46 hK47 K47
  refine tA 48 (h := ?_)
  refine wpAnyH_done (by kernel_rfl) ?_ _
  clear hS47
  go_wp2
  go_ret
  exact HEND.out _ _ _ _ _ _ _ _ _ _ _ _ _ _ _ _ _ HFIN.out.1 HFIN.out.2.1 HFIN.out.2.2
end Go.Proofs.YtkaipknkjocfiaaGreat
