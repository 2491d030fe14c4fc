import Derived.Test.YtkaipknkjocfiaaGreatZa31
namespace Go.Proofs.YtkaipknkjocfiaaGreat
open Go.RowKit
attribute [local go_sem ↓ high] builtin_appS
def PV (p : Part) : Nat → Value := fun _ => partV p
theorem cells_P (l : List Part) : cellsE 1 PV l = l.map partV := cells_one partV l
structure partsV (base : Nat) (w : World) (ps : List Part) (v : Value) : Prop where
 row : OwnE 78 1 PV w base v ps
 own : ∀ p ∈ ps, OwnB w base (partV p) p.2.2
 off : ∀ p ∈ ps, ∀ k, (partV p).ownBlock = some k → v.ownBlock ≠ some k
theorem partsV.nil (base : Nat) (w : World) : partsV base w [] (.slice none 0 0) := ⟨OwnE.nil _ _, (fun _ h => by cases h), (fun _ h => by cases h)⟩
theorem partsV.on {base m : Nat} {w w' : World} {ps : List Part} {v : Value} (h : partsV base w ps v) (hs : Below m w w') (hm : w.heap.size ≤ m) : partsV base w' ps v :=
 ⟨h.row.on hs hm, fun p hp => (h.own p hp).on hs hm, h.off⟩
theorem info_part : (Tryz.prog.info? 78).map (fun i => (i.zero, i.size, i.bytes)) = some (some (.slice none 0 0), 1, 24) := by kernel_rfl
set_option maxRecDepth 100000 in
theorem build_part (p : Part) (w : World) : (Instr.buildSlice 196 1 #[(0, partV p)]).run Tryz.prog w = .ok (.slice (some ⟨w.heap.size, 0, none⟩) 1 1) (w.alloc (.cells (vec 1 (PV p)) 78)) := by
 obtain ⟨i0, hi, hz0, hz1, hz2⟩ := info_parts info_part
 refine run_buildSlice (P := Tryz.prog) w 196 78 1 _ _ i0 (.slice none 0 0) Tryz.underlying196 hi hz0 (by rw [hz1]; decide) (by rw [hz1]; decide) ?_
 rw [hz1]
 kernel_rfl
theorem partsV.app {base : Nat} {w w1 : World} {ps : List Part} {v : Value} {p : Part} (h : partsV base w ps v) (hs : Below w.heap.size w w1) (hb : base ≤ w.heap.size) (hl : ps.length ≤ 1000) (ho : OwnB w1 w.heap.size (partV p) p.2.2) :
   ∃ B d w2, (appS #[196, 196] 196 #[v, .slice (some ⟨w1.heap.size, 0, none⟩) 1 1]).run Tryz.prog (w1.alloc (.cells (vec 1 (PV p)) 78)) = .ok (.slice B (ps.length + 1) d) w2 ∧ partsV base w2 (ps ++ [p]) (.slice B (ps.length + 1) d) ∧ Below base w1 w2 := by
 have h3 := h.row.on hs (Nat.le_refl _)
 obtain ⟨B, d, w2, hr, h5, h6, h7, h8, h9⟩ := app_E1 (P := Tryz.prog) Tryz.underlying196 info_part rfl (by decide) p (fun _ _ => rfl) h3 (Nat.le_trans hb hs.size) (by omega) (by decide) 196
 have hvb : ∀ k, v.ownBlock = some k → k < w.heap.size := fun k hk => (h.row.bnd hk).2
 refine ⟨B, d, w2, hr, ⟨h5, fun z hz => ?_, fun z hz k hk => ?_⟩, h6⟩
 · rcases List.mem_append.1 hz with hz | hz
   · exact ((h.own z hz).on hs (Nat.le_refl _)).growN h8 (h.off z hz)
   · obtain rfl : z = p := by simpa using hz
     exact ((ho.growN h8 (fun k hk e => by have := hvb k e; have := (ho.bnd hk).1; omega))).low hb
 · rcases List.mem_append.1 hz with hz | hz
   · rcases h9 with e | e <;> rw [e]
     · exact h.off z hz k hk
     · intro e2; injection e2 with e2; have := ((h.own z hz).bnd hk).2; have := hs.size; omega
   · obtain rfl : z = p := by simpa using hz
     rcases h9 with e | e <;> rw [e]
     · intro e2; have := hvb k e2; have := (ho.bnd hk).1; omega
     · intro e2; injection e2 with e2; have := (ho.bnd hk).2; omega
theorem catAll_snoc (ps : List Part) (p : Part) : catAll (ps ++ [p]) = catAll ps ++ p.2.2 := by simp [catAll]
theorem partsV.cat {base : Nat} {w : World} {ps : List Part} {v : Value} (h : partsV base w ps v) (htot : (catAll ps).length ≤ 70368744177664) (hn : ps.length ≤ 1000) : Calls Tryz.prog 112 #[v] w (Bytes w (catAll ps)) := by
 obtain ⟨A, c, e, _, hr, _⟩ := h.row.form
 subst e
 refine cat_any ps A c w.heap.size w (Nat.le_refl _) (hr.lies (cells_P ps)) (fun p hp => ?_) htot (by unfold maxLen; omega)
 obtain ⟨A2, c2, e2, _, hl⟩ := (h.own p hp).lies
 have e3 : Value.slice p.1 p.2.2.length p.2.1 = .slice A2 p.2.2.length c2 := e2
 injection e3 with e4 _ _
 rw [e4]; exact hl
structure PaAt {α : Type} (lay : α → By) (l : List α) (w W : World) (k : Nat) (v : Value) : Prop where
 ex : ∃ ps, ps.length = k ∧ catAll ps = (l.take k).flatMap lay ∧ partsV w.heap.size W ps v
 bel : Below w.heap.size w W
theorem PaAt.step {α : Type} {lay : α → By} {l : List α} {w W W1 : World} {k : Nat} {v u : Value} (h : PaAt lay l w W k v) (hk : k < l.length) (hk9 : k ≤ 1000) (hs : Below W.heap.size W W1) (ho : OwnB W1 W.heap.size u (lay l[k])) :
  ∃ p : Part, u = partV p ∧ ∃ B d w2, (appS #[196, 196] 196 #[v, .slice (some ⟨W1.heap.size, 0, none⟩) 1 1]).run Tryz.prog (W1.alloc (.cells (vec 1 (PV p)) 78)) = .ok (.slice B (k + 1) d) w2 ∧ PaAt lay l w w2 (k + 1) (.slice B (k + 1) d) := by
 obtain ⟨ps, h1, h2, h3⟩ := h.ex
 obtain ⟨A, c, e, _, _⟩ := ho.lies
 obtain ⟨B, d, w2, hr, hp, hb⟩ := partsV.app (p := (A, c, lay l[k])) h3 hs h.bel.size (by omega) (by show OwnB W1 W.heap.size (.slice A (lay l[k]).length c) _; rw [← e]; exact ho)
 refine ⟨(A, c, lay l[k]), e, B, d, w2, by rw [h1] at hr; exact hr, ⟨ps ++ [(A, c, lay l[k])], by simp [h1], ?_, by rw [h1] at hp; exact hp⟩, (h.bel.trans (hs.mono h.bel.size)).trans hb⟩
 show catAll (ps ++ [(A, c, lay l[k])]) = (l.take (k + 1)).flatMap lay
 rw [catAll_snoc, h2, List.take_succ_eq_append_getElem hk, List.flatMap_append]
 simp
section
variable {P : Program} {w w' : World} {ops : Array Oper} {rest : List Oper} {o : Oper} {a : Act} {Q : Exit → Act → World → Prop}
end
end Go.Proofs.YtkaipknkjocfiaaGreat
namespace Go.Proofs.YtkaipknkjocfiaaGreat
open Go.RowKit
attribute [local go_sem ↓ high] builtin_appS
theorem flat_len {α : Type} (f : α → By) (m : Nat) (h : ∀ x, (f x).length = m) : ∀ l : List α, (l.flatMap f).length = l.length * m
 | [] => by simp
 | x :: xs => by rw [List.flatMap_cons, List.length_append, h, flat_len f m h xs, List.length_cons]; rw [Nat.succ_mul]; omega
def i64s (ns : List Nat) : List Value := ns.map fun (n : Nat) => Value.int .i64 (n : Int)
set_option maxRecDepth 100000 in
set_option maxHeartbeats 2000000 in
theorem shorts_any (ns : List Nat) (hns : ∀ n ∈ ns, n < 65536) (D : Option Addr) (c : Nat) (w : World) (hl : ns.length ≤ 1000) (h : Lies w w.heap.size 1 D ns.length (i64s ns)) : Calls Tryz.prog 114 #[.slice D ns.length c] w (Bytes w (ns.flatMap (be 2))) := by
 have H := Lib.hid h
 have HNS := Lib.hid hns
 clear h hns
 unfold Bytes
 go_enter Tryz.func114, Tryz.ntmps114
 go_wp2
 go_loopw [3, 5, 8] (fun vo _ vi W => ∃ (k d : Nat) (B : Option Addr), k ≤ ns.length ∧ vi = .int .i64 k ∧ vo = .slice B (2 * k) d ∧ Hid (OwnB W w.heap.size (.slice B (2 * k) d) ((ns.take k).flatMap (be 2)) ∧ Below w.heap.size w W)) (fun _ _ i _ => ns.length - (intOf i).toNat)
 case atStart => exact ⟨0, 0, none, Nat.zero_le _, rfl, rfl, Lib.hid ⟨OwnE.nil _ _, Below.refl _ _⟩⟩
 case round =>
  obtain ⟨k, d, B, hk, rfl, rfl, HO⟩ := hrel
  obtain ⟨W, hW⟩ : ∃ W : World, W = wr := ⟨_, rfl⟩
  subst hW
  by_cases hlt : k < ns.length
  · have hm := HNS.out ns[k] (List.getElem_mem hlt)
    obtain ⟨a, hx, rfl, hb, hcell⟩ := (H.out.below HO.out.2).atMap hlt
    obtain ⟨m, hmm⟩ : ∃ m, m = ns[k] := ⟨_, rfl⟩
    rw [← hmm] at hm hcell
    have e1 : IntKind.u8.wrap ((m : Int) / 256) = ((UInt8.ofNat (m / 256)).toNat : Int) := by rw [IntKind.wrap_u8, UInt8.toNat_ofNat']; omega
    have e2 : IntKind.u8.wrap (m : Int) = ((UInt8.ofNat (m % 256)).toNat : Int) := by rw [IntKind.wrap_u8, UInt8.toNat_ofNat']; omega
    obtain ⟨x, hxx⟩ : ∃ x, x = UInt8.ofNat (m / 256) := ⟨_, rfl⟩
    obtain ⟨y, hyy⟩ : ∃ y, y = UInt8.ofNat (m % 256) := ⟨_, rfl⟩
    rw [← hxx] at e1
    rw [← hyy] at e2
    have hlen : ((ns.take k).flatMap (be 2)).length = 2 * k := by
     rw [flat_len (be 2) 2 (fun n => be_len 2 n), List.length_take, Nat.min_eq_left (by omega)]
     omega
    obtain ⟨B2, d2, w2, hrun, ho2, hb2⟩ := app_two x y HO.out.1 HO.out.2.size (by rw [hlen]; omega)
    rw [hlen] at hrun ho2
    have hs : (ns.take (k + 1)).flatMap (be 2) = (ns.take k).flatMap (be 2) ++ [x, y] := by
     rw [List.take_add_one, List.getElem?_eq_getElem hlt, List.flatMap_append, hxx, hyy, ← be_two m hm, hmm]
     simp
    rw [← hs] at ho2
    have HN : Hid (OwnB w2 w.heap.size (.slice B2 (2 * (k + 1)) d2) ((ns.take (k + 1)).flatMap (be 2)) ∧ Below w.heap.size w w2) := Lib.hid ⟨ho2, HO.out.2.trans hb2⟩
    have hki : (k : Int) < (ns.length : Int) := by omega
    have HLT := Lib.hid hlt
    have hbt := build_two ((x.toNat : Nat) : Int) ((y.toNat : Nat) : Int) W
    clear ho2 hb2 hs hlen hxx hyy hmm hx hlt hk
    go_wp2_with fail
    go_roundw
    case rel => exact ⟨k + 1, d2, B2, HLT.out, by go_num, rfl, HN⟩
    case measure => have := HLT.out; simp [intOf]; omega
  · obtain rfl : k = ns.length := by omega
    clear hlt
    go_wp2_with fail
    go_ret
    have h1 := HO.out.1
    rw [List.take_length] at h1
    exact ⟨_, rfl, own_to h1, HO.out.2⟩
end Go.Proofs.YtkaipknkjocfiaaGreat
namespace Go.Proofs.YtkaipknkjocfiaaGreat
open Go.RowKit
attribute [local go_sem ↓ high] builtin_appS zeroWi zeroDe zeroIr zeroEn zeroCh zeroGu
set_option maxRecDepth 100000 in
set_option maxHeartbeats 4000000 in
theorem row_wi (l : List Wi) (A : Option Addr) (c : Nat) (w : World) (hl : l.length ≤ 1000) (h1 : RowE 4 winE w w.heap.size A l) (htot : (l.flatMap layWi).length ≤ 70368744177664)
  (hL : ∀ j (h : j < l.length) Y, Below w.heap.size w Y → Calls Tryz.prog 153 #[.agg (vec 4 (winE l[j]))] Y (Bytes Y (layWi l[j]))) :
  Calls Tryz.prog 152 #[.slice A l.length c, .func (.func 153) #[] #[]] w (Bytes w (l.flatMap layWi)) := by
 have H1 := Lib.hid h1
 have HL := Lib.hid hL
 have HT := Lib.hid htot
 obtain ⟨N, hN⟩ : ∃ N, N = l.length := ⟨_, rfl⟩
 have HN := Lib.hid hN
 rw [← hN] at hl ⊢
 obtain ⟨R, hR⟩ : ∃ R, R = l.flatMap layWi := ⟨_, rfl⟩
 have HR := Lib.hid hR
 rw [← hR]
 unfold Bytes
 clear h1 hL htot hN hR
 go_enter Tryz.func152, Tryz.ntmps152
 go_wp2
 go_loopw [5, 7, 10] (fun vo _ vi W => ∃ (k d : Nat) (B : Option Addr), k ≤ N ∧ vi = .int .i64 k ∧ vo = .slice B k d ∧ Hid (PaAt layWi l w W k (.slice B k d))) (fun _ _ i _ => N - (intOf i).toNat)
 case atStart => exact ⟨0, 0, none, Nat.zero_le _, rfl, rfl, Lib.hid ⟨⟨[], rfl, rfl, partsV.nil _ _⟩, Below.refl _ _⟩⟩
 case round =>
  obtain ⟨k, d, B, hk, rfl, rfl, HP⟩ := hrel
  obtain ⟨W, hW⟩ : ∃ W : World, W = wr := ⟨_, rfl⟩
  subst hW
  by_cases hlt0 : k < N
  · have hlt : k < l.length := by have := HN.out; omega
    have hB := HP.out.bel
    have g1 := H1.out.up hB
    obtain ⟨a, p, rfl, hp, -, hcp⟩ := g1.at hlt
    obtain ⟨x, hx⟩ : ∃ x, x = l[k] := ⟨_, rfl⟩
    rw [← hx] at hcp
    obtain ⟨X, hX⟩ : ∃ X, X = (W.alloc (.cells (vec 4 (winE zWi)) 67)).setRow W.heap.size (vec 4 (winE x)) := ⟨_, rfl⟩
    have b1 : Below W.heap.size W X := by rw [hX]; exact below_row ((Below.refl _ _).alloc (Nat.le_refl _) _) (Nat.le_refl _) _
    have a1 : Arr X W.heap.size 67 4 (winE x) := by rw [hX]; exact (Arr.new W _ _ _).row _
    have HLX := Lib.hid (HL.out k hlt X (hB.trans (b1.mono hB.size)))
    rw [← hx] at HLX
    have HST : Hid (∀ (W1 : World) (u : Value), Below X.heap.size X W1 → W1.ownsRow X.heap.size 5 1 u (layWi x).length (u8s (layWi x)) → ∃ pp : Part, u = partV pp ∧ ∃ B2 d2 w2, (appS #[196, 196] 196 #[.slice B k d, .slice (some ⟨W1.heap.size, 0, none⟩) 1 1]).run Tryz.prog (W1.alloc (.cells (vec 1 (PV pp)) 78)) = .ok (.slice B2 (k + 1) d2) w2 ∧ PaAt layWi l w w2 (k + 1) (.slice B2 (k + 1) d2)) := Lib.hid (fun W1 u hd hv => by
     have := HP.out.step hlt (by omega) (b1.trans (hd.mono b1.size)) (u := u) (by rw [← hx]; exact (own_of hv).low b1.size)
     exact this)
    have hki : (k : Int) < (N : Int) := by omega
    have HCP := Lib.hid hcp
    have HX := Lib.hid hX
    have HA := Lib.hid a1
    have HLT := Lib.hid hlt0
    clear g1 hcp hx hlt hX b1 a1 hB hlt0
    go_upto_region 5 with (first
     | ((with_reducible show wpList _ _ _ (Oper.mk _ (.load _ _) _ _ _ _ :: _) _ _); refine wl_load_q rfl 67 _ rfl p rfl _ (run_load_q HCP.out Tryz.underlying67 rfl infoWi) ?_)
     | ((with_reducible show wpList _ _ _ (Oper.mk _ (.store _ _ _) _ _ _ _ :: _) _ _); refine wl_store rfl 67 _ _ rfl _ rfl _ rfl (run_store_arr (Arr.new W _ _ _) (winE x) infoWi (winE_one _ _)) ?_))
    rw [← HX.out]
    clear HX HCP
    go_wp2_with (first
     | ((with_reducible show wpList _ _ _ (Oper.mk _ (.load _ _) _ _ _ _ :: _) _ _); refine wl_load rfl 67 _ rfl _ rfl _ (run_load_arr HA.out Tryz.underlying67 rfl infoWi) ?_)
     | ((with_reducible show wpList _ _ _ (Oper.mk _ (.buildSlice _ _ _) _ _ _ _ :: _) _ _); refine wl_bs1 rfl _ rfl _ rfl (build_part pp w1) ?_)
     | (go_at_call 153; refine HLX.out.mono ?_; rintro e w1 ⟨v, rfl, hv, hd⟩; obtain ⟨pp, rfl, B2, d2, w2, hrun, hn⟩ := HST.out w1 v hd hv; have H4 := Lib.hid hn; clear hv hd hn))
    go_roundw
    case rel => exact ⟨k + 1, d2, B2, HLT.out, by go_num, rfl, H4⟩
    case measure => have := HLT.out; simp [intOf]; omega
  · obtain rfl : k = N := by omega
    have HC : Hid (Calls Tryz.prog 112 #[.slice B k d] W (Bytes W R)) := Lib.hid (by
     obtain ⟨ps, q1, q2, q3⟩ := HP.out.ex
     rw [HN.out, List.take_length, ← HR.out] at q2
     have := q3.cat (by rw [q2, HR.out]; exact HT.out) (by omega)
     rw [q2] at this
     exact this)
    have HB := Lib.hid HP.out.bel
    clear hlt0
    go_wp2_with (go_at_call 112; refine HC.out.mono ?_; rintro e w1 ⟨v, rfl, hv, hd⟩; have HV := Lib.hid (And.intro hv hd); clear hv hd)
    go_ret
    exact ⟨_, rfl, owns_mono HV.out.1 HB.out.size, HB.out.trans (HV.out.2.mono HB.out.size)⟩
set_option maxRecDepth 100000 in
set_option maxHeartbeats 4000000 in
theorem row_de (l : List De) (A : Option Addr) (c : Nat) (w : World) (hl : l.length ≤ 1000) (h1 : RowE 3 devE w w.heap.size A l) (htot : (l.flatMap layDe).length ≤ 70368744177664)
  (hL : ∀ j (h : j < l.length) Y, Below w.heap.size w Y → Calls Tryz.prog 155 #[.agg (vec 3 (devE l[j]))] Y (Bytes Y (layDe l[j]))) :
  Calls Tryz.prog 154 #[.slice A l.length c, .func (.func 155) #[] #[]] w (Bytes w (l.flatMap layDe)) := by
 have H1 := Lib.hid h1
 have HL := Lib.hid hL
 have HT := Lib.hid htot
 obtain ⟨N, hN⟩ : ∃ N, N = l.length := ⟨_, rfl⟩
 have HN := Lib.hid hN
 rw [← hN] at hl ⊢
 obtain ⟨R, hR⟩ : ∃ R, R = l.flatMap layDe := ⟨_, rfl⟩
 have HR := Lib.hid hR
 rw [← hR]
 unfold Bytes
 clear h1 hL htot hN hR
 go_enter Tryz.func154, Tryz.ntmps154
 go_wp2
 go_loopw [5, 7, 10] (fun vo _ vi W => ∃ (k d : Nat) (B : Option Addr), k ≤ N ∧ vi = .int .i64 k ∧ vo = .slice B k d ∧ Hid (PaAt layDe l w W k (.slice B k d))) (fun _ _ i _ => N - (intOf i).toNat)
 case atStart => exact ⟨0, 0, none, Nat.zero_le _, rfl, rfl, Lib.hid ⟨⟨[], rfl, rfl, partsV.nil _ _⟩, Below.refl _ _⟩⟩
 case round =>
  obtain ⟨k, d, B, hk, rfl, rfl, HP⟩ := hrel
  obtain ⟨W, hW⟩ : ∃ W : World, W = wr := ⟨_, rfl⟩
  subst hW
  by_cases hlt0 : k < N
  · have hlt : k < l.length := by have := HN.out; omega
    have hB := HP.out.bel
    have g1 := H1.out.up hB
    obtain ⟨a, p, rfl, hp, -, hcp⟩ := g1.at hlt
    obtain ⟨x, hx⟩ : ∃ x, x = l[k] := ⟨_, rfl⟩
    rw [← hx] at hcp
    obtain ⟨X, hX⟩ : ∃ X, X = (W.alloc (.cells (vec 3 (devE zDe)) 83)).setRow W.heap.size (vec 3 (devE x)) := ⟨_, rfl⟩
    have b1 : Below W.heap.size W X := by rw [hX]; exact below_row ((Below.refl _ _).alloc (Nat.le_refl _) _) (Nat.le_refl _) _
    have a1 : Arr X W.heap.size 83 3 (devE x) := by rw [hX]; exact (Arr.new W _ _ _).row _
    have HLX := Lib.hid (HL.out k hlt X (hB.trans (b1.mono hB.size)))
    rw [← hx] at HLX
    have HST : Hid (∀ (W1 : World) (u : Value), Below X.heap.size X W1 → W1.ownsRow X.heap.size 5 1 u (layDe x).length (u8s (layDe x)) → ∃ pp : Part, u = partV pp ∧ ∃ B2 d2 w2, (appS #[196, 196] 196 #[.slice B k d, .slice (some ⟨W1.heap.size, 0, none⟩) 1 1]).run Tryz.prog (W1.alloc (.cells (vec 1 (PV pp)) 78)) = .ok (.slice B2 (k + 1) d2) w2 ∧ PaAt layDe l w w2 (k + 1) (.slice B2 (k + 1) d2)) := Lib.hid (fun W1 u hd hv => by
     have := HP.out.step hlt (by omega) (b1.trans (hd.mono b1.size)) (u := u) (by rw [← hx]; exact (own_of hv).low b1.size)
     exact this)
    have hki : (k : Int) < (N : Int) := by omega
    have HCP := Lib.hid hcp
    have HX := Lib.hid hX
    have HA := Lib.hid a1
    have HLT := Lib.hid hlt0
    clear g1 hcp hx hlt hX b1 a1 hB hlt0
    go_upto_region 5 with (first
     | ((with_reducible show wpList _ _ _ (Oper.mk _ (.load _ _) _ _ _ _ :: _) _ _); refine wl_load_q rfl 83 _ rfl p rfl _ (run_load_q HCP.out Tryz.underlying83 rfl infoDe) ?_)
     | ((with_reducible show wpList _ _ _ (Oper.mk _ (.store _ _ _) _ _ _ _ :: _) _ _); refine wl_store rfl 83 _ _ rfl _ rfl _ rfl (run_store_arr (Arr.new W _ _ _) (devE x) infoDe (devE_one _ _)) ?_))
    rw [← HX.out]
    clear HX HCP
    go_wp2_with (first
     | ((with_reducible show wpList _ _ _ (Oper.mk _ (.load _ _) _ _ _ _ :: _) _ _); refine wl_load rfl 83 _ rfl _ rfl _ (run_load_arr HA.out Tryz.underlying83 rfl infoDe) ?_)
     | ((with_reducible show wpList _ _ _ (Oper.mk _ (.buildSlice _ _ _) _ _ _ _ :: _) _ _); refine wl_bs1 rfl _ rfl _ rfl (build_part pp w1) ?_)
     | (go_at_call 155; refine HLX.out.mono ?_; rintro e w1 ⟨v, rfl, hv, hd⟩; obtain ⟨pp, rfl, B2, d2, w2, hrun, hn⟩ := HST.out w1 v hd hv; have H3 := Lib.hid hn; clear hv hd hn))
    go_roundw
    case rel => exact ⟨k + 1, d2, B2, HLT.out, by go_num, rfl, H3⟩
    case measure => have := HLT.out; simp [intOf]; omega
  · obtain rfl : k = N := by omega
    have HC : Hid (Calls Tryz.prog 112 #[.slice B k d] W (Bytes W R)) := Lib.hid (by
     obtain ⟨ps, q1, q2, q3⟩ := HP.out.ex
     rw [HN.out, List.take_length, ← HR.out] at q2
     have := q3.cat (by rw [q2, HR.out]; exact HT.out) (by omega)
     rw [q2] at this
     exact this)
    have HB := Lib.hid HP.out.bel
    clear hlt0
    go_wp2_with (go_at_call 112; refine HC.out.mono ?_; rintro e w1 ⟨v, rfl, hv, hd⟩; have HV := Lib.hid (And.intro hv hd); clear hv hd)
    go_ret
    exact ⟨_, rfl, owns_mono HV.out.1 HB.out.size, HB.out.trans (HV.out.2.mono HB.out.size)⟩
set_option maxRecDepth 100000 in
set_option maxHeartbeats 4000000 in
theorem row_ir (l : List Ir) (A : Option Addr) (c : Nat) (w : World) (hl : l.length ≤ 1000) (h1 : RowE 3 irqE w w.heap.size A l) (htot : (l.flatMap layIr).length ≤ 70368744177664)
  (hL : ∀ j (h : j < l.length) Y, Below w.heap.size w Y → Calls Tryz.prog 157 #[.agg (vec 3 (irqE l[j]))] Y (Bytes Y (layIr l[j]))) :
  Calls Tryz.prog 156 #[.slice A l.length c, .func (.func 157) #[] #[]] w (Bytes w (l.flatMap layIr)) := by
 have H1 := Lib.hid h1
 have HL := Lib.hid hL
 have HT := Lib.hid htot
 obtain ⟨N, hN⟩ : ∃ N, N = l.length := ⟨_, rfl⟩
 have HN := Lib.hid hN
 rw [← hN] at hl ⊢
 obtain ⟨R, hR⟩ : ∃ R, R = l.flatMap layIr := ⟨_, rfl⟩
 have HR := Lib.hid hR
 rw [← hR]
 unfold Bytes
 clear h1 hL htot hN hR
 go_enter Tryz.func156, Tryz.ntmps156
 go_wp2
 go_loopw [5, 7, 10] (fun vo _ vi W => ∃ (k d : Nat) (B : Option Addr), k ≤ N ∧ vi = .int .i64 k ∧ vo = .slice B k d ∧ Hid (PaAt layIr l w W k (.slice B k d))) (fun _ _ i _ => N - (intOf i).toNat)
 case atStart => exact ⟨0, 0, none, Nat.zero_le _, rfl, rfl, Lib.hid ⟨⟨[], rfl, rfl, partsV.nil _ _⟩, Below.refl _ _⟩⟩
 case round =>
  obtain ⟨k, d, B, hk, rfl, rfl, HP⟩ := hrel
  obtain ⟨W, hW⟩ : ∃ W : World, W = wr := ⟨_, rfl⟩
  subst hW
  by_cases hlt0 : k < N
  · have hlt : k < l.length := by have := HN.out; omega
    have hB := HP.out.bel
    have g1 := H1.out.up hB
    obtain ⟨a, p, rfl, hp, -, hcp⟩ := g1.at hlt
    obtain ⟨x, hx⟩ : ∃ x, x = l[k] := ⟨_, rfl⟩
    rw [← hx] at hcp
    obtain ⟨X, hX⟩ : ∃ X, X = (W.alloc (.cells (vec 3 (irqE zIr)) 65)).setRow W.heap.size (vec 3 (irqE x)) := ⟨_, rfl⟩
    have b1 : Below W.heap.size W X := by rw [hX]; exact below_row ((Below.refl _ _).alloc (Nat.le_refl _) _) (Nat.le_refl _) _
    have a1 : Arr X W.heap.size 65 3 (irqE x) := by rw [hX]; exact (Arr.new W _ _ _).row _
    have HLX := Lib.hid (HL.out k hlt X (hB.trans (b1.mono hB.size)))
    rw [← hx] at HLX
    have HST : Hid (∀ (W1 : World) (u : Value), Below X.heap.size X W1 → W1.ownsRow X.heap.size 5 1 u (layIr x).length (u8s (layIr x)) → ∃ pp : Part, u = partV pp ∧ ∃ B2 d2 w2, (appS #[196, 196] 196 #[.slice B k d, .slice (some ⟨W1.heap.size, 0, none⟩) 1 1]).run Tryz.prog (W1.alloc (.cells (vec 1 (PV pp)) 78)) = .ok (.slice B2 (k + 1) d2) w2 ∧ PaAt layIr l w w2 (k + 1) (.slice B2 (k + 1) d2)) := Lib.hid (fun W1 u hd hv => by
     have := HP.out.step hlt (by omega) (b1.trans (hd.mono b1.size)) (u := u) (by rw [← hx]; exact (own_of hv).low b1.size)
     exact this)
    have hki : (k : Int) < (N : Int) := by omega
    have HCP := Lib.hid hcp
    have HX := Lib.hid hX
    have HA := Lib.hid a1
    have HLT := Lib.hid hlt0
    clear g1 hcp hx hlt hX b1 a1 hB hlt0
    go_upto_region 5 with (first
     | ((with_reducible show wpList _ _ _ (Oper.mk _ (.load _ _) _ _ _ _ :: _) _ _); refine wl_load_q rfl 65 _ rfl p rfl _ (run_load_q HCP.out Tryz.underlying65 rfl infoIr) ?_)
     | ((with_reducible show wpList _ _ _ (Oper.mk _ (.store _ _ _) _ _ _ _ :: _) _ _); refine wl_store rfl 65 _ _ rfl _ rfl _ rfl (run_store_arr (Arr.new W _ _ _) (irqE x) infoIr (irqE_one _ _)) ?_))
    rw [← HX.out]
    clear HX HCP
    go_wp2_with (first
     | ((with_reducible show wpList _ _ _ (Oper.mk _ (.load _ _) _ _ _ _ :: _) _ _); refine wl_load rfl 65 _ rfl _ rfl _ (run_load_arr HA.out Tryz.underlying65 rfl infoIr) ?_)
     | ((with_reducible show wpList _ _ _ (Oper.mk _ (.buildSlice _ _ _) _ _ _ _ :: _) _ _); refine wl_bs1 rfl _ rfl _ rfl (build_part pp w1) ?_)
     | (go_at_call 157; refine HLX.out.mono ?_; rintro e w1 ⟨v, rfl, hv, hd⟩; obtain ⟨pp, rfl, B2, d2, w2, hrun, hn⟩ := HST.out w1 v hd hv; have H3 := Lib.hid hn; clear hv hd hn))
    go_roundw
    case rel => exact ⟨k + 1, d2, B2, HLT.out, by go_num, rfl, H3⟩
    case measure => have := HLT.out; simp [intOf]; omega
  · obtain rfl : k = N := by omega
    have HC : Hid (Calls Tryz.prog 112 #[.slice B k d] W (Bytes W R)) := Lib.hid (by
     obtain ⟨ps, q1, q2, q3⟩ := HP.out.ex
     rw [HN.out, List.take_length, ← HR.out] at q2
     have := q3.cat (by rw [q2, HR.out]; exact HT.out) (by omega)
     rw [q2] at this
     exact this)
    have HB := Lib.hid HP.out.bel
    clear hlt0
    go_wp2_with (go_at_call 112; refine HC.out.mono ?_; rintro e w1 ⟨v, rfl, hv, hd⟩; have HV := Lib.hid (And.intro hv hd); clear hv hd)
    go_ret
    exact ⟨_, rfl, owns_mono HV.out.1 HB.out.size, HB.out.trans (HV.out.2.mono HB.out.size)⟩
set_option maxRecDepth 100000 in
set_option maxHeartbeats 4000000 in
theorem row_en (l : List En) (A : Option Addr) (c : Nat) (w : World) (hl : l.length ≤ 1000) (h1 : RowE 3 endE w w.heap.size A l) (htot : (l.flatMap layEn).length ≤ 70368744177664)
  (hL : ∀ j (h : j < l.length) Y, Below w.heap.size w Y → Calls Tryz.prog 159 #[.agg (vec 3 (endE l[j]))] Y (Bytes Y (layEn l[j]))) :
  Calls Tryz.prog 158 #[.slice A l.length c, .func (.func 159) #[] #[]] w (Bytes w (l.flatMap layEn)) := by
 have H1 := Lib.hid h1
 have HL := Lib.hid hL
 have HT := Lib.hid htot
 obtain ⟨N, hN⟩ : ∃ N, N = l.length := ⟨_, rfl⟩
 have HN := Lib.hid hN
 rw [← hN] at hl ⊢
 obtain ⟨R, hR⟩ : ∃ R, R = l.flatMap layEn := ⟨_, rfl⟩
 have HR := Lib.hid hR
 rw [← hR]
 unfold Bytes
 clear h1 hL htot hN hR
 go_enter Tryz.func158, Tryz.ntmps158
 go_wp2
 go_loopw [5, 7, 10] (fun vo _ vi W => ∃ (k d : Nat) (B : Option Addr), k ≤ N ∧ vi = .int .i64 k ∧ vo = .slice B k d ∧ Hid (PaAt layEn l w W k (.slice B k d))) (fun _ _ i _ => N - (intOf i).toNat)
 case atStart => exact ⟨0, 0, none, Nat.zero_le _, rfl, rfl, Lib.hid ⟨⟨[], rfl, rfl, partsV.nil _ _⟩, Below.refl _ _⟩⟩
 case round =>
  obtain ⟨k, d, B, hk, rfl, rfl, HP⟩ := hrel
  obtain ⟨W, hW⟩ : ∃ W : World, W = wr := ⟨_, rfl⟩
  subst hW
  by_cases hlt0 : k < N
  · have hlt : k < l.length := by have := HN.out; omega
    have hB := HP.out.bel
    have g1 := H1.out.up hB
    obtain ⟨a, p, rfl, hp, -, hcp⟩ := g1.at hlt
    obtain ⟨x, hx⟩ : ∃ x, x = l[k] := ⟨_, rfl⟩
    rw [← hx] at hcp
    obtain ⟨X, hX⟩ : ∃ X, X = (W.alloc (.cells (vec 3 (endE zEn)) 44)).setRow W.heap.size (vec 3 (endE x)) := ⟨_, rfl⟩
    have b1 : Below W.heap.size W X := by rw [hX]; exact below_row ((Below.refl _ _).alloc (Nat.le_refl _) _) (Nat.le_refl _) _
    have a1 : Arr X W.heap.size 44 3 (endE x) := by rw [hX]; exact (Arr.new W _ _ _).row _
    have HLX := Lib.hid (HL.out k hlt X (hB.trans (b1.mono hB.size)))
    rw [← hx] at HLX
    have HST : Hid (∀ (W1 : World) (u : Value), Below X.heap.size X W1 → W1.ownsRow X.heap.size 5 1 u (layEn x).length (u8s (layEn x)) → ∃ pp : Part, u = partV pp ∧ ∃ B2 d2 w2, (appS #[196, 196] 196 #[.slice B k d, .slice (some ⟨W1.heap.size, 0, none⟩) 1 1]).run Tryz.prog (W1.alloc (.cells (vec 1 (PV pp)) 78)) = .ok (.slice B2 (k + 1) d2) w2 ∧ PaAt layEn l w w2 (k + 1) (.slice B2 (k + 1) d2)) := Lib.hid (fun W1 u hd hv => by
     have := HP.out.step hlt (by omega) (b1.trans (hd.mono b1.size)) (u := u) (by rw [← hx]; exact (own_of hv).low b1.size)
     exact this)
    have hki : (k : Int) < (N : Int) := by omega
    have HCP := Lib.hid hcp
    have HX := Lib.hid hX
    have HA := Lib.hid a1
    have HLT := Lib.hid hlt0
    clear g1 hcp hx hlt hX b1 a1 hB hlt0
    go_upto_region 5 with (first
     | ((with_reducible show wpList _ _ _ (Oper.mk _ (.load _ _) _ _ _ _ :: _) _ _); refine wl_load_q rfl 44 _ rfl p rfl _ (run_load_q HCP.out Tryz.underlying44 rfl infoEn) ?_)
     | ((with_reducible show wpList _ _ _ (Oper.mk _ (.store _ _ _) _ _ _ _ :: _) _ _); refine wl_store rfl 44 _ _ rfl _ rfl _ rfl (run_store_arr (Arr.new W _ _ _) (endE x) infoEn (endE_one _ _)) ?_))
    rw [← HX.out]
    clear HX HCP
    go_wp2_with (first
     | ((with_reducible show wpList _ _ _ (Oper.mk _ (.load _ _) _ _ _ _ :: _) _ _); refine wl_load rfl 44 _ rfl _ rfl _ (run_load_arr HA.out Tryz.underlying44 rfl infoEn) ?_)
     | ((with_reducible show wpList _ _ _ (Oper.mk _ (.buildSlice _ _ _) _ _ _ _ :: _) _ _); refine wl_bs1 rfl _ rfl _ rfl (build_part pp w1) ?_)
     | (go_at_call 159; refine HLX.out.mono ?_; rintro e w1 ⟨v, rfl, hv, hd⟩; obtain ⟨pp, rfl, B2, d2, w2, hrun, hn⟩ := HST.out w1 v hd hv; have H3 := Lib.hid hn; clear hv hd hn))
    go_roundw
    case rel => exact ⟨k + 1, d2, B2, HLT.out, by go_num, rfl, H3⟩
    case measure => have := HLT.out; simp [intOf]; omega
  · obtain rfl : k = N := by omega
    have HC : Hid (Calls Tryz.prog 112 #[.slice B k d] W (Bytes W R)) := Lib.hid (by
     obtain ⟨ps, q1, q2, q3⟩ := HP.out.ex
     rw [HN.out, List.take_length, ← HR.out] at q2
     have := q3.cat (by rw [q2, HR.out]; exact HT.out) (by omega)
     rw [q2] at this
     exact this)
    have HB := Lib.hid HP.out.bel
    clear hlt0
    go_wp2_with (go_at_call 112; refine HC.out.mono ?_; rintro e w1 ⟨v, rfl, hv, hd⟩; have HV := Lib.hid (And.intro hv hd); clear hv hd)
    go_ret
    exact ⟨_, rfl, owns_mono HV.out.1 HB.out.size, HB.out.trans (HV.out.2.mono HB.out.size)⟩
set_option maxRecDepth 100000 in
set_option maxHeartbeats 4000000 in
theorem row_ch (l : List Ch) (A : Option Addr) (c : Nat) (w : World) (hl : l.length ≤ 1000) (h1 : RowE 8 chE w w.heap.size A l) (htot : (l.flatMap layCh).length ≤ 70368744177664)
  (hL : ∀ j (h : j < l.length) Y, Below w.heap.size w Y → Calls Tryz.prog 118 #[.agg (vec 8 (chE l[j]))] Y (Bytes Y (layCh l[j]))) :
  Calls Tryz.prog 117 #[.slice A l.length c, .func (.func 118) #[] #[]] w (Bytes w (l.flatMap layCh)) := by
 have H1 := Lib.hid h1
 have HL := Lib.hid hL
 have HT := Lib.hid htot
 obtain ⟨N, hN⟩ : ∃ N, N = l.length := ⟨_, rfl⟩
 have HN := Lib.hid hN
 rw [← hN] at hl ⊢
 obtain ⟨R, hR⟩ : ∃ R, R = l.flatMap layCh := ⟨_, rfl⟩
 have HR := Lib.hid hR
 rw [← hR]
 unfold Bytes
 clear h1 hL htot hN hR
 go_enter Tryz.func117, Tryz.ntmps117
 go_wp2
 go_loopw [5, 7, 10] (fun vo _ vi W => ∃ (k d : Nat) (B : Option Addr), k ≤ N ∧ vi = .int .i64 k ∧ vo = .slice B k d ∧ Hid (PaAt layCh l w W k (.slice B k d))) (fun _ _ i _ => N - (intOf i).toNat)
 case atStart => exact ⟨0, 0, none, Nat.zero_le _, rfl, rfl, Lib.hid ⟨⟨[], rfl, rfl, partsV.nil _ _⟩, Below.refl _ _⟩⟩
 case round =>
  obtain ⟨k, d, B, hk, rfl, rfl, HP⟩ := hrel
  obtain ⟨W, hW⟩ : ∃ W : World, W = wr := ⟨_, rfl⟩
  subst hW
  by_cases hlt0 : k < N
  · have hlt : k < l.length := by have := HN.out; omega
    have hB := HP.out.bel
    have g1 := H1.out.up hB
    obtain ⟨a, p, rfl, hp, -, hcp⟩ := g1.at hlt
    obtain ⟨x, hx⟩ : ∃ x, x = l[k] := ⟨_, rfl⟩
    rw [← hx] at hcp
    obtain ⟨X, hX⟩ : ∃ X, X = (W.alloc (.cells (vec 8 (chE zCh)) 47)).setRow W.heap.size (vec 8 (chE x)) := ⟨_, rfl⟩
    have b1 : Below W.heap.size W X := by rw [hX]; exact below_row ((Below.refl _ _).alloc (Nat.le_refl _) _) (Nat.le_refl _) _
    have a1 : Arr X W.heap.size 47 8 (chE x) := by rw [hX]; exact (Arr.new W _ _ _).row _
    have HLX := Lib.hid (HL.out k hlt X (hB.trans (b1.mono hB.size)))
    rw [← hx] at HLX
    have HST : Hid (∀ (W1 : World) (u : Value), Below X.heap.size X W1 → W1.ownsRow X.heap.size 5 1 u (layCh x).length (u8s (layCh x)) → ∃ pp : Part, u = partV pp ∧ ∃ B2 d2 w2, (appS #[196, 196] 196 #[.slice B k d, .slice (some ⟨W1.heap.size, 0, none⟩) 1 1]).run Tryz.prog (W1.alloc (.cells (vec 1 (PV pp)) 78)) = .ok (.slice B2 (k + 1) d2) w2 ∧ PaAt layCh l w w2 (k + 1) (.slice B2 (k + 1) d2)) := Lib.hid (fun W1 u hd hv => by
     have := HP.out.step hlt (by omega) (b1.trans (hd.mono b1.size)) (u := u) (by rw [← hx]; exact (own_of hv).low b1.size)
     exact this)
    have hki : (k : Int) < (N : Int) := by omega
    have HCP := Lib.hid hcp
    have HX := Lib.hid hX
    have HA := Lib.hid a1
    have HLT := Lib.hid hlt0
    clear g1 hcp hx hlt hX b1 a1 hB hlt0
    go_upto_region 5 with (first
     | ((with_reducible show wpList _ _ _ (Oper.mk _ (.load _ _) _ _ _ _ :: _) _ _); refine wl_load_q rfl 47 _ rfl p rfl _ (run_load_q HCP.out Tryz.underlying47 rfl infoCh) ?_)
     | ((with_reducible show wpList _ _ _ (Oper.mk _ (.store _ _ _) _ _ _ _ :: _) _ _); refine wl_store rfl 47 _ _ rfl _ rfl _ rfl (run_store_arr (Arr.new W _ _ _) (chE x) infoCh (chE_one _ _)) ?_))
    rw [← HX.out]
    clear HX HCP
    go_wp2_with (first
     | ((with_reducible show wpList _ _ _ (Oper.mk _ (.load _ _) _ _ _ _ :: _) _ _); refine wl_load rfl 47 _ rfl _ rfl _ (run_load_arr HA.out Tryz.underlying47 rfl infoCh) ?_)
     | ((with_reducible show wpList _ _ _ (Oper.mk _ (.buildSlice _ _ _) _ _ _ _ :: _) _ _); refine wl_bs1 rfl _ rfl _ rfl (build_part pp w1) ?_)
     | (go_at_call 118; refine HLX.out.mono ?_; rintro e w1 ⟨v, rfl, hv, hd⟩; obtain ⟨pp, rfl, B2, d2, w2, hrun, hn⟩ := HST.out w1 v hd hv; have H8 := Lib.hid hn; clear hv hd hn))
    go_roundw
    case rel => exact ⟨k + 1, d2, B2, HLT.out, by go_num, rfl, H8⟩
    case measure => have := HLT.out; simp [intOf]; omega
  · obtain rfl : k = N := by omega
    have HC : Hid (Calls Tryz.prog 112 #[.slice B k d] W (Bytes W R)) := Lib.hid (by
     obtain ⟨ps, q1, q2, q3⟩ := HP.out.ex
     rw [HN.out, List.take_length, ← HR.out] at q2
     have := q3.cat (by rw [q2, HR.out]; exact HT.out) (by omega)
     rw [q2] at this
     exact this)
    have HB := Lib.hid HP.out.bel
    clear hlt0
    go_wp2_with (go_at_call 112; refine HC.out.mono ?_; rintro e w1 ⟨v, rfl, hv, hd⟩; have HV := Lib.hid (And.intro hv hd); clear hv hd)
    go_ret
    exact ⟨_, rfl, owns_mono HV.out.1 HB.out.size, HB.out.trans (HV.out.2.mono HB.out.size)⟩
set_option maxRecDepth 100000 in
set_option maxHeartbeats 4000000 in
theorem row_gu (l : List GV) (A : Option Addr) (c : Nat) (w : World) (hl : l.length ≤ 1000) (h1 : RowE 79 guestE w w.heap.size A l) (hone : ∀ y ∈ l, GV1 y) (htot : (l.flatMap (fun y : GV => layG y.g)).length ≤ 70368744177664)
  (hL : ∀ j (h : j < l.length) Y, Below w.heap.size w Y → Calls Tryz.prog 116 #[.agg (vec 79 (guestE l[j]))] Y (Bytes Y ((fun y : GV => layG y.g) l[j]))) :
  Calls Tryz.prog 115 #[.slice A l.length c, .func (.func 116) #[] #[]] w (Bytes w (l.flatMap (fun y : GV => layG y.g))) := by
 have H1 := Lib.hid h1
 have HL := Lib.hid hL
 have HT := Lib.hid htot
 have HON := Lib.hid hone
 clear hone
 obtain ⟨N, hN⟩ : ∃ N, N = l.length := ⟨_, rfl⟩
 have HN := Lib.hid hN
 rw [← hN] at hl ⊢
 obtain ⟨R, hR⟩ : ∃ R, R = l.flatMap (fun y : GV => layG y.g) := ⟨_, rfl⟩
 have HR := Lib.hid hR
 rw [← hR]
 unfold Bytes
 clear h1 hL htot hN hR
 go_enter Tryz.func115, Tryz.ntmps115
 go_wp2
 go_loopw [5, 7, 10] (fun vo _ vi W => ∃ (k d : Nat) (B : Option Addr), k ≤ N ∧ vi = .int .i64 k ∧ vo = .slice B k d ∧ Hid (PaAt (fun y : GV => layG y.g) l w W k (.slice B k d))) (fun _ _ i _ => N - (intOf i).toNat)
 case atStart => exact ⟨0, 0, none, Nat.zero_le _, rfl, rfl, Lib.hid ⟨⟨[], rfl, rfl, partsV.nil _ _⟩, Below.refl _ _⟩⟩
 case round =>
  obtain ⟨k, d, B, hk, rfl, rfl, HP⟩ := hrel
  obtain ⟨W, hW⟩ : ∃ W : World, W = wr := ⟨_, rfl⟩
  subst hW
  by_cases hlt0 : k < N
  · have hlt : k < l.length := by have := HN.out; omega
    have hB := HP.out.bel
    have g1 := H1.out.up hB
    obtain ⟨a, p, rfl, hp, -, hcp⟩ := g1.at hlt
    obtain ⟨x, hx⟩ : ∃ x, x = l[k] := ⟨_, rfl⟩
    rw [← hx] at hcp
    obtain ⟨X, hX⟩ : ∃ X, X = (W.alloc (.cells (vec 79 (guestE zGV)) 63)).setRow W.heap.size (vec 79 (guestE x)) := ⟨_, rfl⟩
    have b1 : Below W.heap.size W X := by rw [hX]; exact below_row ((Below.refl _ _).alloc (Nat.le_refl _) _) (Nat.le_refl _) _
    have a1 : Arr X W.heap.size 63 79 (guestE x) := by rw [hX]; exact (Arr.new W _ _ _).row _
    have HLX := Lib.hid (HL.out k hlt X (hB.trans (b1.mono hB.size)))
    rw [← hx] at HLX
    have HST : Hid (∀ (W1 : World) (u : Value), Below X.heap.size X W1 → W1.ownsRow X.heap.size 5 1 u (layG x.g).length (u8s (layG x.g)) → ∃ pp : Part, u = partV pp ∧ ∃ B2 d2 w2, (appS #[196, 196] 196 #[.slice B k d, .slice (some ⟨W1.heap.size, 0, none⟩) 1 1]).run Tryz.prog (W1.alloc (.cells (vec 1 (PV pp)) 78)) = .ok (.slice B2 (k + 1) d2) w2 ∧ PaAt (fun y : GV => layG y.g) l w w2 (k + 1) (.slice B2 (k + 1) d2)) := Lib.hid (fun W1 u hd hv => by
     have := HP.out.step hlt (by omega) (b1.trans (hd.mono b1.size)) (u := u) (by rw [← hx]; exact (own_of hv).low b1.size)
     exact this)
    have hki : (k : Int) < (N : Int) := by omega
    have HCP := Lib.hid hcp
    have HX := Lib.hid hX
    have HA := Lib.hid a1
    have HG1 : Hid (GV1 x) := Lib.hid (by rw [hx]; exact HON.out _ (List.getElem_mem _))
    have HLT := Lib.hid hlt0
    clear g1 hcp hx hlt hX b1 a1 hB hlt0
    go_upto_region 5 with (first
     | ((with_reducible show wpList _ _ _ (Oper.mk _ (.load _ _) _ _ _ _ :: _) _ _); refine wl_load_q rfl 63 _ rfl p rfl _ (run_load_q HCP.out Tryz.underlying63 rfl infoGu) ?_)
     | ((with_reducible show wpList _ _ _ (Oper.mk _ (.store _ _ _) _ _ _ _ :: _) _ _); refine wl_store rfl 63 _ _ rfl _ rfl _ rfl (run_store_arr (Arr.new W _ _ _) (guestE x) infoGu (guestE_one _ HG1.out _)) ?_))
    rw [← HX.out]
    clear HX HCP
    go_wp2_with (first
     | ((with_reducible show wpList _ _ _ (Oper.mk _ (.load _ _) _ _ _ _ :: _) _ _); refine wl_load rfl 63 _ rfl _ rfl _ (run_load_arr HA.out Tryz.underlying63 rfl infoGu) ?_)
     | ((with_reducible show wpList _ _ _ (Oper.mk _ (.buildSlice _ _ _) _ _ _ _ :: _) _ _); refine wl_bs1 rfl _ rfl _ rfl (build_part pp w1) ?_)
     | (go_at_call 116; refine HLX.out.mono ?_; rintro e w1 ⟨v, rfl, hv, hd⟩; obtain ⟨pp, rfl, B2, d2, w2, hrun, hn⟩ := HST.out w1 v hd hv; have H79 := Lib.hid hn; clear hv hd hn))
    go_roundw
    case rel => exact ⟨k + 1, d2, B2, HLT.out, by go_num, rfl, H79⟩
    case measure => have := HLT.out; simp [intOf]; omega
  · obtain rfl : k = N := by omega
    have HC : Hid (Calls Tryz.prog 112 #[.slice B k d] W (Bytes W R)) := Lib.hid (by
     obtain ⟨ps, q1, q2, q3⟩ := HP.out.ex
     rw [HN.out, List.take_length, ← HR.out] at q2
     have := q3.cat (by rw [q2, HR.out]; exact HT.out) (by omega)
     rw [q2] at this
     exact this)
    have HB := Lib.hid HP.out.bel
    clear hlt0
    go_wp2_with (go_at_call 112; refine HC.out.mono ?_; rintro e w1 ⟨v, rfl, hv, hd⟩; have HV := Lib.hid (And.intro hv hd); clear hv hd)
    go_ret
    exact ⟨_, rfl, owns_mono HV.out.1 HB.out.size, HB.out.trans (HV.out.2.mono HB.out.size)⟩
end Go.Proofs.YtkaipknkjocfiaaGreat
