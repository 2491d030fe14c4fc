import Derived.Test.YtkaipknkjocfiaaGreatZa39
namespace Go.Proofs.YtkaipknkjocfiaaGreat
open Go.RowKit Go.Maps
attribute [local go_sem ↓ high] zeroSp zeroIr
theorem each_pure {α : Type} {l : List α} {q : α → Bool} {V w' : World} {e : Ending} {n0 : Nat} (h : ∃ r, e = .returned (.bool r) ∧ NewKept n0 V w' ∧ (r = true → Below V.heap.size V w' ∧ ∀ j (hj : j < l.length), j < l.length → q l[j] = !false) ∧ (r = false → ∃ i, i < l.length ∧ Below V.heap.size V w' ∧ ∃ hi : i < l.length, q l[i] = false)) : EqV (l.all q) V e w' := by
 obtain ⟨r, rfl, -, h1, h2⟩ := h
 cases r with
 | true => exact ⟨by rw [all_of fun i hi => (h1 rfl).2 i hi hi], (h1 rfl).1⟩
 | false =>
  obtain ⟨i, hi, hB, hi2, hq⟩ := h2 rfl
  exact ⟨by rw [all_miss (f := q) hi2 hq], hB⟩
theorem kwins_any (p : Nat) (b : Bd) (hf : fitB b = true) (hr : fit b.r) (hl : fit b.l) (l : List Wi) (hn : l.length ≤ 1000000) (hy : ∀ y ∈ l, WiB y) (A : Option Addr) (B c : Nat) (V : World) (hk : KB V p b) (hrow : RowE 4 winE V B A l) (hB : B ≤ V.heap.size) :
  Calls Tryz.prog 41 #[.slice A l.length c, .func (.func 42) #[.pointer (some ⟨p, 0, none⟩)] #[]] V (EqV (l.all (winB b)) V) := by
 have eL : ∀ args w, (callFunc 42 args).run Tryz.prog w = .ok (.enter 42 args) w := enters_of Tryz.func42 (by kernel_rfl) rfl
 have hq := each_Wi A B c l hn 42 #[.pointer (some ⟨p, 0, none⟩)] #[] V.heap.size _ _ (Asks.pure (V := V) (q := winB b) (n0 := V.heap.size) (Rw := fun Y => RowE 4 winE Y B A l) false
  (fun Y hY => hrow.below (hY.mono hB)) eL
  (fun i hi Y hY => by
   have := kwindow_any p b l[i] (hy _ (List.getElem_mem hi)) hr hl Y (hk.under hY)
   rw [win_is hf] at this
   exact this)) V (Nat.le_refl _) ⟨Below.refl _ _, fun j _ hj => by omega⟩
 exact hq.mono fun e w' h => each_pure h
theorem kdevs_any (p : Nat) (b : Bd) (hr : fit b.r) (l : List De) (hn : l.length ≤ 1000000) (hy : ∀ y ∈ l, DeB y) (A : Option Addr) (B c : Nat) (V : World) (hk : KB V p b) (hrow : RowE 3 devE V B A l) (hB : B ≤ V.heap.size) :
  Calls Tryz.prog 43 #[.slice A l.length c, .func (.func 44) #[.pointer (some ⟨p, 0, none⟩)] #[]] V (EqV (l.all (devB b)) V) := by
 have eL : ∀ args w, (callFunc 44 args).run Tryz.prog w = .ok (.enter 44 args) w := enters_of Tryz.func44 (by kernel_rfl) rfl
 have hq := each_De A B c l hn 44 #[.pointer (some ⟨p, 0, none⟩)] #[] V.heap.size _ _ (Asks.pure (V := V) (q := devB b) (n0 := V.heap.size) (Rw := fun Y => RowE 3 devE Y B A l) false
  (fun Y hY => hrow.below (hY.mono hB)) eL
  (fun i hi Y hY => by
   have := kdevice_any p b l[i] (hy _ (List.getElem_mem hi)) hr Y (hk.under hY)
   rw [dev_is] at this
   exact this)) V (Nat.le_refl _) ⟨Below.refl _ _, fun j _ hj => by omega⟩
 exact hq.mono fun e w' h => each_pure h
theorem TakeC.low {K : TypeId} {m n : Nat} {L : List Lit} {q : Bool} {w V w' : World} {e : Ending} (h : TakeC K m n L q V e w') (hb : Below w.heap.size w V) : TakeC K m n L q w e w' := by
 obtain ⟨r, h1, h2, h3, h4⟩ := h
 exact ⟨r, h1, h2, h3, (Save.of_below hb).trans h4⟩
set_option maxHeartbeats 2000000 in
set_option maxRecDepth 100000 in
theorem kirqc_any (p r2 r5 : Nat) (b : Bd) (t : Gs) (hc : 0 ≤ t.cpus ∧ t.cpus ≤ 4294967295) (m n : Nat) (L : List Lit) (q : Ir) (hq : 0 ≤ q.cpu ∧ q.cpu ≤ 65535) (hv : i64B q.number) (w : World) (h : KB w p b) (hpm : p ≠ m) (h10 : w.cell? ⟨p, 10, none⟩ = some (.map (some m))) (hs : SetM 3 w m n L) (hn : n ≤ 1000000)
  (c2 : w.cell? ⟨r2, 0, none⟩ = some (.pointer (some ⟨p, 0, none⟩))) (c5 : w.cell? ⟨r5, 4, none⟩ = some (.int .u32 t.cpus)) :
  Calls Tryz.prog 48 #[.agg (vec 3 (irqE q)), .pointer (some ⟨r2, 0, none⟩), .pointer (some ⟨r5, 0, none⟩)] w (TakeC 3 m (n + 1) (L ++ [.int .i64 q.number]) (irqK b t q && !inL L (.int .i64 q.number)) w) := by
 obtain ⟨r3, hr3⟩ : ∃ r, r = w.heap.size := ⟨_, rfl⟩
 obtain ⟨V, hV⟩ : ∃ V, V = w.alloc (.cells (vec 3 (irqE q)) 65) := ⟨_, rfl⟩
 have hb : Below w.heap.size w V := by rw [hV]; exact Below.alloc_own w _
 have HA : Hid (Arr V r3 65 3 (irqE q)) := Lib.hid (by rw [hV, hr3]; exact Arr.new _ _ _ _)
 have d2 : V.cell? ⟨r2, 0, none⟩ = some (.pointer (some ⟨p, 0, none⟩)) := (hb.cell (p := ⟨r2, 0, none⟩) (lt_of_cell c2)).trans c2
 obtain ⟨C, hC⟩ : ∃ C, C = t.cpus := ⟨_, rfl⟩
 have d5 : V.cell? ⟨r5, 4, none⟩ = some (.int .u32 C) := by rw [hC]; exact (hb.cell (p := ⟨r5, 4, none⟩) (lt_of_cell c5)).trans c5
 have HI := Lib.hid (kirq_any p b t hc m n L q hq hv V (h.under hb) hpm ((hb.cell (p := ⟨p, 10, none⟩) h.1).trans h10) (hs.under hb) hn)
 rw [← hC] at HI
 obtain ⟨Q, hQ⟩ : ∃ Q, Q = TakeC 3 m (n + 1) (L ++ [.int .i64 q.number]) (irqK b t q && !inL L (.int .i64 q.number)) w := ⟨_, rfl⟩
 have HQ : Hid (∀ r w', TakeC 3 m (n + 1) (L ++ [.int .i64 q.number]) (irqK b t q && !inL L (.int .i64 q.number)) V (.returned (.bool r)) w' → Q (.returned (.bool r)) w') := Lib.hid fun r w' hh => by rw [hQ]; exact hh.low hb
 have HV := Lib.hid hV
 have HR := Lib.hid hr3
 rw [← hQ]
 clear hc hq hv h hpm h10 hs hn c2 c5 hV hr3 hb hC hQ
 go_enter Tryz.func48, Tryz.ntmps48
 go_upto_region 1 with fail
 rw [← HV.out, ← HR.out]
 clear HV HR
 go_wp2_with (first
  | ((with_reducible show wpList _ _ _ (Oper.mk _ (.load 65 _) _ _ _ _ :: _) _ _); refine wl_load rfl 65 _ rfl r3 rfl _ (run_load_arr HA.out Tryz.underlying65 rfl infoIr) ?_)
  | (go_at_call 49; refine HI.out.mono ?_; intro e w1 hh; obtain ⟨r, rfl, h2, h3, h4⟩ := hh; have HX := Lib.hid (And.intro h2 (And.intro h3 h4)); clear h2 h3 h4))
 exact HQ.out r _ ⟨r, rfl, HX.out⟩
section
variable {B : Nat} {p m1 m2 m3 m4 base : Nat} {b : Bd} {wh : Int} {N : Nat} {L1 L2 L3 L4 : List Lit} {mem : List Sp}
theorem kirqs_any {x : Cf} (hb : CfB x) (n : Nat) (hn : n < x.gs.length) (hlen : x.gs[n].irqs.length ≤ 100) (hp : ∀ q ∈ x.gs[n].irqs, 0 ≤ q.cpu ∧ q.cpu ≤ 65535) (r2 r5 c : Nat) (A : Option Addr) (V : World) (hs : KSt B V p m1 m2 m3 m4 base b wh N L1 L2 (irqN x n) L4 mem) (hN : N ≤ 100000)
  (hrow : RowE 3 irqE V B A x.gs[n].irqs) (h2 : base ≤ r2) (h5 : base ≤ r5) (c2 : V.cell? ⟨r2, 0, none⟩ = some (.pointer (some ⟨p, 0, none⟩))) (c5 : V.cell? ⟨r5, 4, none⟩ = some (.int .u32 x.gs[n].cpus)) :
  Calls Tryz.prog 47 #[.slice A x.gs[n].irqs.length c, .func (.func 48) #[] #[.pointer (some ⟨r2, 0, none⟩), .pointer (some ⟨r5, 0, none⟩)]] V fun e w' => ∃ r, e = .returned (.bool r) ∧ r = irqsB b x n x.gs[n] ∧ Save m3 V w' ∧ (r = true → KSt B w' p m1 m2 m3 m4 base b wh (N + 100) L1 L2 (irqN x (n + 1)) L4 mem) := by
 have eL : ∀ args w, (callFunc 48 args).run Tryz.prog w = .ok (.enter 48 args) w := enters_of Tryz.func48 (by kernel_rfl) rfl
 have hord := hs.ord
 have hcp := (hb.gs _ (List.getElem_mem hn)).cpus
 unfold u32B at hcp
 have H : Asks x.gs[n].irqs (fun y => Value.agg (vec 3 (irqE y))) 48 #[] #[.pointer (some ⟨r2, 0, none⟩), .pointer (some ⟨r5, 0, none⟩)] false V.heap.size (fun W => RowE 3 irqE W B A x.gs[n].irqs)
   (fun i W => KSt B W p m1 m2 m3 m4 base b wh (N + i) L1 L2 (irqT x n x.gs[n] i) L4 mem ∧ Save m3 V W ∧ ∀ j, j < i → irqR b x n x.gs[n] j = true)
   (fun i W => Save m3 V W ∧ irqR b x n x.gs[n] i = false) := {
  row := fun i W h => hrow.below (h.2.1.below (by omega) (by omega))
  keep := fun i W W' h hB => ⟨h.1.under hB, h.2.1.trans (Save.of_below hB), h.2.2⟩
  keepJ := fun i W W' h hB => ⟨h.1.trans (Save.of_below hB), h.2⟩
  enters := eL
  call := fun i hi W h => by
   have hne := h.1.ne
   refine Calls.mono (kirqc_any p r2 r5 b x.gs[n] hcp m3 (N + i) (irqT x n x.gs[n] i) x.gs[n].irqs[i] (hp _ (List.getElem_mem hi)) ((hb.gs _ (List.getElem_mem hn)).irqs _ (List.getElem_mem hi)).1 W h.1.kb hne.2.2.1 h.1.cell.2.2.2.1 h.1.s3 (by omega)
     ((h.2.1.cell (p := ⟨r2, 0, none⟩) (lt_of_cell c2) (by show r2 ≠ m3; omega)).trans c2) ((h.2.1.cell (p := ⟨r5, 4, none⟩) (lt_of_cell c5) (by show r5 ≠ m3; omega)).trans c5)) ?_
   rintro e W' ⟨r, rfl, hr, hset, hsv⟩
   have hR : irqR b x n x.gs[n] i = r := by unfold irqR; rw [List.getElem?_eq_getElem hi]; exact hr.symm
   refine ⟨r, rfl, NewKept.of_save hsv (by have := h.1.ord; omega), fun e => ⟨h.2.1.trans hsv, by rw [hR, e]⟩, fun e => ?_⟩
   have et : r = true := e
   refine ⟨?_, h.2.1.trans hsv, fun j hj => ?_⟩
   · have := h.1.take3 (N' := N + i + 1) (by omega) hsv (hset et)
     rw [irqT_succ x n x.gs[n] i hi]
     exact this
   · rcases Nat.lt_or_ge j i with h1 | h1
     · exact h.2.2 j h1
     · obtain rfl : j = i := by omega
       rw [hR, et] }
 have hI0 : irqT x n x.gs[n] 0 = irqN x n := by unfold irqT; simp
 have hq := each_Ir A B c x.gs[n].irqs (by omega) 48 #[] #[.pointer (some ⟨r2, 0, none⟩), .pointer (some ⟨r5, 0, none⟩)] V.heap.size _ _ H V (Nat.le_refl _) ⟨by rw [hI0]; exact hs, Save.refl _ _, fun j hj => by omega⟩
 refine hq.mono ?_
 rintro e w' ⟨r, rfl, -, h1, h2⟩
 rw [irqs_is hb hn fun q hq => (hp q hq).1]
 cases r with
 | true =>
  obtain ⟨k1, k2, k3⟩ := h1 rfl
  refine ⟨true, rfl, (List.all_eq_true.2 fun i hi => k3 i (List.mem_range.1 hi)).symm, k2, fun _ => ?_⟩
  rw [irqT_all x n hn] at k1
  exact k1.wide (by omega)
 | false =>
  obtain ⟨i, hi, k1, k2⟩ := h2 rfl
  exact ⟨false, rfl, (all_miss (l := List.range x.gs[n].irqs.length) (i := i) (by simpa using hi) (by simpa using k2)).symm, k1, fun h => by cases h⟩
theorem kstrs_any {x : Cf} (hb : CfB x) (n : Nat) (hn : n < x.gs.length) (hlen : x.gs[n].strs.length ≤ 100) (hst : 0 ≤ b.strs ∧ b.strs ≤ 256) (c : Nat) (A : Option Addr) (V : World) (hs : KSt B V p m1 m2 m3 m4 base b wh N L1 L2 L3 (strN x n) mem) (hN : N ≤ 100000)
  (hrow : RowE 1 numE V B A x.gs[n].strs) :
  Calls Tryz.prog 50 #[.slice A x.gs[n].strs.length c, .func (.func 51) #[.pointer (some ⟨p, 0, none⟩)] #[]] V fun e w' => ∃ r, e = .returned (.bool r) ∧ r = strsB b x n x.gs[n] ∧ Save m4 V w' ∧ (r = true → KSt B w' p m1 m2 m3 m4 base b wh (N + 100) L1 L2 L3 (strN x (n + 1)) mem) := by
 have eL : ∀ args w, (callFunc 51 args).run Tryz.prog w = .ok (.enter 51 args) w := enters_of Tryz.func51 (by kernel_rfl) rfl
 have hord := hs.ord
 have H : Asks x.gs[n].strs (fun y => Value.int .u32 y) 51 #[.pointer (some ⟨p, 0, none⟩)] #[] false V.heap.size (fun W => RowE 1 numE W B A x.gs[n].strs)
   (fun i W => KSt B W p m1 m2 m3 m4 base b wh (N + i) L1 L2 L3 (strT x n x.gs[n] i) mem ∧ Save m4 V W ∧ ∀ j, j < i → strR b x n x.gs[n] j = true)
   (fun i W => Save m4 V W ∧ strR b x n x.gs[n] i = false) := {
  row := fun i W h => hrow.below (h.2.1.below (by omega) (by omega))
  keep := fun i W W' h hB => ⟨h.1.under hB, h.2.1.trans (Save.of_below hB), h.2.2⟩
  keepJ := fun i W W' h hB => ⟨h.1.trans (Save.of_below hB), h.2⟩
  enters := eL
  call := fun i hi W h => by
   have hq := (hb.gs _ (List.getElem_mem hn)).strs _ (List.getElem_mem hi)
   unfold u32B at hq
   refine Calls.mono (kstream_any p b hst m4 (N + i) (strT x n x.gs[n] i) x.gs[n].strs[i] hq W h.1.kb h.1.cell.2.2.2.2.1 h.1.s4 (by omega)) ?_
   rintro e W' ⟨r, rfl, hr, hset, hsv⟩
   have hR : strR b x n x.gs[n] i = r := by unfold strR; rw [List.getElem?_eq_getElem hi]; exact hr.symm
   refine ⟨r, rfl, NewKept.of_save hsv (by have := h.1.ord; omega), fun e => ⟨h.2.1.trans hsv, by rw [hR, e]⟩, fun e => ?_⟩
   have et : r = true := e
   refine ⟨?_, h.2.1.trans hsv, fun j hj => ?_⟩
   · have := h.1.take4 (N' := N + i + 1) (by omega) hsv (hset et)
     rw [strT_succ x n x.gs[n] i hi]
     exact this
   · rcases Nat.lt_or_ge j i with h1 | h1
     · exact h.2.2 j h1
     · obtain rfl : j = i := by omega
       rw [hR, et] }
 have hI0 : strT x n x.gs[n] 0 = strN x n := by unfold strT; simp
 have hq := each_u32 A B c x.gs[n].strs (by omega) 51 #[.pointer (some ⟨p, 0, none⟩)] #[] V.heap.size _ _ H V (Nat.le_refl _) ⟨by rw [hI0]; exact hs, Save.refl _ _, fun j hj => by omega⟩
 refine hq.mono ?_
 rintro e w' ⟨r, rfl, -, h1, h2⟩
 rw [strs_is hn]
 cases r with
 | true =>
  obtain ⟨k1, k2, k3⟩ := h1 rfl
  refine ⟨true, rfl, (List.all_eq_true.2 fun i hi => k3 i (List.mem_range.1 hi)).symm, k2, fun _ => ?_⟩
  rw [strT_all x n hn] at k1
  exact k1.wide (by omega)
 | false =>
  obtain ⟨i, hi, k1, k2⟩ := h2 rfl
  exact ⟨false, rfl, (all_miss (l := List.range x.gs[n].strs.length) (i := i) (by simpa using hi) (by simpa using k2)).symm, k1, fun h => by cases h⟩
end
end Go.Proofs.YtkaipknkjocfiaaGreat
