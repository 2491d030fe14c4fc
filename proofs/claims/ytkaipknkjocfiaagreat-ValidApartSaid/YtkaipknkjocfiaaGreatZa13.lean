import Derived.Shelf.GgClosure.Gives
import Derived.Test.YtkaipknkjocfiaaGreatZa12
namespace Go.Proofs.YtkaipknkjocfiaaGreat
open Go.RowKit Go.Maps
def NewKept (n0 : Nat) (W W' : World) : Prop := W.heap.size ≤ W'.heap.size ∧ ∀ g, n0 ≤ g → g < W.heap.size → W'.heap[g]? = W.heap[g]?
theorem NewKept.refl (n0 : Nat) (W : World) : NewKept n0 W W := ⟨Nat.le_refl _, fun _ _ _ => rfl⟩
theorem NewKept.trans {n0 : Nat} {a b c : World} (h : NewKept n0 a b) (k : NewKept n0 b c) : NewKept n0 a c := ⟨Nat.le_trans h.1 k.1, fun g h1 h2 => (k.2 g h1 (Nat.lt_of_lt_of_le h2 h.1)).trans (h.2 g h1 h2)⟩
theorem NewKept.of_below {n0 : Nat} {W W' : World} (h : Below W.heap.size W W') : NewKept n0 W W' := ⟨h.size, fun g _ hg => h.5 g hg⟩
theorem NewKept.mono {n0 n1 : Nat} {W W' : World} (h : NewKept n0 W W') (hn : n0 ≤ n1) : NewKept n1 W W' := ⟨h.1, fun g h1 h2 => h.2 g (Nat.le_trans hn h1) h2⟩
theorem NewKept.of_save {n0 m : Nat} {W W' : World} (h : Save m W W') (hm : m < n0) : NewKept n0 W W' := ⟨h.size, fun g h1 h2 => h.block g h2 (by omega)⟩
structure Asks {α : Type} (l : List α) (val : α → Value) (f : FuncId) (fs lb : Array Value) (stop : Bool) (n0 : Nat) (Rw : World → Prop) (I J : Nat → World → Prop) : Prop where
 row : ∀ i W, I i W → Rw W
 keep : ∀ i W W', I i W → Below W.heap.size W W' → I i W'
 keepJ : ∀ i W W', J i W → Below W.heap.size W W' → J i W'
 enters : ∀ args w, (callFunc f args).run Tryz.prog w = .ok (.enter f args) w
 call : ∀ i (hi : i < l.length) W, I i W → Calls Tryz.prog f (fs ++ #[val l[i]] ++ lb) W fun e W' => ∃ r, e = .returned (.bool r) ∧ NewKept n0 W W' ∧ (r = stop → J i W') ∧ (r = !stop → I (i + 1) W')
def IdxC (n0 n : Nat) (I J : Nat → World → Prop) (w : World) (e : Ending) (w' : World) : Prop := ∃ (v : Int) (r : Bool), e = .returned (.int .i64 v) ∧ decide (0 ≤ v) = r ∧ NewKept n0 w w' ∧ (r = true → ∃ i, i < n ∧ J i w') ∧ (r = false → I n w')
theorem Below.alloc_own (W : World) (o : Obj) : Below W.heap.size W (W.alloc o) := (Below.refl _ _).alloc (Nat.le_refl _) _
theorem heap_new (W : World) (o : Obj) : (W.alloc o).heap[W.heap.size]? = some o := heap_alloc_new W o
theorem lt_of_heap {W : World} {g : Nat} {o : Obj} (h : W.heap[g]? = some o) : g < W.heap.size := (Array.getElem?_eq_some_iff.1 h).1
theorem lt_of_cell {W : World} {p : Addr} {v : Value} (h : W.cell? p = some v) : p.block < W.heap.size := by
 rcases Nat.lt_or_ge p.block W.heap.size with h1 | h1
 · exact h1
 · have : W.heap[p.block]? = none := Array.getElem?_eq_none h1
   unfold World.cell? at h
   rw [this] at h
   cases h
set_option maxHeartbeats 4000000 in
set_option maxRecDepth 100000 in
theorem idx_Wi (A : Option Addr) (B c : Nat) (l : List Wi) (hl : l.length ≤ 1000000) (f : FuncId) (fs lb : Array Value) (n0 : Nat) (I J : Nat → World → Prop)
  (H : Asks l (fun y => Value.agg (vec 4 (winE y))) f fs lb true n0 (fun W => RowE 4 winE W B A l) I J) (w : World) (hI : I 0 w) :
  Calls Tryz.prog 119 #[.slice A l.length c, .func (.func f) fs lb] w (IdxC n0 l.length I J w) := by
 have eg := H.enters
 have HH := Lib.hid H
 have HI := Lib.hid (And.intro hI (NewKept.refl n0 w))
 obtain ⟨n, hn⟩ : ∃ n, n = l.length := ⟨_, rfl⟩
 have HN := Lib.hid hn
 rw [← hn] at hl ⊢
 clear H hI hn
 go_enter Tryz.func119, Tryz.ntmps119
 go_wp2
 go_loopw [8] (fun v W => ∃ k : Nat, k ≤ n ∧ v = .int .i64 k ∧ Hid (I k W ∧ NewKept n0 w W)) (fun v _ => n - (intOf v).toNat)
 case atStart => exact ⟨0, Nat.zero_le _, rfl, HI⟩
 case round =>
  clear HI
  obtain ⟨k, hk, rfl, HR⟩ := hrel
  by_cases hlt : k < n
  · have hki : (k : Int) < (n : Int) := by omega
    have hkl : k < l.length := by have := HN.out; omega
    obtain ⟨a0, p, rfl, hq, -, hcp⟩ := (HH.out.row k wr HR.out.1).at hkl
    have HCP := Lib.hid hcp
    clear hcp
    have HCALL := Lib.hid (HH.out.call k hkl wr HR.out.1)
    obtain ⟨VV, hVV⟩ : ∃ v : Value, v = Value.agg (vec 4 (winE l[k])) := ⟨_, rfl⟩
    rw [← hVV] at HCALL
    have HV := Lib.hid hVV
    clear hVV
    go_wp2_with (first
      | ((with_reducible show wpList _ _ _ (Oper.mk _ (.load _ _) _ _ _ _ :: _) _ _); refine wl_load_q rfl 67 _ rfl p rfl _ (run_load_q HCP.out Tryz.underlying67 rfl infoWi) ?_; rw [← HV.out])
      | (go_at_fn f; refine HCALL.out.mono ?_; rintro e w1 ⟨r, rfl, hk1, h1, h2⟩; have HP := Lib.hid (And.intro hk1 (And.intro h1 h2)); clear hk1 h1 h2; cases r))
    · have HP2 := Lib.hid (And.intro (HP.out.2.2 (by first | rfl | trivial)) (HR.out.2.trans HP.out.1))
      clear HP
      go_wp2_with fail
      go_roundw
      case rel => exact ⟨k + 1, by omega, by go_num, HP2⟩
      case measure => simp [intOf]; omega
    · have HP2 := Lib.hid (And.intro (HP.out.2.1 (by first | rfl | trivial)) (HR.out.2.trans HP.out.1))
      clear HP
      go_wp2_with fail
      go_ret
      exact ⟨_, true, rfl, decide_eq_true (by omega), HP2.out.2, fun _ => ⟨k, hlt, HP2.out.1⟩, fun h => by cases h⟩
  · obtain rfl : k = n := by omega
    go_wp2_with fail
    go_ret
    exact ⟨_, false, rfl, by decide, HR.out.2, (fun h => by cases h), fun _ => HR.out.1⟩
set_option maxHeartbeats 1000000 in
set_option maxRecDepth 100000 in
theorem cont_Wi (A : Option Addr) (B c : Nat) (l : List Wi) (hl : l.length ≤ 1000000) (f : FuncId) (fs lb : Array Value) (n0 : Nat) (I J : Nat → World → Prop)
  (H : Asks l (fun y => Value.agg (vec 4 (winE y))) f fs lb true n0 (fun W => RowE 4 winE W B A l) I J) (w : World) (hI : I 0 w) :
  Calls Tryz.prog 76 #[.slice A l.length c, .func (.func f) fs lb] w fun e w' => ∃ r, e = .returned (.bool r) ∧ NewKept n0 w w' ∧ (r = true → ∃ i, i < l.length ∧ J i w') ∧ (r = false → I l.length w') := by
 have HC := Lib.hid (idx_Wi A B c l hl f fs lb n0 I J H w hI)
 obtain ⟨n, hn⟩ : ∃ n, n = l.length := ⟨_, rfl⟩
 rw [← hn] at HC ⊢
 clear H hI hl hn
 go_enter Tryz.func76, Tryz.ntmps76
 go_wp2_with (go_at_call 119; refine HC.out.mono ?_; rintro e w1 ⟨v, r, rfl, hv, hh⟩; have HP := Lib.hid hh; clear hh)
 go_ret
 exact ⟨r, rfl, HP.out⟩
set_option maxHeartbeats 2000000 in
set_option maxRecDepth 100000 in
theorem not_Wi (y : Wi) (g : Nat) (f : FuncId) (fs lb : Array Value) (ef : ∀ args w, (callFunc f args).run Tryz.prog w = .ok (.enter f args) w) (Q : Ending → World → Prop) (W : World)
  (hg : W.cell? ⟨g, 0, none⟩ = some (.func (.func f) fs lb)) (hc : Calls Tryz.prog f (fs ++ #[Value.agg (vec 4 (winE y))] ++ lb) (W.alloc (.cells (vec 4 (winE y)) 67)) Q) (hq : ∀ e w', Q e w' → ∃ r, e = .returned (.bool r)) :
  Calls Tryz.prog 77 #[Value.agg (vec 4 (winE y)), .pointer (some ⟨g, 0, none⟩)] W fun e w' => ∃ r, e = .returned (.bool (!r)) ∧ Q (.returned (.bool r)) w' := by
 have eg := ef
 have hgl : g < W.heap.size := lt_of_cell hg
 have hgc : (W.alloc (.cells (vec 4 (winE y)) 67)).cell? ⟨g, 0, none⟩ = some (.func (.func f) fs lb) := (World.cell?_alloc_lt W _ ⟨g, 0, none⟩ hgl).trans hg
 have HAN : Hid (Arr (W.alloc (.cells (vec 4 (winE y)) 67)) W.heap.size 67 4 (winE y)) := Lib.hid (Arr.new W _ _ _)
 have HC := Lib.hid hc
 have HQ := Lib.hid hq
 clear hc hq hgl hg
 go_enter Tryz.func77, Tryz.ntmps77
 go_wp2_with (first
  | ((with_reducible show wpList _ _ _ (Oper.mk _ (.load 67 _) _ _ _ _ :: _) _ _); refine wl_load rfl 67 _ rfl _ rfl _ (run_load_arr HAN.out Tryz.underlying67 rfl infoWi) ?_)
  | (go_at_fn f; refine HC.out.mono ?_; intro e w1 hh; obtain ⟨r, rfl⟩ := HQ.out _ _ hh; have HP := Lib.hid hh; clear hh))
 go_ret
 exact ⟨r, rfl, HP.out⟩
set_option maxHeartbeats 1000000 in
set_option maxRecDepth 100000 in
theorem each_Wi (A : Option Addr) (B c : Nat) (l : List Wi) (hl : l.length ≤ 1000000) (f : FuncId) (fs lb : Array Value) (n0 : Nat) (I J : Nat → World → Prop)
  (H : Asks l (fun y => Value.agg (vec 4 (winE y))) f fs lb false n0 (fun W => RowE 4 winE W B A l) I J) (w : World) (hn0 : n0 ≤ w.heap.size) (hI : I 0 w) :
  Calls Tryz.prog 41 #[.slice A l.length c, .func (.func f) fs lb] w fun e w' => ∃ r, e = .returned (.bool r) ∧ NewKept n0 w w' ∧ (r = true → I l.length w') ∧ (r = false → ∃ i, i < l.length ∧ J i w') := by
 have eN : ∀ args w, (callFunc 77 args).run Tryz.prog w = .ok (.enter 77 args) w := enters_of Tryz.func77 (by kernel_rfl) rfl
 obtain ⟨g, hg⟩ : ∃ g, g = w.heap.size := ⟨_, rfl⟩
 obtain ⟨W1, hW1⟩ : ∃ W1, W1 = w.alloc (.cells #[.func (.func f) fs lb] 106) := ⟨_, rfl⟩
 have hb1 : Below w.heap.size w W1 := by rw [hW1]; exact Below.alloc_own w _
 have hh1 : W1.heap[g]? = some (.cells #[.func (.func f) fs lb] 106 (0, 0)) := by rw [hW1, hg]; exact heap_new w _
 have HA : Asks l (fun y => Value.agg (vec 4 (winE y))) 77 #[] #[.pointer (some ⟨g, 0, none⟩)] true n0 (fun W => RowE 4 winE W B A l) (fun i W => I i W ∧ W.heap[g]? = some (.cells #[.func (.func f) fs lb] 106 (0, 0))) J := {
  row := fun i W h => H.row i W h.1
  keep := fun i W W' h hb => ⟨H.keep i W W' h.1 hb, (hb.block g (lt_of_heap h.2)).trans h.2⟩
  keepJ := H.keepJ
  enters := eN
  call := fun i hi W h => by
   have hcell : W.cell? ⟨g, 0, none⟩ = some (.func (.func f) fs lb) := cell_of_row W g 0 _ _ _ h.2
   have hbB : Below W.heap.size W (W.alloc (.cells (vec 4 (winE l[i])) 67)) := Below.alloc_own W _
   refine Calls.mono (not_Wi l[i] g f fs lb H.enters _ W hcell (H.call i hi _ (H.keep i W _ h.1 hbB)) (fun e w' hh => by obtain ⟨r, e, _⟩ := hh; exact ⟨r, e⟩)) ?_
   rintro e w' ⟨r, rfl, r', er, hk, hJ, hI⟩
   injection er with er
   injection er with er
   subst er
   refine ⟨!r, rfl, (NewKept.of_below hbB).trans hk, fun hr => hJ (by simpa using hr), fun hr => ⟨hI (by simpa using hr), ?_⟩⟩
   exact (hk.2 g (by omega) (Nat.lt_of_lt_of_le (lt_of_heap h.2) hbB.size)).trans ((hbB.block g (lt_of_heap h.2)).trans h.2) }
 have HC := Lib.hid (cont_Wi A B c l hl 77 #[] #[.pointer (some ⟨g, 0, none⟩)] n0 _ J HA W1 ⟨H.keep 0 w W1 hI hb1, hh1⟩)
 have HB := Lib.hid hb1
 have HW1 := Lib.hid hW1
 have HG := Lib.hid hg
 obtain ⟨n, hn⟩ : ∃ n, n = l.length := ⟨_, rfl⟩
 rw [← hn] at HC ⊢
 have hmf : ∀ (fn : Fn) (first cap : Array Value) (w : World), (Instr.makeFunc fn first cap).run Tryz.prog w = .ok (.func fn first cap) w := fun _ _ _ _ => rfl
 clear H hI hl hn HA hb1 hh1 hW1 hg eN
 go_enter Tryz.func41, Tryz.ntmps41
 go_upto_region 1 with fail
 rw [← HW1.out, ← HG.out]
 clear HW1 HG
 go_wp2_with (go_at_call 76; refine HC.out.mono ?_; rintro e w1 ⟨r, rfl, hk, h1, h2⟩; have HP := Lib.hid (And.intro hk (And.intro h1 h2)); clear hk h1 h2)
 go_ret
 exact ⟨!r, rfl, (NewKept.of_below HB.out).trans HP.out.1, fun h => (HP.out.2.2 (by simpa using h)).1, fun h => HP.out.2.1 (by simpa using h)⟩
set_option maxHeartbeats 4000000 in
set_option maxRecDepth 100000 in
theorem idx_De (A : Option Addr) (B c : Nat) (l : List De) (hl : l.length ≤ 1000000) (f : FuncId) (fs lb : Array Value) (n0 : Nat) (I J : Nat → World → Prop)
  (H : Asks l (fun y => Value.agg (vec 3 (devE y))) f fs lb true n0 (fun W => RowE 3 devE W B A l) I J) (w : World) (hI : I 0 w) :
  Calls Tryz.prog 122 #[.slice A l.length c, .func (.func f) fs lb] w (IdxC n0 l.length I J w) := by
 have eg := H.enters
 have HH := Lib.hid H
 have HI := Lib.hid (And.intro hI (NewKept.refl n0 w))
 obtain ⟨n, hn⟩ : ∃ n, n = l.length := ⟨_, rfl⟩
 have HN := Lib.hid hn
 rw [← hn] at hl ⊢
 clear H hI hn
 go_enter Tryz.func122, Tryz.ntmps122
 go_wp2
 go_loopw [8] (fun v W => ∃ k : Nat, k ≤ n ∧ v = .int .i64 k ∧ Hid (I k W ∧ NewKept n0 w W)) (fun v _ => n - (intOf v).toNat)
 case atStart => exact ⟨0, Nat.zero_le _, rfl, HI⟩
 case round =>
  clear HI
  obtain ⟨k, hk, rfl, HR⟩ := hrel
  by_cases hlt : k < n
  · have hki : (k : Int) < (n : Int) := by omega
    have hkl : k < l.length := by have := HN.out; omega
    obtain ⟨a0, p, rfl, hq, -, hcp⟩ := (HH.out.row k wr HR.out.1).at hkl
    have HCP := Lib.hid hcp
    clear hcp
    have HCALL := Lib.hid (HH.out.call k hkl wr HR.out.1)
    obtain ⟨VV, hVV⟩ : ∃ v : Value, v = Value.agg (vec 3 (devE l[k])) := ⟨_, rfl⟩
    rw [← hVV] at HCALL
    have HV := Lib.hid hVV
    clear hVV
    go_wp2_with (first
      | ((with_reducible show wpList _ _ _ (Oper.mk _ (.load _ _) _ _ _ _ :: _) _ _); refine wl_load_q rfl 83 _ rfl p rfl _ (run_load_q HCP.out Tryz.underlying83 rfl infoDe) ?_; rw [← HV.out])
      | (go_at_fn f; refine HCALL.out.mono ?_; rintro e w1 ⟨r, rfl, hk1, h1, h2⟩; have HP := Lib.hid (And.intro hk1 (And.intro h1 h2)); clear hk1 h1 h2; cases r))
    · have HP2 := Lib.hid (And.intro (HP.out.2.2 (by first | rfl | trivial)) (HR.out.2.trans HP.out.1))
      clear HP
      go_wp2_with fail
      go_roundw
      case rel => exact ⟨k + 1, by omega, by go_num, HP2⟩
      case measure => simp [intOf]; omega
    · have HP2 := Lib.hid (And.intro (HP.out.2.1 (by first | rfl | trivial)) (HR.out.2.trans HP.out.1))
      clear HP
      go_wp2_with fail
      go_ret
      exact ⟨_, true, rfl, decide_eq_true (by omega), HP2.out.2, fun _ => ⟨k, hlt, HP2.out.1⟩, fun h => by cases h⟩
  · obtain rfl : k = n := by omega
    go_wp2_with fail
    go_ret
    exact ⟨_, false, rfl, by decide, HR.out.2, (fun h => by cases h), fun _ => HR.out.1⟩
set_option maxHeartbeats 1000000 in
set_option maxRecDepth 100000 in
theorem cont_De (A : Option Addr) (B c : Nat) (l : List De) (hl : l.length ≤ 1000000) (f : FuncId) (fs lb : Array Value) (n0 : Nat) (I J : Nat → World → Prop)
  (H : Asks l (fun y => Value.agg (vec 3 (devE y))) f fs lb true n0 (fun W => RowE 3 devE W B A l) I J) (w : World) (hI : I 0 w) :
  Calls Tryz.prog 81 #[.slice A l.length c, .func (.func f) fs lb] w fun e w' => ∃ r, e = .returned (.bool r) ∧ NewKept n0 w w' ∧ (r = true → ∃ i, i < l.length ∧ J i w') ∧ (r = false → I l.length w') := by
 have HC := Lib.hid (idx_De A B c l hl f fs lb n0 I J H w hI)
 obtain ⟨n, hn⟩ : ∃ n, n = l.length := ⟨_, rfl⟩
 rw [← hn] at HC ⊢
 clear H hI hl hn
 go_enter Tryz.func81, Tryz.ntmps81
 go_wp2_with (go_at_call 122; refine HC.out.mono ?_; rintro e w1 ⟨v, r, rfl, hv, hh⟩; have HP := Lib.hid hh; clear hh)
 go_ret
 exact ⟨r, rfl, HP.out⟩
set_option maxHeartbeats 2000000 in
set_option maxRecDepth 100000 in
theorem not_De (y : De) (g : Nat) (f : FuncId) (fs lb : Array Value) (ef : ∀ args w, (callFunc f args).run Tryz.prog w = .ok (.enter f args) w) (Q : Ending → World → Prop) (W : World)
  (hg : W.cell? ⟨g, 0, none⟩ = some (.func (.func f) fs lb)) (hc : Calls Tryz.prog f (fs ++ #[Value.agg (vec 3 (devE y))] ++ lb) (W.alloc (.cells (vec 3 (devE y)) 83)) Q) (hq : ∀ e w', Q e w' → ∃ r, e = .returned (.bool r)) :
  Calls Tryz.prog 82 #[Value.agg (vec 3 (devE y)), .pointer (some ⟨g, 0, none⟩)] W fun e w' => ∃ r, e = .returned (.bool (!r)) ∧ Q (.returned (.bool r)) w' := by
 have eg := ef
 have hgl : g < W.heap.size := lt_of_cell hg
 have hgc : (W.alloc (.cells (vec 3 (devE y)) 83)).cell? ⟨g, 0, none⟩ = some (.func (.func f) fs lb) := (World.cell?_alloc_lt W _ ⟨g, 0, none⟩ hgl).trans hg
 have HAN : Hid (Arr (W.alloc (.cells (vec 3 (devE y)) 83)) W.heap.size 83 3 (devE y)) := Lib.hid (Arr.new W _ _ _)
 have HC := Lib.hid hc
 have HQ := Lib.hid hq
 clear hc hq hgl hg
 go_enter Tryz.func82, Tryz.ntmps82
 go_wp2_with (first
  | ((with_reducible show wpList _ _ _ (Oper.mk _ (.load 83 _) _ _ _ _ :: _) _ _); refine wl_load rfl 83 _ rfl _ rfl _ (run_load_arr HAN.out Tryz.underlying83 rfl infoDe) ?_)
  | (go_at_fn f; refine HC.out.mono ?_; intro e w1 hh; obtain ⟨r, rfl⟩ := HQ.out _ _ hh; have HP := Lib.hid hh; clear hh))
 go_ret
 exact ⟨r, rfl, HP.out⟩
set_option maxHeartbeats 1000000 in
set_option maxRecDepth 100000 in
theorem each_De (A : Option Addr) (B c : Nat) (l : List De) (hl : l.length ≤ 1000000) (f : FuncId) (fs lb : Array Value) (n0 : Nat) (I J : Nat → World → Prop)
  (H : Asks l (fun y => Value.agg (vec 3 (devE y))) f fs lb false n0 (fun W => RowE 3 devE W B A l) I J) (w : World) (hn0 : n0 ≤ w.heap.size) (hI : I 0 w) :
  Calls Tryz.prog 43 #[.slice A l.length c, .func (.func f) fs lb] w fun e w' => ∃ r, e = .returned (.bool r) ∧ NewKept n0 w w' ∧ (r = true → I l.length w') ∧ (r = false → ∃ i, i < l.length ∧ J i w') := by
 have eN : ∀ args w, (callFunc 82 args).run Tryz.prog w = .ok (.enter 82 args) w := enters_of Tryz.func82 (by kernel_rfl) rfl
 obtain ⟨g, hg⟩ : ∃ g, g = w.heap.size := ⟨_, rfl⟩
 obtain ⟨W1, hW1⟩ : ∃ W1, W1 = w.alloc (.cells #[.func (.func f) fs lb] 108) := ⟨_, rfl⟩
 have hb1 : Below w.heap.size w W1 := by rw [hW1]; exact Below.alloc_own w _
 have hh1 : W1.heap[g]? = some (.cells #[.func (.func f) fs lb] 108 (0, 0)) := by rw [hW1, hg]; exact heap_new w _
 have HA : Asks l (fun y => Value.agg (vec 3 (devE y))) 82 #[] #[.pointer (some ⟨g, 0, none⟩)] true n0 (fun W => RowE 3 devE W B A l) (fun i W => I i W ∧ W.heap[g]? = some (.cells #[.func (.func f) fs lb] 108 (0, 0))) J := {
  row := fun i W h => H.row i W h.1
  keep := fun i W W' h hb => ⟨H.keep i W W' h.1 hb, (hb.block g (lt_of_heap h.2)).trans h.2⟩
  keepJ := H.keepJ
  enters := eN
  call := fun i hi W h => by
   have hcell : W.cell? ⟨g, 0, none⟩ = some (.func (.func f) fs lb) := cell_of_row W g 0 _ _ _ h.2
   have hbB : Below W.heap.size W (W.alloc (.cells (vec 3 (devE l[i])) 83)) := Below.alloc_own W _
   refine Calls.mono (not_De l[i] g f fs lb H.enters _ W hcell (H.call i hi _ (H.keep i W _ h.1 hbB)) (fun e w' hh => by obtain ⟨r, e, _⟩ := hh; exact ⟨r, e⟩)) ?_
   rintro e w' ⟨r, rfl, r', er, hk, hJ, hI⟩
   injection er with er
   injection er with er
   subst er
   refine ⟨!r, rfl, (NewKept.of_below hbB).trans hk, fun hr => hJ (by simpa using hr), fun hr => ⟨hI (by simpa using hr), ?_⟩⟩
   exact (hk.2 g (by omega) (Nat.lt_of_lt_of_le (lt_of_heap h.2) hbB.size)).trans ((hbB.block g (lt_of_heap h.2)).trans h.2) }
 have HC := Lib.hid (cont_De A B c l hl 82 #[] #[.pointer (some ⟨g, 0, none⟩)] n0 _ J HA W1 ⟨H.keep 0 w W1 hI hb1, hh1⟩)
 have HB := Lib.hid hb1
 have HW1 := Lib.hid hW1
 have HG := Lib.hid hg
 obtain ⟨n, hn⟩ : ∃ n, n = l.length := ⟨_, rfl⟩
 rw [← hn] at HC ⊢
 have hmf : ∀ (fn : Fn) (first cap : Array Value) (w : World), (Instr.makeFunc fn first cap).run Tryz.prog w = .ok (.func fn first cap) w := fun _ _ _ _ => rfl
 clear H hI hl hn HA hb1 hh1 hW1 hg eN
 go_enter Tryz.func43, Tryz.ntmps43
 go_upto_region 1 with fail
 rw [← HW1.out, ← HG.out]
 clear HW1 HG
 go_wp2_with (go_at_call 81; refine HC.out.mono ?_; rintro e w1 ⟨r, rfl, hk, h1, h2⟩; have HP := Lib.hid (And.intro hk (And.intro h1 h2)); clear hk h1 h2)
 go_ret
 exact ⟨!r, rfl, (NewKept.of_below HB.out).trans HP.out.1, fun h => (HP.out.2.2 (by simpa using h)).1, fun h => HP.out.2.1 (by simpa using h)⟩
set_option maxHeartbeats 4000000 in
set_option maxRecDepth 100000 in
theorem idx_Ir (A : Option Addr) (B c : Nat) (l : List Ir) (hl : l.length ≤ 1000000) (f : FuncId) (fs lb : Array Value) (n0 : Nat) (I J : Nat → World → Prop)
  (H : Asks l (fun y => Value.agg (vec 3 (irqE y))) f fs lb true n0 (fun W => RowE 3 irqE W B A l) I J) (w : World) (hI : I 0 w) :
  Calls Tryz.prog 123 #[.slice A l.length c, .func (.func f) fs lb] w (IdxC n0 l.length I J w) := by
 have eg := H.enters
 have HH := Lib.hid H
 have HI := Lib.hid (And.intro hI (NewKept.refl n0 w))
 obtain ⟨n, hn⟩ : ∃ n, n = l.length := ⟨_, rfl⟩
 have HN := Lib.hid hn
 rw [← hn] at hl ⊢
 clear H hI hn
 go_enter Tryz.func123, Tryz.ntmps123
 go_wp2
 go_loopw [8] (fun v W => ∃ k : Nat, k ≤ n ∧ v = .int .i64 k ∧ Hid (I k W ∧ NewKept n0 w W)) (fun v _ => n - (intOf v).toNat)
 case atStart => exact ⟨0, Nat.zero_le _, rfl, HI⟩
 case round =>
  clear HI
  obtain ⟨k, hk, rfl, HR⟩ := hrel
  by_cases hlt : k < n
  · have hki : (k : Int) < (n : Int) := by omega
    have hkl : k < l.length := by have := HN.out; omega
    obtain ⟨a0, p, rfl, hq, -, hcp⟩ := (HH.out.row k wr HR.out.1).at hkl
    have HCP := Lib.hid hcp
    clear hcp
    have HCALL := Lib.hid (HH.out.call k hkl wr HR.out.1)
    obtain ⟨VV, hVV⟩ : ∃ v : Value, v = Value.agg (vec 3 (irqE l[k])) := ⟨_, rfl⟩
    rw [← hVV] at HCALL
    have HV := Lib.hid hVV
    clear hVV
    go_wp2_with (first
      | ((with_reducible show wpList _ _ _ (Oper.mk _ (.load _ _) _ _ _ _ :: _) _ _); refine wl_load_q rfl 65 _ rfl p rfl _ (run_load_q HCP.out Tryz.underlying65 rfl infoIr) ?_; rw [← HV.out])
      | (go_at_fn f; refine HCALL.out.mono ?_; rintro e w1 ⟨r, rfl, hk1, h1, h2⟩; have HP := Lib.hid (And.intro hk1 (And.intro h1 h2)); clear hk1 h1 h2; cases r))
    · have HP2 := Lib.hid (And.intro (HP.out.2.2 (by first | rfl | trivial)) (HR.out.2.trans HP.out.1))
      clear HP
      go_wp2_with fail
      go_roundw
      case rel => exact ⟨k + 1, by omega, by go_num, HP2⟩
      case measure => simp [intOf]; omega
    · have HP2 := Lib.hid (And.intro (HP.out.2.1 (by first | rfl | trivial)) (HR.out.2.trans HP.out.1))
      clear HP
      go_wp2_with fail
      go_ret
      exact ⟨_, true, rfl, decide_eq_true (by omega), HP2.out.2, fun _ => ⟨k, hlt, HP2.out.1⟩, fun h => by cases h⟩
  · obtain rfl : k = n := by omega
    go_wp2_with fail
    go_ret
    exact ⟨_, false, rfl, by decide, HR.out.2, (fun h => by cases h), fun _ => HR.out.1⟩
set_option maxHeartbeats 1000000 in
set_option maxRecDepth 100000 in
theorem cont_Ir (A : Option Addr) (B c : Nat) (l : List Ir) (hl : l.length ≤ 1000000) (f : FuncId) (fs lb : Array Value) (n0 : Nat) (I J : Nat → World → Prop)
  (H : Asks l (fun y => Value.agg (vec 3 (irqE y))) f fs lb true n0 (fun W => RowE 3 irqE W B A l) I J) (w : World) (hI : I 0 w) :
  Calls Tryz.prog 87 #[.slice A l.length c, .func (.func f) fs lb] w fun e w' => ∃ r, e = .returned (.bool r) ∧ NewKept n0 w w' ∧ (r = true → ∃ i, i < l.length ∧ J i w') ∧ (r = false → I l.length w') := by
 have HC := Lib.hid (idx_Ir A B c l hl f fs lb n0 I J H w hI)
 obtain ⟨n, hn⟩ : ∃ n, n = l.length := ⟨_, rfl⟩
 rw [← hn] at HC ⊢
 clear H hI hl hn
 go_enter Tryz.func87, Tryz.ntmps87
 go_wp2_with (go_at_call 123; refine HC.out.mono ?_; rintro e w1 ⟨v, r, rfl, hv, hh⟩; have HP := Lib.hid hh; clear hh)
 go_ret
 exact ⟨r, rfl, HP.out⟩
set_option maxHeartbeats 2000000 in
set_option maxRecDepth 100000 in
theorem not_Ir (y : Ir) (g : Nat) (f : FuncId) (fs lb : Array Value) (ef : ∀ args w, (callFunc f args).run Tryz.prog w = .ok (.enter f args) w) (Q : Ending → World → Prop) (W : World)
  (hg : W.cell? ⟨g, 0, none⟩ = some (.func (.func f) fs lb)) (hc : Calls Tryz.prog f (fs ++ #[Value.agg (vec 3 (irqE y))] ++ lb) (W.alloc (.cells (vec 3 (irqE y)) 65)) Q) (hq : ∀ e w', Q e w' → ∃ r, e = .returned (.bool r)) :
  Calls Tryz.prog 88 #[Value.agg (vec 3 (irqE y)), .pointer (some ⟨g, 0, none⟩)] W fun e w' => ∃ r, e = .returned (.bool (!r)) ∧ Q (.returned (.bool r)) w' := by
 have eg := ef
 have hgl : g < W.heap.size := lt_of_cell hg
 have hgc : (W.alloc (.cells (vec 3 (irqE y)) 65)).cell? ⟨g, 0, none⟩ = some (.func (.func f) fs lb) := (World.cell?_alloc_lt W _ ⟨g, 0, none⟩ hgl).trans hg
 have HAN : Hid (Arr (W.alloc (.cells (vec 3 (irqE y)) 65)) W.heap.size 65 3 (irqE y)) := Lib.hid (Arr.new W _ _ _)
 have HC := Lib.hid hc
 have HQ := Lib.hid hq
 clear hc hq hgl hg
 go_enter Tryz.func88, Tryz.ntmps88
 go_wp2_with (first
  | ((with_reducible show wpList _ _ _ (Oper.mk _ (.load 65 _) _ _ _ _ :: _) _ _); refine wl_load rfl 65 _ rfl _ rfl _ (run_load_arr HAN.out Tryz.underlying65 rfl infoIr) ?_)
  | (go_at_fn f; refine HC.out.mono ?_; intro e w1 hh; obtain ⟨r, rfl⟩ := HQ.out _ _ hh; have HP := Lib.hid hh; clear hh))
 go_ret
 exact ⟨r, rfl, HP.out⟩
set_option maxHeartbeats 1000000 in
set_option maxRecDepth 100000 in
theorem each_Ir (A : Option Addr) (B c : Nat) (l : List Ir) (hl : l.length ≤ 1000000) (f : FuncId) (fs lb : Array Value) (n0 : Nat) (I J : Nat → World → Prop)
  (H : Asks l (fun y => Value.agg (vec 3 (irqE y))) f fs lb false n0 (fun W => RowE 3 irqE W B A l) I J) (w : World) (hn0 : n0 ≤ w.heap.size) (hI : I 0 w) :
  Calls Tryz.prog 47 #[.slice A l.length c, .func (.func f) fs lb] w fun e w' => ∃ r, e = .returned (.bool r) ∧ NewKept n0 w w' ∧ (r = true → I l.length w') ∧ (r = false → ∃ i, i < l.length ∧ J i w') := by
 have eN : ∀ args w, (callFunc 88 args).run Tryz.prog w = .ok (.enter 88 args) w := enters_of Tryz.func88 (by kernel_rfl) rfl
 obtain ⟨g, hg⟩ : ∃ g, g = w.heap.size := ⟨_, rfl⟩
 obtain ⟨W1, hW1⟩ : ∃ W1, W1 = w.alloc (.cells #[.func (.func f) fs lb] 112) := ⟨_, rfl⟩
 have hb1 : Below w.heap.size w W1 := by rw [hW1]; exact Below.alloc_own w _
 have hh1 : W1.heap[g]? = some (.cells #[.func (.func f) fs lb] 112 (0, 0)) := by rw [hW1, hg]; exact heap_new w _
 have HA : Asks l (fun y => Value.agg (vec 3 (irqE y))) 88 #[] #[.pointer (some ⟨g, 0, none⟩)] true n0 (fun W => RowE 3 irqE W B A l) (fun i W => I i W ∧ W.heap[g]? = some (.cells #[.func (.func f) fs lb] 112 (0, 0))) J := {
  row := fun i W h => H.row i W h.1
  keep := fun i W W' h hb => ⟨H.keep i W W' h.1 hb, (hb.block g (lt_of_heap h.2)).trans h.2⟩
  keepJ := H.keepJ
  enters := eN
  call := fun i hi W h => by
   have hcell : W.cell? ⟨g, 0, none⟩ = some (.func (.func f) fs lb) := cell_of_row W g 0 _ _ _ h.2
   have hbB : Below W.heap.size W (W.alloc (.cells (vec 3 (irqE l[i])) 65)) := Below.alloc_own W _
   refine Calls.mono (not_Ir l[i] g f fs lb H.enters _ W hcell (H.call i hi _ (H.keep i W _ h.1 hbB)) (fun e w' hh => by obtain ⟨r, e, _⟩ := hh; exact ⟨r, e⟩)) ?_
   rintro e w' ⟨r, rfl, r', er, hk, hJ, hI⟩
   injection er with er
   injection er with er
   subst er
   refine ⟨!r, rfl, (NewKept.of_below hbB).trans hk, fun hr => hJ (by simpa using hr), fun hr => ⟨hI (by simpa using hr), ?_⟩⟩
   exact (hk.2 g (by omega) (Nat.lt_of_lt_of_le (lt_of_heap h.2) hbB.size)).trans ((hbB.block g (lt_of_heap h.2)).trans h.2) }
 have HC := Lib.hid (cont_Ir A B c l hl 88 #[] #[.pointer (some ⟨g, 0, none⟩)] n0 _ J HA W1 ⟨H.keep 0 w W1 hI hb1, hh1⟩)
 have HB := Lib.hid hb1
 have HW1 := Lib.hid hW1
 have HG := Lib.hid hg
 obtain ⟨n, hn⟩ : ∃ n, n = l.length := ⟨_, rfl⟩
 rw [← hn] at HC ⊢
 have hmf : ∀ (fn : Fn) (first cap : Array Value) (w : World), (Instr.makeFunc fn first cap).run Tryz.prog w = .ok (.func fn first cap) w := fun _ _ _ _ => rfl
 clear H hI hl hn HA hb1 hh1 hW1 hg eN
 go_enter Tryz.func47, Tryz.ntmps47
 go_upto_region 1 with fail
 rw [← HW1.out, ← HG.out]
 clear HW1 HG
 go_wp2_with (go_at_call 87; refine HC.out.mono ?_; rintro e w1 ⟨r, rfl, hk, h1, h2⟩; have HP := Lib.hid (And.intro hk (And.intro h1 h2)); clear hk h1 h2)
 go_ret
 exact ⟨!r, rfl, (NewKept.of_below HB.out).trans HP.out.1, fun h => (HP.out.2.2 (by simpa using h)).1, fun h => HP.out.2.1 (by simpa using h)⟩
set_option maxHeartbeats 4000000 in
set_option maxRecDepth 100000 in
theorem idx_En (A : Option Addr) (B c : Nat) (l : List En) (hl : l.length ≤ 1000000) (f : FuncId) (fs lb : Array Value) (n0 : Nat) (I J : Nat → World → Prop)
  (H : Asks l (fun y => Value.agg (vec 3 (endE y))) f fs lb true n0 (fun W => RowE 3 endE W B A l) I J) (w : World) (hI : I 0 w) :
  Calls Tryz.prog 164 #[.slice A l.length c, .func (.func f) fs lb] w (IdxC n0 l.length I J w) := by
 have eg := H.enters
 have HH := Lib.hid H
 have HI := Lib.hid (And.intro hI (NewKept.refl n0 w))
 obtain ⟨n, hn⟩ : ∃ n, n = l.length := ⟨_, rfl⟩
 have HN := Lib.hid hn
 rw [← hn] at hl ⊢
 clear H hI hn
 go_enter Tryz.func164, Tryz.ntmps164
 go_wp2
 go_loopw [8] (fun v W => ∃ k : Nat, k ≤ n ∧ v = .int .i64 k ∧ Hid (I k W ∧ NewKept n0 w W)) (fun v _ => n - (intOf v).toNat)
 case atStart => exact ⟨0, Nat.zero_le _, rfl, HI⟩
 case round =>
  clear HI
  obtain ⟨k, hk, rfl, HR⟩ := hrel
  by_cases hlt : k < n
  · have hki : (k : Int) < (n : Int) := by omega
    have hkl : k < l.length := by have := HN.out; omega
    obtain ⟨a0, p, rfl, hq, -, hcp⟩ := (HH.out.row k wr HR.out.1).at hkl
    have HCP := Lib.hid hcp
    clear hcp
    have HCALL := Lib.hid (HH.out.call k hkl wr HR.out.1)
    obtain ⟨VV, hVV⟩ : ∃ v : Value, v = Value.agg (vec 3 (endE l[k])) := ⟨_, rfl⟩
    rw [← hVV] at HCALL
    have HV := Lib.hid hVV
    clear hVV
    go_wp2_with (first
      | ((with_reducible show wpList _ _ _ (Oper.mk _ (.load _ _) _ _ _ _ :: _) _ _); refine wl_load_q rfl 44 _ rfl p rfl _ (run_load_q HCP.out Tryz.underlying44 rfl infoEn) ?_; rw [← HV.out])
      | (go_at_fn f; refine HCALL.out.mono ?_; rintro e w1 ⟨r, rfl, hk1, h1, h2⟩; have HP := Lib.hid (And.intro hk1 (And.intro h1 h2)); clear hk1 h1 h2; cases r))
    · have HP2 := Lib.hid (And.intro (HP.out.2.2 (by first | rfl | trivial)) (HR.out.2.trans HP.out.1))
      clear HP
      go_wp2_with fail
      go_roundw
      case rel => exact ⟨k + 1, by omega, by go_num, HP2⟩
      case measure => simp [intOf]; omega
    · have HP2 := Lib.hid (And.intro (HP.out.2.1 (by first | rfl | trivial)) (HR.out.2.trans HP.out.1))
      clear HP
      go_wp2_with fail
      go_ret
      exact ⟨_, true, rfl, decide_eq_true (by omega), HP2.out.2, fun _ => ⟨k, hlt, HP2.out.1⟩, fun h => by cases h⟩
  · obtain rfl : k = n := by omega
    go_wp2_with fail
    go_ret
    exact ⟨_, false, rfl, by decide, HR.out.2, (fun h => by cases h), fun _ => HR.out.1⟩
set_option maxHeartbeats 1000000 in
set_option maxRecDepth 100000 in
theorem cont_En (A : Option Addr) (B c : Nat) (l : List En) (hl : l.length ≤ 1000000) (f : FuncId) (fs lb : Array Value) (n0 : Nat) (I J : Nat → World → Prop)
  (H : Asks l (fun y => Value.agg (vec 3 (endE y))) f fs lb true n0 (fun W => RowE 3 endE W B A l) I J) (w : World) (hI : I 0 w) :
  Calls Tryz.prog 132 #[.slice A l.length c, .func (.func f) fs lb] w fun e w' => ∃ r, e = .returned (.bool r) ∧ NewKept n0 w w' ∧ (r = true → ∃ i, i < l.length ∧ J i w') ∧ (r = false → I l.length w') := by
 have HC := Lib.hid (idx_En A B c l hl f fs lb n0 I J H w hI)
 obtain ⟨n, hn⟩ : ∃ n, n = l.length := ⟨_, rfl⟩
 rw [← hn] at HC ⊢
 clear H hI hl hn
 go_enter Tryz.func132, Tryz.ntmps132
 go_wp2_with (go_at_call 164; refine HC.out.mono ?_; rintro e w1 ⟨v, r, rfl, hv, hh⟩; have HP := Lib.hid hh; clear hh)
 go_ret
 exact ⟨r, rfl, HP.out⟩
set_option maxHeartbeats 2000000 in
set_option maxRecDepth 100000 in
theorem not_En (y : En) (g : Nat) (f : FuncId) (fs lb : Array Value) (ef : ∀ args w, (callFunc f args).run Tryz.prog w = .ok (.enter f args) w) (Q : Ending → World → Prop) (W : World)
  (hg : W.cell? ⟨g, 0, none⟩ = some (.func (.func f) fs lb)) (hc : Calls Tryz.prog f (fs ++ #[Value.agg (vec 3 (endE y))] ++ lb) (W.alloc (.cells (vec 3 (endE y)) 44)) Q) (hq : ∀ e w', Q e w' → ∃ r, e = .returned (.bool r)) :
  Calls Tryz.prog 133 #[Value.agg (vec 3 (endE y)), .pointer (some ⟨g, 0, none⟩)] W fun e w' => ∃ r, e = .returned (.bool (!r)) ∧ Q (.returned (.bool r)) w' := by
 have eg := ef
 have hgl : g < W.heap.size := lt_of_cell hg
 have hgc : (W.alloc (.cells (vec 3 (endE y)) 44)).cell? ⟨g, 0, none⟩ = some (.func (.func f) fs lb) := (World.cell?_alloc_lt W _ ⟨g, 0, none⟩ hgl).trans hg
 have HAN : Hid (Arr (W.alloc (.cells (vec 3 (endE y)) 44)) W.heap.size 44 3 (endE y)) := Lib.hid (Arr.new W _ _ _)
 have HC := Lib.hid hc
 have HQ := Lib.hid hq
 clear hc hq hgl hg
 go_enter Tryz.func133, Tryz.ntmps133
 go_wp2_with (first
  | ((with_reducible show wpList _ _ _ (Oper.mk _ (.load 44 _) _ _ _ _ :: _) _ _); refine wl_load rfl 44 _ rfl _ rfl _ (run_load_arr HAN.out Tryz.underlying44 rfl infoEn) ?_)
  | (go_at_fn f; refine HC.out.mono ?_; intro e w1 hh; obtain ⟨r, rfl⟩ := HQ.out _ _ hh; have HP := Lib.hid hh; clear hh))
 go_ret
 exact ⟨r, rfl, HP.out⟩
set_option maxHeartbeats 1000000 in
set_option maxRecDepth 100000 in
theorem each_En (A : Option Addr) (B c : Nat) (l : List En) (hl : l.length ≤ 1000000) (f : FuncId) (fs lb : Array Value) (n0 : Nat) (I J : Nat → World → Prop)
  (H : Asks l (fun y => Value.agg (vec 3 (endE y))) f fs lb false n0 (fun W => RowE 3 endE W B A l) I J) (w : World) (hn0 : n0 ≤ w.heap.size) (hI : I 0 w) :
  Calls Tryz.prog 96 #[.slice A l.length c, .func (.func f) fs lb] w fun e w' => ∃ r, e = .returned (.bool r) ∧ NewKept n0 w w' ∧ (r = true → I l.length w') ∧ (r = false → ∃ i, i < l.length ∧ J i w') := by
 have eN : ∀ args w, (callFunc 133 args).run Tryz.prog w = .ok (.enter 133 args) w := enters_of Tryz.func133 (by kernel_rfl) rfl
 obtain ⟨g, hg⟩ : ∃ g, g = w.heap.size := ⟨_, rfl⟩
 obtain ⟨W1, hW1⟩ : ∃ W1, W1 = w.alloc (.cells #[.func (.func f) fs lb] 147) := ⟨_, rfl⟩
 have hb1 : Below w.heap.size w W1 := by rw [hW1]; exact Below.alloc_own w _
 have hh1 : W1.heap[g]? = some (.cells #[.func (.func f) fs lb] 147 (0, 0)) := by rw [hW1, hg]; exact heap_new w _
 have HA : Asks l (fun y => Value.agg (vec 3 (endE y))) 133 #[] #[.pointer (some ⟨g, 0, none⟩)] true n0 (fun W => RowE 3 endE W B A l) (fun i W => I i W ∧ W.heap[g]? = some (.cells #[.func (.func f) fs lb] 147 (0, 0))) J := {
  row := fun i W h => H.row i W h.1
  keep := fun i W W' h hb => ⟨H.keep i W W' h.1 hb, (hb.block g (lt_of_heap h.2)).trans h.2⟩
  keepJ := H.keepJ
  enters := eN
  call := fun i hi W h => by
   have hcell : W.cell? ⟨g, 0, none⟩ = some (.func (.func f) fs lb) := cell_of_row W g 0 _ _ _ h.2
   have hbB : Below W.heap.size W (W.alloc (.cells (vec 3 (endE l[i])) 44)) := Below.alloc_own W _
   refine Calls.mono (not_En l[i] g f fs lb H.enters _ W hcell (H.call i hi _ (H.keep i W _ h.1 hbB)) (fun e w' hh => by obtain ⟨r, e, _⟩ := hh; exact ⟨r, e⟩)) ?_
   rintro e w' ⟨r, rfl, r', er, hk, hJ, hI⟩
   injection er with er
   injection er with er
   subst er
   refine ⟨!r, rfl, (NewKept.of_below hbB).trans hk, fun hr => hJ (by simpa using hr), fun hr => ⟨hI (by simpa using hr), ?_⟩⟩
   exact (hk.2 g (by omega) (Nat.lt_of_lt_of_le (lt_of_heap h.2) hbB.size)).trans ((hbB.block g (lt_of_heap h.2)).trans h.2) }
 have HC := Lib.hid (cont_En A B c l hl 133 #[] #[.pointer (some ⟨g, 0, none⟩)] n0 _ J HA W1 ⟨H.keep 0 w W1 hI hb1, hh1⟩)
 have HB := Lib.hid hb1
 have HW1 := Lib.hid hW1
 have HG := Lib.hid hg
 obtain ⟨n, hn⟩ : ∃ n, n = l.length := ⟨_, rfl⟩
 rw [← hn] at HC ⊢
 have hmf : ∀ (fn : Fn) (first cap : Array Value) (w : World), (Instr.makeFunc fn first cap).run Tryz.prog w = .ok (.func fn first cap) w := fun _ _ _ _ => rfl
 clear H hI hl hn HA hb1 hh1 hW1 hg eN
 go_enter Tryz.func96, Tryz.ntmps96
 go_upto_region 1 with fail
 rw [← HW1.out, ← HG.out]
 clear HW1 HG
 go_wp2_with (go_at_call 132; refine HC.out.mono ?_; rintro e w1 ⟨r, rfl, hk, h1, h2⟩; have HP := Lib.hid (And.intro hk (And.intro h1 h2)); clear hk h1 h2)
 go_ret
 exact ⟨!r, rfl, (NewKept.of_below HB.out).trans HP.out.1, fun h => (HP.out.2.2 (by simpa using h)).1, fun h => HP.out.2.1 (by simpa using h)⟩
set_option maxHeartbeats 4000000 in
set_option maxRecDepth 100000 in
theorem idx_Sp (A : Option Addr) (B c : Nat) (l : List Sp) (hl : l.length ≤ 1000000) (f : FuncId) (fs lb : Array Value) (n0 : Nat) (I J : Nat → World → Prop)
  (H : Asks l (fun y => Value.agg (vec 2 (spE y))) f fs lb true n0 (fun W => RowE 2 spE W B A l) I J) (w : World) (hI : I 0 w) :
  Calls Tryz.prog 128 #[.slice A l.length c, .func (.func f) fs lb] w (IdxC n0 l.length I J w) := by
 have eg := H.enters
 have HH := Lib.hid H
 have HI := Lib.hid (And.intro hI (NewKept.refl n0 w))
 obtain ⟨n, hn⟩ : ∃ n, n = l.length := ⟨_, rfl⟩
 have HN := Lib.hid hn
 rw [← hn] at hl ⊢
 clear H hI hn
 go_enter Tryz.func128, Tryz.ntmps128
 go_wp2
 go_loopw [8] (fun v W => ∃ k : Nat, k ≤ n ∧ v = .int .i64 k ∧ Hid (I k W ∧ NewKept n0 w W)) (fun v _ => n - (intOf v).toNat)
 case atStart => exact ⟨0, Nat.zero_le _, rfl, HI⟩
 case round =>
  clear HI
  obtain ⟨k, hk, rfl, HR⟩ := hrel
  by_cases hlt : k < n
  · have hki : (k : Int) < (n : Int) := by omega
    have hkl : k < l.length := by have := HN.out; omega
    obtain ⟨a0, p, rfl, hq, -, hcp⟩ := (HH.out.row k wr HR.out.1).at hkl
    have HCP := Lib.hid hcp
    clear hcp
    have HCALL := Lib.hid (HH.out.call k hkl wr HR.out.1)
    obtain ⟨VV, hVV⟩ : ∃ v : Value, v = Value.agg (vec 2 (spE l[k])) := ⟨_, rfl⟩
    rw [← hVV] at HCALL
    have HV := Lib.hid hVV
    clear hVV
    go_wp2_with (first
      | ((with_reducible show wpList _ _ _ (Oper.mk _ (.load _ _) _ _ _ _ :: _) _ _); refine wl_load_q rfl 24 _ rfl p rfl _ (run_load_q HCP.out Tryz.underlying24 rfl infoSp) ?_; rw [← HV.out])
      | (go_at_fn f; refine HCALL.out.mono ?_; rintro e w1 ⟨r, rfl, hk1, h1, h2⟩; have HP := Lib.hid (And.intro hk1 (And.intro h1 h2)); clear hk1 h1 h2; cases r))
    · have HP2 := Lib.hid (And.intro (HP.out.2.2 (by first | rfl | trivial)) (HR.out.2.trans HP.out.1))
      clear HP
      go_wp2_with fail
      go_roundw
      case rel => exact ⟨k + 1, by omega, by go_num, HP2⟩
      case measure => simp [intOf]; omega
    · have HP2 := Lib.hid (And.intro (HP.out.2.1 (by first | rfl | trivial)) (HR.out.2.trans HP.out.1))
      clear HP
      go_wp2_with fail
      go_ret
      exact ⟨_, true, rfl, decide_eq_true (by omega), HP2.out.2, fun _ => ⟨k, hlt, HP2.out.1⟩, fun h => by cases h⟩
  · obtain rfl : k = n := by omega
    go_wp2_with fail
    go_ret
    exact ⟨_, false, rfl, by decide, HR.out.2, (fun h => by cases h), fun _ => HR.out.1⟩
set_option maxHeartbeats 1000000 in
set_option maxRecDepth 100000 in
theorem cont_Sp (A : Option Addr) (B c : Nat) (l : List Sp) (hl : l.length ≤ 1000000) (f : FuncId) (fs lb : Array Value) (n0 : Nat) (I J : Nat → World → Prop)
  (H : Asks l (fun y => Value.agg (vec 2 (spE y))) f fs lb true n0 (fun W => RowE 2 spE W B A l) I J) (w : World) (hI : I 0 w) :
  Calls Tryz.prog 160 #[.slice A l.length c, .func (.func f) fs lb] w fun e w' => ∃ r, e = .returned (.bool r) ∧ NewKept n0 w w' ∧ (r = true → ∃ i, i < l.length ∧ J i w') ∧ (r = false → I l.length w') := by
 have HC := Lib.hid (idx_Sp A B c l hl f fs lb n0 I J H w hI)
 obtain ⟨n, hn⟩ : ∃ n, n = l.length := ⟨_, rfl⟩
 rw [← hn] at HC ⊢
 clear H hI hl hn
 go_enter Tryz.func160, Tryz.ntmps160
 go_wp2_with (go_at_call 128; refine HC.out.mono ?_; rintro e w1 ⟨v, r, rfl, hv, hh⟩; have HP := Lib.hid hh; clear hh)
 go_ret
 exact ⟨r, rfl, HP.out⟩
set_option maxHeartbeats 2000000 in
set_option maxRecDepth 100000 in
theorem not_Sp (y : Sp) (g : Nat) (f : FuncId) (fs lb : Array Value) (ef : ∀ args w, (callFunc f args).run Tryz.prog w = .ok (.enter f args) w) (Q : Ending → World → Prop) (W : World)
  (hg : W.cell? ⟨g, 0, none⟩ = some (.func (.func f) fs lb)) (hc : Calls Tryz.prog f (fs ++ #[Value.agg (vec 2 (spE y))] ++ lb) (W.alloc (.cells (vec 2 (spE y)) 24)) Q) (hq : ∀ e w', Q e w' → ∃ r, e = .returned (.bool r)) :
  Calls Tryz.prog 161 #[Value.agg (vec 2 (spE y)), .pointer (some ⟨g, 0, none⟩)] W fun e w' => ∃ r, e = .returned (.bool (!r)) ∧ Q (.returned (.bool r)) w' := by
 have eg := ef
 have hgl : g < W.heap.size := lt_of_cell hg
 have hgc : (W.alloc (.cells (vec 2 (spE y)) 24)).cell? ⟨g, 0, none⟩ = some (.func (.func f) fs lb) := (World.cell?_alloc_lt W _ ⟨g, 0, none⟩ hgl).trans hg
 have HAN : Hid (Arr (W.alloc (.cells (vec 2 (spE y)) 24)) W.heap.size 24 2 (spE y)) := Lib.hid (Arr.new W _ _ _)
 have HC := Lib.hid hc
 have HQ := Lib.hid hq
 clear hc hq hgl hg
 go_enter Tryz.func161, Tryz.ntmps161
 go_wp2_with (first
  | ((with_reducible show wpList _ _ _ (Oper.mk _ (.load 24 _) _ _ _ _ :: _) _ _); refine wl_load rfl 24 _ rfl _ rfl _ (run_load_arr HAN.out Tryz.underlying24 rfl infoSp) ?_)
  | (go_at_fn f; refine HC.out.mono ?_; intro e w1 hh; obtain ⟨r, rfl⟩ := HQ.out _ _ hh; have HP := Lib.hid hh; clear hh))
 go_ret
 exact ⟨r, rfl, HP.out⟩
set_option maxHeartbeats 1000000 in
set_option maxRecDepth 100000 in
theorem each_Sp (A : Option Addr) (B c : Nat) (l : List Sp) (hl : l.length ≤ 1000000) (f : FuncId) (fs lb : Array Value) (n0 : Nat) (I J : Nat → World → Prop)
  (H : Asks l (fun y => Value.agg (vec 2 (spE y))) f fs lb false n0 (fun W => RowE 2 spE W B A l) I J) (w : World) (hn0 : n0 ≤ w.heap.size) (hI : I 0 w) :
  Calls Tryz.prog 120 #[.slice A l.length c, .func (.func f) fs lb] w fun e w' => ∃ r, e = .returned (.bool r) ∧ NewKept n0 w w' ∧ (r = true → I l.length w') ∧ (r = false → ∃ i, i < l.length ∧ J i w') := by
 have eN : ∀ args w, (callFunc 161 args).run Tryz.prog w = .ok (.enter 161 args) w := enters_of Tryz.func161 (by kernel_rfl) rfl
 obtain ⟨g, hg⟩ : ∃ g, g = w.heap.size := ⟨_, rfl⟩
 obtain ⟨W1, hW1⟩ : ∃ W1, W1 = w.alloc (.cells #[.func (.func f) fs lb] 88) := ⟨_, rfl⟩
 have hb1 : Below w.heap.size w W1 := by rw [hW1]; exact Below.alloc_own w _
 have hh1 : W1.heap[g]? = some (.cells #[.func (.func f) fs lb] 88 (0, 0)) := by rw [hW1, hg]; exact heap_new w _
 have HA : Asks l (fun y => Value.agg (vec 2 (spE y))) 161 #[] #[.pointer (some ⟨g, 0, none⟩)] true n0 (fun W => RowE 2 spE W B A l) (fun i W => I i W ∧ W.heap[g]? = some (.cells #[.func (.func f) fs lb] 88 (0, 0))) J := {
  row := fun i W h => H.row i W h.1
  keep := fun i W W' h hb => ⟨H.keep i W W' h.1 hb, (hb.block g (lt_of_heap h.2)).trans h.2⟩
  keepJ := H.keepJ
  enters := eN
  call := fun i hi W h => by
   have hcell : W.cell? ⟨g, 0, none⟩ = some (.func (.func f) fs lb) := cell_of_row W g 0 _ _ _ h.2
   have hbB : Below W.heap.size W (W.alloc (.cells (vec 2 (spE l[i])) 24)) := Below.alloc_own W _
   refine Calls.mono (not_Sp l[i] g f fs lb H.enters _ W hcell (H.call i hi _ (H.keep i W _ h.1 hbB)) (fun e w' hh => by obtain ⟨r, e, _⟩ := hh; exact ⟨r, e⟩)) ?_
   rintro e w' ⟨r, rfl, r', er, hk, hJ, hI⟩
   injection er with er
   injection er with er
   subst er
   refine ⟨!r, rfl, (NewKept.of_below hbB).trans hk, fun hr => hJ (by simpa using hr), fun hr => ⟨hI (by simpa using hr), ?_⟩⟩
   exact (hk.2 g (by omega) (Nat.lt_of_lt_of_le (lt_of_heap h.2) hbB.size)).trans ((hbB.block g (lt_of_heap h.2)).trans h.2) }
 have HC := Lib.hid (cont_Sp A B c l hl 161 #[] #[.pointer (some ⟨g, 0, none⟩)] n0 _ J HA W1 ⟨H.keep 0 w W1 hI hb1, hh1⟩)
 have HB := Lib.hid hb1
 have HW1 := Lib.hid hW1
 have HG := Lib.hid hg
 obtain ⟨n, hn⟩ : ∃ n, n = l.length := ⟨_, rfl⟩
 rw [← hn] at HC ⊢
 have hmf : ∀ (fn : Fn) (first cap : Array Value) (w : World), (Instr.makeFunc fn first cap).run Tryz.prog w = .ok (.func fn first cap) w := fun _ _ _ _ => rfl
 clear H hI hl hn HA hb1 hh1 hW1 hg eN
 go_enter Tryz.func120, Tryz.ntmps120
 go_upto_region 1 with fail
 rw [← HW1.out, ← HG.out]
 clear HW1 HG
 go_wp2_with (go_at_call 160; refine HC.out.mono ?_; rintro e w1 ⟨r, rfl, hk, h1, h2⟩; have HP := Lib.hid (And.intro hk (And.intro h1 h2)); clear hk h1 h2)
 go_ret
 exact ⟨!r, rfl, (NewKept.of_below HB.out).trans HP.out.1, fun h => (HP.out.2.2 (by simpa using h)).1, fun h => HP.out.2.1 (by simpa using h)⟩
set_option maxHeartbeats 4000000 in
set_option maxRecDepth 100000 in
theorem idx_u32 (A : Option Addr) (B c : Nat) (l : List Int) (hl : l.length ≤ 1000000) (f : FuncId) (fs lb : Array Value) (n0 : Nat) (I J : Nat → World → Prop)
  (H : Asks l (fun y => Value.int .u32 y) f fs lb true n0 (fun W => RowE 1 numE W B A l) I J) (w : World) (hI : I 0 w) :
  Calls Tryz.prog 124 #[.slice A l.length c, .func (.func f) fs lb] w (IdxC n0 l.length I J w) := by
 have eg := H.enters
 have HH := Lib.hid H
 have HI := Lib.hid (And.intro hI (NewKept.refl n0 w))
 obtain ⟨n, hn⟩ : ∃ n, n = l.length := ⟨_, rfl⟩
 have HN := Lib.hid hn
 rw [← hn] at hl ⊢
 clear H hI hn
 go_enter Tryz.func124, Tryz.ntmps124
 go_wp2
 go_loopw [8] (fun v W => ∃ k : Nat, k ≤ n ∧ v = .int .i64 k ∧ Hid (I k W ∧ NewKept n0 w W)) (fun v _ => n - (intOf v).toNat)
 case atStart => exact ⟨0, Nat.zero_le _, rfl, HI⟩
 case round =>
  clear HI
  obtain ⟨k, hk, rfl, HR⟩ := hrel
  by_cases hlt : k < n
  · have hki : (k : Int) < (n : Int) := by omega
    have hkl : k < l.length := by have := HN.out; omega
    obtain ⟨a0, p, rfl, hq, -, hcp⟩ := (HH.out.row k wr HR.out.1).at hkl
    have hc0 : wr.cell? p = some (.int .u32 l[k]) := by have h := hcp 0 (by decide); rw [show p.add 0 = p by simp [Addr.add]] at h; exact h
    clear hcp
    rw [Nat.mul_one] at hq
    obtain ⟨yk, hyk⟩ : ∃ y, y = l[k] := ⟨_, rfl⟩
    rw [← hyk] at hc0
    have HCALL := Lib.hid (HH.out.call k hkl wr HR.out.1)
    rw [← hyk] at HCALL
    clear hyk
    go_wp2_with ((go_at_fn f; refine HCALL.out.mono ?_; rintro e w1 ⟨r, rfl, hk1, h1, h2⟩; have HP := Lib.hid (And.intro hk1 (And.intro h1 h2)); clear hk1 h1 h2; cases r))
    · have HP2 := Lib.hid (And.intro (HP.out.2.2 (by first | rfl | trivial)) (HR.out.2.trans HP.out.1))
      clear HP
      go_wp2_with fail
      go_roundw
      case rel => exact ⟨k + 1, by omega, by go_num, HP2⟩
      case measure => simp [intOf]; omega
    · have HP2 := Lib.hid (And.intro (HP.out.2.1 (by first | rfl | trivial)) (HR.out.2.trans HP.out.1))
      clear HP
      go_wp2_with fail
      go_ret
      exact ⟨_, true, rfl, decide_eq_true (by omega), HP2.out.2, fun _ => ⟨k, hlt, HP2.out.1⟩, fun h => by cases h⟩
  · obtain rfl : k = n := by omega
    go_wp2_with fail
    go_ret
    exact ⟨_, false, rfl, by decide, HR.out.2, (fun h => by cases h), fun _ => HR.out.1⟩
set_option maxHeartbeats 1000000 in
set_option maxRecDepth 100000 in
theorem cont_u32 (A : Option Addr) (B c : Nat) (l : List Int) (hl : l.length ≤ 1000000) (f : FuncId) (fs lb : Array Value) (n0 : Nat) (I J : Nat → World → Prop)
  (H : Asks l (fun y => Value.int .u32 y) f fs lb true n0 (fun W => RowE 1 numE W B A l) I J) (w : World) (hI : I 0 w) :
  Calls Tryz.prog 89 #[.slice A l.length c, .func (.func f) fs lb] w fun e w' => ∃ r, e = .returned (.bool r) ∧ NewKept n0 w w' ∧ (r = true → ∃ i, i < l.length ∧ J i w') ∧ (r = false → I l.length w') := by
 have HC := Lib.hid (idx_u32 A B c l hl f fs lb n0 I J H w hI)
 obtain ⟨n, hn⟩ : ∃ n, n = l.length := ⟨_, rfl⟩
 rw [← hn] at HC ⊢
 clear H hI hl hn
 go_enter Tryz.func89, Tryz.ntmps89
 go_wp2_with (go_at_call 124; refine HC.out.mono ?_; rintro e w1 ⟨v, r, rfl, hv, hh⟩; have HP := Lib.hid hh; clear hh)
 go_ret
 exact ⟨r, rfl, HP.out⟩
set_option maxHeartbeats 2000000 in
set_option maxRecDepth 100000 in
theorem not_u32 (y : Int) (g : Nat) (f : FuncId) (fs lb : Array Value) (ef : ∀ args w, (callFunc f args).run Tryz.prog w = .ok (.enter f args) w) (Q : Ending → World → Prop) (W : World)
  (hg : W.cell? ⟨g, 0, none⟩ = some (.func (.func f) fs lb)) (hc : Calls Tryz.prog f (fs ++ #[Value.int .u32 y] ++ lb) W Q) (hq : ∀ e w', Q e w' → ∃ r, e = .returned (.bool r)) :
  Calls Tryz.prog 90 #[Value.int .u32 y, .pointer (some ⟨g, 0, none⟩)] W fun e w' => ∃ r, e = .returned (.bool (!r)) ∧ Q (.returned (.bool r)) w' := by
 have eg := ef
 have hgl : g < W.heap.size := lt_of_cell hg
 have hgc := hg
 have HC := Lib.hid hc
 have HQ := Lib.hid hq
 clear hc hq hgl
 go_enter Tryz.func90, Tryz.ntmps90
 go_wp2_with ((go_at_fn f; refine HC.out.mono ?_; intro e w1 hh; obtain ⟨r, rfl⟩ := HQ.out _ _ hh; have HP := Lib.hid hh; clear hh))
 go_ret
 exact ⟨r, rfl, HP.out⟩
set_option maxHeartbeats 1000000 in
set_option maxRecDepth 100000 in
theorem each_u32 (A : Option Addr) (B c : Nat) (l : List Int) (hl : l.length ≤ 1000000) (f : FuncId) (fs lb : Array Value) (n0 : Nat) (I J : Nat → World → Prop)
  (H : Asks l (fun y => Value.int .u32 y) f fs lb false n0 (fun W => RowE 1 numE W B A l) I J) (w : World) (hn0 : n0 ≤ w.heap.size) (hI : I 0 w) :
  Calls Tryz.prog 50 #[.slice A l.length c, .func (.func f) fs lb] w fun e w' => ∃ r, e = .returned (.bool r) ∧ NewKept n0 w w' ∧ (r = true → I l.length w') ∧ (r = false → ∃ i, i < l.length ∧ J i w') := by
 have eN : ∀ args w, (callFunc 90 args).run Tryz.prog w = .ok (.enter 90 args) w := enters_of Tryz.func90 (by kernel_rfl) rfl
 obtain ⟨g, hg⟩ : ∃ g, g = w.heap.size := ⟨_, rfl⟩
 obtain ⟨W1, hW1⟩ : ∃ W1, W1 = w.alloc (.cells #[.func (.func f) fs lb] 104) := ⟨_, rfl⟩
 have hb1 : Below w.heap.size w W1 := by rw [hW1]; exact Below.alloc_own w _
 have hh1 : W1.heap[g]? = some (.cells #[.func (.func f) fs lb] 104 (0, 0)) := by rw [hW1, hg]; exact heap_new w _
 have HA : Asks l (fun y => Value.int .u32 y) 90 #[] #[.pointer (some ⟨g, 0, none⟩)] true n0 (fun W => RowE 1 numE W B A l) (fun i W => I i W ∧ W.heap[g]? = some (.cells #[.func (.func f) fs lb] 104 (0, 0))) J := {
  row := fun i W h => H.row i W h.1
  keep := fun i W W' h hb => ⟨H.keep i W W' h.1 hb, (hb.block g (lt_of_heap h.2)).trans h.2⟩
  keepJ := H.keepJ
  enters := eN
  call := fun i hi W h => by
   have hcell : W.cell? ⟨g, 0, none⟩ = some (.func (.func f) fs lb) := cell_of_row W g 0 _ _ _ h.2
   have hbB : Below W.heap.size W W := Below.refl _ _
   refine Calls.mono (not_u32 l[i] g f fs lb H.enters _ W hcell (H.call i hi _ (H.keep i W _ h.1 hbB)) (fun e w' hh => by obtain ⟨r, e, _⟩ := hh; exact ⟨r, e⟩)) ?_
   rintro e w' ⟨r, rfl, r', er, hk, hJ, hI⟩
   injection er with er
   injection er with er
   subst er
   refine ⟨!r, rfl, (NewKept.of_below hbB).trans hk, fun hr => hJ (by simpa using hr), fun hr => ⟨hI (by simpa using hr), ?_⟩⟩
   exact (hk.2 g (by omega) (Nat.lt_of_lt_of_le (lt_of_heap h.2) hbB.size)).trans ((hbB.block g (lt_of_heap h.2)).trans h.2) }
 have HC := Lib.hid (cont_u32 A B c l hl 90 #[] #[.pointer (some ⟨g, 0, none⟩)] n0 _ J HA W1 ⟨H.keep 0 w W1 hI hb1, hh1⟩)
 have HB := Lib.hid hb1
 have HW1 := Lib.hid hW1
 have HG := Lib.hid hg
 obtain ⟨n, hn⟩ : ∃ n, n = l.length := ⟨_, rfl⟩
 rw [← hn] at HC ⊢
 have hmf : ∀ (fn : Fn) (first cap : Array Value) (w : World), (Instr.makeFunc fn first cap).run Tryz.prog w = .ok (.func fn first cap) w := fun _ _ _ _ => rfl
 clear H hI hl hn HA hb1 hh1 hW1 hg eN
 go_enter Tryz.func50, Tryz.ntmps50
 go_upto_region 1 with fail
 rw [← HW1.out, ← HG.out]
 clear HW1 HG
 go_wp2_with (go_at_call 89; refine HC.out.mono ?_; rintro e w1 ⟨r, rfl, hk, h1, h2⟩; have HP := Lib.hid (And.intro hk (And.intro h1 h2)); clear hk h1 h2)
 go_ret
 exact ⟨!r, rfl, (NewKept.of_below HB.out).trans HP.out.1, fun h => (HP.out.2.2 (by simpa using h)).1, fun h => HP.out.2.1 (by simpa using h)⟩
end Go.Proofs.YtkaipknkjocfiaaGreat
