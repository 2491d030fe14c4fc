/- list, of five kinds. -/
import Derived.Test.YtmcpmcicolpoeaaDoorCm
import Derived.Test.YtmcpmcicolpoeaaDoorMo
import Derived.Test.YtmcpmcicolpoeaaDoorMb
namespace Go.Proofs.YtmcpmcicolpoeaaDoor
open Go.RowKit
attribute [local go_sem ↓ high] builtin_appS

/-- A list of a kind was read: its elements lie in a row of the call's own. -/
def ownV {α : Type} (t : TypeId) (n : Nat) (enc : α → Nat → Value) (base : Nat) (w : World) (l : List α) (v : Value) : Prop := OwnE t n enc w base v l
section
variable {P : Program} {w w' : World} {ops : Array Oper} {rest : List Oper} {o : Oper} {a : Act} {Q : Exit → Act → World → Prop}
theorem wl_bs1 (hg : o.guard = none) {t : TypeId} {n : Nat} (y : Operand) (ho : o.op = .buildSlice t n #[(0, y)]) (v0 : Value) (hy : a.eval y = v0) {v : Value} (hr : (Instr.buildSlice t n #[(0, v0)]).run P w = .ok v w')
    (h : wpList P ops Q rest (a.put o.dst v) w') : wpList P ops Q (o :: rest) a w :=
  wpList_plain hg fun K hK => by
    unfold Oper.wp execOp
    subst hy
    simp only [ho, Sem.run_bind, List.map_toArray, List.map_cons, List.map_nil, hr, Result.andThen_ok, Sem.run_pure]
    exact hK _ _ h
end
theorem list_get0 {α : Type} (c : Cod α) (b : By) (q : Nat) : (listC c 0).get b q = .ok ([], q) := rfl
/-- The row so far. -/
structure LiAt {α : Type} (c : Cod α) (t : TypeId) (n : Nat) (enc : α → Nat → Value) (b : By) (q g : Nat) (A : Option Addr) (cp : Nat) (w W : World) (k : Nat) (v : Value) : Prop where
  ex : ∃ l p a, l.length = k ∧ (listC c k).get b q = .ok (l, p) ∧ OwnE t n enc W w.heap.size v l ∧ Cur W g A cp b a p
  sv : Save g w W
theorem info_window : (Tryd.prog.info? 108).map (fun i => (i.zero, i.size, i.bytes)) = some (some (.agg (vec 4 (winE zWi))), 4, 32) := by kernel_rfl
set_option maxRecDepth 100000 in
theorem build_window (x : Wi) (w : World) : (Instr.buildSlice 59 1 #[(0, .agg (vec 4 (winE x)))]).run Tryd.prog w = .ok (.slice (some ⟨w.heap.size, 0, none⟩) 1 1) (w.alloc (.cells (vec 4 (winE x)) 108)) := by
  obtain ⟨i0, hi, hz0, hz1, hz2⟩ := info_parts info_window
  refine run_buildSlice (P := Tryd.prog) w 59 108 1 _ _ i0 (.agg (vec 4 (winE zWi))) Tryd.underlying59 hi hz0 (by rw [hz1]; decide) (by rw [hz1]; decide) ?_
  rw [hz1]
  kernel_rfl
set_option maxRecDepth 100000 in
set_option maxHeartbeats 2000000 in
theorem list_window {w : World} {g c at_ q : Nat} {A : Option Addr} {b : By} (h : Cur w g A c b at_ q) (n : Nat) (hn : n ≤ 1000) :
    Calls Tryd.prog 78 #[.int .i64 (n : Int), .func (.func 79) #[.pointer (some ⟨g, 0, none⟩)] #[]] w (Rd (listC winC n) (ownV 108 4 winE w.heap.size) b q g A c w) := by
  have HGW := Lib.hid h.lt
  have HI : Hid (LiAt winC 108 4 winE b q g A c w w 0 (.slice none 0 0)) := Lib.hid ⟨⟨[], q, at_, rfl, list_get0 winC b q, OwnE.nil _ _, h⟩, Save.refl _ _⟩
  clear h
  go_enter Tryd.func78, Tryd.ntmps78
  go_wp2
  go_loopw [5, 7] (fun vo vi W => ∃ (k d : Nat) (B : Option Addr), k ≤ n ∧ vi = .int .i64 k ∧ vo = .slice B k d ∧ Hid (LiAt winC 108 4 winE b q g A c w W k (.slice B k d))) (fun _ i _ => n - (intOf i).toNat)
  case atStart => exact ⟨0, 0, none, Nat.zero_le _, rfl, rfl, HI⟩
  case round =>
    obtain ⟨k, d, B, hk, rfl, rfl, HL⟩ := hrel
    obtain ⟨l, p, t, hlk, hget, hown, hcur⟩ := HL.out.ex
    have HG := Lib.hid hget
    have HO := Lib.hid hown
    have HC := Lib.hid hcur
    have HS := Lib.hid HL.out.sv
    have HLK := Lib.hid hlk
    clear hget hown hcur hlk HL
    by_cases hlt : k < n
    · have hkz : (k : Int) < (n : Int) := by omega
      have HK := Lib.hid hlt
      have hk9 : k ≤ 1000 := by omega
      clear hlt hk
      go_wp2_with (first
        | ((with_reducible show wpList _ _ _ (Oper.mk _ (.buildSlice _ _ _) _ _ _ _ :: _) _ _); refine wl_bs1 rfl _ rfl _ rfl (build_window x w1) ?_)
        | (go_at_call 79
           refine (window_any HC.out).mono ?_
           intro e w1 hh
           rcases hh with hh | hh
           rotate_left
           · obtain ⟨er, pl, hg, rfl, hs⟩ := hh
             exact ⟨rfl, .no (list_stop k q l p n _ HG.out hg HK.out) rfl (HS.out.trans hs)⟩
           obtain ⟨x, r, v, tt, hg, rfl, hv, hc, hs⟩ := hh
           obtain rfl : v = .agg (vec 4 (winE x)) := hv
           have hown1 := HO.out.save hs HGW.out
           have hsz := Nat.le_trans HS.out.size hs.size
           obtain ⟨B2, d2, w2, hrun, ho2, hb2⟩ := app_E (P := Tryd.prog) Tryd.underlying59 info_window (vec_size _ _) (by decide) (fun x => winE_one x 4) x hown1 hsz (by rw [HLK.out]; omega) (by decide) 59
           rw [HLK.out] at hrun ho2
           have HN : Hid (LiAt winC 108 4 winE b q g A c w w2 (k + 1) (.slice B2 (k + 1) d2)) := Lib.hid ⟨⟨l ++ [x], r, tt, by rw [List.length_append, HLK.out]; rfl, list_snoc k q l p x r HG.out hg, ho2, hc.on hb2 HGW.out⟩, (HS.out.trans hs).on hb2 (Nat.le_refl _)⟩
           clear hg hc hs hown1 hsz ho2 hb2))
      go_roundw
      case rel => exact ⟨k + 1, d2, B2, HK.out, by go_num, rfl, HN⟩
      case measure => have := HK.out; simp [intOf]; omega
    · obtain rfl : k = n := by omega
      clear hlt hk
      go_wp2_with fail
      go_ret
      exact .ok HG.out rfl HO.out HC.out HS.out
theorem info_device : (Tryd.prog.info? 110).map (fun i => (i.zero, i.size, i.bytes)) = some (some (.agg (vec 3 (devE zDe))), 3, 24) := by kernel_rfl
set_option maxRecDepth 100000 in
theorem build_device (x : De) (w : World) : (Instr.buildSlice 60 1 #[(0, .agg (vec 3 (devE x)))]).run Tryd.prog w = .ok (.slice (some ⟨w.heap.size, 0, none⟩) 1 1) (w.alloc (.cells (vec 3 (devE x)) 110)) := by
  obtain ⟨i0, hi, hz0, hz1, hz2⟩ := info_parts info_device
  refine run_buildSlice (P := Tryd.prog) w 60 110 1 _ _ i0 (.agg (vec 3 (devE zDe))) Tryd.underlying60 hi hz0 (by rw [hz1]; decide) (by rw [hz1]; decide) ?_
  rw [hz1]
  kernel_rfl
set_option maxRecDepth 100000 in
set_option maxHeartbeats 2000000 in
theorem list_device {w : World} {g c at_ q : Nat} {A : Option Addr} {b : By} (h : Cur w g A c b at_ q) (n : Nat) (hn : n ≤ 1000) :
    Calls Tryd.prog 80 #[.int .i64 (n : Int), .func (.func 81) #[.pointer (some ⟨g, 0, none⟩)] #[]] w (Rd (listC devC n) (ownV 110 3 devE w.heap.size) b q g A c w) := by
  have HGW := Lib.hid h.lt
  have HI : Hid (LiAt devC 110 3 devE b q g A c w w 0 (.slice none 0 0)) := Lib.hid ⟨⟨[], q, at_, rfl, list_get0 devC b q, OwnE.nil _ _, h⟩, Save.refl _ _⟩
  clear h
  go_enter Tryd.func80, Tryd.ntmps80
  go_wp2
  go_loopw [5, 7] (fun vo vi W => ∃ (k d : Nat) (B : Option Addr), k ≤ n ∧ vi = .int .i64 k ∧ vo = .slice B k d ∧ Hid (LiAt devC 110 3 devE b q g A c w W k (.slice B k d))) (fun _ i _ => n - (intOf i).toNat)
  case atStart => exact ⟨0, 0, none, Nat.zero_le _, rfl, rfl, HI⟩
  case round =>
    obtain ⟨k, d, B, hk, rfl, rfl, HL⟩ := hrel
    obtain ⟨l, p, t, hlk, hget, hown, hcur⟩ := HL.out.ex
    have HG := Lib.hid hget
    have HO := Lib.hid hown
    have HC := Lib.hid hcur
    have HS := Lib.hid HL.out.sv
    have HLK := Lib.hid hlk
    clear hget hown hcur hlk HL
    by_cases hlt : k < n
    · have hkz : (k : Int) < (n : Int) := by omega
      have HK := Lib.hid hlt
      have hk9 : k ≤ 1000 := by omega
      clear hlt hk
      go_wp2_with (first
        | ((with_reducible show wpList _ _ _ (Oper.mk _ (.buildSlice _ _ _) _ _ _ _ :: _) _ _); refine wl_bs1 rfl _ rfl _ rfl (build_device x w1) ?_)
        | (go_at_call 81
           refine (device_any HC.out).mono ?_
           intro e w1 hh
           rcases hh with hh | hh
           rotate_left
           · obtain ⟨er, pl, hg, rfl, hs⟩ := hh
             exact ⟨rfl, .no (list_stop k q l p n _ HG.out hg HK.out) rfl (HS.out.trans hs)⟩
           obtain ⟨x, r, v, tt, hg, rfl, hv, hc, hs⟩ := hh
           obtain rfl : v = .agg (vec 3 (devE x)) := hv
           have hown1 := HO.out.save hs HGW.out
           have hsz := Nat.le_trans HS.out.size hs.size
           obtain ⟨B2, d2, w2, hrun, ho2, hb2⟩ := app_E (P := Tryd.prog) Tryd.underlying60 info_device (vec_size _ _) (by decide) (fun x => devE_one x 3) x hown1 hsz (by rw [HLK.out]; omega) (by decide) 60
           rw [HLK.out] at hrun ho2
           have HN : Hid (LiAt devC 110 3 devE b q g A c w w2 (k + 1) (.slice B2 (k + 1) d2)) := Lib.hid ⟨⟨l ++ [x], r, tt, by rw [List.length_append, HLK.out]; rfl, list_snoc k q l p x r HG.out hg, ho2, hc.on hb2 HGW.out⟩, (HS.out.trans hs).on hb2 (Nat.le_refl _)⟩
           clear hg hc hs hown1 hsz ho2 hb2))
      go_roundw
      case rel => exact ⟨k + 1, d2, B2, HK.out, by go_num, rfl, HN⟩
      case measure => have := HK.out; simp [intOf]; omega
    · obtain rfl : k = n := by omega
      clear hlt hk
      go_wp2_with fail
      go_ret
      exact .ok HG.out rfl HO.out HC.out HS.out
theorem info_irq : (Tryd.prog.info? 112).map (fun i => (i.zero, i.size, i.bytes)) = some (some (.agg (vec 3 (irqE zIr))), 3, 24) := by kernel_rfl
set_option maxRecDepth 100000 in
theorem build_irq (x : Ir) (w : World) : (Instr.buildSlice 61 1 #[(0, .agg (vec 3 (irqE x)))]).run Tryd.prog w = .ok (.slice (some ⟨w.heap.size, 0, none⟩) 1 1) (w.alloc (.cells (vec 3 (irqE x)) 112)) := by
  obtain ⟨i0, hi, hz0, hz1, hz2⟩ := info_parts info_irq
  refine run_buildSlice (P := Tryd.prog) w 61 112 1 _ _ i0 (.agg (vec 3 (irqE zIr))) Tryd.underlying61 hi hz0 (by rw [hz1]; decide) (by rw [hz1]; decide) ?_
  rw [hz1]
  kernel_rfl
set_option maxRecDepth 100000 in
set_option maxHeartbeats 2000000 in
theorem list_irq {w : World} {g c at_ q : Nat} {A : Option Addr} {b : By} (h : Cur w g A c b at_ q) (n : Nat) (hn : n ≤ 1000) :
    Calls Tryd.prog 82 #[.int .i64 (n : Int), .func (.func 83) #[.pointer (some ⟨g, 0, none⟩)] #[]] w (Rd (listC irqC n) (ownV 112 3 irqE w.heap.size) b q g A c w) := by
  have HGW := Lib.hid h.lt
  have HI : Hid (LiAt irqC 112 3 irqE b q g A c w w 0 (.slice none 0 0)) := Lib.hid ⟨⟨[], q, at_, rfl, list_get0 irqC b q, OwnE.nil _ _, h⟩, Save.refl _ _⟩
  clear h
  go_enter Tryd.func82, Tryd.ntmps82
  go_wp2
  go_loopw [5, 7] (fun vo vi W => ∃ (k d : Nat) (B : Option Addr), k ≤ n ∧ vi = .int .i64 k ∧ vo = .slice B k d ∧ Hid (LiAt irqC 112 3 irqE b q g A c w W k (.slice B k d))) (fun _ i _ => n - (intOf i).toNat)
  case atStart => exact ⟨0, 0, none, Nat.zero_le _, rfl, rfl, HI⟩
  case round =>
    obtain ⟨k, d, B, hk, rfl, rfl, HL⟩ := hrel
    obtain ⟨l, p, t, hlk, hget, hown, hcur⟩ := HL.out.ex
    have HG := Lib.hid hget
    have HO := Lib.hid hown
    have HC := Lib.hid hcur
    have HS := Lib.hid HL.out.sv
    have HLK := Lib.hid hlk
    clear hget hown hcur hlk HL
    by_cases hlt : k < n
    · have hkz : (k : Int) < (n : Int) := by omega
      have HK := Lib.hid hlt
      have hk9 : k ≤ 1000 := by omega
      clear hlt hk
      go_wp2_with (first
        | ((with_reducible show wpList _ _ _ (Oper.mk _ (.buildSlice _ _ _) _ _ _ _ :: _) _ _); refine wl_bs1 rfl _ rfl _ rfl (build_irq x w1) ?_)
        | (go_at_call 83
           refine (irq_any HC.out).mono ?_
           intro e w1 hh
           rcases hh with hh | hh
           rotate_left
           · obtain ⟨er, pl, hg, rfl, hs⟩ := hh
             exact ⟨rfl, .no (list_stop k q l p n _ HG.out hg HK.out) rfl (HS.out.trans hs)⟩
           obtain ⟨x, r, v, tt, hg, rfl, hv, hc, hs⟩ := hh
           obtain rfl : v = .agg (vec 3 (irqE x)) := hv
           have hown1 := HO.out.save hs HGW.out
           have hsz := Nat.le_trans HS.out.size hs.size
           obtain ⟨B2, d2, w2, hrun, ho2, hb2⟩ := app_E (P := Tryd.prog) Tryd.underlying61 info_irq (vec_size _ _) (by decide) (fun x => irqE_one x 3) x hown1 hsz (by rw [HLK.out]; omega) (by decide) 61
           rw [HLK.out] at hrun ho2
           have HN : Hid (LiAt irqC 112 3 irqE b q g A c w w2 (k + 1) (.slice B2 (k + 1) d2)) := Lib.hid ⟨⟨l ++ [x], r, tt, by rw [List.length_append, HLK.out]; rfl, list_snoc k q l p x r HG.out hg, ho2, hc.on hb2 HGW.out⟩, (HS.out.trans hs).on hb2 (Nat.le_refl _)⟩
           clear hg hc hs hown1 hsz ho2 hb2))
      go_roundw
      case rel => exact ⟨k + 1, d2, B2, HK.out, by go_num, rfl, HN⟩
      case measure => have := HK.out; simp [intOf]; omega
    · obtain rfl : k = n := by omega
      clear hlt hk
      go_wp2_with fail
      go_ret
      exact .ok HG.out rfl HO.out HC.out HS.out
theorem info_channel : (Tryd.prog.info? 71).map (fun i => (i.zero, i.size, i.bytes)) = some (some (.agg (vec 8 (chE zCh))), 8, 64) := by kernel_rfl
set_option maxRecDepth 100000 in
theorem build_channel (x : Ch) (w : World) : (Instr.buildSlice 26 1 #[(0, .agg (vec 8 (chE x)))]).run Tryd.prog w = .ok (.slice (some ⟨w.heap.size, 0, none⟩) 1 1) (w.alloc (.cells (vec 8 (chE x)) 71)) := by
  obtain ⟨i0, hi, hz0, hz1, hz2⟩ := info_parts info_channel
  refine run_buildSlice (P := Tryd.prog) w 26 71 1 _ _ i0 (.agg (vec 8 (chE zCh))) Tryd.underlying26 hi hz0 (by rw [hz1]; decide) (by rw [hz1]; decide) ?_
  rw [hz1]
  kernel_rfl
set_option maxRecDepth 100000 in
set_option maxHeartbeats 2000000 in
theorem list_channel {w : World} {g c at_ q : Nat} {A : Option Addr} {b : By} (h : Cur w g A c b at_ q) (n : Nat) (hn : n ≤ 1000) :
    Calls Tryd.prog 45 #[.int .i64 (n : Int), .func (.func 46) #[.pointer (some ⟨g, 0, none⟩)] #[]] w (Rd (listC chC n) (ownV 71 8 chE w.heap.size) b q g A c w) := by
  have HGW := Lib.hid h.lt
  have HI : Hid (LiAt chC 71 8 chE b q g A c w w 0 (.slice none 0 0)) := Lib.hid ⟨⟨[], q, at_, rfl, list_get0 chC b q, OwnE.nil _ _, h⟩, Save.refl _ _⟩
  clear h
  go_enter Tryd.func45, Tryd.ntmps45
  go_wp2
  go_loopw [5, 7] (fun vo vi W => ∃ (k d : Nat) (B : Option Addr), k ≤ n ∧ vi = .int .i64 k ∧ vo = .slice B k d ∧ Hid (LiAt chC 71 8 chE b q g A c w W k (.slice B k d))) (fun _ i _ => n - (intOf i).toNat)
  case atStart => exact ⟨0, 0, none, Nat.zero_le _, rfl, rfl, HI⟩
  case round =>
    obtain ⟨k, d, B, hk, rfl, rfl, HL⟩ := hrel
    obtain ⟨l, p, t, hlk, hget, hown, hcur⟩ := HL.out.ex
    have HG := Lib.hid hget
    have HO := Lib.hid hown
    have HC := Lib.hid hcur
    have HS := Lib.hid HL.out.sv
    have HLK := Lib.hid hlk
    clear hget hown hcur hlk HL
    by_cases hlt : k < n
    · have hkz : (k : Int) < (n : Int) := by omega
      have HK := Lib.hid hlt
      have hk9 : k ≤ 1000 := by omega
      clear hlt hk
      go_wp2_with (first
        | ((with_reducible show wpList _ _ _ (Oper.mk _ (.buildSlice _ _ _) _ _ _ _ :: _) _ _); refine wl_bs1 rfl _ rfl _ rfl (build_channel x w1) ?_)
        | (go_at_call 46
           refine (channel_any HC.out).mono ?_
           intro e w1 hh
           rcases hh with hh | hh
           rotate_left
           · obtain ⟨er, pl, hg, rfl, hs⟩ := hh
             exact ⟨rfl, .no (list_stop k q l p n _ HG.out hg HK.out) rfl (HS.out.trans hs)⟩
           obtain ⟨x, r, v, tt, hg, rfl, hv, hc, hs⟩ := hh
           obtain rfl : v = .agg (vec 8 (chE x)) := hv
           have hown1 := HO.out.save hs HGW.out
           have hsz := Nat.le_trans HS.out.size hs.size
           obtain ⟨B2, d2, w2, hrun, ho2, hb2⟩ := app_E (P := Tryd.prog) Tryd.underlying26 info_channel (vec_size _ _) (by decide) (fun x => chE_one x 8) x hown1 hsz (by rw [HLK.out]; omega) (by decide) 26
           rw [HLK.out] at hrun ho2
           have HN : Hid (LiAt chC 71 8 chE b q g A c w w2 (k + 1) (.slice B2 (k + 1) d2)) := Lib.hid ⟨⟨l ++ [x], r, tt, by rw [List.length_append, HLK.out]; rfl, list_snoc k q l p x r HG.out hg, ho2, hc.on hb2 HGW.out⟩, (HS.out.trans hs).on hb2 (Nat.le_refl _)⟩
           clear hg hc hs hown1 hsz ho2 hb2))
      go_roundw
      case rel => exact ⟨k + 1, d2, B2, HK.out, by go_num, rfl, HN⟩
      case measure => have := HK.out; simp [intOf]; omega
    · obtain rfl : k = n := by omega
      clear hlt hk
      go_wp2_with fail
      go_ret
      exact .ok HG.out rfl HO.out HC.out HS.out
theorem info_num : (Tryd.prog.info? 24).map (fun i => (i.zero, i.size, i.bytes)) = some (some (.int .u32 0), 1, 4) := by kernel_rfl
set_option maxRecDepth 100000 in
theorem build_num (x : Int) (w : World) : (Instr.buildSlice 62 1 #[(0, .int .u32 x)]).run Tryd.prog w = .ok (.slice (some ⟨w.heap.size, 0, none⟩) 1 1) (w.alloc (.cells (vec 1 (numE x)) 24)) := by
  obtain ⟨i0, hi, hz0, hz1, hz2⟩ := info_parts info_num
  refine run_buildSlice (P := Tryd.prog) w 62 24 1 _ _ i0 (.int .u32 0) Tryd.underlying62 hi hz0 (by rw [hz1]; decide) (by rw [hz1]; decide) ?_
  rw [hz1]
  kernel_rfl
set_option maxRecDepth 100000 in
set_option maxHeartbeats 2000000 in
theorem list_num {w : World} {g c at_ q : Nat} {A : Option Addr} {b : By} (h : Cur w g A c b at_ q) (n : Nat) (hn : n ≤ 1000) :
    Calls Tryd.prog 84 #[.int .i64 (n : Int), .func (.func 38) #[.pointer (some ⟨g, 0, none⟩)] #[]] w (Rd (listC u32C n) (ownV 24 1 numE w.heap.size) b q g A c w) := by
  have HGW := Lib.hid h.lt
  have HI : Hid (LiAt u32C 24 1 numE b q g A c w w 0 (.slice none 0 0)) := Lib.hid ⟨⟨[], q, at_, rfl, list_get0 u32C b q, OwnE.nil _ _, h⟩, Save.refl _ _⟩
  clear h
  go_enter Tryd.func84, Tryd.ntmps84
  go_wp2
  go_loopw [5, 7] (fun vo vi W => ∃ (k d : Nat) (B : Option Addr), k ≤ n ∧ vi = .int .i64 k ∧ vo = .slice B k d ∧ Hid (LiAt u32C 24 1 numE b q g A c w W k (.slice B k d))) (fun _ i _ => n - (intOf i).toNat)
  case atStart => exact ⟨0, 0, none, Nat.zero_le _, rfl, rfl, HI⟩
  case round =>
    obtain ⟨k, d, B, hk, rfl, rfl, HL⟩ := hrel
    obtain ⟨l, p, t, hlk, hget, hown, hcur⟩ := HL.out.ex
    have HG := Lib.hid hget
    have HO := Lib.hid hown
    have HC := Lib.hid hcur
    have HS := Lib.hid HL.out.sv
    have HLK := Lib.hid hlk
    clear hget hown hcur hlk HL
    by_cases hlt : k < n
    · have hkz : (k : Int) < (n : Int) := by omega
      have HK := Lib.hid hlt
      have hk9 : k ≤ 1000 := by omega
      clear hlt hk
      go_wp2_with (first
        | ((with_reducible show wpList _ _ _ (Oper.mk _ (.buildSlice _ _ _) _ _ _ _ :: _) _ _); refine wl_bs1 rfl _ rfl _ rfl (build_num x w1) ?_)
        | (go_at_call 38
           refine (long_rd HC.out).mono ?_
           intro e w1 hh
           rcases hh with hh | hh
           rotate_left
           · obtain ⟨er, pl, hg, rfl, hs⟩ := hh
             exact ⟨rfl, .no (list_stop k q l p n _ HG.out hg HK.out) rfl (HS.out.trans hs)⟩
           obtain ⟨x, r, v, tt, hg, rfl, hv, hc, hs⟩ := hh
           obtain rfl : v = .int .u32 x := hv
           have hown1 := HO.out.save hs HGW.out
           have hsz := Nat.le_trans HS.out.size hs.size
           obtain ⟨B2, d2, w2, hrun, ho2, hb2⟩ := app_E (P := Tryd.prog) Tryd.underlying62 info_num (rfl) (by decide) (fun x => numE_one x 1) x hown1 hsz (by rw [HLK.out]; omega) (by decide) 62
           rw [HLK.out] at hrun ho2
           have HN : Hid (LiAt u32C 24 1 numE b q g A c w w2 (k + 1) (.slice B2 (k + 1) d2)) := Lib.hid ⟨⟨l ++ [x], r, tt, by rw [List.length_append, HLK.out]; rfl, list_snoc k q l p x r HG.out hg, ho2, hc.on hb2 HGW.out⟩, (HS.out.trans hs).on hb2 (Nat.le_refl _)⟩
           clear hg hc hs hown1 hsz ho2 hb2))
      go_roundw
      case rel => exact ⟨k + 1, d2, B2, HK.out, by go_num, rfl, HN⟩
      case measure => have := HK.out; simp [intOf]; omega
    · obtain rfl : k = n := by omega
      clear hlt hk
      go_wp2_with fail
      go_ret
      exact .ok HG.out rfl HO.out HC.out HS.out
end Go.Proofs.YtmcpmcicolpoeaaDoor
