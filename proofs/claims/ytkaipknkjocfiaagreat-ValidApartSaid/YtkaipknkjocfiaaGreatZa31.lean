import Derived.Test.YtkaipknkjocfiaaGreatZa9
namespace Go.Proofs.YtkaipknkjocfiaaGreat
open Go.RowKit
def BoolB (b : Bool) (w : World) (e : Ending) (w' : World) : Prop := e = .returned (.bool b) ∧ Below w.heap.size w w'
set_option maxRecDepth 100000 in
theorem or2 (a b : Bool) : (a = true ∧ (a || b) = true) ∨ (a = false ∧ b = true ∧ (a || b) = true) ∨ (a = false ∧ b = false ∧ (a || b) = false) := by cases a <;> cases b <;> simp
theorem and4 (a b c d : Bool) : (a = false ∧ (a && (b && (c && d))) = false) ∨ (a = true ∧ b = false ∧ (a && (b && (c && d))) = false) ∨ (a = true ∧ b = true ∧ c = false ∧ (a && (b && (c && d))) = false) ∨ (a = true ∧ b = true ∧ c = true ∧ d = false ∧ (a && (b && (c && d))) = false) ∨ (a = true ∧ b = true ∧ c = true ∧ d = true ∧ (a && (b && (c && d))) = true) := by
 cases a <;> cases b <;> cases c <;> cases d <;> simp
set_option maxRecDepth 100000 in
theorem any_snoc {α : Type} (f : α → Bool) (l : List α) (k : Nat) (h : k < l.length) (hp : (l.take k).any f = false) (hf : f l[k] = false) : (l.take (k + 1)).any f = false := by
 rw [List.take_add_one, List.getElem?_eq_getElem h, List.any_append, hp]
 simp [hf]
set_option maxRecDepth 100000 in
theorem any_at {α : Type} (f : α → Bool) (l : List α) (k : Nat) (h : k < l.length) (hf : f l[k] = true) : l.any f = true := List.any_eq_true.2 ⟨_, List.getElem_mem h, hf⟩
theorem wrongWi_any (x : Wi) (w : World) : Calls Tryz.prog 145 #[.agg (vec 4 (winE x))] w (BoolB (badWi x) w) := by
 obtain ⟨V, hV⟩ : ∃ V, V = w.alloc (.cells (vec 4 (winE x)) 67) := ⟨_, rfl⟩
 have k1 : Arr V w.heap.size 67 4 (winE x) := by rw [hV]; exact Arr.new w _ _ _
 have HK : Hid (Below w.heap.size w V) := Lib.hid (by rw [hV]; exact (Below.refl _ _).alloc (Nat.le_refl _) _)
 have HW := Lib.hid hV
 have c3 : V.cell? ⟨w.heap.size, 3, none⟩ = some (.int .i64 x.perm) := k1.cell (i := 3) (by decide)
 have HP := Lib.hid (fun W => permFits_any x.perm W)
 obtain ⟨b, hb⟩ : ∃ b, b = inB x.perm 0 7 := ⟨_, rfl⟩
 have hbad : badWi x = !b := by rw [hb]; rfl
 rw [← hb] at HP
 rw [hbad]
 unfold BoolB
 clear hV k1 hb hbad
 go_enter Tryz.func145, Tryz.ntmps145
 go_upto_region 1 with fail
 rw [← HW.out]
 clear HW
 go_wp2_with (go_at_call 176; refine (HP.out _).mono ?_; rintro e w1 ⟨rfl, rfl⟩)
 go_ret
 exact ⟨rfl, HK.out⟩
set_option maxRecDepth 100000 in
theorem wrongIr_any (x : Ir) (w : World) : Calls Tryz.prog 146 #[.agg (vec 3 (irqE x))] w (BoolB (badIr x) w) := by
 obtain ⟨V, hV⟩ : ∃ V, V = w.alloc (.cells (vec 3 (irqE x)) 65) := ⟨_, rfl⟩
 have k1 : Arr V w.heap.size 65 3 (irqE x) := by rw [hV]; exact Arr.new w _ _ _
 have HK : Hid (Below w.heap.size w V) := Lib.hid (by rw [hV]; exact (Below.refl _ _).alloc (Nat.le_refl _) _)
 have HW := Lib.hid hV
 have c0 : V.cell? ⟨w.heap.size, 0, none⟩ = some (.int .i64 x.number) := k1.cell (i := 0) (by decide)
 have c1 : V.cell? ⟨w.heap.size, 1, none⟩ = some (.int .i64 x.cpu) := k1.cell (i := 1) (by decide)
 have HP := Lib.hid (fun W => shortFits_any x.number W)
 have HQ := Lib.hid (fun W => shortFits_any x.cpu W)
 obtain ⟨b, hb⟩ : ∃ b, b = inB x.number 0 65535 := ⟨_, rfl⟩
 obtain ⟨c, hc⟩ : ∃ c, c = inB x.cpu 0 65535 := ⟨_, rfl⟩
 have hbad : badIr x = (!b || !c) := by rw [hb, hc]; rfl
 rw [← hb] at HP
 rw [← hc] at HQ
 rw [hbad]
 unfold BoolB
 clear hV k1 hb hc hbad
 go_enter Tryz.func146, Tryz.ntmps146
 go_upto_region 1 with fail
 rw [← HW.out]
 clear HW
 cases b
 · go_wp2_with (first | (go_at_call 177; refine (HP.out _).mono ?_; rintro e w1 ⟨rfl, rfl⟩) | (go_at_call 177; refine (HQ.out _).mono ?_; rintro e w2 ⟨rfl, rfl⟩))
   go_ret
   exact ⟨rfl, HK.out⟩
 · go_wp2_with (first | (go_at_call 177; refine (HP.out _).mono ?_; rintro e w1 ⟨rfl, rfl⟩) | (go_at_call 177; refine (HQ.out _).mono ?_; rintro e w2 ⟨rfl, rfl⟩))
   go_ret
   exact ⟨rfl, HK.out⟩
set_option maxRecDepth 100000 in
theorem wrongEn_any (x : En) (w : World) : Calls Tryz.prog 148 #[.agg (vec 3 (endE x))] w (BoolB (badEn x) w) := by
 obtain ⟨V, hV⟩ : ∃ V, V = w.alloc (.cells (vec 3 (endE x)) 44) := ⟨_, rfl⟩
 have k1 : Arr V w.heap.size 44 3 (endE x) := by rw [hV]; exact Arr.new w _ _ _
 have HK : Hid (Below w.heap.size w V) := Lib.hid (by rw [hV]; exact (Below.refl _ _).alloc (Nat.le_refl _) _)
 have HW := Lib.hid hV
 have c0 : V.cell? ⟨w.heap.size, 0, none⟩ = some (.int .i64 x.guest) := k1.cell (i := 0) (by decide)
 have c1 : V.cell? ⟨w.heap.size, 1, none⟩ = some (.int .i64 x.perm) := k1.cell (i := 1) (by decide)
 have HP := Lib.hid (fun W => shortFits_any x.guest W)
 have HQ := Lib.hid (fun W => permFits_any x.perm W)
 obtain ⟨b, hb⟩ : ∃ b, b = inB x.guest 0 65535 := ⟨_, rfl⟩
 obtain ⟨c, hc⟩ : ∃ c, c = inB x.perm 0 7 := ⟨_, rfl⟩
 have hbad : badEn x = (!b || !c) := by rw [hb, hc]; rfl
 rw [← hb] at HP
 rw [← hc] at HQ
 rw [hbad]
 unfold BoolB
 clear hV k1 hb hc hbad
 go_enter Tryz.func148, Tryz.ntmps148
 go_upto_region 1 with fail
 rw [← HW.out]
 clear HW
 cases b
 · go_wp2_with (first | (go_at_call 177; refine (HP.out _).mono ?_; rintro e w1 ⟨rfl, rfl⟩) | (go_at_call 176; refine (HQ.out _).mono ?_; rintro e w2 ⟨rfl, rfl⟩))
   go_ret
   exact ⟨rfl, HK.out⟩
 · go_wp2_with (first | (go_at_call 177; refine (HP.out _).mono ?_; rintro e w1 ⟨rfl, rfl⟩) | (go_at_call 176; refine (HQ.out _).mono ?_; rintro e w2 ⟨rfl, rfl⟩))
   go_ret
   exact ⟨rfl, HK.out⟩
set_option maxRecDepth 100000 in
set_option maxHeartbeats 4000000 in
theorem index_wi (l : List Wi) (A : Option Addr) (c : Nat) (w : World) (hl : l.length ≤ 9223372036854775807) (h1 : RowE 4 winE w w.heap.size A l) : Calls Tryz.prog 119 #[.slice A l.length c, .func (.func 145) #[] #[]] w fun e w' => ∃ z : Int, e = .returned (.int .i64 z) ∧ decide (0 ≤ z) = l.any badWi ∧ Below w.heap.size w w' := by
 have H1 := Lib.hid h1
 obtain ⟨N, hN⟩ : ∃ N, N = l.length := ⟨_, rfl⟩
 have HN := Lib.hid hN
 rw [← hN] at hl ⊢
 obtain ⟨B, hB⟩ : ∃ B, B = l.any badWi := ⟨_, rfl⟩
 have HBB := Lib.hid hB
 rw [← hB]
 clear h1 hN hB
 go_enter Tryz.func119, Tryz.ntmps119
 go_wp2
 go_loopw [5, 8] (fun _ v W => ∃ k : Nat, k ≤ N ∧ v = .int .i64 k ∧ Hid ((l.take k).any badWi = false) ∧ Hid (Below w.heap.size w W)) (fun _ i _ => N - (intOf i).toNat)
 case atStart => exact ⟨0, Nat.zero_le _, rfl, Lib.hid rfl, Lib.hid (Below.refl _ _)⟩
 case round =>
  obtain ⟨k, hk, rfl, HP0, HB⟩ := hrel
  by_cases hlt0 : k < N
  · have hlt : k < l.length := by have := HN.out; omega
    obtain ⟨W, hW⟩ : ∃ W : World, W = wr := ⟨_, rfl⟩
    subst hW
    have g1 := H1.out.up HB.out
    obtain ⟨a, p, rfl, hp, -, hcp⟩ := g1.at hlt
    obtain ⟨x, hx⟩ : ∃ x, x = l[k] := ⟨_, rfl⟩
    rw [← hx] at hcp
    have HCP := Lib.hid hcp
    obtain ⟨b, hb⟩ : ∃ b, b = badWi x := ⟨_, rfl⟩
    have HYES : Hid (b = true → B = true) := Lib.hid (fun h => by rw [HBB.out]; exact any_at _ _ _ hlt (by rw [← hx, ← hb]; exact h))
    have HNO : Hid (b = false → (l.take (k + 1)).any badWi = false) := Lib.hid (fun h => any_snoc _ _ _ hlt HP0.out (by rw [← hx, ← hb]; exact h))
    have HC := Lib.hid (wrongWi_any x W)
    rw [← hb] at HC
    have hki : (k : Int) < (N : Int) := by omega
    clear g1 hcp hx hb hlt
    cases b
    · have HS := Lib.hid (HNO.out rfl)
      clear HNO HYES
      go_wp2_with (first | ((with_reducible show wpList _ _ _ (Oper.mk _ (.load 67 _) _ _ _ _ :: _) _ _); refine wl_load_q rfl 67 _ rfl p rfl _ (run_load_q HCP.out Tryz.underlying67 rfl infoWi) ?_) | (go_at_call 145; refine HC.out.mono ?_; rintro e w1 ⟨rfl, hd⟩; have HD := Lib.hid hd; clear hd))
      go_roundw
      case rel => exact ⟨k + 1, by omega, by go_num, HS, Lib.hid (HB.out.trans (HD.out.mono HB.out.size))⟩
      case measure => simp [intOf]; omega
    · have HT := Lib.hid (HYES.out rfl)
      clear HNO HYES
      go_wp2_with (first | ((with_reducible show wpList _ _ _ (Oper.mk _ (.load 67 _) _ _ _ _ :: _) _ _); refine wl_load_q rfl 67 _ rfl p rfl _ (run_load_q HCP.out Tryz.underlying67 rfl infoWi) ?_) | (go_at_call 145; refine HC.out.mono ?_; rintro e w1 ⟨rfl, hd⟩; have HD := Lib.hid hd; clear hd))
      go_ret
      exact ⟨(k : Int), rfl, by rw [HT.out]; simp, HB.out.trans (HD.out.mono HB.out.size)⟩
  · obtain rfl : k = N := by omega
    have HT : Hid (B = false) := Lib.hid (by rw [HBB.out]; have h := HP0.out; rw [HN.out, List.take_length] at h; exact h)
    clear hlt0
    go_wp2_with fail
    go_ret
    exact ⟨-1, rfl, by rw [HT.out]; decide, HB.out⟩
set_option maxRecDepth 100000 in
theorem contains_wi (l : List Wi) (A : Option Addr) (c : Nat) (w : World) (hl : l.length ≤ 9223372036854775807) (h1 : RowE 4 winE w w.heap.size A l) : Calls Tryz.prog 76 #[.slice A l.length c, .func (.func 145) #[] #[]] w (BoolB (l.any badWi) w) := by
 have HC := Lib.hid (index_wi l A c w hl h1)
 obtain ⟨B, hB⟩ : ∃ B, B = l.any badWi := ⟨_, rfl⟩
 rw [← hB] at HC ⊢
 unfold BoolB
 clear hB h1
 go_enter Tryz.func76, Tryz.ntmps76
 go_wp2_with (go_at_call 119; refine HC.out.mono ?_; rintro e w1 ⟨z, rfl, hz, hd⟩; have HZ := Lib.hid hz; have HD := Lib.hid hd; clear hd hz)
 go_ret
 exact ⟨by rw [← HZ.out]; rfl, HD.out⟩
set_option maxRecDepth 100000 in
set_option maxHeartbeats 4000000 in
theorem index_ir (l : List Ir) (A : Option Addr) (c : Nat) (w : World) (hl : l.length ≤ 9223372036854775807) (h1 : RowE 3 irqE w w.heap.size A l) : Calls Tryz.prog 123 #[.slice A l.length c, .func (.func 146) #[] #[]] w fun e w' => ∃ z : Int, e = .returned (.int .i64 z) ∧ decide (0 ≤ z) = l.any badIr ∧ Below w.heap.size w w' := by
 have H1 := Lib.hid h1
 obtain ⟨N, hN⟩ : ∃ N, N = l.length := ⟨_, rfl⟩
 have HN := Lib.hid hN
 rw [← hN] at hl ⊢
 obtain ⟨B, hB⟩ : ∃ B, B = l.any badIr := ⟨_, rfl⟩
 have HBB := Lib.hid hB
 rw [← hB]
 clear h1 hN hB
 go_enter Tryz.func123, Tryz.ntmps123
 go_wp2
 go_loopw [5, 8] (fun _ v W => ∃ k : Nat, k ≤ N ∧ v = .int .i64 k ∧ Hid ((l.take k).any badIr = false) ∧ Hid (Below w.heap.size w W)) (fun _ i _ => N - (intOf i).toNat)
 case atStart => exact ⟨0, Nat.zero_le _, rfl, Lib.hid rfl, Lib.hid (Below.refl _ _)⟩
 case round =>
  obtain ⟨k, hk, rfl, HP0, HB⟩ := hrel
  by_cases hlt0 : k < N
  · have hlt : k < l.length := by have := HN.out; omega
    obtain ⟨W, hW⟩ : ∃ W : World, W = wr := ⟨_, rfl⟩
    subst hW
    have g1 := H1.out.up HB.out
    obtain ⟨a, p, rfl, hp, -, hcp⟩ := g1.at hlt
    obtain ⟨x, hx⟩ : ∃ x, x = l[k] := ⟨_, rfl⟩
    rw [← hx] at hcp
    have HCP := Lib.hid hcp
    obtain ⟨b, hb⟩ : ∃ b, b = badIr x := ⟨_, rfl⟩
    have HYES : Hid (b = true → B = true) := Lib.hid (fun h => by rw [HBB.out]; exact any_at _ _ _ hlt (by rw [← hx, ← hb]; exact h))
    have HNO : Hid (b = false → (l.take (k + 1)).any badIr = false) := Lib.hid (fun h => any_snoc _ _ _ hlt HP0.out (by rw [← hx, ← hb]; exact h))
    have HC := Lib.hid (wrongIr_any x W)
    rw [← hb] at HC
    have hki : (k : Int) < (N : Int) := by omega
    clear g1 hcp hx hb hlt
    cases b
    · have HS := Lib.hid (HNO.out rfl)
      clear HNO HYES
      go_wp2_with (first | ((with_reducible show wpList _ _ _ (Oper.mk _ (.load 65 _) _ _ _ _ :: _) _ _); refine wl_load_q rfl 65 _ rfl p rfl _ (run_load_q HCP.out Tryz.underlying65 rfl infoIr) ?_) | (go_at_call 146; refine HC.out.mono ?_; rintro e w1 ⟨rfl, hd⟩; have HD := Lib.hid hd; clear hd))
      go_roundw
      case rel => exact ⟨k + 1, by omega, by go_num, HS, Lib.hid (HB.out.trans (HD.out.mono HB.out.size))⟩
      case measure => simp [intOf]; omega
    · have HT := Lib.hid (HYES.out rfl)
      clear HNO HYES
      go_wp2_with (first | ((with_reducible show wpList _ _ _ (Oper.mk _ (.load 65 _) _ _ _ _ :: _) _ _); refine wl_load_q rfl 65 _ rfl p rfl _ (run_load_q HCP.out Tryz.underlying65 rfl infoIr) ?_) | (go_at_call 146; refine HC.out.mono ?_; rintro e w1 ⟨rfl, hd⟩; have HD := Lib.hid hd; clear hd))
      go_ret
      exact ⟨(k : Int), rfl, by rw [HT.out]; simp, HB.out.trans (HD.out.mono HB.out.size)⟩
  · obtain rfl : k = N := by omega
    have HT : Hid (B = false) := Lib.hid (by rw [HBB.out]; have h := HP0.out; rw [HN.out, List.take_length] at h; exact h)
    clear hlt0
    go_wp2_with fail
    go_ret
    exact ⟨-1, rfl, by rw [HT.out]; decide, HB.out⟩
set_option maxRecDepth 100000 in
theorem contains_ir (l : List Ir) (A : Option Addr) (c : Nat) (w : World) (hl : l.length ≤ 9223372036854775807) (h1 : RowE 3 irqE w w.heap.size A l) : Calls Tryz.prog 87 #[.slice A l.length c, .func (.func 146) #[] #[]] w (BoolB (l.any badIr) w) := by
 have HC := Lib.hid (index_ir l A c w hl h1)
 obtain ⟨B, hB⟩ : ∃ B, B = l.any badIr := ⟨_, rfl⟩
 rw [← hB] at HC ⊢
 unfold BoolB
 clear hB h1
 go_enter Tryz.func87, Tryz.ntmps87
 go_wp2_with (go_at_call 123; refine HC.out.mono ?_; rintro e w1 ⟨z, rfl, hz, hd⟩; have HZ := Lib.hid hz; have HD := Lib.hid hd; clear hd hz)
 go_ret
 exact ⟨by rw [← HZ.out]; rfl, HD.out⟩
set_option maxRecDepth 100000 in
set_option maxHeartbeats 4000000 in
theorem index_en (l : List En) (A : Option Addr) (c : Nat) (w : World) (hl : l.length ≤ 9223372036854775807) (h1 : RowE 3 endE w w.heap.size A l) : Calls Tryz.prog 164 #[.slice A l.length c, .func (.func 148) #[] #[]] w fun e w' => ∃ z : Int, e = .returned (.int .i64 z) ∧ decide (0 ≤ z) = l.any badEn ∧ Below w.heap.size w w' := by
 have H1 := Lib.hid h1
 obtain ⟨N, hN⟩ : ∃ N, N = l.length := ⟨_, rfl⟩
 have HN := Lib.hid hN
 rw [← hN] at hl ⊢
 obtain ⟨B, hB⟩ : ∃ B, B = l.any badEn := ⟨_, rfl⟩
 have HBB := Lib.hid hB
 rw [← hB]
 clear h1 hN hB
 go_enter Tryz.func164, Tryz.ntmps164
 go_wp2
 go_loopw [5, 8] (fun _ v W => ∃ k : Nat, k ≤ N ∧ v = .int .i64 k ∧ Hid ((l.take k).any badEn = false) ∧ Hid (Below w.heap.size w W)) (fun _ i _ => N - (intOf i).toNat)
 case atStart => exact ⟨0, Nat.zero_le _, rfl, Lib.hid rfl, Lib.hid (Below.refl _ _)⟩
 case round =>
  obtain ⟨k, hk, rfl, HP0, HB⟩ := hrel
  by_cases hlt0 : k < N
  · have hlt : k < l.length := by have := HN.out; omega
    obtain ⟨W, hW⟩ : ∃ W : World, W = wr := ⟨_, rfl⟩
    subst hW
    have g1 := H1.out.up HB.out
    obtain ⟨a, p, rfl, hp, -, hcp⟩ := g1.at hlt
    obtain ⟨x, hx⟩ : ∃ x, x = l[k] := ⟨_, rfl⟩
    rw [← hx] at hcp
    have HCP := Lib.hid hcp
    obtain ⟨b, hb⟩ : ∃ b, b = badEn x := ⟨_, rfl⟩
    have HYES : Hid (b = true → B = true) := Lib.hid (fun h => by rw [HBB.out]; exact any_at _ _ _ hlt (by rw [← hx, ← hb]; exact h))
    have HNO : Hid (b = false → (l.take (k + 1)).any badEn = false) := Lib.hid (fun h => any_snoc _ _ _ hlt HP0.out (by rw [← hx, ← hb]; exact h))
    have HC := Lib.hid (wrongEn_any x W)
    rw [← hb] at HC
    have hki : (k : Int) < (N : Int) := by omega
    clear g1 hcp hx hb hlt
    cases b
    · have HS := Lib.hid (HNO.out rfl)
      clear HNO HYES
      go_wp2_with (first | ((with_reducible show wpList _ _ _ (Oper.mk _ (.load 44 _) _ _ _ _ :: _) _ _); refine wl_load_q rfl 44 _ rfl p rfl _ (run_load_q HCP.out Tryz.underlying44 rfl infoEn) ?_) | (go_at_call 148; refine HC.out.mono ?_; rintro e w1 ⟨rfl, hd⟩; have HD := Lib.hid hd; clear hd))
      go_roundw
      case rel => exact ⟨k + 1, by omega, by go_num, HS, Lib.hid (HB.out.trans (HD.out.mono HB.out.size))⟩
      case measure => simp [intOf]; omega
    · have HT := Lib.hid (HYES.out rfl)
      clear HNO HYES
      go_wp2_with (first | ((with_reducible show wpList _ _ _ (Oper.mk _ (.load 44 _) _ _ _ _ :: _) _ _); refine wl_load_q rfl 44 _ rfl p rfl _ (run_load_q HCP.out Tryz.underlying44 rfl infoEn) ?_) | (go_at_call 148; refine HC.out.mono ?_; rintro e w1 ⟨rfl, hd⟩; have HD := Lib.hid hd; clear hd))
      go_ret
      exact ⟨(k : Int), rfl, by rw [HT.out]; simp, HB.out.trans (HD.out.mono HB.out.size)⟩
  · obtain rfl : k = N := by omega
    have HT : Hid (B = false) := Lib.hid (by rw [HBB.out]; have h := HP0.out; rw [HN.out, List.take_length] at h; exact h)
    clear hlt0
    go_wp2_with fail
    go_ret
    exact ⟨-1, rfl, by rw [HT.out]; decide, HB.out⟩
set_option maxRecDepth 100000 in
theorem contains_en (l : List En) (A : Option Addr) (c : Nat) (w : World) (hl : l.length ≤ 9223372036854775807) (h1 : RowE 3 endE w w.heap.size A l) : Calls Tryz.prog 132 #[.slice A l.length c, .func (.func 148) #[] #[]] w (BoolB (l.any badEn) w) := by
 have HC := Lib.hid (index_en l A c w hl h1)
 obtain ⟨B, hB⟩ : ∃ B, B = l.any badEn := ⟨_, rfl⟩
 rw [← hB] at HC ⊢
 unfold BoolB
 clear hB h1
 go_enter Tryz.func132, Tryz.ntmps132
 go_wp2_with (go_at_call 164; refine HC.out.mono ?_; rintro e w1 ⟨z, rfl, hz, hd⟩; have HZ := Lib.hid hz; have HD := Lib.hid hd; clear hd hz)
 go_ret
 exact ⟨by rw [← HZ.out]; rfl, HD.out⟩
set_option maxRecDepth 100000 in
theorem ends_row {w : World} {g : Nat} {t : TypeId} {x : Ch} (h : Arr w g t 8 (chE x)) : RowE 3 endE w w.heap.size (some ⟨g, 2, none⟩) [x.a, x.b] := fun _ => ⟨_, rfl, h.lt, fun j hj i hi => by
 have hj2 : j < 2 := hj
 have e : ((⟨g, 2, none⟩ : Addr).add (j * 3 + i)) = ⟨g, 2 + (j * 3 + i), none⟩ := by unfold Addr.add; generalize j * 3 + i = n; by_cases h0 : n = 0 <;> simp [h0]
 rw [e, h.cell (by omega)]
 congr 1
 rw [Nat.add_comm 2]
 show (if j * 3 + i < 3 then endE x.a (j * 3 + i) else endE x.b (j * 3 + i - 3)) = _
 match j, hj2 with
 | 0, _ => rw [if_pos (by omega)]; simp
 | 1, _ => rw [if_neg (by omega)]; congr 1; omega⟩
set_option maxRecDepth 100000 in
theorem wrongCh_any (x : Ch) (w : World) : Calls Tryz.prog 111 #[.agg (vec 8 (chE x))] w (BoolB (badCh x) w) := by
 obtain ⟨V, hV⟩ : ∃ V, V = w.alloc (.cells (vec 8 (chE x)) 47) := ⟨_, rfl⟩
 have k1 : Arr V w.heap.size 47 8 (chE x) := by rw [hV]; exact Arr.new w _ _ _
 have HK : Hid (Below w.heap.size w V) := Lib.hid (by rw [hV]; exact (Below.refl _ _).alloc (Nat.le_refl _) _)
 have HW := Lib.hid hV
 have HC := Lib.hid (contains_en [x.a, x.b] (some ⟨w.heap.size, 2, none⟩) 2 V (by simp) (ends_row k1))
 have hb : ([x.a, x.b].any badEn) = badCh x := by simp [badCh]
 rw [hb] at HC
 unfold BoolB
 clear hV k1 hb
 go_enter Tryz.func111, Tryz.ntmps111
 go_upto_region 1 with fail
 rw [← HW.out]
 clear HW
 go_wp2_with (go_at_call 132; refine HC.out.mono ?_; rintro e w1 ⟨rfl, hd⟩; have HD := Lib.hid hd; clear hd)
 go_ret
 exact ⟨rfl, HK.out.trans (HD.out.mono HK.out.size)⟩
set_option maxRecDepth 100000 in
set_option maxHeartbeats 4000000 in
theorem index_ch (l : List Ch) (A : Option Addr) (c : Nat) (w : World) (hl : l.length ≤ 9223372036854775807) (h1 : RowE 8 chE w w.heap.size A l) : Calls Tryz.prog 147 #[.slice A l.length c, .func (.func 111) #[] #[]] w fun e w' => ∃ z : Int, e = .returned (.int .i64 z) ∧ decide (0 ≤ z) = l.any badCh ∧ Below w.heap.size w w' := by
 have H1 := Lib.hid h1
 obtain ⟨N, hN⟩ : ∃ N, N = l.length := ⟨_, rfl⟩
 have HN := Lib.hid hN
 rw [← hN] at hl ⊢
 obtain ⟨B, hB⟩ : ∃ B, B = l.any badCh := ⟨_, rfl⟩
 have HBB := Lib.hid hB
 rw [← hB]
 clear h1 hN hB
 go_enter Tryz.func147, Tryz.ntmps147
 go_wp2
 go_loopw [5, 8] (fun _ v W => ∃ k : Nat, k ≤ N ∧ v = .int .i64 k ∧ Hid ((l.take k).any badCh = false) ∧ Hid (Below w.heap.size w W)) (fun _ i _ => N - (intOf i).toNat)
 case atStart => exact ⟨0, Nat.zero_le _, rfl, Lib.hid rfl, Lib.hid (Below.refl _ _)⟩
 case round =>
  obtain ⟨k, hk, rfl, HP0, HB⟩ := hrel
  by_cases hlt0 : k < N
  · have hlt : k < l.length := by have := HN.out; omega
    obtain ⟨W, hW⟩ : ∃ W : World, W = wr := ⟨_, rfl⟩
    subst hW
    have g1 := H1.out.up HB.out
    obtain ⟨a, p, rfl, hp, -, hcp⟩ := g1.at hlt
    obtain ⟨x, hx⟩ : ∃ x, x = l[k] := ⟨_, rfl⟩
    rw [← hx] at hcp
    have HCP := Lib.hid hcp
    obtain ⟨b, hb⟩ : ∃ b, b = badCh x := ⟨_, rfl⟩
    have HYES : Hid (b = true → B = true) := Lib.hid (fun h => by rw [HBB.out]; exact any_at _ _ _ hlt (by rw [← hx, ← hb]; exact h))
    have HNO : Hid (b = false → (l.take (k + 1)).any badCh = false) := Lib.hid (fun h => any_snoc _ _ _ hlt HP0.out (by rw [← hx, ← hb]; exact h))
    have HC := Lib.hid (wrongCh_any x W)
    rw [← hb] at HC
    have hki : (k : Int) < (N : Int) := by omega
    clear g1 hcp hx hb hlt
    cases b
    · have HS := Lib.hid (HNO.out rfl)
      clear HNO HYES
      go_wp2_with (first | ((with_reducible show wpList _ _ _ (Oper.mk _ (.load 47 _) _ _ _ _ :: _) _ _); refine wl_load_q rfl 47 _ rfl p rfl _ (run_load_q HCP.out Tryz.underlying47 rfl infoCh) ?_) | (go_at_call 111; refine HC.out.mono ?_; rintro e w1 ⟨rfl, hd⟩; have HD := Lib.hid hd; clear hd))
      go_roundw
      case rel => exact ⟨k + 1, by omega, by go_num, HS, Lib.hid (HB.out.trans (HD.out.mono HB.out.size))⟩
      case measure => simp [intOf]; omega
    · have HT := Lib.hid (HYES.out rfl)
      clear HNO HYES
      go_wp2_with (first | ((with_reducible show wpList _ _ _ (Oper.mk _ (.load 47 _) _ _ _ _ :: _) _ _); refine wl_load_q rfl 47 _ rfl p rfl _ (run_load_q HCP.out Tryz.underlying47 rfl infoCh) ?_) | (go_at_call 111; refine HC.out.mono ?_; rintro e w1 ⟨rfl, hd⟩; have HD := Lib.hid hd; clear hd))
      go_ret
      exact ⟨(k : Int), rfl, by rw [HT.out]; simp, HB.out.trans (HD.out.mono HB.out.size)⟩
  · obtain rfl : k = N := by omega
    have HT : Hid (B = false) := Lib.hid (by rw [HBB.out]; have h := HP0.out; rw [HN.out, List.take_length] at h; exact h)
    clear hlt0
    go_wp2_with fail
    go_ret
    exact ⟨-1, rfl, by rw [HT.out]; decide, HB.out⟩
set_option maxRecDepth 100000 in
theorem contains_ch (l : List Ch) (A : Option Addr) (c : Nat) (w : World) (hl : l.length ≤ 9223372036854775807) (h1 : RowE 8 chE w w.heap.size A l) : Calls Tryz.prog 110 #[.slice A l.length c, .func (.func 111) #[] #[]] w (BoolB (l.any badCh) w) := by
 have HC := Lib.hid (index_ch l A c w hl h1)
 obtain ⟨B, hB⟩ : ∃ B, B = l.any badCh := ⟨_, rfl⟩
 rw [← hB] at HC ⊢
 unfold BoolB
 clear hB h1
 go_enter Tryz.func110, Tryz.ntmps110
 go_wp2_with (go_at_call 147; refine HC.out.mono ?_; rintro e w1 ⟨z, rfl, hz, hd⟩; have HZ := Lib.hid hz; have HD := Lib.hid hd; clear hd hz)
 go_ret
 exact ⟨by rw [← HZ.out]; rfl, HD.out⟩
set_option maxRecDepth 100000 in
set_option maxHeartbeats 4000000 in
theorem counted_any (x : GV) (w : World) (hx : GRow w w.heap.size x) : Calls Tryz.prog 144 #[.agg (vec 79 (guestE x))] w (BoolB (cntOk x.g) w) := by
 obtain ⟨V, hV⟩ : ∃ V, V = w.alloc (.cells (vec 79 (guestE x)) 63) := ⟨_, rfl⟩
 have k1 : Arr V w.heap.size 63 79 (guestE x) := by rw [hV]; exact Arr.new w _ _ _
 have HK : Hid (Below w.heap.size w V) := Lib.hid (by rw [hV]; exact (Below.refl _ _).alloc (Nat.le_refl _) _)
 have HW := Lib.hid hV
 obtain ⟨⟨A1, e1, f1, _, _⟩, ⟨A2, e2, f2, _, _⟩, ⟨A3, e3, f3, _, _⟩, ⟨A4, e4, f4, _, _⟩⟩ := hx
 have y1 : V.cell? ⟨w.heap.size, 75, none⟩ = some (.slice A1 x.g.wins.length e1) := f1 ▸ k1.cell (i := 75) (by decide)
 have y2 : V.cell? ⟨w.heap.size, 76, none⟩ = some (.slice A2 x.g.devs.length e2) := f2 ▸ k1.cell (i := 76) (by decide)
 have y3 : V.cell? ⟨w.heap.size, 77, none⟩ = some (.slice A3 x.g.irqs.length e3) := f3 ▸ k1.cell (i := 77) (by decide)
 have y4 : V.cell? ⟨w.heap.size, 78, none⟩ = some (.slice A4 x.g.strs.length e4) := f4 ▸ k1.cell (i := 78) (by decide)
 have H1 := Lib.hid (fun W => windowsFit_any (x.g.wins.length : Int) W)
 have H2 := Lib.hid (fun W => devicesFit_any (x.g.devs.length : Int) W)
 have H3 := Lib.hid (fun W => irqsFit_any (x.g.irqs.length : Int) W)
 have H4 := Lib.hid (fun W => streamsFit_any (x.g.strs.length : Int) W)
 have hc := and4 (inB x.g.wins.length 1 16) (inB x.g.devs.length 0 16) (inB x.g.irqs.length 0 64) (inB x.g.strs.length 0 32)
 unfold cntOk
 obtain ⟨n1, q1⟩ : ∃ n, n = x.g.wins.length := ⟨_, rfl⟩
 obtain ⟨n2, q2⟩ : ∃ n, n = x.g.devs.length := ⟨_, rfl⟩
 obtain ⟨n3, q3⟩ : ∃ n, n = x.g.irqs.length := ⟨_, rfl⟩
 obtain ⟨n4, q4⟩ : ∃ n, n = x.g.strs.length := ⟨_, rfl⟩
 rw [← q1] at y1 H1 hc ⊢
 rw [← q2] at y2 H2 hc ⊢
 rw [← q3] at y3 H3 hc ⊢
 rw [← q4] at y4 H4 hc ⊢
 obtain ⟨b1, r1⟩ : ∃ b, b = inB (n1 : Int) 1 16 := ⟨_, rfl⟩
 obtain ⟨b2, r2⟩ : ∃ b, b = inB (n2 : Int) 0 16 := ⟨_, rfl⟩
 obtain ⟨b3, r3⟩ : ∃ b, b = inB (n3 : Int) 0 64 := ⟨_, rfl⟩
 obtain ⟨b4, r4⟩ : ∃ b, b = inB (n4 : Int) 0 32 := ⟨_, rfl⟩
 rw [← r1] at H1 hc ⊢
 rw [← r2] at H2 hc ⊢
 rw [← r3] at H3 hc ⊢
 rw [← r4] at H4 hc ⊢
 unfold BoolB
 obtain ⟨r, hr⟩ : ∃ r, r = (b1 && (b2 && (b3 && b4))) := ⟨_, rfl⟩
 rw [← hr] at hc ⊢
 clear hV k1 f1 f2 f3 f4 q1 q2 q3 q4 r1 r2 r3 r4 hr
 go_enter Tryz.func144, Tryz.ntmps144
 go_upto_region 1 with fail
 rw [← HW.out]
 clear HW
 rcases hc with ⟨rfl, rfl⟩ | ⟨rfl, rfl, rfl⟩ | ⟨rfl, rfl, rfl, rfl⟩ | ⟨rfl, rfl, rfl, rfl, rfl⟩ | ⟨rfl, rfl, rfl, rfl, rfl⟩
 all_goals (go_wp2_with (first | (go_at_call 172; refine (H1.out _).mono ?_; rintro e w1 ⟨rfl, rfl⟩) | (go_at_call 173; refine (H2.out _).mono ?_; rintro e w2 ⟨rfl, rfl⟩) | (go_at_call 174; refine (H3.out _).mono ?_; rintro e w3 ⟨rfl, rfl⟩) | (go_at_call 175; refine (H4.out _).mono ?_; rintro e w4 ⟨rfl, rfl⟩)); go_ret; exact ⟨rfl, HK.out⟩)
def NumB (n : Nat) (w : World) (e : Ending) (w' : World) : Prop := e = .returned (.int .i64 (n : Int)) ∧ Below w.heap.size w w'
set_option maxRecDepth 100000 in
set_option maxHeartbeats 4000000 in
theorem refusedGuest_any (x : GV) (w : World) (hx : GRow w w.heap.size x) (hk : x.g.key.length = 68) (hn : x.g.name.length ≤ 1000000) : Calls Tryz.prog 109 #[.agg (vec 79 (guestE x))] w (NumB (errG x.g) w) := by
 obtain ⟨V, hV⟩ : ∃ V, V = w.alloc (.cells (vec 79 (guestE x)) 63) := ⟨_, rfl⟩
 have k1 : Arr V w.heap.size 63 79 (guestE x) := by rw [hV]; exact Arr.new w _ _ _
 have HK : Hid (Below w.heap.size w V) := Lib.hid (by rw [hV]; exact (Below.refl _ _).alloc (Nat.le_refl _) _)
 have HW := Lib.hid hV
 have hB := HK.out
 have hx2 : GRow V V.heap.size x := (hx.below hB).wide hB.size
 have y0 : V.cell? ⟨w.heap.size, 0, none⟩ = some (.string (strOf x.g.name)) := k1.cell (i := 0) (by decide)
 have HX := Lib.hid hx2
 obtain ⟨⟨A1, e1, f1, _, l1⟩, ⟨A2, e2, f2, _, _⟩, ⟨A3, e3, f3, _, l3⟩, ⟨A4, e4, f4, _, _⟩⟩ := hx2
 have HY1 : Hid (V.cell? ⟨w.heap.size, 75, none⟩ = some (.slice A1 x.g.wins.length e1)) := Lib.hid (f1 ▸ k1.cell (i := 75) (by decide))
 have HY3 : Hid (V.cell? ⟨w.heap.size, 77, none⟩ = some (.slice A3 x.g.irqs.length e3)) := Lib.hid (f3 ▸ k1.cell (i := 77) (by decide))
 have HA := Lib.hid k1
 have H1 := Lib.hid (name_any x.g.name hn)
 have H2 := Lib.hid (keyed_any x.g.key hk)
 have H3 := Lib.hid (fun W (h : Below V.heap.size V W) => counted_any x W ((HX.out.below h).wide h.size))
 have H4 : Hid (∀ W, Below V.heap.size V W → Calls Tryz.prog 76 #[.slice A1 x.g.wins.length e1, .func (.func 145) #[] #[]] W (BoolB (x.g.wins.any badWi) W)) := Lib.hid (fun W h => by
   obtain ⟨⟨B, c, q, r, l⟩, _, _, _⟩ := HX.out
   rw [f1] at q
   cases q
   exact contains_wi _ _ _ W l1 (r.up h))
 have H5 : Hid (∀ W, Below V.heap.size V W → Calls Tryz.prog 87 #[.slice A3 x.g.irqs.length e3, .func (.func 146) #[] #[]] W (BoolB (x.g.irqs.any badIr) W)) := Lib.hid (fun W h => by
   obtain ⟨_, _, ⟨B, c, q, r, l⟩, _⟩ := HX.out
   rw [f3] at q
   cases q
   exact contains_ir _ _ _ W l3 (r.up h))
 obtain ⟨S, hS⟩ : ∃ S, S = strOf x.g.name := ⟨_, rfl⟩
 obtain ⟨kf, hkf⟩ : ∃ f, f = kF x.g.key := ⟨_, rfl⟩
 obtain ⟨G, hG⟩ : ∃ G, G = guestE x := ⟨_, rfl⟩
 have HKC : Hid (∀ i, i < 68 → V.cell? ⟨w.heap.size, 7 + i, none⟩ = some (bys kf i)) := Lib.hid (by rw [hkf]; exact guest_key k1)
 rw [← hS] at y0 H1
 rw [← hkf] at H2
 obtain ⟨nb, r1⟩ : ∃ b, b = nameOk x.g.name := ⟨_, rfl⟩
 obtain ⟨kb, r2⟩ : ∃ b, b = kOk x.g.key := ⟨_, rfl⟩
 obtain ⟨cb, r3⟩ : ∃ b, b = cntOk x.g := ⟨_, rfl⟩
 obtain ⟨wb, r4⟩ : ∃ b, b = x.g.wins.any badWi := ⟨_, rfl⟩
 obtain ⟨ib, r5⟩ : ∃ b, b = x.g.irqs.any badIr := ⟨_, rfl⟩
 unfold errG
 rw [← r1, ← r2, ← r3, ← r4, ← r5]
 rw [← r1] at H1
 rw [← r2] at H2
 rw [← r3] at H3
 rw [← r4] at H4
 rw [← r5] at H5
 unfold NumB
 clear hV k1 hx HX hB hS hkf hG r1 r2 r3 r4 r5 f1 f2 f3 f4 hk hn l1 l3
 go_enter Tryz.func109, Tryz.ntmps109
 go_upto_region 1 with fail
 rw [← HW.out]
 clear HW
 cases nb
 · go_wp2_with (go_at_call 142; refine (H1.out _).mono ?_; rintro e w1 ⟨rfl, rfl⟩)
   go_ret
   exact ⟨rfl, HK.out⟩
 cases kb
 · have _ := H2
   go_wp2_with (first
    | ((with_reducible show wpList _ _ _ (Oper.mk _ (.load 52 _) _ _ _ _ :: _) _ _); refine wl_execG (by kernel_rfl) (exec_load_at 52 _ rfl _ _ rfl _ (run_load_spl HKC.out Tryz.underlying52 rfl info_key)) ?_)
    | ((with_reducible show wpList _ _ _ (Oper.mk _ (.load 63 _) _ _ _ _ :: _) _ _); refine wl_load rfl 63 _ rfl _ rfl _ (run_load_arr (HA.out.under HD.out) Tryz.underlying63 rfl infoGu) ?_)
    | (go_at_call 142; refine (H1.out _).mono ?_; rintro e w1 ⟨rfl, rfl⟩)
    | (go_at_call 143; refine (H2.out _).mono ?_; rintro e w2 ⟨rfl, hd⟩; have y75 : w2.cell? ⟨w.heap.size, 75, none⟩ = _ := (hd.cell (World.block_lt_of_cell? V _ HY1.out)).trans HY1.out; have y77 : w2.cell? ⟨w.heap.size, 77, none⟩ = _ := (hd.cell (World.block_lt_of_cell? V _ HY3.out)).trans HY3.out; have HD := Lib.hid hd; clear hd)
    | (go_at_call 144; refine (H3.out _ HD.out).mono ?_; rintro e w3 ⟨rfl, hd⟩; have y75 : w3.cell? ⟨w.heap.size, 75, none⟩ = _ := (hd.cell (World.block_lt_of_cell? _ _ y75)).trans y75; have y77 : w3.cell? ⟨w.heap.size, 77, none⟩ = _ := (hd.cell (World.block_lt_of_cell? _ _ y77)).trans y77; have HD := Lib.hid (HD.out.trans (hd.mono HD.out.size)); clear hd)
    | (go_at_call 76; refine (H4.out _ HD.out).mono ?_; rintro e w4 ⟨rfl, hd⟩; have y77 : w4.cell? ⟨w.heap.size, 77, none⟩ = _ := (hd.cell (World.block_lt_of_cell? _ _ y77)).trans y77; have HD := Lib.hid (HD.out.trans (hd.mono HD.out.size)); clear hd)
    | (go_at_call 87; refine (H5.out _ HD.out).mono ?_; rintro e w5 ⟨rfl, hd⟩; have HD := Lib.hid (HD.out.trans (hd.mono HD.out.size)); clear hd))
   go_ret
   exact ⟨rfl, HK.out.trans (HD.out.mono HK.out.size)⟩
 cases cb
 · have _ := H3
   go_wp2_with (first
    | ((with_reducible show wpList _ _ _ (Oper.mk _ (.load 52 _) _ _ _ _ :: _) _ _); refine wl_execG (by kernel_rfl) (exec_load_at 52 _ rfl _ _ rfl _ (run_load_spl HKC.out Tryz.underlying52 rfl info_key)) ?_)
    | ((with_reducible show wpList _ _ _ (Oper.mk _ (.load 63 _) _ _ _ _ :: _) _ _); refine wl_load rfl 63 _ rfl _ rfl _ (run_load_arr (HA.out.under HD.out) Tryz.underlying63 rfl infoGu) ?_)
    | (go_at_call 142; refine (H1.out _).mono ?_; rintro e w1 ⟨rfl, rfl⟩)
    | (go_at_call 143; refine (H2.out _).mono ?_; rintro e w2 ⟨rfl, hd⟩; have y75 : w2.cell? ⟨w.heap.size, 75, none⟩ = _ := (hd.cell (World.block_lt_of_cell? V _ HY1.out)).trans HY1.out; have y77 : w2.cell? ⟨w.heap.size, 77, none⟩ = _ := (hd.cell (World.block_lt_of_cell? V _ HY3.out)).trans HY3.out; have HD := Lib.hid hd; clear hd)
    | (go_at_call 144; refine (H3.out _ HD.out).mono ?_; rintro e w3 ⟨rfl, hd⟩; have y75 : w3.cell? ⟨w.heap.size, 75, none⟩ = _ := (hd.cell (World.block_lt_of_cell? _ _ y75)).trans y75; have y77 : w3.cell? ⟨w.heap.size, 77, none⟩ = _ := (hd.cell (World.block_lt_of_cell? _ _ y77)).trans y77; have HD := Lib.hid (HD.out.trans (hd.mono HD.out.size)); clear hd)
    | (go_at_call 76; refine (H4.out _ HD.out).mono ?_; rintro e w4 ⟨rfl, hd⟩; have y77 : w4.cell? ⟨w.heap.size, 77, none⟩ = _ := (hd.cell (World.block_lt_of_cell? _ _ y77)).trans y77; have HD := Lib.hid (HD.out.trans (hd.mono HD.out.size)); clear hd)
    | (go_at_call 87; refine (H5.out _ HD.out).mono ?_; rintro e w5 ⟨rfl, hd⟩; have HD := Lib.hid (HD.out.trans (hd.mono HD.out.size)); clear hd))
   go_ret
   exact ⟨rfl, HK.out.trans (HD.out.mono HK.out.size)⟩
 cases wb
 rotate_left
 · have _ := H4
   go_wp2_with (first
    | ((with_reducible show wpList _ _ _ (Oper.mk _ (.load 52 _) _ _ _ _ :: _) _ _); refine wl_execG (by kernel_rfl) (exec_load_at 52 _ rfl _ _ rfl _ (run_load_spl HKC.out Tryz.underlying52 rfl info_key)) ?_)
    | ((with_reducible show wpList _ _ _ (Oper.mk _ (.load 63 _) _ _ _ _ :: _) _ _); refine wl_load rfl 63 _ rfl _ rfl _ (run_load_arr (HA.out.under HD.out) Tryz.underlying63 rfl infoGu) ?_)
    | (go_at_call 142; refine (H1.out _).mono ?_; rintro e w1 ⟨rfl, rfl⟩)
    | (go_at_call 143; refine (H2.out _).mono ?_; rintro e w2 ⟨rfl, hd⟩; have y75 : w2.cell? ⟨w.heap.size, 75, none⟩ = _ := (hd.cell (World.block_lt_of_cell? V _ HY1.out)).trans HY1.out; have y77 : w2.cell? ⟨w.heap.size, 77, none⟩ = _ := (hd.cell (World.block_lt_of_cell? V _ HY3.out)).trans HY3.out; have HD := Lib.hid hd; clear hd)
    | (go_at_call 144; refine (H3.out _ HD.out).mono ?_; rintro e w3 ⟨rfl, hd⟩; have y75 : w3.cell? ⟨w.heap.size, 75, none⟩ = _ := (hd.cell (World.block_lt_of_cell? _ _ y75)).trans y75; have y77 : w3.cell? ⟨w.heap.size, 77, none⟩ = _ := (hd.cell (World.block_lt_of_cell? _ _ y77)).trans y77; have HD := Lib.hid (HD.out.trans (hd.mono HD.out.size)); clear hd)
    | (go_at_call 76; refine (H4.out _ HD.out).mono ?_; rintro e w4 ⟨rfl, hd⟩; have y77 : w4.cell? ⟨w.heap.size, 77, none⟩ = _ := (hd.cell (World.block_lt_of_cell? _ _ y77)).trans y77; have HD := Lib.hid (HD.out.trans (hd.mono HD.out.size)); clear hd)
    | (go_at_call 87; refine (H5.out _ HD.out).mono ?_; rintro e w5 ⟨rfl, hd⟩; have HD := Lib.hid (HD.out.trans (hd.mono HD.out.size)); clear hd))
   go_ret
   exact ⟨rfl, HK.out.trans (HD.out.mono HK.out.size)⟩
 cases ib
 · have _ := H5
   go_wp2_with (first
    | ((with_reducible show wpList _ _ _ (Oper.mk _ (.load 52 _) _ _ _ _ :: _) _ _); refine wl_execG (by kernel_rfl) (exec_load_at 52 _ rfl _ _ rfl _ (run_load_spl HKC.out Tryz.underlying52 rfl info_key)) ?_)
    | ((with_reducible show wpList _ _ _ (Oper.mk _ (.load 63 _) _ _ _ _ :: _) _ _); refine wl_load rfl 63 _ rfl _ rfl _ (run_load_arr (HA.out.under HD.out) Tryz.underlying63 rfl infoGu) ?_)
    | (go_at_call 142; refine (H1.out _).mono ?_; rintro e w1 ⟨rfl, rfl⟩)
    | (go_at_call 143; refine (H2.out _).mono ?_; rintro e w2 ⟨rfl, hd⟩; have y75 : w2.cell? ⟨w.heap.size, 75, none⟩ = _ := (hd.cell (World.block_lt_of_cell? V _ HY1.out)).trans HY1.out; have y77 : w2.cell? ⟨w.heap.size, 77, none⟩ = _ := (hd.cell (World.block_lt_of_cell? V _ HY3.out)).trans HY3.out; have HD := Lib.hid hd; clear hd)
    | (go_at_call 144; refine (H3.out _ HD.out).mono ?_; rintro e w3 ⟨rfl, hd⟩; have y75 : w3.cell? ⟨w.heap.size, 75, none⟩ = _ := (hd.cell (World.block_lt_of_cell? _ _ y75)).trans y75; have y77 : w3.cell? ⟨w.heap.size, 77, none⟩ = _ := (hd.cell (World.block_lt_of_cell? _ _ y77)).trans y77; have HD := Lib.hid (HD.out.trans (hd.mono HD.out.size)); clear hd)
    | (go_at_call 76; refine (H4.out _ HD.out).mono ?_; rintro e w4 ⟨rfl, hd⟩; have y77 : w4.cell? ⟨w.heap.size, 77, none⟩ = _ := (hd.cell (World.block_lt_of_cell? _ _ y77)).trans y77; have HD := Lib.hid (HD.out.trans (hd.mono HD.out.size)); clear hd)
    | (go_at_call 87; refine (H5.out _ HD.out).mono ?_; rintro e w5 ⟨rfl, hd⟩; have HD := Lib.hid (HD.out.trans (hd.mono HD.out.size)); clear hd))
   go_ret
   exact ⟨rfl, HK.out.trans (HD.out.mono HK.out.size)⟩
 · have _ := H5
   go_wp2_with (first
    | ((with_reducible show wpList _ _ _ (Oper.mk _ (.load 52 _) _ _ _ _ :: _) _ _); refine wl_execG (by kernel_rfl) (exec_load_at 52 _ rfl _ _ rfl _ (run_load_spl HKC.out Tryz.underlying52 rfl info_key)) ?_)
    | ((with_reducible show wpList _ _ _ (Oper.mk _ (.load 63 _) _ _ _ _ :: _) _ _); refine wl_load rfl 63 _ rfl _ rfl _ (run_load_arr (HA.out.under HD.out) Tryz.underlying63 rfl infoGu) ?_)
    | (go_at_call 142; refine (H1.out _).mono ?_; rintro e w1 ⟨rfl, rfl⟩)
    | (go_at_call 143; refine (H2.out _).mono ?_; rintro e w2 ⟨rfl, hd⟩; have y75 : w2.cell? ⟨w.heap.size, 75, none⟩ = _ := (hd.cell (World.block_lt_of_cell? V _ HY1.out)).trans HY1.out; have y77 : w2.cell? ⟨w.heap.size, 77, none⟩ = _ := (hd.cell (World.block_lt_of_cell? V _ HY3.out)).trans HY3.out; have HD := Lib.hid hd; clear hd)
    | (go_at_call 144; refine (H3.out _ HD.out).mono ?_; rintro e w3 ⟨rfl, hd⟩; have y75 : w3.cell? ⟨w.heap.size, 75, none⟩ = _ := (hd.cell (World.block_lt_of_cell? _ _ y75)).trans y75; have y77 : w3.cell? ⟨w.heap.size, 77, none⟩ = _ := (hd.cell (World.block_lt_of_cell? _ _ y77)).trans y77; have HD := Lib.hid (HD.out.trans (hd.mono HD.out.size)); clear hd)
    | (go_at_call 76; refine (H4.out _ HD.out).mono ?_; rintro e w4 ⟨rfl, hd⟩; have y77 : w4.cell? ⟨w.heap.size, 77, none⟩ = _ := (hd.cell (World.block_lt_of_cell? _ _ y77)).trans y77; have HD := Lib.hid (HD.out.trans (hd.mono HD.out.size)); clear hd)
    | (go_at_call 87; refine (H5.out _ HD.out).mono ?_; rintro e w5 ⟨rfl, hd⟩; have HD := Lib.hid (HD.out.trans (hd.mono HD.out.size)); clear hd))
   go_ret
   exact ⟨rfl, HK.out.trans (HD.out.mono HK.out.size)⟩
end Go.Proofs.YtkaipknkjocfiaaGreat
namespace Go.Proofs.YtkaipknkjocfiaaGreat
open Go.RowKit
attribute [local go_sem ↓ high] zeroGu
theorem errL_snoc {α : Type} (e : α → Nat) : ∀ (l : List α) (k : Nat) (h : k < l.length), errL e (l.take k) = 0 → e l[k] = 0 → errL e (l.take (k + 1)) = 0
 | [], _, h, _, _ => by cases h
 | x :: xs, 0, _, _, h2 => by
  show (if e x = 0 then errL e (xs.take 0) else e x) = 0
  have h2 : e x = 0 := h2
  rw [if_pos h2]; rfl
 | x :: xs, k + 1, h, h1, h2 => by
  have h1 : (if e x = 0 then errL e (xs.take k) else e x) = 0 := h1
  show (if e x = 0 then errL e (xs.take (k + 1)) else e x) = 0
  by_cases hx : e x = 0
  · rw [if_pos hx] at h1 ⊢
    exact errL_snoc e xs k (by simpa using h) h1 h2
  · rw [if_neg hx] at h1; exact absurd h1 hx
theorem errL_at {α : Type} (e : α → Nat) : ∀ (l : List α) (k : Nat) (h : k < l.length), errL e (l.take k) = 0 → e l[k] ≠ 0 → errL e l = e l[k]
 | [], _, h, _, _ => by cases h
 | x :: xs, 0, _, _, h2 => by
  have h2 : e x ≠ 0 := h2
  show (if e x = 0 then errL e xs else e x) = e x
  rw [if_neg h2]
 | x :: xs, k + 1, h, h1, h2 => by
  have h1 : (if e x = 0 then errL e (xs.take k) else e x) = 0 := h1
  show (if e x = 0 then errL e xs else e x) = e (xs[k]'(by simpa using h))
  by_cases hx : e x = 0
  · rw [if_pos hx] at h1 ⊢
    exact errL_at e xs k (by simpa using h) h1 h2
  · rw [if_neg hx] at h1; exact absurd h1 hx
theorem errL_map {α β : Type} (f : α → β) (e : β → Nat) : ∀ l : List α, errL e (l.map f) = errL (fun x => e (f x)) l
 | [] => rfl
 | x :: xs => by
  show (if e (f x) = 0 then errL e (xs.map f) else e (f x)) = (if e (f x) = 0 then errL (fun x => e (f x)) xs else e (f x))
  rw [errL_map f e xs]
def NmK (c : Cf) : Prop := ∀ g ∈ c.gs, g.key.length = 68 ∧ g.name.length ≤ 1000000
def errY (y : GV) : Nat := errG y.g
set_option maxHeartbeats 8000000 in
set_option maxRecDepth 100000 in
theorem refused_any (x : Cf) (a c : Value) (w : World) (hx : CfR w w.heap.size x a c) (hnk : NmK x) : Calls Tryz.prog 71 #[cfVal x a c] w (NumB (errC x) w) := by
 obtain ⟨V, hV⟩ : ∃ V, V = w.alloc (.cells (vec 3 (cfE x.ver a c)) 31) := ⟨_, rfl⟩
 have k1 : Arr V w.heap.size 31 3 (cfE x.ver a c) := by rw [hV]; exact Arr.new w _ _ _
 have hB : Below w.heap.size w V := by rw [hV]; exact (Below.refl _ _).alloc (Nat.le_refl _) _
 obtain ⟨x0, x1, x2⟩ := cf_cells k1
 obtain ⟨⟨A, d, ys, rfl, hm, hr, hl⟩, ⟨A2, d2, rfl, hr2, hl2⟩⟩ := hx.up hB
 have hlen : x.gs.length = ys.length := by rw [← hm, List.length_map]
 obtain ⟨G, hG⟩ : ∃ G, G = errC x := ⟨_, rfl⟩
 have hnk2 : ∀ y ∈ ys, y.g.key.length = 68 ∧ y.g.name.length ≤ 1000000 := fun y hy => hnk _ (by rw [← hm]; exact List.mem_map_of_mem hy)
 have hE : errL errG x.gs = errL errY ys := by rw [← hm, errL_map]; rfl
 have HGF : Hid (G = if (inB x.gs.length 1 16 && inB x.chs.length 0 32) = false then 142 else if errL errY ys = 0 then e144 (x.chs.any badCh) else errL errY ys) := Lib.hid (by rw [hG, ← hE]; rfl)
 rw [← hG]
 have HCH := Lib.hid (fun W (h : Below V.heap.size V W) => contains_ch x.chs A2 d2 W hl2 (hr2.up h))
 obtain ⟨cb, hcb⟩ : ∃ b, b = x.chs.any badCh := ⟨_, rfl⟩
 rw [← hcb] at HGF HCH
 unfold cfVal NumB
 obtain ⟨N, hN⟩ : ∃ N, N = x.gs.length := ⟨_, rfl⟩
 obtain ⟨M, hM⟩ : ∃ M, M = x.chs.length := ⟨_, rfl⟩
 rw [← hN] at x1 hl hV HGF ⊢
 rw [← hM] at x2 hl2 hV HGF HCH ⊢
 have HNL : Hid (N = ys.length) := Lib.hid (by rw [hN, hlen])
 have HR := Lib.hid hr
 have HNK := Lib.hid hnk2
 have HK := Lib.hid hB
 have HW := Lib.hid hV
 have H1 := Lib.hid (fun W => guestsFit_any (N : Int) W)
 have H2 := Lib.hid (fun W => channelsFit_any (M : Int) W)
 have hc := or2 (!inB (N : Int) 1 16) (!inB (M : Int) 0 32)
 obtain ⟨b1, r1⟩ : ∃ b, b = inB (N : Int) 1 16 := ⟨_, rfl⟩
 obtain ⟨b2, r2⟩ : ∃ b, b = inB (M : Int) 0 32 := ⟨_, rfl⟩
 rw [← r1] at H1 HGF
 rw [← r2] at H2 HGF
 clear hV k1 hB hr hr2 hx hm hlen hG hN hM r1 r2 hc hnk hnk2 hE hcb
 go_enter Tryz.func71, Tryz.ntmps71
 go_upto_region 1 with fail
 rw [← HW.out]
 clear HW
 cases b1
 · have HF : Hid (G = 142) := Lib.hid (by rw [HGF.out]; rfl)
   go_wp2_with (go_at_call 107; refine (H1.out _).mono ?_; rintro e w1 ⟨rfl, rfl⟩)
   go_ret
   exact ⟨by rw [HF.out]; rfl, HK.out⟩
 cases b2
 · have HF : Hid (G = 142) := Lib.hid (by rw [HGF.out]; rfl)
   go_wp2_with (first | (go_at_call 107; refine (H1.out _).mono ?_; rintro e w1 ⟨rfl, rfl⟩) | (go_at_call 108; refine (H2.out _).mono ?_; rintro e w2 ⟨rfl, rfl⟩))
   go_ret
   exact ⟨by rw [HF.out]; rfl, HK.out⟩
 have HGA : Hid (G = if errL errY ys = 0 then e144 cb else errL errY ys) := Lib.hid (by rw [HGF.out]; rfl)
 clear HGF
 go_upto_region 3 with (first | (go_at_call 107; refine (H1.out _).mono ?_; rintro e w1 ⟨rfl, rfl⟩) | (go_at_call 108; refine (H2.out _).mono ?_; rintro e w2 ⟨rfl, rfl⟩))
 have HX2 := Lib.hid x2
 have HX1 := Lib.hid x1
 clear x2 H1 H2
 go_wp2_with fail
 go_loopw [4, 5, 21] (fun _ _ v W => ∃ k : Nat, k ≤ N ∧ v = .int .i64 k ∧ Hid (errL errY (ys.take k) = 0) ∧ Hid (Below V.heap.size V W)) (fun _ _ i _ => N - (intOf i).toNat)
 case atStart => exact ⟨0, Nat.zero_le _, rfl, Lib.hid rfl, Lib.hid (Below.refl _ _)⟩
 case round =>
   obtain ⟨k, hk, rfl, HP0, HB⟩ := hrel
   obtain ⟨W, hW⟩ : ∃ W : World, W = wr := ⟨_, rfl⟩
   subst hW
   by_cases hlt0 : k < N
   · have hlt : k < ys.length := by have := HNL.out; omega
     have g1 := HR.out.up HB.out
     obtain ⟨a, p, rfl, hp, -, hcp⟩ := g1.row.at hlt
     obtain ⟨y, hy⟩ : ∃ y, y = ys[k] := ⟨_, rfl⟩
     rw [← hy] at hcp
     have ry : GRow W W.heap.size y := by rw [hy]; exact g1.all _ (List.getElem_mem _)
     have hyk := HNK.out ys[k] (List.getElem_mem _)
     rw [← hy] at hyk
     have HNO : Hid (errY y ≠ 0 → G = errY y) := Lib.hid (fun h => by
       have := errL_at errY ys k hlt HP0.out (by rw [← hy]; exact h)
       rw [← hy] at this
       rw [HGA.out, this, if_neg h])
     have HYES : Hid (errY y = 0 → errL errY (ys.take (k + 1)) = 0) := Lib.hid (fun h => errL_snoc _ _ _ hlt HP0.out (by rw [← hy]; exact h))
     have h1 := ry.one
     have hki : (k : Int) < (N : Int) := by omega
     obtain ⟨X, hX⟩ : ∃ X, X = (W.alloc (.cells (vec 79 (guestE zGV)) 63)).setRow W.heap.size (vec 79 (guestE y)) := ⟨_, rfl⟩
     have b1 : Below W.heap.size W X := by rw [hX]; exact below_row ((Below.refl _ _).alloc (Nat.le_refl _) _) (Nat.le_refl _) _
     have a1 : Arr X W.heap.size 63 79 (guestE y) := by rw [hX]; exact (Arr.new W _ _ _).row _
     have HBX := Lib.hid (HB.out.trans (b1.mono HB.out.size))
     have HCP := Lib.hid hcp
     have HX := Lib.hid hX
     have HA := Lib.hid a1
     have HRG := Lib.hid (refusedGuest_any y X ((ry.below b1).wide b1.size) hyk.1 hyk.2)
     have HG1 := Lib.hid h1
     obtain ⟨n, hn⟩ : ∃ n, n = errY y := ⟨_, rfl⟩
     rw [← hn] at HNO HYES
     rw [show errG y.g = n from hn.symm] at HRG
     clear g1 hcp ry hy hlt h1 hX b1 a1 hyk hn
     go_upto_region 6 with (first
       | ((with_reducible show wpList _ _ _ (Oper.mk _ (.load _ _) _ _ _ _ :: _) _ _); refine wl_load_q rfl 63 _ rfl p rfl _ (run_load_q HCP.out Tryz.underlying63 rfl infoGu) ?_)
       | ((with_reducible show wpList _ _ _ (Oper.mk _ (.store _ _ _) _ _ _ _ :: _) _ _); refine wl_store rfl 63 _ _ rfl _ rfl _ rfl (run_store_arr (Arr.new W _ _ _) (guestE y) infoGu (guestE_one _ HG1.out _)) ?_))
     rw [← HX.out]
     clear HX HCP
     by_cases hn : n = 0
     · subst hn
       have HS := Lib.hid (HYES.out rfl)
       clear HYES HNO
       go_wp2_with (first
        | ((with_reducible show wpList _ _ _ (Oper.mk _ (.load _ _) _ _ _ _ :: _) _ _); refine wl_load rfl 63 _ rfl _ rfl _ (run_load_arr HA.out Tryz.underlying63 rfl infoGu) ?_)
        | (go_at_call 109; refine HRG.out.mono ?_; rintro e w1 ⟨rfl, hd⟩; have HD := Lib.hid hd; clear hd))
       go_roundw
       case rel => exact ⟨k + 1, by omega, by go_num, HS, Lib.hid (HBX.out.trans (HD.out.mono HBX.out.size))⟩
       case measure => simp [intOf]; omega
     · have HF := Lib.hid (HNO.out hn)
       have n1 : ((n : Int) != 0) = true := bne_iff_ne.2 (by omega)
       have n2 : ¬ (n : Int) = 0 := by omega
       clear HYES HNO hn
       go_wp2_with (first
        | ((with_reducible show wpList _ _ _ (Oper.mk _ (.load _ _) _ _ _ _ :: _) _ _); refine wl_load rfl 63 _ rfl _ rfl _ (run_load_arr HA.out Tryz.underlying63 rfl infoGu) ?_)
        | (go_at_call 109; refine HRG.out.mono ?_; rintro e w1 ⟨rfl, hd⟩; have HD := Lib.hid hd; clear hd))
       go_ret
       exact ⟨by rw [HF.out]; rfl, HK.out.trans ((HBX.out.trans (HD.out.mono HBX.out.size)).mono HK.out.size)⟩
   · obtain rfl : k = N := by omega
     have HF : Hid (G = e144 cb) := Lib.hid (by
       have h := HP0.out
       rw [HNL.out, List.take_length] at h
       rw [HGA.out, h, if_pos rfl])
     have x2 : W.cell? ⟨w.heap.size, 2, none⟩ = _ := (HB.out.cell (World.block_lt_of_cell? V _ HX2.out)).trans HX2.out
     clear hlt0
     cases cb
     · go_wp2_with (go_at_call 110; refine (HCH.out _ HB.out).mono ?_; rintro e w1 ⟨rfl, hd⟩; have HD := Lib.hid hd; clear hd)
       go_ret
       exact ⟨by rw [HF.out]; rfl, HK.out.trans ((HB.out.trans (HD.out.mono HB.out.size)).mono HK.out.size)⟩
     · go_wp2_with (go_at_call 110; refine (HCH.out _ HB.out).mono ?_; rintro e w1 ⟨rfl, hd⟩; have HD := Lib.hid hd; clear hd)
       go_ret
       exact ⟨by rw [HF.out]; rfl, HK.out.trans ((HB.out.trans (HD.out.mono HB.out.size)).mono HK.out.size)⟩
end Go.Proofs.YtkaipknkjocfiaaGreat
