/- The reference's Msg. -/
import Derived.Test.YtfeiplaiekbdkaaGreatDoorPrf
namespace Go.Proofs.YtfeiplaiekbdkaaGreatDoor
open Go.RowKit
attribute [local go_sem ↓ high] zeroV26

set_option maxHeartbeats 1000000 in
set_option maxRecDepth 100000 in
theorem rmsg_any (r root : Nat → UInt8) (idx : Nat) (hi : idx < 4294967296) (A : Option Addr) (c : Nat) (l : List UInt8) (w : World) (hli : Lies w w.heap.size 1 A l.length (u8s l)) (hl : l.length ≤ 100000000) :
    Calls Tryz.prog 20 #[.agg (vec 32 (bys r)), .agg (vec 32 (bys root)), .int .u32 (idx : Int), .slice A l.length c] w fun e w' => e = .returned (.agg (vec 32 (bys (msgF r root idx l)))) ∧ Below w.heap.size w w' := by
  obtain ⟨V, hV⟩ : ∃ V, V = ((w.alloc (.cells (vec 32 (bys r)) 30)).alloc (.cells (vec 32 (bys root)) 30)).alloc (.cells (vec 32 (bys zb)) 30) := ⟨_, rfl⟩
  have hA0 : Arr V w.heap.size 30 32 (bys r) := by rw [hV]; exact (((Arr.newAt _ _ _ _ (by simp)).alloc _).alloc _)
  have hA1 : Arr V (w.heap.size + 1) 30 32 (bys root) := by rw [hV]; exact ((Arr.newAt _ _ _ _ (by simp)).alloc _)
  have hA2 : Arr V (w.heap.size + 2) 30 32 (bys zb) := by rw [hV]; exact (Arr.newAt _ _ _ _ (by simp))
  have hB : Below w.heap.size w V := by rw [hV]; exact ((((Below.refl _ _).alloc (by simp <;> omega) _).alloc (by simp <;> omega) _).alloc (by simp <;> omega) _)
  have hsz : V.heap.size = w.heap.size + 3 := by rw [hV]; simp
  obtain ⟨i0, hin, hz0, hz1, hz2⟩ := info_parts u8_info
  have Hi := Lib.hid (And.intro hin (And.intro hz0 (And.intro hz1 hz2)))
  obtain ⟨f, hf⟩ : ∃ f, f = msgF r root idx l := ⟨_, rfl⟩
  have HF := Lib.hid hf
  rw [← hf]
  have HL := Lib.hid (And.intro (hli.below hB) hl)
  clear hin hz0 hz1 hz2 hf hli hl
  have HA := Lib.hid hB
  have HA0 := Lib.hid hA0
  have HA1 := Lib.hid hA1
  have HA2 := Lib.hid hA2
  have HW := Lib.hid hV
  clear hV hB hsz hA0 hA1 hA2
  go_enter Tryz.func20, Tryz.ntmps20
  go_upto_region 1 with fail
  rw [← HW.out]
  clear HW
  refine wp_region_held_drew (S := fun Y => SR V (w.heap.size + 2) Y) (by kernel_rfl) (SR.begin HA2.out) (fun hS => ?_)
  (refine held_take (i := 0) (oi := ?ot20) (v := ?vt20) ?at20 (by kernel_rfl) (by kernel_rfl) (by kernel_rfl) ?bt20 ?ct20 ?dt20 (by assumption) ?rt20; (case at20 => (simp only [List.getElem?_toArray, List.getElem?_cons_zero]; rfl)); (case bt20 => exact fun _ _ _ h => h); (case ct20 => kernel_rfl); (case dt20 => (intro W hW; (try dsimp only at hW); go_split_ands; go_simp; (try with_reducible rfl))); (case' rt20 => simp only [Act.put, List.setIfInBounds_toArray, List.set_cons_zero, List.set_cons_succ]))
  (refine held_take (i := 2) (oi := ?ot21) (v := ?vt21) ?at21 (by kernel_rfl) (by kernel_rfl) (by kernel_rfl) ?bt21 ?ct21 ?dt21 (by assumption) ?rt21; (case at21 => (simp only [List.getElem?_toArray, List.getElem?_cons_zero, List.getElem?_cons_succ]; rfl)); (case bt21 => exact fun _ _ _ h => h); (case ct21 => kernel_rfl); (case dt21 => (intro W hW; (try dsimp only at hW); go_split_ands; go_simp; (try with_reducible rfl))); (case' rt21 => simp only [Act.put, List.setIfInBounds_toArray, List.set_cons_zero, List.set_cons_succ]))
  refine held_one (i := 1) (oi := ?ot22) (by kernel_rfl) ?at22 ?ct22 (fun K1 hK1 => ?_)
  (case at22 => (simp only [List.getElem?_toArray, List.getElem?_cons_zero, List.getElem?_cons_succ]; rfl))
  (case ct22 => kernel_rfl)
  have hSb := hS
  obtain ⟨v1, y1, hr1, hown1, hd1⟩ := app_node (base := V.heap.size) (xs := []) (World.ownsRow_nil _ _ _ _) (hSb.arr HA0.out (by omega)) (by decide) hSb.size 22
  refine Lib.wp_append_run _ _ _ _ _ rfl _ _ rfl rfl _ _ hr1 ?_
  refine hK1 _ _ (hSb.keepB hd1) (fun hS1 => ?_)
  clear hK1 K1 hr1
  have hw1 := Lib.hid hown1
  clear hown1 hd1
  refine held_one (i := 3) (oi := ?ot23) (by kernel_rfl) ?at23 ?ct23 (fun K3 hK3 => ?_)
  (case at23 => (simp only [List.getElem?_toArray, List.getElem?_cons_zero, List.getElem?_cons_succ]; rfl))
  (case ct23 => kernel_rfl)
  have hSb := hS1
  obtain ⟨v3, y3, hr3, hown3, hd3⟩ := app_node (base := V.heap.size) (xs := [] ++ nodeL r) (hw1.out) (hSb.arr HA1.out (by omega)) (by decide) hSb.size 22
  refine Lib.wp_append_run _ _ _ _ _ rfl _ _ rfl rfl _ _ hr3 ?_
  refine hK3 _ _ (hSb.keepB hd3) (fun hS3 => ?_)
  clear hK3 K3 hr3
  have hw3 := Lib.hid hown3
  clear hown3 hd3
  (refine held_take (i := 4) (oi := ?ot24) (v := ?vt24) ?at24 (by kernel_rfl) (by kernel_rfl) (by kernel_rfl) ?bt24 ?ct24 ?dt24 (by assumption) ?rt24; (case at24 => (simp only [List.getElem?_toArray, List.getElem?_cons_zero, List.getElem?_cons_succ]; rfl)); (case bt24 => exact fun _ _ _ h => h); (case ct24 => kernel_rfl); (case dt24 => (intro W hW; (try dsimp only at hW); go_split_ands; go_simp; (try with_reducible rfl))); (case' rt24 => simp only [Act.put, List.setIfInBounds_toArray, List.set_cons_zero, List.set_cons_succ]))
  refine wpAnyH_done (by kernel_rfl) ?_ _
  have hSc := hS3
  obtain ⟨v4, y4, hrz, hown4, hg4⟩ := run_app_zeros (P := Tryz.prog) V.heap.size 22 3 22 5 i0 (.int .u8 0) .i64 1 Tryz.underlying22 Tryz.underlying3 Hi.out.1 Hi.out.2.1 Hi.out.2.2.1 Hi.out.2.2.2 rfl rfl v3 _ _ hw3.out 28 (by decide) (by decide) (by decide) hSc.size
  have hS4 : SR V (w.heap.size + 2) y4 := hSc.keepB ((Below.refl _ _).grown hg4 hSc.size (fun k hk => (hw3.out.lt k hk).1))
  rw [show List.replicate 28 (Value.int .u8 0) = u8s (zerosL 28) by rfl, u8s_append] at hown4
  obtain ⟨E4, c4, rfl, hli4⟩ := owns_form hown4
  obtain ⟨L4, hL4⟩ : ∃ L4, L4 = [] ++ nodeL r ++ nodeL root ++ zerosL 28 := ⟨_, rfl⟩
  have hlen4 : L4.length = 92 := by rw [hL4]; simp [nodeL_length, zerosL]
  rw [← hL4] at hown4 hli4
  obtain ⟨L5, hL5⟩ : ∃ L5, L5 = L4 ++ numBytes 0 4 idx := ⟨_, rfl⟩
  have hlen5 : L5.length = 96 := by rw [hL5, List.length_append, numBytes_length, hlen4]
  have hput := rp4 L4 L5 idx (Lib.hid hL5) E4 c4 y4 (by rw [hlen4]; exact hli4) (by omega)
  rw [hlen4] at hput
  have HPut := Lib.hid hput
  have HR := Lib.hid hrz
  have hLL : shaL (wideL 2 ++ (L5 ++ l)) = f := by rw [HF.out, hL5, hL4]; simp [msgF, wideL]
  have HLL := Lib.hid (And.intro hLL hlen5)
  have H4 := Lib.hid hS4
  clear hrz hg4 hown4 hli4 hL4 hlen4 hL5 hlen5 hput hLL hS4
  go_upto_region 3 with (first
    | (at_builtin; refine Lib.wpList_append_run _ rfl _ _ _ _ rfl _ _ rfl rfl _ _ HR.out ?_)
    | (go_at_call 48
       refine HPut.out.mono ?_
       rintro e y5 ⟨v5, rfl, hv5, hd5⟩
       rw [HLL.out.2] at hv5
       have H5 := Lib.hid (And.intro (owns_mono hv5 H4.out.size) (H4.out.keep hd5))
       clear hv5 hd5))
  obtain ⟨hi0, hz0, hz1, hz2⟩ := Hi.out
  go_wp2_with (first
    | (at_builtin
       refine wpList_app rfl (.tmp 19) (.tmp 20) 22 rfl V.heap.size 5 i0 (.int .u8 0) 1 Tryz.underlying22 hi0 hz0 hz1 hz2 rfl _ _ _ rfl H5.out.1 y5.heap.size _ _ _ (u8s l) rfl
         (H5.out.2.lies HL.out.1 (by omega)) (u8s_one _) (by have := HL.out.2; unfold maxLen; omega) (by have := HL.out.2; omega) H5.out.2.size ?_
       intro v' y6 h1 h2 h3
       rw [u8s_append] at h1
       have hS6 : SR V (w.heap.size + 2) y6 := H5.out.2.keepB ((Below.refl _ _).grown h2 H5.out.2.size (fun k hk => (H5.out.1.lt k hk).1))
       obtain ⟨E6, c6, rfl, hl6⟩ := owns_form h1
       have hk := rkeyed_any 2 (by decide) (L5 ++ l) (96 + l.length) (by rw [List.length_append, HLL.out.2]) E6 c6 y6 hl6 (by have := HL.out.2; omega)
       rw [HLL.out.1] at hk
       have H6 := Lib.hid (And.intro hk hS6)
       clear h1 h2 h3 hS6 hl6 hk)
    | (go_at_call 49
       refine H6.out.1.mono ?_
       rintro e y7 ⟨rfl, hd⟩
       obtain ⟨f7, hf7⟩ := (H6.out.2.keep hd).res
       have H7 := Lib.hid (And.intro hf7 ((H6.out.2.keep hd).below HA.out (by omega)))
       clear hd hf7)
    | ((with_reducible show wpList _ _ _ (Oper.mk _ (.store _ _ _) _ _ _ _ :: _) _ _); refine wl_store rfl 30 _ _ rfl _ rfl _ rfl (run_store_arr H7.out.1 (bys f) info26 (bys_one _ _)) ?_))
  refine bodyPost_ret (results_cell1 rfl _ _ _ rfl (run_load_arr (H7.out.1.row _) Tryz.underlying30 rfl info26)) rfl ⟨rfl, ?_⟩
  exact below_row H7.out.2 (by omega) _
end Go.Proofs.YtfeiplaiekbdkaaGreatDoor
