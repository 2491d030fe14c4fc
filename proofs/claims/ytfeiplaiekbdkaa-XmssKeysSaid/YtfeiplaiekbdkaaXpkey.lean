/- PutKey; the reference's PutKey. -/
import Derived.Test.YtfeiplaiekbdkaaXkey
import Derived.Test.YtfeiplaiekbdkaaXbld
import Derived.Test.YtfeiplaiekbdkaaRPut
namespace Go.Proofs.Ytfeiplaiekbdkaa
open Go.RowKit
attribute [local go_sem ↓ high] zeroV26 zeroKey

theorem rput_one (n : Nat) (w : World) : Calls Try.prog 27 #[.slice none 0 0, .int .u64 (n : Int), .int .i64 4, .bool false] w (Bytes w (numBytes 0 4 n)) :=
  rput_any [] n 4 (by decide) none 0 w.heap.size false w (Nat.le_refl _) (Lies.nil _ _ _ _) (by decide)
theorem lies_root {w : World} {g B : Nat} {t : TypeId} {oid : Int} {root seed : Nd} (h : Arr w g t 65 (keyF oid root seed)) (hg : g < B) (hB : B ≤ w.heap.size) : Lies w w.heap.size 1 (some ⟨g, 1, none⟩) 32 (u8s (nodeL root)) := by
  have hl := h.lies (B := w.heap.size) (by omega) 1 32 (by decide)
  rw [u8s_nodeL]
  have e : ((List.range 32).map fun i => bys root (0 + i)) = (List.range 32).map fun i => keyF oid root seed (1 + i) := List.map_congr_left fun i hi => by rw [keyF_root _ _ _ _ (List.mem_range.1 hi), Nat.zero_add]
  rw [e]; exact hl
theorem lies_seed {w : World} {g B : Nat} {t : TypeId} {oid : Int} {root seed : Nd} (h : Arr w g t 65 (keyF oid root seed)) (hg : g < B) (hB : B ≤ w.heap.size) : Lies w w.heap.size 1 (some ⟨g, 33, none⟩) 32 (u8s (nodeL seed)) := by
  have hl := h.lies (B := w.heap.size) (by omega) 33 32 (by decide)
  rw [u8s_nodeL]
  have e : ((List.range 32).map fun i => bys seed (0 + i)) = (List.range 32).map fun i => keyF oid root seed (33 + i) := List.map_congr_left fun i hi => by rw [keyF_seed, Nat.zero_add]
  rw [e]; exact hl
theorem app_at {w : World} {base : Nat} {v : Value} {xs : List UInt8} {A : Option Addr} {c : Nat} {f : Nd} (hown : w.ownsRow base 5 1 v xs.length (u8s xs)) (hli : Lies w w.heap.size 1 A 32 (u8s (nodeL f))) (hn : xs.length ≤ 1000000000) (hb : base ≤ w.heap.size) (ty : TypeId) :
    ∃ v' w', (Builtin.append_ #[27, 27] ty #[v, .slice A 32 c]).run Try.prog w = .ok v' w' ∧ w'.ownsRow base 5 1 v' (xs ++ nodeL f).length (u8s (xs ++ nodeL f)) ∧ Below base w w' := by
  obtain ⟨i0, hi, hz0, hz1, hz2⟩ := info_parts u8_info
  obtain ⟨v', w', hr, h2, h3, _⟩ := run_app (P := Try.prog) base 27 ty 5 i0 (.int .u8 0) 1 Try.underlying27 hi hz0 hz1 hz2 rfl v xs.length (u8s xs) hown w.heap.size A 32 c (u8s (nodeL f)) hli (u8s_one _) (by unfold maxLen; omega) (by omega) hb
  rw [u8s_append] at h2
  exact ⟨v', w', hr, by rw [List.length_append, nodeL_length]; exact h2, (Below.refl _ _).grown h3 hb (fun k hk => (hown.lt k hk).1)⟩
/-- What PutKey answers. -/
def pkL (oid : Nat) (root seed : Nd) : List UInt8 := if isO oid then keyL oid root seed else []
def KeyPut (F : Nat) : Prop := ∀ (oid : Nat) (root seed : Nd) (w : World), oid < 4294967296 →
  Calls Try.prog F #[.agg (vec 65 (keyF (oid : Int) root seed))] w fun e w' => ∃ v, e = .returned (.tuple #[v, .int .i64 ((keyE oid : Nat) : Int)]) ∧ w'.ownsRow w.heap.size 5 1 v (pkL oid root seed).length (u8s (pkL oid root seed)) ∧ Below w.heap.size w w'

set_option maxHeartbeats 1000000 in
set_option maxRecDepth 100000 in
theorem putKey_any : KeyPut 13 := by
  intro oid root seed w hoid
  obtain ⟨V, hV⟩ : ∃ V, V = w.alloc (.cells (vec 65 (keyF (oid : Int) root seed)) 31) := ⟨_, rfl⟩
  have h0 : Arr V w.heap.size 31 65 (keyF (oid : Int) root seed) := by rw [hV]; exact Arr.new w _ _ _
  have hB : Below w.heap.size w V := by rw [hV]; exact (Below.refl _ _).alloc (Nat.le_refl _) _
  have c0 := key_oid h0
  have HA := Lib.hid (And.intro h0 hB)
  have HW := Lib.hid hV
  have HO := Lib.hid hoid
  have HH := Lib.hid (fun W => height_any oid hoid W)
  have HE : Hid (pkL oid root seed = (if isO oid then keyL oid root seed else []) ∧ keyE oid = if isO oid then 0 else 80) := Lib.hid ⟨rfl, rfl⟩
  have hwn : IntKind.u64.wrap (oid : Int) = (oid : Int) := by rw [IntKind.wrap_u64]; omega
  obtain ⟨pk, hpk⟩ : ∃ pk, pk = pkL oid root seed := ⟨_, rfl⟩
  obtain ⟨ke, hke⟩ : ∃ ke, ke = keyE oid := ⟨_, rfl⟩
  obtain ⟨is, his⟩ : ∃ is, is = isO oid := ⟨_, rfl⟩
  rw [← hpk, ← hke, ← his] at HE
  rw [← hpk, ← hke]
  rw [← his] at HH
  obtain ⟨ht, hht⟩ : ∃ ht, ht = hgtO oid := ⟨_, rfl⟩
  rw [← hht] at HH
  clear hV h0 hB hpk hke his hht
  cases is
  · have hk := HE.out
    rw [if_neg (by decide), if_neg (by decide)] at hk
    obtain ⟨rfl, rfl⟩ := hk
    clear HE
    go_enter Try.func13, Try.ntmps13
    go_upto_region 1 with fail
    rw [← HW.out]
    clear HW
    go_wp2_with (go_at_call 8; refine (HH.out _).mono ?_; rintro e w1 ⟨rfl, hw1⟩; rw [← hw1]; clear hw1)
    go_ret2
    exact ⟨_, rfl, World.ownsRow_nil _ _ _ _, HA.out.2⟩
  · have hk := HE.out
    rw [if_pos rfl, if_pos rfl] at hk
    obtain ⟨hpk, rfl⟩ := hk
    have HPK := Lib.hid hpk
    clear HE hpk
    go_enter Try.func13, Try.ntmps13
    go_upto_region 1 with fail
    rw [← HW.out]
    clear HW
    go_upto_region 4 with (go_at_call 8; refine (HH.out _).mono ?_; rintro e w1 ⟨rfl, hw1⟩; rw [← hw1]; clear hw1)
    refine wp_region_held_drew (S := fun Y => VS V Y) (by kernel_rfl) (VS.begin V) (fun hS => ?_)
    (refine held_take (i := 0) (oi := ?ot1) (v := ?vt1) ?at1 (by kernel_rfl) (by kernel_rfl) (by kernel_rfl) ?bt1 ?ct1 ?dt1 (by assumption) ?rt1; (case at1 => (simp only [List.getElem?_toArray, List.getElem?_cons_zero]; rfl)); (case bt1 => exact fun _ _ _ h => h); (case ct1 => kernel_rfl); (case dt1 => (intro W hW; (try dsimp only at hW); go_split_ands; go_simp; (try with_reducible rfl))); (case' rt1 => simp only [Act.put, List.setIfInBounds_toArray, List.set_cons_zero, List.set_cons_succ]))
    (refine held_take (i := 1) (oi := ?ot2) (v := .int .u32 (oid : Int)) ?at2 (by kernel_rfl) (by kernel_rfl) (by kernel_rfl) ?bt2 ?ct2 ?dt2 (by assumption) ?rt2; (case at2 => (simp only [List.getElem?_toArray, List.getElem?_cons_zero, List.getElem?_cons_succ]; rfl)); (case bt2 => exact fun _ _ _ h => h); (case ct2 => kernel_rfl); (case dt2 => (intro W hW; have hc := key_oid (HA.out.1.under (show Below V.heap.size V W from hW)); clear hW; go_simp; (try with_reducible rfl))); (case' rt2 => simp only [Act.put, List.setIfInBounds_toArray, List.set_cons_zero, List.set_cons_succ]))
    (refine held_take (i := 4) (oi := ?ot3) (v := ?vt3) ?at3 (by kernel_rfl) (by kernel_rfl) (by kernel_rfl) ?bt3 ?ct3 ?dt3 (by assumption) ?rt3; (case at3 => (simp only [List.getElem?_toArray, List.getElem?_cons_zero, List.getElem?_cons_succ]; rfl)); (case bt3 => exact fun _ _ _ h => h); (case ct3 => kernel_rfl); (case dt3 => (intro W hW; (try dsimp only at hW); go_split_ands; go_simp; (try with_reducible rfl))); (case' rt3 => simp only [Act.put, List.setIfInBounds_toArray, List.set_cons_zero, List.set_cons_succ]))
    (refine held_take (i := 5) (oi := ?ot4) (v := .agg (vec 32 (bys root))) ?at4 (by kernel_rfl) (by kernel_rfl) (by kernel_rfl) ?bt4 ?ct4 ?dt4 (by assumption) ?rt4; (case at4 => (simp only [List.getElem?_toArray, List.getElem?_cons_zero, List.getElem?_cons_succ]; rfl)); (case bt4 => exact fun _ _ _ h => h); (case ct4 => kernel_rfl); (case dt4 => (intro W hW; exact exec_load_at 29 _ rfl _ _ rfl _ (key_root (HA.out.1.under (show Below V.heap.size V W from hW))))); (case' rt4 => simp only [Act.put, List.setIfInBounds_toArray, List.set_cons_zero, List.set_cons_succ]))
    (refine held_take (i := 6) (oi := ?ot5) (v := ?vt5) ?at5 (by kernel_rfl) (by kernel_rfl) (by kernel_rfl) ?bt5 ?ct5 ?dt5 (by assumption) ?rt5; (case at5 => (simp only [List.getElem?_toArray, List.getElem?_cons_zero, List.getElem?_cons_succ]; rfl)); (case bt5 => exact fun _ _ _ h => h); (case ct5 => kernel_rfl); (case dt5 => (intro W hW; (try dsimp only at hW); go_split_ands; go_simp; (try with_reducible rfl))); (case' rt5 => simp only [Act.put, List.setIfInBounds_toArray, List.set_cons_zero, List.set_cons_succ]))
    (refine held_take (i := 7) (oi := ?ot6) (v := .agg (vec 32 (bys seed))) ?at6 (by kernel_rfl) (by kernel_rfl) (by kernel_rfl) ?bt6 ?ct6 ?dt6 (by assumption) ?rt6; (case at6 => (simp only [List.getElem?_toArray, List.getElem?_cons_zero, List.getElem?_cons_succ]; rfl)); (case bt6 => exact fun _ _ _ h => h); (case ct6 => kernel_rfl); (case dt6 => (intro W hW; exact exec_load_at 29 _ rfl _ _ rfl _ (key_seed (HA.out.1.under (show Below V.heap.size V W from hW))))); (case' rt6 => simp only [Act.put, List.setIfInBounds_toArray, List.set_cons_zero, List.set_cons_succ]))
    refine held_two (i := 2) (j := 8) (oi := ?oit27) (oj := ?ojt27) (by kernel_rfl) ?ait27 ?ajt27 ?cit27 ?cjt27 (fun K2 hK2 => ?hit27) (fun K8 hK8 => ?hjt27)
    (case ait27 => (simp only [List.getElem?_toArray, List.getElem?_cons_zero, List.getElem?_cons_succ]; rfl))
    (case ajt27 => (simp only [List.getElem?_toArray, List.getElem?_cons_zero, List.getElem?_cons_succ]; rfl))
    (case cit27 => kernel_rfl)
    (case cjt27 => kernel_rfl)
    case hit27 =>
      refine ow_u32 _ rfl oid rfl (fun y2 p2 hl hd => ?_)
      (try have HU := Lib.hid ((HU.out.below hd).wide hd.size))
      (try have HN := Lib.hid ((HN.out.below hd).wide hd.size))
      (try have HN2 := Lib.hid ((HN2.out.below hd).wide hd.size))
      (try have HN3 := Lib.hid ((HN3.out.below hd).wide hd.size))
      (try have HP := Lib.hid ((HP.out.below hd).wide hd.size))
      (try have HL := Lib.hid ((HL.out.below hd).wide hd.size))
      (try have HL2 := Lib.hid ((HL2.out.below hd).wide hd.size))
      (try have HL3 := Lib.hid ((HL3.out.below hd).wide hd.size))
      (try have HR := Lib.hid ((HR.out.below hd).wide hd.size))
      have HU := Lib.hid hl
      refine hK2 _ _ (hS.keep hd) (fun hS2 => ?_)
      clear hS hl hd hK2 K2
      refine held_two (i := 3) (j := 8) (oi := ?oit19) (oj := ?ojt19) (by kernel_rfl) ?ait19 ?ajt19 ?cit19 ?cjt19 (fun K3 hK3 => ?hit19) (fun K8 hK8 => ?hjt19)
      (case ait19 => (simp only [List.getElem?_toArray, List.getElem?_cons_zero, List.getElem?_cons_succ]; rfl))
      (case ajt19 => (simp only [List.getElem?_toArray, List.getElem?_cons_zero, List.getElem?_cons_succ]; rfl))
      (case cit19 => kernel_rfl)
      (case cjt19 => kernel_rfl)
      case hit19 =>
        go_simp
        refine (put_one oid HO.out (some p2) 1 _ HU.out).mono ?_
        rintro e y3 ⟨v, rfl, ho, hd⟩
        (try have HU := Lib.hid ((HU.out.below hd).wide hd.size))
        (try have HN := Lib.hid ((HN.out.below hd).wide hd.size))
        (try have HN2 := Lib.hid ((HN2.out.below hd).wide hd.size))
        (try have HN3 := Lib.hid ((HN3.out.below hd).wide hd.size))
        (try have HP := Lib.hid ((HP.out.below hd).wide hd.size))
        (try have HL := Lib.hid ((HL.out.below hd).wide hd.size))
        (try have HL2 := Lib.hid ((HL2.out.below hd).wide hd.size))
        (try have HL3 := Lib.hid ((HL3.out.below hd).wide hd.size))
        (try have HR := Lib.hid ((HR.out.below hd).wide hd.size))
        obtain ⟨E3, cE3, rfl, hcE3, hl⟩ := row_part ho
        have HP := Lib.hid hl
        refine hK3 _ _ (hS2.keep hd) (fun hS3 => ?_)
        clear hS2 ho hl hd hK3 K3
        refine held_one (i := 8) (oi := ?ot7) (by kernel_rfl) ?at7 ?ct7 (fun K8 hK8 => ?_)
        (case at7 => (simp only [List.getElem?_toArray, List.getElem?_cons_zero, List.getElem?_cons_succ]; rfl))
        (case ct7 => kernel_rfl)
        refine ow_node2 _ _ rfl root seed rfl rfl (fun y8 p8 hl hd => ?_)
        (try have HU := Lib.hid ((HU.out.below hd).wide hd.size))
        (try have HN := Lib.hid ((HN.out.below hd).wide hd.size))
        (try have HN2 := Lib.hid ((HN2.out.below hd).wide hd.size))
        (try have HN3 := Lib.hid ((HN3.out.below hd).wide hd.size))
        (try have HP := Lib.hid ((HP.out.below hd).wide hd.size))
        (try have HL := Lib.hid ((HL.out.below hd).wide hd.size))
        (try have HL2 := Lib.hid ((HL2.out.below hd).wide hd.size))
        (try have HL3 := Lib.hid ((HL3.out.below hd).wide hd.size))
        (try have HR := Lib.hid ((HR.out.below hd).wide hd.size))
        have HN := Lib.hid hl
        refine hK8 _ _ (hS3.keep hd) (fun hS8 => ?_)
        clear hS3 hl hd hK8 K8
        refine held_one (i := 9) (oi := ?ot8) (by kernel_rfl) ?at8 ?ct8 (fun K9 hK9 => ?_)
        (case at8 => (simp only [List.getElem?_toArray, List.getElem?_cons_zero, List.getElem?_cons_succ]; rfl))
        (case ct8 => kernel_rfl)
        go_simp
        refine (laid_n 2 (some p8) 2 [root, seed] rfl (by decide) _ HN.out).mono ?_
        rintro e y9 ⟨v, rfl, ho, hd⟩
        (try have HU := Lib.hid ((HU.out.below hd).wide hd.size))
        (try have HN := Lib.hid ((HN.out.below hd).wide hd.size))
        (try have HN2 := Lib.hid ((HN2.out.below hd).wide hd.size))
        (try have HN3 := Lib.hid ((HN3.out.below hd).wide hd.size))
        (try have HP := Lib.hid ((HP.out.below hd).wide hd.size))
        (try have HL := Lib.hid ((HL.out.below hd).wide hd.size))
        (try have HL2 := Lib.hid ((HL2.out.below hd).wide hd.size))
        (try have HL3 := Lib.hid ((HL3.out.below hd).wide hd.size))
        (try have HR := Lib.hid ((HR.out.below hd).wide hd.size))
        obtain ⟨E9, cE9, rfl, hcE9, hl⟩ := row_part ho
        have HL := Lib.hid hl
        refine hK9 _ _ (hS8.keep hd) (fun hS9 => ?_)
        clear hS8 ho hl hd hK9 K9
        refine held_one (i := 10) (oi := ?ot9) (by kernel_rfl) ?at9 ?ct9 (fun K10 hK10 => ?_)
        (case at9 => (simp only [List.getElem?_toArray, List.getElem?_cons_zero, List.getElem?_cons_succ]; rfl))
        (case ct9 => kernel_rfl)
        refine ow_part2 _ _ rfl (E3, cE3, numBytes 0 4 oid) (E9, cE9, nodesL [root, seed]) rfl rfl (fun y10 p10 hl hd => ?_)
        (try have HU := Lib.hid ((HU.out.below hd).wide hd.size))
        (try have HN := Lib.hid ((HN.out.below hd).wide hd.size))
        (try have HN2 := Lib.hid ((HN2.out.below hd).wide hd.size))
        (try have HN3 := Lib.hid ((HN3.out.below hd).wide hd.size))
        (try have HP := Lib.hid ((HP.out.below hd).wide hd.size))
        (try have HL := Lib.hid ((HL.out.below hd).wide hd.size))
        (try have HL2 := Lib.hid ((HL2.out.below hd).wide hd.size))
        (try have HL3 := Lib.hid ((HL3.out.below hd).wide hd.size))
        (try have HR := Lib.hid ((HR.out.below hd).wide hd.size))
        have HC := Lib.hid hl
        refine hK10 _ _ (hS9.keep hd) (fun hS10 => ?_)
        clear hS9 hl hd hK10 K10
        refine held_one (i := 11) (oi := ?ot10) (by kernel_rfl) ?at10 ?ct10 (fun K11 hK11 => ?_)
        (case at10 => (simp only [List.getElem?_toArray, List.getElem?_cons_zero, List.getElem?_cons_succ]; rfl))
        (case ct10 => kernel_rfl)
        go_simp
        refine (cat_n 2 (some p10) 2 [(E3, cE3, numBytes 0 4 oid), (E9, cE9, nodesL [root, seed])] (keyL oid root seed) (by simp [catAll, keyL, nodesL]) rfl (by decide) (by rw [keyL_length]; decide) _ HC.out (fun p hp => ?_)).mono ?_
        · simp only [List.mem_cons, List.not_mem_nil, or_false] at hp
          rcases hp with rfl | rfl
          · exact HP.out
          · exact HL.out
        rintro e y11 ⟨v, rfl, ho, hd⟩
        have HR := Lib.hid (owns_mono ho ((HA.out.2.trans (Below.mono (show Below V.heap.size V _ from hS10) HA.out.2.size)).size))
        refine hK11 _ _ (hS10.keep hd) (fun hS11 => ?_)
        clear hS10 ho hd hK11 K11
        (refine held_take (i := 12) (oi := ?ot11) (v := ?vt11) ?at11 (by kernel_rfl) (by kernel_rfl) (by kernel_rfl) ?bt11 ?ct11 ?dt11 (by assumption) ?rt11; (case at11 => (simp only [List.getElem?_toArray, List.getElem?_cons_zero, List.getElem?_cons_succ]; rfl)); (case bt11 => exact fun _ _ _ h => h); (case ct11 => kernel_rfl); (case dt11 => (intro W hW; (try dsimp only at hW); go_split_ands; go_simp; (try with_reducible rfl))); (case' rt11 => simp only [Act.put, List.setIfInBounds_toArray, List.set_cons_zero, List.set_cons_succ]))
        (refine held_take (i := 13) (oi := ?ot12) (v := ?vt12) ?at12 (by kernel_rfl) (by kernel_rfl) (by kernel_rfl) ?bt12 ?ct12 ?dt12 (by assumption) ?rt12; (case at12 => (simp only [List.getElem?_toArray, List.getElem?_cons_zero, List.getElem?_cons_succ]; rfl)); (case bt12 => exact fun _ _ _ h => h); (case ct12 => kernel_rfl); (case dt12 => (intro W hW; (try dsimp only at hW); go_split_ands; go_simp; (try with_reducible rfl))); (case' rt12 => simp only [Act.put, List.setIfInBounds_toArray, List.set_cons_zero, List.set_cons_succ]))
        refine wpAnyH_done (by kernel_rfl) ?_ _
        go_wp2
        go_ret2
        exact ⟨_, rfl, by rw [HPK.out]; exact HR.out, VS.below0 hS11 HA.out.2⟩
      case hjt19 =>
        refine ow_node2 _ _ rfl root seed rfl rfl (fun y8 p8 hl hd => ?_)
        (try have HU := Lib.hid ((HU.out.below hd).wide hd.size))
        (try have HN := Lib.hid ((HN.out.below hd).wide hd.size))
        (try have HN2 := Lib.hid ((HN2.out.below hd).wide hd.size))
        (try have HN3 := Lib.hid ((HN3.out.below hd).wide hd.size))
        (try have HP := Lib.hid ((HP.out.below hd).wide hd.size))
        (try have HL := Lib.hid ((HL.out.below hd).wide hd.size))
        (try have HL2 := Lib.hid ((HL2.out.below hd).wide hd.size))
        (try have HL3 := Lib.hid ((HL3.out.below hd).wide hd.size))
        (try have HR := Lib.hid ((HR.out.below hd).wide hd.size))
        have HN := Lib.hid hl
        refine hK8 _ _ (hS2.keep hd) (fun hS8 => ?_)
        clear hS2 hl hd hK8 K8
        refine held_one (i := 3) (oi := ?ot13) (by kernel_rfl) ?at13 ?ct13 (fun K3 hK3 => ?_)
        (case at13 => (simp only [List.getElem?_toArray, List.getElem?_cons_zero, List.getElem?_cons_succ]; rfl))
        (case ct13 => kernel_rfl)
        go_simp
        refine (put_one oid HO.out (some p2) 1 _ HU.out).mono ?_
        rintro e y3 ⟨v, rfl, ho, hd⟩
        (try have HU := Lib.hid ((HU.out.below hd).wide hd.size))
        (try have HN := Lib.hid ((HN.out.below hd).wide hd.size))
        (try have HN2 := Lib.hid ((HN2.out.below hd).wide hd.size))
        (try have HN3 := Lib.hid ((HN3.out.below hd).wide hd.size))
        (try have HP := Lib.hid ((HP.out.below hd).wide hd.size))
        (try have HL := Lib.hid ((HL.out.below hd).wide hd.size))
        (try have HL2 := Lib.hid ((HL2.out.below hd).wide hd.size))
        (try have HL3 := Lib.hid ((HL3.out.below hd).wide hd.size))
        (try have HR := Lib.hid ((HR.out.below hd).wide hd.size))
        obtain ⟨E3, cE3, rfl, hcE3, hl⟩ := row_part ho
        have HP := Lib.hid hl
        refine hK3 _ _ (hS8.keep hd) (fun hS3 => ?_)
        clear hS8 ho hl hd hK3 K3
        refine held_one (i := 9) (oi := ?ot14) (by kernel_rfl) ?at14 ?ct14 (fun K9 hK9 => ?_)
        (case at14 => (simp only [List.getElem?_toArray, List.getElem?_cons_zero, List.getElem?_cons_succ]; rfl))
        (case ct14 => kernel_rfl)
        go_simp
        refine (laid_n 2 (some p8) 2 [root, seed] rfl (by decide) _ HN.out).mono ?_
        rintro e y9 ⟨v, rfl, ho, hd⟩
        (try have HU := Lib.hid ((HU.out.below hd).wide hd.size))
        (try have HN := Lib.hid ((HN.out.below hd).wide hd.size))
        (try have HN2 := Lib.hid ((HN2.out.below hd).wide hd.size))
        (try have HN3 := Lib.hid ((HN3.out.below hd).wide hd.size))
        (try have HP := Lib.hid ((HP.out.below hd).wide hd.size))
        (try have HL := Lib.hid ((HL.out.below hd).wide hd.size))
        (try have HL2 := Lib.hid ((HL2.out.below hd).wide hd.size))
        (try have HL3 := Lib.hid ((HL3.out.below hd).wide hd.size))
        (try have HR := Lib.hid ((HR.out.below hd).wide hd.size))
        obtain ⟨E9, cE9, rfl, hcE9, hl⟩ := row_part ho
        have HL := Lib.hid hl
        refine hK9 _ _ (hS3.keep hd) (fun hS9 => ?_)
        clear hS3 ho hl hd hK9 K9
        refine held_one (i := 10) (oi := ?ot15) (by kernel_rfl) ?at15 ?ct15 (fun K10 hK10 => ?_)
        (case at15 => (simp only [List.getElem?_toArray, List.getElem?_cons_zero, List.getElem?_cons_succ]; rfl))
        (case ct15 => kernel_rfl)
        refine ow_part2 _ _ rfl (E3, cE3, numBytes 0 4 oid) (E9, cE9, nodesL [root, seed]) rfl rfl (fun y10 p10 hl hd => ?_)
        (try have HU := Lib.hid ((HU.out.below hd).wide hd.size))
        (try have HN := Lib.hid ((HN.out.below hd).wide hd.size))
        (try have HN2 := Lib.hid ((HN2.out.below hd).wide hd.size))
        (try have HN3 := Lib.hid ((HN3.out.below hd).wide hd.size))
        (try have HP := Lib.hid ((HP.out.below hd).wide hd.size))
        (try have HL := Lib.hid ((HL.out.below hd).wide hd.size))
        (try have HL2 := Lib.hid ((HL2.out.below hd).wide hd.size))
        (try have HL3 := Lib.hid ((HL3.out.below hd).wide hd.size))
        (try have HR := Lib.hid ((HR.out.below hd).wide hd.size))
        have HC := Lib.hid hl
        refine hK10 _ _ (hS9.keep hd) (fun hS10 => ?_)
        clear hS9 hl hd hK10 K10
        refine held_one (i := 11) (oi := ?ot16) (by kernel_rfl) ?at16 ?ct16 (fun K11 hK11 => ?_)
        (case at16 => (simp only [List.getElem?_toArray, List.getElem?_cons_zero, List.getElem?_cons_succ]; rfl))
        (case ct16 => kernel_rfl)
        go_simp
        refine (cat_n 2 (some p10) 2 [(E3, cE3, numBytes 0 4 oid), (E9, cE9, nodesL [root, seed])] (keyL oid root seed) (by simp [catAll, keyL, nodesL]) rfl (by decide) (by rw [keyL_length]; decide) _ HC.out (fun p hp => ?_)).mono ?_
        · simp only [List.mem_cons, List.not_mem_nil, or_false] at hp
          rcases hp with rfl | rfl
          · exact HP.out
          · exact HL.out
        rintro e y11 ⟨v, rfl, ho, hd⟩
        have HR := Lib.hid (owns_mono ho ((HA.out.2.trans (Below.mono (show Below V.heap.size V _ from hS10) HA.out.2.size)).size))
        refine hK11 _ _ (hS10.keep hd) (fun hS11 => ?_)
        clear hS10 ho hd hK11 K11
        (refine held_take (i := 12) (oi := ?ot17) (v := ?vt17) ?at17 (by kernel_rfl) (by kernel_rfl) (by kernel_rfl) ?bt17 ?ct17 ?dt17 (by assumption) ?rt17; (case at17 => (simp only [List.getElem?_toArray, List.getElem?_cons_zero, List.getElem?_cons_succ]; rfl)); (case bt17 => exact fun _ _ _ h => h); (case ct17 => kernel_rfl); (case dt17 => (intro W hW; (try dsimp only at hW); go_split_ands; go_simp; (try with_reducible rfl))); (case' rt17 => simp only [Act.put, List.setIfInBounds_toArray, List.set_cons_zero, List.set_cons_succ]))
        (refine held_take (i := 13) (oi := ?ot18) (v := ?vt18) ?at18 (by kernel_rfl) (by kernel_rfl) (by kernel_rfl) ?bt18 ?ct18 ?dt18 (by assumption) ?rt18; (case at18 => (simp only [List.getElem?_toArray, List.getElem?_cons_zero, List.getElem?_cons_succ]; rfl)); (case bt18 => exact fun _ _ _ h => h); (case ct18 => kernel_rfl); (case dt18 => (intro W hW; (try dsimp only at hW); go_split_ands; go_simp; (try with_reducible rfl))); (case' rt18 => simp only [Act.put, List.setIfInBounds_toArray, List.set_cons_zero, List.set_cons_succ]))
        refine wpAnyH_done (by kernel_rfl) ?_ _
        go_wp2
        go_ret2
        exact ⟨_, rfl, by rw [HPK.out]; exact HR.out, VS.below0 hS11 HA.out.2⟩
    case hjt27 =>
      refine ow_node2 _ _ rfl root seed rfl rfl (fun y8 p8 hl hd => ?_)
      (try have HU := Lib.hid ((HU.out.below hd).wide hd.size))
      (try have HN := Lib.hid ((HN.out.below hd).wide hd.size))
      (try have HN2 := Lib.hid ((HN2.out.below hd).wide hd.size))
      (try have HN3 := Lib.hid ((HN3.out.below hd).wide hd.size))
      (try have HP := Lib.hid ((HP.out.below hd).wide hd.size))
      (try have HL := Lib.hid ((HL.out.below hd).wide hd.size))
      (try have HL2 := Lib.hid ((HL2.out.below hd).wide hd.size))
      (try have HL3 := Lib.hid ((HL3.out.below hd).wide hd.size))
      (try have HR := Lib.hid ((HR.out.below hd).wide hd.size))
      have HN := Lib.hid hl
      refine hK8 _ _ (hS.keep hd) (fun hS8 => ?_)
      clear hS hl hd hK8 K8
      refine held_one (i := 2) (oi := ?ot20) (by kernel_rfl) ?at20 ?ct20 (fun K2 hK2 => ?_)
      (case at20 => (simp only [List.getElem?_toArray, List.getElem?_cons_zero, List.getElem?_cons_succ]; rfl))
      (case ct20 => kernel_rfl)
      refine ow_u32 _ rfl oid rfl (fun y2 p2 hl hd => ?_)
      (try have HU := Lib.hid ((HU.out.below hd).wide hd.size))
      (try have HN := Lib.hid ((HN.out.below hd).wide hd.size))
      (try have HN2 := Lib.hid ((HN2.out.below hd).wide hd.size))
      (try have HN3 := Lib.hid ((HN3.out.below hd).wide hd.size))
      (try have HP := Lib.hid ((HP.out.below hd).wide hd.size))
      (try have HL := Lib.hid ((HL.out.below hd).wide hd.size))
      (try have HL2 := Lib.hid ((HL2.out.below hd).wide hd.size))
      (try have HL3 := Lib.hid ((HL3.out.below hd).wide hd.size))
      (try have HR := Lib.hid ((HR.out.below hd).wide hd.size))
      have HU := Lib.hid hl
      refine hK2 _ _ (hS8.keep hd) (fun hS2 => ?_)
      clear hS8 hl hd hK2 K2
      refine held_one (i := 3) (oi := ?ot21) (by kernel_rfl) ?at21 ?ct21 (fun K3 hK3 => ?_)
      (case at21 => (simp only [List.getElem?_toArray, List.getElem?_cons_zero, List.getElem?_cons_succ]; rfl))
      (case ct21 => kernel_rfl)
      go_simp
      refine (put_one oid HO.out (some p2) 1 _ HU.out).mono ?_
      rintro e y3 ⟨v, rfl, ho, hd⟩
      (try have HU := Lib.hid ((HU.out.below hd).wide hd.size))
      (try have HN := Lib.hid ((HN.out.below hd).wide hd.size))
      (try have HN2 := Lib.hid ((HN2.out.below hd).wide hd.size))
      (try have HN3 := Lib.hid ((HN3.out.below hd).wide hd.size))
      (try have HP := Lib.hid ((HP.out.below hd).wide hd.size))
      (try have HL := Lib.hid ((HL.out.below hd).wide hd.size))
      (try have HL2 := Lib.hid ((HL2.out.below hd).wide hd.size))
      (try have HL3 := Lib.hid ((HL3.out.below hd).wide hd.size))
      (try have HR := Lib.hid ((HR.out.below hd).wide hd.size))
      obtain ⟨E3, cE3, rfl, hcE3, hl⟩ := row_part ho
      have HP := Lib.hid hl
      refine hK3 _ _ (hS2.keep hd) (fun hS3 => ?_)
      clear hS2 ho hl hd hK3 K3
      refine held_one (i := 9) (oi := ?ot22) (by kernel_rfl) ?at22 ?ct22 (fun K9 hK9 => ?_)
      (case at22 => (simp only [List.getElem?_toArray, List.getElem?_cons_zero, List.getElem?_cons_succ]; rfl))
      (case ct22 => kernel_rfl)
      go_simp
      refine (laid_n 2 (some p8) 2 [root, seed] rfl (by decide) _ HN.out).mono ?_
      rintro e y9 ⟨v, rfl, ho, hd⟩
      (try have HU := Lib.hid ((HU.out.below hd).wide hd.size))
      (try have HN := Lib.hid ((HN.out.below hd).wide hd.size))
      (try have HN2 := Lib.hid ((HN2.out.below hd).wide hd.size))
      (try have HN3 := Lib.hid ((HN3.out.below hd).wide hd.size))
      (try have HP := Lib.hid ((HP.out.below hd).wide hd.size))
      (try have HL := Lib.hid ((HL.out.below hd).wide hd.size))
      (try have HL2 := Lib.hid ((HL2.out.below hd).wide hd.size))
      (try have HL3 := Lib.hid ((HL3.out.below hd).wide hd.size))
      (try have HR := Lib.hid ((HR.out.below hd).wide hd.size))
      obtain ⟨E9, cE9, rfl, hcE9, hl⟩ := row_part ho
      have HL := Lib.hid hl
      refine hK9 _ _ (hS3.keep hd) (fun hS9 => ?_)
      clear hS3 ho hl hd hK9 K9
      refine held_one (i := 10) (oi := ?ot23) (by kernel_rfl) ?at23 ?ct23 (fun K10 hK10 => ?_)
      (case at23 => (simp only [List.getElem?_toArray, List.getElem?_cons_zero, List.getElem?_cons_succ]; rfl))
      (case ct23 => kernel_rfl)
      refine ow_part2 _ _ rfl (E3, cE3, numBytes 0 4 oid) (E9, cE9, nodesL [root, seed]) rfl rfl (fun y10 p10 hl hd => ?_)
      (try have HU := Lib.hid ((HU.out.below hd).wide hd.size))
      (try have HN := Lib.hid ((HN.out.below hd).wide hd.size))
      (try have HN2 := Lib.hid ((HN2.out.below hd).wide hd.size))
      (try have HN3 := Lib.hid ((HN3.out.below hd).wide hd.size))
      (try have HP := Lib.hid ((HP.out.below hd).wide hd.size))
      (try have HL := Lib.hid ((HL.out.below hd).wide hd.size))
      (try have HL2 := Lib.hid ((HL2.out.below hd).wide hd.size))
      (try have HL3 := Lib.hid ((HL3.out.below hd).wide hd.size))
      (try have HR := Lib.hid ((HR.out.below hd).wide hd.size))
      have HC := Lib.hid hl
      refine hK10 _ _ (hS9.keep hd) (fun hS10 => ?_)
      clear hS9 hl hd hK10 K10
      refine held_one (i := 11) (oi := ?ot24) (by kernel_rfl) ?at24 ?ct24 (fun K11 hK11 => ?_)
      (case at24 => (simp only [List.getElem?_toArray, List.getElem?_cons_zero, List.getElem?_cons_succ]; rfl))
      (case ct24 => kernel_rfl)
      go_simp
      refine (cat_n 2 (some p10) 2 [(E3, cE3, numBytes 0 4 oid), (E9, cE9, nodesL [root, seed])] (keyL oid root seed) (by simp [catAll, keyL, nodesL]) rfl (by decide) (by rw [keyL_length]; decide) _ HC.out (fun p hp => ?_)).mono ?_
      · simp only [List.mem_cons, List.not_mem_nil, or_false] at hp
        rcases hp with rfl | rfl
        · exact HP.out
        · exact HL.out
      rintro e y11 ⟨v, rfl, ho, hd⟩
      have HR := Lib.hid (owns_mono ho ((HA.out.2.trans (Below.mono (show Below V.heap.size V _ from hS10) HA.out.2.size)).size))
      refine hK11 _ _ (hS10.keep hd) (fun hS11 => ?_)
      clear hS10 ho hd hK11 K11
      (refine held_take (i := 12) (oi := ?ot25) (v := ?vt25) ?at25 (by kernel_rfl) (by kernel_rfl) (by kernel_rfl) ?bt25 ?ct25 ?dt25 (by assumption) ?rt25; (case at25 => (simp only [List.getElem?_toArray, List.getElem?_cons_zero, List.getElem?_cons_succ]; rfl)); (case bt25 => exact fun _ _ _ h => h); (case ct25 => kernel_rfl); (case dt25 => (intro W hW; (try dsimp only at hW); go_split_ands; go_simp; (try with_reducible rfl))); (case' rt25 => simp only [Act.put, List.setIfInBounds_toArray, List.set_cons_zero, List.set_cons_succ]))
      (refine held_take (i := 13) (oi := ?ot26) (v := ?vt26) ?at26 (by kernel_rfl) (by kernel_rfl) (by kernel_rfl) ?bt26 ?ct26 ?dt26 (by assumption) ?rt26; (case at26 => (simp only [List.getElem?_toArray, List.getElem?_cons_zero, List.getElem?_cons_succ]; rfl)); (case bt26 => exact fun _ _ _ h => h); (case ct26 => kernel_rfl); (case dt26 => (intro W hW; (try dsimp only at hW); go_split_ands; go_simp; (try with_reducible rfl))); (case' rt26 => simp only [Act.put, List.setIfInBounds_toArray, List.set_cons_zero, List.set_cons_succ]))
      refine wpAnyH_done (by kernel_rfl) ?_ _
      go_wp2
      go_ret2
      exact ⟨_, rfl, by rw [HPK.out]; exact HR.out, VS.below0 hS11 HA.out.2⟩
set_option maxHeartbeats 1000000 in
set_option maxRecDepth 100000 in
theorem rputKey_any : KeyPut 14 := by
  intro oid root seed w hoid
  obtain ⟨V, hV⟩ : ∃ V, V = w.alloc (.cells (vec 65 (keyF (oid : Int) root seed)) 31) := ⟨_, rfl⟩
  have h0 : Arr V w.heap.size 31 65 (keyF (oid : Int) root seed) := by rw [hV]; exact Arr.new w _ _ _
  have hB : Below w.heap.size w V := by rw [hV]; exact (Below.refl _ _).alloc (Nat.le_refl _) _
  have c0 := key_oid h0
  have HA := Lib.hid (And.intro h0 hB)
  have HW := Lib.hid hV
  have HO := Lib.hid hoid
  have HH := Lib.hid (fun W => rheight_any oid hoid W)
  have HE : Hid (pkL oid root seed = (if isO oid then keyL oid root seed else []) ∧ keyE oid = if isO oid then 0 else 80) := Lib.hid ⟨rfl, rfl⟩
  have hwn : IntKind.u64.wrap (oid : Int) = (oid : Int) := by rw [IntKind.wrap_u64]; omega
  obtain ⟨pk, hpk⟩ : ∃ pk, pk = pkL oid root seed := ⟨_, rfl⟩
  obtain ⟨ke, hke⟩ : ∃ ke, ke = keyE oid := ⟨_, rfl⟩
  obtain ⟨is, his⟩ : ∃ is, is = isO oid := ⟨_, rfl⟩
  rw [← hpk, ← hke, ← his] at HE
  rw [← hpk, ← hke]
  rw [← his] at HH
  obtain ⟨ht, hht⟩ : ∃ ht, ht = hgtO oid := ⟨_, rfl⟩
  rw [← hht] at HH
  clear hV h0 hB hpk hke his hht
  cases is
  · have hk := HE.out
    rw [if_neg (by decide), if_neg (by decide)] at hk
    obtain ⟨rfl, rfl⟩ := hk
    clear HE
    go_enter Try.func14, Try.ntmps14
    go_upto_region 1 with fail
    rw [← HW.out]
    clear HW
    go_wp2_with (go_at_call 9; refine (HH.out _).mono ?_; rintro e w1 ⟨rfl, hw1⟩; rw [← hw1]; clear hw1)
    go_ret2
    exact ⟨_, rfl, World.ownsRow_nil _ _ _ _, HA.out.2⟩
  · have hk := HE.out
    rw [if_pos rfl, if_pos rfl] at hk
    obtain ⟨hpk, rfl⟩ := hk
    have HPK := Lib.hid hpk
    clear HE hpk
    go_enter Try.func14, Try.ntmps14
    go_upto_region 1 with fail
    rw [← HW.out]
    clear HW
    go_upto_region 5 with (first
      | (go_at_call 9; refine (HH.out _).mono ?_; rintro e w1 ⟨rfl, hw1⟩; rw [← hw1]; clear hw1)
      | (go_at_call 27
         refine (rput_one oid V).mono ?_
         rintro e V1 ⟨v, rfl, ho, hd⟩
         have HU := Lib.hid (And.intro ho hd)
         clear ho hd))
    have HR : Hid (V1.drew.ownsRow V.heap.size 5 1 v (numBytes 0 4 oid).length (u8s (numBytes 0 4 oid))) := Lib.hid HU.out.1
    have hst : Below V.heap.size V V1.drew := HU.out.2.trans ((show Below V1.heap.size V1 V1.drew from VS.begin V1).mono HU.out.2.size)
    refine wp_region_held_drew (S := fun Y => VS V Y) (by kernel_rfl) hst (fun hS => ?_)
    (refine held_take (i := 0) (oi := ?ot28) (v := ?vt28) ?at28 (by kernel_rfl) (by kernel_rfl) (by kernel_rfl) ?bt28 ?ct28 ?dt28 (by assumption) ?rt28; (case at28 => (simp only [List.getElem?_toArray, List.getElem?_cons_zero]; rfl)); (case bt28 => exact fun _ _ _ h => h); (case ct28 => kernel_rfl); (case dt28 => (intro W hW; (try dsimp only at hW); go_split_ands; go_simp; (try with_reducible rfl))); (case' rt28 => simp only [Act.put, List.setIfInBounds_toArray, List.set_cons_zero, List.set_cons_succ]))
    (refine held_take (i := 1) (oi := ?ot29) (v := ?vt29) ?at29 (by kernel_rfl) (by kernel_rfl) (by kernel_rfl) ?bt29 ?ct29 ?dt29 (by assumption) ?rt29; (case at29 => (simp only [List.getElem?_toArray, List.getElem?_cons_zero, List.getElem?_cons_succ]; rfl)); (case bt29 => exact fun _ _ _ h => h); (case ct29 => kernel_rfl); (case dt29 => (intro W hW; (try dsimp only at hW); go_split_ands; go_simp; (try with_reducible rfl))); (case' rt29 => simp only [Act.put, List.setIfInBounds_toArray, List.set_cons_zero, List.set_cons_succ]))
    (refine held_take (i := 2) (oi := ?ot30) (v := ?vt30) ?at30 (by kernel_rfl) (by kernel_rfl) (by kernel_rfl) ?bt30 ?ct30 ?dt30 (by assumption) ?rt30; (case at30 => (simp only [List.getElem?_toArray, List.getElem?_cons_zero, List.getElem?_cons_succ]; rfl)); (case bt30 => exact fun _ _ _ h => h); (case ct30 => kernel_rfl); (case dt30 => (intro W hW; (try dsimp only at hW); go_split_ands; go_simp; (try with_reducible rfl))); (case' rt30 => simp only [Act.put, List.setIfInBounds_toArray, List.set_cons_zero, List.set_cons_succ]))
    (refine held_take (i := 4) (oi := ?ot31) (v := ?vt31) ?at31 (by kernel_rfl) (by kernel_rfl) (by kernel_rfl) ?bt31 ?ct31 ?dt31 (by assumption) ?rt31; (case at31 => (simp only [List.getElem?_toArray, List.getElem?_cons_zero, List.getElem?_cons_succ]; rfl)); (case bt31 => exact fun _ _ _ h => h); (case ct31 => kernel_rfl); (case dt31 => (intro W hW; (try dsimp only at hW); go_split_ands; go_simp; (try with_reducible rfl))); (case' rt31 => simp only [Act.put, List.setIfInBounds_toArray, List.set_cons_zero, List.set_cons_succ]))
    (refine held_take (i := 5) (oi := ?ot32) (v := ?vt32) ?at32 (by kernel_rfl) (by kernel_rfl) (by kernel_rfl) ?bt32 ?ct32 ?dt32 (by assumption) ?rt32; (case at32 => (simp only [List.getElem?_toArray, List.getElem?_cons_zero, List.getElem?_cons_succ]; rfl)); (case bt32 => exact fun _ _ _ h => h); (case ct32 => kernel_rfl); (case dt32 => (intro W hW; (try dsimp only at hW); go_split_ands; go_simp; (try with_reducible rfl))); (case' rt32 => simp only [Act.put, List.setIfInBounds_toArray, List.set_cons_zero, List.set_cons_succ]))
    refine held_one (i := 3) (oi := ?ot33) (by kernel_rfl) ?at33 ?ct33 (fun K3 hK3 => ?_)
    (case at33 => (simp only [List.getElem?_toArray, List.getElem?_cons_zero, List.getElem?_cons_succ]; rfl))
    (case ct33 => kernel_rfl)
    obtain ⟨v3, y3, hr, ho, hd⟩ := app_at HR.out (lies_root (HA.out.1.under (show Below V.heap.size V _ from hS)) HA.out.1.lt (show Below V.heap.size V _ from hS).size) (by first | (rw [numBytes_len]; decide) | (rw [List.length_append, numBytes_len, nodeL_length]; decide)) (show Below V.heap.size V _ from hS).size 27
    refine Lib.wp_append_run _ _ _ _ _ rfl _ _ rfl rfl _ _ hr ?_
    have HR := Lib.hid ho
    refine hK3 _ _ (Below.trans (show Below V.heap.size V _ from hS) hd) (fun hS3 => ?_)
    clear hr ho hd hK3 K3
    refine held_one (i := 6) (oi := ?ot34) (by kernel_rfl) ?at34 ?ct34 (fun K6 hK6 => ?_)
    (case at34 => (simp only [List.getElem?_toArray, List.getElem?_cons_zero, List.getElem?_cons_succ]; rfl))
    (case ct34 => kernel_rfl)
    obtain ⟨v6, y6, hr, ho, hd⟩ := app_at HR.out (lies_seed (HA.out.1.under (show Below V.heap.size V _ from hS3)) HA.out.1.lt (show Below V.heap.size V _ from hS3).size) (by first | (rw [numBytes_len]; decide) | (rw [List.length_append, numBytes_len, nodeL_length]; decide)) (show Below V.heap.size V _ from hS3).size 27
    refine Lib.wp_append_run _ _ _ _ _ rfl _ _ rfl rfl _ _ hr ?_
    have HR := Lib.hid ho
    refine hK6 _ _ (Below.trans (show Below V.heap.size V _ from hS3) hd) (fun hS6 => ?_)
    clear hr ho hd hK6 K6
    (refine held_take (i := 7) (oi := ?ot35) (v := ?vt35) ?at35 (by kernel_rfl) (by kernel_rfl) (by kernel_rfl) ?bt35 ?ct35 ?dt35 (by assumption) ?rt35; (case at35 => (simp only [List.getElem?_toArray, List.getElem?_cons_zero, List.getElem?_cons_succ]; rfl)); (case bt35 => exact fun _ _ _ h => h); (case ct35 => kernel_rfl); (case dt35 => (intro W hW; (try dsimp only at hW); go_split_ands; go_simp; (try with_reducible rfl))); (case' rt35 => simp only [Act.put, List.setIfInBounds_toArray, List.set_cons_zero, List.set_cons_succ]))
    (refine held_take (i := 8) (oi := ?ot36) (v := ?vt36) ?at36 (by kernel_rfl) (by kernel_rfl) (by kernel_rfl) ?bt36 ?ct36 ?dt36 (by assumption) ?rt36; (case at36 => (simp only [List.getElem?_toArray, List.getElem?_cons_zero, List.getElem?_cons_succ]; rfl)); (case bt36 => exact fun _ _ _ h => h); (case ct36 => kernel_rfl); (case dt36 => (intro W hW; (try dsimp only at hW); go_split_ands; go_simp; (try with_reducible rfl))); (case' rt36 => simp only [Act.put, List.setIfInBounds_toArray, List.set_cons_zero, List.set_cons_succ]))
    refine wpAnyH_done (by kernel_rfl) ?_ _
    go_wp2
    go_ret2
    have hrow := owns_mono HR.out HA.out.2.size
    rw [List.append_assoc, ← keyL, ← HPK.out] at hrow
    exact ⟨_, rfl, hrow, HA.out.2.trans ((show Below V.heap.size V _ from hS6).mono HA.out.2.size)⟩
end Go.Proofs.Ytfeiplaiekbdkaa
