/- First: the reference's. -/
import Derived.Test.YtmhhckpdhjnmeaaFirst
import Derived.Test.YtmhhckpdhjnmeaaRow
import Derived.Test.YtmhhckpdhjnmeaaTwoB
namespace Go.Proofs.Ytmhhckpdhjnmeaa
open Go.RowKit

set_option maxHeartbeats 2000000 in
theorem rfirst_any (A : Option Addr) (cap : Nat) (l : List Sp) (hl : l.length ≤ 1000000) (hf : ∀ x ∈ l, fit x) (w : World) (hR : Row w w.heap.size A l) :
    Calls Try.prog 18 #[.slice A l.length cap] w fun e w' => ∃ (i j : Nat) (b : Bool), e = .returned (.tuple #[.int .i64 i, .int .i64 j, .bool b]) ∧ FirstIs l i j b ∧ Below w.heap.size w w' := by
  have Hl := Lib.hid hl
  have Hf := Lib.hid hf
  have HR := Lib.hid hR
  clear hl hf hR
  go_enter Try.func18, Try.ntmps18
  go_wp2
  go_loopw [5] (fun i W => ∃ k : Nat, k ≤ l.length ∧ i = .int .i64 k ∧ RowKit.Hid (∀ i' j', i' < j' → j' < k → hitAt l i' j' = false) ∧ Below w.heap.size w W) (fun i _ => l.length - (intOf i).toNat)
  case atStart => exact ⟨0, Nat.zero_le _, rfl, Lib.hid fun _ _ _ h => absurd h (Nat.not_lt_zero _), Below.refl _ _⟩
  case round =>
    obtain ⟨k, hk, rfl, hno, hbel⟩ := hrel
    have hb3 : k + 1 ≤ 1000001 := by have := Hl.out; omega
    by_cases hlt : k < l.length
    · have Hbel0 := Lib.hid hbel
      clear hbel
      go_wp2
      go_loopw [6] (fun i W => ∃ m : Nat, m ≤ k ∧ i = .int .i64 m ∧ RowKit.Hid (∀ i', i' < m → hitAt l i' k = false) ∧ Below w.heap.size w W) (fun i _ => k - (intOf i).toNat)
      case atStart => exact ⟨0, Nat.zero_le _, rfl, Lib.hid fun _ h => absurd h (Nat.not_lt_zero _), Hbel0.out⟩
      case round =>
        obtain ⟨m, hm, rfl, hno2, hbel⟩ := hrel
        clear Hbel0
        by_cases hmk : m < k
        · have hml : m < l.length := by omega
          obtain ⟨a, p, rfl, hp, hpb, hc1, hc2⟩ := (HR.out.below hbel).at hml
          obtain ⟨a', q, ha, hq, hqb, hc3, hc4⟩ := (HR.out.below hbel).at hlt
          obtain rfl : a = a' := Option.some.inj ha
          have hfit := Hf.out _ (List.getElem_mem hml)
          have hfit2 := Hf.out _ (List.getElem_mem hlt)
          have hhit := hitAt_lt hml hlt
          obtain ⟨x, hx⟩ : ∃ x, l[m] = x := ⟨_, rfl⟩
          obtain ⟨y, hy⟩ : ∃ y, l[k] = y := ⟨_, rfl⟩
          rw [hx] at hc1 hc2 hfit hhit
          rw [hy] at hc3 hc4 hfit2 hhit
          obtain ⟨b, s⟩ := x
          obtain ⟨c, d⟩ := y
          have HX := Lib.hid hx
          have HY := Lib.hid hy
          have Hbel := Lib.hid hbel
          obtain ⟨o, ho⟩ : ∃ o, o = hitAt l m k := ⟨_, rfl⟩
          have HO := Lib.hid (show ∀ w, Calls Try.prog 33 #[.agg #[.int .u64 (b : Int), .int .u64 (s : Int)], .agg #[.int .u64 (c : Int), .int .u64 (d : Int)]] w fun e w' => e = .returned (.bool o) ∧ Below w.heap.size w w' from fun w => by rw [ho, hhit]; exact roverlap_any b s c d hfit hfit2 w)
          have HH := Lib.hid ho
          clear hx hy hpb hqb hbel hfit hfit2 hhit ha ho
          go_wp2
          refine wp_region_held_drew (S := fun W => Below w.heap.size w W ∧ W.cell? p = some (.int .u64 (b : Int)) ∧ W.cell? ⟨p.block, p.off + 1, none⟩ = some (.int .u64 (s : Int)) ∧ W.cell? q = some (.int .u64 (c : Int)) ∧ W.cell? ⟨q.block, q.off + 1, none⟩ = some (.int .u64 (d : Int))) (by kernel_rfl) (by exact ⟨Hbel.out.drew, hc1, hc2, hc3, hc4⟩) (fun hS => ?_)
          (refine held_take (i := 0) (oi := ?ot161) (v := ?vt161) ?at161 (by kernel_rfl) (by kernel_rfl) (by kernel_rfl) ?bt161 ?ct161 ?dt161 (by assumption) ?rt161; (case at161 => (simp only [List.getElem?_toArray, List.getElem?_cons_zero]; rfl)); (case bt161 => exact fun _ _ _ h => h); (case ct161 => kernel_rfl); (case dt161 => (intro W hW; (try dsimp only at hW); go_split_ands; go_simp; (try with_reducible rfl))); (case' rt161 => simp only [Act.put, List.setIfInBounds_toArray, List.set_cons_zero, List.set_cons_succ]))
          (refine held_take (i := 1) (oi := ?ot162) (v := ?vt162) ?at162 (by kernel_rfl) (by kernel_rfl) (by kernel_rfl) ?bt162 ?ct162 ?dt162 (by assumption) ?rt162; (case at162 => (simp only [List.getElem?_toArray, List.getElem?_cons_zero, List.getElem?_cons_succ]; rfl)); (case bt162 => exact fun _ _ _ h => h); (case ct162 => kernel_rfl); (case dt162 => (intro W hW; (try dsimp only at hW); go_split_ands; go_simp; (try with_reducible rfl))); (case' rt162 => simp only [Act.put, List.setIfInBounds_toArray, List.set_cons_zero, List.set_cons_succ]))
          (refine held_take (i := 2) (oi := ?ot163) (v := ?vt163) ?at163 (by kernel_rfl) (by kernel_rfl) (by kernel_rfl) ?bt163 ?ct163 ?dt163 (by assumption) ?rt163; (case at163 => (simp only [List.getElem?_toArray, List.getElem?_cons_zero, List.getElem?_cons_succ]; rfl)); (case bt163 => exact fun _ _ _ h => h); (case ct163 => kernel_rfl); (case dt163 => (intro W hW; (try dsimp only at hW); go_split_ands; go_simp; (try with_reducible rfl))); (case' rt163 => simp only [Act.put, List.setIfInBounds_toArray, List.set_cons_zero, List.set_cons_succ]))
          (refine held_take (i := 3) (oi := ?ot164) (v := ?vt164) ?at164 (by kernel_rfl) (by kernel_rfl) (by kernel_rfl) ?bt164 ?ct164 ?dt164 (by assumption) ?rt164; (case at164 => (simp only [List.getElem?_toArray, List.getElem?_cons_zero, List.getElem?_cons_succ]; rfl)); (case bt164 => exact fun _ _ _ h => h); (case ct164 => kernel_rfl); (case dt164 => (intro W hW; (try dsimp only at hW); go_split_ands; go_simp; (try with_reducible rfl))); (case' rt164 => simp only [Act.put, List.setIfInBounds_toArray, List.set_cons_zero, List.set_cons_succ]))
          (refine held_take (i := 4) (oi := ?ot165) (v := ?vt165) ?at165 (by kernel_rfl) (by kernel_rfl) (by kernel_rfl) ?bt165 ?ct165 ?dt165 (by assumption) ?rt165; (case at165 => (simp only [List.getElem?_toArray, List.getElem?_cons_zero, List.getElem?_cons_succ]; rfl)); (case bt165 => exact fun _ _ _ h => h); (case ct165 => kernel_rfl); (case dt165 => (intro W hW; (try dsimp only at hW); go_split_ands; go_simp; (try with_reducible rfl))); (case' rt165 => simp only [Act.put, List.setIfInBounds_toArray, List.set_cons_zero, List.set_cons_succ]))
          (refine held_take (i := 5) (oi := ?ot166) (v := ?vt166) ?at166 (by kernel_rfl) (by kernel_rfl) (by kernel_rfl) ?bt166 ?ct166 ?dt166 (by assumption) ?rt166; (case at166 => (simp only [List.getElem?_toArray, List.getElem?_cons_zero, List.getElem?_cons_succ]; rfl)); (case bt166 => exact fun _ _ _ h => h); (case ct166 => kernel_rfl); (case dt166 => (intro W hW; (try dsimp only at hW); go_split_ands; go_simp; (try with_reducible rfl))); (case' rt166 => simp only [Act.put, List.setIfInBounds_toArray, List.set_cons_zero, List.set_cons_succ]))
          (refine held_take (i := 6) (oi := ?ot167) (v := ?vt167) ?at167 (by kernel_rfl) (by kernel_rfl) (by kernel_rfl) ?bt167 ?ct167 ?dt167 (by assumption) ?rt167; (case at167 => (simp only [List.getElem?_toArray, List.getElem?_cons_zero, List.getElem?_cons_succ]; rfl)); (case bt167 => exact fun _ _ _ h => h); (case ct167 => kernel_rfl); (case dt167 => (intro W hW; (try dsimp only at hW); go_split_ands; go_simp; (try with_reducible rfl))); (case' rt167 => simp only [Act.put, List.setIfInBounds_toArray, List.set_cons_zero, List.set_cons_succ]))
          (refine held_take (i := 7) (oi := ?ot168) (v := ?vt168) ?at168 (by kernel_rfl) (by kernel_rfl) (by kernel_rfl) ?bt168 ?ct168 ?dt168 (by assumption) ?rt168; (case at168 => (simp only [List.getElem?_toArray, List.getElem?_cons_zero, List.getElem?_cons_succ]; rfl)); (case bt168 => exact fun _ _ _ h => h); (case ct168 => kernel_rfl); (case dt168 => (intro W hW; (try dsimp only at hW); go_split_ands; go_simp; (try with_reducible rfl))); (case' rt168 => simp only [Act.put, List.setIfInBounds_toArray, List.set_cons_zero, List.set_cons_succ]))
          refine held_one (i := 8) (oi := ?ot169) (by kernel_rfl) ?at169 ?ct169 (fun K8 hK8 => ?_)
          (case at169 => (simp only [List.getElem?_toArray, List.getElem?_cons_zero, List.getElem?_cons_succ]; rfl))
          (case ct169 => kernel_rfl)
          go_simp
          refine (HO.out _).mono ?_
          rintro e w1 ⟨rfl, hd⟩
          refine hK8 _ _ (keep4 hd hS) (fun hS8 => ?_)
          clear hS hd hK8 K8
          refine wpAnyH_done (by kernel_rfl) ?_ _
          have HS := Lib.hid hS8
          clear hS8
          cases o
          · go_wp2
            go_roundw
            case rel =>
              refine ⟨m + 1, by omega, by go_num, Lib.hid fun i' hi' => ?_, HS.out.1⟩
              rcases Nat.lt_succ_iff_lt_or_eq.1 hi' with h | rfl
              · exact hno2.out i' h
              · exact HH.out.symm
            case measure => simp [intOf]; omega
          · go_wp2
            go_ret3
            exact ⟨m, k, true, rfl, .inl ⟨rfl, hmk, hlt, HH.out.symm, hno.out, hno2.out⟩, HS.out.1⟩
        · obtain rfl : m = k := by omega
          have Hbel := Lib.hid hbel
          clear hbel
          go_wp2
          go_roundw
          case rel =>
            refine ⟨m + 1, by omega, by go_num, Lib.hid fun i' j' hij hj => ?_, Hbel.out⟩
            rcases Nat.lt_succ_iff_lt_or_eq.1 hj with h | rfl
            · exact hno.out i' j' hij h
            · exact hno2.out i' hij
          case measure => simp [intOf]; omega
    · obtain rfl : k = l.length := by omega
      have Hbel := Lib.hid hbel
      clear hbel
      go_wp2
      go_ret3
      exact ⟨0, 0, false, rfl, .inr ⟨rfl, rfl, rfl, hno.out⟩, Hbel.out⟩
end Go.Proofs.Ytmhhckpdhjnmeaa
