/- clash: whether two overlap. -/
import Derived.Test.YthedpjlafapfeaaFirst
import Derived.Test.YthedpjlafapfeaaTwoA
namespace Go.Proofs.Ythedpjlafapfeaa
open Go.RowKit

set_option maxHeartbeats 2000000 in
theorem clash_any (A : Option Addr) (cap : Nat) (l : List Sp) (hl : l.length ≤ 100000) (hf : ∀ x ∈ l, fit x) (w : World) (hR : Row w w.heap.size A l) :
    Calls Try.prog 34 #[.slice A l.length cap] w fun e w' => e = .returned (.bool (clashB l)) ∧ Below w.heap.size w w' := by
  have Hf := Lib.hid hf
  have Hl := Lib.hid hl
  have Hr := Lib.hid (rising_any A cap l hf hl w hR)
  obtain ⟨v0, hv0⟩ : ∃ v0, v0 = clashB l := ⟨_, rfl⟩
  rw [← hv0]
  have HV := Lib.hid hv0
  clear hl hf hR hv0
  go_enter Try.func34, Try.ntmps34
  go_wp2_with (go_at_call 41; refine Hr.out.mono ?_; rintro e w1 ⟨v, r, rfl, hri, ho, hb⟩; obtain ⟨A1, c1, rfl, hrow⟩ := ho.row; have hrl := Nat.le_trans (rising_len hri) Hl.out; have Hrl := Lib.hid hrl; have Hri := Lib.hid hri; have Hb := Lib.hid hb; have Hrow := Lib.hid hrow; clear hri hb hrow ho hrl)
  clear Hr
  go_loopw [4] (fun i W => ∃ m : Nat, (m = 0 ∨ m + 1 ≤ r.length) ∧ i = .int .i64 ((m : Int) + 1) ∧ RowKit.Hid (∀ i, i < m → hitAt r i (i + 1) = false) ∧ Below w1.heap.size w1 W) (fun i _ => r.length + 1 - (intOf i).toNat)
  case atStart => exact ⟨0, .inl rfl, by simp, Lib.hid fun _ h => absurd h (Nat.not_lt_zero _), Below.refl _ _⟩
  case round =>
    obtain ⟨m, hm, rfl, hno, hbel⟩ := hrel
    have hb3 : m + 1 ≤ 1000001 := by have := Hrl.out; omega
    by_cases hlt : m + 1 < r.length
    · have hml : m < r.length := by omega
      obtain ⟨a, p, rfl, hp, hpb, hc1, hc2⟩ := (Hrow.out.below hbel).at hml
      obtain ⟨a', q, ha, hq, hqb, hc3, hc4⟩ := (Hrow.out.below hbel).at hlt
      obtain rfl : a = a' := Option.some.inj ha
      have hfit := rising_fit Hf.out Hri.out _ (List.getElem_mem hml)
      have hfit2 := rising_fit Hf.out Hri.out _ (List.getElem_mem hlt)
      have hhit := hitAt_lt hml hlt
      obtain ⟨x, hx⟩ : ∃ x, r[m] = x := ⟨_, rfl⟩
      obtain ⟨y, hy⟩ : ∃ y, r[m + 1] = y := ⟨_, rfl⟩
      rw [hx] at hc1 hc2 hfit hhit
      rw [hy] at hc3 hc4 hfit2 hhit
      obtain ⟨b, s⟩ := x
      obtain ⟨c, d⟩ := y
      have HX := Lib.hid hx
      have HY := Lib.hid hy
      have Hbel := Lib.hid (show Below w.heap.size w wr from Hb.out.trans (hbel.mono Hb.out.size))
      have Hbel1 := Lib.hid hbel
      obtain ⟨o, ho⟩ : ∃ o, o = hitAt r m (m + 1) := ⟨_, rfl⟩
      have HO := Lib.hid (show ∀ w, Calls Try.prog 18 #[.agg #[.int .u64 (b : Int), .int .u64 (s : Int)], .agg #[.int .u64 (c : Int), .int .u64 (d : Int)]] w fun e w' => e = .returned (.bool o) ∧ Below w.heap.size w w' from fun w => by rw [ho, hhit]; exact overlap_any b s c d hfit hfit2 w)
      have HH := Lib.hid ho
      have hlt' : (m : Int) + 1 < (r.length : Int) := by omega
      have hml' : (m : Int) < (r.length : Int) := by omega
      have hlen' := Hrl.out
      have hw0 : IntKind.i64.wrap (m : Int) = m := by simp [IntKind.wrap, IntKind.bits, IntKind.signed]; omega
      have hz0 : (0 : Int) ≤ (m : Int) + 1 := by omega
      clear hx hy hpb hqb hbel hfit hfit2 hhit ha ho
      go_wp2
      refine wp_region_held_drew (S := fun W => Below w1.heap.size w1 W ∧ W.cell? p = some (.int .u64 (b : Int)) ∧ W.cell? ⟨p.block, p.off + 1, none⟩ = some (.int .u64 (s : Int)) ∧ W.cell? q = some (.int .u64 (c : Int)) ∧ W.cell? ⟨q.block, q.off + 1, none⟩ = some (.int .u64 (d : Int))) (by kernel_rfl) (by exact ⟨Hbel1.out.drew, hc1, hc2, hc3, hc4⟩) (fun hS => ?_)
      (refine held_take (i := 0) (oi := ?ot170) (v := ?vt170) ?at170 (by kernel_rfl) (by kernel_rfl) (by kernel_rfl) ?bt170 ?ct170 ?dt170 (by assumption) ?rt170; (case at170 => (simp only [List.getElem?_toArray, List.getElem?_cons_zero]; rfl)); (case bt170 => exact fun _ _ _ h => h); (case ct170 => kernel_rfl); (case dt170 => (intro W hW; (try dsimp only at hW); go_split_ands; go_simp; (try with_reducible rfl))); (case' rt170 => simp only [Act.put, List.setIfInBounds_toArray, List.set_cons_zero, List.set_cons_succ]))
      (refine held_take (i := 1) (oi := ?ot171) (v := ?vt171) ?at171 (by kernel_rfl) (by kernel_rfl) (by kernel_rfl) ?bt171 ?ct171 ?dt171 (by assumption) ?rt171; (case at171 => (simp only [List.getElem?_toArray, List.getElem?_cons_zero, List.getElem?_cons_succ]; rfl)); (case bt171 => exact fun _ _ _ h => h); (case ct171 => kernel_rfl); (case dt171 => (intro W hW; (try dsimp only at hW); go_split_ands; go_simp; (try with_reducible rfl))); (case' rt171 => simp only [Act.put, List.setIfInBounds_toArray, List.set_cons_zero, List.set_cons_succ]))
      (refine held_take (i := 2) (oi := ?ot172) (v := ?vt172) ?at172 (by kernel_rfl) (by kernel_rfl) (by kernel_rfl) ?bt172 ?ct172 ?dt172 (by assumption) ?rt172; (case at172 => (simp only [List.getElem?_toArray, List.getElem?_cons_zero, List.getElem?_cons_succ]; rfl)); (case bt172 => exact fun _ _ _ h => h); (case ct172 => kernel_rfl); (case dt172 => (intro W hW; (try dsimp only at hW); go_split_ands; go_simp; (try with_reducible rfl))); (case' rt172 => simp only [Act.put, List.setIfInBounds_toArray, List.set_cons_zero, List.set_cons_succ]))
      (refine held_take (i := 3) (oi := ?ot173) (v := ?vt173) ?at173 (by kernel_rfl) (by kernel_rfl) (by kernel_rfl) ?bt173 ?ct173 ?dt173 (by assumption) ?rt173; (case at173 => (simp only [List.getElem?_toArray, List.getElem?_cons_zero, List.getElem?_cons_succ]; rfl)); (case bt173 => exact fun _ _ _ h => h); (case ct173 => kernel_rfl); (case dt173 => (intro W hW; (try dsimp only at hW); go_split_ands; go_simp; (try with_reducible rfl))); (case' rt173 => simp only [Act.put, List.setIfInBounds_toArray, List.set_cons_zero, List.set_cons_succ]))
      (refine held_take (i := 4) (oi := ?ot174) (v := ?vt174) ?at174 (by kernel_rfl) (by kernel_rfl) (by kernel_rfl) ?bt174 ?ct174 ?dt174 (by assumption) ?rt174; (case at174 => (simp only [List.getElem?_toArray, List.getElem?_cons_zero, List.getElem?_cons_succ]; rfl)); (case bt174 => exact fun _ _ _ h => h); (case ct174 => kernel_rfl); (case dt174 => (intro W hW; (try dsimp only at hW); go_split_ands; go_simp; (try with_reducible rfl))); (case' rt174 => simp only [Act.put, List.setIfInBounds_toArray, List.set_cons_zero, List.set_cons_succ]))
      (refine held_take (i := 5) (oi := ?ot175) (v := ?vt175) ?at175 (by kernel_rfl) (by kernel_rfl) (by kernel_rfl) ?bt175 ?ct175 ?dt175 (by assumption) ?rt175; (case at175 => (simp only [List.getElem?_toArray, List.getElem?_cons_zero, List.getElem?_cons_succ]; rfl)); (case bt175 => exact fun _ _ _ h => h); (case ct175 => kernel_rfl); (case dt175 => (intro W hW; (try dsimp only at hW); go_split_ands; go_simp; (try with_reducible rfl))); (case' rt175 => simp only [Act.put, List.setIfInBounds_toArray, List.set_cons_zero, List.set_cons_succ]))
      (refine held_take (i := 6) (oi := ?ot176) (v := ?vt176) ?at176 (by kernel_rfl) (by kernel_rfl) (by kernel_rfl) ?bt176 ?ct176 ?dt176 (by assumption) ?rt176; (case at176 => (simp only [List.getElem?_toArray, List.getElem?_cons_zero, List.getElem?_cons_succ]; rfl)); (case bt176 => exact fun _ _ _ h => h); (case ct176 => kernel_rfl); (case dt176 => (intro W hW; (try dsimp only at hW); go_split_ands; go_simp; (try with_reducible rfl))); (case' rt176 => simp only [Act.put, List.setIfInBounds_toArray, List.set_cons_zero, List.set_cons_succ]))
      (refine held_take (i := 7) (oi := ?ot177) (v := ?vt177) ?at177 (by kernel_rfl) (by kernel_rfl) (by kernel_rfl) ?bt177 ?ct177 ?dt177 (by assumption) ?rt177; (case at177 => (simp only [List.getElem?_toArray, List.getElem?_cons_zero, List.getElem?_cons_succ]; rfl)); (case bt177 => exact fun _ _ _ h => h); (case ct177 => kernel_rfl); (case dt177 => (intro W hW; (try dsimp only at hW); go_split_ands; go_simp; (try with_reducible rfl))); (case' rt177 => simp only [Act.put, List.setIfInBounds_toArray, List.set_cons_zero, List.set_cons_succ]))
      (refine held_take (i := 8) (oi := ?ot178) (v := ?vt178) ?at178 (by kernel_rfl) (by kernel_rfl) (by kernel_rfl) ?bt178 ?ct178 ?dt178 (by assumption) ?rt178; (case at178 => (simp only [List.getElem?_toArray, List.getElem?_cons_zero, List.getElem?_cons_succ]; rfl)); (case bt178 => exact fun _ _ _ h => h); (case ct178 => kernel_rfl); (case dt178 => (intro W hW; (try dsimp only at hW); go_split_ands; go_simp; (try with_reducible rfl))); (case' rt178 => simp only [Act.put, List.setIfInBounds_toArray, List.set_cons_zero, List.set_cons_succ]))
      refine held_one (i := 9) (oi := ?ot179) (by kernel_rfl) ?at179 ?ct179 (fun K9 hK9 => ?_)
      (case at179 => (simp only [List.getElem?_toArray, List.getElem?_cons_zero, List.getElem?_cons_succ]; rfl))
      (case ct179 => kernel_rfl)
      go_simp
      refine (HO.out _).mono ?_
      rintro e w1 ⟨rfl, hd⟩
      refine hK9 _ _ (keep4 hd hS) (fun hS9 => ?_)
      clear hS hd hK9 K9
      refine wpAnyH_done (by kernel_rfl) ?_ _
      have HS := Lib.hid hS9
      clear hS9
      cases o
      · go_wp2
        go_roundw
        case rel =>
          refine ⟨m + 1, .inr (by omega), by go_num, Lib.hid fun i' hi' => ?_, ?_⟩
          · rcases Nat.lt_succ_iff_lt_or_eq.1 hi' with h | rfl
            · exact hno.out i' h
            · exact HH.out.symm
          · exact HS.out.1
        case measure => simp [intOf]; omega
      · have e : v0 = true := by
          rw [HV.out, ← Bool.not_eq_false, clash_perm Hri.out, ← clashB_false, clashB_hit]
          intro h
          have := h m (m + 1) (by omega) hlt
          rw [← HH.out] at this
          cases this
        have HE := Lib.hid e
        clear e
        go_wp2
        go_ret
        exact ⟨by rw [HE.out]; rfl, Hb.out.trans (HS.out.1.mono Hb.out.size)⟩
    · have e : v0 = false := by
        rw [HV.out, clash_perm Hri.out]
        refine clash_near r Hri.out.2 (fun x hx => (List.mem_filter.1 (Hri.out.1.mem_iff.1 hx)).2) (fun i hi => ?_)
        rw [← hitAt_lt (by omega) hi]
        exact hno.out i (by omega)
      have HE := Lib.hid e
      have Hbel := Lib.hid (show Below w.heap.size w wr from Hb.out.trans (hbel.mono Hb.out.size))
      clear e hbel
      have hlen' := Hrl.out
      go_wp2
      go_ret
      exact ⟨by rw [HE.out]; rfl, Hbel.out⟩
end Go.Proofs.Ythedpjlafapfeaa
