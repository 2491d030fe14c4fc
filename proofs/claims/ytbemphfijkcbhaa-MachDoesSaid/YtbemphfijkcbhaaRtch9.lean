/- The reference's Mem: Touched. -/
import Derived.BigQuiet
import Derived.Deep.QuietTactic
import Derived.Test.YtbemphfijkcbhaaRfind9
import Derived.Test.YtbemphfijkcbhaaIns9
import Derived.Test.YtbemphfijkcbhaaSame9
namespace Go.Proofs.Ytbemphfijkcbhaa
open Go.RowKit

theorem exec_slice_hm {P : Program} {o : Oper} {a : Act} {w : World} (t : TypeId) (x hi mx : Operand) (ho : o.op = .slice t x none (some hi) (some mx)) (vx vh vm : Value) (hx : a.eval x = vx) (hh : a.eval hi = vh) (hm : a.eval mx = vm) {v : Value}
    (hr : (Instr.sliceAt t vx none (some vh) (some vm)).run P w = .ok v w) : (execOp a.eval o).run P w = .ok (.value v) w := by
  unfold execOp
  simp only [ho, Option.map_some, Option.map_none, hx, hh, hm, Sem.run_bind, hr, Result.andThen_ok, Sem.run_pure]
/-- A page that isn't all 0. -/
def pgNZ (m : Bytes8) (x : Nat) : Prop := ∃ i, i < 4096 ∧ m (x + i) ≠ 0
/-- The pages of the first i that aren't all 0, rising. -/
structure TI (w wr : World) (A : Option Addr) (c : Nat) (ps : List RP) (m : Bytes8) (i : Nat) (l : List Nat) : Prop where
  ow : OwnU wr w.heap.size (.slice A l.length c) l
  be : Below w.heap.size w wr
  up : Up l
  mem : ∀ x, x ∈ l ↔ ∃ j, ∃ h : j < ps.length, j < i ∧ ps[j].1 = x ∧ pgNZ m x
  len : l.length ≤ i
theorem TI.skip {w wr w2 : World} {A : Option Addr} {c : Nat} {ps : List RP} {m : Bytes8} {i : Nat} {l : List Nat} (h : TI w wr A c ps m i l) (hd : Below wr.heap.size wr w2) (hi : i < ps.length) (hz : ¬ pgNZ m ps[i].1) : TI w w2 A c ps m (i + 1) l :=
  ⟨owns_below h.ow hd, h.be.trans (hd.mono h.be.size), h.up, fun x => by
    rw [h.mem x]
    constructor
    · rintro ⟨j, hj, h1, h2, h3⟩; exact ⟨j, hj, by omega, h2, h3⟩
    · rintro ⟨j, hj, h1, h2, h3⟩
      refine ⟨j, hj, ?_, h2, h3⟩
      rcases Nat.lt_succ_iff_lt_or_eq.1 h1 with h4 | h4
      · exact h4
      · subst h4; rw [← h2] at h3; exact absurd h3 hz, by have := h.len; omega⟩
theorem TI.add {w wr w2 : World} {A A' : Option Addr} {c c' : Nat} {ps : List RP} {m : Bytes8} {i k x : Nat} {l : List Nat} (h : TI w wr A c ps m i l) (hi : i < ps.length) (hx : ps[i].1 = x) (hz : pgNZ m x) (hnd : (ps.map (·.1)).Nodup)
    (h1 : ∀ y ∈ l.take k, y < x) (hk : ∀ hk : k < l.length, ¬ l[k] < x) (hkl : k ≤ l.length) (ho : OwnU w2 wr.heap.size (.slice A' (l.length + 1) c') (l.take k ++ (x :: l.drop k))) (hd : Below wr.heap.size wr w2) : TI w w2 A' c' ps m (i + 1) (l.take k ++ (x :: l.drop k)) := by
  have hnl : x ∉ l := fun hm => by
    obtain ⟨j, hj, h2, h3, _⟩ := (h.mem x).1 hm
    have hn := List.pairwise_iff_getElem.1 hnd j i (by simpa using hj) (by simpa using hi) h2
    simp at hn
    exact hn (by rw [h3, hx])
  have hlen : (l.take k ++ (x :: l.drop k)).length = l.length + 1 := by simp; omega
  refine ⟨?_, h.be.trans (hd.mono h.be.size), up_insert h.up h1 (up_drop h.up fun hk2 => ?_), fun y => ?_, by rw [hlen]; have := h.len; omega⟩
  · rw [hlen]
    have := h.be.size
    exact owns_mono ho this
  · have h2 := hk hk2
    have h3 : l[k] ≠ x := fun e => hnl (e ▸ List.getElem_mem hk2)
    omega
  · rw [mem_ins, h.mem y]
    constructor
    · rintro (rfl | ⟨j, hj, h2, h3, h4⟩)
      · exact ⟨i, hi, by omega, hx, hz⟩
      · exact ⟨j, hj, by omega, h3, h4⟩
    · rintro ⟨j, hj, h2, h3, h4⟩
      rcases Nat.lt_succ_iff_lt_or_eq.1 h2 with h5 | h5
      · exact Or.inr ⟨j, hj, h5, h3, h4⟩
      · subst h5; exact Or.inl (by rw [← h3, hx])
theorem take_lt {l : List Nat} {k x : Nat} (h : ∀ y ∈ l.take k, y < x) (hk : k < l.length) (hx : l[k] < x) : ∀ y ∈ l.take (k + 1), y < x := by
  intro y hy
  rw [List.take_add_one, List.getElem?_eq_getElem hk] at hy
  rcases List.mem_append.1 hy with h1 | h1
  · exact h y h1
  · simp at h1; subst h1; exact hx
set_option maxRecDepth 100000 in
set_option maxHeartbeats 8000000 in
theorem rtouched_any {w : World} {G : Nat → Prop} {r n : Nat} {ram : Sp} {v : Value} {ps : List RP} {m : Bytes8} (hM : MR w G r ram n v ps m) (hn : n ≤ 900000) :
    Calls Try.prog 19 #[.pointer (some ⟨r, 0, none⟩)] w fun e w' => ∃ (A : Option Addr) (c : Nat) (l : List Nat), e = .returned (.slice A l.length c) ∧ Lies w' w'.heap.size 1 A l.length (u64s l) ∧ l.length ≤ c ∧ l.length ≤ n ∧ Up l ∧ (∀ x, x ∈ l ↔ ∃ j, ∃ h : j < ps.length, ps[j].1 = x ∧ pgNZ m x) ∧ Below w.heap.size w w' := by
  obtain ⟨A0, c0, rfl⟩ := hM.form
  have hc0 := hM.cell2
  have hcn := hM.cnt
  have HM := Lib.hid hM
  have HN : Hid (ps.length ≤ n ∧ n ≤ 900000) := Lib.hid ⟨hcn, hn⟩
  obtain ⟨Q, hQ⟩ : ∃ Q, Q = fun (e : Ending) (w' : World) => ∃ (A : Option Addr) (c : Nat) (l : List Nat), e = .returned (.slice A l.length c) ∧ Lies w' w'.heap.size 1 A l.length (u64s l) ∧ l.length ≤ c ∧ l.length ≤ n ∧ Up l ∧ (∀ x, x ∈ l ↔ ∃ j, ∃ h : j < ps.length, ps[j].1 = x ∧ pgNZ m x) ∧ Below w.heap.size w w' := ⟨_, rfl⟩
  rw [← hQ]
  have HQ := Lib.hid hQ
  clear hQ hM hn hcn
  go_enter Try.func19, Try.ntmps19
  go_wp2
  clear hc0
  go_loopw [15, 3] (fun vi vo wr => ∃ (i : Nat) (A : Option Addr) (c : Nat) (l : List Nat), i ≤ ps.length ∧ vi = .int .i64 i ∧ vo = .slice A l.length c ∧ Hid (TI w wr A c ps m i l)) (fun vi _ _ => ps.length - (intOf vi).toNat)
  case atStart => exact ⟨0, none, 0, [], Nat.zero_le _, rfl, rfl, Lib.hid ⟨World.ownsRow_nil _ _ _ _, Below.refl _ _, List.Pairwise.nil, fun x => ⟨fun h => (by cases h), fun ⟨j, _, h, _⟩ => by omega⟩, Nat.le_refl _⟩⟩
  case round =>
    obtain ⟨i, A, c, l, hi, rfl, rfl, hT⟩ := hrel
    have hnb : ps.length ≤ 900000 := by have := HN.out; omega
    by_cases hlt : i < ps.length
    · have hMw := HM.out.under hT.out.be
      obtain ⟨a0, q, rfl, hq, hc1, hc2⟩ := hMw.page_at hlt
      obtain ⟨x, hx⟩ : ∃ x, ps[i].1 = x := ⟨_, rfl⟩
      obtain ⟨g, hg⟩ : ∃ g, ps[i].2 = g := ⟨_, rfl⟩
      have hpa := (hMw.at_page hlt).2.2.2.2.2
      rw [hx] at hc1 hpa
      rw [hg] at hc2 hpa
      have HI := Lib.hid hlt
      have HX := Lib.hid (fun h : i < ps.length => (show ps[i].1 = x from hx))
      have HP := Lib.hid hpa
      have HT := hT
      clear hMw hx hg hpa hi hT
      go_wp2
      clear hc1 hc2
      obtain ⟨W1, hW1⟩ : ∃ W1, W1 = wr.alloc (.cells #[.int .u64 (x : Int), .slice (some ⟨g, 0, none⟩) 4096 4096] 102) := ⟨_, rfl⟩
      have HW1 : Hid (Below wr.heap.size wr W1) := Lib.hid (by rw [hW1]; exact (Below.refl _ _).alloc (Nat.le_refl _) _)
      have HB1 : Hid (Blk W1 wr.heap.size 102 #[.int .u64 (x : Int), .slice (some ⟨g, 0, none⟩) 4096 4096]) := Lib.hid (by rw [hW1]; exact Blk.new _ _ _ rfl)
      rw [← hW1]
      clear hW1
      obtain ⟨wo, hwo⟩ : ∃ wo, wo = wr := ⟨_, rfl⟩
      rw [← hwo] at HT HP HW1 HB1
      simp only [← hwo]
      clear hwo
      go_loopw [22, 6] (fun vk vs wi => ∃ (k : Nat) (z : Bool), k ≤ 4096 ∧ vk = .int .i64 k ∧ vs = .bool z ∧ Hid ((z = true ↔ ∃ j, j < k ∧ m (x + j) ≠ 0) ∧ Below W1.heap.size W1 wi)) (fun vk _ _ => 4096 - (intOf vk).toNat)
      case atStart => exact ⟨0, false, Nat.zero_le _, rfl, rfl, Lib.hid ⟨⟨fun h => (by cases h), fun ⟨j, h, _⟩ => by omega⟩, Below.refl _ _⟩⟩
      case round =>
        obtain ⟨k, z, hk, rfl, rfl, hZ⟩ := hrel
        have HZ := hZ
        clear hZ
        by_cases hk2 : k < 4096
        · have hbw := HW1.out.trans (HZ.out.2.mono HW1.out.size)
          have hcg := (HP.out.under hbw).cell hk2
          have hqk : (⟨g, 0, none⟩ : Addr).add k = ⟨g, k, none⟩ := by unfold Addr.add; split <;> simp_all
          obtain ⟨y, hy⟩ : ∃ y, y = (m (x + k)).toNat := ⟨_, rfl⟩
          have hby : bys (fun i => m (x + i)) k = .int .u8 (y : Int) := by rw [hy]; rfl
          rw [hby] at hcg
          have HY := Lib.hid hy
          have HK := Lib.hid hk2
          have hyb : y < 256 := by rw [hy]; exact (m (x + k)).toNat_lt
          clear hby hy hbw hk
          cases z with
          | true =>
            go_wp2
            go_roundw
            case rel =>
              refine ⟨k + 1, true, HK.out, by go_num, rfl, Lib.hid ⟨⟨fun _ => ?_, fun _ => rfl⟩, HZ.out.2⟩⟩
              obtain ⟨j, h1, h2⟩ := HZ.out.1.1 rfl
              exact ⟨j, by omega, h2⟩
            case measure => have := HK.out; simp [intOf]; omega
          | false =>
            by_cases hy0 : y = 0
            · subst hy0
              have HY0 := HY
              clear HY
              go_wp2
              go_roundw
              case rel =>
                refine ⟨k + 1, false, HK.out, by go_num, rfl, Lib.hid ⟨⟨fun h => (by cases h), fun ⟨j, h1, h2⟩ => ?_⟩, HZ.out.2⟩⟩
                rcases Nat.lt_succ_iff_lt_or_eq.1 h1 with h3 | h3
                · exact HZ.out.1.2 ⟨j, h3, h2⟩
                · subst h3
                  exact absurd (UInt8.toNat_inj.1 (by rw [← HY0.out]; rfl)) h2
              case measure => have := HK.out; simp [intOf]; omega
            · have e1 : ((y : Int) != 0) = true := by simp; omega
              have e2 : ¬ (y : Int) = 0 := by omega
              have HY0 : Hid (m (x + k) ≠ 0) := Lib.hid fun h => hy0 (by rw [HY.out, h]; rfl)
              clear hy0
              go_wp2
              go_roundw
              case rel => exact ⟨k + 1, true, HK.out, by go_num, rfl, Lib.hid ⟨⟨fun _ => ⟨k, by omega, HY0.out⟩, fun _ => rfl⟩, HZ.out.2⟩⟩
              case measure => have := HK.out; simp [intOf]; omega
        · obtain rfl : k = 4096 := by omega
          clear hk2 hk
          cases z with
          | false =>
            go_wp2
            go_roundw
            case rel =>
              refine ⟨i + 1, A, c, l, HI.out, by go_num, rfl, Lib.hid (HT.out.skip (HW1.out.trans (HZ.out.2.mono HW1.out.size)) HI.out fun ⟨j, h1, h2⟩ => ?_)⟩
              rw [HX.out HI.out] at h2
              have := HZ.out.1.2 ⟨j, h1, h2⟩
              cases this
            case measure => have := HI.out; simp [intOf]; omega
          | true =>
            go_wp2
            obtain ⟨W2, hW2⟩ : ∃ W2, W2 = wr := ⟨_, rfl⟩
            have HB2 : Hid (Below W1.heap.size W1 W2) := Lib.hid (by rw [hW2]; exact HZ.out.2)
            have HNZ := Lib.hid (HZ.out.1.1 (by simp))
            rw [← hW2]
            clear hW2 HZ
            have hl0 : l.length ≤ 900000 := by have := HT.out.len; have := HI.out; omega
            go_loopw [9] (fun vk wj => ∃ k : Nat, k ≤ l.length ∧ vk = .int .i64 k ∧ Hid ((∀ y ∈ l.take k, y < x) ∧ Below W2.heap.size W2 wj)) (fun vk _ => l.length - (intOf vk).toNat)
            case atStart => exact ⟨0, Nat.zero_le _, rfl, Lib.hid ⟨fun y h => by simp at h, Below.refl _ _⟩⟩
            case round =>
              obtain ⟨k, hk, rfl, hK⟩ := hrel
              have HKK := hK
              clear hK
              have hb12 : Below W1.heap.size W1 wr := HB2.out.trans (HKK.out.2.mono HB2.out.size)
              have hbw : Below wo.heap.size wo wr := HW1.out.trans (hb12.mono HW1.out.size)
              have hcx := (HB1.out.under hb12).cellAt 0 rfl
              have howr : OwnU wr w.heap.size (.slice A l.length c) l := owns_below HT.out.ow hbw
              obtain ⟨A', c', ev, hcl, hli⟩ : ∃ A' c', Value.slice A l.length c = .slice A' l.length c' ∧ l.length ≤ c' ∧ Lies wr wr.heap.size 1 A' l.length (u64s l) := by
                obtain ⟨A', c', h1, h2, _, h3⟩ := owns_cap howr
                exact ⟨A', c', h1, h2, h3⟩
              injection ev with e1 _ e2
              subst e1 e2
              have HRW := Lib.hid (And.intro howr (And.intro hcl hli))
              have hkb : k ≤ 900000 := by omega
              have fin : Hid (∀ hh : (∀ hk2 : k < l.length, ¬ l[k] < x), True) := Lib.hid fun _ => trivial
              clear fin
              have HKL := Lib.hid hk
              clear howr hcl hli hk
              by_cases hk2 : k < l.length
              · obtain ⟨a, ea, hca⟩ := u64_lies HRW.out.2.2 hk2
                subst ea
                obtain ⟨y, hy⟩ : ∃ y, l[k] = y := ⟨_, rfl⟩
                rw [hy] at hca
                have hk3 : (k : Int) < (l.length : Int) := by omega
                have HY := Lib.hid (fun h : k < l.length => (show l[k] = y from hy))
                have HK2 := Lib.hid hk2
                clear hy
                by_cases hyx : y < x
                · have hyx2 : (y : Int) < (x : Int) := by omega
                  have HYX := Lib.hid hyx
                  clear hyx hk2
                  go_wp2
                  go_quiet (fail)
                  go_wp2
                  go_roundw
                  case rel => exact ⟨k + 1, HK2.out, by go_num, Lib.hid ⟨take_lt HKK.out.1 HK2.out (by rw [HY.out HK2.out]; exact HYX.out), ⟨HKK.out.2.1, HKK.out.2.2, HKK.out.2.3, HKK.out.2.4, HKK.out.2.5⟩⟩⟩
                  case measure => have := HK2.out; simp [intOf]; omega
                · have hyx2 : decide ((y : Int) < (x : Int)) = false := decide_eq_false (by omega)
                  have hyx3 : ¬ (y : Int) < (x : Int) := by omega
                  have HNK : Hid (∀ h : k < l.length, ¬ l[k] < x) := Lib.hid fun h => by rw [HY.out h]; exact hyx
                  clear hyx hk2
                  go_wp2
                  go_quiet (fail)
                  go_upto_region 15 with fail
                  have HWQ : Hid (Below wr.heap.size wr (wr.drewN nq)) := Lib.hid ⟨rfl, rfl, rfl, Nat.le_refl _, fun _ _ => rfl⟩
                  obtain ⟨W3, hW3⟩ : ∃ W3, W3 = wr.drewN nq := ⟨_, rfl⟩
                  rw [← hW3] at HWQ ⊢
                  clear hW3
                  obtain ⟨B0, hB0, hB0l⟩ := cut_head (w := W3) (k := k) HKL.out HRW.out.2.1 ((HRW.out.2.2.below HWQ.out).wide HWQ.out.size)
                  obtain ⟨B1, hB1, hB1l⟩ := cut_tail (w := W3) (k := k) HKL.out HRW.out.2.1 ((HRW.out.2.2.below HWQ.out).wide HWQ.out.size)
                  obtain ⟨Y0, hY0⟩ : ∃ Y0, Y0 = W3.drew := ⟨_, rfl⟩
                  have hsz0 : Y0.heap.size = W3.heap.size := by rw [hY0]; rfl
                  have hd00 : Below W3.heap.size W3 Y0 := by rw [hY0]; exact VS.begin W3
                  have hd0 : Below W3.heap.size W3 (Y0.alloc (.cells #[.int .u64 (x : Int)] 22)) := hd00.alloc (by omega) _
                  have hlen1 : (l.take k).length = k := by have := HKL.out; simp; omega
                  obtain ⟨d, hdl⟩ : ∃ d, d = l.length - k := ⟨_, rfl⟩
                  have hlen2 : (l.drop k).length = d := by rw [hdl]; simp
                  have hx1 : [x].length = 1 := rfl
                  have hown1 : OwnU (Y0.alloc (.cells #[.int .u64 (x : Int)] 22)) Y0.heap.size (.slice (some ⟨Y0.heap.size, 0, none⟩) 1 1) [x] := ⟨rfl, .inr ⟨Y0.heap.size, 1, _, rfl, Nat.le_refl _, World.alloc_heap_new Y0 _, Nat.le_refl _, by unfold maxLen; omega, rfl, rfl⟩⟩
                  obtain ⟨A4, c4, W4, hr4, ho4, hg4⟩ := app_ownU (c := c - k) hown1 (by simp) ((hB1l.below hd0).wide hd0.size) (by rw [hlen2, hx1]; omega) 46
                  have hd4 : Below W3.heap.size W3 W4 := below_app hd0 hg4 hd0.size (fun q hq => (hown1.lt q hq).1) (by omega)
                  obtain ⟨A4', c4', e4, _, _, hl4⟩ := owns_cap ho4
                  injection e4 with e41 _ e42
                  subst e41 e42
                  have hm4 : ([x] ++ l.drop k).length = 1 + d := by rw [List.length_append, hx1, hlen2]
                  rw [hm4] at hl4
                  rw [hlen2, hx1] at hr4
                  obtain ⟨A5, c5, W5, hr5, ho5, hd5⟩ := app_full (c := c4) ((hB0l.below hd4).wide hd4.size) (by rw [hm4]; exact hl4) (by simp) (by have := HKL.out; rw [hm4, hlen1]; omega) 46
                  have hd5' : Below W3.heap.size W3 W5 := hd4.trans (hd5.mono hd4.size)
                  have hN5 : k + (1 + d) = l.length + 1 := by have := HKL.out; omega
                  simp only [hlen1] at hB0
                  simp only [hlen2] at hB1
                  have hr5' := hr5
                  rw [hlen1, hm4, hN5] at hr5' ho5
                  unfold appS9 at hr4 hr5'
                  have HAP := Lib.hid (And.intro hr4 (And.intro hd4 (And.intro hr5' (And.intro hd5' ho5))))
                  have HCUT := Lib.hid (And.intro hB0 hB1)
                  have HBX : Hid (∀ W, VS W3 W → W.cell? ⟨wo.heap.size, 0, none⟩ = some (.int .u64 (x : Int))) := Lib.hid fun W hW => (HB1.out.under (HB2.out.trans ((HKK.out.2.trans (HWQ.out.mono HKK.out.2.size)).mono HB2.out.size))).under hW |>.cellAt 0 rfl
                  clear hB0 hB0l hB1 hB1l hd0 hd00 hsz0 hlen1 hlen2 hdl hx1 hown1 hr4 ho4 hg4 hd4 hl4 hm4 hr5 hr5' ho5 hd5 hd5' hN5
                  refine wp_region_held_drew (S := fun Y => VS W3 Y) (by kernel_rfl) (VS.begin W3) (fun hS => ?_)
                  rw [← hY0] at hS ⊢
                  clear hY0
                  (refine held_take (i := 0) (oi := ?ot1) (v := ?vt1) ?at1 (by kernel_rfl) (by kernel_rfl) (by kernel_rfl) ?bt1 ?ct1 ?dt1 (by assumption) ?rt1; (case at1 => (simp only [List.getElem?_toArray, List.getElem?_cons_zero]; rfl)); (case bt1 => exact fun _ _ _ h => h); (case ct1 => kernel_rfl); (case dt1 => (intro W hW; (try dsimp only at hW); go_split_ands; go_simp; (try with_reducible rfl))); (case' rt1 => simp only [Act.put, List.setIfInBounds_toArray, List.set_cons_zero, List.set_cons_succ]))
                  (refine held_take (i := 1) (oi := ?ot2) (v := ?vt2) ?at2 (by kernel_rfl) (by kernel_rfl) (by kernel_rfl) ?bt2 ?ct2 ?dt2 (by assumption) ?rt2; (case at2 => (simp only [List.getElem?_toArray, List.getElem?_cons_zero, List.getElem?_cons_succ]; rfl)); (case bt2 => exact fun _ _ _ h => h); (case ct2 => kernel_rfl); (case dt2 => (intro W hW; (try dsimp only at hW); go_split_ands; go_simp; (try with_reducible rfl))); (case' rt2 => simp only [Act.put, List.setIfInBounds_toArray, List.set_cons_zero, List.set_cons_succ]))
                  (refine held_take (i := 2) (oi := ?ot3) (v := ?vt3) ?at3 (by kernel_rfl) (by kernel_rfl) (by kernel_rfl) ?bt3 ?ct3 ?dt3 (by assumption) ?rt3; (case at3 => (simp only [List.getElem?_toArray, List.getElem?_cons_zero, List.getElem?_cons_succ]; rfl)); (case bt3 => exact fun _ _ _ h => h); (case ct3 => kernel_rfl); (case dt3 => (intro W hW; (try dsimp only at hW); go_split_ands; go_simp; (try with_reducible rfl))); (case' rt3 => simp only [Act.put, List.setIfInBounds_toArray, List.set_cons_zero, List.set_cons_succ]))
                  (refine held_take (i := 3) (oi := ?ot4) (v := .slice B0 k k) ?at4 (by kernel_rfl) (by kernel_rfl) (by kernel_rfl) ?bt4 ?ct4 ?dt4 (by assumption) ?rt4; (case at4 => (simp only [List.getElem?_toArray, List.getElem?_cons_zero, List.getElem?_cons_succ]; rfl)); (case bt4 => exact fun _ _ _ h => h); (case ct4 => kernel_rfl); (case dt4 => (intro W hW; clear hW; exact exec_slice_hm _ _ _ _ rfl _ _ _ rfl rfl rfl (HCUT.out.1 W))); (case' rt4 => simp only [Act.put, List.setIfInBounds_toArray, List.set_cons_zero, List.set_cons_succ]))
                  (refine held_take (i := 4) (oi := ?ot5) (v := ?vt5) ?at5 (by kernel_rfl) (by kernel_rfl) (by kernel_rfl) ?bt5 ?ct5 ?dt5 (by assumption) ?rt5; (case at5 => (simp only [List.getElem?_toArray, List.getElem?_cons_zero, List.getElem?_cons_succ]; rfl)); (case bt5 => exact fun _ _ _ h => h); (case ct5 => kernel_rfl); (case dt5 => (intro W hW; (try dsimp only at hW); go_split_ands; go_simp; (try with_reducible rfl))); (case' rt5 => simp only [Act.put, List.setIfInBounds_toArray, List.set_cons_zero, List.set_cons_succ]))
                  (refine held_take (i := 5) (oi := ?ot6) (v := .int .u64 (x : Int)) ?at6 (by kernel_rfl) (by kernel_rfl) (by kernel_rfl) ?bt6 ?ct6 ?dt6 (by assumption) ?rt6; (case at6 => (simp only [List.getElem?_toArray, List.getElem?_cons_zero, List.getElem?_cons_succ]; rfl)); (case bt6 => exact fun _ _ _ h => h); (case ct6 => kernel_rfl); (case dt6 => (intro W hW; have hc0 := HBX.out W hW; clear hW; go_simp; (try with_reducible rfl))); (case' rt6 => simp only [Act.put, List.setIfInBounds_toArray, List.set_cons_zero, List.set_cons_succ]))
                  (refine held_take (i := 7) (oi := ?ot7) (v := ?vt7) ?at7 (by kernel_rfl) (by kernel_rfl) (by kernel_rfl) ?bt7 ?ct7 ?dt7 (by assumption) ?rt7; (case at7 => (simp only [List.getElem?_toArray, List.getElem?_cons_zero, List.getElem?_cons_succ]; rfl)); (case bt7 => exact fun _ _ _ h => h); (case ct7 => kernel_rfl); (case dt7 => (intro W hW; (try dsimp only at hW); go_split_ands; go_simp; (try with_reducible rfl))); (case' rt7 => simp only [Act.put, List.setIfInBounds_toArray, List.set_cons_zero, List.set_cons_succ]))
                  (refine held_take (i := 8) (oi := ?ot8) (v := ?vt8) ?at8 (by kernel_rfl) (by kernel_rfl) (by kernel_rfl) ?bt8 ?ct8 ?dt8 (by assumption) ?rt8; (case at8 => (simp only [List.getElem?_toArray, List.getElem?_cons_zero, List.getElem?_cons_succ]; rfl)); (case bt8 => exact fun _ _ _ h => h); (case ct8 => kernel_rfl); (case dt8 => (intro W hW; (try dsimp only at hW); go_split_ands; go_simp; (try with_reducible rfl))); (case' rt8 => simp only [Act.put, List.setIfInBounds_toArray, List.set_cons_zero, List.set_cons_succ]))
                  (refine held_take (i := 9) (oi := ?ot9) (v := .slice B1 d (c - k)) ?at9 (by kernel_rfl) (by kernel_rfl) (by kernel_rfl) ?bt9 ?ct9 ?dt9 (by assumption) ?rt9; (case at9 => (simp only [List.getElem?_toArray, List.getElem?_cons_zero, List.getElem?_cons_succ]; rfl)); (case bt9 => exact fun _ _ _ h => h); (case ct9 => kernel_rfl); (case dt9 => (intro W hW; clear hW; exact exec_slice_lo _ _ _ rfl _ _ rfl rfl (HCUT.out.2 W))); (case' rt9 => simp only [Act.put, List.setIfInBounds_toArray, List.set_cons_zero, List.set_cons_succ]))
                  refine held_one (i := 6) (oi := ?ot10) (by kernel_rfl) ?at10 ?ct10 (fun K6 hK6 => ?_)
                  (case at10 => (simp only [List.getElem?_toArray, List.getElem?_cons_zero, List.getElem?_cons_succ]; rfl))
                  (case ct10 => kernel_rfl)
                  have hbs := build_u64 x
                  have hSb := hS
                  go_simp
                  refine hK6 _ _ (hSb.keep ((Below.refl _ _).alloc (Nat.le_refl _) _)) (fun hS6 => ?_)
                  clear hbs hSb hK6 K6
                  refine held_one (i := 10) (oi := ?ot11) (by kernel_rfl) ?at11 ?ct11 (fun K10 hK10 => ?_)
                  (case at11 => (simp only [List.getElem?_toArray, List.getElem?_cons_zero, List.getElem?_cons_succ]; rfl))
                  (case ct11 => kernel_rfl)
                  refine Lib.wp_append_run _ _ _ _ _ rfl (.slice (some ⟨Y0.heap.size, 0, none⟩) 1 1) (.slice B1 d (c - k)) ?s1 ?s2 (.slice A4 (1 + d) c4) W4 ?s3 ?_
                  case s1 => rfl
                  case s2 => rfl
                  case s3 => (have h0 := HAP.out.1; show (Builtin.append_ #[_, _] 46 _).run Try.prog _ = _; exact h0)
                  refine hK10 _ _ HAP.out.2.1 (fun hS10 => ?_)
                  clear hK10 K10
                  refine held_one (i := 11) (oi := ?ot12) (by kernel_rfl) ?at12 ?ct12 (fun K11 hK11 => ?_)
                  (case at12 => (simp only [List.getElem?_toArray, List.getElem?_cons_zero, List.getElem?_cons_succ]; rfl))
                  (case ct12 => kernel_rfl)
                  refine Lib.wp_append_run _ _ _ _ _ rfl (.slice B0 k k) (.slice A4 (1 + d) c4) ?u1 ?u2 (.slice A5 (l.length + 1) c5) W5 ?u3 ?_
                  case u1 => rfl
                  case u2 => rfl
                  case u3 => (have h0 := HAP.out.2.2.1; show (Builtin.append_ #[_, _] 46 _).run Try.prog _ = _; exact h0)
                  refine hK11 _ _ HAP.out.2.2.2.1 (fun hS11 => ?_)
                  clear hK11 K11
                  (refine held_take (i := 12) (oi := ?ot13) (v := ?vt13) ?at13 (by kernel_rfl) (by kernel_rfl) (by kernel_rfl) ?bt13 ?ct13 ?dt13 (by assumption) ?rt13; (case at13 => (simp only [List.getElem?_toArray, List.getElem?_cons_zero, List.getElem?_cons_succ]; rfl)); (case bt13 => exact fun _ _ _ h => h); (case ct13 => kernel_rfl); (case dt13 => (intro W hW; (try dsimp only at hW); go_split_ands; go_simp; (try with_reducible rfl))); (case' rt13 => simp only [Act.put, List.setIfInBounds_toArray, List.set_cons_zero, List.set_cons_succ]))
                  refine wpAnyH_done (by kernel_rfl) ?_ _
                  go_wp2
                  go_roundw
                  case rel =>
                    have hbw : Below wo.heap.size wo W3 := HW1.out.trans ((HB2.out.trans ((HKK.out.2.trans (HWQ.out.mono HKK.out.2.size)).mono HB2.out.size)).mono HW1.out.size)
                    have hap := HAP.out.2.2.2
                    have hlT : (l.take k ++ (x :: l.drop k)).length = l.length + 1 := by have := HKL.out; simp; omega
                    refine ⟨i + 1, A5, c5, l.take k ++ (x :: l.drop k), HI.out, by go_num, by rw [hlT], Lib.hid ?_⟩
                    refine HT.out.add HI.out (HX.out HI.out) HNZ.out HM.out.nd HKK.out.1 HNK.out HKL.out ?_ (hbw.trans (hap.1.mono hbw.size))
                    have h5 := hap.2
                    have h6 := HAP.out.2.1.size
                    unfold OwnU at h5 ⊢
                    exact owns_mono h5 (Nat.le_trans hbw.size h6)
                  case measure => have := HI.out; simp [intOf]; omega
              · have hk3 : decide ((k : Int) < (l.length : Int)) = false := decide_eq_false (by omega)
                have hk5 : decide (k < l.length) = false := decide_eq_false hk2
                have HNK : Hid (∀ h : k < l.length, ¬ l[k] < x) := Lib.hid fun h => absurd h hk2
                clear hk2
                go_wp2
                go_quiet (fail)
                go_upto_region 15 with fail
                have HWQ : Hid (Below wr.heap.size wr (wr.drewN nq)) := Lib.hid ⟨rfl, rfl, rfl, Nat.le_refl _, fun _ _ => rfl⟩
                obtain ⟨W3, hW3⟩ : ∃ W3, W3 = wr.drewN nq := ⟨_, rfl⟩
                rw [← hW3] at HWQ ⊢
                clear hW3
                obtain ⟨B0, hB0, hB0l⟩ := cut_head (w := W3) (k := k) HKL.out HRW.out.2.1 ((HRW.out.2.2.below HWQ.out).wide HWQ.out.size)
                obtain ⟨B1, hB1, hB1l⟩ := cut_tail (w := W3) (k := k) HKL.out HRW.out.2.1 ((HRW.out.2.2.below HWQ.out).wide HWQ.out.size)
                obtain ⟨Y0, hY0⟩ : ∃ Y0, Y0 = W3.drew := ⟨_, rfl⟩
                have hsz0 : Y0.heap.size = W3.heap.size := by rw [hY0]; rfl
                have hd00 : Below W3.heap.size W3 Y0 := by rw [hY0]; exact VS.begin W3
                have hd0 : Below W3.heap.size W3 (Y0.alloc (.cells #[.int .u64 (x : Int)] 22)) := hd00.alloc (by omega) _
                have hlen1 : (l.take k).length = k := by have := HKL.out; simp; omega
                obtain ⟨d, hdl⟩ : ∃ d, d = l.length - k := ⟨_, rfl⟩
                have hlen2 : (l.drop k).length = d := by rw [hdl]; simp
                have hx1 : [x].length = 1 := rfl
                have hown1 : OwnU (Y0.alloc (.cells #[.int .u64 (x : Int)] 22)) Y0.heap.size (.slice (some ⟨Y0.heap.size, 0, none⟩) 1 1) [x] := ⟨rfl, .inr ⟨Y0.heap.size, 1, _, rfl, Nat.le_refl _, World.alloc_heap_new Y0 _, Nat.le_refl _, by unfold maxLen; omega, rfl, rfl⟩⟩
                obtain ⟨A4, c4, W4, hr4, ho4, hg4⟩ := app_ownU (c := c - k) hown1 (by simp) ((hB1l.below hd0).wide hd0.size) (by rw [hlen2, hx1]; omega) 46
                have hd4 : Below W3.heap.size W3 W4 := below_app hd0 hg4 hd0.size (fun q hq => (hown1.lt q hq).1) (by omega)
                obtain ⟨A4', c4', e4, _, _, hl4⟩ := owns_cap ho4
                injection e4 with e41 _ e42
                subst e41 e42
                have hm4 : ([x] ++ l.drop k).length = 1 + d := by rw [List.length_append, hx1, hlen2]
                rw [hm4] at hl4
                rw [hlen2, hx1] at hr4
                obtain ⟨A5, c5, W5, hr5, ho5, hd5⟩ := app_full (c := c4) ((hB0l.below hd4).wide hd4.size) (by rw [hm4]; exact hl4) (by simp) (by have := HKL.out; rw [hm4, hlen1]; omega) 46
                have hd5' : Below W3.heap.size W3 W5 := hd4.trans (hd5.mono hd4.size)
                have hN5 : k + (1 + d) = l.length + 1 := by have := HKL.out; omega
                simp only [hlen1] at hB0
                simp only [hlen2] at hB1
                have hr5' := hr5
                rw [hlen1, hm4, hN5] at hr5' ho5
                unfold appS9 at hr4 hr5'
                have HAP := Lib.hid (And.intro hr4 (And.intro hd4 (And.intro hr5' (And.intro hd5' ho5))))
                have HCUT := Lib.hid (And.intro hB0 hB1)
                have HBX : Hid (∀ W, VS W3 W → W.cell? ⟨wo.heap.size, 0, none⟩ = some (.int .u64 (x : Int))) := Lib.hid fun W hW => (HB1.out.under (HB2.out.trans ((HKK.out.2.trans (HWQ.out.mono HKK.out.2.size)).mono HB2.out.size))).under hW |>.cellAt 0 rfl
                clear hB0 hB0l hB1 hB1l hd0 hd00 hsz0 hlen1 hlen2 hdl hx1 hown1 hr4 ho4 hg4 hd4 hl4 hm4 hr5 hr5' ho5 hd5 hd5' hN5
                refine wp_region_held_drew (S := fun Y => VS W3 Y) (by kernel_rfl) (VS.begin W3) (fun hS => ?_)
                rw [← hY0] at hS ⊢
                clear hY0
                (refine held_take (i := 0) (oi := ?ot14) (v := ?vt14) ?at14 (by kernel_rfl) (by kernel_rfl) (by kernel_rfl) ?bt14 ?ct14 ?dt14 (by assumption) ?rt14; (case at14 => (simp only [List.getElem?_toArray, List.getElem?_cons_zero]; rfl)); (case bt14 => exact fun _ _ _ h => h); (case ct14 => kernel_rfl); (case dt14 => (intro W hW; (try dsimp only at hW); go_split_ands; go_simp; (try with_reducible rfl))); (case' rt14 => simp only [Act.put, List.setIfInBounds_toArray, List.set_cons_zero, List.set_cons_succ]))
                (refine held_take (i := 1) (oi := ?ot15) (v := ?vt15) ?at15 (by kernel_rfl) (by kernel_rfl) (by kernel_rfl) ?bt15 ?ct15 ?dt15 (by assumption) ?rt15; (case at15 => (simp only [List.getElem?_toArray, List.getElem?_cons_zero, List.getElem?_cons_succ]; rfl)); (case bt15 => exact fun _ _ _ h => h); (case ct15 => kernel_rfl); (case dt15 => (intro W hW; (try dsimp only at hW); go_split_ands; go_simp; (try with_reducible rfl))); (case' rt15 => simp only [Act.put, List.setIfInBounds_toArray, List.set_cons_zero, List.set_cons_succ]))
                (refine held_take (i := 2) (oi := ?ot16) (v := ?vt16) ?at16 (by kernel_rfl) (by kernel_rfl) (by kernel_rfl) ?bt16 ?ct16 ?dt16 (by assumption) ?rt16; (case at16 => (simp only [List.getElem?_toArray, List.getElem?_cons_zero, List.getElem?_cons_succ]; rfl)); (case bt16 => exact fun _ _ _ h => h); (case ct16 => kernel_rfl); (case dt16 => (intro W hW; (try dsimp only at hW); go_split_ands; go_simp; (try with_reducible rfl))); (case' rt16 => simp only [Act.put, List.setIfInBounds_toArray, List.set_cons_zero, List.set_cons_succ]))
                (refine held_take (i := 3) (oi := ?ot17) (v := .slice B0 k k) ?at17 (by kernel_rfl) (by kernel_rfl) (by kernel_rfl) ?bt17 ?ct17 ?dt17 (by assumption) ?rt17; (case at17 => (simp only [List.getElem?_toArray, List.getElem?_cons_zero, List.getElem?_cons_succ]; rfl)); (case bt17 => exact fun _ _ _ h => h); (case ct17 => kernel_rfl); (case dt17 => (intro W hW; clear hW; exact exec_slice_hm _ _ _ _ rfl _ _ _ rfl rfl rfl (HCUT.out.1 W))); (case' rt17 => simp only [Act.put, List.setIfInBounds_toArray, List.set_cons_zero, List.set_cons_succ]))
                (refine held_take (i := 4) (oi := ?ot18) (v := ?vt18) ?at18 (by kernel_rfl) (by kernel_rfl) (by kernel_rfl) ?bt18 ?ct18 ?dt18 (by assumption) ?rt18; (case at18 => (simp only [List.getElem?_toArray, List.getElem?_cons_zero, List.getElem?_cons_succ]; rfl)); (case bt18 => exact fun _ _ _ h => h); (case ct18 => kernel_rfl); (case dt18 => (intro W hW; (try dsimp only at hW); go_split_ands; go_simp; (try with_reducible rfl))); (case' rt18 => simp only [Act.put, List.setIfInBounds_toArray, List.set_cons_zero, List.set_cons_succ]))
                (refine held_take (i := 5) (oi := ?ot19) (v := .int .u64 (x : Int)) ?at19 (by kernel_rfl) (by kernel_rfl) (by kernel_rfl) ?bt19 ?ct19 ?dt19 (by assumption) ?rt19; (case at19 => (simp only [List.getElem?_toArray, List.getElem?_cons_zero, List.getElem?_cons_succ]; rfl)); (case bt19 => exact fun _ _ _ h => h); (case ct19 => kernel_rfl); (case dt19 => (intro W hW; have hc0 := HBX.out W hW; clear hW; go_simp; (try with_reducible rfl))); (case' rt19 => simp only [Act.put, List.setIfInBounds_toArray, List.set_cons_zero, List.set_cons_succ]))
                (refine held_take (i := 7) (oi := ?ot20) (v := ?vt20) ?at20 (by kernel_rfl) (by kernel_rfl) (by kernel_rfl) ?bt20 ?ct20 ?dt20 (by assumption) ?rt20; (case at20 => (simp only [List.getElem?_toArray, List.getElem?_cons_zero, List.getElem?_cons_succ]; rfl)); (case bt20 => exact fun _ _ _ h => h); (case ct20 => kernel_rfl); (case dt20 => (intro W hW; (try dsimp only at hW); go_split_ands; go_simp; (try with_reducible rfl))); (case' rt20 => simp only [Act.put, List.setIfInBounds_toArray, List.set_cons_zero, List.set_cons_succ]))
                (refine held_take (i := 8) (oi := ?ot21) (v := ?vt21) ?at21 (by kernel_rfl) (by kernel_rfl) (by kernel_rfl) ?bt21 ?ct21 ?dt21 (by assumption) ?rt21; (case at21 => (simp only [List.getElem?_toArray, List.getElem?_cons_zero, List.getElem?_cons_succ]; rfl)); (case bt21 => exact fun _ _ _ h => h); (case ct21 => kernel_rfl); (case dt21 => (intro W hW; (try dsimp only at hW); go_split_ands; go_simp; (try with_reducible rfl))); (case' rt21 => simp only [Act.put, List.setIfInBounds_toArray, List.set_cons_zero, List.set_cons_succ]))
                (refine held_take (i := 9) (oi := ?ot22) (v := .slice B1 d (c - k)) ?at22 (by kernel_rfl) (by kernel_rfl) (by kernel_rfl) ?bt22 ?ct22 ?dt22 (by assumption) ?rt22; (case at22 => (simp only [List.getElem?_toArray, List.getElem?_cons_zero, List.getElem?_cons_succ]; rfl)); (case bt22 => exact fun _ _ _ h => h); (case ct22 => kernel_rfl); (case dt22 => (intro W hW; clear hW; exact exec_slice_lo _ _ _ rfl _ _ rfl rfl (HCUT.out.2 W))); (case' rt22 => simp only [Act.put, List.setIfInBounds_toArray, List.set_cons_zero, List.set_cons_succ]))
                refine held_one (i := 6) (oi := ?ot23) (by kernel_rfl) ?at23 ?ct23 (fun K6 hK6 => ?_)
                (case at23 => (simp only [List.getElem?_toArray, List.getElem?_cons_zero, List.getElem?_cons_succ]; rfl))
                (case ct23 => kernel_rfl)
                have hbs := build_u64 x
                have hSb := hS
                go_simp
                refine hK6 _ _ (hSb.keep ((Below.refl _ _).alloc (Nat.le_refl _) _)) (fun hS6 => ?_)
                clear hbs hSb hK6 K6
                refine held_one (i := 10) (oi := ?ot24) (by kernel_rfl) ?at24 ?ct24 (fun K10 hK10 => ?_)
                (case at24 => (simp only [List.getElem?_toArray, List.getElem?_cons_zero, List.getElem?_cons_succ]; rfl))
                (case ct24 => kernel_rfl)
                refine Lib.wp_append_run _ _ _ _ _ rfl (.slice (some ⟨Y0.heap.size, 0, none⟩) 1 1) (.slice B1 d (c - k)) ?s1 ?s2 (.slice A4 (1 + d) c4) W4 ?s3 ?_
                case s1 => rfl
                case s2 => rfl
                case s3 => (have h0 := HAP.out.1; show (Builtin.append_ #[_, _] 46 _).run Try.prog _ = _; exact h0)
                refine hK10 _ _ HAP.out.2.1 (fun hS10 => ?_)
                clear hK10 K10
                refine held_one (i := 11) (oi := ?ot25) (by kernel_rfl) ?at25 ?ct25 (fun K11 hK11 => ?_)
                (case at25 => (simp only [List.getElem?_toArray, List.getElem?_cons_zero, List.getElem?_cons_succ]; rfl))
                (case ct25 => kernel_rfl)
                refine Lib.wp_append_run _ _ _ _ _ rfl (.slice B0 k k) (.slice A4 (1 + d) c4) ?u1 ?u2 (.slice A5 (l.length + 1) c5) W5 ?u3 ?_
                case u1 => rfl
                case u2 => rfl
                case u3 => (have h0 := HAP.out.2.2.1; show (Builtin.append_ #[_, _] 46 _).run Try.prog _ = _; exact h0)
                refine hK11 _ _ HAP.out.2.2.2.1 (fun hS11 => ?_)
                clear hK11 K11
                (refine held_take (i := 12) (oi := ?ot26) (v := ?vt26) ?at26 (by kernel_rfl) (by kernel_rfl) (by kernel_rfl) ?bt26 ?ct26 ?dt26 (by assumption) ?rt26; (case at26 => (simp only [List.getElem?_toArray, List.getElem?_cons_zero, List.getElem?_cons_succ]; rfl)); (case bt26 => exact fun _ _ _ h => h); (case ct26 => kernel_rfl); (case dt26 => (intro W hW; (try dsimp only at hW); go_split_ands; go_simp; (try with_reducible rfl))); (case' rt26 => simp only [Act.put, List.setIfInBounds_toArray, List.set_cons_zero, List.set_cons_succ]))
                refine wpAnyH_done (by kernel_rfl) ?_ _
                go_wp2
                go_roundw
                case rel =>
                  have hbw : Below wo.heap.size wo W3 := HW1.out.trans ((HB2.out.trans ((HKK.out.2.trans (HWQ.out.mono HKK.out.2.size)).mono HB2.out.size)).mono HW1.out.size)
                  have hap := HAP.out.2.2.2
                  have hlT : (l.take k ++ (x :: l.drop k)).length = l.length + 1 := by have := HKL.out; simp; omega
                  refine ⟨i + 1, A5, c5, l.take k ++ (x :: l.drop k), HI.out, by go_num, by rw [hlT], Lib.hid ?_⟩
                  refine HT.out.add HI.out (HX.out HI.out) HNZ.out HM.out.nd HKK.out.1 HNK.out HKL.out ?_ (hbw.trans (hap.1.mono hbw.size))
                  have h5 := hap.2
                  have h6 := HAP.out.2.1.size
                  unfold OwnU at h5 ⊢
                  exact owns_mono h5 (Nat.le_trans hbw.size h6)
                case measure => have := HI.out; simp [intOf]; omega
    · obtain rfl : i = ps.length := by omega
      have HE := hT
      clear hlt hi hT
      go_wp2
      rw [HQ.out]
      obtain ⟨A', c', h1, h2, _, h3⟩ := owns_cap HE.out.ow
      injection h1 with e1 _ e2
      subst e1 e2
      refine ⟨A, c, l, rfl, h3, h2, by have := HE.out.len; have := HN.out; omega, HE.out.up, fun x => ?_, HE.out.be⟩
      rw [HE.out.mem x]
      exact ⟨fun ⟨j, hj, _, h2, h3⟩ => ⟨j, hj, h2, h3⟩, fun ⟨j, hj, h2, h3⟩ => ⟨j, hj, hj, h2, h3⟩⟩
end Go.Proofs.Ytbemphfijkcbhaa
