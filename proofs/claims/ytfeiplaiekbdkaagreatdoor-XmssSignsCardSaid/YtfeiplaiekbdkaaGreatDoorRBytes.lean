/- portreeveref04.Bytes. -/
import Derived.Test.YtfeiplaiekbdkaaGreatDoorLayB
import Derived.Test.YtfeiplaiekbdkaaGreatDoorWc
namespace Go.Proofs.YtfeiplaiekbdkaaGreatDoor
open Go.RowKit
attribute [local go_sem ↓ high] zeroV26

theorem num8 (t : Nat) : numBytes 0 8 t = numBytes 0 4 (t / 4294967296) ++ numBytes 0 4 (t % 4294967296) := by
  have e : ∀ x y : Nat, x % 256 = y % 256 → UInt8.ofNat (x % 256) = UInt8.ofNat (y % 256) := fun x y h => by rw [h]
  simp only [numBytes, show List.range 8 = [0, 1, 2, 3, 4, 5, 6, 7] from rfl, show List.range 4 = [0, 1, 2, 3] from rfl, List.map_cons, List.map_nil, List.cons_append, List.nil_append, putByte, shAt_high]
  simp only [List.cons.injEq, and_true]
  refine ⟨e _ _ ?_, e _ _ ?_, e _ _ ?_, e _ _ ?_, e _ _ ?_, e _ _ ?_, e _ _ ?_, e _ _ ?_⟩ <;> simp <;> omega
theorem put_ad (l t k a b c m : Nat) : numBytes 0 4 l ++ numBytes 0 8 t ++ putAll 0 4 [k, a, b, c, m] = putAll 0 4 (adWs l t k a b c m) := by
  rw [num8]; simp [putAll, adWs]

theorem rp4 (b L : List UInt8) (n : Nat) (hL : Hid (L = b ++ numBytes 0 4 n)) (A : Option Addr) (c : Nat) (w : World) (hb : Lies w w.heap.size 1 A b.length (u8s b)) (hlen : b.length ≤ 60000) :
    Calls Tryz.prog 48 #[.slice A b.length c, .int .u64 (n : Int), .int .i64 4, .bool false] w (Bytes w L) := by
  have := rput_any b n 4 (by decide) A c w.heap.size false w (Nat.le_refl _) hb (by omega)
  rw [hL.out]; exact this
theorem rp8 (b L : List UInt8) (n : Nat) (hL : Hid (L = b ++ numBytes 0 8 n)) (A : Option Addr) (c : Nat) (w : World) (hb : Lies w w.heap.size 1 A b.length (u8s b)) (hlen : b.length ≤ 60000) :
    Calls Tryz.prog 48 #[.slice A b.length c, .int .u64 (n : Int), .int .i64 8, .bool false] w (Bytes w L) := by
  have := rput_any b n 8 (by decide) A c w.heap.size false w (Nat.le_refl _) hb (by omega)
  rw [hL.out]; exact this

set_option maxHeartbeats 1000000 in
set_option maxRecDepth 100000 in
theorem rbytes_any (l t k a b c m : Nat) (hok : AdOk l t k a b c m) (w : World) :
    Calls Tryz.prog 99 #[adV l t k a b c m] w fun e w' => e = .returned (.agg (vec 32 (bys (adB l t k a b c m)))) ∧ Below w.heap.size w w' := by
  obtain ⟨W0, hW0⟩ : ∃ W0, W0 = (w.alloc (.cells (adA l t k a b c m) 86)).alloc (.cells (vec 32 (bys zb)) 30) := ⟨_, rfl⟩
  have hI : SB w l t k a b c m W0 := by
    rw [hW0]
    exact ⟨(Blk.new w _ _ rfl).alloc _, ⟨zb, Arr.newAt _ _ _ _ (by simp)⟩, ((Below.refl _ _).alloc (Nat.le_refl _) _).alloc (by simp) _⟩
  obtain ⟨ns, hns⟩ : ∃ ns : List Nat, ns = [k, a, b, c, m] := ⟨_, rfl⟩
  have hl := hok.l
  have ht := hok.t
  have hk := hok.k
  have ha := hok.a
  have hb := hok.b
  have hc := hok.c
  have hm := hok.m
  have hl5 : ns.length = 5 := by rw [hns]; rfl
  have hnlt : ∀ n ∈ ns, n < 4294967296 := by
    intro n hn
    rw [hns] at hn
    simp only [List.mem_cons, List.not_mem_nil, or_false] at hn
    omega
  have c0 : W0.cell? ⟨w.heap.size, 0, none⟩ = some (.int .u32 (l : Int)) := hI.1.cellAt 0 rfl
  have HI := Lib.hid hI
  have HO := Lib.hid hok
  have HN := Lib.hid (And.intro hns (And.intro hl5 hnlt))
  have HW := Lib.hid hW0
  obtain ⟨L1, hL1⟩ : ∃ L, L = [] ++ numBytes 0 4 l := ⟨_, rfl⟩
  obtain ⟨L2, hL2⟩ : ∃ L, L = L1 ++ numBytes 0 8 t := ⟨_, rfl⟩
  have hl1 : L1.length = 4 := by rw [hL1, List.nil_append, numBytes_length]
  have hl2 : L2.length = 12 := by rw [hL2, List.length_append, hl1, numBytes_length]
  have HL1 := Lib.hid hL1
  have HL2 := Lib.hid hL2
  have HLen := Lib.hid (And.intro hl1 hl2)
  clear hL1 hL2 hl1 hl2
  have hsz0 : W0.heap.size = w.heap.size + 2 := by rw [hW0]; simp
  have HS0 := Lib.hid hsz0
  clear hI hok hW0 hns hl5 hnlt hsz0 hk ha hb hc hm
  go_enter Tryz.func99, Tryz.ntmps99
  go_upto_region 1 with fail
  rw [← HW.out]
  clear HW
  go_upto_region 2 with (first
    | (go_at_call 48
       refine (rp4 [] L1 l HL1 none 0 _ (Lies.nil _ _ _ _) (by decide)).mono ?_
       rintro e w1 ⟨v1, rfl, hv1, hd1⟩
       obtain ⟨E1, k1, rfl, hli1⟩ := owns_form hv1
       have c1 : w1.cell? ⟨w.heap.size, 1, none⟩ = some (.int .u64 (t : Int)) := (HI.out.1.under hd1).cellAt 1 rfl
       have H1 := Lib.hid (And.intro (HI.out.keep hd1) (And.intro hli1 hd1.size))
       clear hv1 hd1 hli1 c0))
  go_upto_region 3 with (first
    | (go_at_call 48
       refine (rp8 L1 L2 t HL2 E1 k1 _ H1.out.2.1 (by have := HLen.out.1; omega)).mono ?_
       rintro e w2 ⟨v2, rfl, hv2, hd2⟩
       have H2 := Lib.hid (And.intro (H1.out.1.keep hd2) (owns_mono hv2 (show W0.heap.size ≤ w1.heap.size from H1.out.2.2)))
       have hs2 := Lib.hid (Nat.le_trans H1.out.2.2 hd2.size)
       clear hv2 hd2 c1))
  have c2 : w2.cell? ⟨w.heap.size, 2, none⟩ = some (.int .u32 (k : Int)) := H2.out.1.1.cellAt 2 rfl
  have c3 : w2.cell? ⟨w.heap.size, 3, none⟩ = some (.int .u32 (a : Int)) := H2.out.1.1.cellAt 3 rfl
  have c4 : w2.cell? ⟨w.heap.size, 4, none⟩ = some (.int .u32 (b : Int)) := H2.out.1.1.cellAt 4 rfl
  have c5 : w2.cell? ⟨w.heap.size, 5, none⟩ = some (.int .u32 (c : Int)) := H2.out.1.1.cellAt 5 rfl
  have c6 : w2.cell? ⟨w.heap.size, 6, none⟩ = some (.int .u32 (m : Int)) := H2.out.1.1.cellAt 6 rfl
  go_wp2_with fail
  obtain ⟨W3, hW3⟩ : ∃ W3, W3 = w2.alloc (.cells #[.int .u32 (k : Int), .int .u32 (a : Int), .int .u32 (b : Int), .int .u32 (c : Int), .int .u32 (m : Int)] 28) := ⟨_, rfl⟩
  obtain ⟨q, hq⟩ : ∃ q : Addr, q = ⟨w2.heap.size, 0, none⟩ := ⟨_, rfl⟩
  have hR : Lies W3 W3.heap.size 1 (some q) ns.length (u32s ns) := by
    rw [hW3, hq, HN.out.1]
    have := lies_new w2 #[.int .u32 (k : Int), .int .u32 (a : Int), .int .u32 (b : Int), .int .u32 (c : Int), .int .u32 (m : Int)] 28 5 (u32s [k, a, b, c, m]) rfl rfl
    simpa using this
  have h3 : SB w l t k a b c m W3 := by rw [hW3]; exact H2.out.1.keep (below_alloc1 _ _)
  have ho3 : W3.ownsRow W0.heap.size 5 1 v2 L2.length (u8s L2) := by rw [hW3]; exact H2.out.2.alloc _
  have hs3 : W0.heap.size ≤ W3.heap.size := by rw [hW3]; have := hs2.out; simp; omega
  rw [← hW3, ← hq]
  have HR := Lib.hid hR
  have H3 := Lib.hid (And.intro h3 (And.intro ho3 hs3))
  clear hW3 hq hR h3 ho3 hs3 H1 H2 hs2 c2 c3 c4 c5 c6
  go_loopw [3, 5, 26] (fun v x j W => ∃ (i : Nat) (L : List UInt8), i ≤ 5 ∧ j = .int .i64 i ∧ Hid (L = L2 ++ putAll 0 4 (ns.take i)) ∧ Hid (W.ownsRow W0.heap.size 5 1 v L.length (u8s L)) ∧ Hid (Below W3.heap.size W3 W)) (fun _ _ i _ => 5 - (intOf i).toNat)
  case atStart => exact ⟨0, L2, Nat.zero_le _, rfl, Lib.hid (by simp [putAll]), Lib.hid H3.out.2.1, Lib.hid (Below.refl _ _)⟩
  case round =>
    obtain ⟨i, L, hi, rfl, hL, hown, hbel⟩ := hrel
    by_cases hlt : i < 5
    · have hlt2 : i < ns.length := by have := HN.out.2.1; omega
      obtain ⟨q2, hx, hq2, hab, hc⟩ := (HR.out.below hbel.out).atMap hlt2
      obtain rfl := Option.some.inj hq2
      have hnb := HN.out.2.2 _ (List.getElem_mem hx)
      obtain ⟨E, ce, rfl, hli⟩ := owns_form hown.out
      obtain ⟨L', hL'⟩ : ∃ L', L' = L ++ numBytes 0 4 ns[i] := ⟨_, rfl⟩
      have hlen : L.length ≤ 60 := by
        have h1 := HLen.out.2
        rw [hL.out, List.length_append, putAll_length, List.length_take]
        have := HN.out.2.1
        omega
      have hnext : L' = L2 ++ putAll 0 4 (ns.take (i + 1)) := by rw [hL', hL.out, putAll_succ _ _ _ _ hx, List.append_assoc]
      have HL' := Lib.hid hL'
      have HNx := Lib.hid hnext
      have HLe := Lib.hid (And.intro hli hlen)
      clear hL' hnext hli hlen hq2 hab
      go_wp2_with (first
        | (go_at_call 48
           refine (rp4 L L' ns[i] HL' E ce _ HLe.out.1 (by have := HLe.out.2; omega)).mono ?_
           rintro e w4 ⟨v4, rfl, hv4, hd4⟩
           have H4 := Lib.hid (And.intro (owns_mono hv4 (Nat.le_trans H3.out.2.2 hbel.out.size)) (hbel.out.trans (hd4.mono hbel.out.size)))
           clear hv4 hd4))
      go_roundw
      case rel => exact ⟨i + 1, L', by omega, by go_num, HNx, Lib.hid H4.out.1, Lib.hid H4.out.2⟩
      case measure => simp [intOf]; omega
    · obtain rfl : i = 5 := by omega
      have hLL : L = putAll 0 4 (adWs l t k a b c m) := by
        rw [hL.out, HL2.out, HL1.out, HN.out.1, List.nil_append, ← put_ad]; rfl
      have h32 : L.length = 32 := by rw [hLL, putAll_length]; rfl
      have hown2 := hown.out
      rw [h32] at hown2
      obtain ⟨g3, c3, rfl, hb3, hc3, hcell⟩ := owns_blk hown2 (by decide)
      have hat := arr_at g3 c3 hc3
      have hld : (loadVar 30 ⟨g3, 0, none⟩).run Tryz.prog wr = .ok (.agg (vec 32 (bys (adB l t k a b c m)))) wr :=
        run_load_spl (fun i hi => by
          rw [hcell i (by rw [u8s_length]; omega)]
          simp only [u8s, List.getElem_map, bys, adB, lB, ← hLL]
          rw [List.getD_eq_getElem?_getD, List.getElem?_eq_getElem (by omega)]; rfl) Tryz.underlying30 rfl info26
      obtain ⟨f0, hf0⟩ := (H3.out.1.keep hbel.out).2.1
      have HF := Lib.hid (And.intro hld (And.intro hf0 (H3.out.1.keep hbel.out)))
      clear hLL h32 hown2 hcell hld hf0 hb3 hc3
      go_wp2_with (first
        | (refine wl_load_at rfl 30 _ rfl g3 0 rfl _ HF.out.1 ?_)
        | (refine wl_store rfl 30 _ _ rfl _ rfl _ rfl (run_store_arr HF.out.2.1 _ info26 (bys_one _ _)) ?_))
      refine bodyPost_ret (results_cell1 rfl _ _ _ rfl (run_load_arr (HF.out.2.1.row _) Tryz.underlying30 rfl info26)) rfl ⟨rfl, ?_⟩
      exact below_row HF.out.2.2.2.2 (by omega) _
end Go.Proofs.YtfeiplaiekbdkaaGreatDoor
