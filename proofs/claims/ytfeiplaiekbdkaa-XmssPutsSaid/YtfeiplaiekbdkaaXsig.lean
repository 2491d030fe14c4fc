/- SigOf. -/
import Derived.Test.YtfeiplaiekbdkaaXwhole
import Derived.Test.YtfeiplaiekbdkaaXread
import Derived.Test.YtfeiplaiekbdkaaXkey
namespace Go.Proofs.Ytfeiplaiekbdkaa
open Go.RowKit
attribute [local go_sem ↓ high] zeroV26 zeroSig zeroSz

/-- What a SigOf answers of bytes. -/
def SigAns (F : Nat) (b : List UInt8) (oid idx : Nat) (r : Nd) (ots auth : List Nd) (k : Nat) : Prop := ∀ (A : Option Addr) (c : Nat) (W : World), b.length ≤ c → Lies W W.heap.size 1 A b.length (u8s b) →
  Calls Try.prog F #[.slice A b.length c, .int .u32 (oid : Int)] W fun e W' => ∃ A1 c1 A2 c2, e = .returned (.tuple #[.agg (vec 35 (sigF (idx : Int) r (.slice A1 ots.length c1) (.slice A2 auth.length c2))), .int .i64 ((k : Nat) : Int)]) ∧ NRow W' W'.heap.size A1 ots ∧ NRow W' W'.heap.size A2 auth ∧ Below W.heap.size W W'
def sig0 : Nat → Value := sigF 0 zb (.slice none 0 0) (.slice none 0 0)
theorem sig0_one (n : Nat) : ∀ i, i < n → (sig0 i).oneCell' = true := sigF_one _ _ _ _ rfl rfl n
theorem sizeO_of {oid : Nat} (h : isO oid = true) : sizeO oid = 36 + 32 * (67 + hgtO oid) := by unfold sizeO; rw [if_pos h]; omega
theorem hgtO_is {oid : Nat} (h : isO oid = true) : hgtO oid = 10 ∨ hgtO oid = 16 ∨ hgtO oid = 20 := by
  rcases isO_cases h with ⟨_, e⟩ | ⟨_, e⟩ | ⟨_, e⟩ <;> simp [e]

set_option maxHeartbeats 1000000 in
set_option maxRecDepth 100000 in
theorem sigOf_a (b : List UInt8) (oid : Nat) (hoid : oid < 4294967296) (his : isO oid = false) : SigAns 15 b oid 0 zb [] [] 80 := by
  intro A c w _ _
  have h0 : Arr (w.alloc (.cells (vec 35 sig0) 44)) w.heap.size 44 35 sig0 := Arr.new w _ _ _
  have HS := Lib.hid (fun W => size_any oid hoid W)
  obtain ⟨s, hs⟩ : ∃ s, s = sizeO oid := ⟨_, rfl⟩
  rw [← hs, his] at HS
  clear hs
  unfold sig0 at h0
  go_enter Try.func15, Try.ntmps15
  go_wp2_with (first
    | (go_at_call 10; refine (HS.out _).mono ?_; rintro e w1 ⟨rfl, hw1⟩; rw [← hw1]; clear hw1)
    | ((with_reducible show wpList _ _ _ (Oper.mk _ (.build _ _) _ _ _ _ :: _) _ _); refine wl_build rfl 44 _ rfl (vec 35 sig0) (by kernel_rfl) ?_)
    | ((with_reducible show wpList _ _ _ (Oper.mk _ (.store _ _ _) _ _ _ _ :: _) _ _); refine wl_store rfl 44 _ _ rfl _ rfl _ rfl (run_store_arr h0 sig0 infoSig (sig0_one _)) ?_))
  exact bodyPost_ret (results_ct rfl _ _ _ rfl (run_load_arr (h0.row _) Try.underlying44 rfl infoSig)) rfl ⟨none, 0, none, 0, rfl, NRow.nil _ _ _, NRow.nil _ _ _, below_row ((Below.refl _ _).alloc (Nat.le_refl _) _) (Nat.le_refl _) _⟩
set_option maxHeartbeats 1000000 in
set_option maxRecDepth 100000 in
theorem sigOf_b (b : List UInt8) (oid : Nat) (hoid : oid < 4294967296) (his : isO oid = true) (hb : b.length ≠ 36 + 32 * (67 + hgtO oid)) : SigAns 15 b oid 0 zb [] [] 81 := by
  intro A c w _ _
  have h0 : Arr (w.alloc (.cells (vec 35 sig0) 44)) w.heap.size 44 35 sig0 := Arr.new w _ _ _
  have HS := Lib.hid (fun W => size_any oid hoid W)
  obtain ⟨s, hs⟩ : ∃ s, s = sizeO oid := ⟨_, rfl⟩
  have hne : b.length ≠ s := by rw [hs, sizeO_of his]; exact hb
  rw [← hs, his] at HS
  have t1 : ((b.length : Int) != (s : Int)) = true := bne_iff_ne.2 (by omega)
  clear hs hne hb
  unfold sig0 at h0
  go_enter Try.func15, Try.ntmps15
  go_wp2_with (first
    | (go_at_call 10; refine (HS.out _).mono ?_; rintro e w1 ⟨rfl, hw1⟩; rw [← hw1]; clear hw1)
    | ((with_reducible show wpList _ _ _ (Oper.mk _ (.build _ _) _ _ _ _ :: _) _ _); refine wl_build rfl 44 _ rfl (vec 35 sig0) (by kernel_rfl) ?_)
    | ((with_reducible show wpList _ _ _ (Oper.mk _ (.store _ _ _) _ _ _ _ :: _) _ _); refine wl_store rfl 44 _ _ rfl _ rfl _ rfl (run_store_arr h0 sig0 infoSig (sig0_one _)) ?_))
  exact bodyPost_ret (results_ct rfl _ _ _ rfl (run_load_arr (h0.row _) Try.underlying44 rfl infoSig)) rfl ⟨none, 0, none, 0, rfl, NRow.nil _ _ _, NRow.nil _ _ _, below_row ((Below.refl _ _).alloc (Nat.le_refl _) _) (Nat.le_refl _) _⟩
/-- What SigOf answers of a signature's bytes. -/
def CdPost (q : Bool) (w : World) (idx : Nat) (r : Nd) (ots auth : List Nd) (h : Nat) (e : Ending) (W' : World) : Prop :=
  ∃ A1 c1 A2 c2, e = .returned (.tuple #[.agg (vec 35 (if q then sigF (idx : Int) r (.slice A1 67 c1) (.slice A2 h c2) else sig0)), .int .i64 (if q then 0 else 81)]) ∧ (q = true → NRow W' W'.heap.size A1 ots ∧ NRow W' W'.heap.size A2 auth) ∧ Below w.heap.size w W'
set_option maxHeartbeats 2000000 in
set_option maxRecDepth 100000 in
theorem sigOf_cd (oid idx : Nat) (r : Nd) (ots auth : List Nd) (hoid : oid < 4294967296) (his : isO oid = true) (hidx : idx < 4294967296) (hot : ots.length = 67) (hau : auth.length = hgtO oid) :
    (¬ idx < 2 ^ hgtO oid → SigAns 15 (sigL idx r ots auth) oid 0 zb [] [] 81) ∧ (idx < 2 ^ hgtO oid → SigAns 15 (sigL idx r ots auth) oid idx r ots auth 0) := by
  have hbl : (sigL idx r ots auth).length = 36 + 32 * (67 + hgtO oid) := by rw [sigL_length, hot, hau]
  have hh := hgtO_is his
  have hle := hgtO_le oid
  have HS := Lib.hid (fun W => size_any oid hoid W)
  have HH := Lib.hid (fun W => height_any oid hoid W)
  obtain ⟨h, he⟩ : ∃ h, h = hgtO oid := ⟨_, rfl⟩
  obtain ⟨n, hn⟩ : ∃ n, n = 36 + 32 * (67 + h) := ⟨_, rfl⟩
  have hsn : sizeO oid = n := by rw [sizeO_of his, hn, he]
  rw [hsn, his] at HS
  rw [← he] at HH hbl hh hau hle ⊢
  rw [his] at HH
  rw [← hn] at hbl
  have HB := Lib.hid hbl
  have HR := Lib.hid (fun A c W hc hl => read_any A c idx r ots auth h n hidx hot hau hle hn W hc hl)
  have HP := Lib.hid (fun A1 c1 A2 c2 W => whole_any idx hidx r A1 67 c1 A2 h c2 h hh W)
  have hpl : (plcd idx h h && decide (67 = 67)) = decide (idx < 2 ^ h) := by unfold plcd; simp
  rw [hpl] at HP
  have HN := Lib.hid (And.intro hot hau)
  have key : ∀ (q : Bool), decide (idx < 2 ^ h) = q → ∀ (A : Option Addr) (c : Nat) (w : World), n ≤ c → Lies w w.heap.size 1 A n (u8s (sigL idx r ots auth)) →
      Calls Try.prog 15 #[.slice A n c, .int .u32 (oid : Int)] w fun e W' => CdPost q w idx r ots auth h e W' := by
    intro q hq A c w hc hl
    rw [hq] at HP
    obtain ⟨V, hV⟩ : ∃ V, V = w.alloc (.cells (vec 35 sig0) 44) := ⟨_, rfl⟩
    have h0 : Arr V w.heap.size 44 35 sig0 := by rw [hV]; exact Arr.new w _ _ _
    have hB : Below w.heap.size w V := by rw [hV]; exact (Below.refl _ _).alloc (Nat.le_refl _) _
    have hlV := (hl.below hB).wide hB.size
    have HA := Lib.hid (And.intro h0 hB)
    have HW := Lib.hid hV
    have HRd := Lib.hid (HR.out A c V hc hlV)
    clear hV h0 hB hlV hl HR hq hpl HB he hn hot hau hsn hbl his
    unfold sig0 at HW
    go_enter Try.func15, Try.ntmps15
    go_upto_region 1 with fail
    rw [← HW.out]
    clear HW
    go_upto_region 8 with (first
      | (go_at_call 10; refine (HS.out _).mono ?_; rintro e w1 ⟨rfl, hw1⟩; rw [← hw1]; clear hw1)
      | (go_at_call 8; refine (HH.out _).mono ?_; rintro e w1 ⟨rfl, hw1⟩; rw [← hw1]; clear hw1)
      | (go_at_call 28; refine HRd.out.mono ?_; rintro e w2 ⟨A1, c1, A2, c2, rfl, hr1, hr2, hd⟩; have HQ := Lib.hid (And.intro hr1 (And.intro hr2 hd)); clear hr1 hr2 hd)
      | ((with_reducible show wpList _ _ _ (Oper.mk _ (.store _ _ _) _ _ _ _ :: _) _ _); refine wl_store rfl 67 _ _ rfl _ rfl _ rfl (run_store_arr (Arr.new w2 _ _ _) (szF (idx : Int) r (.slice A1 67 c1) (.slice A2 h c2) (h : Int)) infoSz (szF_one _ _ _ _ _ rfl rfl _)) ?_))
    obtain ⟨g, hg⟩ : ∃ g, g = w2.heap.size := ⟨_, rfl⟩
    obtain ⟨X, hX⟩ : ∃ X, X = (w2.alloc (.cells (vec 36 (szF 0 zb (.slice none 0 0) (.slice none 0 0) 0)) 67)).setRow w2.heap.size (vec 36 (szF (idx : Int) r (.slice A1 67 c1) (.slice A2 h c2) (h : Int))) := ⟨_, rfl⟩
    have hK : Arr X g 67 36 (szF (idx : Int) r (.slice A1 67 c1) (.slice A2 h c2) (h : Int)) := by rw [hX, hg]; exact (Arr.new w2 _ _ _).row _
    have hb : Below w2.heap.size w2 X := by rw [hX]; exact below_row ((Below.refl _ _).alloc (Nat.le_refl _) _) (Nat.le_refl _) _
    have hVX : Below V.heap.size V X := HQ.out.2.2.trans (hb.mono HQ.out.2.2.size)
    have HX := Lib.hid (And.intro hK (And.intro hVX (And.intro (HQ.out.1.below hb) (HQ.out.2.1.below hb))))
    rw [← hX, ← hg]
    clear hX hg hK hb hVX HQ HRd
    cases q
    · go_wp2_with (first
        | ((with_reducible show wpList _ _ _ (Oper.mk _ (.load 67 _) _ _ _ _ :: _) _ _); refine wl_load rfl 67 _ rfl g rfl _ (run_load_arr HX.out.1 Try.underlying67 rfl infoSz) ?_)
        | (go_at_call 29; refine (HP.out _ _ _ _ _).mono ?_; rintro e w3 ⟨rfl, hd⟩; have H3 := Lib.hid hd; clear hd)
        | ((with_reducible show wpList _ _ _ (Oper.mk _ (.build _ _) _ _ _ _ :: _) _ _); refine wl_build rfl 44 _ rfl (vec 35 sig0) (by kernel_rfl) ?_)
        | ((with_reducible show wpList _ _ _ (Oper.mk _ (.store _ _ _) _ _ _ _ :: _) _ _); refine wl_store rfl 44 _ _ rfl _ rfl _ rfl (run_store_arr (HA.out.1.under (HX.out.2.1.trans (H3.out.mono HX.out.2.1.size))) sig0 infoSig (sig0_one _)) ?_))
      have hVX := HX.out.2.1.trans (H3.out.mono HX.out.2.1.size)
      have hwX := HA.out.2.trans (hVX.mono HA.out.2.size)
      exact bodyPost_ret (results_ct rfl _ _ _ rfl (run_load_arr ((HA.out.1.under hVX).row _) Try.underlying44 rfl infoSig)) rfl (by unfold CdPost; exact ⟨A1, c1, A2, c2, rfl, fun e => (by cases e), below_row hwX (Nat.le_refl _) _⟩)
    · go_wp2_with (first
        | ((with_reducible show wpList _ _ _ (Oper.mk _ (.load 67 _) _ _ _ _ :: _) _ _); refine wl_load rfl 67 _ rfl g rfl _ (run_load_arr HX.out.1 Try.underlying67 rfl infoSz) ?_)
        | (go_at_call 29; refine (HP.out _ _ _ _ _).mono ?_; rintro e w3 ⟨rfl, hd⟩; have H3 := Lib.hid hd; clear hd)
        | ((with_reducible show wpList _ _ _ (Oper.mk _ (.load 44 _) _ _ _ _ :: _) _ _); refine wl_load rfl 44 _ rfl g rfl _ (load_sig (HX.out.1.under H3.out)) ?_)
        | ((with_reducible show wpList _ _ _ (Oper.mk _ (.store _ _ _) _ _ _ _ :: _) _ _); refine wl_store rfl 44 _ _ rfl _ rfl _ rfl (run_store_arr (HA.out.1.under (HX.out.2.1.trans (H3.out.mono HX.out.2.1.size))) (sigF (idx : Int) r (.slice A1 67 c1) (.slice A2 h c2)) infoSig (sigF_one _ _ _ _ rfl rfl _)) ?_))
      have hVX := HX.out.2.1.trans (H3.out.mono HX.out.2.1.size)
      have hwX := HA.out.2.trans (hVX.mono HA.out.2.size)
      refine bodyPost_ret (results_ct rfl _ _ _ rfl (run_load_arr ((HA.out.1.under hVX).row _) Try.underlying44 rfl infoSig)) rfl (by
        unfold CdPost
        refine ⟨A1, c1, A2, c2, rfl, fun _ => ⟨?_, ?_⟩, below_row hwX (Nat.le_refl _) _⟩
        · exact ownN_at (ownN_save (g := w.heap.size) (HX.out.2.2.1.below H3.out) ((Save.refl _ _).setRow _) HA.out.1.lt)
        · exact ownN_at (ownN_save (g := w.heap.size) (HX.out.2.2.2.below H3.out) ((Save.refl _ _).setRow _) HA.out.1.lt))
  refine ⟨fun hn2 => ?_, fun hy => ?_⟩
  · intro A c w hc hl
    rw [hbl] at hc hl ⊢
    refine (key false (decide_eq_false hn2) A c w hc hl).mono ?_
    rintro e w' ⟨A1, c1, A2, c2, rfl, -, hd⟩
    exact ⟨none, 0, none, 0, rfl, NRow.nil _ _ _, NRow.nil _ _ _, hd⟩
  · intro A c w hc hl
    rw [hbl] at hc hl ⊢
    refine (key true (decide_eq_true hy) A c w hc hl).mono ?_
    rintro e w' ⟨A1, c1, A2, c2, rfl, hr, hd⟩
    exact ⟨A1, c1, A2, c2, by rw [hot, hau]; rfl, (hr rfl).1, (hr rfl).2, hd⟩
end Go.Proofs.Ytfeiplaiekbdkaa
