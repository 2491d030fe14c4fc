/- KeyOf; the reference's KeyOf. -/
import Derived.Test.YtfeiplaiekbdkaaXnd
import Derived.Deep.Cut
namespace Go.Proofs.Ytfeiplaiekbdkaa
open Go.RowKit
attribute [local go_sem ↓ high] zeroV26 zeroKey

theorem results_ct {fn : Func} {p q : Tmp} {ty : TypeId} {P : Program} {w : World} (h : fn.results = #[.cell p ty, .tmp q]) (tmps : Array Value) (g : Nat) (v : Value)
    (ha : tmps.getD p undef = .pointer (some ⟨g, 0, none⟩)) (hl : (loadVar ty ⟨g, 0, none⟩).run P w = .ok v w) : (results fn tmps).run P w = .ok (.tuple #[v, tmps.getD q undef]) w := by
  have hp' : tmps[p]?.getD undef = .pointer (some ⟨g, 0, none⟩) := by simpa using ha
  simp [results, h, hp', asAddr, hl]
/-- What KeyOf answers of a key's bytes. -/
def keyR (oid : Nat) (root seed : Nd) : Nat → Value := if isO oid then keyF (oid : Int) root seed else keyF 0 zb zb
def keyE (oid : Nat) : Nat := if isO oid then 0 else 80
theorem keyR_one (oid : Nat) (root seed : Nd) (n : Nat) : ∀ i, i < n → (keyR oid root seed i).oneCell' = true := by
  unfold keyR
  split <;> exact keyF_one _ _ _ _
/-- The contract of KeyOf, of each of the two: bytes that are none. -/
def KeyNo (F : Nat) : Prop := ∀ (A : Option Addr) (c : Nat) (b : List UInt8) (w : World), b.length ≤ 3000 → b.length ≠ 68 → Lies w w.heap.size 1 A b.length (u8s b) →
  Calls Try.prog F #[.slice A b.length c] w fun e w' => e = .returned (.tuple #[.agg (vec 65 (keyF 0 zb zb)), .int .i64 80]) ∧ Below w.heap.size w w'
/-- .. a key's bytes. -/
def KeyYes (F : Nat) : Prop := ∀ (A : Option Addr) (c : Nat) (oid : Nat) (root seed : Nd) (w : World), oid < 4294967296 → 68 ≤ c → Lies w w.heap.size 1 A 68 (u8s (keyL oid root seed)) →
  Calls Try.prog F #[.slice A 68 c] w fun e w' => e = .returned (.tuple #[.agg (vec 65 (keyR oid root seed)), .int .i64 ((keyE oid : Nat) : Int)]) ∧ Below w.heap.size w w'

set_option maxHeartbeats 1000000 in
set_option maxRecDepth 100000 in
theorem keyOf_no : KeyNo 11 := by
  intro A c b w _hb hb _hl
  have h0 : Arr (w.alloc (.cells (vec 65 (keyF 0 zb zb)) 31)) w.heap.size 31 65 (keyF 0 zb zb) := Arr.new w _ _ _
  have t1 : ((b.length : Int) != 68) = true := bne_iff_ne.2 (by omega)
  go_enter Try.func11, Try.ntmps11
  go_wp2_with (first
    | ((with_reducible show wpList _ _ _ (Oper.mk _ (.build _ _) _ _ _ _ :: _) _ _); refine wl_build rfl 31 _ rfl (vec 65 (keyF 0 zb zb)) (by kernel_rfl) ?_)
    | ((with_reducible show wpList _ _ _ (Oper.mk _ (.store _ _ _) _ _ _ _ :: _) _ _); refine wl_store rfl 31 _ _ rfl _ rfl _ rfl (run_store_arr h0 (keyF 0 zb zb) infoKey (keyF_one _ _ _ _)) ?_))
  exact bodyPost_ret (results_ct rfl _ _ _ rfl (run_load_arr (h0.row _) Try.underlying31 rfl infoKey)) rfl ⟨rfl, below_row ((Below.refl _ _).alloc (Nat.le_refl _) _) (Nat.le_refl _) _⟩

set_option maxHeartbeats 1000000 in
set_option maxRecDepth 100000 in
theorem keyOf_yes : KeyYes 11 := by
  intro A c oid root seed w hoid hc hl
  obtain ⟨V, hV⟩ : ∃ V, V = w.alloc (.cells (vec 65 (keyF 0 zb zb)) 31) := ⟨_, rfl⟩
  have h0 : Arr V w.heap.size 31 65 (keyF 0 zb zb) := by rw [hV]; exact Arr.new w _ _ _
  have hB : Below w.heap.size w V := by rw [hV]; exact (Below.refl _ _).alloc (Nat.le_refl _) _
  have e : keyL oid root seed = numBytes 0 4 oid ++ (nodeL root ++ (nodeL seed ++ [])) := by rw [keyL, List.append_nil]
  have hcut := cutter_any A c (keyL oid root seed) V (by rw [keyL_length]; exact hc) (by rw [keyL_length]; exact (hl.below hB).wide hB.size)
  rw [keyL_length, e] at hcut
  have HCut := Lib.hid hcut
  have HA := Lib.hid (And.intro h0 hB)
  have HW := Lib.hid hV
  have HO := Lib.hid hoid
  have HH := Lib.hid (fun W => height_any oid hoid W)
  have HE : Hid (keyR oid root seed = (if isO oid then keyF (oid : Int) root seed else keyF 0 zb zb) ∧ keyE oid = if isO oid then 0 else 80) := Lib.hid ⟨rfl, rfl⟩
  obtain ⟨kr, hkr⟩ : ∃ kr, kr = keyR oid root seed := ⟨_, rfl⟩
  obtain ⟨ke, hke⟩ : ∃ ke, ke = keyE oid := ⟨_, rfl⟩
  obtain ⟨is, his⟩ : ∃ is, is = isO oid := ⟨_, rfl⟩
  rw [← hkr, ← hke, ← his] at HE
  rw [← hkr, ← hke]
  rw [← his] at HH
  obtain ⟨ht, hht⟩ : ∃ ht, ht = hgtO oid := ⟨_, rfl⟩
  rw [← hht] at HH
  clear hV h0 hB hcut e hl hkr hke his hht hoid
  go_enter Try.func11, Try.ntmps11
  go_upto_region 1 with fail
  rw [← HW.out]
  clear HW
  go_upto_region 4 with (go_at_call 20; refine HCut.out.mono ?_; rintro e w1 ⟨rfl, hct, hd, hsz⟩; have HC := Lib.hid hct; have HD := Lib.hid (And.intro hd hsz); clear hct hd hsz)
  obtain ⟨g, hg⟩ : ∃ g, g = V.heap.size := ⟨_, rfl⟩
  have HS : Hid (Save g w1 w1) := Lib.hid (Save.refl _ _)
  rw [← hg] at HC
  rw [← hg]
  have HG := Lib.hid hg
  clear hg HCut
  go_upto_region 5 with (first
    | (go_at_call 21; refine (number_cut oid HO.out _ _ _ _ HC.out).mono ?_; rintro e wx ⟨rfl, hct, hs⟩; have HC := Lib.hid hct; have HS := Lib.hid (HS.out.trans hs); clear hct hs)
    | (go_at_call 22; refine (node_cut _ _ _ _ _ HC.out).mono ?_; rintro e wx ⟨rfl, hct, hs⟩; have HC := Lib.hid hct; have HS := Lib.hid (HS.out.trans hs); clear hct hs)
    | ((with_reducible show wpList _ _ _ (Oper.mk _ (.build _ _) _ _ _ _ :: _) _ _); refine wl_build rfl 31 _ rfl (vec 65 (keyF (oid : Int) root seed)) (by kernel_rfl) ?_)
    | ((with_reducible show wpList _ _ _ (Oper.mk _ (.store _ _ _) _ _ _ _ :: _) _ _); refine wl_store rfl 31 _ _ rfl _ rfl _ rfl (run_store_arr (Arr.new wx _ _ _) (keyF (oid : Int) root seed) infoKey (keyF_one _ _ _ _)) ?_))
  obtain ⟨r, hr⟩ : ∃ r, r = wx.heap.size := ⟨_, rfl⟩
  obtain ⟨X, hX⟩ : ∃ X, X = (wx.alloc (.cells (vec 65 (keyF 0 zb zb)) 31)).setRow wx.heap.size (vec 65 (keyF (oid : Int) root seed)) := ⟨_, rfl⟩
  have hK : Arr X r 31 65 (keyF (oid : Int) root seed) := by rw [hX, hr]; exact (Arr.new wx _ _ _).row _
  have hb : Below wx.heap.size wx X := by rw [hX]; exact below_row ((Below.refl _ _).alloc (Nat.le_refl _) _) (Nat.le_refl _) _
  have hR : Arr X w.heap.size 31 65 (keyF 0 zb zb) := ((HA.out.1.under HD.out.1).save HS.out (by have := HG.out; have := HA.out.1.lt; omega)).under hb
  have hB : Below w.heap.size w X := HA.out.2.trans ((HD.out.1.mono HA.out.2.size).trans ((HS.out.below (by have := HG.out; have := HA.out.2.size; omega) (Nat.le_trans HA.out.2.size HD.out.1.size)).trans (hb.mono (Nat.le_trans (Nat.le_trans HA.out.2.size HD.out.1.size) HS.out.size))))
  have c0 := key_oid hK
  have HX := Lib.hid (And.intro hK (And.intro hR hB))
  rw [← hX, ← hr]
  clear hX hr hK hb hR hB HC HS HD HA
  cases is
  · have hk := HE.out
    rw [if_neg (by decide), if_neg (by decide)] at hk
    obtain ⟨rfl, rfl⟩ := hk
    clear HE
    go_wp2_with (first
      | (go_at_call 8; refine (HH.out _).mono ?_; rintro e w1 ⟨rfl, hw1⟩; rw [← hw1]; clear hw1)
      | ((with_reducible show wpList _ _ _ (Oper.mk _ (.build _ _) _ _ _ _ :: _) _ _); refine wl_build rfl 31 _ rfl (vec 65 (keyF 0 zb zb)) (by kernel_rfl) ?_)
      | ((with_reducible show wpList _ _ _ (Oper.mk _ (.store _ _ _) _ _ _ _ :: _) _ _); refine wl_store rfl 31 _ _ rfl _ rfl _ rfl (run_store_arr HX.out.2.1 (keyF 0 zb zb) infoKey (keyF_one _ _ _ _)) ?_))
    exact bodyPost_ret (results_ct rfl _ _ _ rfl (run_load_arr (HX.out.2.1.row _) Try.underlying31 rfl infoKey)) rfl ⟨rfl, below_row HX.out.2.2 (Nat.le_refl _) _⟩
  · have hk := HE.out
    rw [if_pos rfl, if_pos rfl] at hk
    obtain ⟨rfl, rfl⟩ := hk
    clear HE
    go_wp2_with (first
      | (go_at_call 8; refine (HH.out _).mono ?_; rintro e w1 ⟨rfl, hw1⟩; rw [← hw1]; clear hw1)
      | ((with_reducible show wpList _ _ _ (Oper.mk _ (.load 31 _) _ _ _ _ :: _) _ _); refine wl_load rfl 31 _ rfl r rfl _ (run_load_arr HX.out.1 Try.underlying31 rfl infoKey) ?_)
      | ((with_reducible show wpList _ _ _ (Oper.mk _ (.store _ _ _) _ _ _ _ :: _) _ _); refine wl_store rfl 31 _ _ rfl _ rfl _ rfl (run_store_arr HX.out.2.1 (keyF (oid : Int) root seed) infoKey (keyF_one _ _ _ _)) ?_))
    exact bodyPost_ret (results_ct rfl _ _ _ rfl (run_load_arr (HX.out.2.1.row _) Try.underlying31 rfl infoKey)) rfl ⟨rfl, below_row HX.out.2.2 (Nat.le_refl _) _⟩
end Go.Proofs.Ytfeiplaiekbdkaa
