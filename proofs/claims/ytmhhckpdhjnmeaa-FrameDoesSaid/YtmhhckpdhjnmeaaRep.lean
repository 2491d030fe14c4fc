/- slices.Replace of one span by at most two, in a row of the call's own. -/
import Derived.Test.YtmhhckpdhjnmeaaSpl
import Derived.Test.YtmhhckpdhjnmeaaCut
import Derived.Shelf.Spec.SlicesInsert
import Derived.BigQuiet
import Derived.Deep.QuietTactic
namespace Go.Proofs.Ytmhhckpdhjnmeaa
open Go.RowKit Go.Shelf

/-- All but the row's block is as it was. -/
theorem Save.grown {g : Nat} {w w' : World} (h : Save g w w') : w.grownBy w' (some g) := ⟨h.os, h.tape, h.output, h.size, fun k hk hn => h.block k hk fun e => hn (by rw [e])⟩
/-- What spans are taken out of: a row in another block, or nothing. -/
def Src2 (w : World) (b : Nat) (A : Option Addr) (l : List Sp) : Prop :=
  (A = none ∧ l = []) ∨ ∃ g n F, A = some ⟨g, 0, none⟩ ∧ g ≠ b ∧ Arr w g 24 n F ∧ l.length * 2 ≤ n ∧ ∀ j, j < l.length * 2 → F j = spf l j
theorem Src2.of {w : World} {base b : Nat} {v : Value} {l : List Sp} (h : OwnS w base v l) (hb : v.ownBlock ≠ some b) : ∃ A c, v = .slice A l.length c ∧ Src2 w b A l := by
  rcases h.2 with ⟨rfl, h0⟩ | ⟨g, cap, cur, rfl, _, hg, hn, hc, hs, ht⟩
  · obtain rfl := List.eq_nil_of_length_eq_zero h0
    exact ⟨none, 0, rfl, .inl ⟨rfl, rfl⟩⟩
  · refine ⟨_, cap, rfl, .inr ⟨g, cap * 2, fun j => cur.getD j undef, rfl, fun e => hb (by rw [e]; rfl), ?_, by omega, fun j hj => ?_⟩⟩
    · unfold Arr
      rw [hg, ← hs, ← blk_vec]
    · have h1 := spf_at l hj
      have hjc : j < cur.size := by omega
      rw [← ht, List.getElem?_take, if_pos hj] at h1
      have : cur[j]? = some (spf l j) := by simpa using h1
      show cur.getD j undef = _
      simp [hjc] at this ⊢
      exact this
theorem Src2.save {w w' : World} {b : Nat} {A : Option Addr} {l : List Sp} (h : Src2 w b A l) (hs : Save b w w') : Src2 w' b A l := by
  rcases h with h | ⟨g, n, F, rfl, hg, hA, h1, h2⟩
  · exact .inl h
  · exact .inr ⟨g, n, F, rfl, hg, hA.save hs hg, h1, h2⟩
/-- copy out of such a thing. -/
theorem copy_src {w : World} {b n o dLen dCap c : Nat} {A : Option Addr} {f : Nat → Value} {l : List Sp} {m : Nat} (h : Arr w b 24 n f) (hs : Src2 w b A l) (hlm : l.length = m) (hm : m ≤ dLen) (ho : o + m * 2 ≤ n) :
    ∃ w', (∀ ty, (Builtin.copy_ #[46, 46] ty #[.slice (some ⟨b, o, none⟩) dLen dCap, .slice A m c]).run Try.prog w = .ok (goInt (m : Nat)) w') ∧
      Arr w' b 24 n (spl o (m * 2) (spf l) f) ∧ Save b w w' := by
  subst hlm
  rcases hs with ⟨rfl, rfl⟩ | ⟨g, k, F, rfl, hg, hA, h1, h2⟩
  · refine ⟨w, fun _ => run_copy2_nil, ?_, Save.refl _ _⟩
    exact h.congr fun i _ => by unfold spl; rw [if_neg (by simp)]
  · exact ⟨_, fun _ => run_copy2 l.length h (Nat.min_eq_left hm).symm (fun j hj => by
      rw [show ((⟨g, 0, none⟩ : Addr).add j) = ⟨g, j, none⟩ by simp [Addr.add_lit], hA.cell (by omega), h2 j hj]) ho (spf_one l), h.row _, (Save.refl b w).setRow _⟩
/-- copy within the row itself. -/
theorem copy_self {w : World} {b n o s dLen dCap sLen c m : Nat} {f : Nat → Value} (h : Arr w b 24 n f) (hm : m = Nat.min sLen dLen) (ho : o + m * 2 ≤ n) (hs : s + m * 2 ≤ n) (h1 : ∀ i, i < m * 2 → (f (s + i)).oneCell' = true) :
    ∃ w', (∀ ty, (Builtin.copy_ #[46, 46] ty #[.slice (some ⟨b, o, none⟩) dLen dCap, .slice (some ⟨b, s, none⟩) sLen c]).run Try.prog w = .ok (goInt (m : Nat)) w') ∧
      Arr w' b 24 n (spl o (m * 2) (fun j => f (s + j)) f) ∧ Save b w w' :=
  ⟨_, fun _ => run_copy2 m h hm (fun j hj => by rw [Addr.add_lit, h.cell (by omega)]) ho h1, h.row _, (Save.refl b w).setRow _⟩
theorem clear_self {w : World} {b n o c m : Nat} {f : Nat → Value} (h : Arr w b 24 n f) (ho : o + m * 2 ≤ n) :
    ∃ w', (∀ ty, (Builtin.clear_ #[46] ty #[.slice (some ⟨b, o, none⟩) m c]).run Try.prog w = .ok (.tuple #[]) w') ∧
      Arr w' b 24 n (spl o (m * 2) zeroF f) ∧ Save b w w' := by
  obtain ⟨w', h1, h2⟩ := run_clear2 (ty := 0) (c := c) m h ho
  refine ⟨w', fun _ => h1, ?_⟩
  rw [h2]
  exact ⟨h.row _, (Save.refl b w).setRow _⟩
theorem spl_in {o m : Nat} {c f : Nat → Value} {j : Nat} (h1 : o ≤ j) (h2 : j < o + m) : spl o m c f j = c (j - o) := by unfold spl; rw [if_pos ⟨h1, h2⟩]
theorem spl_out {o m : Nat} {c f : Nat → Value} {j : Nat} (h : j < o ∨ o + m ≤ j) : spl o m c f j = f j := by unfold spl; rw [if_neg (by omega)]
/-- What a place holds behind the copies of the way in place. -/
theorem less_plain (i n m o k : Nat) (vs : List Sp) (F : Nat → Value) (hm : m ≤ 1) (hi : i + 1 < n) (hok : k = 0 ∨ (i + m + (n - (i + 1))) * 2 ≤ o) :
    (∀ j, j < i * 2 → spl o k zeroF (spl ((i + m) * 2) ((n - (i + 1)) * 2) (fun j => spl (i * 2) (m * 2) (spf vs) F ((i + 1) * 2 + j)) (spl (i * 2) (m * 2) (spf vs) F)) j = F j) ∧
    (∀ j, j < m * 2 → spl o k zeroF (spl ((i + m) * 2) ((n - (i + 1)) * 2) (fun j => spl (i * 2) (m * 2) (spf vs) F ((i + 1) * 2 + j)) (spl (i * 2) (m * 2) (spf vs) F)) (i * 2 + j) = spf vs j) ∧
    ∀ j, j < (n - (i + 1)) * 2 → spl o k zeroF (spl ((i + m) * 2) ((n - (i + 1)) * 2) (fun j => spl (i * 2) (m * 2) (spf vs) F ((i + 1) * 2 + j)) (spl (i * 2) (m * 2) (spf vs) F)) ((i + m) * 2 + j) = F ((i + 1) * 2 + j) := by
  refine ⟨fun j hj => ?_, fun j hj => ?_, fun j hj => ?_⟩
  · rw [spl_out (by omega), spl_out (by omega), spl_out (by omega)]
  · rw [spl_out (by omega), spl_out (by omega), spl_in (by omega) (by omega), show i * 2 + j - i * 2 = j by omega]
  · rw [spl_out (by omega), spl_in (by omega) (by omega), spl_out (by omega), show (i + 1) * 2 + ((i + m) * 2 + j - (i + m) * 2) = (i + 1) * 2 + j by omega]
set_option maxHeartbeats 2000000 in
set_option maxRecDepth 100000 in
/-- No more than one in the place of one, and not at the end: in place. -/
theorem rep_less (i n m c b : Nat) (A : Option Addr) (vc : Nat) (vs : List Sp) (hvs : vs.length = m) (hm : m ≤ 1) (hi : i + 1 < n) (hnc : n ≤ c) (hc : n ≤ 100000) (F : Nat → Value) (h1 : ∀ j, j < n * 2 → (F j).oneCell' = true) (w : World) (hA : Arr w b 24 (c * 2) F) (hS : Src2 w b A vs) :
    Calls Try.prog 39 #[.slice (some ⟨b, 0, none⟩) n c, .int .i64 (i : Int), .int .i64 ((i : Int) + 1), .slice A m vc] w fun e w' =>
      ∃ F', e = .returned (.slice (some ⟨b, 0, none⟩) (i + m + (n - (i + 1))) c) ∧ Arr w' b 24 (c * 2) F' ∧ Save b w w' ∧ (∀ j, j < i * 2 → F' j = F j) ∧ (∀ j, j < m * 2 → F' (i * 2 + j) = spf vs j) ∧ ∀ j, j < (n - (i + 1)) * 2 → F' ((i + m) * 2 + j) = F ((i + 1) * 2 + j) := by
  have hz1 : ¬ ((i : Int) = (i : Int) + 1) := by omega
  have hz2 : ¬ ((i : Int) + 1 = (n : Int)) := by omega
  have hb1 : (i : Int) + 1 ≤ (c : Int) := by omega
  have hb2 : (i : Int) ≤ (c : Int) := by omega
  have hb3 : (i : Int) < (n : Int) := by omega
  go_enter Try.func39, Try.ntmps39
  go_wp2_with fail
  have HA := Lib.hid hA
  have HS := Lib.hid hS
  have HN := Lib.hid (And.intro hvs (And.intro hi (And.intro hnc h1)))
  clear hA hS hvs h1
  go_quiet (fail)
  rename Nat => nq
  obtain ⟨w1, e1, h2, h3⟩ := copy_src (n := c * 2) (o := i * 2) (dLen := i + m + (n - (i + 1)) - i) (dCap := c - i) (c := vc) (HA.out.drewN nq) (HS.out.save ((Save.refl b w).drewN nq)) HN.out.1 (by omega) (by omega)
  have HA1 := Lib.hid h2
  have HS1 := Lib.hid h3
  clear h2 h3
  go_wp2_with fail
  obtain ⟨w2, e2, h2, h3⟩ := copy_self (n := c * 2) (o := (i + m) * 2) (s := (i + 1) * 2) (m := n - (i + 1)) (dLen := i + m + (n - (i + 1)) - (i + m)) (dCap := c - (i + m)) (sLen := n - (i + 1)) (c := c - (i + 1)) (show Arr w1.drew b 24 (c * 2) _ from HA1.out) (by rw [show i + m + (n - (i + 1)) - (i + m) = n - (i + 1) by omega]; exact (Nat.min_self _).symm) (by omega) (by omega)
    (fun j hj => by unfold spl; rw [if_neg (by omega)]; exact HN.out.2.2.2 _ (by omega))
  have HA2 := Lib.hid h2
  have HS2 := Lib.hid h3
  have hb5 : ¬ (c = i + m) := by omega
  have hb6 : ¬ (c = i + 1) := by omega
  have hw1 : IntKind.i64.wrap ((i : Int) + (m : Int)) = (i : Int) + (m : Int) := by rw [IntKind.wrap_i64]; omega
  have hq0 : (0 : Int) ≤ (i : Int) + (m : Int) := by omega
  have hq1 : (i : Int) + (m : Int) ≤ (i : Int) + (m : Int) + ((n - (i + 1) : Nat) : Int) := by omega
  have htn : ((i : Int) + (m : Int)).toNat = i + m := by omega
  have hq2 : (0 : Int) ≤ (i : Int) + 1 := by omega
  have hq3 : (i : Int) + 1 ≤ (n : Int) := by omega
  have mixed : Try.prog.follows .mixedOrders = true := by kernel_rfl
  clear h2 h3 e1
  go_region_law_o (refine step_copy_runI rfl _ _ 46 46 rfl (.slice (some ⟨b, (i + m) * 2, none⟩) (i + m + (n - (i + 1)) - (i + m)) (c - (i + m))) (.slice (some ⟨b, (i + 1) * 2, none⟩) (n - (i + 1)) (c - (i + 1))) (by simp [Act.eval, Act.put]) (by simp [Act.eval, Act.put]) (e2 _) ?_)
  obtain ⟨w3, e3, h2, h3⟩ := clear_self (n := c * 2) (o := 0) (m := n - (i + m + (n - (i + 1)))) (c := 0) HA2.out (by omega)
  obtain ⟨w4, e4, h4, h5⟩ := clear_self (n := c * 2) (o := (i + m + (n - (i + 1))) * 2) (m := n - (i + m + (n - (i + 1)))) (c := c - (i + m + (n - (i + 1)))) HA2.out (by omega)
  have HA3 := Lib.hid (And.intro h2 h3)
  have HA4 := Lib.hid (And.intro h4 h5)
  have HP1 := Lib.hid fun h : n - (i + m + (n - (i + 1))) = 0 => less_plain i n m 0 ((n - (i + m + (n - (i + 1)))) * 2) vs F hm hi (.inl (by omega))
  have HP2 := Lib.hid (less_plain i n m ((i + m + (n - (i + 1))) * 2) ((n - (i + m + (n - (i + 1)))) * 2) vs F hm hi (.inr (Nat.le_refl _)))
  have HSV := Lib.hid (((((Save.refl b w).drewN nq).trans HS1.out).trans ((Save.refl b w1).drewN 1)).trans HS2.out)
  clear h2 h3 h4 h5 e2
  go_wp2_with fail
  · have hc0 : c = i + m + (n - (i + 1)) := by assumption
    go_ret
    have ev : Value.slice (some ⟨b, 0, none⟩) (i + m + (n - (i + 1))) c = Value.slice (some ⟨b, 0, none⟩) (i + m + (n - (i + 1))) (i + m + (n - (i + 1))) := by rw [← hc0]
    rw [ev]
    exact ⟨_, rfl, HA3.out.1, HSV.out.trans HA3.out.2, HP1.out (by omega)⟩
  · go_ret
    exact ⟨_, rfl, HA4.out.1, HSV.out.trans HA4.out.2, HP2.out⟩

theorem more_plain (i n : Nat) (vs : List Sp) (F : Nat → Value) :
    (∀ j, j < i * 2 → spl (i * 2) (2 * 2) (spf vs) (spl ((i + 2) * 2) ((n - (i + 1)) * 2) (fun j => F ((i + 1) * 2 + j)) F) j = F j) ∧
    (∀ j, j < 2 * 2 → spl (i * 2) (2 * 2) (spf vs) (spl ((i + 2) * 2) ((n - (i + 1)) * 2) (fun j => F ((i + 1) * 2 + j)) F) (i * 2 + j) = spf vs j) ∧
    ∀ j, j < (n - (i + 1)) * 2 → spl (i * 2) (2 * 2) (spf vs) (spl ((i + 2) * 2) ((n - (i + 1)) * 2) (fun j => F ((i + 1) * 2 + j)) F) ((i + 2) * 2 + j) = F ((i + 1) * 2 + j) := by
  refine ⟨fun j hj => ?_, fun j hj => ?_, fun j hj => ?_⟩
  · rw [spl_out (by omega), spl_out (by omega)]
  · rw [spl_in (by omega) (by omega), show i * 2 + j - i * 2 = j by omega]
  · rw [spl_out (by omega), spl_in (by omega) (by omega), show (i + 1) * 2 + ((i + 2) * 2 + j - (i + 2) * 2) = (i + 1) * 2 + j by omega]
theorem overlaps_no {w : World} {b g n k o la ca lb cb : Nat} {f F : Nat → Value} (hA : Arr w b 24 n f) (hB : Arr w g 24 k F) (hne : b ≠ g) (hk : k ≠ 0) :
    (callFunc 53 #[.slice (some ⟨b, o, none⟩) la ca, .slice (some ⟨g, 0, none⟩) lb cb]).run Try.prog w = .ok (.value (.bool false)) w := by
  obtain ⟨i0, hi, hz0, hz1, hz2⟩ := info_parts infoS
  have hsz : ∀ w, (Go.sizeOf 24).run Try.prog w = .ok 2 w := fun w => by simp [sizeOf, typeInfo, hi, hz1]
  have hsa : w.shape? b = some (24, n) := by simp [World.shape?, show w.heap[b]? = _ from hA, vec_size]
  have hsb : w.shape? g = some (24, k) := by simp [World.shape?, show w.heap[g]? = _ from hB, vec_size]
  rw [run_callFunc_extern Try.func53 (by kernel_rfl) (by kernel_rfl) (by kernel_rfl) (e := Extern.SlicesOverlaps.overlaps #[46, 46] #[4]) (by kernel_rfl),
    Lib.run_overlaps_apart w 46 4 24 Try.underlying46 2 hsz ⟨b, o, none⟩ ⟨g, 0, none⟩ la ca lb cb hne _ _ _ _ hsa hsb hk (hA.frozen _) (hA.frozen _)]
  rfl
set_option maxHeartbeats 2000000 in
set_option maxRecDepth 100000 in
/-- Two in the place of one, not at the end, and there is room: in place. -/
theorem rep_more (i n c b g k : Nat) (G : Nat → Value) (vc : Nat) (vs : List Sp) (hvs : vs.length = 2) (hi : i + 1 < n) (hnc : n + 1 ≤ c) (hc : n ≤ 100000) (F : Nat → Value) (h1 : ∀ j, j < n * 2 → (F j).oneCell' = true) (w : World) (hA : Arr w b 24 (c * 2) F)
    (hG : Arr w g 24 k G) (hbg : b ≠ g) (hk : k ≠ 0) (hS : Src2 w b (some ⟨g, 0, none⟩) vs) :
    Calls Try.prog 39 #[.slice (some ⟨b, 0, none⟩) n c, .int .i64 (i : Int), .int .i64 ((i : Int) + 1), .slice (some ⟨g, 0, none⟩) 2 vc] w fun e w' =>
      ∃ F', e = .returned (.slice (some ⟨b, 0, none⟩) (i + 2 + (n - (i + 1))) c) ∧ Arr w' b 24 (c * 2) F' ∧ Save b w w' ∧ (∀ j, j < i * 2 → F' j = F j) ∧ (∀ j, j < 2 * 2 → F' (i * 2 + j) = spf vs j) ∧ ∀ j, j < (n - (i + 1)) * 2 → F' ((i + 2) * 2 + j) = F ((i + 1) * 2 + j) := by
  have hz1 : ¬ ((i : Int) = (i : Int) + 1) := by omega
  have hz2 : ¬ ((i : Int) + 1 = (n : Int)) := by omega
  have hb1 : (i : Int) + 1 ≤ (c : Int) := by omega
  have hb2 : (i : Int) ≤ (c : Int) := by omega
  have hb3 : (i : Int) < (n : Int) := by omega
  go_enter Try.func39, Try.ntmps39
  go_wp2_with fail
  have HA := Lib.hid hA
  have HS := Lib.hid hS
  have HG := Lib.hid hG
  have HN := Lib.hid (And.intro hvs (And.intro hi (And.intro hnc h1)))
  clear hA hS hvs h1 hG
  go_quiet (fail)
  rename Nat => nq
  have hov : ∀ la ca o, (callFunc 53 #[.slice (some ⟨b, o, none⟩) la ca, .slice (some ⟨g, 0, none⟩) 2 vc]).run Try.prog (w.drewN nq) = .ok (.value (.bool false)) (w.drewN nq) := fun la ca o => overlaps_no (HA.out.drewN nq) (HG.out.drewN nq) hbg hk
  have hb5 : ¬ (c = i + 2) := by omega
  have hb6 : ¬ (c = i + 1) := by omega
  have hw1 : IntKind.i64.wrap ((i : Int) + 2) = (i : Int) + 2 := by rw [IntKind.wrap_i64]; omega
  have hq0 : (0 : Int) ≤ (i : Int) + 2 := by omega
  have hq1 : (i : Int) + 2 ≤ (i : Int) + 2 + ((n - (i + 1) : Nat) : Int) := by omega
  have htn : ((i : Int) + 2).toNat = i + 2 := by omega
  have hgt : ¬ ((i : Int) + 2 ≤ (i : Int) + 1) := by omega
  go_wp2_with (simp only [hov])
  obtain ⟨w2, e2, h2, h3⟩ := copy_self (n := c * 2) (o := (i + 2) * 2) (s := (i + 1) * 2) (m := n - (i + 1)) (dLen := i + 2 + (n - (i + 1)) - (i + 2)) (dCap := c - (i + 2)) (sLen := n - (i + 1)) (c := c - (i + 1)) (show Arr (w.drewN nq).drew b 24 (c * 2) _ from HA.out) (by rw [show i + 2 + (n - (i + 1)) - (i + 2) = n - (i + 1) by omega]; exact (Nat.min_self _).symm) (by omega) (by omega)
    (fun j hj => HN.out.2.2.2 _ (by omega))
  have HA2 := Lib.hid h2
  have HS2 := Lib.hid h3
  have HSS := Lib.hid (HS.out.save ((((Save.refl b w).drewN nq).drewN 1).trans h3))
  clear h2 h3
  have hq2 : (0 : Int) ≤ (i : Int) + 1 := by omega
  have hq3 : (i : Int) + 1 ≤ (n : Int) := by omega
  have mixed : Try.prog.follows .mixedOrders = true := by kernel_rfl
  go_region_law_o (refine step_copy_runI rfl _ _ 46 46 rfl (.slice (some ⟨b, (i + 2) * 2, none⟩) (i + 2 + (n - (i + 1)) - (i + 2)) (c - (i + 2))) (.slice (some ⟨b, (i + 1) * 2, none⟩) (n - (i + 1)) (c - (i + 1))) (by simp [Act.eval, Act.put]) (by simp [Act.eval, Act.put]) (e2 _) ?_)
  obtain ⟨w3, e3, h2, h3⟩ := copy_src (n := c * 2) (o := i * 2) (dLen := i + 2 + (n - (i + 1)) - i) (dCap := c - i) (c := vc) HA2.out HSS.out HN.out.1 (by omega) (by omega)
  have HA3 := Lib.hid h2
  have HS3 := Lib.hid h3
  clear h2 h3 e2
  go_wp2_with fail
  go_ret
  exact ⟨_, rfl, HA3.out, (((Save.refl b w).drewN nq).drewN 1).trans (HS2.out.trans HS3.out), more_plain i n vs F⟩
end Go.Proofs.Ytmhhckpdhjnmeaa
