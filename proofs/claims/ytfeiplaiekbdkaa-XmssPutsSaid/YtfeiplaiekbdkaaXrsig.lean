/- The reference's SigOf. -/
import Derived.Test.YtfeiplaiekbdkaaXsig
import Derived.Test.YtfeiplaiekbdkaaXrkey
namespace Go.Proofs.Ytfeiplaiekbdkaa
open Go.RowKit
attribute [local go_sem ↓ high] zeroV26 zeroSig

theorem u8s_nodesL (l : List Nd) : u8s (nodesL l) = cellsN l := by
  induction l with
  | nil => rfl
  | cons f l ih =>
    rw [nodesL_cons, cellsN_cons, ← ih]
    simp [u8s, nodeL, nodeC, bys]
theorem lies_nodes {w : World} {B : Nat} {p : Addr} {l : List Nd} (h : Lies w B 1 (some p) (nodesL l).length (u8s (nodesL l))) : NRow w B (some p) l := fun hn => by
  have hl : (nodesL l).length ≠ 0 := by rw [nodesL_length]; have := List.length_pos_iff.2 hn; omega
  obtain ⟨a, e, hb, hc⟩ := h.2 hl
  injection e with e
  subst e
  refine ⟨_, rfl, hb, fun j hj i hi => ?_⟩
  have hc' : ∀ j x, (u8s (nodesL l))[j]? = some x → w.cell? (p.add j) = some x := fun j x hx => by
    obtain ⟨hj, rfl⟩ := List.getElem?_eq_some_iff.1 hx
    exact hc j hj
  exact hc' _ _ (by rw [u8s_nodesL]; exact cellsN_get l j hj i hi)
/-- Where the parts of a signature lie. -/
theorem lies_sig {w : World} {B : Nat} {A : Option Addr} {n idx : Nat} {r : Nd} {ots auth : List Nd} (h : Lies w B 1 A n (u8s (sigL idx r ots auth))) (hn : n = (sigL idx r ots auth).length) :
    ∃ a, A = some a ∧ a.block < B ∧ (∀ i, i < 32 → w.cell? ((a.add 4).add i) = some (bys r i)) ∧ NRow w B (some (a.add 36)) (ots ++ auth) := by
  subst hn
  have hl := sigL_length idx r ots auth
  have e : sigL idx r ots auth ≠ [] := fun e => by rw [e] at hl; simp at hl; omega
  obtain ⟨a, rfl, hab, -⟩ := h.2 (by rw [hl]; omega)
  unfold sigL at h e
  have h1 := (lies_left h e).2
  rw [numBytes_len] at h1
  have e2 : nodeL r ++ (nodesL ots ++ nodesL auth) ≠ [] := fun e => by have h2 := congrArg List.length e; rw [List.length_append, nodeL_length, List.length_nil] at h2; omega
  obtain ⟨h2, h3⟩ := lies_left h1 e2
  rw [nodeL_length, addr_add_add, ← nodesL_append] at h3
  obtain ⟨a1, e1, _, c1⟩ := lies_node h2
  injection e1 with e1
  subst e1
  exact ⟨a, rfl, hab, c1, lies_nodes h3⟩

set_option maxHeartbeats 1000000 in
set_option maxRecDepth 100000 in
theorem rsigOf_a (b : List UInt8) (oid : Nat) (hoid : oid < 4294967296) (his : isO oid = false) : SigAns 16 b oid 0 zb [] [] 80 := by
  intro A c w _ _
  have h0 : Arr (w.alloc (.cells (vec 35 sig0) 44)) w.heap.size 44 35 sig0 := Arr.new w _ _ _
  have HS := Lib.hid (fun W => rheight_any oid hoid W)
  obtain ⟨s, hs⟩ : ∃ s, s = hgtO oid := ⟨_, rfl⟩
  rw [← hs, his] at HS
  clear hs
  unfold sig0 at h0
  go_enter Try.func16, Try.ntmps16
  go_wp2_with (first
    | (go_at_call 9; refine (HS.out _).mono ?_; rintro e w1 ⟨rfl, hw1⟩; rw [← hw1]; clear hw1)
    | ((with_reducible show wpList _ _ _ (Oper.mk _ (.build _ _) _ _ _ _ :: _) _ _); refine wl_build rfl 44 _ rfl (vec 35 sig0) (by kernel_rfl) ?_)
    | ((with_reducible show wpList _ _ _ (Oper.mk _ (.store _ _ _) _ _ _ _ :: _) _ _); refine wl_store rfl 44 _ _ rfl _ rfl _ rfl (run_store_arr h0 sig0 infoSig (sig0_one _)) ?_))
  exact bodyPost_ret (results_ct rfl _ _ _ rfl (run_load_arr (h0.row _) Try.underlying44 rfl infoSig)) rfl ⟨none, 0, none, 0, rfl, NRow.nil _ _ _, NRow.nil _ _ _, below_row ((Below.refl _ _).alloc (Nat.le_refl _) _) (Nat.le_refl _) _⟩
set_option maxHeartbeats 1000000 in
set_option maxRecDepth 100000 in
theorem rsigOf_b (b : List UInt8) (oid : Nat) (hbl : b.length ≤ 3000) (hoid : oid < 4294967296) (his : isO oid = true) (hb : b.length ≠ 36 + 32 * (67 + hgtO oid)) : SigAns 16 b oid 0 zb [] [] 81 := by
  intro A c w _ hl
  have h0 : Arr (w.alloc (.cells (vec 35 sig0) 44)) w.heap.size 44 35 sig0 := Arr.new w _ _ _
  have HS := Lib.hid (fun W => rheight_any oid hoid W)
  have hle := hgtO_le oid
  obtain ⟨s, hs⟩ : ∃ s, s = hgtO oid := ⟨_, rfl⟩
  rw [← hs, his] at HS
  rw [← hs] at hb hle
  have t1 : ((b.length : Int) != 36 + 32 * (67 + (s : Int))) = true := bne_iff_ne.2 (by omega)
  obtain ⟨n, hn⟩ : ∃ n, n = numOf b 0 4 false := ⟨_, rfl⟩
  have HN := Lib.hid (fun W (h : Lies W w.heap.size 1 A b.length (u8s b)) => by have := number_any b A c w.heap.size 0 4 false (by decide) W (by unfold maxLen; omega) h; rw [← hn] at this; exact this)
  have HL := Lib.hid (hl.alloc (Nat.le_refl _) (.cells (vec 35 sig0) 44))
  have HL2 : Hid (Lies (w.alloc (.cells (vec 35 (sigF 0 zb (.slice none 0 0) (.slice none 0 0))) 44)) w.heap.size 1 A b.length (u8s b)) := HL
  clear hs hb hn hl HL
  unfold sig0 at h0
  go_enter Try.func16, Try.ntmps16
  go_wp2_with (first
    | (go_at_call 9; refine (HS.out _).mono ?_; rintro e w1 ⟨rfl, hw1⟩; rw [← hw1]; clear hw1)
    | (go_at_call 23; refine (HN.out _ HL2.out).mono ?_; rintro e w1 ⟨rfl, hw1⟩; rw [← hw1]; clear hw1)
    | ((with_reducible show wpList _ _ _ (Oper.mk _ (.build _ _) _ _ _ _ :: _) _ _); refine wl_build rfl 44 _ rfl (vec 35 sig0) (by kernel_rfl) ?_)
    | ((with_reducible show wpList _ _ _ (Oper.mk _ (.store _ _ _) _ _ _ _ :: _) _ _); refine wl_store rfl 44 _ _ rfl _ rfl _ rfl (run_store_arr h0 sig0 infoSig (sig0_one _)) ?_))
  exact bodyPost_ret (results_ct rfl _ _ _ rfl (run_load_arr (h0.row _) Try.underlying44 rfl infoSig)) rfl ⟨none, 0, none, 0, rfl, NRow.nil _ _ _, NRow.nil _ _ _, below_row ((Below.refl _ _).alloc (Nat.le_refl _) _) (Nat.le_refl _) _⟩
end Go.Proofs.Ytfeiplaiekbdkaa
