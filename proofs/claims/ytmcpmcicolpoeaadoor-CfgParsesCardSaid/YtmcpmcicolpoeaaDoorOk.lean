/- What was put or read is within bounds; a configuration that was read can be read again. -/
import Derived.Test.YtmcpmcicolpoeaaDoorGp
import Derived.Test.YtmcpmcicolpoeaaDoorCg
import Derived.Test.YtmcpmcicolpoeaaDoorMf
namespace Go.Proofs.YtmcpmcicolpoeaaDoor
open Go.RowKit

theorem list_put_mem {α : Type} {c : Cod α} : ∀ (n : Nat) (l : List α) (bs : By), (listC c n).put l = .ok bs → ∀ x ∈ l, ∃ b, c.put x = .ok b
  | 0, l, bs, h, x, hx => by
    have := list_len c 0 l bs h
    rw [List.length_eq_zero_iff] at this
    subst this; cases hx
  | n + 1, [], bs, h, x, hx => by cases hx
  | n + 1, y :: ys, bs, h, x, hx => by
    have h : (c.dep fun _ => listC c n).put (y, ys) = .ok bs := h
    obtain ⟨b1, b2, h1, h2, _⟩ := dep_put h
    rcases List.mem_cons.1 hx with rfl | hx
    · exact ⟨b1, h1⟩
    · exact list_put_mem n ys b2 h2 x hx
theorem u64_put {z : Int} {bs : By} (h : u64C.put z = .ok bs) : u64B z := by obtain ⟨h1, h2, _⟩ := fld_put h; unfold u64B; omega
theorem u32_put {z : Int} {bs : By} (h : u32C.put z = .ok bs) : u32B z := by obtain ⟨h1, h2, _⟩ := fld_put h; unfold u32B; omega
theorem wi_put {x : Wi} {bs : By} (h : winC.put x = .ok bs) : WiB x := by
  obtain ⟨_, _, h0, h, _⟩ := dep_put (show (u64C.dep fun _ => u64C.dep fun _ => u64C.dep fun _ => fld 4 0 7 144).put (x.ipa, x.pa, x.size, x.perm) = .ok bs from h)
  obtain ⟨_, _, h1, h, _⟩ := dep_put h
  obtain ⟨_, _, h2, h3, _⟩ := dep_put h
  obtain ⟨q1, q2, _⟩ := fld_put h3
  exact ⟨u64_put h0, u64_put h1, u64_put h2, by simp only at q1 q2; unfold i64B; omega⟩
theorem de_put {x : De} {bs : By} (h : devC.put x = .ok bs) : DeB x := by
  obtain ⟨_, _, h0, h, _⟩ := dep_put (show (u64C.dep fun _ => u64C.dep fun _ => u64C).put (x.ipa, x.pa, x.size) = .ok bs from h)
  obtain ⟨_, _, h1, h2, _⟩ := dep_put h
  exact ⟨u64_put h0, u64_put h1, u64_put h2⟩
theorem ir_put {x : Ir} {bs : By} (h : irqC.put x = .ok bs) : IrB x := by
  obtain ⟨_, _, h0, h, _⟩ := dep_put (show ((fld 2 0 65535 144).dep fun _ => (fld 2 0 65535 144).dep fun _ => boolC).put (x.number, x.cpu, x.edge) = .ok bs from h)
  obtain ⟨_, _, h1, _, _⟩ := dep_put h
  obtain ⟨q1, q2, _⟩ := fld_put h0
  obtain ⟨q3, q4, _⟩ := fld_put h1
  simp only at q1 q2 q3 q4
  unfold IrB i64B; omega
theorem en_put {x : En} {bs : By} (h : endC.put x = .ok bs) : EnB x := by
  obtain ⟨_, _, h0, h, _⟩ := dep_put (show ((fld 2 0 65535 144).dep fun _ => (fld 2 0 7 144).dep fun _ => u64C).put (x.guest, x.perm, x.ipa) = .ok bs from h)
  obtain ⟨_, _, h1, h2, _⟩ := dep_put h
  obtain ⟨q1, q2, _⟩ := fld_put h0
  obtain ⟨q3, q4, _⟩ := fld_put h1
  simp only at q1 q2 q3 q4
  exact ⟨by unfold i64B; omega, by unfold i64B; omega, u64_put h2⟩
theorem ch_put {x : Ch} {bs : By} (h : chC.put x = .ok bs) : ChB x := by
  obtain ⟨_, _, h0, h, _⟩ := dep_put (show (u64C.dep fun _ => u64C.dep fun _ => endC.dep fun _ => endC).put (x.pa, x.size, x.a, x.b) = .ok bs from h)
  obtain ⟨_, _, h1, h, _⟩ := dep_put h
  obtain ⟨_, _, h2, h3, _⟩ := dep_put h
  exact ⟨u64_put h0, u64_put h1, en_put h2, en_put h3⟩
theorem g_put {g : Gs} {bs : By} (h : (guestC kOk).put g = .ok bs) : GsB g ∧ g.name.length ≤ 16 := by
  obtain ⟨_, _, hh, h, _⟩ := dep_put (show ((ghC kOk).dep fun _ => cntC.dep lstC).put ((g.name, g.must, g.off, g.len, g.cpus, g.entry, g.dtb, g.key), ((g.wins.length : Int), (g.devs.length : Int), (g.irqs.length : Int), (g.strs.length : Int)), g.wins, g.devs, g.irqs, g.strs) = .ok bs from h)
  obtain ⟨_, _, _, hl, _⟩ := dep_put h
  obtain ⟨_, _, n0, hh, _⟩ := dep_put hh
  obtain ⟨_, _, _, hh, _⟩ := dep_put hh
  obtain ⟨_, _, h2, hh, _⟩ := dep_put hh
  obtain ⟨_, _, h3, hh, _⟩ := dep_put hh
  obtain ⟨_, _, h4, hh, _⟩ := dep_put hh
  obtain ⟨_, _, h5, hh, _⟩ := dep_put hh
  obtain ⟨_, _, h6, h7, _⟩ := dep_put hh
  obtain ⟨_, _, l0, hl, _⟩ := dep_put hl
  obtain ⟨_, _, l1, hl, _⟩ := dep_put hl
  obtain ⟨_, _, l2, l3, _⟩ := dep_put hl
  have hk : g.key.length = 68 := by
    have h7 : (if g.key.length = 68 ∧ kOk g.key = true then Except.ok g.key else .error 144) = Except.ok _ := h7
    split at h7
    · rename_i hc; exact hc.1
    · cases h7
  have hn : g.name.length ≤ 16 := by
    have n0 : (if nameOk g.name = true then Except.ok (nameE g.name) else .error 143) = Except.ok _ := n0
    split at n0
    · rename_i hc
      unfold nameOk at hc
      simp only [Bool.and_eq_true, decide_eq_true_eq] at hc
      exact hc.2
    · cases n0
  exact ⟨⟨u32_put h2, u32_put h3, u32_put h4, u64_put h5, u64_put h6, hk, fun y hy => (list_put_mem _ _ _ l0 y hy).elim fun _ h => wi_put h, fun y hy => (list_put_mem _ _ _ l1 y hy).elim fun _ h => de_put h, fun y hy => (list_put_mem _ _ _ l2 y hy).elim fun _ h => ir_put h, fun y hy => (list_put_mem _ _ _ l3 y hy).elim fun _ h => u32_put h⟩, hn⟩
theorem c_put {x : Cf} {b : By} (h : putC kOk x = .ok b) : CfB x ∧ ∀ g ∈ x.gs, g.name.length ≤ 16 := by
  unfold putC at h
  cases h1 : (cfC kOk).put x with
  | error e => rw [h1] at h; cases h
  | ok bs =>
    obtain ⟨_, _, hh, h, _⟩ := dep_put (show (headC.dep fun h => (listC (guestC kOk) h.2.2.1.toNat).dep fun _ => listC chC h.2.2.2.1.toNat).put ((1111705159, 1, (x.gs.length : Int), (x.chs.length : Int), 0, x.ver), x.gs, x.chs) = .ok bs from h1)
    obtain ⟨_, _, g1, g2, _⟩ := dep_put h
    obtain ⟨_, _, _, hh, _⟩ := dep_put hh
    obtain ⟨_, _, _, hh, _⟩ := dep_put hh
    obtain ⟨_, _, _, hh, _⟩ := dep_put hh
    obtain ⟨_, _, _, hh, _⟩ := dep_put hh
    obtain ⟨_, _, _, hv, _⟩ := dep_put hh
    exact ⟨⟨u32_put hv, fun g hg => (list_put_mem _ _ _ g1 g hg).elim fun _ h => (g_put h).1, fun y hy => (list_put_mem _ _ _ g2 y hy).elim fun _ h => ch_put h⟩, fun g hg => (list_put_mem _ _ _ g1 g hg).elim fun _ h => (g_put h).2⟩
theorem CfB.nmK {x : Cf} (h : CfB x) (hn : ∀ g ∈ x.gs, g.name.length ≤ 1000000) : NmK x := fun g hg => ⟨(h.gs g hg).key, hn g hg⟩
/-- How long what is put is. -/
structure Lens (x : Cf) : Prop where
  gs : x.gs.length ≤ 16
  chs : x.chs.length ≤ 32
  ls : ∀ g ∈ x.gs, g.wins.length ≤ 16 ∧ g.devs.length ≤ 16 ∧ g.irqs.length ≤ 64 ∧ g.strs.length ≤ 32
theorem errL_zero' {α : Type} {e : α → Nat} : ∀ {l : List α}, errL e l = 0 → ∀ x ∈ l, e x = 0
  | [], _, x, hx => by cases hx
  | y :: ys, h, x, hx => by
    have h : (if e y = 0 then errL e ys else e y) = 0 := h
    by_cases h0 : e y = 0
    · rw [if_pos h0] at h
      rcases List.mem_cons.1 hx with rfl | hx
      · exact h0
      · exact errL_zero' h x hx
    · rw [if_neg h0] at h; exact absurd h h0
theorem lens_of {x : Cf} (h : errC x = 0) : Lens x := by
  unfold errC at h
  by_cases h1 : (inB (x.gs.length : Int) 1 16 && inB (x.chs.length : Int) 0 32) = false
  · rw [if_pos h1] at h; cases h
  rw [if_neg h1] at h
  have h1 : (inB (x.gs.length : Int) 1 16 && inB (x.chs.length : Int) 0 32) = true := by simpa using h1
  unfold inB at h1
  simp only [Bool.and_eq_true, decide_eq_true_eq] at h1
  by_cases h2 : errL errG x.gs = 0
  · refine ⟨by omega, by omega, fun g hg => ?_⟩
    have h3 := errL_zero' h2 g hg
    unfold errG at h3
    cases h4 : nameOk g.name <;> cases h5 : kOk g.key <;> cases h6 : cntOk g <;> rw [h4, h5, h6] at h3 <;> simp at h3
    unfold cntOk inB at h6
    simp only [Bool.and_eq_true, decide_eq_true_eq] at h6
    omega
  · rw [if_neg h2] at h; exact absurd h h2
theorem errP_put {x : Cf} (hb : CfB x) (h : errP x = 0) : putC kOk x = .ok (layC x) ∧ Lens x := by
  refine ⟨by rw [putC_is hb, if_pos h], lens_of ?_⟩
  unfold errP at h
  by_cases h0 : errC x = 0
  · exact h0
  · rw [if_neg h0] at h; exact absurd h h0
theorem put_errP {x : Cf} {b : By} (h : putC kOk x = .ok b) : CfB x ∧ errP x = 0 ∧ layC x = b ∧ Lens x ∧ NmK x := by
  obtain ⟨hb, hn⟩ := c_put h
  have h2 := putC_is hb
  by_cases h0 : errP x = 0
  · rw [if_pos h0, h] at h2
    injection h2 with h2
    exact ⟨hb, h0, h2.symm, (errP_put hb h0).2, hb.nmK fun g hg => Nat.le_trans (hn g hg) (by decide)⟩
  · rw [if_neg h0, h] at h2; cases h2
theorem cfgV_read {base : Nat} {w : World} {x : Cf} {v : Value} (h : cfgV base w x v) (hl : Lens x) : ∃ a c, v = .agg (vec 3 (cfE x.ver a c)) ∧ CfR w w.heap.size x a c := by
  obtain ⟨a, c, rfl, ⟨ys, hm, hk, hrow, hall⟩, hch⟩ := h
  obtain ⟨A, d, rfl, _, hr, _⟩ := hrow.form
  obtain ⟨A2, d2, rfl, _, hr2, _⟩ := hch.form
  have hlen : ys.length = x.gs.length := by rw [← hm, List.length_map]
  refine ⟨_, _, rfl, ⟨A, d, ys, by rw [hlen], hm, ⟨hr, fun y hy => ?_⟩, Nat.le_trans hl.gs (by decide)⟩, ⟨A2, d2, rfl, hr2, Nat.le_trans hl.chs (by decide)⟩⟩
  obtain ⟨ho, _⟩ := hall y hy
  obtain ⟨q0, q1, q2, q3⟩ := hl.ls y.g (by rw [← hm]; exact List.mem_map_of_mem hy)
  obtain ⟨B0, c0, e0, _, r0, _⟩ := ho.wi.form
  obtain ⟨B1, c1, e1, _, r1, _⟩ := ho.de.form
  obtain ⟨B2, c2, e2, _, r2, _⟩ := ho.ir.form
  obtain ⟨B3, c3, e3, _, r3, _⟩ := ho.st.form
  exact ⟨⟨B0, c0, e0, r0, by omega⟩, ⟨B1, c1, e1, r1, by omega⟩, ⟨B2, c2, e2, r2, by omega⟩, ⟨B3, c3, e3, r3, by omega⟩⟩
end Go.Proofs.YtmcpmcicolpoeaaDoor
