/- An error's number is never 0. Plain. -/
import Derived.Test.YtmcpmcicolpoeaaDoorMb
import Derived.Test.YtmcpmcicolpoeaaDoorMc
namespace Go.Proofs.YtmcpmcicolpoeaaDoor

def NZ {α : Type} (c : Cod α) : Prop := ∀ b p x, c.get b p = .error x → x.1 ≠ 0
theorem NZ.raw {α : Type} {m : Nat} {enc : α → Except Nat By} {dec : By → Except Nat α} (h : ∀ l e, dec l = .error e → e ≠ 0) : NZ (raw m enc dec) := by
  intro b p x hx
  change (if p + m ≤ b.length then (match dec ((b.drop p).take m) with | .ok a => Except.ok (a, p + m) | .error e => .error (e, p)) else .error (141, p)) = _ at hx
  split at hx
  · cases hd : dec ((b.drop p).take m) with
    | ok a => rw [hd] at hx; cases hx
    | error e => rw [hd] at hx; cases hx; exact h _ _ hd
  · cases hx; exact (by decide : (141 : Nat) ≠ 0)
theorem NZ.fld {m lo hi e : Nat} (he : e ≠ 0) : NZ (fld m lo hi e) := NZ.raw fun l e' h => by
  split at h
  · cases h
  · cases h; exact he
theorem NZ.dep {α β : Type} {c : Cod α} {d : α → Cod β} (hc : NZ c) (hd : ∀ a, NZ (d a)) : NZ (c.dep d) := by
  intro b p x hx
  change (match c.get b p with | .ok (a, q) => (match (d a).get b q with | .ok (y, r) => Except.ok ((a, y), r) | .error e => .error e) | .error e => .error e) = _ at hx
  cases h1 : c.get b p with
  | error e => rw [h1] at hx; cases hx; exact hc _ _ _ h1
  | ok aq =>
    obtain ⟨a, q⟩ := aq
    rw [h1] at hx
    simp only at hx
    cases h2 : (d a).get b q with
    | error e => rw [h2] at hx; cases hx; exact hd _ _ _ _ h2
    | ok yr => rw [h2] at hx; cases hx
theorem NZ.map {α β : Type} {c : Cod α} {f : α → β} {g : β → α} (hc : NZ c) : NZ (c.map f g) := by
  intro b p x hx
  change (match c.get b p with | .ok (a, q) => Except.ok (f a, q) | .error e => .error e) = _ at hx
  cases h1 : c.get b p with
  | error e => rw [h1] at hx; cases hx; exact hc _ _ _ h1
  | ok aq => rw [h1] at hx; cases hx
theorem NZ.list {α : Type} {c : Cod α} (hc : NZ c) : ∀ n, NZ (listC c n)
  | 0, b, p, x, hx => by cases hx
  | n + 1, b, p, x, hx => by
    rw [list_succ] at hx
    cases h1 : c.get b p with
    | error e => rw [h1] at hx; cases hx; exact hc _ _ _ h1
    | ok aq =>
      obtain ⟨a, q⟩ := aq
      rw [h1] at hx
      simp only at hx
      cases h2 : (listC c n).get b q with
      | error e => rw [h2] at hx; cases hx; exact NZ.list hc n _ _ _ h2
      | ok yr => rw [h2] at hx; cases hx
theorem nz_u64 : NZ u64C := NZ.fld (by decide)
theorem nz_u32 : NZ u32C := NZ.fld (by decide)
theorem nz_bool : NZ boolC := NZ.map (NZ.fld (by decide))
theorem nz_en : NZ endC := NZ.map (NZ.dep (NZ.fld (by decide)) fun _ => NZ.dep (NZ.fld (by decide)) fun _ => nz_u64)
theorem nz_ch : NZ chC := NZ.map (NZ.dep nz_u64 fun _ => NZ.dep nz_u64 fun _ => NZ.dep nz_en fun _ => nz_en)
theorem nz_wi : NZ winC := NZ.map (NZ.dep nz_u64 fun _ => NZ.dep nz_u64 fun _ => NZ.dep nz_u64 fun _ => NZ.fld (by decide))
theorem nz_de : NZ devC := NZ.map (NZ.dep nz_u64 fun _ => NZ.dep nz_u64 fun _ => nz_u64)
theorem nz_ir : NZ irqC := NZ.map (NZ.dep (NZ.fld (by decide)) fun _ => NZ.dep (NZ.fld (by decide)) fun _ => nz_bool)
theorem nz_name : NZ nameC := NZ.raw fun l e h => by
  split at h
  · cases h
  · cases h; decide
theorem nz_key : NZ (keyC kOk) := NZ.raw fun l e h => by
  split at h
  · cases h
  · cases h; decide
theorem nz_g : NZ (guestC kOk) := NZ.map (NZ.dep (NZ.dep nz_name fun _ => NZ.dep nz_bool fun _ => NZ.dep nz_u32 fun _ => NZ.dep nz_u32 fun _ => NZ.dep nz_u32 fun _ => NZ.dep nz_u64 fun _ => NZ.dep nz_u64 fun _ => nz_key)
  fun _ => NZ.dep (NZ.dep (NZ.fld (by decide)) fun _ => NZ.dep (NZ.fld (by decide)) fun _ => NZ.dep (NZ.fld (by decide)) fun _ => NZ.fld (by decide)) fun _ => NZ.dep (NZ.list nz_wi _) fun _ => NZ.dep (NZ.list nz_de _) fun _ => NZ.dep (NZ.list nz_ir _) fun _ => NZ.list nz_u32 _)
theorem nz_c : NZ (cfC kOk) := NZ.map (NZ.dep (NZ.dep (NZ.fld (by decide)) fun _ => NZ.dep (NZ.fld (by decide)) fun _ => NZ.dep (NZ.fld (by decide)) fun _ => NZ.dep (NZ.fld (by decide)) fun _ => NZ.dep (NZ.fld (by decide)) fun _ => nz_u32)
  fun _ => NZ.dep (NZ.list nz_g _) fun _ => NZ.list nz_ch _)
theorem getC_nz {b : By} {er pl : Nat} (h : getC kOk b = .error (er, pl)) : er ≠ 0 := by
  unfold getC at h
  split at h
  · cases h; decide
  · cases h1 : (cfC kOk).get b 0 with
    | error e => rw [h1] at h; cases h; exact nz_c _ _ _ h1
    | ok cq =>
      obtain ⟨c, q⟩ := cq
      rw [h1] at h
      simp only at h
      split at h
      · cases h; decide
      · cases h
end Go.Proofs.YtmcpmcicolpoeaaDoor
