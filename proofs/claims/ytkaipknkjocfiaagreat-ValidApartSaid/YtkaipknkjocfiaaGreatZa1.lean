import Derived.Laws.BitsAllLaws
namespace Go.Proofs.YtkaipknkjocfiaaGreat
abbrev By := List UInt8
def be : Nat → Nat → By
 | 0, _ => []
 | m + 1, n => be m (n / 256) ++ [UInt8.ofNat (n % 256)]
def val (l : By) : Nat := l.foldl (fun a x => a * 256 + x.toNat) 0
theorem be_len : ∀ m n, (be m n).length = m
 | 0, _ => rfl
 | m + 1, n => by simp [be, be_len m]
theorem val_snoc (l : By) (x : UInt8) : val (l ++ [x]) = val l * 256 + x.toNat := by simp [val]
theorem rev_ind {P : By → Prop} (h0 : P []) (h1 : ∀ l x, P l → P (l ++ [x])) (l : By) : P l := by
 rw [← List.reverse_reverse l]
 induction l.reverse with
 | nil => exact h0
 | cons x t ih => rw [List.reverse_cons]; exact h1 _ _ ih
theorem val_lt (l : By) : val l < 256 ^ l.length := by
 refine rev_ind (P := fun l => val l < 256 ^ l.length) (by simp [val]) (fun l x ih => ?_) l
 have := x.toNat_lt
 rw [val_snoc, List.length_append, List.length_singleton, Nat.pow_succ]; omega
structure Cod (α : Type) where
 put : α → Except Nat By
 get : By → Nat → Except (Nat × Nat) (α × Nat)
structure Cod.Ok {α : Type} (c : Cod α) : Prop where
 back : ∀ a bs, c.put a = .ok bs → ∀ pre post : By, c.get (pre ++ bs ++ post) pre.length = .ok (a, pre.length + bs.length)
 once : ∀ (b : By) p a q, p ≤ b.length → c.get b p = .ok (a, q) → p ≤ q ∧ q ≤ b.length ∧ c.put a = .ok ((b.drop p).take (q - p))
 cuts : ∀ a bs, c.put a = .ok bs → ∀ (pre : By) k, k < bs.length → ∃ p, c.get (pre ++ bs.take k) pre.length = .error (141, p) ∧ p ≤ pre.length + k
def raw {α : Type} (m : Nat) (enc : α → Except Nat By) (dec : By → Except Nat α) : Cod α where
 put := enc
 get b p := if p + m ≤ b.length then match dec ((b.drop p).take m) with
  | .ok a => .ok (a, p + m)
  | .error e => .error (e, p)
  else .error (141, p)
def fld (m lo hi e : Nat) : Cod Int := raw m (fun z => if (lo : Int) ≤ z ∧ z ≤ (hi : Int) then .ok (be m z.toNat) else .error e) fun l => if lo ≤ val l ∧ val l ≤ hi then .ok (val l : Int) else .error e
def Cod.map {α β : Type} (c : Cod α) (f : α → β) (g : β → α) : Cod β where
 put x := c.put (g x)
 get b p := match c.get b p with
  | .ok (a, q) => .ok (f a, q)
  | .error e => .error e
end Go.Proofs.YtkaipknkjocfiaaGreat
namespace Go.Proofs.YtkaipknkjocfiaaGreat
def sign (c : UInt8) : Bool := (97 ≤ c && c ≤ 122) || (48 ≤ c && c ≤ 57) || c == 45
def nameOk (s : By) : Bool := s.all sign && decide (1 ≤ s.length) && decide (s.length ≤ 16)
def nameE (s : By) : By := s ++ List.replicate (16 - s.length) 0
def u64C : Cod Int := fld 8 0 18446744073709551615 144
def u32C : Cod Int := fld 4 0 4294967295 144
def boolC : Cod Bool := (fld 4 0 1 144).map (fun z => decide (z = 1)) (fun b => cond b 1 0)
structure Wi where
 ipa : Int
 pa : Int
 size : Int
 perm : Int
structure De where
 ipa : Int
 pa : Int
 size : Int
structure Ir where
 number : Int
 cpu : Int
 edge : Bool
structure En where
 guest : Int
 perm : Int
 ipa : Int
structure Ch where
 pa : Int
 size : Int
 a : En
 b : En
structure Gs where
 name : By
 must : Bool
 off : Int
 len : Int
 cpus : Int
 entry : Int
 dtb : Int
 key : By
 wins : List Wi
 devs : List De
 irqs : List Ir
 strs : List Int
structure Cf where
 ver : Int
 gs : List Gs
 chs : List Ch
section
variable (ko : By → Bool)
end
end Go.Proofs.YtkaipknkjocfiaaGreat
namespace Go.Proofs.YtkaipknkjocfiaaGreat
structure Rs where
 at_ : Nat
 err : Option (Nat × Nat)
def StepP {α : Type} (c : Cod α) (b : By) (st : Rs) (a : α) (st' : Rs) : Prop := match st.err with
 | some x => st'.err = some x
 | none => match c.get b st.at_ with
  | .ok (a', q) => a = a' ∧ st' = ⟨q, none⟩
  | .error x => st'.err = some x
section
variable {α β : Type} {b : By} {st s1 s2 : Rs}
theorem StepP.on {c : Cod α} {a : α} (h : StepP c b st a s1) (hn : s1.err = none) : st.err = none ∧ c.get b st.at_ = .ok (a, s1.at_) := by
 unfold StepP at h
 cases he : st.err with
 | some x => rw [he] at h; simp only at h; rw [hn] at h; cases h
 | none =>
  rw [he] at h
  simp only at h
  refine ⟨rfl, ?_⟩
  cases hg : c.get b st.at_ with
  | ok aq =>
   obtain ⟨a', q⟩ := aq
   rw [hg] at h
   obtain ⟨rfl, rfl⟩ := h
   rfl
  | error x => rw [hg] at h; simp only at h; rw [hn] at h; cases h
theorem StepP.of_some {c : Cod α} {a : α} {x : Nat × Nat} (h : st.err = some x) (h1 : s1.err = some x) : StepP c b st a s1 := by
 unfold StepP; rw [h]; exact h1
theorem StepP.stays {c : Cod α} {a : α} {x : Nat × Nat} (h : StepP c b st a s1) (hx : st.err = some x) : s1.err = some x := by
 unfold StepP at h; rw [hx] at h; exact h
theorem StepP.of_ok {c : Cod α} {a : α} {q : Nat} (h : st.err = none) (hg : c.get b st.at_ = .ok (a, q)) (h1 : s1 = ⟨q, none⟩) : StepP c b st a s1 := by
 unfold StepP; rw [h]; simp only; rw [hg]; exact ⟨rfl, h1⟩
theorem StepP.of_err {c : Cod α} {a : α} {x : Nat × Nat} (h : st.err = none) (hg : c.get b st.at_ = .error x) (h1 : s1.err = some x) : StepP c b st a s1 := by
 unfold StepP; rw [h]; simp only; rw [hg]; exact h1
theorem StepP.fails {c : Cod α} {a : α} {x : Nat × Nat} (h : StepP c b st a s1) (hn : st.err = none) (hx : s1.err = some x) : c.get b st.at_ = .error x := by
 unfold StepP at h
 rw [hn] at h
 simp only at h
 cases hg : c.get b st.at_ with
 | ok aq =>
  obtain ⟨a', q⟩ := aq
  rw [hg] at h
  obtain ⟨_, rfl⟩ := h
  cases hx
 | error y => rw [hg] at h; simp only at h; rw [hx] at h; cases h; rfl
theorem StepP.map {c : Cod α} {f : α → β} {g : β → α} {a : α} (h : StepP c b st a s1) : StepP (c.map f g) b st (f a) s1 := by
 cases he : st.err with
 | some x => exact .of_some he (h.stays he)
 | none =>
  cases e1 : s1.err with
  | some x =>
   refine .of_err he ?_ e1
   show (match c.get b st.at_ with | .ok (a, q) => _ | .error e => _) = _
   rw [h.fails he e1]
  | none =>
   obtain ⟨_, g1⟩ := h.on e1
   refine .of_ok (q := s1.at_) he ?_ (by cases s1; simp only at e1; subst e1; rfl)
   show (match c.get b st.at_ with | .ok (a, q) => _ | .error e => _) = _
   rw [g1]
theorem StepP.any {c : Cod α} {a a' : α} (h : StepP c b st a s1) (ha : s1.err = none → a = a') : StepP c b st a' s1 := by
 cases he : st.err with
 | some x => exact .of_some he (h.stays he)
 | none =>
  cases e1 : s1.err with
  | some x => exact .of_err he (h.fails he e1) e1
  | none => rw [← ha e1]; exact h
end
section
variable {α : Type} {c : Cod α} {b : By}
end
end Go.Proofs.YtkaipknkjocfiaaGreat
